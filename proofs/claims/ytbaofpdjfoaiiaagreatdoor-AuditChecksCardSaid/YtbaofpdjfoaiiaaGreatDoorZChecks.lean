/-
  The law AuditChecks. Written by audit/gen_laws.py.
-/
import Derived.Test.YtbaofpdjfoaiiaaGreatDoorZCheck
import Derived.Test.YtbaofpdjfoaiiaaGreatDoorZDocCheck
import Derived.Test.YtbaofpdjfoaiiaaGreatDoorZOr
namespace Go.Proofs.YtbaofpdjfoaiiaaGreatDoor
open Go.ChangeShapes Go.WideShapes Go.ChangeAt Go.RowKit Go.Shelf
set_option linter.unusedVariables false
set_option linter.unusedSimpArgs false

theorem few_c (t q s : Int) (w : World) :
    Calls Tryz.prog 6 #[.agg #[.int .i64 t, .int .i64 q, .int .i64 s]] w fun e w' => e = .returned (.bool (decide (q ≤ 64))) ∧ Below w.heap.size w w' := by
  go_enter Tryz.func6, Tryz.ntmps6
  go_wp2
  go_ret
  exact ⟨rfl, Bnew (B0 _) _⟩

set_option maxHeartbeats 1600000 in
theorem AuditChecks_few (t q s : Int) (A : Option Addr) (n c : Nat) (hq : 64 < q) (W : World) (hT : SlotsLaid W) :
    Calls Tryz.prog 3 #[.agg #[.int .i64 t, .int .i64 q, .int .i64 s], .slice A n c] W (Keeps W) := by
  have HX := hidp (Held.new W 23 #[.int .i64 t, .int .i64 q, .int .i64 s])
  obtain ⟨c0, c1, c2⟩ := HX.out.three
  have HB := hidp (Bnew (B0 W) (.cells #[.int .i64 t, .int .i64 q, .int .i64 s] 23))
  have HTL := hidp hT
  have t0 : decide (q ≤ 64) = false := decide_eq_false (by omega)
  clear hT
  go_enter Tryz.func3, Tryz.ntmps3
  go_wp2_with (first
    | (go_at_call 6; refine (few_c _ _ _ _).mono ?_; rintro e w1 ⟨rfl, hb1⟩; have HB1 := hidp (Bgo HB.out hb1); have HX1 := hidp (HX.out.keep hb1); clear hb1 c0 c1 c2; obtain ⟨c0, c1, c2⟩ := HX1.out.three)
    | (go_at_call 7; refine (live_c _ (HTL.out.below HB1.out)).mono ?_; rintro e w2 ⟨rfl, hb2⟩; have HB2 := hidp (Bgo HB1.out hb2); clear hb2)
    | fail)
  go_ret
  exact ⟨rfl, HB2.out⟩

set_option maxHeartbeats 1600000 in
theorem AuditChecks_all (t q s : Int) (A : Option Addr) (n c m : Nat) (b : Bool) (hq : q ≤ 64) (W : World) (hT : SlotsLaid W) (hC : CheckIs W t q s A n c m b) (hX : XCheckIs W t q s A n c m b) :
    Calls Tryz.prog 3 #[.agg #[.int .i64 t, .int .i64 q, .int .i64 s], .slice A n c] W (Keeps W) := by
  have HX := hidp (Held.new W 23 #[.int .i64 t, .int .i64 q, .int .i64 s])
  obtain ⟨c0, c1, c2⟩ := HX.out.three
  have HB := hidp (Bnew (B0 W) (.cells #[.int .i64 t, .int .i64 q, .int .i64 s] 23))
  have HTL := hidp hT
  have HCK := hidp hC
  have HXK := hidp hX
  have t0 : decide (q ≤ 64) = true := decide_eq_true hq
  have q0 : (b == b) = true := by simp
  clear hT hC hX
  go_enter Tryz.func3, Tryz.ntmps3
  go_wp2_with (first
    | (go_at_call 6; refine (few_c _ _ _ _).mono ?_; rintro e w1 ⟨rfl, hb1⟩; have HB1 := hidp (Bgo HB.out hb1); have HX1 := hidp (HX.out.keep hb1); clear hb1 c0 c1 c2; obtain ⟨c0, c1, c2⟩ := HX1.out.three)
    | (go_at_call 8; refine (HCK.out _ HB1.out).mono ?_; rintro e w2 ⟨rfl, hb2⟩; have HB2 := hidp (Bgo HB1.out hb2); have HX2 := hidp (HX1.out.keep hb2); clear hb2 c0 c1 c2; obtain ⟨c0, c1, c2⟩ := HX2.out.three)
    | (go_at_call 9; refine (HXK.out _ HB2.out).mono ?_; rintro e w3 ⟨rfl, hb3⟩; have HB3 := hidp (Bgo HB2.out hb3); clear hb3)
    | (go_at_call 7; refine (live_c _ (HTL.out.below HB3.out)).mono ?_; rintro e w4 ⟨rfl, hb4⟩; have HB4 := hidp (Bgo HB3.out hb4); clear hb4)
    | fail)
  go_ret
  exact ⟨rfl, HB4.out⟩
end Go.Proofs.YtbaofpdjfoaiiaaGreatDoor

/-
  The law AuditChecks, from its arguments. Written by audit/gen_laws.py.
-/
namespace Go.Proofs.YtbaofpdjfoaiiaaGreatDoor
open Go.ChangeShapes Go.WideShapes Go.ChangeAt Go.RowKit Go.Shelf
set_option linter.unusedVariables false
set_option linter.unusedSimpArgs false

set_option maxRecDepth 100000 in
theorem AuditChecks_walk {H : Type} {enc : TypeId × Value → H} {W : World} {base : Nat} {args : Array Value} {ds : List (DataW H)} {ps : List MemPlace} (hL : laidMetH Tryz.prog Rows.auditChecksRow.laid W)
    (g : Given enc Tryz.prog Tryz.f3 W base args ds ps) : Calls Tryz.prog 3 args W (Keeps W) := by
  have hval := g.ok
  have hA := g.trod
  have hlt := g.lt
  rw [Tryz.params3] at hA hval
  obtain ⟨v0, vs0, d0, ds0, p0, q0, hargs, rfl, rfl, h0, r0⟩ := trodAll_cons hA
  obtain ⟨v1, vs1, d1, ds1, p1, q1, rfl, rfl, rfl, h1, r1⟩ := trodAll_cons r0
  obtain ⟨rfl, rfl, rfl⟩ := trodAll_nil r1
  obtain rfl : args = #[v0, v1] := by cases args; simp_all
  obtain ⟨t, q, s, rfl⟩ := open_conf (hval 0 23 v0 rfl rfl) h0
  have hlt1 : ∀ x ∈ p1, x.block < W.heap.size := fun x hx => hlt x (by simp [hx])
  obtain ⟨A, c, vals, rfl, hnc, hcm, h32, hR⟩ := open_u32s Tryz.underlying24 Tryz.underlying42 (by kernel_rfl) (hval 1 24 v1 rfl rfl) h1 hlt1
  have hT := slots12_laid hL (by kernel_rfl)
  rcases Int.lt_or_le 64 q with hq | hq
  · exact AuditChecks_few t q s A vals.length c hq W hT
  · rcases heap_or2 W t q s A c vals hnc hcm h32 hR hT with ⟨m, hC, hX⟩ | ⟨H, ad, m, b, ht, hp, hs, rfl, HV, hv, hto, hC, hX⟩
    · exact AuditChecks_all t q s A vals.length c m false hq W hT hC hX
    · subst ht hp hs
      exact AuditChecks_all _ _ _ _ _ _ m b hq W hT hC hX
end Go.Proofs.YtbaofpdjfoaiiaaGreatDoor

/-
  Proved: AuditChecks answers true at every input, never panics, and changes nothing that was there. The listed variable (class.slots) is tied to the text by the given tie. Conditions: none beyond those of the given statement.
-/
namespace Go.Proofs.YtbaofpdjfoaiiaaGreatDoor
open Go.ChangeShapes Go.WideShapes Go.ChangeAt Go.RowKit

theorem AuditChecks_met (os : Os) (args : Array Value) : laidMetH Tryz.prog Rows.auditChecksRow.laid ((World.laidAll Tryz.prog os Rows.auditChecksRow.laid).forCall (fun _ _ => 0) ⟨#[], args, []⟩).memory := by
  rw [MakeChecks.laidMetH_plain _ _ _ (by kernel_rfl)]
  exact laidMet_laidAll _ (by kernel_rfl) (by kernel_rfl)

set_option maxRecDepth 100000 in
theorem AuditChecks_lifted (os : Os) (started : os.Started) (H : Type) (enc : TypeId × Value → H) :
    ReturnsInHanded {} Tryz.checked os 3 .any (fun w args => (Rows.auditChecksSpec.pre enc Tryz.prog Tryz.f3 [] false w args ∧ laidMetH Tryz.prog Rows.auditChecksRow.laid w) ∧ sizedMet enc Tryz.prog Tryz.f3 (OpenSpec.ofChange Rows.auditChecksSpec) false w args)
      (Rows.auditChecksSpec.post enc Tryz.prog Tryz.f3 false true false false) :=
  law_lifted_laid (C := Tryz.checked) (tb := 4) (laid := Rows.auditChecksRow.laid) (by kernel_rfl) started (by kernel_rfl) Tryz.func3
    (ChangeSpec.witness_shaped (enc := enc) (C := Tryz.checked) (os := os) (X := fun w _ => laidMetH Tryz.prog Rows.auditChecksRow.laid w) false (World.laidAll Tryz.prog os Rows.auditChecksRow.laid) #[.agg #[.int .i64 0, .int .i64 0, .int .i64 0], .slice none 0 0] 8
      (World.laidAll_os _ _ _) (World.shaped_of_ZipB (by kernel_rfl) (by kernel_rfl)) (by kernel_rfl) (by kernel_rfl) (by kernel_rfl) (AuditChecks_met os _))
    (by kernel_rfl) (by kernel_rfl) rfl (by kernel_rfl) Tryz.underlying4
    (fun ds h => by
      have h' : ds.length = 2 := h
      match ds, h' with
      | [_, _], _ => rfl)
    (fun W base args ds ps hL g => AuditChecks_walk hL g)

theorem AuditChecks_holds : Rows.AuditChecksSaid :=
  OpenClaim.holds_of_wide 3 Tryz.f3 rfl rfl rfl rfl rfl rfl rfl ⟨rfl, rfl, rfl, rfl, rfl⟩ rfl rfl rfl rfl rfl (by kernel_rfl) Tryz.func3 (by kernel_rfl)
    (of_decide_eq_true (by kernel_rfl)) (by unfold Func.isWrapper; first | (rw [if_pos (by decide +kernel)]; kernel_rfl) | (rw [if_neg (by decide +kernel)]; exact ⟨rfl, rfl⟩))
    (fun os started H enc _ => AuditChecks_lifted os started H enc)

theorem AuditChecksCard_holds : Rows.AuditChecksCardSaid :=
  card_of 3 Tryz.f3 AuditChecks_holds (by kernel_rfl) auditChecks_row_tie rfl ⟨rfl, rfl⟩ (by kernel_rfl) rfl (by kernel_rfl) Tryz.func3 (by kernel_rfl) (by kernel_rfl) (by kernel_rfl)
end Go.Proofs.YtbaofpdjfoaiiaaGreatDoor
