/-
  Proved: SweepPages answers true at every input, never panics, and changes nothing that was there. The listed variable (class.slots) is tied to the text by the given tie. Conditions: none beyond those of the given statement.
-/
import Derived.Test.YtnmhdlpnimdffaaGreatDoorA16
namespace Go.Proofs.YtnmhdlpnimdffaaGreatDoor
open Go.ChangeShapes Go.WideShapes Go.ChangeAt Go.RowKit
section
set_option maxRecDepth 100000 in
set_option linter.unusedVariables false in
theorem SweepPages_walk {H : Type} {enc : TypeId × Value -> H} {W : World} {base : Nat} {args : Array Value} {ds : List (DataW H)} {ps : List MemPlace} (hL : laidMetH Tryz.prog Rows.sweepPagesRow.laid W)
  (g : Given enc Tryz.prog Tryz.f3 W base args ds ps) : Calls Tryz.prog 3 args W (Keeps W) := by
 have hval := g.ok
 have hA := g.trod
 rw [Tryz.params3] at hA hval
 obtain ⟨v0, vs0, d0, ds0, p0, q0, hargs, rfl, rfl, h0, r0⟩ := trodAll_cons hA
 obtain ⟨v1, vs1, d1, ds1, p1, q1, rfl, rfl, rfl, h1, r1⟩ := trodAll_cons r0
 obtain ⟨v2, vs2, d2, ds2, p2, q2, rfl, rfl, rfl, h2, r2⟩ := trodAll_cons r1
 obtain ⟨rfl, rfl, rfl⟩ := trodAll_nil r2
 obtain rfl : args = #[v0, v1, v2] := by cases args; simp_all
 obtain ⟨t, p, s, rfl⟩ := open_conf (hval 0 23 v0 rfl rfl) h0
 obtain ⟨A, c, vals, rfl, hc0, hm0, h32_0, hR0⟩ := open_vals Tryz.underlying24 Tryz.underlying53 (by kernel_rfl) (hval 1 24 v1 rfl rfl) h1 (fun x hx => g.lt x (List.mem_append_right _ (List.mem_append_left _ hx)))
 obtain ⟨nn, rfl, rfl, rfl, w2⟩ := open_int Tryz.underlying3 (hval 2 3 v2 rfl rfl) h2
 have b2 := i64_bounds w2
 have hT := slots16_laid hL (by kernel_rfl)
 exact SweepPages_calls t p s nn b2 A c vals hc0 hm0 h32_0 W hT (hidp hR0)

theorem SweepPages_met (os : Os) (args : Array Value) : laidMetH Tryz.prog Rows.sweepPagesRow.laid ((World.laidAll Tryz.prog os Rows.sweepPagesRow.laid).forCall (fun _ _ => 0) ⟨#[], args, []⟩).memory := by
 rw [MakeChecks.laidMetH_plain _ _ _ (by kernel_rfl)]
 exact laidMet_laidAll _ (by kernel_rfl) (by kernel_rfl)

set_option maxRecDepth 100000 in
theorem SweepPages_lifted (os : Os) (started : os.Started) (H : Type) (enc : TypeId × Value -> H) :
  ReturnsInHanded {} Tryz.checked os 3 .any (fun w args => (Rows.sweepPagesSpec.pre enc Tryz.prog Tryz.f3 [] false w args /\ laidMetH Tryz.prog Rows.sweepPagesRow.laid w) /\ sizedMet enc Tryz.prog Tryz.f3 (OpenSpec.ofChange Rows.sweepPagesSpec) false w args)
   (Rows.sweepPagesSpec.post enc Tryz.prog Tryz.f3 false true false false) :=
 law_lifted_laid (C := Tryz.checked) (tb := 4) (laid := Rows.sweepPagesRow.laid) (by kernel_rfl) started (by kernel_rfl) Tryz.func3
  (ChangeSpec.witness_shaped (enc := enc) (C := Tryz.checked) (os := os) (X := fun w _ => laidMetH Tryz.prog Rows.sweepPagesRow.laid w) false (World.laidAll Tryz.prog os Rows.sweepPagesRow.laid) #[.agg #[.int .i64 0, .int .i64 0, .int .i64 0], .slice none 0 0, .int .i64 0] 8
   (World.laidAll_os _ _ _) (World.shaped_of_ZipB (by kernel_rfl) (by kernel_rfl)) (by kernel_rfl) (by kernel_rfl) (by kernel_rfl) (SweepPages_met os _))
  (by kernel_rfl) (by kernel_rfl) rfl (by kernel_rfl) Tryz.underlying4
  (fun ds h => by
   have h' : ds.length = 3 := h
   match ds, h' with
   | [_, _, _], _ => rfl)
  (fun W base args ds ps hL g => SweepPages_walk hL g)

theorem SweepPages_holds : Rows.SweepPagesSaid :=
 OpenClaim.holds_of_wide 3 Tryz.f3 rfl rfl rfl rfl rfl rfl rfl ⟨rfl, rfl, rfl, rfl, rfl⟩ rfl rfl rfl rfl rfl (by kernel_rfl) Tryz.func3 (by kernel_rfl)
  (of_decide_eq_true (by kernel_rfl)) (by unfold Func.isWrapper; first | (rw [if_pos (by decide +kernel)]; kernel_rfl) | (rw [if_neg (by decide +kernel)]; exact ⟨rfl, rfl⟩))
  (fun os started H enc _ => SweepPages_lifted os started H enc)

theorem SweepPagesCard_holds : Rows.SweepPagesCardSaid :=
 card_of 3 Tryz.f3 SweepPages_holds (by kernel_rfl) sweepPages_row_tie rfl ⟨rfl, rfl⟩ (by kernel_rfl) rfl (by kernel_rfl) Tryz.func3 (by kernel_rfl) (by kernel_rfl) (by kernel_rfl)
end
end Go.Proofs.YtnmhdlpnimdffaaGreatDoor
