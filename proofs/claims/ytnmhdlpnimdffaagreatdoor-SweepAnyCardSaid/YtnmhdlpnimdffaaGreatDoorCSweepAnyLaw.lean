/-
  Proved: SweepAny answers true at every input, never panics, and changes nothing that was there. The listed variable (class.slots) is tied to the text by the given tie. Conditions: none beyond those of the given statement.
-/
import Derived.Test.YtnmhdlpnimdffaaGreatDoorCSweepAny
import Derived.Test.YtnmhdlpnimdffaaGreatDoorC16
namespace Go.Proofs.YtnmhdlpnimdffaaGreatDoor
open Go.ChangeShapes Go.WideShapes Go.ChangeAt Go.RowKit
section
set_option maxRecDepth 100000 in
set_option linter.unusedVariables false in
theorem SweepAny_walk {H : Type} {enc : TypeId × Value -> H} {W : World} {base : Nat} {args : Array Value} {ds : List (DataW H)} {ps : List MemPlace} (hL : laidMetH Tryz.prog Rows.sweepAnyRow.laid W)
  (g : Given enc Tryz.prog Tryz.f5 W base args ds ps) : Calls Tryz.prog 5 args W (Keeps W) := by
 have hval := g.ok
 have hA := g.trod
 rw [Tryz.params5] at hA hval
 obtain ⟨v0, vs0, d0, ds0, p0, q0, hargs, rfl, rfl, h0, r0⟩ := trodAll_cons hA
 obtain ⟨v1, vs1, d1, ds1, p1, q1, rfl, rfl, rfl, h1, r1⟩ := trodAll_cons r0
 obtain ⟨v2, vs2, d2, ds2, p2, q2, rfl, rfl, rfl, h2, r2⟩ := trodAll_cons r1
 obtain ⟨rfl, rfl, rfl⟩ := trodAll_nil r2
 obtain rfl : args = #[v0, v1, v2] := by cases args; simp_all
 obtain ⟨t, p, s, rfl⟩ := open_conf (hval 0 23 v0 rfl rfl) h0
 obtain ⟨A, c, vals, rfl, hc0, hm0, h32_0, hR0⟩ := open_vals Tryz.underlying24 Tryz.underlying53 (by kernel_rfl) (hval 1 24 v1 rfl rfl) h1 (fun x hx => g.lt x (List.mem_append_right _ (List.mem_append_left _ hx)))
 obtain ⟨A2, c2, zs, rfl, hc2, hm2, hwf2, hR2⟩ := open_intsK Tryz.underlying35 Tryz.underlying3 (by kernel_rfl) (hval 2 35 v2 rfl rfl) h2 (fun x hx => g.lt x (List.mem_append_right _ (List.mem_append_right _ (List.mem_append_left _ hx))))
 have hT := slots16_laid hL (by kernel_rfl)
 exact SweepAny_calls t p s A A2 c c2 vals hc0 hm0 h32_0 zs hc2 hm2 (fun z hz => i64_bounds (hwf2 z hz)) W hT (hidp hR0) (hidp hR2)

theorem SweepAny_met (os : Os) (args : Array Value) : laidMetH Tryz.prog Rows.sweepAnyRow.laid ((World.laidAll Tryz.prog os Rows.sweepAnyRow.laid).forCall (fun _ _ => 0) ⟨#[], args, []⟩).memory := by
 rw [MakeChecks.laidMetH_plain _ _ _ (by kernel_rfl)]
 exact laidMet_laidAll _ (by kernel_rfl) (by kernel_rfl)

set_option maxRecDepth 100000 in
theorem SweepAny_lifted (os : Os) (started : os.Started) (H : Type) (enc : TypeId × Value -> H) :
  ReturnsInHanded {} Tryz.checked os 5 .any (fun w args => (Rows.sweepAnySpec.pre enc Tryz.prog Tryz.f5 [] false w args /\ laidMetH Tryz.prog Rows.sweepAnyRow.laid w) /\ sizedMet enc Tryz.prog Tryz.f5 (OpenSpec.ofChange Rows.sweepAnySpec) false w args)
   (Rows.sweepAnySpec.post enc Tryz.prog Tryz.f5 false true false false) :=
 law_lifted_laid (C := Tryz.checked) (tb := 4) (laid := Rows.sweepAnyRow.laid) (by kernel_rfl) started (by kernel_rfl) Tryz.func5
  (ChangeSpec.witness_shaped (enc := enc) (C := Tryz.checked) (os := os) (X := fun w _ => laidMetH Tryz.prog Rows.sweepAnyRow.laid w) false (World.laidAll Tryz.prog os Rows.sweepAnyRow.laid) #[.agg #[.int .i64 0, .int .i64 0, .int .i64 0], .slice none 0 0, .slice none 0 0] 8
   (World.laidAll_os _ _ _) (World.shaped_of_ZipB (by kernel_rfl) (by kernel_rfl)) (by kernel_rfl) (by kernel_rfl) (by kernel_rfl) (SweepAny_met os _))
  (by kernel_rfl) (by kernel_rfl) rfl (by kernel_rfl) Tryz.underlying4
  (fun ds h => by
   have h' : ds.length = 3 := h
   match ds, h' with
   | [_, _, _], _ => rfl)
  (fun W base args ds ps hL g => SweepAny_walk hL g)

theorem SweepAny_holds : Rows.SweepAnySaid :=
 OpenClaim.holds_of_wide 5 Tryz.f5 rfl rfl rfl rfl rfl rfl rfl ⟨rfl, rfl, rfl, rfl, rfl⟩ rfl rfl rfl rfl rfl (by kernel_rfl) Tryz.func5 (by kernel_rfl)
  (of_decide_eq_true (by kernel_rfl)) (by unfold Func.isWrapper; first | (rw [if_pos (by decide +kernel)]; kernel_rfl) | (rw [if_neg (by decide +kernel)]; exact ⟨rfl, rfl⟩))
  (fun os started H enc _ => SweepAny_lifted os started H enc)

theorem SweepAnyCard_holds : Rows.SweepAnyCardSaid :=
 card_of 5 Tryz.f5 SweepAny_holds (by kernel_rfl) sweepAny_row_tie rfl ⟨rfl, rfl⟩ (by kernel_rfl) rfl (by kernel_rfl) Tryz.func5 (by kernel_rfl) (by kernel_rfl) (by kernel_rfl)
end
end Go.Proofs.YtnmhdlpnimdffaaGreatDoor
