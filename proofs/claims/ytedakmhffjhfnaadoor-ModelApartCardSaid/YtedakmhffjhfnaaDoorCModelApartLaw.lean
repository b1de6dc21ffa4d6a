/-
  Proved: ModelApart answers true at every input, never panics, and changes nothing that was there. The listed variable (class.slots) is tied to the text by the given tie. Conditions: none beyond those of the given statement.
-/
import Derived.Test.YtedakmhffjhfnaaDoorC09
namespace Go.Proofs.YtedakmhffjhfnaaDoor
open Go.ChangeShapes Go.WideShapes Go.ChangeAt Go.RowKit
section
set_option maxRecDepth 100000 in
set_option linter.unusedVariables false in
theorem ModelApart_walk {H : Type} {enc : TypeId × Value -> H} {W : World} {base : Nat} {args : Array Value} {ds : List (DataW H)} {ps : List MemPlace} (hL : laidMetH Tryd.prog Rows.modelApartRow.laid W)
  (g : Given enc Tryd.prog Tryd.f5 W base args ds ps) : Calls Tryd.prog 5 args W (Keeps W) := by
 have hval := g.ok
 have hA := g.trod
 rw [Tryd.params5] at hA hval
 obtain ⟨v0, vs0, d0, ds0, p0, q0, hargs, rfl, rfl, h0, r0⟩ := trodAll_cons hA
 obtain ⟨v1, vs1, d1, ds1, p1, q1, rfl, rfl, rfl, h1, r1⟩ := trodAll_cons r0
 obtain ⟨rfl, rfl, rfl⟩ := trodAll_nil r1
 obtain rfl : args = #[v0, v1] := by cases args; simp_all
 obtain ⟨t, p, s, rfl⟩ := open_conf (hval 0 23 v0 rfl rfl) h0
 obtain ⟨A, c, l, rfl, hc, hm, hok, hin⟩ := open_saids (hval 1 49 v1 rfl rfl) h1 (fun x hx => g.lt x (List.mem_append_right _ (List.mem_append_left _ hx)))
 have hT := slots26_laid hL (by kernel_rfl)
 exact ModelApart_calls t p s A l.length c l rfl ⟨hc, hm⟩ hok W hin hT

theorem ModelApart_met (os : Os) (args : Array Value) : laidMetH Tryd.prog Rows.modelApartRow.laid ((World.laidAll Tryd.prog os Rows.modelApartRow.laid).forCall (fun _ _ => 0) ⟨#[], args, []⟩).memory := by
 rw [MakeChecks.laidMetH_plain _ _ _ (by kernel_rfl)]
 exact laidMet_laidAll _ (by kernel_rfl) (by kernel_rfl)

set_option maxRecDepth 100000 in
theorem ModelApart_lifted (os : Os) (started : os.Started) (H : Type) (enc : TypeId × Value -> H) :
  ReturnsInHanded {} Tryd.checked os 5 .any (fun w args => (Rows.modelApartSpec.pre enc Tryd.prog Tryd.f5 [] false w args /\ laidMetH Tryd.prog Rows.modelApartRow.laid w) /\ sizedMet enc Tryd.prog Tryd.f5 (OpenSpec.ofChange Rows.modelApartSpec) false w args)
   (Rows.modelApartSpec.post enc Tryd.prog Tryd.f5 false true false false) :=
 law_lifted_laid (C := Tryd.checked) (tb := 4) (laid := Rows.modelApartRow.laid) (by kernel_rfl) started (by kernel_rfl) Tryd.func5
  (ChangeSpec.witness_shaped (enc := enc) (C := Tryd.checked) (os := os) (X := fun w _ => laidMetH Tryd.prog Rows.modelApartRow.laid w) false (World.laidAll Tryd.prog os Rows.modelApartRow.laid) #[.agg #[.int .i64 0, .int .i64 0, .int .i64 0], .slice none 0 0] 8
   (World.laidAll_os _ _ _) (World.shaped_of_ZipB (by kernel_rfl) (by kernel_rfl)) (by kernel_rfl) (by kernel_rfl) (by kernel_rfl) (ModelApart_met os _))
  (by kernel_rfl) (by kernel_rfl) rfl (by kernel_rfl) Tryd.underlying4
  (fun ds h => by
   have h' : ds.length = 2 := h
   match ds, h' with
   | [_, _], _ => rfl)
  (fun W base args ds ps hL g => ModelApart_walk hL g)

theorem ModelApart_holds : Rows.ModelApartSaid :=
 OpenClaim.holds_of_wide 5 Tryd.f5 rfl rfl rfl rfl rfl rfl rfl ⟨rfl, rfl, rfl, rfl, rfl⟩ rfl rfl rfl rfl rfl (by kernel_rfl) Tryd.func5 (by kernel_rfl)
  (of_decide_eq_true (by kernel_rfl)) (by unfold Func.isWrapper; first | (rw [if_pos (by decide +kernel)]; kernel_rfl) | (rw [if_neg (by decide +kernel)]; exact ⟨rfl, rfl⟩))
  (fun os started H enc _ => ModelApart_lifted os started H enc)

theorem ModelApartCard_holds : Rows.ModelApartCardSaid :=
 card_of 5 Tryd.f5 ModelApart_holds (by kernel_rfl) modelApart_row_tie rfl ⟨rfl, rfl⟩ (by kernel_rfl) rfl (by kernel_rfl) Tryd.func5 (by kernel_rfl) (by kernel_rfl) (by kernel_rfl)
end
end Go.Proofs.YtedakmhffjhfnaaDoor
