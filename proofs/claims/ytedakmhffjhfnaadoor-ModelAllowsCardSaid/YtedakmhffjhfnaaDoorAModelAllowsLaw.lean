/-
  Proved: ModelAllows answers true at every input, never panics, and changes nothing that was there. The listed variable (class.slots) is tied to the text by the given tie. Conditions: none beyond those of the given statement.
-/
import Derived.Test.YtedakmhffjhfnaaDoorA13
namespace Go.Proofs.YtedakmhffjhfnaaDoor
open Go.ChangeShapes Go.WideShapes Go.ChangeAt Go.RowKit
section
set_option maxRecDepth 100000 in
set_option linter.unusedVariables false in
theorem ModelAllows_walk {H : Type} {enc : TypeId × Value -> H} {W : World} {base : Nat} {args : Array Value} {ds : List (DataW H)} {ps : List MemPlace} (hL : laidMetH Tryd.prog Rows.modelAllowsRow.laid W)
  (g : Given enc Tryd.prog Tryd.f3 W base args ds ps) : Calls Tryd.prog 3 args W (Keeps W) := by
 have hval := g.ok
 have hA := g.trod
 rw [Tryd.params3] at hA hval
 obtain ⟨v0, vs0, d0, ds0, p0, q0, hargs, rfl, rfl, h0, r0⟩ := trodAll_cons hA
 obtain ⟨v1, vs1, d1, ds1, p1, q1, rfl, rfl, rfl, h1, r1⟩ := trodAll_cons r0
 obtain ⟨v2, vs2, d2, ds2, p2, q2, rfl, rfl, rfl, h2, r2⟩ := trodAll_cons r1
 obtain ⟨rfl, rfl, rfl⟩ := trodAll_nil r2
 obtain rfl : args = #[v0, v1, v2] := by cases args; simp_all
 obtain ⟨t, p, s, rfl⟩ := open_conf (hval 0 23 v0 rfl rfl) h0
 obtain ⟨A, n, c, l, R, rfl, hl, hc, hm, hin, hwf⟩ := open_state (hval 1 27 v1 rfl rfl) h1 (fun x hx => g.lt x (List.mem_append_right _ (List.mem_append_left _ hx)))
 obtain ⟨x, hx, rfl⟩ := open_said (hval 2 34 v2 rfl rfl) h2
 have hT := slots26_laid hL (by kernel_rfl)
 exact ModelAllows_calls t p s x.k x.a x.b x.err x.out x.aux R A n c l hl ⟨hc, hm⟩ hx.k hx.a hx.b W hin hwf hT

theorem ModelAllows_met (os : Os) (args : Array Value) : laidMetH Tryd.prog Rows.modelAllowsRow.laid ((World.laidAll Tryd.prog os Rows.modelAllowsRow.laid).forCall (fun _ _ => 0) ⟨#[], args, []⟩).memory := by
 rw [MakeChecks.laidMetH_plain _ _ _ (by kernel_rfl)]
 exact laidMet_laidAll _ (by kernel_rfl) (by kernel_rfl)

set_option maxRecDepth 100000 in
theorem ModelAllows_lifted (os : Os) (started : os.Started) (H : Type) (enc : TypeId × Value -> H) :
  ReturnsInHanded {} Tryd.checked os 3 .any (fun w args => (Rows.modelAllowsSpec.pre enc Tryd.prog Tryd.f3 [] false w args /\ laidMetH Tryd.prog Rows.modelAllowsRow.laid w) /\ sizedMet enc Tryd.prog Tryd.f3 (OpenSpec.ofChange Rows.modelAllowsSpec) false w args)
   (Rows.modelAllowsSpec.post enc Tryd.prog Tryd.f3 false true false false) :=
 law_lifted_laid (C := Tryd.checked) (tb := 4) (laid := Rows.modelAllowsRow.laid) (by kernel_rfl) started (by kernel_rfl) Tryd.func3
  (ChangeSpec.witness_shaped (enc := enc) (C := Tryd.checked) (os := os) (X := fun w _ => laidMetH Tryd.prog Rows.modelAllowsRow.laid w) false (World.laidAll Tryd.prog os Rows.modelAllowsRow.laid) #[.agg #[.int .i64 0, .int .i64 0, .int .i64 0], .agg #[.slice none 0 0, .int .i64 0, .int .i64 0, .int .i64 0, .int .i64 0, .int .i64 0, .int .i64 0, .int .i64 0, .int .i64 0], .agg #[.int .i64 0, .int .i64 0, .int .i64 0, .int .i64 0, .int .i64 0, .int .i64 0]] 8
   (World.laidAll_os _ _ _) (World.shaped_of_ZipB (by kernel_rfl) (by kernel_rfl)) (by kernel_rfl) (by kernel_rfl) (by kernel_rfl) (ModelAllows_met os _))
  (by kernel_rfl) (by kernel_rfl) rfl (by kernel_rfl) Tryd.underlying4
  (fun ds h => by
   have h' : ds.length = 3 := h
   match ds, h' with
   | [_, _, _], _ => rfl)
  (fun W base args ds ps hL g => ModelAllows_walk hL g)

theorem ModelAllows_holds : Rows.ModelAllowsSaid :=
 OpenClaim.holds_of_wide 3 Tryd.f3 rfl rfl rfl rfl rfl rfl rfl ⟨rfl, rfl, rfl, rfl, rfl⟩ rfl rfl rfl rfl rfl (by kernel_rfl) Tryd.func3 (by kernel_rfl)
  (of_decide_eq_true (by kernel_rfl)) (by unfold Func.isWrapper; first | (rw [if_pos (by decide +kernel)]; kernel_rfl) | (rw [if_neg (by decide +kernel)]; exact ⟨rfl, rfl⟩))
  (fun os started H enc _ => ModelAllows_lifted os started H enc)

theorem ModelAllowsCard_holds : Rows.ModelAllowsCardSaid :=
 card_of 3 Tryd.f3 ModelAllows_holds (by kernel_rfl) modelAllows_row_tie rfl ⟨rfl, rfl⟩ (by kernel_rfl) rfl (by kernel_rfl) Tryd.func3 (by kernel_rfl) (by kernel_rfl) (by kernel_rfl)
end
end Go.Proofs.YtedakmhffjhfnaaDoor
