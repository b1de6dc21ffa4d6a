/-
  Proved: FreshWords answers true at every input, never panics, and changes nothing that was there. Conditions: none beyond those of the given statement.
-/
import Derived.Test.YtlpcdfcghgapkaaA05
namespace Go.Proofs.Ytlpcdfcghgapkaa
open Go.ChangeShapes Go.WideShapes Go.ChangeAt Go.RowKit
section
set_option maxRecDepth 100000 in
set_option linter.unusedVariables false in
theorem FreshWords_walk {H : Type} {enc : TypeId × Value -> H} {W : World} {base : Nat} {args : Array Value} {ds : List (DataW H)} {ps : List MemPlace}
  (g : Given enc Try.prog Try.f4 W base args ds ps) : Calls Try.prog 4 args W (Keeps W) := by
 have hval := g.ok
 have hA := g.trod
 rw [Try.params4] at hA hval
 obtain ⟨v0, vs0, d0, ds0, p0, q0, hargs, rfl, rfl, h0, r0⟩ := trodAll_cons hA
 obtain ⟨rfl, rfl, rfl⟩ := trodAll_nil r0
 obtain rfl : args = #[v0] := by cases args; simp_all
 obtain ⟨t, p, s, rfl⟩ := open_conf (hval 0 23 v0 rfl rfl) h0
 exact FreshWords_calls t p s W

set_option maxRecDepth 100000 in
theorem FreshWords_lifted (os : Os) (started : os.Started) (H : Type) (enc : TypeId × Value -> H) :
  ReturnsInHanded {} Try.checked os 4 .any (Rows.freshWordsSpec.pre6 enc Try.prog Try.f4 Rows.freshWordsRow.domain false) (Rows.freshWordsSpec.post enc Try.prog Try.f4 false true false false) :=
 law_lifted (C := Try.checked) (tb := 4) (by kernel_rfl) started (by kernel_rfl) Try.func4
  (ChangeSpec.witness6 (enc := enc) (C := Try.checked) false ⟨#[], #[.agg #[.int .i64 0, .int .i64 0, .int .i64 0]], []⟩ 8 (by kernel_rfl) (by kernel_rfl) (by kernel_rfl) (by kernel_rfl))
  (by kernel_rfl) (by kernel_rfl) rfl (by kernel_rfl) Try.underlying4
  (fun ds h => by
   have h' : ds.length = 1 := h
   match ds, h' with
   | [_], _ => rfl)
  (fun W base args ds ps g => FreshWords_walk g)

theorem FreshWords_holds : Rows.FreshWordsSaid :=
 OpenClaim.holds_of_wide 4 Try.f4 rfl rfl rfl rfl rfl rfl rfl ⟨rfl, rfl, rfl, rfl, rfl⟩ rfl rfl rfl rfl rfl (by kernel_rfl) Try.func4 (by kernel_rfl)
  (of_decide_eq_true (by kernel_rfl)) (by unfold Func.isWrapper; first | (rw [if_pos (by decide +kernel)]; kernel_rfl) | (rw [if_neg (by decide +kernel)]; exact ⟨rfl, rfl⟩))
  (fun os started H enc _ => FreshWords_lifted os started H enc)
end
end Go.Proofs.Ytlpcdfcghgapkaa
