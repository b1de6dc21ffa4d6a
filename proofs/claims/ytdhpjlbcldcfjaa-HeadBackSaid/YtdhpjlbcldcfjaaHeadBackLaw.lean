/-
  Proved: HeadBack answers true at every input, never panics, and changes nothing that was there. Conditions: none beyond those of the given statement.
-/
import Derived.Test.YtdhpjlbcldcfjaaHeadBack
import Derived.Test.YtdhpjlbcldcfjaaOpenConf
namespace Go.Proofs.Ytdhpjlbcldcfjaa
open Go.ChangeShapes Go.WideShapes Go.ChangeAt Go.RowKit

set_option linter.unusedVariables false in
theorem HeadBack_walk {H : Type} {enc : TypeId × Value → H} {W : World} {base : Nat} {args : Array Value} {ds : List (DataW H)} {ps : List MemPlace}
    (g : Given enc Try.prog Try.f5 W base args ds ps) : Calls Try.prog 5 args W (Keeps W) := by
  have hval := g.ok
  have hA := g.trod
  have hreach := g.reach
  rw [Try.params5] at hA hval hreach
  obtain ⟨v0, vs0, d0, ds0, p0, q0, hargs, rfl, rfl, h0, r0⟩ := trodAll_cons hA
  obtain ⟨v1, vs1, d1, ds1, p1, q1, rfl, rfl, rfl, h1, r1⟩ := trodAll_cons r0
  obtain ⟨rfl, rfl, rfl⟩ := trodAll_nil r1
  obtain rfl : args = #[v0, v1] := by cases args; simp_all
  obtain ⟨t, p, s, rfl⟩ := open_conf (hval 0 23 v0 rfl rfl) h0
  obtain ⟨A, c, ws, rfl, hc1, hm1, h64_1, hR1⟩ := open_words Try.underlying25 Try.underlying39 (by kernel_rfl) (hval 1 25 v1 rfl rfl) h1 (fun x hx => g.lt x (List.mem_append_right _ (List.mem_append_left _ hx)))
  exact HeadBack_calls t p s A c _ ws (hidp rfl) hc1 hm1 (ints_reach (k := .u64) (j := 1) Try.underlying25 Try.underlying39 (by kernel_rfl) (by kernel_rfl) h1 hreach rfl rfl) (hidp h64_1) W (hidp hR1)

set_option maxRecDepth 100000 in
theorem HeadBack_lifted (os : Os) (started : os.Started) (H : Type) (enc : TypeId × Value → H) :
    ReturnsInHanded {} Try.checked os 5 .any (Rows.headBackSpec.pre6 enc Try.prog Try.f5 Rows.headBackRow.domain false) (Rows.headBackSpec.post enc Try.prog Try.f5 false true false false) :=
  law_lifted (C := Try.checked) (tb := 4) (by kernel_rfl) started (by kernel_rfl) Try.func5
    (ChangeSpec.witness6 (enc := enc) (C := Try.checked) false ⟨#[], #[.agg #[.int .i64 0, .int .i64 0, .int .i64 0], .slice none 0 0], []⟩ 8 (by kernel_rfl) (by kernel_rfl) (by kernel_rfl) (by kernel_rfl))
    (by kernel_rfl) (by kernel_rfl) rfl (by kernel_rfl) Try.underlying4
    (fun ds h => by
      have h' : ds.length = 2 := h
      match ds, h' with
      | [_, _], _ => rfl)
    (fun W base args ds ps g => HeadBack_walk g)

theorem HeadBack_holds : Rows.HeadBackSaid :=
  OpenClaim.holds_of_wide 5 Try.f5 rfl rfl rfl rfl rfl rfl rfl ⟨rfl, rfl, rfl, rfl, rfl⟩ rfl rfl rfl rfl rfl (by kernel_rfl) Try.func5 (by kernel_rfl)
    (of_decide_eq_true (by kernel_rfl)) (by unfold Func.isWrapper; first | (rw [if_pos (by decide +kernel)]; kernel_rfl) | (rw [if_neg (by decide +kernel)]; exact ⟨rfl, rfl⟩))
    (fun os started H enc _ => HeadBack_lifted os started H enc)
end Go.Proofs.Ytdhpjlbcldcfjaa
