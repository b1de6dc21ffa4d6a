/-
  Proved: SpanJoins answers true at every input, never panics, and changes nothing that was there. Conditions: none beyond those of the given statement.
-/
import Derived.Test.YtnamlhkccgnbfaaGreatJ19
namespace Go.Proofs.YtnamlhkccgnbfaaGreat
open Go.ChangeShapes Go.WideShapes Go.ChangeAt Go.RowKit
section
set_option maxRecDepth 100000 in
set_option linter.unusedVariables false in
theorem SpanJoins_walk {H : Type} {enc : TypeId × Value → H} {W : World} {base : Nat} {args : Array Value} {ds : List (DataW H)} {ps : List MemPlace}
    (g : Given enc Tryz.prog Tryz.f6 W base args ds ps) : Calls Tryz.prog 6 args W (Keeps W) := by
  have hval := g.ok
  have hA := g.trod
  rw [Tryz.params6] at hA hval
  obtain ⟨v0, vs0, d0, ds0, p0, q0, hargs, rfl, rfl, h0, r0⟩ := trodAll_cons hA
  obtain ⟨v1, vs1, d1, ds1, p1, q1, rfl, rfl, rfl, h1, r1⟩ := trodAll_cons r0
  obtain ⟨v2, vs2, d2, ds2, p2, q2, rfl, rfl, rfl, h2, r2⟩ := trodAll_cons r1
  obtain ⟨rfl, rfl, rfl⟩ := trodAll_nil r2
  obtain rfl : args = #[v0, v1, v2] := by cases args; simp_all
  obtain ⟨t, p, s, rfl⟩ := open_conf (hval 0 23 v0 rfl rfl) h0
  obtain ⟨A, c, vals, rfl, hc0, hm0, h32_0, hR0⟩ := open_vals Tryz.underlying24 Tryz.underlying58 (by kernel_rfl) (hval 1 24 v1 rfl rfl) h1 (fun x hx => g.lt x (List.mem_append_right _ (List.mem_append_left _ hx)))
  obtain ⟨x0, x1, rfl, bx0, bx1⟩ := open_two15 (hval 2 42 v2 rfl rfl) h2
  exact SpanJoins_calls t p s x0 x1 bx1 A c vals hc0 hm0 h32_0 W (hidp hR0)

set_option maxRecDepth 100000 in
theorem SpanJoins_lifted (os : Os) (started : os.Started) (H : Type) (enc : TypeId × Value → H) :
    ReturnsInHanded {} Tryz.checked os 6 .any (Rows.spanJoinsSpec.pre6 enc Tryz.prog Tryz.f6 Rows.spanJoinsRow.domain false) (Rows.spanJoinsSpec.post enc Tryz.prog Tryz.f6 false true false false) :=
  law_lifted (C := Tryz.checked) (tb := 4) (by kernel_rfl) started (by kernel_rfl) Tryz.func6
    (ChangeSpec.witness6 (enc := enc) (C := Tryz.checked) false ⟨#[], #[.agg #[.int .i64 0, .int .i64 0, .int .i64 0], .slice none 0 0, .agg #[.int .i64 0, .int .i64 0]], []⟩ 8 (by kernel_rfl) (by kernel_rfl) (by kernel_rfl) (by kernel_rfl))
    (by kernel_rfl) (by kernel_rfl) rfl (by kernel_rfl) Tryz.underlying4
    (fun ds h => by
      have h' : ds.length = 3 := h
      match ds, h' with
      | [_, _, _], _ => rfl)
    (fun W base args ds ps g => SpanJoins_walk g)

theorem SpanJoins_holds : Rows.SpanJoinsSaid :=
  OpenClaim.holds_of_wide 6 Tryz.f6 rfl rfl rfl rfl rfl rfl rfl ⟨rfl, rfl, rfl, rfl, rfl⟩ rfl rfl rfl rfl rfl (by kernel_rfl) Tryz.func6 (by kernel_rfl)
    (of_decide_eq_true (by kernel_rfl)) (by unfold Func.isWrapper; first | (rw [if_pos (by decide +kernel)]; kernel_rfl) | (rw [if_neg (by decide +kernel)]; exact ⟨rfl, rfl⟩))
    (fun os started H enc _ => SpanJoins_lifted os started H enc)
end
end Go.Proofs.YtnamlhkccgnbfaaGreat
