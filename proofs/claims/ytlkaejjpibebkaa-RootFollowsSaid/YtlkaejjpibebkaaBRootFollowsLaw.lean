/-
  Proved: RootFollows answers true at every input, never panics, and changes nothing that was there. Conditions: none beyond those of the given statement.
-/
import Derived.Test.YtlkaejjpibebkaaB04
namespace Go.Proofs.Ytlkaejjpibebkaa
open Go.ChangeShapes Go.WideShapes Go.ChangeAt Go.RowKit
section
set_option maxRecDepth 100000 in
set_option linter.unusedVariables false in
theorem RootFollows_walk {H : Type} {enc : TypeId × Value -> H} {W : World} {base : Nat} {args : Array Value} {ds : List (DataW H)} {ps : List MemPlace}
  (g : Given enc Try.prog Try.f4 W base args ds ps) : Calls Try.prog 4 args W (Keeps W) := by
 have hval := g.ok
 have hA := g.trod
 rw [Try.params4] at hA hval
 obtain ⟨v0, vs0, d0, ds0, p0, q0, hargs, rfl, rfl, h0, r0⟩ := trodAll_cons hA
 obtain ⟨v1, vs1, d1, ds1, p1, q1, rfl, rfl, rfl, h1, r1⟩ := trodAll_cons r0
 obtain ⟨rfl, rfl, rfl⟩ := trodAll_nil r1
 obtain rfl : args = #[v0, v1] := by cases args; simp_all
 obtain ⟨A, c, vals, rfl, hc0, hm0, h32_0, hR0⟩ := open_vals Try.underlying22 Try.underlying49 (by kernel_rfl) (hval 0 22 v0 rfl rfl) h0 (fun x hx => g.lt x (List.mem_append_left _ hx))
 obtain ⟨x, hok, rfl⟩ := open_rootAsk (hval 1 31 v1 rfl rfl) h1
 exact RootFollows_calls A c vals x.i x.ad x.to x.w0 x.w1 x.w2 (i64_bounds hok.i) hc0 hm0 h32_0 W (hidp hR0)

set_option maxRecDepth 100000 in
theorem RootFollows_lifted (os : Os) (started : os.Started) (H : Type) (enc : TypeId × Value -> H) :
  ReturnsInHanded {} Try.checked os 4 .any (Rows.rootFollowsSpec.pre6 enc Try.prog Try.f4 Rows.rootFollowsRow.domain false) (Rows.rootFollowsSpec.post enc Try.prog Try.f4 false true false false) :=
 law_lifted (C := Try.checked) (tb := 4) (by kernel_rfl) started (by kernel_rfl) Try.func4
  (ChangeSpec.witness6 (enc := enc) (C := Try.checked) false ⟨#[], #[.slice none 0 0, .agg #[.int .i64 0, .int .i64 0, .int .i64 0, .int .i64 0, .int .i64 0, .int .i64 0]], []⟩ 8 (by kernel_rfl) (by kernel_rfl) (by kernel_rfl) (by kernel_rfl))
  (by kernel_rfl) (by kernel_rfl) rfl (by kernel_rfl) Try.underlying4
  (fun ds h => by
   have h' : ds.length = 2 := h
   match ds, h' with
   | [_, _], _ => rfl)
  (fun W base args ds ps g => RootFollows_walk g)

theorem RootFollows_holds : Rows.RootFollowsSaid :=
 OpenClaim.holds_of_wide 4 Try.f4 rfl rfl rfl rfl rfl rfl rfl ⟨rfl, rfl, rfl, rfl, rfl⟩ rfl rfl rfl rfl rfl (by kernel_rfl) Try.func4 (by kernel_rfl)
  (of_decide_eq_true (by kernel_rfl)) (by unfold Func.isWrapper; first | (rw [if_pos (by decide +kernel)]; kernel_rfl) | (rw [if_neg (by decide +kernel)]; exact ⟨rfl, rfl⟩))
  (fun os started H enc _ => RootFollows_lifted os started H enc)
end
end Go.Proofs.Ytlkaejjpibebkaa
