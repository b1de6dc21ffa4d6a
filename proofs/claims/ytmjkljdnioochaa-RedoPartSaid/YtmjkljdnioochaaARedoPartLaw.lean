/-
  Proved: RedoPart answers true at every input, never panics, and changes nothing that was there. Conditions: none beyond those of the given statement.
-/
import Derived.Test.YtmjkljdnioochaaA07
import Derived.Test.YtmjkljdnioochaaA06
namespace Go.Proofs.Ytmjkljdnioochaa
open Go.ChangeShapes Go.WideShapes Go.ChangeAt Go.RowKit
section
set_option maxRecDepth 100000 in
set_option linter.unusedVariables false in
theorem RedoPart_walk {H : Type} {enc : TypeId × Value -> H} {W : World} {base : Nat} {args : Array Value} {ds : List (DataW H)} {ps : List MemPlace}
  (g : Given enc Try.prog Try.f4 W base args ds ps) : Calls Try.prog 4 args W (Keeps W) := by
 have hval := g.ok
 have hA := g.trod
 rw [Try.params4] at hA hval
 obtain ⟨v0, vs0, d0, ds0, p0, q0, hargs, rfl, rfl, h0, r0⟩ := trodAll_cons hA
 obtain ⟨v1, vs1, d1, ds1, p1, q1, rfl, rfl, rfl, h1, r1⟩ := trodAll_cons r0
 obtain ⟨v2, vs2, d2, ds2, p2, q2, rfl, rfl, rfl, h2, r2⟩ := trodAll_cons r1
 obtain ⟨rfl, rfl, rfl⟩ := trodAll_nil r2
 obtain rfl : args = #[v0, v1, v2] := by cases args; simp_all
 obtain ⟨t, p, s, rfl⟩ := open_conf (hval 0 23 v0 rfl rfl) h0
 obtain ⟨A, c, ws, rfl, hc, hm, h64, hR⟩ := open_words Try.underlying24 Try.underlying46 (by kernel_rfl) (hval 1 24 v1 rfl rfl) h1 (fun x hx => g.lt x (List.mem_append_right _ (List.mem_append_left _ hx)))
 obtain ⟨A2, c2, l, rfl, hlc, hlm, hP⟩ := open_bools (hval 2 40 v2 rfl rfl) h2 (fun x hx => g.lt x (List.mem_append_right _ (List.mem_append_right _ (List.mem_append_left _ hx))))
 exact RedoPart_calls t p s A A2 c c2 ws l hc hm h64 hlc hlm W (hidp hR) (hidp hP)

set_option maxRecDepth 100000 in
theorem RedoPart_lifted (os : Os) (started : os.Started) (H : Type) (enc : TypeId × Value -> H) :
  ReturnsInHanded {} Try.checked os 4 .any (Rows.redoPartSpec.pre6 enc Try.prog Try.f4 Rows.redoPartRow.domain false) (Rows.redoPartSpec.post enc Try.prog Try.f4 false true false false) :=
 law_lifted (C := Try.checked) (tb := 4) (by kernel_rfl) started (by kernel_rfl) Try.func4
  (ChangeSpec.witness6 (enc := enc) (C := Try.checked) false ⟨#[], #[.agg #[.int .i64 0, .int .i64 0, .int .i64 0], .slice none 0 0, .slice none 0 0], []⟩ 8 (by kernel_rfl) (by kernel_rfl) (by kernel_rfl) (by kernel_rfl))
  (by kernel_rfl) (by kernel_rfl) rfl (by kernel_rfl) Try.underlying4
  (fun ds h => by
   have h' : ds.length = 3 := h
   match ds, h' with
   | [_, _, _], _ => rfl)
  (fun W base args ds ps g => RedoPart_walk g)

theorem RedoPart_holds : Rows.RedoPartSaid :=
 OpenClaim.holds_of_wide 4 Try.f4 rfl rfl rfl rfl rfl rfl rfl ⟨rfl, rfl, rfl, rfl, rfl⟩ rfl rfl rfl rfl rfl (by kernel_rfl) Try.func4 (by kernel_rfl)
  (of_decide_eq_true (by kernel_rfl)) (by unfold Func.isWrapper; first | (rw [if_pos (by decide +kernel)]; kernel_rfl) | (rw [if_neg (by decide +kernel)]; exact ⟨rfl, rfl⟩))
  (fun os started H enc _ => RedoPart_lifted os started H enc)
end
end Go.Proofs.Ytmjkljdnioochaa
