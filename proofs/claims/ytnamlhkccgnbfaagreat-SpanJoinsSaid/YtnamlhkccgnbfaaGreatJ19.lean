/-
  The law SpanJoins: the walk. Written by span/gen_joins.py.
-/
import Derived.Test.YtnamlhkccgnbfaaGreatJSpanJoinsA
import Derived.Test.YtnamlhkccgnbfaaGreatJSpanJoinsB
import Derived.Test.YtnamlhkccgnbfaaGreatJSpanJoinsC
import Derived.Test.YtnamlhkccgnbfaaGreatKit
import Derived.Lib.SmallJoins
import Derived.OpenShut
namespace Go.Proofs.YtnamlhkccgnbfaaGreat
open Go.ChangeShapes Go.WideShapes Go.ChangeAt Go.RowKit Go.Maps
set_option linter.unusedVariables false
set_option linter.unusedSimpArgs false
set_option maxRecDepth 100000
section
theorem SpanJoins_calls (t q s x0v xx : Int) (hxx : -9223372036854775808 ≤ xx ∧ xx ≤ 9223372036854775807) (A : Option Addr) (c : Nat) (vals : List Nat) (hnc : vals.length ≤ c) (hcm : c ≤ maxLen) (h32 : ∀ x ∈ vals, x < 2 ^ 32) (W : World) (HR : Hid (Reads W W.heap.size 1 A vals.length (valVs vals))) :
    Calls Tryz.prog 6 #[.agg #[.int .i64 t, .int .i64 q, .int .i64 s], .slice A vals.length c, .agg #[.int .i64 x0v, .int .i64 xx]] W (Keeps W) := by
  by_cases hq : q ≤ 64
  · rcases heap13_or W t q s A c vals hnc hcm h32 HR.out with ⟨m, hX⟩ | ⟨H, ad, m, rfl, rfl, rfl, rfl, hV, HV, hv, hto, hX⟩
    · exact SpanJoins_no t q s x0v xx A _ c m hq W (hidp hX)
    · by_cases h0 : x0v < 0 ∨ (H.p : Int) ≤ x0v
      · exact SpanJoins_off _ _ _ x0v xx _ _ c m hq h0 W (hidp hX)
      · obtain ⟨p, rfl⟩ := Int.eq_ofNat_of_zero_le (show 0 ≤ x0v by omega)
        have hp : p < H.p := by omega
        by_cases hk : H.K p = 2
        · have hl := H.ln_pos p (by omega)
          by_cases c1 : 1 ≤ xx ∧ xx < (H.ln p : Int)
          · obtain ⟨mm, rfl⟩ := Int.eq_ofNat_of_zero_le (show 0 ≤ xx by omega)
            exact SpanJoins_shrink ad _ c m p mm HV hp hk vals (hidp rfl) (hidp h32) hV (by omega) (told_rules15 hto) (by omega) (by omega) W HR (hidp hv) (hidp hX)
          · by_cases c2 : (H.ln p : Int) < xx
            · obtain ⟨mm, rfl⟩ := Int.eq_ofNat_of_zero_le (show 0 ≤ xx by omega)
              cases hg : growB vals.length (wholeK15 vals) H.t H.p H.s p (H.ln p) (mm : Int) freshS with
              | false => exact SpanJoins_stay ad _ c m p mm HV hp hk vals (hidp rfl) (hidp h32) hV (by omega) (told_rules15 hto) (by omega) hxx.2 hg W HR (hidp hv) (hidp hX)
              | true => exact SpanJoins_grow ad _ c m p mm HV hp hk vals (hidp rfl) (hidp h32) hV (by omega) (told_rules15 hto) (by omega) hg W HR (hidp hv) (hidp hX)
            · exact SpanJoins_release ad _ c m p HV hp hk vals (hidp rfl) (hidp h32) hV (by omega) (told_rules15 hto) xx c1 c2 W HR (hidp hv) (hidp hX)
        · exact SpanJoins_kind ad _ c m p xx HV (by omega) hp hk W (hidp hv) (hidp hX)
  · exact SpanJoins_few t q s x0v xx A _ c 0 (by omega) W
end
end Go.Proofs.YtnamlhkccgnbfaaGreat

namespace Go.Proofs.YtnamlhkccgnbfaaGreat
open Go.ChangeShapes Go.WideShapes Go.ChangeAt Go.RowKit
set_option linter.unusedVariables false
set_option linter.unusedSimpArgs false
section
set_option maxRecDepth 100000 in
theorem open_conf {H : Type} {enc : TypeId × Value → H} {W : World} {b base : Nat} {sp : Nat → Bool} {held : Bool} {v : Value} {d : DataW H} {p : List MemPlace}
    (hv : Value.okWide Tryz.prog W .any b 23 v) (h : DataW.Trod enc Tryz.prog W base sp held 23 v d p) :
    ∃ (t q s : Int), v = .agg #[.int .i64 t, .int .i64 q, .int .i64 s] := by
  obtain ⟨v0, v1, v2, y0, y1, y2, m, rfl, rfl, rfl, h0, h1, h2⟩ := Joins.open_agg3 Tryz.underlying23 (by kernel_rfl) (by kernel_rfl) hv h
  obtain ⟨a, e0, _, w0⟩ := DataW.trod_int Tryz.underlying3 h0
  obtain ⟨c, e1, _, w1⟩ := DataW.trod_int Tryz.underlying3 h1
  obtain ⟨k, e2, _, w2⟩ := DataW.trod_int Tryz.underlying3 h2
  simp at e0 e1 e2
  subst e0 e1 e2
  exact ⟨a, c, k, rfl⟩
end
section
set_option maxRecDepth 100000 in
theorem open_two15 {H : Type} {enc : TypeId × Value → H} {W : World} {b base : Nat} {sp : Nat → Bool} {held : Bool} {v : Value} {d : DataW H} {p : List MemPlace}
    (hv : Value.okWide Tryz.prog W .any b 42 v) (h : DataW.Trod enc Tryz.prog W base sp held 42 v d p) :
    ∃ (x y : Int), v = .agg #[.int .i64 x, .int .i64 y] ∧ (-9223372036854775808 ≤ x ∧ x ≤ 9223372036854775807) ∧ (-9223372036854775808 ≤ y ∧ y ≤ 9223372036854775807) := by
  have hu : Tryz.prog.underlying 42 = some (.array 2 3) := by kernel_rfl
  have hC : Tryz.prog.cellsOf 42 = 2 := by kernel_rfl
  have hc : Tryz.prog.cellsOf 3 = 1 := by kernel_rfl
  simp only [Value.okWide, hu] at hv
  obtain ⟨cs, rfl, h2, _⟩ := hv
  rw [hC] at h2
  obtain ⟨c0, c1, rfl⟩ : ∃ c0 c1, cs = #[c0, c1] := by
    rcases cs with ⟨l⟩
    match l, h2 with
    | [c0, c1], _ => exact ⟨c0, c1, rfl⟩
  obtain ⟨fuel, hf⟩ := h
  obtain ⟨xs, m, _, _, _, hl, hi⟩ := DataW.trod_array hu hf
  have h0 := hi 0 (by omega)
  have h1 := hi 1 (by omega)
  rw [hc] at h0 h1
  obtain ⟨y0, e0⟩ : ∃ y, xs[0]? = some y := ⟨_, List.getElem?_eq_getElem (by omega)⟩
  obtain ⟨y1, e1⟩ : ∃ y, xs[1]? = some y := ⟨_, List.getElem?_eq_getElem (by omega)⟩
  rw [e0] at h0
  rw [e1] at h1
  obtain ⟨a, f0, _, w0⟩ := DataW.trod_int Tryz.underlying3 h0
  obtain ⟨c, f1, _, w1⟩ := DataW.trod_int Tryz.underlying3 h1
  simp [Value.cells] at f0 f1
  subst f0 f1
  exact ⟨a, c, rfl, i64_bounds w0, i64_bounds w1⟩
end
end Go.Proofs.YtnamlhkccgnbfaaGreat
