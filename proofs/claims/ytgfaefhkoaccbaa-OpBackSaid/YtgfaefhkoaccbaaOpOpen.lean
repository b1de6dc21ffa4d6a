/-
  Operations, results and arrays of words and values (api.Op, api.Result, [3]uint64, [4]uint32) that came in, opened. Written by op/gen_open.py.
-/
import Derived.Test.YtgfaefhkoaccbaaOwn
import Derived.Lib.SmallJoins
import Derived.OpenShut
namespace Go.Proofs.Ytgfaefhkoaccbaa
open Go.ChangeShapes Go.WideShapes Go.ChangeAt Go.RowKit
set_option linter.unusedVariables false
set_option linter.unusedSimpArgs false
set_option maxRecDepth 100000
section
variable {H : Type} {enc : TypeId × Value → H} {W : World} {b base : Nat} {sp : Nat → Bool} {held : Bool} {v : Value} {d : DataW H} {p : List MemPlace} {r : Reach}
theorem open_op22 (hv : Value.okWide Try.prog W r b 23 v) (h : DataW.Trod enc Try.prog W base sp held 23 v d p) :
    ∃ a0 a1 a2 : Int, v = .agg #[.int .i64 a0, .int .i64 a1, .int .i64 a2] ∧ (-9223372036854775808 ≤ a0 ∧ a0 ≤ 9223372036854775807) ∧ (-9223372036854775808 ≤ a1 ∧ a1 ≤ 9223372036854775807) ∧ (-9223372036854775808 ≤ a2 ∧ a2 ≤ 9223372036854775807) := by
  obtain ⟨cs, rfl, hsz⟩ := okWide_struct Try.underlying23 hv
  obtain ⟨fuel, hf⟩ := h
  obtain ⟨xs, n, _, _, hl, hxl, hg⟩ := DataW.trod_struct Try.underlying23 hf
  have hc : Try.prog.cellsOf 23 = 3 := by kernel_rfl
  have s0 : Try.prog.cellsOf 3 = 1 := by kernel_rfl
  have s1 : Try.prog.cellsOf 2 = 1 := by kernel_rfl
  rw [hc] at hl
  obtain ⟨l⟩ := cs
  simp only [Value.cells] at hl hg
  match l, hl, xs, hxl with
  | [v0, v1, v2], _, [y0, y1, y2], _ =>
    have g0 := hg 0 _ rfl
    have g1 := hg 1 _ rfl
    have g2 := hg 2 _ rfl
    simp [s0, s1] at g0 g1 g2
    obtain ⟨a0, e0, _, w0⟩ := DataW.trod_int Try.underlying3 g0
    obtain ⟨a1, e1, _, w1⟩ := DataW.trod_int Try.underlying2 g1
    obtain ⟨a2, e2, _, w2⟩ := DataW.trod_int Try.underlying2 g2
    simp at e0 e1 e2
    subst e0 e1 e2
    exact ⟨a0, a1, a2, rfl, i64_bounds w0, i64_bounds w1, i64_bounds w2⟩
theorem open_res22 (hv : Value.okWide Try.prog W r b 34 v) (h : DataW.Trod enc Try.prog W base sp held 34 v d p) :
    ∃ a0 a1 a2 : Int, v = .agg #[.int .i64 a0, .int .i64 a1, .int .i64 a2] ∧ (-9223372036854775808 ≤ a0 ∧ a0 ≤ 9223372036854775807) ∧ (-9223372036854775808 ≤ a1 ∧ a1 ≤ 9223372036854775807) ∧ (-9223372036854775808 ≤ a2 ∧ a2 ≤ 9223372036854775807) := by
  obtain ⟨cs, rfl, hsz⟩ := okWide_struct Try.underlying34 hv
  obtain ⟨fuel, hf⟩ := h
  obtain ⟨xs, n, _, _, hl, hxl, hg⟩ := DataW.trod_struct Try.underlying34 hf
  have hc : Try.prog.cellsOf 34 = 3 := by kernel_rfl
  have s0 : Try.prog.cellsOf 32 = 1 := by kernel_rfl
  have s1 : Try.prog.cellsOf 2 = 1 := by kernel_rfl
  rw [hc] at hl
  obtain ⟨l⟩ := cs
  simp only [Value.cells] at hl hg
  match l, hl, xs, hxl with
  | [v0, v1, v2], _, [y0, y1, y2], _ =>
    have g0 := hg 0 _ rfl
    have g1 := hg 1 _ rfl
    have g2 := hg 2 _ rfl
    simp [s0, s1] at g0 g1 g2
    obtain ⟨a0, e0, _, w0⟩ := DataW.trod_int Try.underlying32 g0
    obtain ⟨a1, e1, _, w1⟩ := DataW.trod_int Try.underlying2 g1
    obtain ⟨a2, e2, _, w2⟩ := DataW.trod_int Try.underlying2 g2
    simp at e0 e1 e2
    subst e0 e1 e2
    exact ⟨a0, a1, a2, rfl, i64_bounds w0, i64_bounds w1, i64_bounds w2⟩
theorem open_w3 (hv : Value.okWide Try.prog W .any b 25 v) (h : DataW.Trod enc Try.prog W base sp held 25 v d p) :
    ∃ a0 a1 a2 : Int, v = .agg #[.int .u64 a0, .int .u64 a1, .int .u64 a2] ∧ (0 ≤ a0 ∧ a0 < 18446744073709551616) ∧ (0 ≤ a1 ∧ a1 < 18446744073709551616) ∧ (0 ≤ a2 ∧ a2 < 18446744073709551616) := by
  have hu : Try.prog.underlying 25 = some (.array 3 24) := by kernel_rfl
  have hC : Try.prog.cellsOf 25 = 3 := by kernel_rfl
  have hc : Try.prog.cellsOf 24 = 1 := by kernel_rfl
  simp only [Value.okWide, hu] at hv
  obtain ⟨cs, rfl, h2, _⟩ := hv
  rw [hC] at h2
  obtain ⟨c0, c1, c2, rfl⟩ : ∃ c0 c1 c2, cs = #[c0, c1, c2] := by
    rcases cs with ⟨l⟩
    match l, h2 with
    | [c0, c1, c2], _ => exact ⟨c0, c1, c2, rfl⟩
  obtain ⟨fuel, hf⟩ := h
  obtain ⟨xs, m, _, _, _, hl, hi⟩ := DataW.trod_array hu hf
  have h10 := hi 0 (by omega)
  have h11 := hi 1 (by omega)
  have h12 := hi 2 (by omega)
  rw [hc] at h10 h11 h12
  obtain ⟨y0, e0⟩ : ∃ y, xs[0]? = some y := ⟨_, List.getElem?_eq_getElem (by omega)⟩
  rw [e0] at h10
  obtain ⟨y1, e1⟩ : ∃ y, xs[1]? = some y := ⟨_, List.getElem?_eq_getElem (by omega)⟩
  rw [e1] at h11
  obtain ⟨y2, e2⟩ : ∃ y, xs[2]? = some y := ⟨_, List.getElem?_eq_getElem (by omega)⟩
  rw [e2] at h12
  obtain ⟨a0, f0, _, w0⟩ := DataW.trod_int Try.underlying24 h10
  obtain ⟨a1, f1, _, w1⟩ := DataW.trod_int Try.underlying24 h11
  obtain ⟨a2, f2, _, w2⟩ := DataW.trod_int Try.underlying24 h12
  simp [Value.cells] at f0 f1 f2
  subst f0 f1 f2
  obtain ⟨n0, rfl, k0⟩ := u64_nat w0
  obtain ⟨n1, rfl, k1⟩ := u64_nat w1
  obtain ⟨n2, rfl, k2⟩ := u64_nat w2
  exact ⟨(n0 : Int), (n1 : Int), (n2 : Int), rfl, ⟨by omega, by omega⟩, ⟨by omega, by omega⟩, ⟨by omega, by omega⟩⟩
theorem open_v4 (hv : Value.okWide Try.prog W .any b 36 v) (h : DataW.Trod enc Try.prog W base sp held 36 v d p) :
    ∃ a0 a1 a2 a3 : Int, v = .agg #[.int .u32 a0, .int .u32 a1, .int .u32 a2, .int .u32 a3] ∧ (0 ≤ a0 ∧ a0 < 4294967296) ∧ (0 ≤ a1 ∧ a1 < 4294967296) ∧ (0 ≤ a2 ∧ a2 < 4294967296) ∧ (0 ≤ a3 ∧ a3 < 4294967296) := by
  have hu : Try.prog.underlying 36 = some (.array 4 35) := by kernel_rfl
  have hC : Try.prog.cellsOf 36 = 4 := by kernel_rfl
  have hc : Try.prog.cellsOf 35 = 1 := by kernel_rfl
  simp only [Value.okWide, hu] at hv
  obtain ⟨cs, rfl, h2, _⟩ := hv
  rw [hC] at h2
  obtain ⟨c0, c1, c2, c3, rfl⟩ : ∃ c0 c1 c2 c3, cs = #[c0, c1, c2, c3] := by
    rcases cs with ⟨l⟩
    match l, h2 with
    | [c0, c1, c2, c3], _ => exact ⟨c0, c1, c2, c3, rfl⟩
  obtain ⟨fuel, hf⟩ := h
  obtain ⟨xs, m, _, _, _, hl, hi⟩ := DataW.trod_array hu hf
  have h10 := hi 0 (by omega)
  have h11 := hi 1 (by omega)
  have h12 := hi 2 (by omega)
  have h13 := hi 3 (by omega)
  rw [hc] at h10 h11 h12 h13
  obtain ⟨y0, e0⟩ : ∃ y, xs[0]? = some y := ⟨_, List.getElem?_eq_getElem (by omega)⟩
  rw [e0] at h10
  obtain ⟨y1, e1⟩ : ∃ y, xs[1]? = some y := ⟨_, List.getElem?_eq_getElem (by omega)⟩
  rw [e1] at h11
  obtain ⟨y2, e2⟩ : ∃ y, xs[2]? = some y := ⟨_, List.getElem?_eq_getElem (by omega)⟩
  rw [e2] at h12
  obtain ⟨y3, e3⟩ : ∃ y, xs[3]? = some y := ⟨_, List.getElem?_eq_getElem (by omega)⟩
  rw [e3] at h13
  obtain ⟨a0, f0, _, w0⟩ := DataW.trod_int Try.underlying35 h10
  obtain ⟨a1, f1, _, w1⟩ := DataW.trod_int Try.underlying35 h11
  obtain ⟨a2, f2, _, w2⟩ := DataW.trod_int Try.underlying35 h12
  obtain ⟨a3, f3, _, w3⟩ := DataW.trod_int Try.underlying35 h13
  simp [Value.cells] at f0 f1 f2 f3
  subst f0 f1 f2 f3
  obtain ⟨n0, rfl, k0⟩ := u32_nat w0
  obtain ⟨n1, rfl, k1⟩ := u32_nat w1
  obtain ⟨n2, rfl, k2⟩ := u32_nat w2
  obtain ⟨n3, rfl, k3⟩ := u32_nat w3
  exact ⟨(n0 : Int), (n1 : Int), (n2 : Int), (n3 : Int), rfl, ⟨by omega, by omega⟩, ⟨by omega, by omega⟩, ⟨by omega, by omega⟩, ⟨by omega, by omega⟩⟩
end
end Go.Proofs.Ytgfaefhkoaccbaa
