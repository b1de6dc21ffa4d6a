/-
  Pairs (api.Pair): a list of them, and one, that came in, opened. Written by view/gen_structs.py.
-/
import Derived.Test.YtpndfhdedmdoeaaOwn
import Derived.Deep.Slices
import Derived.Lib.SmallJoins
namespace Go.Proofs.Ytpndfhdedmdoeaa
open Go.ChangeShapes Go.WideShapes Go.ChangeAt Go.RowKit
set_option linter.unusedVariables false
set_option maxRecDepth 100000
set_option linter.unusedSimpArgs false

structure PairV where
  cell : Int
  val : Nat
instance : Inhabited PairV := ⟨⟨0, 0⟩⟩
structure PairV.Ok (a : PairV) : Prop where
  cell : (Lit.int .i64 a.cell).wf = true
  val : a.val < 2 ^ 32
def PairV.cells (a : PairV) : List Value := [.int .i64 a.cell, .int .u32 (a.val : Int)]
def PairV.v (a : PairV) : Value := .agg #[.int .i64 a.cell, .int .u32 (a.val : Int)]
/-- a slice at A holds these -/
def PairVs (w : World) (A : Option Addr) (l : List PairV) : Prop :=
  ∀ i a, l[i]? = some a → ∃ ad, A = some ad ∧ ad.block < w.heap.size ∧ ∀ j u, a.cells[j]? = some u → w.cell? (ad.add (i * 2 + j)) = some u
theorem PairVs.below {w w' : World} {A : Option Addr} {l : List PairV} (h : PairVs w A l) (hb : Below w.heap.size w w') : PairVs w' A l := fun i a ha => by
  obtain ⟨ad, e, h1, h2⟩ := h i a ha
  exact ⟨ad, e, Nat.lt_of_lt_of_le h1 hb.size, fun j u hu => (hb.cell (p := ad.add (i * 2 + j)) (by rw [block_of_add]; exact h1)).trans (h2 j u hu)⟩
/-- its cells at p, as a walk asks for them -/
def PairVAt (w : World) (p : Addr) (a : PairV) : Prop :=
  w.cell? p = some (.int .i64 a.cell) ∧ w.cell? ⟨p.block, p.off + 1, none⟩ = some (.int .u32 (a.val : Int))
theorem pairV_off (p : Addr) (j : Nat) (h : j ≠ 0) : p.add j = ⟨p.block, p.off + j, none⟩ := by unfold Addr.add; rw [if_neg h]
theorem PairVs.cells {w : World} {ad : Addr} {l : List PairV} (h : PairVs w (some ad) l) {i : Nat} {a : PairV} (ha : l[i]? = some a) : PairVAt w (ad.add (i * 2)) a := by
  obtain ⟨ad', e, _, h2⟩ := h i a ha
  injection e with e
  subst e
  have h10 := h2 0 _ rfl
  have h11 := h2 1 _ rfl
  rw [← add_of_add] at h10 h11
  rw [pairV_off _ _ (by omega)] at h11
  exact ⟨h10, h11⟩

section
variable {H : Type} {enc : TypeId × Value → H} {w : World} {base : Nat} {sp : Nat → Bool} {held : Bool}
theorem pairV_cells {fuel : Nat} {cs : List Value} {x : DataW H × List MemPlace} (h : DataW.trod enc Try.prog w base sp held fuel 86 cs = some x) : ∃ a : PairV, a.Ok ∧ cs = a.cells := by
  obtain ⟨xs, n, _, _, hl, hxl, hf⟩ := DataW.trod_struct Try.underlying86 h
  have hc : Try.prog.cellsOf 86 = 2 := by kernel_rfl
  have s_int : Try.prog.cellsOf 3 = 1 := by kernel_rfl
  have s_uint32 : Try.prog.cellsOf 62 = 1 := by kernel_rfl
  rw [hc] at hl
  match cs, hl, xs, hxl with
  | [v0, v1], _, [y0, y1], _ =>
    have g0 := hf 0 _ rfl
    have g1 := hf 1 _ rfl
    simp [s_int, s_uint32] at g0 g1
    obtain ⟨a0, e0, _, w0⟩ := DataW.trod_int Try.underlying3 g0
    obtain ⟨a1, e1, _, w1⟩ := DataW.trod_int Try.underlying62 g1
    simp at e0 e1
    subst e0 e1
    obtain ⟨n1, rfl, h1⟩ := u32_nat w1
    exact ⟨⟨a0, n1⟩, ⟨w0, h1⟩, rfl⟩
theorem open_pairV {r : Reach} {b0 : Nat} {v : Value} {d : DataW H} {p : List MemPlace} (hv : Value.okWide Try.prog w r b0 86 v) (h : DataW.Trod enc Try.prog w base sp held 86 v d p) :
    ∃ a : PairV, a.Ok ∧ v = a.v := by
  obtain ⟨cs, rfl, hsz⟩ := okWide_struct Try.underlying86 hv
  obtain ⟨fuel, hf⟩ := h
  obtain ⟨a, ha, hc⟩ := pairV_cells hf
  refine ⟨a, ha, ?_⟩
  obtain ⟨l⟩ := cs
  simp [Value.cells] at hc
  subst hc
  rfl
theorem open_pairVs {r : Reach} {b0 : Nat} {v : Value} {d : DataW H} {p : List MemPlace} (hv : Value.okWide Try.prog w r b0 42 v) (h : DataW.Trod enc Try.prog w base sp held 42 v d p) (hlt : ∀ x ∈ p, x.block < w.heap.size) :
    ∃ (A : Option Addr) (c : Nat) (l : List PairV), v = .slice A l.length c ∧ l.length ≤ c ∧ c ≤ maxLen ∧ (∀ a ∈ l, a.Ok) ∧ PairVs w A l := by
  obtain ⟨fuel, hf⟩ := h
  have hvc : v.cells = #[v] := by
    obtain ⟨A, n, c, rfl⟩ := okWide_slice Try.underlying42 hv
    rfl
  rw [hvc] at hf
  have hc : Try.prog.cellsOf 86 = 2 := by kernel_rfl
  rcases Go.Deep.open_slice Try.underlying42 hf with ⟨hcs, _⟩ | ⟨a, len, cap, m, n, D, Pl, hcs, hb, hl, hm, hmm, hx, hi⟩
  · injection hcs with hcs
    subst hcs
    exact ⟨none, 0, [], rfl, Nat.le_refl _, Nat.zero_le _, by simp, fun i a h => by simp at h⟩
  · injection hcs with hcs
    subst hcs
    have hlm : len ≤ m := by rw [hmm]; split <;> omega
    have each : ∀ i, i < len → ∃ q : PairV, q.Ok ∧ ∀ j u, q.cells[j]? = some u → w.cell? (a.add (i * 2 + j)) = some u := by
      intro i hil
      obtain ⟨cs', h1, h2⟩ := hi i (by omega)
      obtain ⟨q, hq, rfl⟩ := pairV_cells h2
      rw [hc] at h1
      obtain ⟨_, hlen, hcell⟩ := World.cells?_some h1
      refine ⟨q, hq, fun j u hu => ?_⟩
      have hj : j < 2 := by
        rcases Nat.lt_or_ge j 2 with h3 | h3
        · exact h3
        · rw [List.getElem?_eq_none (by unfold PairV.cells; simp; omega)] at hu; cases hu
      have h4 := hcell j (by omega)
      rw [add_of_add] at h4
      rw [h4, hu]
    obtain ⟨q, hq⟩ := Go.Deep.choose_lt (α := PairV) (p := fun i q => q.Ok ∧ ∀ j u, q.cells[j]? = some u → w.cell? (a.add (i * 2 + j)) = some u) each
    have hln : ((List.range len).map q).length = len := by simp
    refine ⟨some a, cap, (List.range len).map q, by rw [hln], by rw [hln]; exact hl, hm, ?_, ?_⟩
    · intro y hy
      obtain ⟨i, hi1, rfl⟩ := List.mem_map.1 hy
      exact (hq i (List.mem_range.1 hi1)).1
    · intro i y hy
      have hil : i < len := by
        rcases Nat.lt_or_ge i len with h3 | h3
        · exact h3
        · rw [List.getElem?_eq_none (by simp; omega)] at hy; cases hy
      rw [List.getElem?_map, List.getElem?_range hil] at hy
      injection hy with hy
      subst hy
      refine ⟨a, rfl, ?_, (hq i hil).2⟩
      have hp : (p : List MemPlace) = MemPlace.row a (m * 2) ++ (List.range m).flatMap Pl := by
        have := congrArg Prod.snd hx
        rw [hc] at this
        exact this
      have h0 : (MemPlace.row a (m * 2))[0]'(by simp [MemPlace.row]; omega) ∈ p := by
        rw [hp]
        exact List.mem_append_left _ (List.getElem_mem _)
      have h1 := hlt _ h0
      simpa [MemPlace.row, MemPlace.block] using h1
end
end Go.Proofs.Ytpndfhdedmdoeaa
