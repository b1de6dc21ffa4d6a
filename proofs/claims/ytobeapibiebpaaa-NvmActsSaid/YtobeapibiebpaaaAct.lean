/-
  Acts (api.Act): a list of them, and one, that came in, opened.
-/
import Derived.Test.YtobeapibiebpaaaKit
import Derived.Deep.Slices
import Derived.Lib.SmallJoins
namespace Go.Proofs.Ytobeapibiebpaaa
open Go.ChangeShapes Go.WideShapes Go.ChangeAt Go.RowKit
set_option linter.unusedVariables false
set_option linter.unusedSimpArgs false

structure ActV where
  d : Int
  who : Int
  at_ : Int
  mask : Int
  old : Nat
  val : Nat
instance : Inhabited ActV := ⟨⟨0, 0, 0, 0, 0, 0⟩⟩
structure ActV.Ok (a : ActV) : Prop where
  d : (Lit.int .i64 a.d).wf = true
  who : (Lit.int .i64 a.who).wf = true
  at_ : (Lit.int .i64 a.at_).wf = true
  mask : (Lit.int .i64 a.mask).wf = true
  val : a.val < 2 ^ 64
  old : a.old < 2 ^ 64
def ActV.cells (a : ActV) : List Value := [.int .i64 a.d, .int .i64 a.who, .int .i64 a.at_, .int .i64 a.mask, .int .u64 (a.old : Int), .int .u64 (a.val : Int)]
def ActV.v (a : ActV) : Value := .agg #[.int .i64 a.d, .int .i64 a.who, .int .i64 a.at_, .int .i64 a.mask, .int .u64 (a.old : Int), .int .u64 (a.val : Int)]
/-- a slice at A holds these acts -/
def ActsAt (w : World) (A : Option Addr) (l : List ActV) : Prop :=
  ∀ i a, l[i]? = some a → ∃ ad, A = some ad ∧ ad.block < w.heap.size ∧ ∀ j u, a.cells[j]? = some u → w.cell? (ad.add (i * 6 + j)) = some u
theorem ActsAt.below {w w' : World} {A : Option Addr} {l : List ActV} (h : ActsAt w A l) (hb : Below w.heap.size w w') : ActsAt w' A l := fun i a ha => by
  obtain ⟨ad, e, h1, h2⟩ := h i a ha
  exact ⟨ad, e, Nat.lt_of_lt_of_le h1 hb.size, fun j u hu => (hb.cell (p := ad.add (i * 6 + j)) (by rw [block_of_add]; exact h1)).trans (h2 j u hu)⟩

/-- the six cells of an act at p, as a walk asks for them -/
def ActCells (w : World) (p : Addr) (a : ActV) : Prop :=
  w.cell? p = some (.int .i64 a.d) ∧ w.cell? ⟨p.block, p.off + 1, none⟩ = some (.int .i64 a.who) ∧ w.cell? ⟨p.block, p.off + 2, none⟩ = some (.int .i64 a.at_) ∧
    w.cell? ⟨p.block, p.off + 3, none⟩ = some (.int .i64 a.mask) ∧ w.cell? ⟨p.block, p.off + 4, none⟩ = some (.int .u64 (a.old : Int)) ∧ w.cell? ⟨p.block, p.off + 5, none⟩ = some (.int .u64 (a.val : Int))
theorem add_off (p : Addr) (j : Nat) (h : j ≠ 0) : p.add j = ⟨p.block, p.off + j, none⟩ := by unfold Addr.add; rw [if_neg h]
theorem ActsAt.cells {w : World} {ad : Addr} {l : List ActV} (h : ActsAt w (some ad) l) {i : Nat} {a : ActV} (ha : l[i]? = some a) : ActCells w (ad.add (i * 6)) a := by
  obtain ⟨ad', e, _, h2⟩ := h i a ha
  injection e with e
  subst e
  have h0 := h2 0 _ rfl
  have h1 := h2 1 _ rfl
  have h3 := h2 2 _ rfl
  have h4 := h2 3 _ rfl
  have h5 := h2 4 _ rfl
  have h6 := h2 5 _ rfl
  rw [← add_of_add] at h0 h1 h3 h4 h5 h6
  rw [add_off _ _ (by omega)] at h1 h3 h4 h5 h6
  exact ⟨h0, h1, h3, h4, h5, h6⟩

section
variable {H : Type} {enc : TypeId × Value → H} {w : World} {base : Nat} {sp : Nat → Bool} {held : Bool}
theorem act_cells {fuel : Nat} {cs : List Value} {x : DataW H × List MemPlace} (h : DataW.trod enc Try.prog w base sp held fuel 34 cs = some x) : ∃ a : ActV, a.Ok ∧ cs = a.cells := by
  obtain ⟨xs, n, _, _, hl, hxl, hf⟩ := DataW.trod_struct Try.underlying34 h
  have hc : Try.prog.cellsOf 34 = 6 := by kernel_rfl
  have h1 : Try.prog.cellsOf 3 = 1 := by kernel_rfl
  have h2 : Try.prog.cellsOf 30 = 1 := by kernel_rfl
  rw [hc] at hl
  match cs, hl, xs, hxl with
  | [v0, v1, v2, v3, v4, v5], _, [y0, y1, y2, y3, y4, y5], _ =>
    have g0 := hf 0 _ rfl
    have g1 := hf 1 _ rfl
    have g2 := hf 2 _ rfl
    have g3 := hf 3 _ rfl
    have g4 := hf 4 _ rfl
    have g5 := hf 5 _ rfl
    simp [h1, h2] at g0 g1 g2 g3 g4 g5
    obtain ⟨a0, e0, _, w0⟩ := DataW.trod_int Try.underlying3 g0
    obtain ⟨a1, e1, _, w1⟩ := DataW.trod_int Try.underlying3 g1
    obtain ⟨a2, e2, _, w2⟩ := DataW.trod_int Try.underlying3 g2
    obtain ⟨a3, e3, _, w3⟩ := DataW.trod_int Try.underlying3 g3
    obtain ⟨a4, e4, _, w4⟩ := DataW.trod_int Try.underlying30 g4
    obtain ⟨a5, e5, _, w5⟩ := DataW.trod_int Try.underlying30 g5
    simp at e0 e1 e2 e3 e4 e5
    subst e0 e1 e2 e3 e4 e5
    obtain ⟨n4, rfl, h4⟩ := u64_nat w4
    obtain ⟨n5, rfl, h5⟩ := u64_nat w5
    exact ⟨⟨a0, a1, a2, a3, n4, n5⟩, ⟨w0, w1, w2, w3, h5, h4⟩, rfl⟩
theorem open_act {r : Reach} {b0 : Nat} {v : Value} {d : DataW H} {p : List MemPlace} (hv : Value.okWide Try.prog w r b0 34 v) (h : DataW.Trod enc Try.prog w base sp held 34 v d p) :
    ∃ a : ActV, a.Ok ∧ v = a.v := by
  obtain ⟨cs, rfl, hsz⟩ := okWide_struct Try.underlying34 hv
  obtain ⟨fuel, hf⟩ := h
  obtain ⟨a, ha, hc⟩ := act_cells hf
  refine ⟨a, ha, ?_⟩
  obtain ⟨l⟩ := cs
  simp [Value.cells] at hc
  subst hc
  rfl
theorem open_acts {r : Reach} {b0 : Nat} {v : Value} {d : DataW H} {p : List MemPlace} (hv : Value.okWide Try.prog w r b0 23 v) (h : DataW.Trod enc Try.prog w base sp held 23 v d p) (hlt : ∀ x ∈ p, x.block < w.heap.size) :
    ∃ (A : Option Addr) (c : Nat) (l : List ActV), v = .slice A l.length c ∧ l.length ≤ c ∧ c ≤ maxLen ∧ (∀ a ∈ l, a.Ok) ∧ ActsAt w A l := by
  obtain ⟨fuel, hf⟩ := h
  have hvc : v.cells = #[v] := by
    obtain ⟨A, n, c, rfl⟩ := okWide_slice Try.underlying23 hv
    rfl
  rw [hvc] at hf
  have hc : Try.prog.cellsOf 34 = 6 := by kernel_rfl
  rcases Go.Deep.open_slice Try.underlying23 hf with ⟨hcs, _⟩ | ⟨a, len, cap, m, n, D, Pl, hcs, hb, hl, hm, hmm, hx, hi⟩
  · injection hcs with hcs
    subst hcs
    exact ⟨none, 0, [], rfl, Nat.le_refl _, Nat.zero_le _, by simp, fun i a h => by simp at h⟩
  · injection hcs with hcs
    subst hcs
    have hlm : len ≤ m := by rw [hmm]; split <;> omega
    have each : ∀ i, i < len → ∃ q : ActV, q.Ok ∧ ∀ j u, q.cells[j]? = some u → w.cell? (a.add (i * 6 + j)) = some u := by
      intro i hil
      obtain ⟨cs', h1, h2⟩ := hi i (by omega)
      obtain ⟨q, hq, rfl⟩ := act_cells h2
      rw [hc] at h1
      obtain ⟨_, hlen, hcell⟩ := World.cells?_some h1
      refine ⟨q, hq, fun j u hu => ?_⟩
      have hj : j < 6 := by
        rcases Nat.lt_or_ge j 6 with h3 | h3
        · exact h3
        · rw [List.getElem?_eq_none (by unfold ActV.cells; simp; omega)] at hu; cases hu
      have h4 := hcell j (by omega)
      rw [add_of_add] at h4
      rw [h4, hu]
    obtain ⟨q, hq⟩ := Go.Deep.choose_lt (α := ActV) (p := fun i q => q.Ok ∧ ∀ j u, q.cells[j]? = some u → w.cell? (a.add (i * 6 + j)) = some u) each
    have hln : ((List.range len).map q).length = len := by simp
    refine ⟨some a, cap, (List.range len).map q, by rw [hln], by rw [hln]; exact hl, hm, ?_, ?_⟩
    · intro y hy
      obtain ⟨i, hi1, rfl⟩ := List.mem_map.1 hy
      exact (hq i (List.mem_range.1 hi1)).1
    · intro i y hy
      have hil : i < len := by
        rcases Nat.lt_or_ge i len with h3 | h3
        · exact h3
        · rw [List.getElem?_eq_none (by simp; omega)] at hy; cases hy
      rw [List.getElem?_map, List.getElem?_range hil] at hy
      injection hy with hy
      subst hy
      refine ⟨a, rfl, ?_, (hq i hil).2⟩
      have hp : (p : List MemPlace) = MemPlace.row a (m * 6) ++ (List.range m).flatMap Pl := by
        have := congrArg Prod.snd hx
        rw [hc] at this
        exact this
      have h0 : (MemPlace.row a (m * 6))[0]'(by simp [MemPlace.row]; omega) ∈ p := by
        rw [hp]
        exact List.mem_append_left _ (List.getElem_mem _)
      have h1 := hlt _ h0
      simpa [MemPlace.row, MemPlace.block] using h1
end
end Go.Proofs.Ytobeapibiebpaaa
