/-
  Steps (nacrelaw14.Step): a list of them, and one, that came in, opened. Written by view/gen_structs.py.
-/
import Derived.Test.YtpndfhdedmdoeaaOwn
import Derived.Deep.Slices
import Derived.Lib.SmallJoins
namespace Go.Proofs.Ytpndfhdedmdoeaa
open Go.ChangeShapes Go.WideShapes Go.ChangeAt Go.RowKit
set_option linter.unusedVariables false
set_option maxRecDepth 100000
set_option linter.unusedSimpArgs false

structure BinStep where
  drop : Bool
  page : Int
  nn : Int
instance : Inhabited BinStep := ⟨⟨false, 0, 0⟩⟩
structure BinStep.Ok (a : BinStep) : Prop where
  page : (Lit.int .i64 a.page).wf = true
  nn : (Lit.int .i64 a.nn).wf = true
def BinStep.cells (a : BinStep) : List Value := [.bool a.drop, .int .i64 a.page, .int .i64 a.nn]
def BinStep.v (a : BinStep) : Value := .agg #[.bool a.drop, .int .i64 a.page, .int .i64 a.nn]
/-- a slice at A holds these -/
def BinSteps (w : World) (A : Option Addr) (l : List BinStep) : Prop :=
  ∀ i a, l[i]? = some a → ∃ ad, A = some ad ∧ ad.block < w.heap.size ∧ ∀ j u, a.cells[j]? = some u → w.cell? (ad.add (i * 3 + j)) = some u
theorem BinSteps.below {w w' : World} {A : Option Addr} {l : List BinStep} (h : BinSteps w A l) (hb : Below w.heap.size w w') : BinSteps w' A l := fun i a ha => by
  obtain ⟨ad, e, h1, h2⟩ := h i a ha
  exact ⟨ad, e, Nat.lt_of_lt_of_le h1 hb.size, fun j u hu => (hb.cell (p := ad.add (i * 3 + j)) (by rw [block_of_add]; exact h1)).trans (h2 j u hu)⟩
/-- its cells at p, as a walk asks for them -/
def BinStepAt (w : World) (p : Addr) (a : BinStep) : Prop :=
  w.cell? p = some (.bool a.drop) ∧ w.cell? ⟨p.block, p.off + 1, none⟩ = some (.int .i64 a.page) ∧ w.cell? ⟨p.block, p.off + 2, none⟩ = some (.int .i64 a.nn)
theorem binStep_off (p : Addr) (j : Nat) (h : j ≠ 0) : p.add j = ⟨p.block, p.off + j, none⟩ := by unfold Addr.add; rw [if_neg h]
theorem BinSteps.cells {w : World} {ad : Addr} {l : List BinStep} (h : BinSteps w (some ad) l) {i : Nat} {a : BinStep} (ha : l[i]? = some a) : BinStepAt w (ad.add (i * 3)) a := by
  obtain ⟨ad', e, _, h2⟩ := h i a ha
  injection e with e
  subst e
  have h10 := h2 0 _ rfl
  have h11 := h2 1 _ rfl
  have h12 := h2 2 _ rfl
  rw [← add_of_add] at h10 h11 h12
  rw [binStep_off _ _ (by omega)] at h11 h12
  exact ⟨h10, h11, h12⟩

section
variable {H : Type} {enc : TypeId × Value → H} {w : World} {base : Nat} {sp : Nat → Bool} {held : Bool}
theorem binStep_cells {fuel : Nat} {cs : List Value} {x : DataW H × List MemPlace} (h : DataW.trod enc Try.prog w base sp held fuel 33 cs = some x) : ∃ a : BinStep, a.Ok ∧ cs = a.cells := by
  obtain ⟨xs, n, _, _, hl, hxl, hf⟩ := DataW.trod_struct Try.underlying33 h
  have hc : Try.prog.cellsOf 33 = 3 := by kernel_rfl
  have s_bool : Try.prog.cellsOf 4 = 1 := by kernel_rfl
  have s_int : Try.prog.cellsOf 3 = 1 := by kernel_rfl
  rw [hc] at hl
  match cs, hl, xs, hxl with
  | [v0, v1, v2], _, [y0, y1, y2], _ =>
    have g0 := hf 0 _ rfl
    have g1 := hf 1 _ rfl
    have g2 := hf 2 _ rfl
    simp [s_bool, s_int] at g0 g1 g2
    obtain ⟨a0, e0, _⟩ := DataW.trod_bool Try.underlying4 g0
    obtain ⟨a1, e1, _, w1⟩ := DataW.trod_int Try.underlying3 g1
    obtain ⟨a2, e2, _, w2⟩ := DataW.trod_int Try.underlying3 g2
    simp at e0 e1 e2
    subst e0 e1 e2
    exact ⟨⟨a0, a1, a2⟩, ⟨w1, w2⟩, rfl⟩
theorem open_binStep {r : Reach} {b0 : Nat} {v : Value} {d : DataW H} {p : List MemPlace} (hv : Value.okWide Try.prog w r b0 33 v) (h : DataW.Trod enc Try.prog w base sp held 33 v d p) :
    ∃ a : BinStep, a.Ok ∧ v = a.v := by
  obtain ⟨cs, rfl, hsz⟩ := okWide_struct Try.underlying33 hv
  obtain ⟨fuel, hf⟩ := h
  obtain ⟨a, ha, hc⟩ := binStep_cells hf
  refine ⟨a, ha, ?_⟩
  obtain ⟨l⟩ := cs
  simp [Value.cells] at hc
  subst hc
  rfl
theorem open_binSteps {r : Reach} {b0 : Nat} {v : Value} {d : DataW H} {p : List MemPlace} (hv : Value.okWide Try.prog w r b0 25 v) (h : DataW.Trod enc Try.prog w base sp held 25 v d p) (hlt : ∀ x ∈ p, x.block < w.heap.size) :
    ∃ (A : Option Addr) (c : Nat) (l : List BinStep), v = .slice A l.length c ∧ l.length ≤ c ∧ c ≤ maxLen ∧ (∀ a ∈ l, a.Ok) ∧ BinSteps w A l := by
  obtain ⟨fuel, hf⟩ := h
  have hvc : v.cells = #[v] := by
    obtain ⟨A, n, c, rfl⟩ := okWide_slice Try.underlying25 hv
    rfl
  rw [hvc] at hf
  have hc : Try.prog.cellsOf 33 = 3 := by kernel_rfl
  rcases Go.Deep.open_slice Try.underlying25 hf with ⟨hcs, _⟩ | ⟨a, len, cap, m, n, D, Pl, hcs, hb, hl, hm, hmm, hx, hi⟩
  · injection hcs with hcs
    subst hcs
    exact ⟨none, 0, [], rfl, Nat.le_refl _, Nat.zero_le _, by simp, fun i a h => by simp at h⟩
  · injection hcs with hcs
    subst hcs
    have hlm : len ≤ m := by rw [hmm]; split <;> omega
    have each : ∀ i, i < len → ∃ q : BinStep, q.Ok ∧ ∀ j u, q.cells[j]? = some u → w.cell? (a.add (i * 3 + j)) = some u := by
      intro i hil
      obtain ⟨cs', h1, h2⟩ := hi i (by omega)
      obtain ⟨q, hq, rfl⟩ := binStep_cells h2
      rw [hc] at h1
      obtain ⟨_, hlen, hcell⟩ := World.cells?_some h1
      refine ⟨q, hq, fun j u hu => ?_⟩
      have hj : j < 3 := by
        rcases Nat.lt_or_ge j 3 with h3 | h3
        · exact h3
        · rw [List.getElem?_eq_none (by unfold BinStep.cells; simp; omega)] at hu; cases hu
      have h4 := hcell j (by omega)
      rw [add_of_add] at h4
      rw [h4, hu]
    obtain ⟨q, hq⟩ := Go.Deep.choose_lt (α := BinStep) (p := fun i q => q.Ok ∧ ∀ j u, q.cells[j]? = some u → w.cell? (a.add (i * 3 + j)) = some u) each
    have hln : ((List.range len).map q).length = len := by simp
    refine ⟨some a, cap, (List.range len).map q, by rw [hln], by rw [hln]; exact hl, hm, ?_, ?_⟩
    · intro y hy
      obtain ⟨i, hi1, rfl⟩ := List.mem_map.1 hy
      exact (hq i (List.mem_range.1 hi1)).1
    · intro i y hy
      have hil : i < len := by
        rcases Nat.lt_or_ge i len with h3 | h3
        · exact h3
        · rw [List.getElem?_eq_none (by simp; omega)] at hy; cases hy
      rw [List.getElem?_map, List.getElem?_range hil] at hy
      injection hy with hy
      subst hy
      refine ⟨a, rfl, ?_, (hq i hil).2⟩
      have hp : (p : List MemPlace) = MemPlace.row a (m * 3) ++ (List.range m).flatMap Pl := by
        have := congrArg Prod.snd hx
        rw [hc] at this
        exact this
      have h0 : (MemPlace.row a (m * 3))[0]'(by simp [MemPlace.row]; omega) ∈ p := by
        rw [hp]
        exact List.mem_append_left _ (List.getElem_mem _)
      have h1 := hlt _ h0
      simpa [MemPlace.row, MemPlace.block] using h1
end
end Go.Proofs.Ytpndfhdedmdoeaa
