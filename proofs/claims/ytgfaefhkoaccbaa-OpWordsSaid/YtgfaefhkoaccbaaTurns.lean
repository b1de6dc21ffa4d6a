/-
  Words for memory that a call writes to: which blocks may turn (Turns), a row of cells told as a function (RowF), a map that is cleared. No program is named here.
-/
import Derived.Test.YtgfaefhkoaccbaaKit
import Derived.Deep.DeepFit
import Derived.Maps.OwnSet
import Derived.Maps.RangeWalk
namespace Go.Proofs.Ytgfaefhkoaccbaa
open Go.ChangeShapes Go.WideShapes Go.ChangeAt Go.RowKit Go.Maps
set_option linter.unusedVariables false

/-- w' is w but for the blocks of F, and for new ones -/
structure Turns (F : Nat → Prop) (w w' : World) : Prop where
  os : w'.os = w.os
  tape : w'.tape = w.tape
  output : w'.output = w.output
  size : w.heap.size ≤ w'.heap.size
  block : ∀ i, i < w.heap.size → ¬ F i → w'.heap[i]? = w.heap[i]?

section
variable {F G : Nat → Prop} {w w' w'' : World}
theorem T0 (F : Nat → Prop) (w : World) : Turns F w w := ⟨rfl, rfl, rfl, Nat.le_refl _, fun _ _ _ => rfl⟩
theorem Turns.trans (h : Turns F w w') (k : Turns F w' w'') : Turns F w w'' :=
  ⟨k.os.trans h.os, k.tape.trans h.tape, k.output.trans h.output, Nat.le_trans h.size k.size, fun i hi hf => (k.block i (Nat.lt_of_lt_of_le hi h.size) hf).trans (h.block i hi hf)⟩
theorem Turns.more (h : Turns F w w') (hg : ∀ i, F i → G i) : Turns G w w' := ⟨h.os, h.tape, h.output, h.size, fun i hi hf => h.block i hi (fun x => hf (hg i x))⟩
theorem Turns.more_new {W : World} (h : Turns F w w') (hs : W.heap.size ≤ w.heap.size) (hb : Turns G W w) (hg : ∀ i, F i → G i ∨ W.heap.size ≤ i) : Turns G W w' :=
  ⟨h.os.trans hb.os, h.tape.trans hb.tape, h.output.trans hb.output, Nat.le_trans hs h.size, fun i hi hf => (h.block i (Nat.lt_of_lt_of_le hi hs) (fun x => by
    rcases hg i x with h1 | h1
    · exact hf h1
    · omega)).trans (hb.block i hi hf)⟩
theorem Turns.of_below (h : Below w.heap.size w w') (F : Nat → Prop) : Turns F w w' := ⟨h.os, h.tape, h.output, h.size, fun i hi _ => h.block i hi⟩
theorem Turns.of_grown {b : Nat} (h : w.grownBy w' (some b)) (hb : F b) : Turns F w w' := ⟨h.os, h.tape, h.output, h.size, fun i hi hf => h.block i hi (fun e => by injection e with e; subst e; exact hf hb)⟩
theorem Turns.draw (h : Turns F w w') (n : Nat) : Turns F w (w'.drewN n) := ⟨h.os, h.tape, h.output, h.size, h.block⟩
theorem Turns.drew (h : Turns F w w') : Turns F w w'.drew := ⟨h.os, h.tape, h.output, h.size, h.block⟩
theorem Turns.alloc (h : Turns F w w') (o : Obj) : Turns F w (w'.alloc o) := h.trans (Turns.of_below (Bnew (B0 _) o) F)
theorem Turns.put (h : Turns F w w') {p : Addr} (hp : F p.block) (u : Value) : Turns F w (w'.setCell p u) :=
  ⟨h.os, h.tape, h.output, by simp; exact h.size, fun i hi hf => (Below.heap_setCell w' p u i (fun e => by subst e; exact hf hp)).trans (h.block i hi hf)⟩
theorem Turns.put_new (h : Turns F w w') {p : Addr} (hp : w.heap.size ≤ p.block) (u : Value) : Turns F w (w'.setCell p u) :=
  ⟨h.os, h.tape, h.output, by simp; exact h.size, fun i hi hf => (Below.heap_setCell w' p u i (fun e => by omega)).trans (h.block i hi hf)⟩
theorem Turns.below {W : World} (h : Turns F w w') (hb : Below W.heap.size W w) (hf : ∀ i, F i → W.heap.size ≤ i) : Below W.heap.size W w' :=
  ⟨h.os.trans hb.os, h.tape.trans hb.tape, h.output.trans hb.output, Nat.le_trans hb.size h.size, fun i hi => (h.block i (Nat.lt_of_lt_of_le hi hb.size) (fun x => by have := hf i x; omega)).trans (hb.block i hi)⟩
theorem Turns.held {g : Nat} {t : TypeId} {cs : Array Value} (h : Turns F w w') (hg : Held w g t cs) (hf : ¬ F g) : Held w' g t cs := (h.block g hg.lt hf).trans hg
end

/-! a row of cells, told as a function of the place -/
def updF {α : Type} (f : Nat → α) (i : Nat) (u : α) : Nat → α := fun j => if j = i then u else f j
theorem updF_same {α : Type} (f : Nat → α) (i : Nat) (u : α) : updF f i u i = u := if_pos rfl
theorem updF_other {α : Type} (f : Nat → α) {i j : Nat} (u : α) (h : j ≠ i) : updF f i u j = f j := if_neg h
theorem updF_map {α β : Type} (f : Nat → α) (i : Nat) (u : α) (m : α → β) : (fun j => m (updF f i u j)) = updF (fun j => m (f j)) i (m u) := by
  funext j
  unfold updF
  split <;> rfl

/-- block g is a row of c cells, of which the first n are told by f -/
def RowF (w : World) (g : Nat) (t : TypeId) (n c : Nat) (f : Nat → Value) : Prop :=
  ∃ cs : Array Value, Held w g t cs ∧ cs.size = c ∧ n ≤ c ∧ c ≤ maxLen ∧ ∀ i, i < n → cs[i]? = some (f i)

section
variable {w w' : World} {g : Nat} {t : TypeId} {n c : Nat} {f : Nat → Value}
theorem RowF.lt (h : RowF w g t n c f) : g < w.heap.size := by obtain ⟨cs, h1, _⟩ := h; exact h1.lt
theorem RowF.le (h : RowF w g t n c f) : n ≤ c := by obtain ⟨cs, _, _, h1, _⟩ := h; exact h1
theorem RowF.max (h : RowF w g t n c f) : c ≤ maxLen := by obtain ⟨cs, _, _, _, h1, _⟩ := h; exact h1
theorem RowF.cell (h : RowF w g t n c f) {i : Nat} (hi : i < n) : w.cell? ⟨g, i, none⟩ = some (f i) := by
  obtain ⟨cs, h1, _, _, _, h2⟩ := h
  exact (h1.cell i).trans (h2 i hi)
theorem RowF.thawed (h : RowF w g t n c f) (i : Nat) : w.frozen? ⟨g, i, none⟩ = false := by obtain ⟨cs, h1, _⟩ := h; exact h1.thawed i
theorem RowF.same (h : RowF w g t n c f) (hb : w'.heap[g]? = w.heap[g]?) : RowF w' g t n c f := by
  obtain ⟨cs, h1, r⟩ := h
  exact ⟨cs, hb.trans h1, r⟩
theorem RowF.turns {F : Nat → Prop} (h : RowF w g t n c f) (hb : Turns F w w') (hf : ¬ F g) : RowF w' g t n c f := h.same (hb.block g h.lt hf)
theorem RowF.keep (h : RowF w g t n c f) (hb : Below w.heap.size w w') : RowF w' g t n c f := h.same (hb.block g h.lt)
theorem RowF.put (h : RowF w g t n c f) {i : Nat} (hi : i < n) (u : Value) : RowF (w.setCell ⟨g, i, none⟩ u) g t n c (updF f i u) := by
  obtain ⟨cs, h1, h2, h3, h4, h5⟩ := h
  refine ⟨_, h1.put i u, by simp [h2], h3, h4, fun j hj => ?_⟩
  by_cases e : j = i
  · subst e
    rw [updF_same]
    simp [Array.getElem?_setIfInBounds]
    omega
  · rw [updF_other _ _ e, Array.getElem?_setIfInBounds_ne (by omega)]
    exact h5 j hj
theorem RowF.far (h : RowF w g t n c f) {p : Addr} (hp : g ≠ p.block) (u : Value) : RowF (w.setCell p u) g t n c f := h.same (Below.heap_setCell w p u g hp)
theorem RowF.congr {f' : Nat → Value} (h : RowF w g t n c f) (e : ∀ i, i < n → f i = f' i) : RowF w g t n c f' := by
  obtain ⟨cs, h1, h2, h3, h4, h5⟩ := h
  exact ⟨cs, h1, h2, h3, h4, fun i hi => by rw [h5 i hi, e i hi]⟩
theorem RowF.of_own {base : Nat} {e : TypeId} {cap : Nat} (h : w.ownsRow base e 1 (.slice (some ⟨g, 0, none⟩) n cap) n ((List.range n).map f)) : base ≤ g ∧ RowF w g e n cap f := by
  rcases h.2 with ⟨h1, _⟩ | ⟨g', cap', cur, hv, hb, hg, hnc, hcm, hcs, htake⟩
  · cases h1
  · injection hv with h1 h2 h3
    injection h1 with h1
    injection h1 with h1
    subst h1
    subst h3
    refine ⟨hb, cur, hg, by simpa using hcs, by omega, by omega, fun i hi => ?_⟩
    have h4 := h.cellAt i (by omega)
    rw [Held.cell hg i] at h4
    rw [h4]
    simp [hi]
theorem RowF.reads (h : RowF w g t n c f) {B : Nat} (hB : g < B) : Reads w B 1 (some ⟨g, 0, none⟩) n ((List.range n).map f) := by
  refine ⟨by simp, fun hn => ⟨_, rfl, hB, fun j u hu => ?_⟩⟩
  have hj : j < n := by
    rcases Nat.lt_or_ge j n with h1 | h1
    · exact h1
    · rw [List.getElem?_eq_none (by simp; omega)] at hu; cases hu
  have e : (⟨g, 0, none⟩ : Addr).add j = ⟨g, j, none⟩ := by
    unfold Addr.add
    by_cases hz : j = 0
    · rw [if_pos hz, hz]
    · rw [if_neg hz]; simp
  rw [e, h.cell hj]
  rw [List.getElem?_map, List.getElem?_range hj] at hu
  exact hu
end

/-! a map that is cleared -/
section
variable {H : Type} {P : Program} {k : TypeId} {R : Value → Option (DataW H × List MemPlace)} {w : World} {b n : Nat} {D : DataW H}
theorem owns_clear {t e : TypeId} (h : w.ownsMap P k R b n D) (ht : P.underlying t = some (.map k e)) (ty : TypeId) :
    ∃ w', (Builtin.clear_ #[t] ty #[.map (some b)]).run P w = .ok (.tuple #[]) w' ∧ w'.ownsMap P k R b 0 (.map []) ∧ w.mapTurned w' b := by
  obtain ⟨es, clock, hb, F, hs, rfl⟩ := h
  refine ⟨ChangeMaps.setBlock w b (.map #[] clock), ?_, ⟨#[], clock, ChangeMaps.heap_setBlock_same hb _, ⟨by simp, MapKept.stamped_empty clock, by simp⟩, Nat.le_refl _, rfl⟩, ⟨es, clock, #[], clock, hb, rfl⟩⟩
  simp [Builtin.clear_, run_underlying ht, MapKept.run_getObj_map hb, MapKept.run_setObj_map _ hb, Result.andThen]
  rfl
theorem owns_turns {F : Nat → Prop} {w' : World} (h : w.ownsMap P k R b n D) (hb : Turns F w w') (hf : ¬ F b) : w'.ownsMap P k R b n D := by
  have hlt := h.lt
  obtain ⟨es, clock, h1, r⟩ := h
  exact ⟨es, clock, (hb.block b hlt hf).trans h1, r⟩
theorem owns_tight (h : w.ownsMap P k R b n D) : w.ownsMap P k R b (Maps.size D) D := by
  obtain ⟨es, clock, hb, F, hs, rfl⟩ := h
  exact ⟨es, clock, hb, F, by simp [Maps.size, length_sorted], rfl⟩
end
section
variable {H : Type} {P : Program} (w : World) {ops : Array Oper} {rest : List Oper} {o : Oper} {a : Act} {Q : Exit → Act → World → Prop}
theorem wpList_clear_own (hg : o.guard = none) (m : Operand) (t : TypeId) (hop : o.op = Op.call { callee := Callee.builtin Builtin.clear, args := #[m], argTypes := #[t] })
    (k e : TypeId) (ht : P.underlying t = some (.map k e)) (R : Value → Option (DataW H × List MemPlace)) (b n : Nat) (D : DataW H)
    (hm : a.eval m = .map (some b)) (h : w.ownsMap P k R b n D)
    (hK : ∀ w', w'.ownsMap P k R b 0 (.map [] : DataW H) → w.mapTurned w' b → wpList P ops Q rest (a.put o.dst (.tuple #[])) w') :
    wpList P ops Q (o :: rest) a w := by
  refine wpList_plain hg fun K' hK' => ?_
  obtain ⟨w', hrun, r2, r3⟩ := owns_clear h ht o.type
  unfold Oper.wp
  simp [execOp, hop, resolve, invoke, builtin, hm, hrun, Result.andThen]
  exact hK' _ _ (hK w' r2 r3)
end
end Go.Proofs.Ytgfaefhkoaccbaa
