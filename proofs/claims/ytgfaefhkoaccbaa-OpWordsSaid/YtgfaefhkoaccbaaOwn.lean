/-
  A struct of several slices, each a row of the call's own: which rows they are (OwnAll), a store into one, an append to one, a store into the struct. No program is named here.
-/
import Derived.Test.YtgfaefhkoaccbaaTurns
namespace Go.Proofs.Ytgfaefhkoaccbaa
open Go.ChangeShapes Go.WideShapes Go.ChangeAt Go.RowKit Go.Maps
set_option linter.unusedVariables false

/-- k slice values v, of n elements of sz cells each, that own their rows xs from block base on; no two lie in one block, and none in block b -/
structure OwnAll (w : World) (base b k : Nat) (e : Nat → TypeId) (sz : Nat → Nat) (v : Nat → Value) (n : Nat → Nat) (xs : Nat → List Value) : Prop where
  own : ∀ i, i < k → w.ownsRow base (e i) (sz i) (v i) (n i) (xs i)
  apart : ∀ i j g, i < k → j < k → (v i).ownBlock = some g → (v j).ownBlock = some g → i = j
  notb : ∀ i, i < k → (v i).ownBlock ≠ some b
/-- the blocks that such a struct at b stands in -/
def OwnF (b k : Nat) (v : Nat → Value) : Nat → Prop := fun g => g = b ∨ ∃ i, i < k ∧ (v i).ownBlock = some g

section
variable {w w' : World} {base b k : Nat} {e : Nat → TypeId} {sz : Nat → Nat} {v : Nat → Value} {n : Nat → Nat} {xs : Nat → List Value}
theorem own_kept {e : TypeId} {size n : Nat} {v : Value} {xs : List Value} (h : w.ownsRow base e size v n xs) (hb : ∀ g, v.ownBlock = some g → w'.heap[g]? = w.heap[g]?) : w'.ownsRow base e size v n xs := by
  refine ⟨h.1, ?_⟩
  rcases h.2 with h2 | ⟨g, cap, cur, rfl, hbg, hg, hr⟩
  · exact .inl h2
  · exact .inr ⟨g, cap, cur, rfl, hbg, (hb g rfl).trans hg, hr⟩
theorem OwnAll.lt (h : OwnAll w base b k e sz v n xs) {i g : Nat} (hi : i < k) (hg : (v i).ownBlock = some g) : base ≤ g ∧ g < w.heap.size := (h.own i hi).lt g hg
theorem OwnAll.turns {F : Nat → Prop} (h : OwnAll w base b k e sz v n xs) (ht : Turns F w w') (hf : ∀ i g, i < k → (v i).ownBlock = some g → ¬ F g) : OwnAll w' base b k e sz v n xs :=
  ⟨fun i hi => own_kept (h.own i hi) (fun g hg => ht.block g (h.lt hi hg).2 (hf i g hi hg)), h.apart, h.notb⟩
theorem OwnAll.keep (h : OwnAll w base b k e sz v n xs) (hb : Below w.heap.size w w') : OwnAll w' base b k e sz v n xs := h.turns (F := fun _ => False) (Turns.of_below hb _) (fun _ _ _ _ x => x)
theorem OwnAll.setB (h : OwnAll w base b k e sz v n xs) (o : Nat) (u : Value) : OwnAll (w.setCell ⟨b, o, none⟩ u) base b k e sz v n xs :=
  h.turns ((T0 (fun i => i = b) w).put (p := ⟨b, o, none⟩) rfl u) (fun i g hi hg hf => h.notb i hi (by rw [hg, hf]))
theorem OwnAll.form (h : OwnAll w base b k e sz v n xs) {i : Nat} (hi : i < k) (hn : 0 < n i) : ∃ g cap, v i = .slice (some ⟨g, 0, none⟩) (n i) cap ∧ base ≤ g ∧ g < w.heap.size := (h.own i hi).form hn
theorem OwnAll.cell (h : OwnAll w base b k e sz v n xs) {i g cap : Nat} (hi : i < k) (hv : v i = .slice (some ⟨g, 0, none⟩) (n i) cap) {j : Nat} (hj : j < n i * sz i) :
    w.cell? ⟨g, j, none⟩ = (xs i)[j]? ∧ w.frozen? ⟨g, j, none⟩ = false := by
  have h1 := h.own i hi
  rw [hv] at h1
  exact ⟨h1.cellAt j hj, h1.frozenAt j⟩
/-- a store into one row -/
theorem OwnAll.put (h : OwnAll w base b k e sz v n xs) {i g cap : Nat} (hi : i < k) (hv : v i = .slice (some ⟨g, 0, none⟩) (n i) cap) (j : Nat) (u : Value) :
    OwnAll (w.setCell ⟨g, j, none⟩ u) base b k e sz v n (updF xs i ((xs i).set j u)) ∧ Turns (fun x => x = g) w (w.setCell ⟨g, j, none⟩ u) := by
  have hg : (v i).ownBlock = some g := by rw [hv]; rfl
  have ht : Turns (fun x => x = g) w (w.setCell ⟨g, j, none⟩ u) := (T0 (fun x => x = g) w).put (p := ⟨g, j, none⟩) rfl u
  refine ⟨⟨fun i' hi' => ?_, h.apart, h.notb⟩, ht⟩
  by_cases e1 : i' = i
  · subst e1
    rw [updF_same]
    have h1 := h.own i' hi'
    rw [hv] at h1 ⊢
    exact (h1.stored j u).1
  · rw [updF_other _ _ e1]
    exact own_kept (h.own i' hi') (fun g' hg' => ht.block g' (h.lt hi' hg').2 (fun e2 => e1 (h.apart i' i g' hi' hi hg' (by rw [hg, e2]))))
/-- one slice is another one: its own row was appended to, in place or in a new block -/
theorem OwnAll.grown (h : OwnAll w base b k e sz v n xs) (hbl : b < w.heap.size) {i : Nat} (hi : i < k) {v' : Value} {n' : Nat} {xs' : List Value} (hown : w'.ownsRow base (e i) (sz i) v' n' xs') (hg : w.grownBy w' (v i).ownBlock)
    (hloc : ∀ g, v'.ownBlock = some g → (v i).ownBlock = some g ∨ w.heap.size ≤ g) : OwnAll w' base b k e sz (updF v i v') (updF n i n') (updF xs i xs') := by
  refine ⟨fun i' hi' => ?_, fun i1 i2 g h1 h2 g1 g2 => ?_, fun i' hi' hb' => ?_⟩
  · by_cases e1 : i' = i
    · subst e1
      rw [updF_same, updF_same, updF_same]
      exact hown
    · rw [updF_other _ _ e1, updF_other _ _ e1, updF_other _ _ e1]
      exact own_kept (h.own i' hi') (fun g' hg' => hg.block g' (h.lt hi' hg').2 (fun e2 => e1 (h.apart i' i g' hi' hi hg' e2.symm)))
  · by_cases e1 : i1 = i <;> by_cases e2 : i2 = i
    · rw [e1, e2]
    · exfalso
      subst e1
      rw [updF_same] at g1
      rw [updF_other _ _ e2] at g2
      rcases hloc g g1 with h3 | h3
      · exact e2 (h.apart i2 i1 g h2 h1 g2 h3)
      · have := (h.lt h2 g2).2; omega
    · exfalso
      subst e2
      rw [updF_same] at g2
      rw [updF_other _ _ e1] at g1
      rcases hloc g g2 with h3 | h3
      · exact e1 (h.apart i1 i2 g h1 h2 g1 h3)
      · have := (h.lt h1 g1).2; omega
    · rw [updF_other _ _ e1] at g1
      rw [updF_other _ _ e2] at g2
      exact h.apart i1 i2 g h1 h2 g1 g2
  · by_cases e1 : i' = i
    · subst e1
      rw [updF_same] at hb'
      rcases hloc b hb' with h3 | h3
      · exact h.notb i' hi' h3
      · omega
    · rw [updF_other _ _ e1] at hb'
      exact h.notb i' hi' hb'
/-- nothing yet: all are nil -/
theorem OwnAll.nil (w : World) (base b k : Nat) (e : Nat → TypeId) (sz : Nat → Nat) : OwnAll w base b k e sz (fun _ => .slice none 0 0) (fun _ => 0) (fun _ => []) :=
  ⟨fun i _ => World.ownsRow_nil _ _ _ _, fun i j g _ _ h => by simp [Value.ownBlock] at h, fun i _ h => by simp [Value.ownBlock] at h⟩
theorem OwnAll.F_new (h : OwnAll w base b k e sz v n xs) (hb : base ≤ b) : ∀ g, OwnF b k v g → base ≤ g := fun g hg => by
  rcases hg with rfl | ⟨i, hi, hg⟩
  · exact hb
  · exact (h.lt hi hg).1
theorem OwnAll.F_lt (h : OwnAll w base b k e sz v n xs) (hb : b < w.heap.size) : ∀ g, OwnF b k v g → g < w.heap.size := fun g hg => by
  rcases hg with rfl | ⟨i, hi, hg⟩
  · exact hb
  · exact (h.lt hi hg).2
/-- behind an append the struct stands in the blocks that it stood in, and new ones -/
theorem OwnF_grown {v' : Value} {i : Nat} (hi : i < k) (hloc : ∀ g, v'.ownBlock = some g → (v i).ownBlock = some g ∨ w.heap.size ≤ g) : ∀ g, OwnF b k (updF v i v') g → OwnF b k v g ∨ w.heap.size ≤ g := fun g hg => by
  rcases hg with rfl | ⟨j, hj, hg⟩
  · exact .inl (.inl rfl)
  · by_cases e1 : j = i
    · subst e1
      rw [updF_same] at hg
      rcases hloc g hg with h1 | h1
      · exact .inl (.inr ⟨j, hj, h1⟩)
      · exact .inr h1
    · rw [updF_other _ _ e1] at hg
      exact .inl (.inr ⟨j, hj, hg⟩)
end
end Go.Proofs.Ytgfaefhkoaccbaa
