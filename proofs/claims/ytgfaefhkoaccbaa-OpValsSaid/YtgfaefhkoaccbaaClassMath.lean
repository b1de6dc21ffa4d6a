/-
  The sizes of small blocks: numbers only.
-/
import Derived.Test.YtgfaefhkoaccbaaConfMore
namespace Go.Proofs.Ytgfaefhkoaccbaa
set_option linter.unusedVariables false

def slotN (k : Nat) : Nat := ([32, 21, 16, 10, 8, 5, 4, 3, 2] : List Nat).getD k 0
/-- how many slots a slab of the class k has -/
def slotI (k : Int) : Nat := if 0 ≤ k then slotN k.toNat else 0
theorem slotI_nat (k : Nat) : slotI (k : Int) = slotN k := by unfold slotI; simp
theorem slotN_out {k : Nat} (h : 9 ≤ k) : slotN k = 0 := by unfold slotN; simp [List.getD, List.getElem?_eq_none (show ([32, 21, 16, 10, 8, 5, 4, 3, 2] : List Nat).length ≤ k by simpa using h)]
theorem slotI_out {k : Int} (h : k < 0 ∨ 9 ≤ k) : slotI k = 0 := by
  unfold slotI
  split
  · exact slotN_out (by omega)
  · rfl
theorem slotN_in {k : Nat} (h : k < 9) : 2 ≤ slotN k ∧ slotN k ≤ 32 := by
  have : ∀ j, j < 9 → 2 ≤ slotN j ∧ slotN j ≤ 32 := by decide
  exact this k h
theorem slotI_le (k : Int) : slotI k ≤ 32 := by
  by_cases h : 0 ≤ k ∧ k < 9
  · have := slotN_in (k := k.toNat) (by omega)
    unfold slotI; rw [if_pos h.1]; omega
  · rw [slotI_out (by omega)]; omega
theorem slotI_zero {k : Int} : slotI k = 0 ↔ k < 0 ∨ 9 ≤ k := by
  constructor
  · intro h
    by_cases hk : 0 ≤ k ∧ k < 9
    · have := slotN_in (k := k.toNat) (by omega)
      unfold slotI at h; rw [if_pos hk.1] at h; omega
    · omega
  · exact slotI_out

/-- how many bytes a page of the shift s has -/
def pageS (s : Int) : Nat := pageN 1 4 s
theorem pageS_no {s : Int} (h : s < 10 ∨ 20 < s) : pageS s = 0 := page_no (rightB_not (by omega))
theorem pageS_yes {s : Int} (h : 10 ≤ s ∧ s ≤ 20) : pageS s = 2 ^ s.toNat := page_yes (rightB_mk (by omega))
theorem pageS_le (s : Int) : pageS s ≤ 1048576 := by
  by_cases h : 10 ≤ s ∧ s ≤ 20
  · rw [pageS_yes h]
    exact (pow_bounds _ (by omega)).2
  · rw [pageS_no (by omega)]; omega
theorem pageS_zero {s : Int} : pageS s = 0 ↔ s < 10 ∨ 20 < s := by
  constructor
  · intro h
    by_cases hs : 10 ≤ s ∧ s ≤ 20
    · rw [pageS_yes hs] at h
      have := (pow_bounds s.toNat (by omega)).1
      omega
    · omega
  · exact pageS_no

/-- how many bytes a slot of the class k has -/
def sizeN (s k : Int) : Nat := pageS s / slotI k - pageS s / slotI k % 16
theorem sizeN_le (s k : Int) : sizeN s k ≤ 1048576 := by
  have h1 := pageS_le s
  have h2 := Nat.div_le_self (pageS s) (slotI k)
  unfold sizeN
  generalize pageS s / slotI k = q at *
  omega
theorem sizeN_noclass {s k : Int} (h : k < 0 ∨ 9 ≤ k) : sizeN s k = 0 := by unfold sizeN; rw [slotI_out h]; simp
theorem sizeN_noshift {s k : Int} (h : s < 10 ∨ 20 < s) : sizeN s k = 0 := by unfold sizeN; rw [pageS_no h]; simp

/-- all that the page promises of the sizes, shift by shift, class by class -/
theorem sizes_all : ∀ s : Nat, s < 11 → ∀ k : Nat, k < 9 →
    let z := 2 ^ (s + 10) / slotN k - 2 ^ (s + 10) / slotN k % 16
    z % 16 = 0 ∧ 16 ≤ z ∧ z * slotN k ≤ 2 ^ (s + 10) ∧ z ≤ 2 ^ (s + 10) / 2 ∧ (k = 8 → z = 2 ^ (s + 10) / 2) ∧
      (0 < k → 2 ^ (s + 10) / slotN (k - 1) - 2 ^ (s + 10) / slotN (k - 1) % 16 < z) := by decide +kernel

theorem size_at {s : Int} (h : 10 ≤ s ∧ s ≤ 20) (k : Nat) : sizeN s (k : Int) = 2 ^ (s.toNat - 10 + 10) / slotN k - 2 ^ (s.toNat - 10 + 10) / slotN k % 16 := by
  unfold sizeN
  rw [pageS_yes h, slotI_nat, show s.toNat - 10 + 10 = s.toNat by omega]
theorem size_facts {s : Int} (h : 10 ≤ s ∧ s ≤ 20) {k : Nat} (hk : k < 9) :
    sizeN s (k : Int) % 16 = 0 ∧ 16 ≤ sizeN s (k : Int) ∧ sizeN s (k : Int) * slotN k ≤ pageS s ∧ sizeN s (k : Int) ≤ pageS s / 2 ∧ (k = 8 → sizeN s (k : Int) = pageS s / 2) ∧
      (0 < k → sizeN s ((k - 1 : Nat) : Int) < sizeN s (k : Int)) := by
  have := sizes_all (s.toNat - 10) (by omega) k hk
  simp only [] at this
  rw [size_at h k, size_at h (k - 1), pageS_yes h, show s.toNat = s.toNat - 10 + 10 by omega]
  simpa using this
theorem size_pos {s : Int} (h : 10 ≤ s ∧ s ≤ 20) {k : Nat} (hk : k < 9) : 0 < sizeN s (k : Int) := by
  have := (size_facts h hk).2.1
  omega

/-- the class of a size: the first whose slots are as great -/
def classOf (s z : Int) : Option Nat := if z < 1 then none else (List.range 9).find? fun k => decide (z ≤ (sizeN s (k : Int) : Int))
def classK (s z : Int) : Int := match classOf s z with | some k => (k : Int) | none => 0
def classB (s z : Int) : Bool := (classOf s z).isSome
theorem class_yes {s z : Int} {k : Nat} (hz : 1 ≤ z) (hk : k < 9) (h : z ≤ (sizeN s (k : Int) : Int)) (hb : ∀ j, j < k → (sizeN s (j : Int) : Int) < z) : classOf s z = some k := by
  unfold classOf
  rw [if_neg (by omega), List.find?_range_eq_some]
  refine ⟨by simpa using h, by simpa using hk, fun j hj => ?_⟩
  have := hb j hj
  simp
  omega
theorem class_small {s z : Int} (hz : z < 1) : classOf s z = none := by unfold classOf; rw [if_pos hz]
theorem class_none {s z : Int} (h : ∀ j : Nat, j < 9 → (sizeN s (j : Int) : Int) < z) : classOf s z = none := by
  unfold classOf
  split
  · rfl
  · rw [List.find?_range_eq_none]
    intro j hj
    have := h j hj
    simp
    omega
theorem class_noshift {s z : Int} (h : s < 10 ∨ 20 < s) : classOf s z = none := by
  by_cases hz : z < 1
  · exact class_small hz
  · refine class_none fun j _ => ?_
    rw [sizeN_noshift h]
    omega
theorem class_some {s z : Int} {k : Nat} (h : classOf s z = some k) : 1 ≤ z ∧ k < 9 ∧ z ≤ (sizeN s (k : Int) : Int) ∧ ∀ j, j < k → (sizeN s (j : Int) : Int) < z := by
  unfold classOf at h
  split at h
  · cases h
  · rw [List.find?_range_eq_some] at h
    obtain ⟨h1, h2, h3⟩ := h
    refine ⟨by omega, by simpa using h2, by simpa using h1, fun j hj => ?_⟩
    have := h3 j hj
    simp at this
    omega
theorem classK_yes {s z : Int} {k : Nat} (h : classOf s z = some k) : classK s z = (k : Int) ∧ classB s z = true := by unfold classK classB; rw [h]; exact ⟨rfl, rfl⟩
theorem classK_no {s z : Int} (h : classOf s z = none) : classK s z = 0 ∧ classB s z = false := by unfold classK classB; rw [h]; exact ⟨rfl, rfl⟩
/-- there is a class just for sizes up to half a page -/
theorem classB_half {s z : Int} (h : 10 ≤ s ∧ s ≤ 20) : classB s z = decide (1 ≤ z ∧ z ≤ ((pageS s / 2 : Nat) : Int)) := by
  cases hc : classOf s z with
  | none =>
    rw [(classK_no hc).2]
    symm
    rw [decide_eq_false_iff_not]
    rintro ⟨h1, h2⟩
    have h8 := (size_facts h (k := 8) (by omega)).2.2.2.2.1 rfl
    unfold classOf at hc
    rw [if_neg (by omega), List.find?_range_eq_none] at hc
    have := hc 8 (by omega)
    rw [h8] at this
    simp at this
    omega
  | some k =>
    obtain ⟨h1, h2, h3, h4⟩ := class_some hc
    rw [(classK_yes hc).2]
    symm
    rw [decide_eq_true_iff]
    have := (size_facts h h2).2.2.2.1
    exact ⟨h1, by omega⟩

end Go.Proofs.Ytgfaefhkoaccbaa
