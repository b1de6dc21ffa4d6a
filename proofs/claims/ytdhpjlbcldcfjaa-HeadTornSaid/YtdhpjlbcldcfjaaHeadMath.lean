/-
  The words of heads: numbers alone, no program.
-/
import Derived.Test.YtdhpjlbcldcfjaaConfOf
import Derived.Test.YtdhpjlbcldcfjaaPlaceMath
import Derived.Test.YtdhpjlbcldcfjaaSumMath
import Derived.Test.YtdhpjlbcldcfjaaRow
namespace Go.Proofs.Ytdhpjlbcldcfjaa
open Go.ChangeShapes Go.WideShapes Go.ChangeAt Go.RowKit
set_option linter.unusedVariables false

/-- the seven words ahead of a head's sum -/
def head7 (t p s : Int) : List Nat := [0x4e41435245303031, 1, wordN t p s, (lW t p s).toNat, 0, 0, 0]
/-- the words of a head -/
def headL (t p s : Int) : List Nat := head7 t p s ++ [SM.ofN (head7 t p s)]
/-- .. or nothing, if the configuration is not right -/
def encL (t p s : Int) : List Nat := if rightB t p s then headL t p s else []
/-- which configuration words begin with the head of; zeros and an error's number, if none -/
def decL (ws : List Nat) : Int × Int × Int × Int :=
  if 8 ≤ ws.length ∧ (confOf (ws.getD 2 0)).2.2.2 = true ∧ ws.take 8 = headL (confOf (ws.getD 2 0)).1 (confOf (ws.getD 2 0)).2.1 (confOf (ws.getD 2 0)).2.2.1 then
    ((confOf (ws.getD 2 0)).1, (confOf (ws.getD 2 0)).2.1, (confOf (ws.getD 2 0)).2.2.1, 0)
  else (0, 0, 0, 9)

theorem word_lt (t p s : Int) : wordN t p s < 2 ^ 64 := by
  unfold wordN
  split
  · rename_i h
    have := (rightB_iff t p s).1 h
    omega
  · omega
theorem head7_len (t p s : Int) : (head7 t p s).length = 7 := rfl
theorem headL_len (t p s : Int) : (headL t p s).length = 8 := rfl
theorem head7_lt (t p s : Int) : ∀ x ∈ head7 t p s, x < 2 ^ 64 := by
  have h1 := word_lt t p s
  have h2 := words_bounds t p s
  intro x hx
  simp only [head7, List.mem_cons, List.not_mem_nil, or_false] at hx
  omega
theorem ofN_lt (ws : List Nat) : SM.ofN ws < 2 ^ 32 := by unfold SM.ofN; omega
theorem headL_lt (t p s : Int) : ∀ x ∈ headL t p s, x < 2 ^ 64 := by
  intro x hx
  unfold headL at hx
  rcases List.mem_append.1 hx with h | h
  · exact head7_lt t p s x h
  · have := ofN_lt (head7 t p s)
    simp only [List.mem_cons, List.not_mem_nil, or_false] at h
    omega
theorem encL_yes {t p s : Int} (h : rightB t p s = true) : encL t p s = headL t p s := by unfold encL; rw [if_pos h]
theorem encL_no {t p s : Int} (h : rightB t p s = false) : encL t p s = [] := by unfold encL; rw [h]; rfl
theorem encL_lt (t p s : Int) : ∀ x ∈ encL t p s, x < 2 ^ 64 := by
  unfold encL
  split
  · exact headL_lt t p s
  · simp
theorem encL_le (t p s : Int) : (encL t p s).length ≤ 8 := by
  unfold encL
  split
  · rw [headL_len]; omega
  · simp

/-! how many of the first words are alike -/
def alike (ws vs : List Nat) : Nat → Nat
  | 0 => 0
  | k + 1 => alike ws vs k + (if ws.getD k 0 = vs.getD k 0 then 1 else 0)
theorem alike_le (ws vs : List Nat) : ∀ k, alike ws vs k ≤ k
  | 0 => Nat.le_refl _
  | k + 1 => by have := alike_le ws vs k; unfold alike; split <;> omega
theorem alike_all (ws vs : List Nat) : ∀ k, alike ws vs k = k ↔ ∀ i, i < k → ws.getD i 0 = vs.getD i 0
  | 0 => by simp [alike]
  | k + 1 => by
    have h1 := alike_le ws vs k
    have h2 := alike_all ws vs k
    unfold alike
    constructor
    · intro h i hi
      split at h
      · rename_i he
        rcases Nat.lt_or_ge i k with h3 | h3
        · exact h2.1 (by omega) i h3
        · have : i = k := by omega
          rw [this]; exact he
      · omega
    · intro h
      rw [if_pos (h k (by omega)), h2.2 (fun i hi => h i (by omega))]
theorem list_ext {ws vs : List Nat} (h : ws.length = vs.length) (h2 : ∀ i, i < vs.length → ws.getD i 0 = vs.getD i 0) : ws = vs := by
  refine List.ext_getElem h fun i h1 h3 => ?_
  have := h2 i h3
  simpa [List.getD, List.getElem?_eq_getElem h1, List.getElem?_eq_getElem h3] using this
theorem alike_eq (ws vs : List Nat) (hw : ws.length = 8) (hv : vs.length = 8) : (8 - alike ws vs 8 = 0) ↔ ws = vs := by
  have h1 := alike_le ws vs 8
  have h2 := alike_all ws vs 8
  constructor
  · intro h
    exact list_ext (by omega) (fun i hi => h2.1 (by omega) i (by omega))
  · rintro rfl
    have := h2.2 (fun i hi => rfl)
    omega
end Go.Proofs.Ytdhpjlbcldcfjaa
