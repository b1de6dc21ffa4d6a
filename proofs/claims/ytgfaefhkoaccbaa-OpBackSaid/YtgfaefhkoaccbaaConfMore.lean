/-
  Contracts of conf's and nacreref04's pages, bytes and words.
-/
import Derived.Test.YtgfaefhkoaccbaaConf
namespace Go.Proofs.Ytgfaefhkoaccbaa
open Go.ChangeShapes Go.WideShapes Go.ChangeAt Go.RowKit
set_option linter.unusedVariables false

theorem rightB_mk {t p s : Int} (h : (1 ≤ t ∧ t ≤ 16) ∧ (4 ≤ p ∧ p ≤ 1024) ∧ 10 ≤ s ∧ s ≤ 20) : rightB t p s = true := (rightB_iff t p s).2 h
theorem rightB_not {t p s : Int} (h : ¬ ((1 ≤ t ∧ t ≤ 16) ∧ (4 ≤ p ∧ p ≤ 1024) ∧ 10 ≤ s ∧ s ≤ 20)) : rightB t p s = false := by
  cases hr : rightB t p s
  · rfl
  · exact absurd ((rightB_iff t p s).1 hr) h

/-- how many bytes a page has; 0 where the configuration is not right -/
def pageN (t p s : Int) : Nat := if rightB t p s then 2 ^ s.toNat else 0
/-- how many all pages have -/
def bytesN (t p s : Int) : Nat := if rightB t p s then p.toNat * 2 ^ s.toNat else 0
theorem page_yes {t p s : Int} (h : rightB t p s = true) : pageN t p s = 2 ^ s.toNat := by unfold pageN; rw [if_pos h]
theorem page_no {t p s : Int} (h : rightB t p s = false) : pageN t p s = 0 := by unfold pageN; rw [h]; rfl
theorem bytes_yes {t p s : Int} (h : rightB t p s = true) : bytesN t p s = p.toNat * 2 ^ s.toNat := by unfold bytesN; rw [if_pos h]
theorem bytes_no {t p s : Int} (h : rightB t p s = false) : bytesN t p s = 0 := by unfold bytesN; rw [h]; rfl
theorem pow_bounds (k : Nat) (h : k ≤ 20) : 1 ≤ 2 ^ k ∧ 2 ^ k ≤ 1048576 := ⟨Nat.one_le_two_pow, by have := Nat.pow_le_pow_right (show 0 < 2 by omega) h; omega⟩
theorem pow_next (k : Nat) : 2 ^ (k + 1) = 2 ^ k * 2 := Nat.pow_succ 2 k

end Go.Proofs.Ytgfaefhkoaccbaa
