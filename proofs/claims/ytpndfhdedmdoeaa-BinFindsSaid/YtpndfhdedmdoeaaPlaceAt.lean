/-
  Contracts of place's At, and of what it calls.
-/
import Derived.Test.YtpndfhdedmdoeaaPlace
namespace Go.Proofs.Ytpndfhdedmdoeaa
open Go.ChangeShapes Go.WideShapes Go.ChangeAt Go.RowKit
set_option linter.unusedVariables false
set_option linter.unusedSimpArgs false

theorem part_call {q r : Int} (h : r < 16) : partT q r = (4, q, r) := by unfold partT; rw [if_pos h]
theorem part_note {q : Int} : partT q 16 = (5, q, 0) := by unfold partT; rw [if_neg (by omega), if_pos rfl]
theorem part_log {q r : Int} (h : 24 ≤ r) : partT q r = (6, q, r - 24) := by unfold partT; rw [if_neg (by omega), if_neg (by omega), if_pos h]
theorem part_none {q r : Int} (h : 16 < r) (h' : r < 24) : partT q r = (0, 0, 0) := by unfold partT; rw [if_neg (by omega), if_neg (by omega), if_neg (by omega)]

end Go.Proofs.Ytpndfhdedmdoeaa
