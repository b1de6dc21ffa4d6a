/-
  Contracts of the functions of package half and of the document's answers to it that only reckon.
-/
import Derived.Test.YtgfaefhkoaccbaaKit
import Derived.Test.YtgfaefhkoaccbaaHalfMath
import Derived.WalkKit
import Derived.ProofKit
import Derived.BigQuiet
import Derived.Outline
import Derived.Deep.QuietTactic
namespace Go.Proofs.Ytgfaefhkoaccbaa
open Go.ChangeShapes Go.WideShapes Go.ChangeAt Go.RowKit
set_option linter.unusedVariables false

/-- is there such a field? -/
def fieldB (a k : Int) : Bool := decide (0 ≤ a ∧ 1 ≤ k ∧ a ≤ 64 - k)
theorem fieldB_yes {a k : Int} (h0 : 0 ≤ a) (h1 : 1 ≤ k) (h2 : a ≤ 64 - k) : fieldB a k = true := by unfold fieldB; simp [h0, h1, h2]
theorem fieldB_no {a k : Int} (h : ¬ (0 ≤ a ∧ 1 ≤ k ∧ a ≤ 64 - k)) : fieldB a k = false := by unfold fieldB; exact decide_eq_false h
theorem low_wrap : ∀ k : Fin 65, 1 ≤ k.val → IntKind.u64.wrap (IntKind.u64.wrap (2 ^ k.val) - 1) = ((2 ^ k.val - 1 : Nat) : Int) := by decide +kernel
theorem and_one (n : Nat) (h : n < 2 ^ 32) : bits .and .u32 (n : Int) 1 = ((n % 2 : Nat) : Int) := by
  have := u32_and_nat n 1 h (by omega)
  rw [nat_mask1] at this
  exact this
theorem odd_bit (v k : Nat) : ((((v / 2 ^ k % 2 : Nat) : Int)) == 1) = v.testBit k := by
  rw [HM.bit_eq]
  cases v.testBit k <;> rfl
theorem join_or (h l : Nat) (hh : h < 2 ^ 32) (hl : l < 2 ^ 32) : bits .or .u64 ((h : Int) * 4294967296) (l : Int) = ((h * 4294967296 + l : Nat) : Int) := by
  have e : (h : Int) * 4294967296 = ((h * 4294967296 : Nat) : Int) := by omega
  rw [e, u64_or_nat _ _ (by omega) (by omega), nat_join 32 _ _ (by omega) hl]
theorem join_sum (h l : Nat) (hh : h < 2 ^ 32) (hl : l < 2 ^ 32) : (h : Int) * 4294967296 + (l : Int) = ((h * 4294967296 + l : Nat) : Int) := by omega
theorem field_nat {a k : Int} (h : fieldB a k = true) : ∃ a' k' : Nat, a = a' ∧ k = k' ∧ 1 ≤ k' ∧ a' + k' ≤ 64 := by
  unfold fieldB at h
  have := of_decide_eq_true h
  exact ⟨a.toNat, k.toNat, by omega, by omega, by omega, by omega⟩
/-- what Get answers -/
def getI (x : Nat) (a k : Int) : Nat := if fieldB a k then HM.getN x a.toNat k.toNat else 0
theorem and_low (y k : Nat) (hy : y < 2 ^ 64) (hk : k ≤ 64) : bits .and .u64 (y : Int) ((2 ^ k - 1 : Nat) : Int) = ((y % 2 ^ k : Nat) : Int) := by
  have h2 : 2 ^ k ≤ 2 ^ 64 := Nat.pow_le_pow_right (by omega) hk
  rw [u64_and_nat y _ hy (by omega), Nat.and_two_pow_sub_one_eq_mod]
/-- what Put answers -/
def putOk (a k : Int) (v : Nat) : Bool := fieldB a k && decide (v < 2 ^ k.toNat)
def putI (x : Nat) (a k : Int) (v : Nat) : Nat := if putOk a k v then HM.putN x a.toNat k.toNat v else 0
theorem wrap_nat (n : Nat) (h : n < 2 ^ 64) : IntKind.u64.wrap (n : Int) = (n : Int) := by
  simp only [IntKind.wrap, IntKind.bits, IntKind.signed]; simp; omega
theorem put_bits (x a k v : Nat) (hx : x < 2 ^ 64) (h : a + k ≤ 64) (hv : v < 2 ^ k) :
    bits .or .u64 (bits .andNot .u64 (x : Int) (IntKind.u64.wrap (((2 ^ k - 1 : Nat) : Int) * 2 ^ a))) (IntKind.u64.wrap ((v : Int) * 2 ^ a)) = ((HM.putN x a k v : Nat) : Int) := by
  have h1 := HM.mask_lt a k h
  have h2 : v * 2 ^ a < 2 ^ 64 := Nat.lt_of_le_of_lt (Nat.mul_le_mul_right _ (by omega)) h1
  have e1 : ((2 ^ k - 1 : Nat) : Int) * 2 ^ a = (((2 ^ k - 1) * 2 ^ a : Nat) : Int) := by rw [Int.natCast_mul, Int.natCast_pow]; rfl
  have e2 : (v : Int) * 2 ^ a = ((v * 2 ^ a : Nat) : Int) := by rw [Int.natCast_mul, Int.natCast_pow]; rfl
  rw [e1, e2, wrap_nat _ h1, wrap_nat _ h2, u64_andNot_nat _ _ hx h1, u64_or_nat _ _ (Nat.lt_of_le_of_lt Nat.and_le_left hx) h2]
  rfl
end Go.Proofs.Ytgfaefhkoaccbaa
