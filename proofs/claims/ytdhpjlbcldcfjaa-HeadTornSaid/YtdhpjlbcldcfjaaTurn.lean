/-
  Bits of words that are turned, in the walk's spelling. No function is named here.
-/
import Derived.Test.YtdhpjlbcldcfjaaSum
namespace Go.Proofs.Ytdhpjlbcldcfjaa
open Go.ChangeShapes Go.WideShapes Go.ChangeAt Go.RowKit
set_option linter.unusedVariables false

theorem turn_one (k : Nat) (h : k < 64) : IntKind.u64.wrap (2 ^ k) = ((2 ^ k : Nat) : Int) := by
  have h1 : 2 ^ k < 2 ^ 64 := Nat.pow_lt_pow_right (by omega) h
  have h2 : (2 : Int) ^ k = ((2 ^ k : Nat) : Int) := by rw [Int.natCast_pow]; rfl
  rw [h2]
  exact wrap_nat64 _ h1
theorem turn_math (x k : Nat) (hx : x < 2 ^ 64) (h : k < 64) : bits .xor .u64 (x : Int) (IntKind.u64.wrap (2 ^ k)) = ((x ^^^ 2 ^ k : Nat) : Int) := by
  rw [turn_one k h]
  exact u64_xor_nat x _ hx (Nat.pow_lt_pow_right (by omega) h)
theorem flip_vs (xs : List Nat) (p : Nat) : (wordVs xs).set (p / 64) (.int .u64 ((xs.getD (p / 64) 0 ^^^ 2 ^ (p % 64) : Nat) : Int)) = wordVs (SM.flip xs p) := by
  unfold wordVs SM.flip
  rw [List.map_set]

theorem shr_cast' (v k : Nat) : ((v : Int) / 2 ^ k).tmod 2 = ((v / 2 ^ k % 2 : Nat) : Int) := by rw [shr_cast, tmod_two]

/-- who feeds a register its own bits moves it alone -/
theorem rn_own (r : Nat) : ∀ i, SM.rn (fun k => r.testBit k) r i = r / 2 ^ i
  | 0 => by simp [SM.rn]
  | i + 1 => by
    have ih := rn_own r i
    show SM.stp (SM.rn (fun k => r.testBit k) r i) (r.testBit i) = _
    rw [ih]
    have h : r.testBit i = (r / 2 ^ i).testBit 0 := by rw [Nat.testBit_div_two_pow, Nat.zero_add]
    rw [h, SM.stp_self, Nat.div_div_eq_div_mul, ← Nat.pow_succ]
/-- the register behind words and their sum is the same, whatever they are -/
theorem nextN_own {r : Nat} (h : r < 2 ^ 32) : SM.nextN r (4294967295 - r) = SM.rn (fun k => Nat.testBit 4294967295 k) 0 64 := by
  have e2 : 4294967295 - r = 4294967295 ^^^ r := by
    refine Nat.eq_of_testBit_eq fun i => ?_
    have h1 := Nat.testBit_two_pow_sub_succ (n := 32) (x := r) h i
    have h2 := Nat.testBit_two_pow_sub_one 32 i
    rw [show 4294967295 - r = 2 ^ 32 - (r + 1) from by omega, h1, Nat.testBit_xor, show (4294967295 : Nat) = 2 ^ 32 - 1 from rfl, h2]
    by_cases hi : i < 32
    · simp [hi]
    · simp [hi, Nat.testBit_lt_two_pow (Nat.lt_of_lt_of_le h (Nat.pow_le_pow_right (by omega) (Nat.le_of_not_lt hi)))]
  have h3 := SM.rn_xor (fun k => (4294967295 - r).testBit k) (fun k => Nat.testBit 4294967295 k) r 0 64
  have h4 : SM.rn (fun i => (4294967295 - r).testBit i != Nat.testBit 4294967295 i) (r ^^^ 0) 64 = 0 := by
    rw [Nat.xor_zero]
    have : (fun i => (4294967295 - r).testBit i != Nat.testBit 4294967295 i) = fun k => r.testBit k := by
      funext i
      rw [e2, Nat.testBit_xor]
      cases Nat.testBit 4294967295 i <;> cases r.testBit i <;> rfl
    rw [this, rn_own]
    exact Nat.div_eq_of_lt (Nat.lt_of_lt_of_le h (by decide))
  rw [h4] at h3
  have h5 : SM.rn (fun k => (4294967295 - r).testBit k) r 64 = SM.rn (fun k => Nat.testBit 4294967295 k) 0 64 := by
    have := congrArg (· ^^^ SM.rn (fun k => Nat.testBit 4294967295 k) 0 64) h3
    simpa [Nat.xor_assoc] using this
  exact h5
theorem ofN_own (ws : List Nat) : SM.ofN (ws ++ [SM.ofN ws]) = 4294967295 - SM.rn (fun k => Nat.testBit 4294967295 k) 0 64 := by
  have h : SM.regs 4294967295 ws < 2 ^ 32 := SM.regs_lt (by omega) ws
  show 4294967295 - SM.regs 4294967295 (ws ++ [4294967295 - SM.regs 4294967295 ws]) = _
  rw [SM.regs_snoc, nextN_own h]
end Go.Proofs.Ytdhpjlbcldcfjaa
