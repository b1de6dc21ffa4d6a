/-
  Operations and results as words and as values: which are right, what they come to, and back. No program is named here.
-/
import Derived.Test.YtgfaefhkoaccbaaHalf
import Derived.Test.YtgfaefhkoaccbaaAddrMath
namespace Go.Proofs.Ytgfaefhkoaccbaa
open Go.ChangeShapes Go.WideShapes Go.ChangeAt Go.RowKit
set_option linter.unusedVariables false
set_option linter.unusedSimpArgs false

/-- how many of A and B an operation uses; -1: there is no such one -/
def usesI (k : Int) : Int := if k = 8 then 0 else if k = 1 ∨ k = 2 ∨ k = 6 ∨ k = 7 ∨ k = 9 then 1 else if k = 3 ∨ k = 4 ∨ k = 5 then 2 else -1
/-- is it right? -/
def opB (k a b : Int) : Bool := decide (0 ≤ usesI k ∧ (1 ≤ usesI k ∨ a = 0) ∧ (2 ≤ usesI k ∨ b = 0))
/-- a number as a word, a word as a number -/
def wdI (x : Int) : Int := IntKind.u64.wrap x
def sgI (x : Int) : Int := IntKind.i64.wrap x
/-- is the operation whose words these are right? -/
def ofB (x y z : Int) : Bool := decide (1 ≤ x ∧ x ≤ 9) && opB (sgI x) (sgI y) (sgI z)
def ofV (x y z : Int) : Value := if ofB x y z = true then .agg #[.int .i64 (sgI x), .int .i64 (sgI y), .int .i64 (sgI z)] else .agg #[.int .i64 0, .int .i64 0, .int .i64 0]
/-- may they be values? -/
def vlB (num err out aux : Int) : Bool := decide ((0 ≤ num ∧ num ≤ 2147483647) ∧ (0 ≤ err ∧ err ≤ 4294967295) ∧ (0 ≤ out ∧ out ≤ 4294967295) ∧ (0 ≤ aux ∧ aux ≤ 4294967295))
def vlV (num err out aux : Int) : Value := if vlB num err out aux = true then .agg #[.int .u32 num, .int .u32 err, .int .u32 out, .int .u32 aux] else .agg #[.int .u32 0, .int .u32 0, .int .u32 0, .int .u32 0]

theorem uses_cases (k : Int) : (k = 8 ∧ usesI k = 0) ∨ ((k = 1 ∨ k = 2 ∨ k = 6 ∨ k = 7 ∨ k = 9) ∧ usesI k = 1) ∨ ((k = 3 ∨ k = 4 ∨ k = 5) ∧ usesI k = 2) ∨ ((k < 1 ∨ 9 < k) ∧ usesI k = -1) := by
  unfold usesI
  by_cases h1 : k = 8
  · exact .inl ⟨h1, if_pos h1⟩
  · rw [if_neg h1]
    by_cases h2 : k = 1 ∨ k = 2 ∨ k = 6 ∨ k = 7 ∨ k = 9
    · exact .inr (.inl ⟨h2, if_pos h2⟩)
    · rw [if_neg h2]
      by_cases h3 : k = 3 ∨ k = 4 ∨ k = 5
      · exact .inr (.inr (.inl ⟨h3, if_pos h3⟩))
      · exact .inr (.inr (.inr ⟨by omega, if_neg h3⟩))
theorem opB_kind {k a b : Int} (h : opB k a b = true) : 1 ≤ k ∧ k ≤ 9 := by
  have h1 := (of_decide_eq_true h).1
  rcases uses_cases k with ⟨h2, _⟩ | ⟨h2, _⟩ | ⟨h2, _⟩ | ⟨_, h2⟩ <;> omega
theorem wdI_lt (x : Int) : 0 ≤ wdI x ∧ wdI x < 18446744073709551616 := by
  unfold wdI
  simp only [IntKind.wrap, IntKind.bits, IntKind.signed]
  simp
  omega
theorem sgI_at (x : Int) (h0 : 0 ≤ x) (h1 : x < 18446744073709551616) : sgI x = if x < 9223372036854775808 then x else x - 18446744073709551616 := by
  unfold sgI
  simp only [IntKind.wrap, IntKind.bits, IntKind.signed]
  simp
  split <;> omega
theorem sgI_lim (x : Int) : -9223372036854775808 ≤ sgI x ∧ sgI x ≤ 9223372036854775807 := by
  unfold sgI
  simp only [IntKind.wrap, IntKind.bits, IntKind.signed]
  simp
  omega
/-- what is put is got -/
theorem sg_wd (x : Int) (h0 : -9223372036854775808 ≤ x) (h1 : x ≤ 9223372036854775807) : sgI (wdI x) = x := by
  unfold sgI wdI
  simp only [IntKind.wrap, IntKind.bits, IntKind.signed]
  simp
  omega
theorem wd_small (x : Int) (h0 : 0 ≤ x) (h1 : x ≤ 9223372036854775807) : wdI x = x := by
  unfold wdI
  simp only [IntKind.wrap, IntKind.bits, IntKind.signed]
  simp
  omega
theorem sg_small (x : Int) (h0 : 0 ≤ x) (h1 : x ≤ 9223372036854775807) : IntKind.i64.wrap x = x := by
  simp only [IntKind.wrap, IntKind.bits, IntKind.signed]
  simp
  omega
theorem wd_neg (x : Int) (h0 : -9223372036854775808 ≤ x) (h1 : x < 0) : 9223372036854775808 ≤ wdI x := by
  unfold wdI
  simp only [IntKind.wrap, IntKind.bits, IntKind.signed]
  simp
  omega
theorem of_words {k a b : Int} (hk : -9223372036854775808 ≤ k ∧ k ≤ 9223372036854775807) (ha : -9223372036854775808 ≤ a ∧ a ≤ 9223372036854775807) (hb : -9223372036854775808 ≤ b ∧ b ≤ 9223372036854775807) :
    ofB (wdI k) (wdI a) (wdI b) = opB k a b ∧ ofV (wdI k) (wdI a) (wdI b) = if opB k a b = true then .agg #[.int .i64 k, .int .i64 a, .int .i64 b] else .agg #[.int .i64 0, .int .i64 0, .int .i64 0] := by
  have e : ofB (wdI k) (wdI a) (wdI b) = opB k a b := by
    unfold ofB
    rw [sg_wd k hk.1 hk.2, sg_wd a ha.1 ha.2, sg_wd b hb.1 hb.2]
    cases h : opB k a b with
    | false => rw [Bool.and_false]
    | true =>
      have h1 := opB_kind h
      rw [wd_small k (by omega) hk.2, Bool.and_true]
      exact decide_eq_true h1
  refine ⟨e, ?_⟩
  unfold ofV
  rw [e, sg_wd k hk.1 hk.2, sg_wd a ha.1 ha.2, sg_wd b hb.1 hb.2]
end Go.Proofs.Ytgfaefhkoaccbaa
