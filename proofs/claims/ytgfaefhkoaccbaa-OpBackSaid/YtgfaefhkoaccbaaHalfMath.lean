/-
  Plain facts on the bits of natural numbers, for the walks of package half: fields of words, how many bits are 1, the lowest one, the logarithm. No program is named here.
-/
import Derived.Below
namespace Go.Proofs.Ytgfaefhkoaccbaa.HM

theorem quarter (x k : Nat) : x / 2 ^ (k + 1) * 2 + x / 2 ^ k % 2 = x / 2 ^ k := by
  have h : x / 2 ^ (k + 1) = x / 2 ^ k / 2 := by rw [Nat.pow_succ, Nat.div_div_eq_div_mul]
  rw [h]; omega

theorem bit_eq (x k : Nat) : x / 2 ^ k % 2 = (x.testBit k).toNat := by
  rw [Nat.testBit_eq_decide_div_mod_eq]
  rcases Nat.mod_two_eq_zero_or_one (x / 2 ^ k) with h | h <;> simp [h]

/-- a field of a word -/
def getN (w a k : Nat) : Nat := w / 2 ^ a % 2 ^ k
/-- a word with a field put in -/
def putN (w a k v : Nat) : Nat := (w &&& (2 ^ 64 - 1 - (2 ^ k - 1) * 2 ^ a)) ||| v * 2 ^ a

theorem bit_getN (w a k i : Nat) : (getN w a k).testBit i = (decide (i < k) && w.testBit (a + i)) := by
  unfold getN
  rw [Nat.testBit_mod_two_pow, Nat.testBit_div_two_pow, Nat.add_comm]

theorem mask_lt (a k : Nat) (h : a + k ≤ 64) : (2 ^ k - 1) * 2 ^ a < 2 ^ 64 := by
  have h1 : (2 ^ k - 1) * 2 ^ a < 2 ^ k * 2 ^ a := (Nat.mul_lt_mul_right (Nat.two_pow_pos a)).2 (by have := Nat.two_pow_pos k; omega)
  rw [← Nat.pow_add] at h1
  exact Nat.lt_of_lt_of_le h1 (Nat.pow_le_pow_right (by omega) (by omega))

theorem bit_putN (w a k v i : Nat) (h : a + k ≤ 64) (hv : v < 2 ^ k) (hi : i < 64) : (putN w a k v).testBit i = if a ≤ i ∧ i < a + k then v.testBit (i - a) else w.testBit i := by
  unfold putN
  rw [Nat.testBit_or, Nat.testBit_and, Nat.sub_sub, Nat.add_comm 1, Nat.testBit_two_pow_sub_succ (mask_lt a k h), Nat.testBit_mul_two_pow, Nat.testBit_mul_two_pow, Nat.testBit_two_pow_sub_one]
  by_cases h1 : a ≤ i
  · by_cases h2 : i < a + k
    · have h3 : i - a < k := by omega
      simp [h1, h2, h3, hi]
    · have h3 : ¬ i - a < k := by omega
      have h4 : v.testBit (i - a) = false := Nat.testBit_lt_two_pow (Nat.lt_of_lt_of_le hv (Nat.pow_le_pow_right (by omega) (by omega)))
      simp [h1, h2, h3, h4, hi]
  · simp [h1, hi]

theorem putN_lt (w a k v : Nat) (h : a + k ≤ 64) (hv : v < 2 ^ k) : putN w a k v < 2 ^ 64 := by
  have h1 : v * 2 ^ a < 2 ^ 64 := by
    have h2 : v * 2 ^ a < 2 ^ k * 2 ^ a := (Nat.mul_lt_mul_right (Nat.two_pow_pos a)).2 hv
    rw [← Nat.pow_add] at h2
    exact Nat.lt_of_lt_of_le h2 (Nat.pow_le_pow_right (by omega) (by omega))
  unfold putN
  refine Nat.or_lt_two_pow (Nat.lt_of_le_of_lt Nat.and_le_right ?_) h1
  have := Nat.two_pow_pos 64
  omega

theorem bit_high {x i : Nat} (h : x < 2 ^ 64) (hi : 64 ≤ i) : x.testBit i = false :=
  Nat.testBit_lt_two_pow (Nat.lt_of_lt_of_le h (Nat.pow_le_pow_right (by omega) hi))

theorem get_put (w a k v : Nat) (h : a + k ≤ 64) (hv : v < 2 ^ k) : getN (putN w a k v) a k = v := by
  refine Nat.eq_of_testBit_eq fun i => ?_
  rw [bit_getN]
  by_cases hi : i < k
  · rw [bit_putN w a k v _ h hv (by omega), if_pos (by omega)]
    simp [hi, show a + i - a = i from by omega]
  · have h4 : v.testBit i = false := Nat.testBit_lt_two_pow (Nat.lt_of_lt_of_le hv (Nat.pow_le_pow_right (by omega) (by omega)))
    simp [hi, h4]

theorem getN_lt (w a k : Nat) : getN w a k < 2 ^ k := Nat.mod_lt _ (Nat.two_pow_pos k)
theorem getN_le (w a k : Nat) : getN w a k ≤ w := Nat.le_trans (Nat.mod_le _ _) (Nat.div_le_self _ _)

theorem put_back (w a k v : Nat) (hw : w < 2 ^ 64) (h : a + k ≤ 64) (hv : v < 2 ^ k) : putN (putN w a k v) a k (getN w a k) = w := by
  refine Nat.eq_of_testBit_eq fun i => ?_
  by_cases hi : i < 64
  · rw [bit_putN _ a k _ _ h (getN_lt w a k) hi, bit_putN w a k v _ h hv hi, bit_getN]
    by_cases h1 : a ≤ i ∧ i < a + k
    · simp [h1, show i - a < k from by omega, show a + (i - a) = i from by omega]
    · simp [h1]
  · rw [bit_high hw (by omega), bit_high (putN_lt _ a k _ h (getN_lt w a k)) (by omega)]

theorem get_far (w a k v b m : Nat) (h : a + k ≤ 64) (hv : v < 2 ^ k) (hb : b + m ≤ 64) (hd : b + m ≤ a ∨ a + k ≤ b) : getN (putN w a k v) b m = getN w b m := by
  refine Nat.eq_of_testBit_eq fun i => ?_
  rw [bit_getN, bit_getN]
  by_cases hi : i < m
  · rw [bit_putN w a k v _ h hv (by omega), if_neg (by omega)]
  · simp [hi]

/-- the bits of v from k on are 0 -/
theorem lt_of_bits (v k : Nat) (hv : v < 2 ^ 64) (h : ∀ i, k ≤ i → i < 64 → v / 2 ^ i % 2 ≠ 1) : v < 2 ^ k := by
  refine Nat.lt_pow_two_of_testBit v fun i hi => ?_
  by_cases h64 : i < 64
  · have := h i hi h64
    rw [bit_eq] at this
    cases hb : v.testBit i
    · rfl
    · simp [hb] at this
  · exact bit_high hv (by omega)
theorem bit_of_lt (v k i : Nat) (h : v < 2 ^ k) (hi : k ≤ i) : v / 2 ^ i % 2 = 0 := by
  rw [bit_eq, Nat.testBit_lt_two_pow (Nat.lt_of_lt_of_le h (Nat.pow_le_pow_right (by omega) hi))]; rfl

/-- one step of the document's Put, from bit i + 1 down to bit i -/
theorem put_step_in (w a k v i : Nat) (h : a + k ≤ 64) (hv : v < 2 ^ k) (h1 : a ≤ i) (h2 : i < a + k) :
    putN w a k v / 2 ^ (i + 1) * 2 + v / 2 ^ (i - a) % 2 = putN w a k v / 2 ^ i := by
  have e : v / 2 ^ (i - a) % 2 = putN w a k v / 2 ^ i % 2 := by
    rw [bit_eq, bit_eq, bit_putN w a k v i h hv (by omega), if_pos ⟨h1, h2⟩]
  rw [e, quarter]
theorem put_step_out (w a k v i : Nat) (h : a + k ≤ 64) (hv : v < 2 ^ k) (hi : i < 64) (h2 : ¬ (a ≤ i ∧ i < a + k)) :
    putN w a k v / 2 ^ (i + 1) * 2 + w / 2 ^ i % 2 = putN w a k v / 2 ^ i := by
  have e : w / 2 ^ i % 2 = putN w a k v / 2 ^ i % 2 := by
    rw [bit_eq, bit_eq, bit_putN w a k v i h hv hi, if_neg h2]
  rw [e, quarter]
/-- one step of the document's Get -/
theorem get_step (w a k i : Nat) (hi : i < k) : getN w a k / 2 ^ (i + 1) * 2 + w / 2 ^ (a + i) % 2 = getN w a k / 2 ^ i := by
  have e : w / 2 ^ (a + i) % 2 = getN w a k / 2 ^ i % 2 := by
    rw [bit_eq, bit_eq, bit_getN]; simp [hi]
  rw [e, quarter]
theorem div_top (x k : Nat) (h : x < 2 ^ k) : x / 2 ^ k = 0 := Nat.div_eq_of_lt h

/-- bits of a number below 2^32, by place -/
def onesTo (v k : Nat) : Nat := ((List.range k).filter fun i => v.testBit i).length
def freeTo (v k : Nat) : List Nat := (List.range k).filter fun i => !v.testBit i
theorem onesTo_succ (v k : Nat) : onesTo v (k + 1) = onesTo v k + if v.testBit k then 1 else 0 := by
  unfold onesTo
  rw [List.range_succ, List.filter_append, List.length_append]
  cases h : v.testBit k <;> simp [h]
theorem onesTo_le (v k : Nat) : onesTo v k ≤ k := by
  unfold onesTo
  exact Nat.le_trans (List.length_filter_le _ _) (by simp)
theorem freeTo_succ (v k : Nat) : freeTo v (k + 1) = freeTo v k ++ if v.testBit k then [] else [k] := by
  unfold freeTo
  rw [List.range_succ, List.filter_append]
  cases h : v.testBit k <;> simp [h]
theorem freeTo_le (v k : Nat) : (freeTo v k).length ≤ k := by
  unfold freeTo
  exact Nat.le_trans (List.length_filter_le _ _) (by simp)
theorem ones_free (v k : Nat) : onesTo v k + (freeTo v k).length = k := by
  induction k with
  | zero => rfl
  | succ k ih =>
    rw [onesTo_succ, freeTo_succ, List.length_append]
    cases h : v.testBit k <;> simp <;> omega

/-- the place of the lowest bit that is 1, below 32; -1, if there is none -/
def lowestN (v : Nat) : Int := match (List.range 32).find? fun i => v.testBit i with
  | some i => i
  | none => -1
theorem lowest_at (v k : Nat) (hk : k < 32) (hb : v.testBit k = true) (h : ∀ i, i < k → v.testBit i = false) : lowestN v = k := by
  have : (List.range 32).find? (fun i => v.testBit i) = some k := by
    rw [List.find?_range_eq_some]
    exact ⟨hb, List.mem_range.2 hk, fun i hi => by simp [h i hi]⟩
  unfold lowestN
  rw [this]
theorem lowest_none (v : Nat) (h : ∀ i, i < 32 → v.testBit i = false) : lowestN v = -1 := by
  have : (List.range 32).find? (fun i => v.testBit i) = none := by
    rw [List.find?_eq_none]
    intro i hi
    simp [h i (List.mem_range.1 hi)]
  unfold lowestN
  rw [this]

/-- the logarithm, -1 below 1 -/
def logI (n : Int) : Int := if n < 1 then -1 else (Nat.log2 n.toNat : Int)
theorem logI_at (n : Int) (k : Nat) (h1 : 1 ≤ n / 2 ^ k) (h2 : n / 2 ^ (k + 1) < 1) : logI n = k := by
  have hp : (0 : Int) < 2 ^ k := Int.pow_pos (by omega)
  have hn : 1 ≤ n := by
    have h3 := (Int.le_ediv_iff_mul_le hp).1 h1
    omega
  obtain ⟨m, rfl⟩ := Int.eq_ofNat_of_zero_le (show 0 ≤ n by omega)
  unfold logI
  rw [if_neg (by omega), Int.toNat_natCast]
  have h4 : 2 ^ k ≤ m := by
    have h3 := (Int.le_ediv_iff_mul_le hp).1 h1
    rw [Int.one_mul] at h3
    exact_mod_cast h3
  have h5 : m < 2 ^ (k + 1) := by
    have h3 := (Int.ediv_lt_iff_lt_mul (Int.pow_pos (by omega))).1 h2
    rw [Int.one_mul] at h3
    exact_mod_cast h3
  have : m ≠ 0 := by have := Nat.two_pow_pos k; omega
  have e : Nat.log2 m = k := by
    rw [Nat.log2_eq_iff this]
    exact ⟨h4, h5⟩
  rw [e]
theorem logI_no (n : Int) (h : n < 1) : logI n = -1 := by unfold logI; rw [if_pos h]

end Go.Proofs.Ytgfaefhkoaccbaa.HM
