/-
  Plain facts on the bits of natural numbers, for the walks of package half: fields of words, how many bits are 1, the lowest one, the logarithm. No program is named here.
-/
import Derived.Below
import Derived.Test.YthiobfghanlelaaKit
import Derived.WalkKit
import Derived.ProofKit
import Derived.BigQuiet
import Derived.Outline
import Derived.Deep.QuietTactic
namespace Go.Proofs.Ythiobfghanlelaa.HM

theorem quarter (x k : Nat) : x / 2 ^ (k + 1) * 2 + x / 2 ^ k % 2 = x / 2 ^ k := by
  have h : x / 2 ^ (k + 1) = x / 2 ^ k / 2 := by rw [Nat.pow_succ, Nat.div_div_eq_div_mul]
  rw [h]; omega

theorem bit_eq (x k : Nat) : x / 2 ^ k % 2 = (x.testBit k).toNat := by
  rw [Nat.testBit_eq_decide_div_mod_eq]
  rcases Nat.mod_two_eq_zero_or_one (x / 2 ^ k) with h | h <;> simp [h]

/-- a field of a word -/
def getN (w a k : Nat) : Nat := w / 2 ^ a % 2 ^ k
/-- a word with a field put in -/
def putN (w a k v : Nat) : Nat := (w &&& (2 ^ 64 - 1 - (2 ^ k - 1) * 2 ^ a)) ||| v * 2 ^ a

theorem bit_getN (w a k i : Nat) : (getN w a k).testBit i = (decide (i < k) && w.testBit (a + i)) := by
  unfold getN
  rw [Nat.testBit_mod_two_pow, Nat.testBit_div_two_pow, Nat.add_comm]

theorem mask_lt (a k : Nat) (h : a + k ≤ 64) : (2 ^ k - 1) * 2 ^ a < 2 ^ 64 := by
  have h1 : (2 ^ k - 1) * 2 ^ a < 2 ^ k * 2 ^ a := (Nat.mul_lt_mul_right (Nat.two_pow_pos a)).2 (by have := Nat.two_pow_pos k; omega)
  rw [← Nat.pow_add] at h1
  exact Nat.lt_of_lt_of_le h1 (Nat.pow_le_pow_right (by omega) (by omega))

theorem bit_putN (w a k v i : Nat) (h : a + k ≤ 64) (hv : v < 2 ^ k) (hi : i < 64) : (putN w a k v).testBit i = if a ≤ i ∧ i < a + k then v.testBit (i - a) else w.testBit i := by
  unfold putN
  rw [Nat.testBit_or, Nat.testBit_and, Nat.sub_sub, Nat.add_comm 1, Nat.testBit_two_pow_sub_succ (mask_lt a k h), Nat.testBit_mul_two_pow, Nat.testBit_mul_two_pow, Nat.testBit_two_pow_sub_one]
  by_cases h1 : a ≤ i
  · by_cases h2 : i < a + k
    · have h3 : i - a < k := by omega
      simp [h1, h2, h3, hi]
    · have h3 : ¬ i - a < k := by omega
      have h4 : v.testBit (i - a) = false := Nat.testBit_lt_two_pow (Nat.lt_of_lt_of_le hv (Nat.pow_le_pow_right (by omega) (by omega)))
      simp [h1, h2, h3, h4, hi]
  · simp [h1, hi]

theorem putN_lt (w a k v : Nat) (h : a + k ≤ 64) (hv : v < 2 ^ k) : putN w a k v < 2 ^ 64 := by
  have h1 : v * 2 ^ a < 2 ^ 64 := by
    have h2 : v * 2 ^ a < 2 ^ k * 2 ^ a := (Nat.mul_lt_mul_right (Nat.two_pow_pos a)).2 hv
    rw [← Nat.pow_add] at h2
    exact Nat.lt_of_lt_of_le h2 (Nat.pow_le_pow_right (by omega) (by omega))
  unfold putN
  refine Nat.or_lt_two_pow (Nat.lt_of_le_of_lt Nat.and_le_right ?_) h1
  have := Nat.two_pow_pos 64
  omega

theorem bit_high {x i : Nat} (h : x < 2 ^ 64) (hi : 64 ≤ i) : x.testBit i = false :=
  Nat.testBit_lt_two_pow (Nat.lt_of_lt_of_le h (Nat.pow_le_pow_right (by omega) hi))

theorem get_put (w a k v : Nat) (h : a + k ≤ 64) (hv : v < 2 ^ k) : getN (putN w a k v) a k = v := by
  refine Nat.eq_of_testBit_eq fun i => ?_
  rw [bit_getN]
  by_cases hi : i < k
  · rw [bit_putN w a k v _ h hv (by omega), if_pos (by omega)]
    simp [hi, show a + i - a = i from by omega]
  · have h4 : v.testBit i = false := Nat.testBit_lt_two_pow (Nat.lt_of_lt_of_le hv (Nat.pow_le_pow_right (by omega) (by omega)))
    simp [hi, h4]

theorem getN_lt (w a k : Nat) : getN w a k < 2 ^ k := Nat.mod_lt _ (Nat.two_pow_pos k)
theorem getN_le (w a k : Nat) : getN w a k ≤ w := Nat.le_trans (Nat.mod_le _ _) (Nat.div_le_self _ _)

theorem put_back (w a k v : Nat) (hw : w < 2 ^ 64) (h : a + k ≤ 64) (hv : v < 2 ^ k) : putN (putN w a k v) a k (getN w a k) = w := by
  refine Nat.eq_of_testBit_eq fun i => ?_
  by_cases hi : i < 64
  · rw [bit_putN _ a k _ _ h (getN_lt w a k) hi, bit_putN w a k v _ h hv hi, bit_getN]
    by_cases h1 : a ≤ i ∧ i < a + k
    · simp [h1, show i - a < k from by omega, show a + (i - a) = i from by omega]
    · simp [h1]
  · rw [bit_high hw (by omega), bit_high (putN_lt _ a k _ h (getN_lt w a k)) (by omega)]

theorem get_far (w a k v b m : Nat) (h : a + k ≤ 64) (hv : v < 2 ^ k) (hb : b + m ≤ 64) (hd : b + m ≤ a ∨ a + k ≤ b) : getN (putN w a k v) b m = getN w b m := by
  refine Nat.eq_of_testBit_eq fun i => ?_
  rw [bit_getN, bit_getN]
  by_cases hi : i < m
  · rw [bit_putN w a k v _ h hv (by omega), if_neg (by omega)]
  · simp [hi]

/-- the bits of v from k on are 0 -/
theorem lt_of_bits (v k : Nat) (hv : v < 2 ^ 64) (h : ∀ i, k ≤ i → i < 64 → v / 2 ^ i % 2 ≠ 1) : v < 2 ^ k := by
  refine Nat.lt_pow_two_of_testBit v fun i hi => ?_
  by_cases h64 : i < 64
  · have := h i hi h64
    rw [bit_eq] at this
    cases hb : v.testBit i
    · rfl
    · simp [hb] at this
  · exact bit_high hv (by omega)
theorem bit_of_lt (v k i : Nat) (h : v < 2 ^ k) (hi : k ≤ i) : v / 2 ^ i % 2 = 0 := by
  rw [bit_eq, Nat.testBit_lt_two_pow (Nat.lt_of_lt_of_le h (Nat.pow_le_pow_right (by omega) hi))]; rfl

/-- one step of the document's Put, from bit i + 1 down to bit i -/
theorem put_step_in (w a k v i : Nat) (h : a + k ≤ 64) (hv : v < 2 ^ k) (h1 : a ≤ i) (h2 : i < a + k) :
    putN w a k v / 2 ^ (i + 1) * 2 + v / 2 ^ (i - a) % 2 = putN w a k v / 2 ^ i := by
  have e : v / 2 ^ (i - a) % 2 = putN w a k v / 2 ^ i % 2 := by
    rw [bit_eq, bit_eq, bit_putN w a k v i h hv (by omega), if_pos ⟨h1, h2⟩]
  rw [e, quarter]
theorem put_step_out (w a k v i : Nat) (h : a + k ≤ 64) (hv : v < 2 ^ k) (hi : i < 64) (h2 : ¬ (a ≤ i ∧ i < a + k)) :
    putN w a k v / 2 ^ (i + 1) * 2 + w / 2 ^ i % 2 = putN w a k v / 2 ^ i := by
  have e : w / 2 ^ i % 2 = putN w a k v / 2 ^ i % 2 := by
    rw [bit_eq, bit_eq, bit_putN w a k v i h hv hi, if_neg h2]
  rw [e, quarter]
/-- one step of the document's Get -/
theorem get_step (w a k i : Nat) (hi : i < k) : getN w a k / 2 ^ (i + 1) * 2 + w / 2 ^ (a + i) % 2 = getN w a k / 2 ^ i := by
  have e : w / 2 ^ (a + i) % 2 = getN w a k / 2 ^ i % 2 := by
    rw [bit_eq, bit_eq, bit_getN]; simp [hi]
  rw [e, quarter]
theorem div_top (x k : Nat) (h : x < 2 ^ k) : x / 2 ^ k = 0 := Nat.div_eq_of_lt h

/-- bits of a number below 2^32, by place -/
def onesTo (v k : Nat) : Nat := ((List.range k).filter fun i => v.testBit i).length
def freeTo (v k : Nat) : List Nat := (List.range k).filter fun i => !v.testBit i
theorem onesTo_succ (v k : Nat) : onesTo v (k + 1) = onesTo v k + if v.testBit k then 1 else 0 := by
  unfold onesTo
  rw [List.range_succ, List.filter_append, List.length_append]
  cases h : v.testBit k <;> simp [h]
theorem onesTo_le (v k : Nat) : onesTo v k ≤ k := by
  unfold onesTo
  exact Nat.le_trans (List.length_filter_le _ _) (by simp)
theorem freeTo_succ (v k : Nat) : freeTo v (k + 1) = freeTo v k ++ if v.testBit k then [] else [k] := by
  unfold freeTo
  rw [List.range_succ, List.filter_append]
  cases h : v.testBit k <;> simp [h]
theorem freeTo_le (v k : Nat) : (freeTo v k).length ≤ k := by
  unfold freeTo
  exact Nat.le_trans (List.length_filter_le _ _) (by simp)
theorem ones_free (v k : Nat) : onesTo v k + (freeTo v k).length = k := by
  induction k with
  | zero => rfl
  | succ k ih =>
    rw [onesTo_succ, freeTo_succ, List.length_append]
    cases h : v.testBit k <;> simp <;> omega

/-- the place of the lowest bit that is 1, below 32; -1, if there is none -/
def lowestN (v : Nat) : Int := match (List.range 32).find? fun i => v.testBit i with
  | some i => i
  | none => -1
theorem lowest_at (v k : Nat) (hk : k < 32) (hb : v.testBit k = true) (h : ∀ i, i < k → v.testBit i = false) : lowestN v = k := by
  have : (List.range 32).find? (fun i => v.testBit i) = some k := by
    rw [List.find?_range_eq_some]
    exact ⟨hb, List.mem_range.2 hk, fun i hi => by simp [h i hi]⟩
  unfold lowestN
  rw [this]
theorem lowest_none (v : Nat) (h : ∀ i, i < 32 → v.testBit i = false) : lowestN v = -1 := by
  have : (List.range 32).find? (fun i => v.testBit i) = none := by
    rw [List.find?_eq_none]
    intro i hi
    simp [h i (List.mem_range.1 hi)]
  unfold lowestN
  rw [this]

/-- the logarithm, -1 below 1 -/
def logI (n : Int) : Int := if n < 1 then -1 else (Nat.log2 n.toNat : Int)
theorem logI_at (n : Int) (k : Nat) (h1 : 1 ≤ n / 2 ^ k) (h2 : n / 2 ^ (k + 1) < 1) : logI n = k := by
  have hp : (0 : Int) < 2 ^ k := Int.pow_pos (by omega)
  have hn : 1 ≤ n := by
    have h3 := (Int.le_ediv_iff_mul_le hp).1 h1
    omega
  obtain ⟨m, rfl⟩ := Int.eq_ofNat_of_zero_le (show 0 ≤ n by omega)
  unfold logI
  rw [if_neg (by omega), Int.toNat_natCast]
  have h4 : 2 ^ k ≤ m := by
    have h3 := (Int.le_ediv_iff_mul_le hp).1 h1
    rw [Int.one_mul] at h3
    exact_mod_cast h3
  have h5 : m < 2 ^ (k + 1) := by
    have h3 := (Int.ediv_lt_iff_lt_mul (Int.pow_pos (by omega))).1 h2
    rw [Int.one_mul] at h3
    exact_mod_cast h3
  have : m ≠ 0 := by have := Nat.two_pow_pos k; omega
  have e : Nat.log2 m = k := by
    rw [Nat.log2_eq_iff this]
    exact ⟨h4, h5⟩
  rw [e]
theorem logI_no (n : Int) (h : n < 1) : logI n = -1 := by unfold logI; rw [if_pos h]

end Go.Proofs.Ythiobfghanlelaa.HM

/-
  Contracts of the functions of package half and of the document's answers to it that only reckon.
-/
namespace Go.Proofs.Ythiobfghanlelaa
open Go.ChangeShapes Go.WideShapes Go.ChangeAt Go.RowKit
set_option linter.unusedVariables false

/-- is there such a field? -/
def fieldB (a k : Int) : Bool := decide (0 ≤ a ∧ 1 ≤ k ∧ a ≤ 64 - k)
theorem fieldB_yes {a k : Int} (h0 : 0 ≤ a) (h1 : 1 ≤ k) (h2 : a ≤ 64 - k) : fieldB a k = true := by unfold fieldB; simp [h0, h1, h2]
theorem fieldB_no {a k : Int} (h : ¬ (0 ≤ a ∧ 1 ≤ k ∧ a ≤ 64 - k)) : fieldB a k = false := by unfold fieldB; exact decide_eq_false h
theorem low_wrap : ∀ k : Fin 65, 1 ≤ k.val → IntKind.u64.wrap (IntKind.u64.wrap (2 ^ k.val) - 1) = ((2 ^ k.val - 1 : Nat) : Int) := by decide +kernel
theorem and_one (n : Nat) (h : n < 2 ^ 32) : bits .and .u32 (n : Int) 1 = ((n % 2 : Nat) : Int) := by
  have := u32_and_nat n 1 h (by omega)
  rw [nat_mask1] at this
  exact this
theorem odd_bit (v k : Nat) : ((((v / 2 ^ k % 2 : Nat) : Int)) == 1) = v.testBit k := by
  rw [HM.bit_eq]
  cases v.testBit k <;> rfl
theorem Bit_c (v : Nat) (i : Int) (b : Bool) (hv : v < 2 ^ 32) (h0 : 0 ≤ i) (h1 : i < 32) (hb : v.testBit i.toNat = b) (w : World) :
    Calls Try.prog 69 #[.int .u32 (v : Int), .int .i64 i] w fun e w' => e = .returned (.bool b) ∧ w = w' := by
  have H := hidp hb
  clear hb
  go_enter Try.func69, Try.ntmps69
  go_wp2
  go_ret
  exact ⟨ret_bool (by rw [shr_cast, tmod_two, odd_bit, H.out]), rfl⟩
theorem ROnes_c (v : Nat) (hv : v < 2 ^ 32) (w : World) :
    Calls Try.prog 79 #[.int .u32 (v : Int)] w fun e w' => e = .returned (.int .i64 ((HM.onesTo v 32 : Nat) : Int)) ∧ w = w' := by
  go_enter Try.func79, Try.ntmps79
  go_wp2
  go_loop [3, 4] (fun s i => ∃ k : Nat, k ≤ 32 ∧ i = .int .i64 k ∧ s = .int .i64 ((HM.onesTo v k : Nat) : Int)) (fun _ i => 32 - (intOf i).toNat)
  case atStart => exact ⟨0, by omega, rfl, rfl⟩
  case round =>
    obtain ⟨k, hk, rfl, rfl⟩ := hrel
    have hle := HM.onesTo_le v k
    by_cases hlt : k < 32
    · have HS := hidp (HM.onesTo_succ v k)
      cases hb : v.testBit k
      all_goals
        have HT := hidp ((congrArg v.testBit (Int.toNat_natCast k)).trans hb)
        have HB := hidp hb
        clear hb
        go_wp2_with (go_at_call 69; refine (Bit_c v k _ hv (by omega) (by omega) HT.out _).mono ?_; rintro e w' ⟨rfl, rfl⟩)
        go_round
        case rel => exact ⟨k + 1, by omega, by go_num, by rw [HS.out, HB.out]; go_num⟩
        case measure => simp [intOf]; omega
    · obtain rfl : k = 32 := by omega
      go_wp2
      go_ret
      exact ⟨rfl, rfl⟩
theorem RLog_c (n : Int) (h0 : -9223372036854775808 ≤ n) (h1 : n ≤ 9223372036854775807) (w : World) :
    Calls Try.prog 88 #[.int .i64 n] w fun e w' => e = .returned (.int .i64 (HM.logI n)) ∧ w = w' := by
  go_enter Try.func88, Try.ntmps88
  go_wp2
  go_loop [0, 3] (fun m l => ∃ (q : Int) (k : Nat), k ≤ 63 ∧ m = .int .i64 q ∧ -9223372036854775808 ≤ q ∧ q ≤ 9223372036854775807 ∧ Hid (q = n / 2 ^ k) ∧ l = .int .i64 ((k : Int) - 1) ∧ Hid (0 < k → 1 ≤ n / 2 ^ (k - 1))) (fun m _ => (intOf m).toNat)
  case atStart => exact ⟨n, 0, by omega, rfl, h0, h1, hidp (by simp), rfl, hidp (fun h => absurd h (by omega))⟩
  case round =>
    obtain ⟨q, k, hk, rfl, hq0, hq1, HQ, rfl, HF⟩ := hrel
    by_cases hlt : q < 1
    · have HL : Hid (HM.logI n = (k : Int) - 1) := by
        have hq := HQ.out
        by_cases hk0 : k = 0
        · subst hk0
          exact hidp (HM.logI_no n (by rw [hq] at hlt; simpa using hlt))
        · have hs : k - 1 + 1 = k := by omega
          refine hidp ((HM.logI_at n (k - 1) (HF.out (by omega)) (by rw [hs, ← hq]; exact hlt)).trans (by omega))
      go_wp2
      go_ret
      exact ⟨ret_int HL.out.symm, rfl⟩
    · have hk2 : k < 63 := by
        rcases Nat.lt_or_ge k 63 with h | h
        · exact h
        · obtain rfl : k = 63 := by omega
          have hq := HQ.out
          omega
      have HS : Hid (q / 2 = n / 2 ^ (k + 1)) := hidp (by rw [HQ.out, Int.pow_succ, Int.ediv_ediv_of_nonneg (Int.le_of_lt (Int.pow_pos (by omega)))])
      have hp : 1 ≤ q := by omega
      clear hlt
      go_wp2
      go_round
      case rel => exact ⟨q / 2, k + 1, by omega, rfl, by omega, by omega, HS, by go_num, hidp (fun _ => by have := HQ.out; simp only [Nat.add_sub_cancel]; omega)⟩
      case measure => simp [intOf]; omega
theorem join_or (h l : Nat) (hh : h < 2 ^ 32) (hl : l < 2 ^ 32) : bits .or .u64 ((h : Int) * 4294967296) (l : Int) = ((h * 4294967296 + l : Nat) : Int) := by
  have e : (h : Int) * 4294967296 = ((h * 4294967296 : Nat) : Int) := by omega
  rw [e, u64_or_nat _ _ (by omega) (by omega), nat_join 32 _ _ (by omega) hl]
theorem join_sum (h l : Nat) (hh : h < 2 ^ 32) (hl : l < 2 ^ 32) : (h : Int) * 4294967296 + (l : Int) = ((h * 4294967296 + l : Nat) : Int) := by omega
theorem field_nat {a k : Int} (h : fieldB a k = true) : ∃ a' k' : Nat, a = a' ∧ k = k' ∧ 1 ≤ k' ∧ a' + k' ≤ 64 := by
  unfold fieldB at h
  have := of_decide_eq_true h
  exact ⟨a.toNat, k.toNat, by omega, by omega, by omega, by omega⟩
/-- what Get answers -/
def getI (x : Nat) (a k : Int) : Nat := if fieldB a k then HM.getN x a.toNat k.toNat else 0
theorem and_low (y k : Nat) (hy : y < 2 ^ 64) (hk : k ≤ 64) : bits .and .u64 (y : Int) ((2 ^ k - 1 : Nat) : Int) = ((y % 2 ^ k : Nat) : Int) := by
  have h2 : 2 ^ k ≤ 2 ^ 64 := Nat.pow_le_pow_right (by omega) hk
  rw [u64_and_nat y _ hy (by omega), Nat.and_two_pow_sub_one_eq_mod]
/-- what Put answers -/
def putOk (a k : Int) (v : Nat) : Bool := fieldB a k && decide (v < 2 ^ k.toNat)
def putI (x : Nat) (a k : Int) (v : Nat) : Nat := if putOk a k v then HM.putN x a.toNat k.toNat v else 0
theorem wrap_nat (n : Nat) (h : n < 2 ^ 64) : IntKind.u64.wrap (n : Int) = (n : Int) := by
  simp only [IntKind.wrap, IntKind.bits, IntKind.signed]; simp; omega
theorem put_bits (x a k v : Nat) (hx : x < 2 ^ 64) (h : a + k ≤ 64) (hv : v < 2 ^ k) :
    bits .or .u64 (bits .andNot .u64 (x : Int) (IntKind.u64.wrap (((2 ^ k - 1 : Nat) : Int) * 2 ^ a))) (IntKind.u64.wrap ((v : Int) * 2 ^ a)) = ((HM.putN x a k v : Nat) : Int) := by
  have h1 := HM.mask_lt a k h
  have h2 : v * 2 ^ a < 2 ^ 64 := Nat.lt_of_le_of_lt (Nat.mul_le_mul_right _ (by omega)) h1
  have e1 : ((2 ^ k - 1 : Nat) : Int) * 2 ^ a = (((2 ^ k - 1) * 2 ^ a : Nat) : Int) := by rw [Int.natCast_mul, Int.natCast_pow]; rfl
  have e2 : (v : Int) * 2 ^ a = ((v * 2 ^ a : Nat) : Int) := by rw [Int.natCast_mul, Int.natCast_pow]; rfl
  rw [e1, e2, wrap_nat _ h1, wrap_nat _ h2, u64_andNot_nat _ _ hx h1, u64_or_nat _ _ (Nat.lt_of_le_of_lt Nat.and_le_left hx) h2]
  rfl
end Go.Proofs.Ythiobfghanlelaa
