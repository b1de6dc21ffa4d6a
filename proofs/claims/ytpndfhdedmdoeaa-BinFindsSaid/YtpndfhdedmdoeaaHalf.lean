/-
  Contracts of the functions of package half and of the document's answers to it that only reckon.
-/
import Derived.Test.YtpndfhdedmdoeaaKit
import Derived.Test.YtpndfhdedmdoeaaHalfMath
import Derived.WalkKit
import Derived.ProofKit
import Derived.BigQuiet
import Derived.Outline
import Derived.Deep.QuietTactic
namespace Go.Proofs.Ytpndfhdedmdoeaa
open Go.ChangeShapes Go.WideShapes Go.ChangeAt Go.RowKit
set_option linter.unusedVariables false

/-- is there such a field? -/
def fieldB (a k : Int) : Bool := decide (0 ≤ a ∧ 1 ≤ k ∧ a ≤ 64 - k)
theorem fieldB_yes {a k : Int} (h0 : 0 ≤ a) (h1 : 1 ≤ k) (h2 : a ≤ 64 - k) : fieldB a k = true := by unfold fieldB; simp [h0, h1, h2]
theorem fieldB_no {a k : Int} (h : ¬ (0 ≤ a ∧ 1 ≤ k ∧ a ≤ 64 - k)) : fieldB a k = false := by unfold fieldB; exact decide_eq_false h
theorem isField_c (a k : Int) (ha : -9223372036854775808 ≤ a) (ha' : a ≤ 9223372036854775807) (hk : -9223372036854775808 ≤ k) (hk' : k ≤ 9223372036854775807) (w : World) :
    Calls Try.prog 97 #[.int .i64 a, .int .i64 k] w fun e w' => e = .returned (.bool (fieldB a k)) ∧ w = w' := by
  by_cases h0 : 0 ≤ a
  · by_cases h1 : 1 ≤ k
    · by_cases h2 : a ≤ 64 - k
      · have H := hidp (fieldB_yes (a := a) (k := k) (by omega) (by omega) (by omega))
        go_enter Try.func97, Try.ntmps97
        go_wp2
        go_ret
        exact ⟨by rw [H.out]; rfl, rfl⟩
      · have H := hidp (fieldB_no (a := a) (k := k) (by omega))
        go_enter Try.func97, Try.ntmps97
        go_wp2
        go_ret
        exact ⟨by rw [H.out]; rfl, rfl⟩
    · have H := hidp (fieldB_no (a := a) (k := k) (by omega))
      go_enter Try.func97, Try.ntmps97
      go_wp2
      go_ret
      exact ⟨by rw [H.out]; rfl, rfl⟩
  · have H := hidp (fieldB_no (a := a) (k := k) (by omega))
    go_enter Try.func97, Try.ntmps97
    go_wp2
    go_ret
    exact ⟨by rw [H.out]; rfl, rfl⟩
theorem low_wrap : ∀ k : Fin 65, 1 ≤ k.val → IntKind.u64.wrap (IntKind.u64.wrap (2 ^ k.val) - 1) = ((2 ^ k.val - 1 : Nat) : Int) := by decide +kernel
theorem lowBits_c (k : Int) (h0 : 1 ≤ k) (h1 : k ≤ 64) (w : World) :
    Calls Try.prog 98 #[.int .i64 k] w fun e w' => e = .returned (.int .u64 ((2 ^ k.toNat - 1 : Nat) : Int)) ∧ w = w' := by
  have H := hidp (low_wrap ⟨k.toNat, by omega⟩ (by simp; omega))
  go_enter Try.func98, Try.ntmps98
  go_wp2
  go_ret
  exact ⟨ret_int H.out, rfl⟩
theorem and_one (n : Nat) (h : n < 2 ^ 32) : bits .and .u32 (n : Int) 1 = ((n % 2 : Nat) : Int) := by
  have := u32_and_nat n 1 h (by omega)
  rw [nat_mask1] at this
  exact this
theorem odd_bit (v k : Nat) : ((((v / 2 ^ k % 2 : Nat) : Int)) == 1) = v.testBit k := by
  rw [HM.bit_eq]
  cases v.testBit k <;> rfl
theorem Bit_c (v : Nat) (i : Int) (b : Bool) (hv : v < 2 ^ 32) (h0 : 0 ≤ i) (h1 : i < 32) (hb : v.testBit i.toNat = b) (w : World) :
    Calls Try.prog 101 #[.int .u32 (v : Int), .int .i64 i] w fun e w' => e = .returned (.bool b) ∧ w = w' := by
  have H := hidp hb
  clear hb
  go_enter Try.func101, Try.ntmps101
  go_wp2
  go_ret
  exact ⟨ret_bool (by rw [shr_cast, tmod_two, odd_bit, H.out]), rfl⟩
theorem ROnes_c (v : Nat) (hv : v < 2 ^ 32) (w : World) :
    Calls Try.prog 111 #[.int .u32 (v : Int)] w fun e w' => e = .returned (.int .i64 ((HM.onesTo v 32 : Nat) : Int)) ∧ w = w' := by
  go_enter Try.func111, Try.ntmps111
  go_wp2
  go_loop [3, 4] (fun s i => ∃ k : Nat, k ≤ 32 ∧ i = .int .i64 k ∧ s = .int .i64 ((HM.onesTo v k : Nat) : Int)) (fun _ i => 32 - (intOf i).toNat)
  case atStart => exact ⟨0, by omega, rfl, rfl⟩
  case round =>
    obtain ⟨k, hk, rfl, rfl⟩ := hrel
    have hle := HM.onesTo_le v k
    by_cases hlt : k < 32
    · have HS := hidp (HM.onesTo_succ v k)
      cases hb : v.testBit k
      all_goals
        have HT := hidp ((congrArg v.testBit (Int.toNat_natCast k)).trans hb)
        have HB := hidp hb
        clear hb
        go_wp2_with (go_at_call 101; refine (Bit_c v k _ hv (by omega) (by omega) HT.out _).mono ?_; rintro e w' ⟨rfl, rfl⟩)
        go_round
        case rel => exact ⟨k + 1, by omega, by go_num, by rw [HS.out, HB.out]; go_num⟩
        case measure => simp [intOf]; omega
    · obtain rfl : k = 32 := by omega
      go_wp2
      go_ret
      exact ⟨rfl, rfl⟩
theorem Log_c (n : Int) (h0 : -9223372036854775808 ≤ n) (h1 : n ≤ 9223372036854775807) (w : World) :
    Calls Try.prog 46 #[.int .i64 n] w fun e w' => e = .returned (.int .i64 (HM.logI n)) ∧ w = w' := by
  go_enter Try.func46, Try.ntmps46
  go_wp2
  go_loop [3, 5] (fun l i => ∃ k : Nat, k ≤ 63 ∧ i = .int .i64 k ∧ l = .int .i64 ((k : Int) - 1) ∧ Hid (0 < k → 1 ≤ n / 2 ^ (k - 1))) (fun _ i => 63 - (intOf i).toNat)
  case atStart => exact ⟨0, by omega, rfl, rfl, hidp (fun h => absurd h (by omega))⟩
  case round =>
    obtain ⟨k, hk, rfl, rfl, HF⟩ := hrel
    by_cases hlt : n / 2 ^ k < 1
    · have HL : Hid (HM.logI n = (k : Int) - 1) := by
        by_cases hk0 : k = 0
        · subst hk0
          exact hidp (HM.logI_no n (by simpa using hlt))
        · have hs : k - 1 + 1 = k := by omega
          refine hidp ((HM.logI_at n (k - 1) (HF.out (by omega)) (by rw [hs]; exact hlt)).trans (by omega))
      go_wp2
      go_ret
      exact ⟨ret_int HL.out.symm, rfl⟩
    · have hk2 : k < 63 := by
        rcases Nat.lt_or_ge k 63 with h | h
        · exact h
        · obtain rfl : k = 63 := by omega
          exact absurd (show n / 2 ^ 63 < 1 from by omega) hlt
      have HN := hidp hlt
      go_wp2
      go_round
      case rel => exact ⟨k + 1, by omega, by go_num, by go_num, hidp (fun _ => by have := HN.out; simp only [Nat.add_sub_cancel]; omega)⟩
      case measure => simp [intOf]; omega
theorem RLog_c (n : Int) (h0 : -9223372036854775808 ≤ n) (h1 : n ≤ 9223372036854775807) (w : World) :
    Calls Try.prog 47 #[.int .i64 n] w fun e w' => e = .returned (.int .i64 (HM.logI n)) ∧ w = w' := by
  go_enter Try.func47, Try.ntmps47
  go_wp2
  go_loop [0, 3] (fun m l => ∃ (q : Int) (k : Nat), k ≤ 63 ∧ m = .int .i64 q ∧ -9223372036854775808 ≤ q ∧ q ≤ 9223372036854775807 ∧ Hid (q = n / 2 ^ k) ∧ l = .int .i64 ((k : Int) - 1) ∧ Hid (0 < k → 1 ≤ n / 2 ^ (k - 1))) (fun m _ => (intOf m).toNat)
  case atStart => exact ⟨n, 0, by omega, rfl, h0, h1, hidp (by simp), rfl, hidp (fun h => absurd h (by omega))⟩
  case round =>
    obtain ⟨q, k, hk, rfl, hq0, hq1, HQ, rfl, HF⟩ := hrel
    by_cases hlt : q < 1
    · have HL : Hid (HM.logI n = (k : Int) - 1) := by
        have hq := HQ.out
        by_cases hk0 : k = 0
        · subst hk0
          exact hidp (HM.logI_no n (by rw [hq] at hlt; simpa using hlt))
        · have hs : k - 1 + 1 = k := by omega
          refine hidp ((HM.logI_at n (k - 1) (HF.out (by omega)) (by rw [hs, ← hq]; exact hlt)).trans (by omega))
      go_wp2
      go_ret
      exact ⟨ret_int HL.out.symm, rfl⟩
    · have hk2 : k < 63 := by
        rcases Nat.lt_or_ge k 63 with h | h
        · exact h
        · obtain rfl : k = 63 := by omega
          have hq := HQ.out
          omega
      have HS : Hid (q / 2 = n / 2 ^ (k + 1)) := hidp (by rw [HQ.out, Int.pow_succ, Int.ediv_ediv_of_nonneg (Int.le_of_lt (Int.pow_pos (by omega)))])
      have hp : 1 ≤ q := by omega
      clear hlt
      go_wp2
      go_round
      case rel => exact ⟨q / 2, k + 1, by omega, rfl, by omega, by omega, HS, by go_num, hidp (fun _ => by have := HQ.out; simp only [Nat.add_sub_cancel]; omega)⟩
      case measure => simp [intOf]; omega
theorem join_or (h l : Nat) (hh : h < 2 ^ 32) (hl : l < 2 ^ 32) : bits .or .u64 ((h : Int) * 4294967296) (l : Int) = ((h * 4294967296 + l : Nat) : Int) := by
  have e : (h : Int) * 4294967296 = ((h * 4294967296 : Nat) : Int) := by omega
  rw [e, u64_or_nat _ _ (by omega) (by omega), nat_join 32 _ _ (by omega) hl]
theorem join_sum (h l : Nat) (hh : h < 2 ^ 32) (hl : l < 2 ^ 32) : (h : Int) * 4294967296 + (l : Int) = ((h * 4294967296 + l : Nat) : Int) := by omega
theorem Join_c (h l : Nat) (hh : h < 2 ^ 32) (hl : l < 2 ^ 32) (w : World) :
    Calls Try.prog 93 #[.int .u32 (h : Int), .int .u32 (l : Int)] w fun e w' => e = .returned (.int .u64 ((h * 4294967296 + l : Nat) : Int)) ∧ w = w' := by
  go_enter Try.func93, Try.ntmps93
  go_wp2
  go_ret
  exact ⟨ret_int (join_or h l hh hl), rfl⟩
theorem Lo_c (x : Nat) (hx : x < 2 ^ 64) (w : World) :
    Calls Try.prog 72 #[.int .u64 (x : Int)] w fun e w' => e = .returned (.int .u32 ((x % 4294967296 : Nat) : Int)) ∧ w = w' := by
  go_enter Try.func72, Try.ntmps72
  go_wp2
  go_ret
  exact ⟨ret_int (by first | omega | (rw [Int.tmod_eq_emod_of_nonneg (by omega)]; omega) | (rw [IntKind.wrap_u32]; omega)), rfl⟩
theorem field_nat {a k : Int} (h : fieldB a k = true) : ∃ a' k' : Nat, a = a' ∧ k = k' ∧ 1 ≤ k' ∧ a' + k' ≤ 64 := by
  unfold fieldB at h
  have := of_decide_eq_true h
  exact ⟨a.toNat, k.toNat, by omega, by omega, by omega, by omega⟩
/-- what Get answers -/
def getI (x : Nat) (a k : Int) : Nat := if fieldB a k then HM.getN x a.toNat k.toNat else 0
theorem and_low (y k : Nat) (hy : y < 2 ^ 64) (hk : k ≤ 64) : bits .and .u64 (y : Int) ((2 ^ k - 1 : Nat) : Int) = ((y % 2 ^ k : Nat) : Int) := by
  have h2 : 2 ^ k ≤ 2 ^ 64 := Nat.pow_le_pow_right (by omega) hk
  rw [u64_and_nat y _ hy (by omega), Nat.and_two_pow_sub_one_eq_mod]
theorem Get_c (x : Nat) (a k : Int) (hx : x < 2 ^ 64) (ha : -9223372036854775808 ≤ a) (ha' : a ≤ 9223372036854775807) (hk : -9223372036854775808 ≤ k) (hk' : k ≤ 9223372036854775807) (w : World) :
    Calls Try.prog 95 #[.int .u64 (x : Int), .int .i64 a, .int .i64 k] w fun e w' => e = .returned (.int .u64 ((getI x a k : Nat) : Int)) ∧ ∃ n, w' = w.drewN n := by
  cases hf : fieldB a k
  · have H := hidp hf
    clear hf
    go_enter Try.func95, Try.ntmps95
    go_wp2_with (go_at_call 97; refine (isField_c a k ha ha' hk hk' _).mono ?_; rintro e w' ⟨rfl, rfl⟩; rw [H.out])
    go_ret
    exact ⟨ret_int (by unfold getI; rw [H.out]; rfl), 0, rfl⟩
  · have H := hidp hf
    obtain ⟨a', k', rfl, rfl, h1, h2⟩ := field_nat hf
    clear hf
    go_enter Try.func95, Try.ntmps95
    go_wp2_with (go_at_call 97; refine (isField_c a' k' ha ha' hk hk' _).mono ?_; rintro e w' ⟨rfl, rfl⟩; rw [H.out])
    go_quiet ((go_at_call 98; exact quiet_same (lowBits_c k' (by omega) (by omega) _)))
    go_wp2
    go_ret
    exact ⟨ret_int (by rw [shr_cast, and_low _ _ (Nat.lt_of_le_of_lt (Nat.div_le_self _ _) hx) (by omega)]; unfold getI; rw [H.out, if_pos rfl, Int.toNat_natCast, Int.toNat_natCast]; rfl), nq, rfl⟩
/-- what Put answers -/
def putOk (a k : Int) (v : Nat) : Bool := fieldB a k && decide (v < 2 ^ k.toNat)
def putI (x : Nat) (a k : Int) (v : Nat) : Nat := if putOk a k v then HM.putN x a.toNat k.toNat v else 0
theorem wrap_nat (n : Nat) (h : n < 2 ^ 64) : IntKind.u64.wrap (n : Int) = (n : Int) := by
  simp only [IntKind.wrap, IntKind.bits, IntKind.signed]; simp; omega
theorem put_bits (x a k v : Nat) (hx : x < 2 ^ 64) (h : a + k ≤ 64) (hv : v < 2 ^ k) :
    bits .or .u64 (bits .andNot .u64 (x : Int) (IntKind.u64.wrap (((2 ^ k - 1 : Nat) : Int) * 2 ^ a))) (IntKind.u64.wrap ((v : Int) * 2 ^ a)) = ((HM.putN x a k v : Nat) : Int) := by
  have h1 := HM.mask_lt a k h
  have h2 : v * 2 ^ a < 2 ^ 64 := Nat.lt_of_le_of_lt (Nat.mul_le_mul_right _ (by omega)) h1
  have e1 : ((2 ^ k - 1 : Nat) : Int) * 2 ^ a = (((2 ^ k - 1) * 2 ^ a : Nat) : Int) := by rw [Int.natCast_mul, Int.natCast_pow]; rfl
  have e2 : (v : Int) * 2 ^ a = ((v * 2 ^ a : Nat) : Int) := by rw [Int.natCast_mul, Int.natCast_pow]; rfl
  rw [e1, e2, wrap_nat _ h1, wrap_nat _ h2, u64_andNot_nat _ _ hx h1, u64_or_nat _ _ (Nat.lt_of_le_of_lt Nat.and_le_left hx) h2]
  rfl
theorem Put_c (x v : Nat) (a k : Int) (hx : x < 2 ^ 64) (hv : v < 2 ^ 64) (ha : -9223372036854775808 ≤ a) (ha' : a ≤ 9223372036854775807) (hk : -9223372036854775808 ≤ k) (hk' : k ≤ 9223372036854775807) (w : World) :
    Calls Try.prog 71 #[.int .u64 (x : Int), .int .i64 a, .int .i64 k, .int .u64 (v : Int)] w fun e w' => e = .returned (.tuple #[.int .u64 ((putI x a k v : Nat) : Int), .bool (putOk a k v)]) ∧ ∃ n, w' = w.drewN n := by
  cases hf : fieldB a k
  · have H := hidp hf
    clear hf
    go_enter Try.func71, Try.ntmps71
    go_wp2_with (go_at_call 97; refine (isField_c a k ha ha' hk hk' _).mono ?_; rintro e w' ⟨rfl, rfl⟩; rw [H.out])
    go_ret2
    exact ⟨by unfold putI putOk; rw [H.out]; rfl, 0, rfl⟩
  · have H := hidp hf
    obtain ⟨a', k', rfl, rfl, h1, h2⟩ := field_nat hf
    clear hf
    by_cases hlt : v < 2 ^ k'
    · have HO : Hid (putOk a' k' v = true) := hidp (by unfold putOk; rw [H.out, Int.toNat_natCast]; simp [hlt])
      have HP : Hid (putI x a' k' v = HM.putN x a' k' v) := hidp (by unfold putI; rw [HO.out, if_pos rfl, Int.toNat_natCast, Int.toNat_natCast])
      have HB := hidp (put_bits x a' k' v hx h2 hlt)
      have hng : ¬ (((2 ^ k' - 1 : Nat) : Int) < (v : Int)) := by omega
      go_enter Try.func71, Try.ntmps71
      go_wp2_with (first | (go_at_call 97; refine (isField_c a' k' ha ha' hk hk' _).mono ?_; rintro e w' ⟨rfl, rfl⟩; rw [H.out]) | (go_at_call 98; refine (lowBits_c k' (by omega) (by omega) _).mono ?_; rintro e w' ⟨rfl, rfl⟩; rw [Int.toNat_natCast]))
      go_quiet ((go_at_call 98; exact quiet_same (lowBits_c k' (by omega) (by omega) _)))
      go_wp2
      go_ret2
      exact ⟨by rw [HO.out, HP.out, ← HB.out]; rfl, nq, rfl⟩
    · have HO : Hid (putOk a' k' v = false) := hidp (by unfold putOk; rw [H.out, Int.toNat_natCast]; simp [hlt])
      have HP : Hid (putI x a' k' v = 0) := hidp (by unfold putI; rw [HO.out]; rfl)
      have hg : (((2 ^ k' - 1 : Nat) : Int) < (v : Int)) := by have := Nat.two_pow_pos k'; omega
      go_enter Try.func71, Try.ntmps71
      go_wp2_with (first | (go_at_call 97; refine (isField_c a' k' ha ha' hk hk' _).mono ?_; rintro e w' ⟨rfl, rfl⟩; rw [H.out]) | (go_at_call 98; refine (lowBits_c k' (by omega) (by omega) _).mono ?_; rintro e w' ⟨rfl, rfl⟩; rw [Int.toNat_natCast]))
      go_ret2
      exact ⟨by rw [HO.out, HP.out]; rfl, 0, rfl⟩
end Go.Proofs.Ytpndfhdedmdoeaa
