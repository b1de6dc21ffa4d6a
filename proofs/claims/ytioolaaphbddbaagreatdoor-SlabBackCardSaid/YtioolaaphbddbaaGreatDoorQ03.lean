/-
  Contracts of the functions of package half and of the document's answers to it that only reckon.
-/
import Derived.Test.YtioolaaphbddbaaGreatDoorKit
import Derived.Test.YtioolaaphbddbaaGreatDoorQ02
import Derived.WalkKit
import Derived.ProofKit
import Derived.BigQuiet
import Derived.Outline
import Derived.Deep.QuietTactic
import Derived.Deep.RegionHeld3
import Derived.IntWalk
import Derived.KernelRfl
namespace Go.Proofs.YtioolaaphbddbaaGreatDoor
open Go.ChangeShapes Go.WideShapes Go.ChangeAt Go.RowKit
set_option linter.unusedVariables false
section
def fieldB (a k : Int) : Bool := decide (0 ≤ a ∧ 1 ≤ k ∧ a ≤ 64 - k)
theorem fieldB_yes {a k : Int} (h0 : 0 ≤ a) (h1 : 1 ≤ k) (h2 : a ≤ 64 - k) : fieldB a k = true := by unfold fieldB; simp [h0, h1, h2]
theorem fieldB_no {a k : Int} (h : ¬ (0 ≤ a ∧ 1 ≤ k ∧ a ≤ 64 - k)) : fieldB a k = false := by unfold fieldB; exact decide_eq_false h
theorem isField_c (a k : Int) (ha : -9223372036854775808 ≤ a) (ha' : a ≤ 9223372036854775807) (hk : -9223372036854775808 ≤ k) (hk' : k ≤ 9223372036854775807) (w : World) :
    Calls Tryz.prog 130 #[.int .i64 a, .int .i64 k] w fun e w' => e = .returned (.bool (fieldB a k)) ∧ w = w' := by
  by_cases h0 : 0 ≤ a
  · by_cases h1 : 1 ≤ k
    · by_cases h2 : a ≤ 64 - k
      · have H := hidp (fieldB_yes (a := a) (k := k) (by omega) (by omega) (by omega))
        go_enter Tryz.func130, Tryz.ntmps130
        go_wp2
        go_ret
        exact ⟨by rw [H.out]; rfl, rfl⟩
      · have H := hidp (fieldB_no (a := a) (k := k) (by omega))
        go_enter Tryz.func130, Tryz.ntmps130
        go_wp2
        go_ret
        exact ⟨by rw [H.out]; rfl, rfl⟩
    · have H := hidp (fieldB_no (a := a) (k := k) (by omega))
      go_enter Tryz.func130, Tryz.ntmps130
      go_wp2
      go_ret
      exact ⟨by rw [H.out]; rfl, rfl⟩
  · have H := hidp (fieldB_no (a := a) (k := k) (by omega))
    go_enter Tryz.func130, Tryz.ntmps130
    go_wp2
    go_ret
    exact ⟨by rw [H.out]; rfl, rfl⟩
theorem low_wrap : ∀ k : Fin 65, 1 ≤ k.val → IntKind.u64.wrap (IntKind.u64.wrap (2 ^ k.val) - 1) = ((2 ^ k.val - 1 : Nat) : Int) := by decide +kernel
theorem lowBits_c (k : Int) (h0 : 1 ≤ k) (h1 : k ≤ 64) (w : World) :
    Calls Tryz.prog 131 #[.int .i64 k] w fun e w' => e = .returned (.int .u64 ((2 ^ k.toNat - 1 : Nat) : Int)) ∧ w = w' := by
  have H := hidp (low_wrap ⟨k.toNat, by omega⟩ (by simp; omega))
  go_enter Tryz.func131, Tryz.ntmps131
  go_wp2
  go_ret
  exact ⟨ret_int H.out, rfl⟩
theorem and_one (n : Nat) (h : n < 2 ^ 32) : bits .and .u32 (n : Int) 1 = ((n % 2 : Nat) : Int) := by
  have := u32_and_nat n 1 h (by omega)
  rw [nat_mask1] at this
  exact this
theorem odd_bit (v k : Nat) : ((((v / 2 ^ k % 2 : Nat) : Int)) == 1) = v.testBit k := by
  rw [HM.bit_eq]
  cases v.testBit k <;> rfl
theorem isOne_c (v : Nat) (i : Int) (b : Bool) (hv : v < 2 ^ 32) (h0 : 0 ≤ i) (h1 : i < 32) (hb : v.testBit i.toNat = b) (w : World) :
    Calls Tryz.prog 126 #[.int .u32 (v : Int), .int .i64 i] w fun e w' => e = .returned (.bool b) ∧ w = w' := by
  have H := hidp hb
  clear hb
  go_enter Tryz.func126, Tryz.ntmps126
  go_wp2
  go_ret
  exact ⟨ret_bool (by rw [shr_cast, and_one _ (Nat.lt_of_le_of_lt (Nat.div_le_self _ _) hv), odd_bit, H.out]), rfl⟩
theorem Bit_c (v : Nat) (i : Int) (b : Bool) (hv : v < 2 ^ 32) (h0 : 0 ≤ i) (h1 : i < 32) (hb : v.testBit i.toNat = b) (w : World) :
    Calls Tryz.prog 47 #[.int .u32 (v : Int), .int .i64 i] w fun e w' => e = .returned (.bool b) ∧ w = w' := by
  have H := hidp hb
  clear hb
  go_enter Tryz.func47, Tryz.ntmps47
  go_wp2
  go_ret
  exact ⟨ret_bool (by rw [shr_cast, tmod_two, odd_bit, H.out]), rfl⟩
theorem Ones_c (v : Nat) (hv : v < 2 ^ 32) (w : World) :
    Calls Tryz.prog 127 #[.int .u32 (v : Int)] w fun e w' => e = .returned (.int .i64 ((HM.onesTo v 32 : Nat) : Int)) ∧ w = w' := by
  go_enter Tryz.func127, Tryz.ntmps127
  go_wp2
  go_loop [3, 5] (fun s i => ∃ k : Nat, k ≤ 32 ∧ i = .int .i64 k ∧ s = .int .i64 ((HM.onesTo v k : Nat) : Int)) (fun _ i => 32 - (intOf i).toNat)
  case atStart => exact ⟨0, by omega, rfl, rfl⟩
  case round =>
    obtain ⟨k, hk, rfl, rfl⟩ := hrel
    have hle := HM.onesTo_le v k
    by_cases hlt : k < 32
    · have HS := hidp (HM.onesTo_succ v k)
      cases hb : v.testBit k
      all_goals
        have HT := hidp ((congrArg v.testBit (Int.toNat_natCast k)).trans hb)
        have HB := hidp hb
        clear hb
        go_wp2_with (go_at_call 126; refine (isOne_c v k _ hv (by omega) (by omega) HT.out _).mono ?_; rintro e w' ⟨rfl, rfl⟩)
        go_round
        case rel => exact ⟨k + 1, by omega, by go_num, by rw [HS.out, HB.out]; go_num⟩
        case measure => simp [intOf]; omega
    · obtain rfl : k = 32 := by omega
      go_wp2
      go_ret
      exact ⟨rfl, rfl⟩
theorem ROnes_c (v : Nat) (hv : v < 2 ^ 32) (w : World) :
    Calls Tryz.prog 28 #[.int .u32 (v : Int)] w fun e w' => e = .returned (.int .i64 ((HM.onesTo v 32 : Nat) : Int)) ∧ w = w' := by
  go_enter Tryz.func28, Tryz.ntmps28
  go_wp2
  go_loop [3, 4] (fun s i => ∃ k : Nat, k ≤ 32 ∧ i = .int .i64 k ∧ s = .int .i64 ((HM.onesTo v k : Nat) : Int)) (fun _ i => 32 - (intOf i).toNat)
  case atStart => exact ⟨0, by omega, rfl, rfl⟩
  case round =>
    obtain ⟨k, hk, rfl, rfl⟩ := hrel
    have hle := HM.onesTo_le v k
    by_cases hlt : k < 32
    · have HS := hidp (HM.onesTo_succ v k)
      cases hb : v.testBit k
      all_goals
        have HT := hidp ((congrArg v.testBit (Int.toNat_natCast k)).trans hb)
        have HB := hidp hb
        clear hb
        go_wp2_with (go_at_call 47; refine (Bit_c v k _ hv (by omega) (by omega) HT.out _).mono ?_; rintro e w' ⟨rfl, rfl⟩)
        go_round
        case rel => exact ⟨k + 1, by omega, by go_num, by rw [HS.out, HB.out]; go_num⟩
        case measure => simp [intOf]; omega
    · obtain rfl : k = 32 := by omega
      go_wp2
      go_ret
      exact ⟨rfl, rfl⟩
theorem Log_c (n : Int) (h0 : -9223372036854775808 ≤ n) (h1 : n ≤ 9223372036854775807) (w : World) :
    Calls Tryz.prog 162 #[.int .i64 n] w fun e w' => e = .returned (.int .i64 (HM.logI n)) ∧ w = w' := by
  go_enter Tryz.func162, Tryz.ntmps162
  go_wp2
  go_loop [3, 5] (fun l i => ∃ k : Nat, k ≤ 63 ∧ i = .int .i64 k ∧ l = .int .i64 ((k : Int) - 1) ∧ Hid (0 < k → 1 ≤ n / 2 ^ (k - 1))) (fun _ i => 63 - (intOf i).toNat)
  case atStart => exact ⟨0, by omega, rfl, rfl, hidp (fun h => absurd h (by omega))⟩
  case round =>
    obtain ⟨k, hk, rfl, rfl, HF⟩ := hrel
    by_cases hlt : n / 2 ^ k < 1
    · have HL : Hid (HM.logI n = (k : Int) - 1) := by
        by_cases hk0 : k = 0
        · subst hk0
          exact hidp (HM.logI_no n (by simpa using hlt))
        · have hs : k - 1 + 1 = k := by omega
          refine hidp ((HM.logI_at n (k - 1) (HF.out (by omega)) (by rw [hs]; exact hlt)).trans (by omega))
      go_wp2
      go_ret
      exact ⟨ret_int HL.out.symm, rfl⟩
    · have hk2 : k < 63 := by
        rcases Nat.lt_or_ge k 63 with h | h
        · exact h
        · obtain rfl : k = 63 := by omega
          exact absurd (show n / 2 ^ 63 < 1 from by omega) hlt
      have HN := hidp hlt
      go_wp2
      go_round
      case rel => exact ⟨k + 1, by omega, by go_num, by go_num, hidp (fun _ => by have := HN.out; simp only [Nat.add_sub_cancel]; omega)⟩
      case measure => simp [intOf]; omega
theorem RLog_c (n : Int) (h0 : -9223372036854775808 ≤ n) (h1 : n ≤ 9223372036854775807) (w : World) :
    Calls Tryz.prog 137 #[.int .i64 n] w fun e w' => e = .returned (.int .i64 (HM.logI n)) ∧ w = w' := by
  go_enter Tryz.func137, Tryz.ntmps137
  go_wp2
  go_loop [0, 3] (fun m l => ∃ (q : Int) (k : Nat), k ≤ 63 ∧ m = .int .i64 q ∧ -9223372036854775808 ≤ q ∧ q ≤ 9223372036854775807 ∧ Hid (q = n / 2 ^ k) ∧ l = .int .i64 ((k : Int) - 1) ∧ Hid (0 < k → 1 ≤ n / 2 ^ (k - 1))) (fun m _ => (intOf m).toNat)
  case atStart => exact ⟨n, 0, by omega, rfl, h0, h1, hidp (by simp), rfl, hidp (fun h => absurd h (by omega))⟩
  case round =>
    obtain ⟨q, k, hk, rfl, hq0, hq1, HQ, rfl, HF⟩ := hrel
    by_cases hlt : q < 1
    · have HL : Hid (HM.logI n = (k : Int) - 1) := by
        have hq := HQ.out
        by_cases hk0 : k = 0
        · subst hk0
          exact hidp (HM.logI_no n (by rw [hq] at hlt; simpa using hlt))
        · have hs : k - 1 + 1 = k := by omega
          refine hidp ((HM.logI_at n (k - 1) (HF.out (by omega)) (by rw [hs, ← hq]; exact hlt)).trans (by omega))
      go_wp2
      go_ret
      exact ⟨ret_int HL.out.symm, rfl⟩
    · have hk2 : k < 63 := by
        rcases Nat.lt_or_ge k 63 with h | h
        · exact h
        · obtain rfl : k = 63 := by omega
          have hq := HQ.out
          omega
      have HS : Hid (q / 2 = n / 2 ^ (k + 1)) := hidp (by rw [HQ.out, Int.pow_succ, Int.ediv_ediv_of_nonneg (Int.le_of_lt (Int.pow_pos (by omega)))])
      have hp : 1 ≤ q := by omega
      clear hlt
      go_wp2
      go_round
      case rel => exact ⟨q / 2, k + 1, by omega, rfl, by omega, by omega, HS, by go_num, hidp (fun _ => by have := HQ.out; simp only [Nat.add_sub_cancel]; omega)⟩
      case measure => simp [intOf]; omega
theorem join_or (h l : Nat) (hh : h < 2 ^ 32) (hl : l < 2 ^ 32) : bits .or .u64 ((h : Int) * 4294967296) (l : Int) = ((h * 4294967296 + l : Nat) : Int) := by
  have e : (h : Int) * 4294967296 = ((h * 4294967296 : Nat) : Int) := by omega
  rw [e, u64_or_nat _ _ (by omega) (by omega), nat_join 32 _ _ (by omega) hl]
theorem Join_c (h l : Nat) (hh : h < 2 ^ 32) (hl : l < 2 ^ 32) (w : World) :
    Calls Tryz.prog 99 #[.int .u32 (h : Int), .int .u32 (l : Int)] w fun e w' => e = .returned (.int .u64 ((h * 4294967296 + l : Nat) : Int)) ∧ w = w' := by
  go_enter Tryz.func99, Tryz.ntmps99
  go_wp2
  go_ret
  exact ⟨ret_int (join_or h l hh hl), rfl⟩
theorem Lo_c (x : Nat) (hx : x < 2 ^ 64) (w : World) :
    Calls Tryz.prog 123 #[.int .u64 (x : Int)] w fun e w' => e = .returned (.int .u32 ((x % 4294967296 : Nat) : Int)) ∧ w = w' := by
  go_enter Tryz.func123, Tryz.ntmps123
  go_wp2
  go_ret
  exact ⟨ret_int (by first | omega | (rw [Int.tmod_eq_emod_of_nonneg (by omega)]; omega) | (rw [IntKind.wrap_u32]; omega)), rfl⟩
theorem field_nat {a k : Int} (h : fieldB a k = true) : ∃ a' k' : Nat, a = a' ∧ k = k' ∧ 1 ≤ k' ∧ a' + k' ≤ 64 := by
  unfold fieldB at h
  have := of_decide_eq_true h
  exact ⟨a.toNat, k.toNat, by omega, by omega, by omega, by omega⟩
def getI (x : Nat) (a k : Int) : Nat := if fieldB a k then HM.getN x a.toNat k.toNat else 0
theorem and_low (y k : Nat) (hy : y < 2 ^ 64) (hk : k ≤ 64) : bits .and .u64 (y : Int) ((2 ^ k - 1 : Nat) : Int) = ((y % 2 ^ k : Nat) : Int) := by
  have h2 : 2 ^ k ≤ 2 ^ 64 := Nat.pow_le_pow_right (by omega) hk
  rw [u64_and_nat y _ hy (by omega), Nat.and_two_pow_sub_one_eq_mod]
theorem Get_c (x : Nat) (a k : Int) (hx : x < 2 ^ 64) (ha : -9223372036854775808 ≤ a) (ha' : a ≤ 9223372036854775807) (hk : -9223372036854775808 ≤ k) (hk' : k ≤ 9223372036854775807) (w : World) :
    Calls Tryz.prog 101 #[.int .u64 (x : Int), .int .i64 a, .int .i64 k] w fun e w' => e = .returned (.int .u64 ((getI x a k : Nat) : Int)) ∧ ∃ n, w' = w.drewN n := by
  cases hf : fieldB a k
  · have H := hidp hf
    clear hf
    go_enter Tryz.func101, Tryz.ntmps101
    go_wp2_with (go_at_call 130; refine (isField_c a k ha ha' hk hk' _).mono ?_; rintro e w' ⟨rfl, rfl⟩; rw [H.out])
    go_ret
    exact ⟨ret_int (by unfold getI; rw [H.out]; rfl), 0, rfl⟩
  · have H := hidp hf
    obtain ⟨a', k', rfl, rfl, h1, h2⟩ := field_nat hf
    clear hf
    go_enter Tryz.func101, Tryz.ntmps101
    go_wp2_with (go_at_call 130; refine (isField_c a' k' ha ha' hk hk' _).mono ?_; rintro e w' ⟨rfl, rfl⟩; rw [H.out])
    go_quiet ((go_at_call 131; exact quiet_same (lowBits_c k' (by omega) (by omega) _)))
    go_wp2
    go_ret
    exact ⟨ret_int (by rw [shr_cast, and_low _ _ (Nat.lt_of_le_of_lt (Nat.div_le_self _ _) hx) (by omega)]; unfold getI; rw [H.out, if_pos rfl, Int.toNat_natCast, Int.toNat_natCast]; rfl), nq, rfl⟩
def putOk (a k : Int) (v : Nat) : Bool := fieldB a k && decide (v < 2 ^ k.toNat)
def putI (x : Nat) (a k : Int) (v : Nat) : Nat := if putOk a k v then HM.putN x a.toNat k.toNat v else 0
theorem wrap_nat (n : Nat) (h : n < 2 ^ 64) : IntKind.u64.wrap (n : Int) = (n : Int) := by
  simp only [IntKind.wrap, IntKind.bits, IntKind.signed]; simp; omega
theorem put_bits (x a k v : Nat) (hx : x < 2 ^ 64) (h : a + k ≤ 64) (hv : v < 2 ^ k) :
    bits .or .u64 (bits .andNot .u64 (x : Int) (IntKind.u64.wrap (((2 ^ k - 1 : Nat) : Int) * 2 ^ a))) (IntKind.u64.wrap ((v : Int) * 2 ^ a)) = ((HM.putN x a k v : Nat) : Int) := by
  have h1 := HM.mask_lt a k h
  have h2 : v * 2 ^ a < 2 ^ 64 := Nat.lt_of_le_of_lt (Nat.mul_le_mul_right _ (by omega)) h1
  have e1 : ((2 ^ k - 1 : Nat) : Int) * 2 ^ a = (((2 ^ k - 1) * 2 ^ a : Nat) : Int) := by rw [Int.natCast_mul, Int.natCast_pow]; rfl
  have e2 : (v : Int) * 2 ^ a = ((v * 2 ^ a : Nat) : Int) := by rw [Int.natCast_mul, Int.natCast_pow]; rfl
  rw [e1, e2, wrap_nat _ h1, wrap_nat _ h2, u64_andNot_nat _ _ hx h1, u64_or_nat _ _ (Nat.lt_of_le_of_lt Nat.and_le_left hx) h2]
  rfl
theorem Put_c (x v : Nat) (a k : Int) (hx : x < 2 ^ 64) (hv : v < 2 ^ 64) (ha : -9223372036854775808 ≤ a) (ha' : a ≤ 9223372036854775807) (hk : -9223372036854775808 ≤ k) (hk' : k ≤ 9223372036854775807) (w : World) :
    Calls Tryz.prog 122 #[.int .u64 (x : Int), .int .i64 a, .int .i64 k, .int .u64 (v : Int)] w fun e w' => e = .returned (.tuple #[.int .u64 ((putI x a k v : Nat) : Int), .bool (putOk a k v)]) ∧ ∃ n, w' = w.drewN n := by
  cases hf : fieldB a k
  · have H := hidp hf
    clear hf
    go_enter Tryz.func122, Tryz.ntmps122
    go_wp2_with (go_at_call 130; refine (isField_c a k ha ha' hk hk' _).mono ?_; rintro e w' ⟨rfl, rfl⟩; rw [H.out])
    go_ret2
    exact ⟨by unfold putI putOk; rw [H.out]; rfl, 0, rfl⟩
  · have H := hidp hf
    obtain ⟨a', k', rfl, rfl, h1, h2⟩ := field_nat hf
    clear hf
    by_cases hlt : v < 2 ^ k'
    · have HO : Hid (putOk a' k' v = true) := hidp (by unfold putOk; rw [H.out, Int.toNat_natCast]; simp [hlt])
      have HP : Hid (putI x a' k' v = HM.putN x a' k' v) := hidp (by unfold putI; rw [HO.out, if_pos rfl, Int.toNat_natCast, Int.toNat_natCast])
      have HB := hidp (put_bits x a' k' v hx h2 hlt)
      have hng : ¬ (((2 ^ k' - 1 : Nat) : Int) < (v : Int)) := by omega
      go_enter Tryz.func122, Tryz.ntmps122
      go_wp2_with (first | (go_at_call 130; refine (isField_c a' k' ha ha' hk hk' _).mono ?_; rintro e w' ⟨rfl, rfl⟩; rw [H.out]) | (go_at_call 131; refine (lowBits_c k' (by omega) (by omega) _).mono ?_; rintro e w' ⟨rfl, rfl⟩; rw [Int.toNat_natCast]))
      go_quiet ((go_at_call 131; exact quiet_same (lowBits_c k' (by omega) (by omega) _)))
      go_wp2
      go_ret2
      exact ⟨by rw [HO.out, HP.out, ← HB.out]; rfl, nq, rfl⟩
    · have HO : Hid (putOk a' k' v = false) := hidp (by unfold putOk; rw [H.out, Int.toNat_natCast]; simp [hlt])
      have HP : Hid (putI x a' k' v = 0) := hidp (by unfold putI; rw [HO.out]; rfl)
      have hg : (((2 ^ k' - 1 : Nat) : Int) < (v : Int)) := by have := Nat.two_pow_pos k'; omega
      go_enter Tryz.func122, Tryz.ntmps122
      go_wp2_with (first | (go_at_call 130; refine (isField_c a' k' ha ha' hk hk' _).mono ?_; rintro e w' ⟨rfl, rfl⟩; rw [H.out]) | (go_at_call 131; refine (lowBits_c k' (by omega) (by omega) _).mono ?_; rintro e w' ⟨rfl, rfl⟩; rw [Int.toNat_natCast]))
      go_ret2
      exact ⟨by rw [HO.out, HP.out]; rfl, 0, rfl⟩
end
section
def outB (v l m : Int) : Bool := decide (v < l ∨ m < v)
theorem outB_lt {v l m : Int} (h : v < l) : outB v l m = true := by unfold outB; simp [h]
theorem outB_gt {v l m : Int} (h : m < v) : outB v l m = true := by unfold outB; simp [h]
theorem outB_no {v l m : Int} (h : l ≤ v) (h' : v ≤ m) : outB v l m = false := by unfold outB; exact decide_eq_false (by omega)
def rightB (t p s : Int) : Bool := !(outB t 1 16) && (!(outB p 4 1024) && !(outB s 10 20))
theorem rightB_iff (t p s : Int) : rightB t p s = true ↔ (1 ≤ t ∧ t ≤ 16) ∧ (4 ≤ p ∧ p ≤ 1024) ∧ 10 ≤ s ∧ s ≤ 20 := by
  unfold rightB outB
  simp only [Bool.and_eq_true, Bool.not_eq_true', decide_eq_false_iff_not]
  omega

theorem cfWrong_c (a v l m : Int) (w : World) :
    Calls Tryz.prog 165 #[.agg #[.int .i64 a, .int .i64 v, .int .i64 l, .int .i64 m]] w fun e w' => e = .returned (.bool (outB v l m)) ∧ Below w.heap.size w w' := by
  by_cases h0 : v < l
  · have H := hidp (outB_lt (m := m) h0)
    go_enter Tryz.func165, Tryz.ntmps165
    go_wp2
    go_ret
    exact ⟨by rw [H.out]; rfl, Bnew (B0 _) _⟩
  · by_cases h1 : m < v
    · have H := hidp (outB_gt (l := l) h1)
      go_enter Tryz.func165, Tryz.ntmps165
      go_wp2
      go_ret
      exact ⟨by rw [H.out]; rfl, Bnew (B0 _) _⟩
    · have H := hidp (outB_no (v := v) (l := l) (m := m) (by omega) (by omega))
      go_enter Tryz.func165, Tryz.ntmps165
      go_wp2
      go_ret
      exact ⟨by rw [H.out]; rfl, Bnew (B0 _) _⟩

def numV (t p s : Int) : Array Value := #[.int .i64 0, .int .i64 t, .int .i64 1, .int .i64 16, .int .i64 16, .int .i64 p, .int .i64 4, .int .i64 1024, .int .i64 32, .int .i64 s, .int .i64 10, .int .i64 20]
theorem cfNumbers_c (t p s : Int) (w : World) :
    Calls Tryz.prog 164 #[.agg #[.int .i64 t, .int .i64 p, .int .i64 s]] w fun e w' => e = .returned (.agg #[.int .i64 0, .int .i64 t, .int .i64 1, .int .i64 16, .int .i64 16, .int .i64 p, .int .i64 4, .int .i64 1024, .int .i64 32, .int .i64 s, .int .i64 10, .int .i64 20]) ∧ Below w.heap.size w w' := by
  go_enter Tryz.func164, Tryz.ntmps164
  go_wp2
  exact bodyPost_ret (v := .agg #[.int .i64 0, .int .i64 t, .int .i64 1, .int .i64 16, .int .i64 16, .int .i64 p, .int .i64 4, .int .i64 1024, .int .i64 32, .int .i64 s, .int .i64 10, .int .i64 20]) (by simp [results, Tryz.results164, go_sem]) rfl ⟨rfl, Bnew (Bnew (B0 _) _) _⟩

theorem num_cells {t p s : Int} {g : Nat} {T : TypeId} {w : World} (h : Held w g T (numV t p s)) : w.cell? ⟨g, 0, none⟩ = some (.int .i64 0) ∧ w.cell? ⟨g, 1, none⟩ = some (.int .i64 t) ∧ w.cell? ⟨g, 2, none⟩ = some (.int .i64 1) ∧ w.cell? ⟨g, 3, none⟩ = some (.int .i64 16) ∧ w.cell? ⟨g, 4, none⟩ = some (.int .i64 16) ∧ w.cell? ⟨g, 5, none⟩ = some (.int .i64 p) ∧ w.cell? ⟨g, 6, none⟩ = some (.int .i64 4) ∧ w.cell? ⟨g, 7, none⟩ = some (.int .i64 1024) ∧ w.cell? ⟨g, 8, none⟩ = some (.int .i64 32) ∧ w.cell? ⟨g, 9, none⟩ = some (.int .i64 s) ∧ w.cell? ⟨g, 10, none⟩ = some (.int .i64 10) ∧ w.cell? ⟨g, 11, none⟩ = some (.int .i64 20) :=
  ⟨h.cell 0, h.cell 1, h.cell 2, h.cell 3, h.cell 4, h.cell 5, h.cell 6, h.cell 7, h.cell 8, h.cell 9, h.cell 10, h.cell 11⟩
def idxI (t p s : Int) : Int := if outB t 1 16 then 0 else if outB p 4 1024 then 1 else if outB s 10 20 then 2 else -1
set_option maxHeartbeats 1600000 in
theorem cfIndex_c (t p s : Int) (g : Nat) (w : World) (hc : Held w g 173 (numV t p s)) :
    Calls Tryz.prog 167 #[.slice (some ⟨g, 0, none⟩) 3 3, .func (.func 165) #[] #[]] w fun e w' => e = .returned (.int .i64 (idxI t p s)) ∧ Below w.heap.size w w' := by
  obtain ⟨c0, c1, c2, c3, c4, c5, c6, c7, c8, c9, c10, c11⟩ := num_cells hc
  cases h0 : outB t 1 16
  · cases h1 : outB p 4 1024
    · cases h2 : outB s 10 20
      · have HX0 := hidp h0
        have HX1 := hidp h1
        have HX2 := hidp h2
        have HI : Hid (idxI t p s = -1) := hidp (by unfold idxI; simp [h0, h1, h2])
        clear h0 h1 h2
        go_enter Tryz.func167, Tryz.ntmps167
        go_wp2
        refine wp_loop_rounds 4 ?_
        rw [rounds_succ]
        go_wp2_with fail
        refine (cfWrong_c 0 t 1 16 _).mono ?_
        rintro e w1 ⟨rfl, hb0⟩
        rw [HX0.out]
        have hc1 := hc.keep hb0
        clear c0 c1 c2 c3 c4 c5 c6 c7 c8 c9 c10 c11
        obtain ⟨d0, d1, d2, d3, d4, d5, d6, d7, d8, d9, d10, d11⟩ := num_cells hc1
        go_wp2_with fail
        rw [rounds_succ]
        go_wp2_with fail
        refine (cfWrong_c 16 p 4 1024 _).mono ?_
        rintro e w2 ⟨rfl, hb1⟩
        rw [HX1.out]
        have hc2 := hc1.keep hb1
        clear d0 d1 d2 d3 d4 d5 d6 d7 d8 d9 d10 d11
        obtain ⟨d0, d1, d2, d3, d4, d5, d6, d7, d8, d9, d10, d11⟩ := num_cells hc2
        go_wp2_with fail
        rw [rounds_succ]
        go_wp2_with fail
        refine (cfWrong_c 32 s 10 20 _).mono ?_
        rintro e w3 ⟨rfl, hb2⟩
        rw [HX2.out]
        have hc3 := hc2.keep hb2
        clear d0 d1 d2 d3 d4 d5 d6 d7 d8 d9 d10 d11
        obtain ⟨d0, d1, d2, d3, d4, d5, d6, d7, d8, d9, d10, d11⟩ := num_cells hc3
        go_wp2_with fail
        rw [rounds_succ]
        go_wp2
        go_ret
        exact ⟨by rw [HI.out]; rfl, Bgo (Bgo (Bgo (B0 _) hb0) hb1) hb2⟩
      · have HX0 := hidp h0
        have HX1 := hidp h1
        have HX2 := hidp h2
        have HI : Hid (idxI t p s = 2) := hidp (by unfold idxI; simp [h0, h1, h2])
        clear h0 h1 h2
        go_enter Tryz.func167, Tryz.ntmps167
        go_wp2
        refine wp_loop_rounds 3 ?_
        rw [rounds_succ]
        go_wp2_with fail
        refine (cfWrong_c 0 t 1 16 _).mono ?_
        rintro e w1 ⟨rfl, hb0⟩
        rw [HX0.out]
        have hc1 := hc.keep hb0
        clear c0 c1 c2 c3 c4 c5 c6 c7 c8 c9 c10 c11
        obtain ⟨d0, d1, d2, d3, d4, d5, d6, d7, d8, d9, d10, d11⟩ := num_cells hc1
        go_wp2_with fail
        rw [rounds_succ]
        go_wp2_with fail
        refine (cfWrong_c 16 p 4 1024 _).mono ?_
        rintro e w2 ⟨rfl, hb1⟩
        rw [HX1.out]
        have hc2 := hc1.keep hb1
        clear d0 d1 d2 d3 d4 d5 d6 d7 d8 d9 d10 d11
        obtain ⟨d0, d1, d2, d3, d4, d5, d6, d7, d8, d9, d10, d11⟩ := num_cells hc2
        go_wp2_with fail
        rw [rounds_succ]
        go_wp2_with fail
        refine (cfWrong_c 32 s 10 20 _).mono ?_
        rintro e w3 ⟨rfl, hb2⟩
        rw [HX2.out]
        have hc3 := hc2.keep hb2
        clear d0 d1 d2 d3 d4 d5 d6 d7 d8 d9 d10 d11
        obtain ⟨d0, d1, d2, d3, d4, d5, d6, d7, d8, d9, d10, d11⟩ := num_cells hc3
        go_wp2
        go_ret
        exact ⟨by rw [HI.out]; rfl, Bgo (Bgo (Bgo (B0 _) hb0) hb1) hb2⟩
    · have HX0 := hidp h0
      have HX1 := hidp h1
      have HI : Hid (idxI t p s = 1) := hidp (by unfold idxI; simp [h0, h1])
      clear h0 h1
      go_enter Tryz.func167, Tryz.ntmps167
      go_wp2
      refine wp_loop_rounds 2 ?_
      rw [rounds_succ]
      go_wp2_with fail
      refine (cfWrong_c 0 t 1 16 _).mono ?_
      rintro e w1 ⟨rfl, hb0⟩
      rw [HX0.out]
      have hc1 := hc.keep hb0
      clear c0 c1 c2 c3 c4 c5 c6 c7 c8 c9 c10 c11
      obtain ⟨d0, d1, d2, d3, d4, d5, d6, d7, d8, d9, d10, d11⟩ := num_cells hc1
      go_wp2_with fail
      rw [rounds_succ]
      go_wp2_with fail
      refine (cfWrong_c 16 p 4 1024 _).mono ?_
      rintro e w2 ⟨rfl, hb1⟩
      rw [HX1.out]
      have hc2 := hc1.keep hb1
      clear d0 d1 d2 d3 d4 d5 d6 d7 d8 d9 d10 d11
      obtain ⟨d0, d1, d2, d3, d4, d5, d6, d7, d8, d9, d10, d11⟩ := num_cells hc2
      go_wp2
      go_ret
      exact ⟨by rw [HI.out]; rfl, Bgo (Bgo (B0 _) hb0) hb1⟩
  · have HX0 := hidp h0
    have HI : Hid (idxI t p s = 0) := hidp (by unfold idxI; simp [h0])
    clear h0
    go_enter Tryz.func167, Tryz.ntmps167
    go_wp2
    refine wp_loop_rounds 1 ?_
    rw [rounds_succ]
    go_wp2_with fail
    refine (cfWrong_c 0 t 1 16 _).mono ?_
    rintro e w1 ⟨rfl, hb0⟩
    rw [HX0.out]
    have hc1 := hc.keep hb0
    clear c0 c1 c2 c3 c4 c5 c6 c7 c8 c9 c10 c11
    obtain ⟨d0, d1, d2, d3, d4, d5, d6, d7, d8, d9, d10, d11⟩ := num_cells hc1
    go_wp2
    go_ret
    exact ⟨by rw [HI.out]; rfl, Bgo (B0 _) hb0⟩

theorem idx_right {t p s : Int} (h : rightB t p s = true) : idxI t p s = -1 := by
  unfold rightB at h
  unfold idxI
  cases h0 : outB t 1 16 <;> cases h1 : outB p 4 1024 <;> cases h2 : outB s 10 20 <;> simp_all
theorem idx_wrong {t p s : Int} (h : rightB t p s = false) : ∃ k : Int, idxI t p s = k ∧ 0 ≤ k ∧ k ≤ 2 := by
  unfold rightB at h
  unfold idxI
  cases h0 : outB t 1 16 <;> cases h1 : outB p 4 1024 <;> cases h2 : outB s 10 20 <;> simp_all

theorem cfContains_c (t p s : Int) (g : Nat) (w : World) (hc : Held w g 173 (numV t p s)) :
    Calls Tryz.prog 166 #[.slice (some ⟨g, 0, none⟩) 3 3, .func (.func 165) #[] #[]] w fun e w' => e = .returned (.bool (!rightB t p s)) ∧ Below w.heap.size w w' := by
  cases hr : rightB t p s
  · obtain ⟨k, hk, h0, h2⟩ := idx_wrong hr
    have HK := hidp hk
    clear hk
    go_enter Tryz.func166, Tryz.ntmps166
    go_wp2_with fail
    refine (cfIndex_c t p s g _ hc).mono ?_
    rintro e w1 ⟨rfl, hb⟩
    rw [HK.out]
    go_wp2
    go_ret
    exact ⟨by first | rfl | trivial, hb⟩
  · have HK := hidp (idx_right hr)
    go_enter Tryz.func166, Tryz.ntmps166
    go_wp2_with fail
    refine (cfIndex_c t p s g _ hc).mono ?_
    rintro e w1 ⟨rfl, hb⟩
    rw [HK.out]
    go_wp2
    go_ret
    exact ⟨by first | rfl | trivial, hb⟩

def checkI (t p s : Int) : Int := if rightB t p s then 0 else 1
theorem check_yes {t p s : Int} (h : rightB t p s = true) : checkI t p s = 0 := by unfold checkI; rw [h]; rfl
theorem check_no {t p s : Int} (h : rightB t p s = false) : checkI t p s = 1 := by unfold checkI; rw [h]; rfl
theorem cfCheck_c (t p s : Int) (w : World) :
    Calls Tryz.prog 156 #[.agg #[.int .i64 t, .int .i64 p, .int .i64 s]] w fun e w' => e = .returned (.int .i64 (checkI t p s)) ∧ Below w.heap.size w w' := by
  cases hr : rightB t p s
  · have HK := hidp (check_no hr)
    have HR := hidp hr
    clear hr
    go_enter Tryz.func156, Tryz.ntmps156
    go_wp2_with fail
    refine (cfNumbers_c t p s _).mono ?_
    rintro e w1 ⟨rfl, hb1⟩
    go_wp2_with fail
    refine (cfContains_c t p s _ _ (Held.new w1 _ _)).mono ?_
    rintro e w2 ⟨rfl, hb2⟩
    rw [HR.out]
    go_wp2
    go_ret
    exact ⟨by rw [HK.out]; rfl, Bgo (Bnew (Bgo (Bnew (B0 _) _) hb1) _) hb2⟩
  · have HK := hidp (check_yes hr)
    have HR := hidp hr
    clear hr
    go_enter Tryz.func156, Tryz.ntmps156
    go_wp2_with fail
    refine (cfNumbers_c t p s _).mono ?_
    rintro e w1 ⟨rfl, hb1⟩
    go_wp2_with fail
    refine (cfContains_c t p s _ _ (Held.new w1 _ _)).mono ?_
    rintro e w2 ⟨rfl, hb2⟩
    rw [HR.out]
    go_wp2
    go_ret
    exact ⟨by rw [HK.out]; rfl, Bgo (Bnew (Bgo (Bnew (B0 _) _) hb1) _) hb2⟩
end
section
theorem rightB_mk {t p s : Int} (h : (1 ≤ t ∧ t ≤ 16) ∧ (4 ≤ p ∧ p ≤ 1024) ∧ 10 ≤ s ∧ s ≤ 20) : rightB t p s = true := (rightB_iff t p s).2 h
theorem rightB_not {t p s : Int} (h : ¬ ((1 ≤ t ∧ t ≤ 16) ∧ (4 ≤ p ∧ p ≤ 1024) ∧ 10 ≤ s ∧ s ≤ 20)) : rightB t p s = false := by
  cases hr : rightB t p s
  · rfl
  · exact absurd ((rightB_iff t p s).1 hr) h

theorem r4Right_c (t p s : Int) (w : World) :
    Calls Tryz.prog 65 #[.agg #[.int .i64 t, .int .i64 p, .int .i64 s]] w fun e w' => e = .returned (.bool (rightB t p s)) ∧ Below w.heap.size w w' := by
  by_cases a1 : 1 ≤ t
  · by_cases a2 : t ≤ 16
    · by_cases a3 : 4 ≤ p
      · by_cases a4 : p ≤ 1024
        · by_cases a5 : 10 ≤ s
          · by_cases a6 : s ≤ 20
            · have H := hidp (rightB_mk (t := t) (p := p) (s := s) (by omega))
              go_enter Tryz.func65, Tryz.ntmps65
              go_wp2
              go_ret
              exact ⟨by rw [H.out]; rfl, Bnew (B0 _) _⟩
            · have H := hidp (rightB_not (t := t) (p := p) (s := s) (by omega))
              go_enter Tryz.func65, Tryz.ntmps65
              go_wp2
              go_ret
              exact ⟨by rw [H.out]; rfl, Bnew (B0 _) _⟩
          · have H := hidp (rightB_not (t := t) (p := p) (s := s) (by omega))
            go_enter Tryz.func65, Tryz.ntmps65
            go_wp2
            go_ret
            exact ⟨by rw [H.out]; rfl, Bnew (B0 _) _⟩
        · have H := hidp (rightB_not (t := t) (p := p) (s := s) (by omega))
          go_enter Tryz.func65, Tryz.ntmps65
          go_wp2
          go_ret
          exact ⟨by rw [H.out]; rfl, Bnew (B0 _) _⟩
      · have H := hidp (rightB_not (t := t) (p := p) (s := s) (by omega))
        go_enter Tryz.func65, Tryz.ntmps65
        go_wp2
        go_ret
        exact ⟨by rw [H.out]; rfl, Bnew (B0 _) _⟩
    · have H := hidp (rightB_not (t := t) (p := p) (s := s) (by omega))
      go_enter Tryz.func65, Tryz.ntmps65
      go_wp2
      go_ret
      exact ⟨by rw [H.out]; rfl, Bnew (B0 _) _⟩
  · have H := hidp (rightB_not (t := t) (p := p) (s := s) (by omega))
    go_enter Tryz.func65, Tryz.ntmps65
    go_wp2
    go_ret
    exact ⟨by rw [H.out]; rfl, Bnew (B0 _) _⟩

def pageN (t p s : Int) : Nat := if rightB t p s then 2 ^ s.toNat else 0
def bytesN (t p s : Int) : Nat := if rightB t p s then p.toNat * 2 ^ s.toNat else 0
theorem page_yes {t p s : Int} (h : rightB t p s = true) : pageN t p s = 2 ^ s.toNat := by unfold pageN; rw [if_pos h]
theorem page_no {t p s : Int} (h : rightB t p s = false) : pageN t p s = 0 := by unfold pageN; rw [h]; rfl
theorem bytes_yes {t p s : Int} (h : rightB t p s = true) : bytesN t p s = p.toNat * 2 ^ s.toNat := by unfold bytesN; rw [if_pos h]
theorem bytes_no {t p s : Int} (h : rightB t p s = false) : bytesN t p s = 0 := by unfold bytesN; rw [h]; rfl
theorem pow_bounds (k : Nat) (h : k ≤ 20) : 1 ≤ 2 ^ k ∧ 2 ^ k ≤ 1048576 := ⟨Nat.one_le_two_pow, by have := Nat.pow_le_pow_right (show 0 < 2 by omega) h; omega⟩
theorem pow_next (k : Nat) : 2 ^ (k + 1) = 2 ^ k * 2 := Nat.pow_succ 2 k

theorem r4Page_c (t p s : Int) (w : World) :
    Calls Tryz.prog 135 #[.agg #[.int .i64 t, .int .i64 p, .int .i64 s]] w fun e w' => e = .returned (.int .i64 ((pageN t p s : Nat) : Int)) ∧ Below w.heap.size w w' := by
  cases hr : rightB t p s
  · have HP := hidp (page_no hr)
    have HR := hidp hr
    clear hr
    go_enter Tryz.func135, Tryz.ntmps135
    go_wp2_with fail
    refine (r4Right_c t p s _).mono ?_
    rintro e w1 ⟨rfl, hb1⟩
    rw [HR.out]
    go_wp2
    go_ret
    exact ⟨by rw [HP.out]; rfl, Bgo (Bnew (B0 _) _) hb1⟩
  · have HP := hidp (page_yes hr)
    have HR := hidp hr
    obtain ⟨_, _, hs, hs'⟩ := (rightB_iff t p s).1 hr
    clear hr
    go_enter Tryz.func135, Tryz.ntmps135
    go_wp2_with fail
    have hc := Held.new w 23 #[.int .i64 t, .int .i64 p, .int .i64 s]
    refine (r4Right_c t p s _).mono ?_
    rintro e w1 ⟨rfl, hb1⟩
    rw [HR.out]
    obtain ⟨c0, c1, c2⟩ := (hc.keep hb1).three
    go_wp2
    go_loop [3, 4] (fun n i => ∃ k : Nat, (k : Int) ≤ s ∧ i = .int .i64 k ∧ n = .int .i64 ((2 ^ k : Nat) : Int)) (fun _ i => 64 - (intOf i).toNat)
    case atStart => exact ⟨0, by omega, rfl, rfl⟩
    case round =>
      obtain ⟨k, hk, rfl, rfl⟩ := hrel
      obtain ⟨b1, b2⟩ := pow_bounds k (by omega)
      by_cases hlt : (k : Int) < s
      · have HS := hidp (pow_next k)
        obtain ⟨m, hm⟩ : ∃ m, m = 2 ^ k := ⟨_, rfl⟩
        rw [← hm] at b1 b2 HS
        rw [← hm]
        have HM := hidp hm
        clear hm
        go_wp2
        go_round
        case rel => exact ⟨k + 1, by omega, by go_num, by rw [HS.out]; go_num⟩
        case measure => simp [intOf]; omega
      · obtain rfl : s = k := by omega
        go_wp2
        go_ret
        exact ⟨by rw [HP.out]; rfl, Bgo (Bnew (B0 _) _) hb1⟩
end
end Go.Proofs.YtioolaaphbddbaaGreatDoor

namespace Go.Proofs.YtioolaaphbddbaaGreatDoor
set_option linter.unusedVariables false
section
def lT (t p s : Int) : Int := if rightB t p s then t else 0
def lP (t p s : Int) : Int := if rightB t p s then p else 0
def lS (t p s : Int) : Int := if rightB t p s then s else 0
def lA (t p s : Int) : Int := if rightB t p s then 30 + 4 * t else 0
def lC (t p s : Int) : Int := if rightB t p s then 30 + 4 * t + 6 * p else 0
def lM (t p s : Int) : Int := if rightB t p s then (16 + (30 + 4 * t + 6 * p) + 7) / 8 * 8 else 0
def lK (t p s : Int) : Int := if rightB t p s then t + 1 else 0
def lW (t p s : Int) : Int := lM t p s + lK t p s * 120

structure Laid7 (t p s T P S A C M K : Int) : Prop where
  hT : lT t p s = T
  hP : lP t p s = P
  hS : lS t p s = S
  hA : lA t p s = A
  hC : lC t p s = C
  hM : lM t p s = M
  hK : lK t p s = K
theorem lay_yes {t p s : Int} (h : rightB t p s = true) : Laid7 t p s t p s (30 + 4 * t) (30 + 4 * t + 6 * p) ((16 + (30 + 4 * t + 6 * p) + 7) / 8 * 8) (t + 1) := by
  constructor <;> simp [lT, lP, lS, lA, lC, lM, lK, h]
theorem lay_no {t p s : Int} (h : rightB t p s = false) : Laid7 t p s 0 0 0 0 0 0 0 := by
  constructor <;> simp [lT, lP, lS, lA, lC, lM, lK, h]
theorem lay_bounds (t p s : Int) : (0 ≤ lT t p s ∧ lT t p s ≤ 16) ∧ (0 ≤ lP t p s ∧ lP t p s ≤ 1024) ∧ (0 ≤ lA t p s ∧ lA t p s ≤ 94) ∧ (0 ≤ lC t p s ∧ lC t p s ≤ 6238) ∧ (0 ≤ lM t p s ∧ lM t p s ≤ 6256) ∧ (0 ≤ lK t p s ∧ lK t p s ≤ 17) ∧ lM t p s % 8 = 0 := by
  cases hr : rightB t p s
  · obtain ⟨h1, h2, h3, h4, h5, h6, h7⟩ := lay_no hr
    omega
  · obtain ⟨h1, h2, h3, h4, h5, h6, h7⟩ := lay_yes hr
    have := (rightB_iff t p s).1 hr
    omega
def nthI (f n e i : Int) : Int := if f = -1 ∨ i < 0 ∨ n ≤ i then -1 else f + i * e
theorem nth_off {f n e i : Int} (h : f = -1 ∨ i < 0 ∨ n ≤ i) : nthI f n e i = -1 := by unfold nthI; rw [if_pos h]
theorem nth_on {f n e i : Int} (h : ¬ f = -1) (h0 : 0 ≤ i) (h1 : i < n) : nthI f n e i = f + i * e := by unfold nthI; rw [if_neg (by omega)]
theorem nth_bounds {f n e i B : Int} (hf : -1 ≤ f) (hB : f ≤ B) (he : 0 ≤ e) (hn : 0 ≤ n) : -1 ≤ nthI f n e i ∧ nthI f n e i ≤ B + n * e := by
  have h2 := Int.mul_nonneg hn he
  by_cases h : f = -1 ∨ i < 0 ∨ n ≤ i
  · rw [nth_off h]; omega
  · rw [nth_on (by omega) (by omega) (by omega)]
    have h1 := Int.mul_nonneg (show 0 ≤ i by omega) he
    have h3 := Int.mul_le_mul_of_nonneg_right (show i ≤ n by omega) he
    omega

def pageI (t p s q b : Int) : Int := nthI (nthI (lA t p s) (lP t p s) 6 q) 6 1 b
def makerI (t p s m b : Int) : Int := nthI (nthI (lM t p s) (lK t p s) 120 m) 120 1 b
def logI (t p s m i : Int) : Int := nthI (makerI t p s m 24) 96 1 i

theorem pcell_no {t p s q b : Int} (h : ¬ (rightB t p s = true ∧ 0 ≤ q ∧ q < p)) : pageI t p s q b = -1 := by
  have h1 : nthI (lA t p s) (lP t p s) 6 q = -1 := by
    apply nth_off
    cases hr : rightB t p s
    · have := lay_no hr; have := this.hP; omega
    · have := (lay_yes hr).hP; rw [hr] at h; simp at h; omega
  unfold pageI
  exact nth_off (.inl h1)
theorem pcell_yes {t p s q b : Int} (hr : rightB t p s = true) (h0 : 0 ≤ q) (h1 : q < p) (h2 : 0 ≤ b) (h3 : b < 6) : pageI t p s q b = 30 + 4 * t + 6 * q + b := by
  obtain ⟨e1, e2, e3, e4, e5, e6, e7⟩ := lay_yes hr
  have := (rightB_iff t p s).1 hr
  unfold pageI
  rw [nth_on (f := lA t p s) (by omega) h0 (by omega), nth_on (by omega) h2 h3, e4]
  omega
def partT (q r : Int) : Int × Int × Int := if r < 16 then (4, q, r) else if r = 16 then (5, q, 0) else if 24 ≤ r then (6, q, r - 24) else (0, 0, 0)
def atT (t p s w : Int) : Int × Int × Int :=
  if w < 0 ∨ lW t p s ≤ w then (0, 0, 0) else if w < 8 then (1, w, 0) else if w = 8 then (2, 0, 0)
  else if lM t p s ≤ w then partT ((w - lM t p s) / 120) ((w - lM t p s) % 120)
  else if 16 ≤ w ∧ w - 16 < lC t p s then (3, w - 16, 0) else (0, 0, 0)
section
variable {t p s w : Int}
theorem words_right (h0 : 0 ≤ w) (h : w < lW t p s) : rightB t p s = true := by
  cases hr : rightB t p s
  · have h1 := (lay_no hr).hM; have h2 := (lay_no hr).hK; unfold lW at h; omega
  · rfl
theorem first_far (hr : rightB t p s = true) : 64 ≤ lM t p s ∧ 16 + lC t p s ≤ lM t p s ∧ lM t p s < 24 + lC t p s ∧ 58 ≤ lC t p s ∧ lM t p s % 8 = 0 ∧ lW t p s = lM t p s + (t + 1) * 120 := by
  obtain ⟨e1, e2, e3, e4, e5, e6, e7⟩ := lay_yes hr
  have := (rightB_iff t p s).1 hr
  unfold lW
  rw [e7]
  omega
theorem at_maker (h' : w < lW t p s) (hM : lM t p s ≤ w) : atT t p s w = partT ((w - lM t p s) / 120) ((w - lM t p s) % 120) := by
  have hb := lay_bounds t p s
  have hr := words_right (by omega) h'
  have := first_far hr
  unfold atT
  rw [if_neg (by omega), if_neg (by omega), if_neg (by omega), if_pos hM]
theorem at_of {k i : Int} (hr : rightB t p s = true) (h0 : 0 ≤ k) (h1 : k ≤ t) (hi : 0 ≤ i) (hi' : i < 120) (hw : w - (lM t p s + k * 120) = i) : atT t p s w = partT k i := by
  have hf := first_far hr
  rw [at_maker (by omega) (by omega)]
  congr 1
  · omega
  · omega
end
end
end Go.Proofs.YtioolaaphbddbaaGreatDoor

namespace Go.Proofs.YtioolaaphbddbaaGreatDoor
open Go.ChangeShapes Go.WideShapes Go.ChangeAt Go.RowKit Go.Maps
set_option linter.unusedVariables false
set_option maxRecDepth 100000
section
def pgB (P p : Int) : Bool := decide (0 ≤ p) && decide (p < P)
theorem pgB_iff (P p : Int) : pgB P p = true ↔ 0 ≤ p ∧ p < P := by unfold pgB; simp
section
variable (n : Nat) (K : Nat → Option Nat) (t q s hd : Int)
def push1 (k : Nat) (st : Vst) : Vst := putS n (putS n (getS n K st hd) (pageI t q s (k : Int) 2) (getV n K st hd)) (pageI t q s (k : Int) 3) 0
def push2 (k : Nat) (st : Vst) : Vst := if getV n K st hd = 0 then push1 n K t q s hd k st else putS n (push1 n K t q s hd k st) (pageI t q s ((getV n K st hd : Nat) - 1 : Int) 3) (k + 1)
def pushS (k : Nat) (st : Vst) : Vst := putS n (push2 n K t q s hd k st) hd (k + 1)
def pushI (p : Int) (st : Vst) : Vst := if pgB q p then pushS n K t q s hd p.toNat st else st

def pullN (k : Nat) (st : Vst) : Nat := getV n K st (pageI t q s (k : Int) 2)
def pullB (k : Nat) (st : Vst) : Nat := getV n K (getS n K st (pageI t q s (k : Int) 2)) (pageI t q s (k : Int) 3)
def pull0 (k : Nat) (st : Vst) : Vst := getS n K (getS n K st (pageI t q s (k : Int) 2)) (pageI t q s (k : Int) 3)
def pull1 (k : Nat) (st : Vst) : Vst := if pullB n K t q s k st = 0 then putS n (pull0 n K t q s k st) hd (pullN n K t q s k st) else putS n (pull0 n K t q s k st) (pageI t q s ((pullB n K t q s k st : Nat) - 1 : Int) 2) (pullN n K t q s k st)
def pull2 (k : Nat) (st : Vst) : Vst := if pullN n K t q s k st = 0 then pull1 n K t q s hd k st else putS n (pull1 n K t q s hd k st) (pageI t q s ((pullN n K t q s k st : Nat) - 1 : Int) 3) (pullB n K t q s k st)
def pullS (k : Nat) (st : Vst) : Vst := putS n (putS n (pull2 n K t q s hd k st) (pageI t q s (k : Int) 2) 0) (pageI t q s (k : Int) 3) 0
def pullI (p : Int) (st : Vst) : Vst := if pgB q p then pullS n K t q s hd p.toNat st else st

def walkF : Nat → Nat → Vst → List Nat × Vst
  | 0, _, st => ([], st)
  | m + 1, l, st => if 1 ≤ l ∧ (l : Int) ≤ q then
      let r := walkF m (getV n K st (pageI t q s ((l : Int) - 1) 2)) (getS n K st (pageI t q s ((l : Int) - 1) 2))
      ((l - 1) :: r.1, r.2)
    else ([], st)
def walkL (st : Vst) : List Nat := (walkF n K t q s q.toNat (getV n K st hd) (getS n K st hd)).1
def walkS (st : Vst) : Vst := (walkF n K t q s q.toNat (getV n K st hd) (getS n K st hd)).2
theorem walkF_step {m l : Nat} {st : Vst} (h : 1 ≤ l ∧ (l : Int) ≤ q) : walkF n K t q s (m + 1) l st = ((l - 1) :: (walkF n K t q s m (getV n K st (pageI t q s ((l : Int) - 1) 2)) (getS n K st (pageI t q s ((l : Int) - 1) 2))).1, (walkF n K t q s m (getV n K st (pageI t q s ((l : Int) - 1) 2)) (getS n K st (pageI t q s ((l : Int) - 1) 2))).2) := by
  rw [walkF, if_pos h]
theorem walkF_end {m l : Nat} {st : Vst} (h : ¬ (1 ≤ l ∧ (l : Int) ≤ q)) : walkF n K t q s m l st = ([], st) := by
  cases m with
  | zero => rfl
  | succ m => rw [walkF, if_neg h]
end
section
variable {n : Nat} {K : Nat → Option Nat} {t q s hd : Int} {m l0 l : Nat} {st0 st : Vst} {out : List Nat}
theorem pgB_nat {k : Nat} {st : Vst} (h : pgB q (k : Int) = true) : pushI n K t q s hd (k : Int) st = pushS n K t q s hd k st ∧ pullI n K t q s hd (k : Int) st = pullS n K t q s hd k st := by
  unfold pushI pullI
  rw [if_pos h, if_pos h]
  exact ⟨rfl, rfl⟩
theorem pgB_none {p : Int} {st : Vst} (h : pgB q p = false) : pushI n K t q s hd p st = st ∧ pullI n K t q s hd p st = st := by
  unfold pushI pullI
  rw [if_neg (by simp [h]), if_neg (by simp [h])]
  exact ⟨rfl, rfl⟩
theorem getV_lt {a : Int} (hk : VOk n st) (h32 : ∀ i x, K i = some x → x < 2 ^ 32) : getV n K st a < 2 ^ 32 := by
  by_cases ho : opn n st a = true
  · obtain ⟨i, rfl, hi, hl⟩ := opn_at ho
    cases hp : pos st.wr i with
    | some k =>
      rw [getV_put ho hp]
      have h1 := (pos_some hp).1
      have h2 : (st.wr[k]'h1) ∈ st.wr := List.getElem_mem h1
      have h3 := (hk.wrLt _ h2).2
      unfold atW
      simp only [List.getD, List.getElem?_eq_getElem h1, Option.getD_some]
      exact h3
    | none =>
      cases hK : K i with
      | some v => rw [getV_known ho hp hK]; exact h32 i v hK
      | none => rw [getV_lost ho hp hK]; omega
  · rw [getV_no (by simpa using ho)]; omega
end

section
variable {base b n : Nat} {wh all : Bool} {K : Nat → Option Nat} {st s' : Vst} {w ws w0 w' : World} {A G : Nat → Prop} {N : Nat} {T : TypeId} {cs : Array Value} {O : Ob}
theorem vAt_lt (h : (vOb base b n wh K).At w0 A G st w) (a : Int) : getV n K st a < 2 ^ 32 := by
  obtain ⟨B, ⟨o, h1, _⟩, _⟩ := h
  exact getV_lt h1.ok h1.k32
structure WK (O : Ob) (w0 : World) (A G : Nat → Prop) (ws : World) (N : Nat) (T : TypeId) (cs : Array Value) (st : Vst) (w : World) : Prop where
  at_ : O.At w0 A (And1 G N) st w
  held : Held w N T cs
  stay : Stay G ws w
theorem WK.one (h : O.At w0 A G st ws) (T : TypeId) (cs : Array Value) : WK O w0 A G ws ws.heap.size T cs st (ws.alloc (.cells cs T)) := ⟨h.box _, Held.new _ _ _, Stay.of_below (Bnew (B0 _) _) G⟩
theorem WK.two (h : O.At w0 A G st ws) (o : Obj) (T : TypeId) (cs : Array Value) : WK O w0 A G ws (ws.heap.size + 1) T cs st ((ws.alloc o).alloc (.cells cs T)) :=
  ⟨by have := (h.alloc o).box (.cells cs T); simpa using this, Held.new2 _ _ _ _, Stay.of_below (Bnew (Bnew (B0 _) _) _) G⟩
theorem WK.keep (h : WK O w0 A G ws N T cs st w) (hb : Below w.heap.size w w') : WK O w0 A G ws N T cs st w' := ⟨h.at_.keep hb, h.held.keep hb, h.stay.trans (Stay.of_below hb G)⟩
theorem WK.drew (h : WK O w0 A G ws N T cs st w) : WK O w0 A G ws N T cs st w.drew := h.keep (Bdrew (B0 w))
theorem WK.call (h : WK O w0 A G ws N T cs st w) (h1 : O.At w0 A (And1 G N) s' w') (h2 : Stay (And1 G N) w w') : WK O w0 A G ws N T cs s' w' :=
  ⟨h1, h2.held (.inr rfl) h.held, h.stay.trans (h2.less fun g x => .inl x)⟩
theorem WK.fin (h : WK O w0 A G ws N T cs st w) : O.At w0 A G st w ∧ Stay G ws w := ⟨h.at_.less fun g x => .inl x, h.stay⟩
end
end
end Go.Proofs.YtioolaaphbddbaaGreatDoor

namespace Go.Proofs.YtioolaaphbddbaaGreatDoor
open Go.ChangeShapes Go.WideShapes Go.ChangeAt Go.RowKit
set_option linter.unusedVariables false
set_option linter.unusedSimpArgs false
section
def infoP (k l c : Int) : Prop := (k = 0 ∧ l = 0 ∧ c = 0) ∨ ((k = 1 ∨ k = 2) ∧ 1 ≤ l ∧ l ≤ 1024 ∧ c = 0) ∨ (k = 3 ∧ l = 1 ∧ 0 ≤ c ∧ c ≤ 8)
instance (k l c : Int) : Decidable (infoP k l c) := by unfold infoP; infer_instance
def infoB (k l c : Int) : Bool := decide (infoP k l c)
theorem infoB_yes {k l c : Int} (h : infoP k l c) : infoB k l c = true := decide_eq_true h
theorem infoB_iff {k l c : Int} (h : infoB k l c = true) : infoP k l c := of_decide_eq_true h
def infoV (k l c : Int) : Nat := if infoB k l c then k.toNat + 16 * l.toNat + 65536 * c.toNat else 0
theorem infoV_yes {k l c : Int} (h : infoB k l c = true) : infoV k l c = k.toNat + 16 * l.toNat + 65536 * c.toNat := by unfold infoV; rw [if_pos h]
theorem infoV_no {k l c : Int} (h : infoB k l c = false) : infoV k l c = 0 := by unfold infoV; rw [h]; rfl

set_option maxHeartbeats 1600000 in
theorem inIsRight_c (k l c : Int) (w : World) :
    Calls Tryz.prog 121 #[.agg #[.int .i64 k, .int .i64 l, .int .i64 c]] w fun e w' => e = .returned (.bool (infoB k l c)) ∧ Below w.heap.size w w' := by
  have hC : ∃ b, infoB k l c = b := ⟨_, rfl⟩
  obtain ⟨b, hb⟩ := hC
  rw [hb]
  have hcase : (k = 3 ∧ l ≠ 1 ∧ b = false) ∨ (k = 3 ∧ l = 1 ∧ c < 0 ∧ b = false) ∨ (k = 3 ∧ l = 1 ∧ 0 ≤ c ∧ 9 ≤ c ∧ b = false) ∨ (k = 3 ∧ l = 1 ∧ 0 ≤ c ∧ c < 9 ∧ b = true) ∨
      ((k = 1 ∨ k = 2) ∧ l < 1 ∧ b = false) ∨ ((k = 1 ∨ k = 2) ∧ 1 ≤ l ∧ 1024 < l ∧ b = false) ∨ ((k = 1 ∨ k = 2) ∧ 1 ≤ l ∧ l ≤ 1024 ∧ c ≠ 0 ∧ b = false) ∨ ((k = 1 ∨ k = 2) ∧ 1 ≤ l ∧ l ≤ 1024 ∧ c = 0 ∧ b = true) ∨
      (k = 0 ∧ l ≠ 0 ∧ b = false) ∨ (k = 0 ∧ l = 0 ∧ c ≠ 0 ∧ b = false) ∨ (k = 0 ∧ l = 0 ∧ c = 0 ∧ b = true) ∨ (k ≠ 0 ∧ k ≠ 1 ∧ k ≠ 2 ∧ k ≠ 3 ∧ b = false) := by
    cases b
    · have h : ¬ infoP k l c := of_decide_eq_false hb
      unfold infoP at h
      simp only [and_true, reduceCtorEq, and_false, or_false, false_or]
      omega
    · have h : infoP k l c := infoB_iff hb
      unfold infoP at h
      simp only [and_true, reduceCtorEq, and_false, or_false, false_or]
      omega
  clear hb
  rcases hcase with ⟨rfl, h1, rfl⟩ | ⟨rfl, rfl, h1, rfl⟩ | ⟨rfl, rfl, h1, h2, rfl⟩ | ⟨rfl, rfl, h1, h2, rfl⟩ | ⟨rfl | rfl, h1, rfl⟩ | ⟨rfl | rfl, h1, h2, rfl⟩ | ⟨rfl | rfl, h1, h2, h3, rfl⟩ | ⟨rfl | rfl, h1, h2, rfl, rfl⟩ | ⟨rfl, h1, rfl⟩ | ⟨rfl, rfl, h1, rfl⟩ | ⟨rfl, rfl, rfl, rfl⟩ | ⟨h0, h1, h2, h3, rfl⟩
  all_goals
    go_enter Tryz.func121, Tryz.ntmps121
    go_wp2
    go_ret
    refine ⟨by first | rfl | (refine ret_bool ?_; simp; done) | (refine ret_bool ?_; simp; omega), ?_⟩
    repeat (first | exact B0 _ | (with_reducible refine Bdrew ?_) | (with_reducible refine Bdraw ?_ _) | (with_reducible refine Bnew ?_ _) | (refine Bput ?_ (Nat.le_refl _) _))
set_option maxHeartbeats 1600000 in
theorem r9Right_c (k l c : Int) (w : World) :
    Calls Tryz.prog 106 #[.agg #[.int .i64 k, .int .i64 l, .int .i64 c]] w fun e w' => e = .returned (.bool (infoB k l c)) ∧ Below w.heap.size w w' := by
  have hC : ∃ b, infoB k l c = b := ⟨_, rfl⟩
  obtain ⟨b, hb⟩ := hC
  rw [hb]
  have hcase : (k = 3 ∧ l ≠ 1 ∧ b = false) ∨ (k = 3 ∧ l = 1 ∧ c < 0 ∧ b = false) ∨ (k = 3 ∧ l = 1 ∧ 0 ≤ c ∧ 8 < c ∧ b = false) ∨ (k = 3 ∧ l = 1 ∧ 0 ≤ c ∧ c ≤ 8 ∧ b = true) ∨
      ((k = 1 ∨ k = 2) ∧ l < 1 ∧ b = false) ∨ ((k = 1 ∨ k = 2) ∧ 1 ≤ l ∧ 1024 < l ∧ b = false) ∨ ((k = 1 ∨ k = 2) ∧ 1 ≤ l ∧ l ≤ 1024 ∧ c ≠ 0 ∧ b = false) ∨ ((k = 1 ∨ k = 2) ∧ 1 ≤ l ∧ l ≤ 1024 ∧ c = 0 ∧ b = true) ∨
      (k = 0 ∧ l ≠ 0 ∧ b = false) ∨ (k = 0 ∧ l = 0 ∧ c ≠ 0 ∧ b = false) ∨ (k = 0 ∧ l = 0 ∧ c = 0 ∧ b = true) ∨ (k ≠ 0 ∧ k ≠ 1 ∧ k ≠ 2 ∧ k ≠ 3 ∧ b = false) := by
    cases b
    · have h : ¬ infoP k l c := of_decide_eq_false hb
      unfold infoP at h
      simp only [and_true, reduceCtorEq, and_false, or_false, false_or]
      omega
    · have h : infoP k l c := infoB_iff hb
      unfold infoP at h
      simp only [and_true, reduceCtorEq, and_false, or_false, false_or]
      omega
  clear hb
  rcases hcase with ⟨rfl, h1, rfl⟩ | ⟨rfl, rfl, h1, rfl⟩ | ⟨rfl, rfl, h1, h2, rfl⟩ | ⟨rfl, rfl, h1, h2, rfl⟩ | ⟨rfl | rfl, h1, rfl⟩ | ⟨rfl | rfl, h1, h2, rfl⟩ | ⟨rfl | rfl, h1, h2, h3, rfl⟩ | ⟨rfl | rfl, h1, h2, rfl, rfl⟩ | ⟨rfl, h1, rfl⟩ | ⟨rfl, rfl, h1, rfl⟩ | ⟨rfl, rfl, rfl, rfl⟩ | ⟨h0, h1, h2, h3, rfl⟩
  all_goals
    go_enter Tryz.func106, Tryz.ntmps106
    go_wp2
    go_ret
    refine ⟨by first | rfl | (refine ret_bool ?_; simp; done) | (refine ret_bool ?_; simp; omega), ?_⟩
    repeat (first | exact B0 _ | (with_reducible refine Bdrew ?_) | (with_reducible refine Bdraw ?_ _) | (with_reducible refine Bnew ?_ _) | (refine Bput ?_ (Nat.le_refl _) _))
end
section
theorem putN_new (x a k v : Nat) (ha : a + k ≤ 64) (hx : x < 2 ^ a) (hv : v < 2 ^ k) : HM.putN x a k v = x + v * 2 ^ a := by
  have hx64 : x < 2 ^ 64 := Nat.lt_of_lt_of_le hx (Nat.pow_le_pow_right (by omega) (by omega))
  have h1 : x + v * 2 ^ a = 2 ^ a * v + x := by rw [Nat.mul_comm, Nat.add_comm]
  have hlt : 2 ^ a * v + x < 2 ^ 64 := by
    have e : (2 : Nat) ^ 64 = 2 ^ a * 2 ^ (64 - a) := by rw [← Nat.pow_add]; congr 1; omega
    have e2 : (2 : Nat) ^ k ≤ 2 ^ (64 - a) := Nat.pow_le_pow_right (by omega) (by omega)
    have e3 : 2 ^ a * (v + 1) ≤ 2 ^ a * 2 ^ (64 - a) := Nat.mul_le_mul_left _ (by omega)
    rw [Nat.mul_succ] at e3
    rw [e]
    omega
  rw [h1]
  apply Nat.eq_of_testBit_eq
  intro i
  by_cases hi : i < 64
  · rw [HM.bit_putN x a k v i ha hv hi, Nat.testBit_two_pow_mul_add _ hx]
    by_cases h2 : i < a
    · rw [if_neg (by omega), if_pos h2]
    · rw [if_neg h2]
      by_cases h3 : i < a + k
      · rw [if_pos ⟨by omega, h3⟩]
      · rw [if_neg (by omega), Nat.testBit_lt_two_pow (Nat.lt_of_lt_of_le hx (Nat.pow_le_pow_right (by omega) (by omega))), Nat.testBit_lt_two_pow (Nat.lt_of_lt_of_le hv (Nat.pow_le_pow_right (by omega) (by omega)))]
  · rw [HM.bit_high (HM.putN_lt x a k v ha hv) (by omega), HM.bit_high hlt (by omega)]
theorem putNew_c (x a k v : Nat) (hk : 1 ≤ k) (ha : a + k ≤ 64) (hx : x < 2 ^ a) (hv : v < 2 ^ k) (y : Nat) (hy : x + v * 2 ^ a = y) (w : World) :
    Calls Tryz.prog 122 #[.int .u64 (x : Int), .int .i64 (a : Int), .int .i64 (k : Int), .int .u64 (v : Int)] w fun e w' => e = .returned (.tuple #[.int .u64 (y : Int), .bool true]) ∧ ∃ n, w' = w.drewN n := by
  have hx64 : x < 2 ^ 64 := Nat.lt_of_lt_of_le hx (Nat.pow_le_pow_right (by omega) (by omega))
  have hv64 : v < 2 ^ 64 := Nat.lt_of_lt_of_le hv (Nat.pow_le_pow_right (by omega) (by omega))
  refine (Put_c x v a k hx64 hv64 (by omega) (by omega) (by omega) (by omega) w).mono ?_
  rintro e w' ⟨rfl, hw⟩
  have hok : putOk a k v = true := by
    unfold putOk
    rw [fieldB_yes (by omega) (by omega) (by omega)]
    simpa using hv
  have e1 : putI x a k v = y := by
    unfold putI
    rw [if_pos hok]
    exact (putN_new x a k v ha hx hv).trans hy
  rw [hok, e1]
  exact ⟨rfl, hw⟩
theorem ret_half {k : IntKind} {a b : Int} {c : Bool} (h : a = b) : Ending.returned (.tuple #[.int k a, .bool c]) = .returned (.tuple #[.int k b, .bool c]) := by rw [h]

theorem inPut_c (k l c : Int) (w : World) :
    Calls Tryz.prog 80 #[.agg #[.int .i64 k, .int .i64 l, .int .i64 c]] w fun e w' => e = .returned (.tuple #[.int .u32 ((infoV k l c : Nat) : Int), .bool (infoB k l c)]) ∧ Below w.heap.size w w' := by
  cases hr : infoB k l c
  · have HP := hidp (infoV_no hr)
    have HR := hidp hr
    clear hr
    go_enter Tryz.func80, Tryz.ntmps80
    go_wp2_with fail
    refine (inIsRight_c k l c _).mono ?_
    rintro e w1 ⟨rfl, hb1⟩
    rw [HR.out]
    go_wp2
    go_ret2
    exact ⟨by rw [HP.out]; rfl, Bgo (Bnew (B0 _) _) hb1⟩
  · have HP := hidp (infoV_yes hr)
    have HR := hidp hr
    have hi := infoB_iff hr
    clear hr
    have hb : 0 ≤ k ∧ k ≤ 3 ∧ 0 ≤ l ∧ l ≤ 1024 ∧ 0 ≤ c ∧ c ≤ 8 := by unfold infoP at hi; omega
    obtain ⟨k0, k3, l0, l1, c0, c8⟩ := hb
    clear hi
    obtain ⟨k, rfl⟩ : ∃ n : Nat, k = n := ⟨k.toNat, by omega⟩
    obtain ⟨l, rfl⟩ : ∃ n : Nat, l = n := ⟨l.toNat, by omega⟩
    obtain ⟨c, rfl⟩ : ∃ n : Nat, c = n := ⟨c.toNat, by omega⟩
    go_enter Tryz.func80, Tryz.ntmps80
    go_wp2_with fail
    have hc := Held.new w 60 #[.int .i64 (k : Int), .int .i64 (l : Int), .int .i64 (c : Int)]
    refine (inIsRight_c k l c _).mono ?_
    rintro e w1 ⟨rfl, hb1⟩
    rw [HR.out]
    obtain ⟨c0, c1, c2⟩ := (hc.keep hb1).three
    go_wp2_with fail
    refine (putNew_c 0 0 4 k (by omega) (by omega) (by omega) (by omega) k (by omega) _).mono ?_
    rintro e w2 ⟨rfl, n2, rfl⟩
    go_wp2_with fail
    refine (putNew_c k 4 12 l (by omega) (by omega) (by omega) (by omega) (k + l * 16) (by omega) _).mono ?_
    rintro e w2 ⟨rfl, n3, rfl⟩
    go_wp2_with fail
    refine (putNew_c (k + l * 16) 16 4 c (by omega) (by omega) (by omega) (by omega) (k + l * 16 + c * 65536) (by omega) _).mono ?_
    rintro e w2 ⟨rfl, n4, rfl⟩
    go_wp2_with fail
    refine (Lo_c (k + l * 16 + c * 65536) (by omega) _).mono ?_
    rintro e w2 ⟨rfl, rfl⟩
    go_wp2
    go_ret2
    refine ⟨ret_half (by rw [HP.out]; omega), ?_⟩
    repeat (first | exact B0 _ | (with_reducible refine Bdrew ?_) | (with_reducible refine Bdraw ?_ _) | (with_reducible refine Bgo ?_ hb1) | (with_reducible refine Bnew ?_ _))
end
section
theorem inGet1_c (x a k : Nat) (v : Nat) (g : Nat) (w : World) (hx : x < 2 ^ 32) (hk : 1 ≤ k) (ha : a + k ≤ 64) (hv : x / 2 ^ a % 2 ^ k = v) (hc : Held w g 125 #[.int .u64 (x : Int)]) :
    Calls Tryz.prog 100 #[.int .i64 (a : Int), .int .i64 (k : Int), .pointer (some ⟨g, 0, none⟩)] w fun e w' => e = .returned (.int .i64 (v : Int)) ∧ ∃ n, w' = w.drewN n := by
  have c0 : w.cell? ⟨g, 0, none⟩ = some (.int .u64 (x : Int)) := hc.cell 0
  have hb : v < 4294967296 := by
    have h1 : x / 2 ^ a % 2 ^ k ≤ x / 2 ^ a := Nat.mod_le _ _
    have h2 : x / 2 ^ a ≤ x := Nat.div_le_self _ _
    omega
  have HG : Hid (getI x a k = v) := by
    refine hidp ?_
    unfold getI HM.getN
    rw [if_pos (fieldB_yes (by omega) (by omega) (by omega))]
    simpa using hv
  clear hv
  go_enter Tryz.func100, Tryz.ntmps100
  go_wp2_with fail
  refine (Get_c x a k (by omega) (by omega) (by omega) (by omega) (by omega) _).mono ?_
  rintro e w1 ⟨rfl, n1, rfl⟩
  rw [HG.out]
  go_wp2
  go_ret
  exact ⟨rfl, n1, rfl⟩

theorem inGet_yes (v k l c : Nat) (hv : v < 2 ^ 32) (h1 : v % 16 = k) (h2 : v / 16 % 4096 = l) (h3 : v / 65536 % 16 = c) (hr : infoB k l c = true) (hw : infoV k l c = v) (w : World) :
    Calls Tryz.prog 56 #[.int .u32 (v : Int)] w fun e w' => e = .returned (.tuple #[.agg #[.int .i64 (k : Int), .int .i64 (l : Int), .int .i64 (c : Int)], .bool true]) ∧ Below w.heap.size w w' := by
  have HR := hidp hr
  have HW := hidp hw; clear hw
  have H1 := hidp (show v / 2 ^ 0 % 2 ^ 4 = k by omega)
  have H2 := hidp (show v / 2 ^ 4 % 2 ^ 12 = l by omega)
  have H3 := hidp (show v / 2 ^ 16 % 2 ^ 4 = c by omega)
  clear hr h1 h2 h3
  go_enter Tryz.func56, Tryz.ntmps56
  go_wp2_with fail
  refine (Join_c 0 v (by omega) hv _).mono ?_
  rintro e w1 ⟨rfl, rfl⟩
  rw [show 0 * 4294967296 + v = v from by omega]
  have hc := Held.new2 w (.cells #[.int .i64 0, .int .i64 0, .int .i64 0] 60) 125 #[.int .u64 (v : Int)]
  have hr0 := (Held.new w 60 #[.int .i64 0, .int .i64 0, .int .i64 0]).alloc (.cells #[.int .u64 (v : Int)] 125)
  go_wp2_with fail
  refine (inGet1_c v 0 4 k _ _ hv (by omega) (by omega) H1.out hc).mono ?_
  rintro e w1 ⟨rfl, n1, rfl⟩
  go_wp2_with fail
  refine (inGet1_c v 4 12 l _ _ hv (by omega) (by omega) H2.out (hc.drewN n1)).mono ?_
  rintro e w1 ⟨rfl, n2, rfl⟩
  go_wp2_with fail
  refine (inGet1_c v 16 4 c _ _ hv (by omega) (by omega) H3.out (hc.drewN (n1 + n2))).mono ?_
  rintro e w1 ⟨rfl, n3, rfl⟩
  go_wp2_with fail
  refine (inPut_c k l c _).mono ?_
  rintro e w6 ⟨rfl, hb⟩
  rw [HR.out, HW.out]
  obtain ⟨hcl, hfr⟩ := bcell hb
  have hz := hb.size
  simp only [World.size_alloc, World.heap_drewN] at hz
  have z := ((hr0.drewN (n1 + n2 + n3)).alloc (.cells #[.int .i64 (k : Int), .int .i64 (l : Int), .int .i64 (c : Int)] 60)).keep hb
  obtain ⟨q0, q1, q2⟩ := (((z.put 0 (.int .i64 (k : Int))).put 1 (.int .i64 (l : Int))).put 2 (.int .i64 (c : Int))).three
  go_wp2
  refine bodyPost_ret (v := .tuple #[.agg #[.int .i64 (k : Int), .int .i64 (l : Int), .int .i64 (c : Int)], .bool true]) (by simp [results, Tryz.results56, go_sem, hcl, q0, q1, q2]) rfl ⟨rfl, ?_⟩
  (repeat (first | exact B0 _ | (with_reducible refine Below.setCell ?_ (by first | (simp; done) | (simp; omega)) _) | (with_reducible refine Bgo ?_ hb) | (with_reducible refine below_draws ?_ _) | (with_reducible refine Below.alloc ?_ (by first | (simp; done) | (simp; omega)) _)))

theorem inGet_no1 (v k l c m : Nat) (hv : v < 2 ^ 32) (h1 : v % 16 = k) (h2 : v / 16 % 4096 = l) (h3 : v / 65536 % 16 = c) (hr : infoB k l c = false) (hw : infoV k l c = m) (w : World) :
    Calls Tryz.prog 56 #[.int .u32 (v : Int)] w fun e w' => e = .returned (.tuple #[.agg #[.int .i64 0, .int .i64 0, .int .i64 0], .bool false]) ∧ Below w.heap.size w w' := by
  have HR := hidp hr
  have HW := hidp hw; clear hw
  have H1 := hidp (show v / 2 ^ 0 % 2 ^ 4 = k by omega)
  have H2 := hidp (show v / 2 ^ 4 % 2 ^ 12 = l by omega)
  have H3 := hidp (show v / 2 ^ 16 % 2 ^ 4 = c by omega)
  clear hr h1 h2 h3
  go_enter Tryz.func56, Tryz.ntmps56
  go_wp2_with fail
  refine (Join_c 0 v (by omega) hv _).mono ?_
  rintro e w1 ⟨rfl, rfl⟩
  rw [show 0 * 4294967296 + v = v from by omega]
  have hc := Held.new2 w (.cells #[.int .i64 0, .int .i64 0, .int .i64 0] 60) 125 #[.int .u64 (v : Int)]
  have hr0 := (Held.new w 60 #[.int .i64 0, .int .i64 0, .int .i64 0]).alloc (.cells #[.int .u64 (v : Int)] 125)
  go_wp2_with fail
  refine (inGet1_c v 0 4 k _ _ hv (by omega) (by omega) H1.out hc).mono ?_
  rintro e w1 ⟨rfl, n1, rfl⟩
  go_wp2_with fail
  refine (inGet1_c v 4 12 l _ _ hv (by omega) (by omega) H2.out (hc.drewN n1)).mono ?_
  rintro e w1 ⟨rfl, n2, rfl⟩
  go_wp2_with fail
  refine (inGet1_c v 16 4 c _ _ hv (by omega) (by omega) H3.out (hc.drewN (n1 + n2))).mono ?_
  rintro e w1 ⟨rfl, n3, rfl⟩
  go_wp2_with fail
  refine (inPut_c k l c _).mono ?_
  rintro e w6 ⟨rfl, hb⟩
  rw [HR.out, HW.out]
  obtain ⟨hcl, hfr⟩ := bcell hb
  have hz := hb.size
  simp only [World.size_alloc, World.heap_drewN] at hz
  have z := ((hr0.drewN (n1 + n2 + n3)).alloc (.cells #[.int .i64 (k : Int), .int .i64 (l : Int), .int .i64 (c : Int)] 60)).keep hb
  obtain ⟨q0, q1, q2⟩ := (((z.put 0 (.int .i64 0)).put 1 (.int .i64 0)).put 2 (.int .i64 0)).three
  go_wp2
  refine bodyPost_ret (v := .tuple #[.agg #[.int .i64 0, .int .i64 0, .int .i64 0], .bool false]) (by simp [results, Tryz.results56, go_sem, hcl, q0, q1, q2]) rfl ⟨rfl, ?_⟩
  (repeat (first | exact B0 _ | (with_reducible refine Below.setCell ?_ (by first | (simp; done) | (simp; omega)) _) | (with_reducible refine Bgo ?_ hb) | (with_reducible refine below_draws ?_ _) | (with_reducible refine Below.alloc ?_ (by first | (simp; done) | (simp; omega)) _)))

theorem inGet_no2 (v k l c m : Nat) (hv : v < 2 ^ 32) (h1 : v % 16 = k) (h2 : v / 16 % 4096 = l) (h3 : v / 65536 % 16 = c) (hr : infoB k l c = true) (hw : infoV k l c = m) (hn : m ≠ v) (w : World) :
    Calls Tryz.prog 56 #[.int .u32 (v : Int)] w fun e w' => e = .returned (.tuple #[.agg #[.int .i64 0, .int .i64 0, .int .i64 0], .bool false]) ∧ Below w.heap.size w w' := by
  have HR := hidp hr
  have HW := hidp hw; clear hw
  have H1 := hidp (show v / 2 ^ 0 % 2 ^ 4 = k by omega)
  have H2 := hidp (show v / 2 ^ 4 % 2 ^ 12 = l by omega)
  have H3 := hidp (show v / 2 ^ 16 % 2 ^ 4 = c by omega)
  clear hr h1 h2 h3
  go_enter Tryz.func56, Tryz.ntmps56
  go_wp2_with fail
  refine (Join_c 0 v (by omega) hv _).mono ?_
  rintro e w1 ⟨rfl, rfl⟩
  rw [show 0 * 4294967296 + v = v from by omega]
  have hc := Held.new2 w (.cells #[.int .i64 0, .int .i64 0, .int .i64 0] 60) 125 #[.int .u64 (v : Int)]
  have hr0 := (Held.new w 60 #[.int .i64 0, .int .i64 0, .int .i64 0]).alloc (.cells #[.int .u64 (v : Int)] 125)
  go_wp2_with fail
  refine (inGet1_c v 0 4 k _ _ hv (by omega) (by omega) H1.out hc).mono ?_
  rintro e w1 ⟨rfl, n1, rfl⟩
  go_wp2_with fail
  refine (inGet1_c v 4 12 l _ _ hv (by omega) (by omega) H2.out (hc.drewN n1)).mono ?_
  rintro e w1 ⟨rfl, n2, rfl⟩
  go_wp2_with fail
  refine (inGet1_c v 16 4 c _ _ hv (by omega) (by omega) H3.out (hc.drewN (n1 + n2))).mono ?_
  rintro e w1 ⟨rfl, n3, rfl⟩
  go_wp2_with fail
  refine (inPut_c k l c _).mono ?_
  rintro e w6 ⟨rfl, hb⟩
  rw [HR.out, HW.out]
  obtain ⟨hcl, hfr⟩ := bcell hb
  have hz := hb.size
  simp only [World.size_alloc, World.heap_drewN] at hz
  have z := ((hr0.drewN (n1 + n2 + n3)).alloc (.cells #[.int .i64 (k : Int), .int .i64 (l : Int), .int .i64 (c : Int)] 60)).keep hb
  obtain ⟨q0, q1, q2⟩ := (((z.put 0 (.int .i64 0)).put 1 (.int .i64 0)).put 2 (.int .i64 0)).three
  have t0 : ((m : Int) != v) = true := by simp; omega
  have t1 : ((m : Int) == v) = false := by simp; omega
  have t2 : (m == v) = false := by simp; omega
  clear hn
  go_wp2
  refine bodyPost_ret (v := .tuple #[.agg #[.int .i64 0, .int .i64 0, .int .i64 0], .bool false]) (by simp [results, Tryz.results56, go_sem, hcl, q0, q1, q2]) rfl ⟨rfl, ?_⟩
  (repeat (first | exact B0 _ | (with_reducible refine Below.setCell ?_ (by first | (simp; done) | (simp; omega)) _) | (with_reducible refine Bgo ?_ hb) | (with_reducible refine below_draws ?_ _) | (with_reducible refine Below.alloc ?_ (by first | (simp; done) | (simp; omega)) _)))


def infoG (v : Nat) : Int × Int × Int × Bool :=
  if infoB (v % 16 : Nat) (v / 16 % 4096 : Nat) (v / 65536 : Nat) then ((v % 16 : Nat), (v / 16 % 4096 : Nat), (v / 65536 : Nat), true) else (0, 0, 0, false)
theorem infoG_yes {v : Nat} (h : infoB (v % 16 : Nat) (v / 16 % 4096 : Nat) (v / 65536 : Nat) = true) : infoG v = (((v % 16 : Nat) : Int), ((v / 16 % 4096 : Nat) : Int), ((v / 65536 : Nat) : Int), true) := by unfold infoG; rw [if_pos h]
theorem infoG_no {v : Nat} (h : infoB (v % 16 : Nat) (v / 16 % 4096 : Nat) (v / 65536 : Nat) = false) : infoG v = (0, 0, 0, false) := by unfold infoG; rw [h]; rfl
theorem infoG_split (v : Nat) : (infoB (v % 16 : Nat) (v / 16 % 4096 : Nat) (v / 65536 % 16 : Nat) = true ∧ infoV (v % 16 : Nat) (v / 16 % 4096 : Nat) (v / 65536 % 16 : Nat) = v) ↔ infoB (v % 16 : Nat) (v / 16 % 4096 : Nat) (v / 65536 : Nat) = true := by
  constructor
  · rintro ⟨h1, h2⟩
    rw [infoV_yes h1] at h2
    simp only [Int.toNat_natCast] at h2
    have e : v / 65536 % 16 = v / 65536 := by omega
    rw [e] at h1
    exact h1
  · intro h
    have h' := infoB_iff h
    unfold infoP at h'
    have e : v / 65536 % 16 = v / 65536 := by omega
    rw [e]
    refine ⟨h, ?_⟩
    rw [infoV_yes h]
    simp only [Int.toNat_natCast]
    omega
theorem infoG_back {v : Nat} {k l c : Int} (h : infoG v = (k, l, c, true)) : infoB k l c = true ∧ infoV k l c = v := by
  cases hr : infoB (v % 16 : Nat) (v / 16 % 4096 : Nat) (v / 65536 : Nat)
  · rw [infoG_no hr] at h; simp at h
  · rw [infoG_yes hr] at h
    simp only [Prod.mk.injEq, and_true] at h
    obtain ⟨rfl, rfl, rfl⟩ := h
    have h2 := (infoG_split v).2 hr
    have h3 := infoB_iff hr
    unfold infoP at h3
    have e : v / 65536 % 16 = v / 65536 := by omega
    rw [e] at h2
    exact h2
theorem infoG_none {v : Nat} {k l c : Int} (h : infoG v = (k, l, c, false)) : k = 0 ∧ l = 0 ∧ c = 0 := by
  cases hr : infoB (v % 16 : Nat) (v / 16 % 4096 : Nat) (v / 65536 : Nat)
  · rw [infoG_no hr] at h
    simp only [Prod.mk.injEq, and_true] at h
    omega
  · rw [infoG_yes hr] at h; simp at h
theorem infoG_put {k l c : Int} (h : infoB k l c = true) : infoG (infoV k l c) = (k, l, c, true) := by
  have hi := infoB_iff h
  unfold infoP at hi
  rw [infoV_yes h]
  have e1 : (k.toNat + 16 * l.toNat + 65536 * c.toNat) % 16 = k.toNat := by omega
  have e2 : (k.toNat + 16 * l.toNat + 65536 * c.toNat) / 16 % 4096 = l.toNat := by omega
  have e3 : (k.toNat + 16 * l.toNat + 65536 * c.toNat) / 65536 = c.toNat := by omega
  unfold infoG
  rw [e1, e2, e3, show ((k.toNat : Nat) : Int) = k by omega, show ((l.toNat : Nat) : Int) = l by omega, show ((c.toNat : Nat) : Int) = c by omega, if_pos h]
theorem infoV_lt (k l c : Int) : infoV k l c < 2 ^ 32 := by
  cases hr : infoB k l c
  · rw [infoV_no hr]; omega
  · have hi := infoB_iff hr
    unfold infoP at hi
    rw [infoV_yes hr]
    omega
theorem inGet_c (v : Nat) (k l c : Int) (b : Bool) (hv : v < 2 ^ 32) (h : infoG v = (k, l, c, b)) (w : World) :
    Calls Tryz.prog 56 #[.int .u32 (v : Int)] w fun e w' => e = .returned (.tuple #[.agg #[.int .i64 k, .int .i64 l, .int .i64 c], .bool b]) ∧ Below w.heap.size w w' := by
  have hs := infoG_split v
  cases hr : infoB (v % 16 : Nat) (v / 16 % 4096 : Nat) (v / 65536 : Nat)
  · rw [infoG_no hr] at h
    simp only [Prod.mk.injEq] at h
    obtain ⟨rfl, rfl, rfl, rfl⟩ := h
    rw [hr] at hs
    cases h5 : infoB (v % 16 : Nat) (v / 16 % 4096 : Nat) (v / 65536 % 16 : Nat)
    · exact inGet_no1 v _ _ _ _ hv rfl rfl rfl h5 rfl w
    · refine inGet_no2 v _ _ _ _ hv rfl rfl rfl h5 rfl (fun h6 => ?_) w
      have := hs.1 ⟨h5, h6⟩
      cases this
  · rw [infoG_yes hr] at h
    simp only [Prod.mk.injEq] at h
    obtain ⟨rfl, rfl, rfl, rfl⟩ := h
    obtain ⟨h5, h6⟩ := hs.2 hr
    have hi := infoB_iff hr
    unfold infoP at hi
    have e : v / 65536 % 16 = v / 65536 := by omega
    have := inGet_yes v _ _ _ hv rfl rfl rfl h5 h6 w
    rw [e] at this
    exact this

theorem r9Get_yes (v k l c : Nat) (hv : v < 2 ^ 32) (h1 : v % 16 = k) (h2 : v / 16 % 4096 = l) (h3 : v / 65536 = c) (hr : infoB k l c = true) (w : World) :
    Calls Tryz.prog 64 #[.int .u32 (v : Int)] w fun e w' => e = .returned (.tuple #[.agg #[.int .i64 (k : Int), .int .i64 (l : Int), .int .i64 (c : Int)], .bool true]) ∧ Below w.heap.size w w' := by
  have HR := hidp hr
  clear hr
  have e1 : ((v : Int).tmod 16) = (k : Int) := by rw [Int.tmod_eq_emod_of_nonneg (by omega)]; omega
  have e2 : (((v : Int) / 16).tmod 4096) = (l : Int) := by rw [Int.tmod_eq_emod_of_nonneg (by omega)]; omega
  have e3 : ((v : Int) / 65536) = (c : Int) := by omega
  go_enter Tryz.func64, Tryz.ntmps64
  go_wp2_with fail
  refine (r9Right_c k l c _).mono ?_
  rintro e w6 ⟨rfl, hb⟩
  rw [HR.out]
  obtain ⟨hcl, hfr⟩ := bcell hb
  have hz := hb.size
  simp only [World.size_alloc, World.heap_drewN] at hz
  have z := ((Held.new w 60 #[.int .i64 0, .int .i64 0, .int .i64 0]).alloc (.cells #[.int .i64 (k : Int), .int .i64 (l : Int), .int .i64 (c : Int)] 60)).keep hb
  obtain ⟨q0, q1, q2⟩ := (((z.put 0 (.int .i64 (k : Int))).put 1 (.int .i64 (l : Int))).put 2 (.int .i64 (c : Int))).three
  go_wp2
  refine bodyPost_ret (v := .tuple #[.agg #[.int .i64 (k : Int), .int .i64 (l : Int), .int .i64 (c : Int)], .bool true]) (by simp [results, Tryz.results64, go_sem, hcl, q0, q1, q2]) rfl ⟨rfl, ?_⟩
  (repeat (first | exact B0 _ | (with_reducible refine Below.setCell ?_ (by first | (simp; done) | (simp; omega)) _) | (with_reducible refine Bgo ?_ hb) | (with_reducible refine below_draws ?_ _) | (with_reducible refine Below.alloc ?_ (by first | (simp; done) | (simp; omega)) _)))

theorem r9Get_no (v k l c : Nat) (hv : v < 2 ^ 32) (h1 : v % 16 = k) (h2 : v / 16 % 4096 = l) (h3 : v / 65536 = c) (hr : infoB k l c = false) (w : World) :
    Calls Tryz.prog 64 #[.int .u32 (v : Int)] w fun e w' => e = .returned (.tuple #[.agg #[.int .i64 0, .int .i64 0, .int .i64 0], .bool false]) ∧ Below w.heap.size w w' := by
  have HR := hidp hr
  clear hr
  have e1 : ((v : Int).tmod 16) = (k : Int) := by rw [Int.tmod_eq_emod_of_nonneg (by omega)]; omega
  have e2 : (((v : Int) / 16).tmod 4096) = (l : Int) := by rw [Int.tmod_eq_emod_of_nonneg (by omega)]; omega
  have e3 : ((v : Int) / 65536) = (c : Int) := by omega
  go_enter Tryz.func64, Tryz.ntmps64
  go_wp2_with fail
  refine (r9Right_c k l c _).mono ?_
  rintro e w6 ⟨rfl, hb⟩
  rw [HR.out]
  obtain ⟨hcl, hfr⟩ := bcell hb
  have hz := hb.size
  simp only [World.size_alloc, World.heap_drewN] at hz
  have z := ((Held.new w 60 #[.int .i64 0, .int .i64 0, .int .i64 0]).alloc (.cells #[.int .i64 (k : Int), .int .i64 (l : Int), .int .i64 (c : Int)] 60)).keep hb
  obtain ⟨q0, q1, q2⟩ := (((z.put 0 (.int .i64 0)).put 1 (.int .i64 0)).put 2 (.int .i64 0)).three
  go_wp2
  refine bodyPost_ret (v := .tuple #[.agg #[.int .i64 0, .int .i64 0, .int .i64 0], .bool false]) (by simp [results, Tryz.results64, go_sem, hcl, q0, q1, q2]) rfl ⟨rfl, ?_⟩
  (repeat (first | exact B0 _ | (with_reducible refine Below.setCell ?_ (by first | (simp; done) | (simp; omega)) _) | (with_reducible refine Bgo ?_ hb) | (with_reducible refine below_draws ?_ _) | (with_reducible refine Below.alloc ?_ (by first | (simp; done) | (simp; omega)) _)))

theorem r9Get_c (v : Nat) (k l c : Int) (b : Bool) (hv : v < 2 ^ 32) (h : infoG v = (k, l, c, b)) (w : World) :
    Calls Tryz.prog 64 #[.int .u32 (v : Int)] w fun e w' => e = .returned (.tuple #[.agg #[.int .i64 k, .int .i64 l, .int .i64 c], .bool b]) ∧ Below w.heap.size w w' := by
  cases hr : infoB (v % 16 : Nat) (v / 16 % 4096 : Nat) (v / 65536 : Nat)
  · rw [infoG_no hr] at h
    simp only [Prod.mk.injEq] at h
    obtain ⟨rfl, rfl, rfl, rfl⟩ := h
    exact r9Get_no v _ _ _ hv rfl rfl rfl hr w
  · rw [infoG_yes hr] at h
    simp only [Prod.mk.injEq] at h
    obtain ⟨rfl, rfl, rfl, rfl⟩ := h
    exact r9Get_yes v _ _ _ hv rfl rfl rfl hr w
end
end Go.Proofs.YtioolaaphbddbaaGreatDoor

namespace Go.Proofs.YtioolaaphbddbaaGreatDoor
open Go.ChangeShapes Go.WideShapes Go.ChangeAt Go.RowKit Go.Maps
set_option linter.unusedVariables false
set_option linter.unusedSimpArgs false
section
def ofI (n : Int) : Int := if n < 1 ∨ 1024 < n then -1 else HM.logI n
theorem ofI_nat {n : Nat} (h1 : 1 ≤ n) (h2 : n ≤ 1024) : ∃ k : Nat, ofI (n : Int) = k ∧ k ≤ 10 ∧ 2 ^ k ≤ n ∧ n < 2 ^ (k + 1) := by
  have h : ∃ k : Nat, k ≤ 10 ∧ 2 ^ k ≤ n ∧ n < 2 ^ (k + 1) := by
    rcases Nat.lt_or_ge n 1024 with h3 | h3
    · refine ⟨Nat.log2 n, ?_, Nat.log2_self_le (by omega), Nat.lt_log2_self⟩
      have := Nat.log2_lt (n := n) (k := 10) (by omega)
      have := this.2 h3
      omega
    · exact ⟨10, by omega, by omega, by omega⟩
  obtain ⟨k, hk, ha, hb⟩ := h
  refine ⟨k, ?_, hk, ha, hb⟩
  unfold ofI
  rw [if_neg (by omega)]
  exact HM.logI_at (n : Int) k (by
    have e : ((n : Int) / 2 ^ k) = ((n / 2 ^ k : Nat) : Int) := by push_cast; rfl
    rw [e]
    have := Nat.div_le_div_right (c := 2 ^ k) ha
    rw [Nat.div_self (Nat.two_pow_pos k)] at this
    omega) (by
    have e : ((n : Int) / 2 ^ (k + 1)) = ((n / 2 ^ (k + 1) : Nat) : Int) := by push_cast; rfl
    rw [e, Nat.div_eq_of_lt hb]
    omega)

def fitB (nn : Int) (v : Nat) : Bool := decide ((infoG v).1 = 1) && decide (nn ≤ (infoG v).2.1)
section
variable (n : Nat) (K : Nat → Option Nat) (t q s nn : Int)
def lookF : Nat → Nat → Vst → Option Nat × Vst
  | 0, _, st => (none, st)
  | m + 1, l, st => if 1 ≤ l ∧ (l : Int) ≤ q then
      (if fitB nn (getV n K st (pageI t q s ((l : Int) - 1) 0)) = true then (some (l - 1), getS n K st (pageI t q s ((l : Int) - 1) 0))
       else lookF m (getV n K (getS n K st (pageI t q s ((l : Int) - 1) 0)) (pageI t q s ((l : Int) - 1) 2)) (getS n K (getS n K st (pageI t q s ((l : Int) - 1) 0)) (pageI t q s ((l : Int) - 1) 2)))
    else (none, st)
def nextF : Nat → Nat → Vst → Option Nat × Vst
  | 0, _, st => (none, st)
  | j + 1, k, st => if 1 ≤ getV n K st ((2 + k : Nat) : Int) ∧ ((getV n K st ((2 + k : Nat) : Int) : Nat) : Int) ≤ q then (some (getV n K st ((2 + k : Nat) : Int) - 1), getS n K st ((2 + k : Nat) : Int))
    else nextF j (k + 1) (getS n K st ((2 + k : Nat) : Int))
def findF (k : Nat) (st : Vst) : Option Nat × Vst :=
  let r := lookF n K t q s nn q.toNat (getV n K st ((2 + k : Nat) : Int)) (getS n K st ((2 + k : Nat) : Int))
  match r.1 with
  | some p => (some p, r.2)
  | none => nextF n K q (11 - (k + 1)) (k + 1) r.2
theorem lookF_end {m l : Nat} {st : Vst} (h : ¬ (1 ≤ l ∧ (l : Int) ≤ q)) : lookF n K t q s nn m l st = (none, st) := by
  cases m with
  | zero => rfl
  | succ m => rw [lookF, if_neg h]
theorem lookF_found {m l : Nat} {st : Vst} (h : 1 ≤ l ∧ (l : Int) ≤ q) (hv : fitB nn (getV n K st (pageI t q s ((l : Int) - 1) 0)) = true) : lookF n K t q s nn (m + 1) l st = (some (l - 1), getS n K st (pageI t q s ((l : Int) - 1) 0)) := by
  rw [lookF, if_pos h, if_pos hv]
theorem lookF_step {m l : Nat} {st : Vst} (h : 1 ≤ l ∧ (l : Int) ≤ q) (hv : fitB nn (getV n K st (pageI t q s ((l : Int) - 1) 0)) = false) :
    lookF n K t q s nn (m + 1) l st = lookF n K t q s nn m (getV n K (getS n K st (pageI t q s ((l : Int) - 1) 0)) (pageI t q s ((l : Int) - 1) 2)) (getS n K (getS n K st (pageI t q s ((l : Int) - 1) 0)) (pageI t q s ((l : Int) - 1) 2)) := by
  rw [lookF, if_pos h, if_neg (by rw [hv]; simp)]
theorem nextF_found {j k : Nat} {st : Vst} (h : 1 ≤ getV n K st ((2 + k : Nat) : Int) ∧ ((getV n K st ((2 + k : Nat) : Int) : Nat) : Int) ≤ q) : nextF n K q (j + 1) k st = (some (getV n K st ((2 + k : Nat) : Int) - 1), getS n K st ((2 + k : Nat) : Int)) := by
  rw [nextF, if_pos h]
theorem nextF_step {j k : Nat} {st : Vst} (h : ¬ (1 ≤ getV n K st ((2 + k : Nat) : Int) ∧ ((getV n K st ((2 + k : Nat) : Int) : Nat) : Int) ≤ q)) : nextF n K q (j + 1) k st = nextF n K q j (k + 1) (getS n K st ((2 + k : Nat) : Int)) := by
  rw [nextF, if_neg h]
end

def binH (nn : Int) : Int := nthI 2 11 1 (ofI nn)
theorem binH_nat {nn k : Nat} (h : ofI (nn : Int) = (k : Int)) (hk : k ≤ 10) : binH (nn : Int) = ((2 + k : Nat) : Int) := by
  unfold binH
  rw [h, nth_on (by omega) (by omega) (by omega)]
  push_cast
  omega
section
variable (n : Nat) (K : Nat → Option Nat) (t q s : Int)
def infoOf (p : Int) (st : Vst) : Int × Int × Int × Bool := infoG (getV n K st (pageI t q s p 0))
def dropV (p : Int) (st : Vst) : Int := if pgB q p then (if (infoOf n K t q s p st).1 = 1 then (infoOf n K t q s p st).2.1 else 0) else 0
def dropS (p : Int) (st : Vst) : Vst := if pgB q p then (if (infoOf n K t q s p st).1 = 1 then pullI n K t q s (binH (infoOf n K t q s p st).2.1) p (getS n K st (pageI t q s p 0)) else getS n K st (pageI t q s p 0)) else st
def addS (p nn : Int) (st : Vst) : Vst := if pgB q p = true ∧ 1 ≤ nn ∧ nn ≤ q - p then pushI n K t q s (binH nn) p (putS n (putS n st (pageI t q s p 0) (infoV 1 nn 0)) (pageI t q s (p + nn - 1) 1) (p.toNat + 1)) else st
end
def foundI (o : Option Nat) : Int := match o with
  | some p => (p : Int)
  | none => 0
def findI (n : Nat) (K : Nat → Option Nat) (t q s nn : Int) (st : Vst) : Option Nat × Vst := if 1 ≤ nn ∧ nn ≤ q then findF n K t q s nn (ofI nn).toNat st else (none, st)
theorem findI_no {n : Nat} {K : Nat → Option Nat} {t q s nn : Int} {st : Vst} (h : ¬ (1 ≤ nn ∧ nn ≤ q)) : findI n K t q s nn st = (none, st) := by unfold findI; rw [if_neg h]
theorem findI_yes {n : Nat} {K : Nat → Option Nat} {t q s nn : Int} {st : Vst} {own : Nat} (ho : ofI nn = (own : Int)) (h1 : 1 ≤ nn) (h2 : nn ≤ q) : findI n K t q s nn st = findF n K t q s nn own st := by
  unfold findI
  rw [if_pos ⟨h1, h2⟩, ho, Int.toNat_natCast]
end
end Go.Proofs.YtioolaaphbddbaaGreatDoor
