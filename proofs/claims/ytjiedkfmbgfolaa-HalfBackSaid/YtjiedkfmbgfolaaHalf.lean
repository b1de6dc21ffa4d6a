/-
  Contracts of the functions of package half and of the document's answers to it, one a function, over one translation: those that only reckon.
-/
import Derived.Test.YtjiedkfmbgfolaaLaw
import Derived.Test.YtjiedkfmbgfolaaHalfMath
import Derived.WalkKit
import Derived.ProofKit
import Derived.BigQuiet
import Derived.Outline
namespace Go.Proofs.Ytjiedkfmbgfolaa
open Go.RowKit
set_option linter.unusedVariables false

theorem ret_int {k : IntKind} {a b : Int} (h : a = b) : Ending.returned (.int k a) = .returned (.int k b) := by rw [h]
theorem ret_bool {a b : Bool} (h : a = b) : Ending.returned (.bool a) = .returned (.bool b) := by rw [h]

/-- is there such a field? -/
def fieldB (a k : Int) : Bool := decide (0 ≤ a ∧ 1 ≤ k ∧ a ≤ 64 - k)

theorem fieldB_yes {a k : Int} (h0 : 0 ≤ a) (h1 : 1 ≤ k) (h2 : a ≤ 64 - k) : fieldB a k = true := by unfold fieldB; simp [h0, h1, h2]
theorem fieldB_no {a k : Int} (h : ¬ (0 ≤ a ∧ 1 ≤ k ∧ a ≤ 64 - k)) : fieldB a k = false := by unfold fieldB; exact decide_eq_false h

theorem isField_c (a k : Int) (ha : -9223372036854775808 ≤ a) (ha' : a ≤ 9223372036854775807) (hk : -9223372036854775808 ≤ k) (hk' : k ≤ 9223372036854775807) (w : World) :
    Calls Try.prog 27 #[.int .i64 a, .int .i64 k] w fun e w' => e = .returned (.bool (fieldB a k)) ∧ w = w' := by
  by_cases h0 : 0 ≤ a
  · by_cases h1 : 1 ≤ k
    · by_cases h2 : a ≤ 64 - k
      · have H := hidp (fieldB_yes (a := a) (k := k) (by omega) (by omega) (by omega))
        go_enter Try.func27, Try.ntmps27
        go_wp2
        go_ret
        exact ⟨by rw [H.out]; rfl, rfl⟩
      · have H := hidp (fieldB_no (a := a) (k := k) (by omega))
        go_enter Try.func27, Try.ntmps27
        go_wp2
        go_ret
        exact ⟨by rw [H.out]; rfl, rfl⟩
    · have H := hidp (fieldB_no (a := a) (k := k) (by omega))
      go_enter Try.func27, Try.ntmps27
      go_wp2
      go_ret
      exact ⟨by rw [H.out]; rfl, rfl⟩
  · have H := hidp (fieldB_no (a := a) (k := k) (by omega))
    go_enter Try.func27, Try.ntmps27
    go_wp2
    go_ret
    exact ⟨by rw [H.out]; rfl, rfl⟩

theorem field_c (a k : Int) (ha : -9223372036854775808 ≤ a) (ha' : a ≤ 9223372036854775807) (hk : -9223372036854775808 ≤ k) (hk' : k ≤ 9223372036854775807) (w : World) :
    Calls Try.prog 29 #[.int .i64 a, .int .i64 k] w fun e w' => e = .returned (.bool (fieldB a k)) ∧ w = w' := by
  by_cases h0 : 0 ≤ a
  · by_cases h1 : a < 64
    · by_cases h2 : 1 ≤ k
      · by_cases h3 : k ≤ 64 - a
        · have H := hidp (fieldB_yes (a := a) (k := k) (by omega) (by omega) (by omega))
          go_enter Try.func29, Try.ntmps29
          go_wp2
          go_ret
          exact ⟨by rw [H.out]; rfl, rfl⟩
        · have H := hidp (fieldB_no (a := a) (k := k) (by omega))
          go_enter Try.func29, Try.ntmps29
          go_wp2
          go_ret
          exact ⟨by rw [H.out]; rfl, rfl⟩
      · have H := hidp (fieldB_no (a := a) (k := k) (by omega))
        go_enter Try.func29, Try.ntmps29
        go_wp2
        go_ret
        exact ⟨by rw [H.out]; rfl, rfl⟩
    · have H := hidp (fieldB_no (a := a) (k := k) (by omega))
      go_enter Try.func29, Try.ntmps29
      go_wp2
      go_ret
      exact ⟨by rw [H.out]; rfl, rfl⟩
  · have H := hidp (fieldB_no (a := a) (k := k) (by omega))
    go_enter Try.func29, Try.ntmps29
    go_wp2
    go_ret
    exact ⟨by rw [H.out]; rfl, rfl⟩

theorem low_wrap : ∀ k : Fin 65, 1 ≤ k.val → IntKind.u64.wrap (IntKind.u64.wrap (2 ^ k.val) - 1) = ((2 ^ k.val - 1 : Nat) : Int) := by decide +kernel

theorem lowBits_c (k : Int) (h0 : 1 ≤ k) (h1 : k ≤ 64) (w : World) :
    Calls Try.prog 28 #[.int .i64 k] w fun e w' => e = .returned (.int .u64 ((2 ^ k.toNat - 1 : Nat) : Int)) ∧ w = w' := by
  have H := hidp (low_wrap ⟨k.toNat, by omega⟩ (by simp; omega))
  go_enter Try.func28, Try.ntmps28
  go_wp2
  go_ret
  exact ⟨ret_int H.out, rfl⟩

theorem shr_cast (v k : Nat) : (v : Int) / 2 ^ k = ((v / 2 ^ k : Nat) : Int) := by norm_cast
theorem tmod_two (n : Nat) : ((n : Int).tmod 2) = ((n % 2 : Nat) : Int) := by rw [Int.tmod_eq_emod_of_nonneg (by omega)]; norm_cast

theorem bit_c (v : Nat) (i : Int) (hv : v < 2 ^ 64) (h0 : 0 ≤ i) (h1 : i < 64) (w : World) :
    Calls Try.prog 30 #[.int .u64 (v : Int), .int .i64 i] w fun e w' => e = .returned (.int .u64 ((v / 2 ^ i.toNat % 2 : Nat) : Int)) ∧ w = w' := by
  go_enter Try.func30, Try.ntmps30
  go_wp2
  go_ret
  exact ⟨ret_int (by rw [shr_cast, tmod_two]), rfl⟩

theorem and_one (n : Nat) (h : n < 2 ^ 32) : bits .and .u32 (n : Int) 1 = ((n % 2 : Nat) : Int) := by
  have := u32_and_nat n 1 h (by omega)
  rw [nat_mask1] at this
  exact this
theorem odd_bit (v k : Nat) : ((((v / 2 ^ k % 2 : Nat) : Int)) == 1) = v.testBit k := by
  rw [HM.bit_eq]
  cases v.testBit k <;> rfl

theorem isOne_c (v : Nat) (i : Int) (b : Bool) (hv : v < 2 ^ 32) (h0 : 0 ≤ i) (h1 : i < 32) (hb : v.testBit i.toNat = b) (w : World) :
    Calls Try.prog 31 #[.int .u32 (v : Int), .int .i64 i] w fun e w' => e = .returned (.bool b) ∧ w = w' := by
  have H := hidp hb
  clear hb
  go_enter Try.func31, Try.ntmps31
  go_wp2
  go_ret
  exact ⟨ret_bool (by rw [shr_cast, and_one _ (Nat.lt_of_le_of_lt (Nat.div_le_self _ _) hv), odd_bit, H.out]), rfl⟩

theorem Bit_c (v : Nat) (i : Int) (b : Bool) (hv : v < 2 ^ 32) (h0 : 0 ≤ i) (h1 : i < 32) (hb : v.testBit i.toNat = b) (w : World) :
    Calls Try.prog 32 #[.int .u32 (v : Int), .int .i64 i] w fun e w' => e = .returned (.bool b) ∧ w = w' := by
  have H := hidp hb
  clear hb
  go_enter Try.func32, Try.ntmps32
  go_wp2
  go_ret
  exact ⟨ret_bool (by rw [shr_cast, tmod_two, odd_bit, H.out]), rfl⟩


theorem Ones_c (v : Nat) (hv : v < 2 ^ 32) (w : World) :
    Calls Try.prog 18 #[.int .u32 (v : Int)] w fun e w' => e = .returned (.int .i64 ((HM.onesTo v 32 : Nat) : Int)) ∧ w = w' := by
  go_enter Try.func18, Try.ntmps18
  go_wp2
  go_loop [3, 5] (fun s i => ∃ k : Nat, k ≤ 32 ∧ i = .int .i64 k ∧ s = .int .i64 ((HM.onesTo v k : Nat) : Int)) (fun _ i => 32 - (intOf i).toNat)
  case atStart => exact ⟨0, by omega, rfl, rfl⟩
  case round =>
    obtain ⟨k, hk, rfl, rfl⟩ := hrel
    have hle := HM.onesTo_le v k
    by_cases hlt : k < 32
    · have HS := hidp (HM.onesTo_succ v k)
      cases hb : v.testBit k
      all_goals
        have HT := hidp ((congrArg v.testBit (Int.toNat_natCast k)).trans hb)
        have HB := hidp hb
        clear hb
        go_wp2_with (go_at_call 31; refine (isOne_c v k _ hv (by omega) (by omega) HT.out _).mono ?_; rintro e w' ⟨rfl, rfl⟩)
        go_round
        case rel => exact ⟨k + 1, by omega, by go_num, by rw [HS.out, HB.out]; go_num⟩
        case measure => simp [intOf]; omega
    · obtain rfl : k = 32 := by omega
      go_wp2
      go_ret
      exact ⟨rfl, rfl⟩

theorem ROnes_c (v : Nat) (hv : v < 2 ^ 32) (w : World) :
    Calls Try.prog 19 #[.int .u32 (v : Int)] w fun e w' => e = .returned (.int .i64 ((HM.onesTo v 32 : Nat) : Int)) ∧ w = w' := by
  go_enter Try.func19, Try.ntmps19
  go_wp2
  go_loop [3, 4] (fun s i => ∃ k : Nat, k ≤ 32 ∧ i = .int .i64 k ∧ s = .int .i64 ((HM.onesTo v k : Nat) : Int)) (fun _ i => 32 - (intOf i).toNat)
  case atStart => exact ⟨0, by omega, rfl, rfl⟩
  case round =>
    obtain ⟨k, hk, rfl, rfl⟩ := hrel
    have hle := HM.onesTo_le v k
    by_cases hlt : k < 32
    · have HS := hidp (HM.onesTo_succ v k)
      cases hb : v.testBit k
      all_goals
        have HT := hidp ((congrArg v.testBit (Int.toNat_natCast k)).trans hb)
        have HB := hidp hb
        clear hb
        go_wp2_with (go_at_call 32; refine (Bit_c v k _ hv (by omega) (by omega) HT.out _).mono ?_; rintro e w' ⟨rfl, rfl⟩)
        go_round
        case rel => exact ⟨k + 1, by omega, by go_num, by rw [HS.out, HB.out]; go_num⟩
        case measure => simp [intOf]; omega
    · obtain rfl : k = 32 := by omega
      go_wp2
      go_ret
      exact ⟨rfl, rfl⟩

theorem Lowest_c (v : Nat) (hv : v < 2 ^ 32) (w : World) :
    Calls Try.prog 20 #[.int .u32 (v : Int)] w fun e w' => e = .returned (.int .i64 (HM.lowestN v)) ∧ w = w' := by
  go_enter Try.func20, Try.ntmps20
  go_wp2
  go_loop [4] (fun i => ∃ k : Nat, k ≤ 32 ∧ i = .int .i64 k ∧ Hid (∀ j, j < k → v.testBit j = false)) (fun i => 32 - (intOf i).toNat)
  case atStart => exact ⟨0, by omega, rfl, hidp (fun j hj => absurd hj (by omega))⟩
  case round =>
    obtain ⟨k, hk, rfl, HF⟩ := hrel
    by_cases hlt : k < 32
    · cases hb : v.testBit k
      · have HT := hidp ((congrArg v.testBit (Int.toNat_natCast k)).trans hb)
        have HB := hidp hb
        clear hb
        go_wp2_with (go_at_call 31; refine (isOne_c v k _ hv (by omega) (by omega) HT.out _).mono ?_; rintro e w' ⟨rfl, rfl⟩)
        go_round
        case rel =>
          refine ⟨k + 1, by omega, by go_num, hidp (fun j hj => ?_)⟩
          by_cases e : j = k
          · rw [e]; exact HB.out
          · exact HF.out j (by omega)
        case measure => simp [intOf]; omega
      · have HT := hidp ((congrArg v.testBit (Int.toNat_natCast k)).trans hb)
        have HL := hidp (HM.lowest_at v k hlt hb HF.out)
        clear hb
        go_wp2_with (go_at_call 31; refine (isOne_c v k _ hv (by omega) (by omega) HT.out _).mono ?_; rintro e w' ⟨rfl, rfl⟩)
        go_ret
        exact ⟨ret_int HL.out.symm, rfl⟩
    · obtain rfl : k = 32 := by omega
      have HL := hidp (HM.lowest_none v HF.out)
      go_wp2
      go_ret
      exact ⟨ret_int HL.out.symm, rfl⟩

theorem RLowest_c (v : Nat) (hv : v < 2 ^ 32) (w : World) :
    Calls Try.prog 21 #[.int .u32 (v : Int)] w fun e w' => e = .returned (.int .i64 (HM.lowestN v)) ∧ w = w' := by
  go_enter Try.func21, Try.ntmps21
  go_wp2
  go_loop [3] (fun i => ∃ k : Nat, k ≤ 32 ∧ i = .int .i64 k ∧ Hid (∀ j, j < k → v.testBit j = false)) (fun i => 32 - (intOf i).toNat)
  case atStart => exact ⟨0, by omega, rfl, hidp (fun j hj => absurd hj (by omega))⟩
  case round =>
    obtain ⟨k, hk, rfl, HF⟩ := hrel
    by_cases hlt : k < 32
    · cases hb : v.testBit k
      · have HT := hidp ((congrArg v.testBit (Int.toNat_natCast k)).trans hb)
        have HB := hidp hb
        clear hb
        go_wp2_with (go_at_call 32; refine (Bit_c v k _ hv (by omega) (by omega) HT.out _).mono ?_; rintro e w' ⟨rfl, rfl⟩)
        go_round
        case rel =>
          refine ⟨k + 1, by omega, by go_num, hidp (fun j hj => ?_)⟩
          by_cases e : j = k
          · rw [e]; exact HB.out
          · exact HF.out j (by omega)
        case measure => simp [intOf]; omega
      · have HT := hidp ((congrArg v.testBit (Int.toNat_natCast k)).trans hb)
        have HL := hidp (HM.lowest_at v k hlt hb HF.out)
        clear hb
        go_wp2_with (go_at_call 32; refine (Bit_c v k _ hv (by omega) (by omega) HT.out _).mono ?_; rintro e w' ⟨rfl, rfl⟩)
        go_ret
        exact ⟨ret_int HL.out.symm, rfl⟩
    · obtain rfl : k = 32 := by omega
      have HL := hidp (HM.lowest_none v HF.out)
      go_wp2
      go_ret
      exact ⟨ret_int HL.out.symm, rfl⟩

theorem Log_c (n : Int) (h0 : -9223372036854775808 ≤ n) (h1 : n ≤ 9223372036854775807) (w : World) :
    Calls Try.prog 22 #[.int .i64 n] w fun e w' => e = .returned (.int .i64 (HM.logI n)) ∧ w = w' := by
  go_enter Try.func22, Try.ntmps22
  go_wp2
  go_loop [3, 5] (fun l i => ∃ k : Nat, k ≤ 63 ∧ i = .int .i64 k ∧ l = .int .i64 ((k : Int) - 1) ∧ Hid (0 < k → 1 ≤ n / 2 ^ (k - 1))) (fun _ i => 63 - (intOf i).toNat)
  case atStart => exact ⟨0, by omega, rfl, rfl, hidp (fun h => absurd h (by omega))⟩
  case round =>
    obtain ⟨k, hk, rfl, rfl, HF⟩ := hrel
    by_cases hlt : n / 2 ^ k < 1
    · have HL : Hid (HM.logI n = (k : Int) - 1) := by
        by_cases hk0 : k = 0
        · subst hk0
          exact hidp (HM.logI_no n (by simpa using hlt))
        · have hs : k - 1 + 1 = k := by omega
          refine hidp ((HM.logI_at n (k - 1) (HF.out (by omega)) (by rw [hs]; exact hlt)).trans (by omega))
      go_wp2
      go_ret
      exact ⟨ret_int HL.out.symm, rfl⟩
    · have hk2 : k < 63 := by
        rcases Nat.lt_or_ge k 63 with h | h
        · exact h
        · obtain rfl : k = 63 := by omega
          exact absurd (show n / 2 ^ 63 < 1 from by omega) hlt
      have HN := hidp hlt
      go_wp2
      go_round
      case rel => exact ⟨k + 1, by omega, by go_num, by go_num, hidp (fun _ => by have := HN.out; simp only [Nat.add_sub_cancel]; omega)⟩
      case measure => simp [intOf]; omega

theorem RLog_c (n : Int) (h0 : -9223372036854775808 ≤ n) (h1 : n ≤ 9223372036854775807) (w : World) :
    Calls Try.prog 23 #[.int .i64 n] w fun e w' => e = .returned (.int .i64 (HM.logI n)) ∧ w = w' := by
  go_enter Try.func23, Try.ntmps23
  go_wp2
  go_loop [0, 3] (fun m l => ∃ (q : Int) (k : Nat), k ≤ 63 ∧ m = .int .i64 q ∧ -9223372036854775808 ≤ q ∧ q ≤ 9223372036854775807 ∧ Hid (q = n / 2 ^ k) ∧ l = .int .i64 ((k : Int) - 1) ∧ Hid (0 < k → 1 ≤ n / 2 ^ (k - 1))) (fun m _ => (intOf m).toNat)
  case atStart => exact ⟨n, 0, by omega, rfl, h0, h1, hidp (by simp), rfl, hidp (fun h => absurd h (by omega))⟩
  case round =>
    obtain ⟨q, k, hk, rfl, hq0, hq1, HQ, rfl, HF⟩ := hrel
    by_cases hlt : q < 1
    · have HL : Hid (HM.logI n = (k : Int) - 1) := by
        have hq := HQ.out
        by_cases hk0 : k = 0
        · subst hk0
          exact hidp (HM.logI_no n (by rw [hq] at hlt; simpa using hlt))
        · have hs : k - 1 + 1 = k := by omega
          refine hidp ((HM.logI_at n (k - 1) (HF.out (by omega)) (by rw [hs, ← hq]; exact hlt)).trans (by omega))
      go_wp2
      go_ret
      exact ⟨ret_int HL.out.symm, rfl⟩
    · have hk2 : k < 63 := by
        rcases Nat.lt_or_ge k 63 with h | h
        · exact h
        · obtain rfl : k = 63 := by omega
          have hq := HQ.out
          omega
      have HS : Hid (q / 2 = n / 2 ^ (k + 1)) := hidp (by rw [HQ.out, Int.pow_succ, Int.ediv_ediv_of_nonneg (Int.le_of_lt (Int.pow_pos (by omega)))])
      have hp : 1 ≤ q := by omega
      clear hlt
      go_wp2
      go_round
      case rel => exact ⟨q / 2, k + 1, by omega, rfl, by omega, by omega, HS, by go_num, hidp (fun _ => by have := HQ.out; simp only [Nat.add_sub_cancel]; omega)⟩
      case measure => simp [intOf]; omega

end Go.Proofs.Ytjiedkfmbgfolaa
