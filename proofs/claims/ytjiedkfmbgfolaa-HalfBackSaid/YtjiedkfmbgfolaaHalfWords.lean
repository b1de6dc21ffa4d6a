/-
  Contracts of the functions of package half and of the document's answers to it: words, their halves and fields.
-/
import Derived.Test.YtjiedkfmbgfolaaHalf
import Derived.Deep.QuietTactic
namespace Go.Proofs.Ytjiedkfmbgfolaa
open Go.RowKit
set_option linter.unusedVariables false

theorem quiet_same {P : Program} {f : FuncId} {args : Array Value} {w : World} {n : Nat} {v : Value} (h : Calls P f args (w.drewN n) fun e w' => e = .returned v ∧ w.drewN n = w') :
    Calls P f args (w.drewN n) fun e w'' => e = .returned v ∧ ∃ m, w'' = w.drewN m := h.mono fun _ _ ⟨he, hm⟩ => ⟨he, n, hm.symm⟩
theorem quiet_more {P : Program} {f : FuncId} {args : Array Value} {w : World} {n : Nat} {v : Value} (h : Calls P f args (w.drewN n) fun e w' => e = .returned v ∧ ∃ m, w' = (w.drewN n).drewN m) :
    Calls P f args (w.drewN n) fun e w'' => e = .returned v ∧ ∃ m, w'' = w.drewN m := h.mono fun _ _ ⟨he, m, hm⟩ => ⟨he, n + m, by rw [hm, World.drewN_drewN]⟩

theorem join_or (h l : Nat) (hh : h < 2 ^ 32) (hl : l < 2 ^ 32) : bits .or .u64 ((h : Int) * 4294967296) (l : Int) = ((h * 4294967296 + l : Nat) : Int) := by
  have e : (h : Int) * 4294967296 = ((h * 4294967296 : Nat) : Int) := by omega
  rw [e, u64_or_nat _ _ (by omega) (by omega), nat_join 32 _ _ (by omega) hl]
theorem join_sum (h l : Nat) (hh : h < 2 ^ 32) (hl : l < 2 ^ 32) : (h : Int) * 4294967296 + (l : Int) = ((h * 4294967296 + l : Nat) : Int) := by omega

theorem Join_c (h l : Nat) (hh : h < 2 ^ 32) (hl : l < 2 ^ 32) (w : World) :
    Calls Try.prog 7 #[.int .u32 (h : Int), .int .u32 (l : Int)] w fun e w' => e = .returned (.int .u64 ((h * 4294967296 + l : Nat) : Int)) ∧ w = w' := by
  go_enter Try.func7, Try.ntmps7
  go_wp2
  go_ret
  exact ⟨ret_int (join_or h l hh hl), rfl⟩

theorem RJoin_c (h l : Nat) (hh : h < 2 ^ 32) (hl : l < 2 ^ 32) (w : World) :
    Calls Try.prog 8 #[.int .u32 (h : Int), .int .u32 (l : Int)] w fun e w' => e = .returned (.int .u64 ((h * 4294967296 + l : Nat) : Int)) ∧ w = w' := by
  go_enter Try.func8, Try.ntmps8
  go_wp2
  go_ret
  exact ⟨ret_int (join_sum h l hh hl), rfl⟩

theorem Hi_c (x : Nat) (hx : x < 2 ^ 64) (w : World) :
    Calls Try.prog 9 #[.int .u64 (x : Int)] w fun e w' => e = .returned (.int .u32 ((x / 4294967296 : Nat) : Int)) ∧ w = w' := by
  go_enter Try.func9, Try.ntmps9
  go_wp2
  go_ret
  exact ⟨ret_int (by first | omega | (rw [Int.tmod_eq_emod_of_nonneg (by omega)]; omega) | (rw [IntKind.wrap_u32]; omega)), rfl⟩

theorem RHi_c (x : Nat) (hx : x < 2 ^ 64) (w : World) :
    Calls Try.prog 10 #[.int .u64 (x : Int)] w fun e w' => e = .returned (.int .u32 ((x / 4294967296 : Nat) : Int)) ∧ w = w' := by
  go_enter Try.func10, Try.ntmps10
  go_wp2
  go_ret
  exact ⟨ret_int (by first | omega | (rw [Int.tmod_eq_emod_of_nonneg (by omega)]; omega) | (rw [IntKind.wrap_u32]; omega)), rfl⟩

theorem Lo_c (x : Nat) (hx : x < 2 ^ 64) (w : World) :
    Calls Try.prog 11 #[.int .u64 (x : Int)] w fun e w' => e = .returned (.int .u32 ((x % 4294967296 : Nat) : Int)) ∧ w = w' := by
  go_enter Try.func11, Try.ntmps11
  go_wp2
  go_ret
  exact ⟨ret_int (by first | omega | (rw [Int.tmod_eq_emod_of_nonneg (by omega)]; omega) | (rw [IntKind.wrap_u32]; omega)), rfl⟩

theorem RLo_c (x : Nat) (hx : x < 2 ^ 64) (w : World) :
    Calls Try.prog 12 #[.int .u64 (x : Int)] w fun e w' => e = .returned (.int .u32 ((x % 4294967296 : Nat) : Int)) ∧ w = w' := by
  go_enter Try.func12, Try.ntmps12
  go_wp2
  go_ret
  exact ⟨ret_int (by first | omega | (rw [Int.tmod_eq_emod_of_nonneg (by omega)]; omega) | (rw [IntKind.wrap_u32]; omega)), rfl⟩

theorem field_nat {a k : Int} (h : fieldB a k = true) : ∃ a' k' : Nat, a = a' ∧ k = k' ∧ 1 ≤ k' ∧ a' + k' ≤ 64 := by
  unfold fieldB at h
  have := of_decide_eq_true h
  exact ⟨a.toNat, k.toNat, by omega, by omega, by omega, by omega⟩

/-- what Get answers -/
def getI (x : Nat) (a k : Int) : Nat := if fieldB a k then HM.getN x a.toNat k.toNat else 0

theorem and_low (y k : Nat) (hy : y < 2 ^ 64) (hk : k ≤ 64) : bits .and .u64 (y : Int) ((2 ^ k - 1 : Nat) : Int) = ((y % 2 ^ k : Nat) : Int) := by
  have h2 : 2 ^ k ≤ 2 ^ 64 := Nat.pow_le_pow_right (by omega) hk
  rw [u64_and_nat y _ hy (by omega), Nat.and_two_pow_sub_one_eq_mod]

theorem Get_c (x : Nat) (a k : Int) (hx : x < 2 ^ 64) (ha : -9223372036854775808 ≤ a) (ha' : a ≤ 9223372036854775807) (hk : -9223372036854775808 ≤ k) (hk' : k ≤ 9223372036854775807) (w : World) :
    Calls Try.prog 16 #[.int .u64 (x : Int), .int .i64 a, .int .i64 k] w fun e w' => e = .returned (.int .u64 ((getI x a k : Nat) : Int)) ∧ ∃ n, w' = w.drewN n := by
  cases hf : fieldB a k
  · have H := hidp hf
    clear hf
    go_enter Try.func16, Try.ntmps16
    go_wp2_with (go_at_call 27; refine (isField_c a k ha ha' hk hk' _).mono ?_; rintro e w' ⟨rfl, rfl⟩; rw [H.out])
    go_ret
    exact ⟨ret_int (by unfold getI; rw [H.out]; rfl), 0, rfl⟩
  · have H := hidp hf
    obtain ⟨a', k', rfl, rfl, h1, h2⟩ := field_nat hf
    clear hf
    go_enter Try.func16, Try.ntmps16
    go_wp2_with (go_at_call 27; refine (isField_c a' k' ha ha' hk hk' _).mono ?_; rintro e w' ⟨rfl, rfl⟩; rw [H.out])
    go_quiet ((go_at_call 28; exact quiet_same (lowBits_c k' (by omega) (by omega) _)))
    go_wp2
    go_ret
    exact ⟨ret_int (by rw [shr_cast, and_low _ _ (Nat.lt_of_le_of_lt (Nat.div_le_self _ _) hx) (by omega)]; unfold getI; rw [H.out, if_pos rfl, Int.toNat_natCast, Int.toNat_natCast]; rfl), nq, rfl⟩

theorem RGet_c (x : Nat) (a k : Int) (hx : x < 2 ^ 64) (ha : -9223372036854775808 ≤ a) (ha' : a ≤ 9223372036854775807) (hk : -9223372036854775808 ≤ k) (hk' : k ≤ 9223372036854775807) (w : World) :
    Calls Try.prog 17 #[.int .u64 (x : Int), .int .i64 a, .int .i64 k] w fun e w' => e = .returned (.int .u64 ((getI x a k : Nat) : Int)) ∧ w = w' := by
  cases hf : fieldB a k
  · have H := hidp hf
    clear hf
    go_enter Try.func17, Try.ntmps17
    go_wp2_with (go_at_call 29; refine (field_c a k ha ha' hk hk' _).mono ?_; rintro e w' ⟨rfl, rfl⟩; rw [H.out])
    go_ret
    exact ⟨ret_int (by unfold getI; rw [H.out]; rfl), rfl⟩
  · have H := hidp hf
    obtain ⟨a', k', rfl, rfl, h1, h2⟩ := field_nat hf
    clear hf
    have HG : Hid (getI x a' k' = HM.getN x a' k') := hidp (by unfold getI; rw [H.out, if_pos rfl, Int.toNat_natCast, Int.toNat_natCast])
    have HL := hidp (HM.getN_lt x a' k')
    go_enter Try.func17, Try.ntmps17
    go_wp2_with (go_at_call 29; refine (field_c a' k' ha ha' hk hk' _).mono ?_; rintro e w' ⟨rfl, rfl⟩; rw [H.out])
    go_loop [7, 8] (fun n i => ∃ j m : Nat, j ≤ k' ∧ i = .int .i64 ((j : Int) - 1) ∧ n = .int .u64 (m : Int) ∧ m < 18446744073709551616 ∧ Hid (m = HM.getN x a' k' / 2 ^ j)) (fun _ i => (intOf i + 1).toNat)
    case atStart => exact ⟨k', 0, Nat.le_refl _, rfl, rfl, by omega, hidp (HM.div_top _ _ HL.out).symm⟩
    case round =>
      obtain ⟨j, m, hj, rfl, rfl, hm, HE⟩ := hrel
      by_cases hlt : j = 0
      · subst hlt
        go_wp2
        go_ret
        exact ⟨ret_int (by rw [HG.out, HE.out]; simp), rfl⟩
      · obtain ⟨i, rfl⟩ : ∃ i, j = i + 1 := ⟨j - 1, by omega⟩
        have HS := hidp (HM.get_step x a' k' i (by omega))
        have hb : HM.getN x a' k' / 2 ^ i < 18446744073709551616 := Nat.lt_of_le_of_lt (Nat.le_trans (Nat.div_le_self _ _) (HM.getN_le x a' k')) hx
        have hm2 : m * 2 + x / 2 ^ (a' + i) % 2 < 18446744073709551616 := by rw [HE.out, HS.out]; exact hb
        have HI : Hid (((a' : Int) + ((i : Int) + 1 - 1)).toNat = a' + i) := hidp (by omega)
        clear hlt
        go_wp2_with fail
        refine (bit_c x _ hx (by omega) (by omega) _).mono ?_
        rintro e w' ⟨rfl, rfl⟩
        rw [show ((a' : Int) + (i : Int)).toNat = a' + i from by omega]
        go_wp2
        go_round
        case rel => exact ⟨i, m * 2 + x / 2 ^ (a' + i) % 2, by omega, by go_num, by go_num, hm2, hidp (by rw [HE.out, HS.out])⟩
        case measure => simp [intOf]

/-- what Put answers -/
def putOk (a k : Int) (v : Nat) : Bool := fieldB a k && decide (v < 2 ^ k.toNat)
def putI (x : Nat) (a k : Int) (v : Nat) : Nat := if putOk a k v then HM.putN x a.toNat k.toNat v else 0

theorem wrap_nat (n : Nat) (h : n < 2 ^ 64) : IntKind.u64.wrap (n : Int) = (n : Int) := by
  simp only [IntKind.wrap, IntKind.bits, IntKind.signed]; simp; omega
theorem put_bits (x a k v : Nat) (hx : x < 2 ^ 64) (h : a + k ≤ 64) (hv : v < 2 ^ k) :
    bits .or .u64 (bits .andNot .u64 (x : Int) (IntKind.u64.wrap (((2 ^ k - 1 : Nat) : Int) * 2 ^ a))) (IntKind.u64.wrap ((v : Int) * 2 ^ a)) = ((HM.putN x a k v : Nat) : Int) := by
  have h1 := HM.mask_lt a k h
  have h2 : v * 2 ^ a < 2 ^ 64 := Nat.lt_of_le_of_lt (Nat.mul_le_mul_right _ (by omega)) h1
  have e1 : ((2 ^ k - 1 : Nat) : Int) * 2 ^ a = (((2 ^ k - 1) * 2 ^ a : Nat) : Int) := by rw [Int.natCast_mul, Int.natCast_pow]; rfl
  have e2 : (v : Int) * 2 ^ a = ((v * 2 ^ a : Nat) : Int) := by rw [Int.natCast_mul, Int.natCast_pow]; rfl
  rw [e1, e2, wrap_nat _ h1, wrap_nat _ h2, u64_andNot_nat _ _ hx h1, u64_or_nat _ _ (Nat.lt_of_le_of_lt Nat.and_le_left hx) h2]
  rfl

theorem Put_c (x v : Nat) (a k : Int) (hx : x < 2 ^ 64) (hv : v < 2 ^ 64) (ha : -9223372036854775808 ≤ a) (ha' : a ≤ 9223372036854775807) (hk : -9223372036854775808 ≤ k) (hk' : k ≤ 9223372036854775807) (w : World) :
    Calls Try.prog 14 #[.int .u64 (x : Int), .int .i64 a, .int .i64 k, .int .u64 (v : Int)] w fun e w' => e = .returned (.tuple #[.int .u64 ((putI x a k v : Nat) : Int), .bool (putOk a k v)]) ∧ ∃ n, w' = w.drewN n := by
  cases hf : fieldB a k
  · have H := hidp hf
    clear hf
    go_enter Try.func14, Try.ntmps14
    go_wp2_with (go_at_call 27; refine (isField_c a k ha ha' hk hk' _).mono ?_; rintro e w' ⟨rfl, rfl⟩; rw [H.out])
    go_ret2
    exact ⟨by unfold putI putOk; rw [H.out]; rfl, 0, rfl⟩
  · have H := hidp hf
    obtain ⟨a', k', rfl, rfl, h1, h2⟩ := field_nat hf
    clear hf
    by_cases hlt : v < 2 ^ k'
    · have HO : Hid (putOk a' k' v = true) := hidp (by unfold putOk; rw [H.out, Int.toNat_natCast]; simp [hlt])
      have HP : Hid (putI x a' k' v = HM.putN x a' k' v) := hidp (by unfold putI; rw [HO.out, if_pos rfl, Int.toNat_natCast, Int.toNat_natCast])
      have HB := hidp (put_bits x a' k' v hx h2 hlt)
      have hng : ¬ (((2 ^ k' - 1 : Nat) : Int) < (v : Int)) := by omega
      go_enter Try.func14, Try.ntmps14
      go_wp2_with (first | (go_at_call 27; refine (isField_c a' k' ha ha' hk hk' _).mono ?_; rintro e w' ⟨rfl, rfl⟩; rw [H.out]) | (go_at_call 28; refine (lowBits_c k' (by omega) (by omega) _).mono ?_; rintro e w' ⟨rfl, rfl⟩; rw [Int.toNat_natCast]))
      go_quiet ((go_at_call 28; exact quiet_same (lowBits_c k' (by omega) (by omega) _)))
      go_wp2
      go_ret2
      exact ⟨by rw [HO.out, HP.out, ← HB.out]; rfl, nq, rfl⟩
    · have HO : Hid (putOk a' k' v = false) := hidp (by unfold putOk; rw [H.out, Int.toNat_natCast]; simp [hlt])
      have HP : Hid (putI x a' k' v = 0) := hidp (by unfold putI; rw [HO.out]; rfl)
      have hg : (((2 ^ k' - 1 : Nat) : Int) < (v : Int)) := by have := Nat.two_pow_pos k'; omega
      go_enter Try.func14, Try.ntmps14
      go_wp2_with (first | (go_at_call 27; refine (isField_c a' k' ha ha' hk hk' _).mono ?_; rintro e w' ⟨rfl, rfl⟩; rw [H.out]) | (go_at_call 28; refine (lowBits_c k' (by omega) (by omega) _).mono ?_; rintro e w' ⟨rfl, rfl⟩; rw [Int.toNat_natCast]))
      go_ret2
      exact ⟨by rw [HO.out, HP.out]; rfl, 0, rfl⟩

theorem RPut_c (x v : Nat) (a k : Int) (hx : x < 2 ^ 64) (hv : v < 2 ^ 64) (ha : -9223372036854775808 ≤ a) (ha' : a ≤ 9223372036854775807) (hk : -9223372036854775808 ≤ k) (hk' : k ≤ 9223372036854775807) (w : World) :
    Calls Try.prog 15 #[.int .u64 (x : Int), .int .i64 a, .int .i64 k, .int .u64 (v : Int)] w fun e w' => e = .returned (.tuple #[.int .u64 ((putI x a k v : Nat) : Int), .bool (putOk a k v)]) ∧ w = w' := by
  cases hf : fieldB a k
  · have H := hidp hf
    clear hf
    go_enter Try.func15, Try.ntmps15
    go_wp2_with (go_at_call 29; refine (field_c a k ha ha' hk hk' _).mono ?_; rintro e w' ⟨rfl, rfl⟩; rw [H.out])
    go_ret2
    exact ⟨by unfold putI putOk; rw [H.out]; rfl, rfl⟩
  · have H := hidp hf
    obtain ⟨a', k', rfl, rfl, h1, h2⟩ := field_nat hf
    clear hf
    go_enter Try.func15, Try.ntmps15
    go_wp2_with (go_at_call 29; refine (field_c a' k' ha ha' hk hk' _).mono ?_; rintro e w' ⟨rfl, rfl⟩; rw [H.out])
    go_loop [10] (fun i => ∃ j : Nat, k' ≤ j ∧ j ≤ 64 ∧ i = .int .i64 (j : Int) ∧ Hid (∀ l, k' ≤ l → l < j → v / 2 ^ l % 2 ≠ 1)) (fun i => (64 - intOf i).toNat)
    case atStart => exact ⟨k', Nat.le_refl _, by omega, rfl, hidp (fun l h3 h4 => absurd h4 (by omega))⟩
    case round =>
      obtain ⟨j, hj, hj2, rfl, HF⟩ := hrel
      by_cases hlt : j < 64
      · have hm : v / 2 ^ j % 2 < 2 := Nat.mod_lt _ (by omega)
        have HD := hidp (Nat.mod_two_eq_zero_or_one (v / 2 ^ j))
        generalize hq : v / 2 ^ j % 2 = q at *
        have HQ := hidp hq
        clear hq
        by_cases hb : q = 1
        · subst hb
          have hn : ¬ v < 2 ^ k' := fun hl => by have := HM.bit_of_lt v k' j hl hj; rw [HQ.out] at this; omega
          have HO : Hid (putOk a' k' v = false) := hidp (by unfold putOk; rw [H.out, Int.toNat_natCast]; simp [hn])
          have HP : Hid (putI x a' k' v = 0) := hidp (by unfold putI; rw [HO.out]; rfl)
          go_wp2_with (go_at_call 30; refine (bit_c v j hv (by omega) (by omega) _).mono ?_; rintro e w' ⟨rfl, rfl⟩; rw [Int.toNat_natCast, HQ.out])
          go_ret2
          exact ⟨by rw [HO.out, HP.out]; rfl, rfl⟩
        · obtain rfl : q = 0 := by omega
          go_wp2_with (go_at_call 30; refine (bit_c v j hv (by omega) (by omega) _).mono ?_; rintro e w' ⟨rfl, rfl⟩; rw [Int.toNat_natCast, HQ.out])
          go_round
          case rel =>
            refine ⟨j + 1, by omega, by omega, by go_num, hidp (fun l h3 h4 => ?_)⟩
            by_cases e : l = j
            · rw [e, HQ.out]; omega
            · exact HF.out l h3 (by omega)
          case measure => simp [intOf]; omega
      · obtain rfl : j = 64 := by omega
        have hvk : v < 2 ^ k' := HM.lt_of_bits v k' hv HF.out
        have HO : Hid (putOk a' k' v = true) := hidp (by unfold putOk; rw [H.out, Int.toNat_natCast]; simp [hvk])
        have HP : Hid (putI x a' k' v = HM.putN x a' k' v) := hidp (by unfold putI; rw [HO.out, if_pos rfl, Int.toNat_natCast, Int.toNat_natCast])
        have HV := hidp hvk
        have HT := hidp (HM.putN_lt x a' k' v h2 hvk)
        clear hvk hlt
        go_wp2
        go_loop [11, 12] (fun n i => ∃ j m : Nat, j ≤ 64 ∧ i = .int .i64 ((j : Int) - 1) ∧ n = .int .u64 (m : Int) ∧ m < 18446744073709551616 ∧ Hid (m = HM.putN x a' k' v / 2 ^ j)) (fun _ i => (intOf i + 1).toNat)
        case atStart => exact ⟨64, 0, Nat.le_refl _, rfl, rfl, by omega, hidp (HM.div_top _ _ HT.out).symm⟩
        case round =>
          obtain ⟨j, m, hj, rfl, rfl, hm, HE⟩ := hrel
          by_cases hlt : j = 0
          · subst hlt
            go_wp2
            go_ret2
            exact ⟨by rw [HO.out, HP.out]; simp only [HE.out]; simp, rfl⟩
          · obtain ⟨i, rfl⟩ : ∃ i, j = i + 1 := ⟨j - 1, by omega⟩
            have hb : HM.putN x a' k' v / 2 ^ i < 18446744073709551616 := Nat.lt_of_le_of_lt (Nat.div_le_self _ _) HT.out
            clear hlt
            by_cases hin : a' ≤ i ∧ i < a' + k'
            · obtain ⟨hi1, hi2⟩ := hin
              have HS := hidp (HM.put_step_in x a' k' v i h2 HV.out hi1 hi2)
              have hm2 : m * 2 + v / 2 ^ (i - a') % 2 < 18446744073709551616 := by rw [HE.out, HS.out]; exact hb
              go_wp2_with fail
              refine (bit_c v _ hv (by omega) (by omega) _).mono ?_
              rintro e w' ⟨rfl, rfl⟩
              rw [show ((i : Int) - (a' : Int)).toNat = i - a' from by omega]
              go_wp2
              go_round
              case rel => exact ⟨i, m * 2 + v / 2 ^ (i - a') % 2, by omega, by go_num, by go_num, hm2, hidp (by rw [HE.out, HS.out])⟩
              case measure => simp [intOf]
            · have HS := hidp (HM.put_step_out x a' k' v i h2 HV.out (by omega) hin)
              have hm2 : m * 2 + x / 2 ^ i % 2 < 18446744073709551616 := by rw [HE.out, HS.out]; exact hb
              by_cases hi1 : a' ≤ i
              all_goals
                have hi2 : i < a' ∨ a' + k' ≤ i := by omega
                clear hin
                go_wp2_with fail
                refine (bit_c x _ hx (by omega) (by omega) _).mono ?_
                rintro e w' ⟨rfl, rfl⟩
                rw [show (i : Int).toNat = i from by omega]
                go_wp2
                go_round
                case rel => exact ⟨i, m * 2 + x / 2 ^ i % 2, by omega, by go_num, by go_num, hm2, hidp (by rw [HE.out, HS.out])⟩
                case measure => simp [intOf]

end Go.Proofs.Ytjiedkfmbgfolaa
