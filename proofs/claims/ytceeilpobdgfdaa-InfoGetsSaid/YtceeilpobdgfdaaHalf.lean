/-
  Contracts of the functions of package half and of the document's answers to it that only reckon.
-/
import Derived.Test.YtceeilpobdgfdaaKit
import Derived.Test.YtceeilpobdgfdaaHalfMath
import Derived.WalkKit
import Derived.ProofKit
import Derived.BigQuiet
import Derived.Outline
import Derived.Deep.QuietTactic
namespace Go.Proofs.Ytceeilpobdgfdaa
open Go.ChangeShapes Go.WideShapes Go.ChangeAt Go.RowKit
set_option linter.unusedVariables false

/-- is there such a field? -/
def fieldB (a k : Int) : Bool := decide (0 ≤ a ∧ 1 ≤ k ∧ a ≤ 64 - k)
theorem fieldB_yes {a k : Int} (h0 : 0 ≤ a) (h1 : 1 ≤ k) (h2 : a ≤ 64 - k) : fieldB a k = true := by unfold fieldB; simp [h0, h1, h2]
theorem fieldB_no {a k : Int} (h : ¬ (0 ≤ a ∧ 1 ≤ k ∧ a ≤ 64 - k)) : fieldB a k = false := by unfold fieldB; exact decide_eq_false h
theorem isField_c (a k : Int) (ha : -9223372036854775808 ≤ a) (ha' : a ≤ 9223372036854775807) (hk : -9223372036854775808 ≤ k) (hk' : k ≤ 9223372036854775807) (w : World) :
    Calls Try.prog 18 #[.int .i64 a, .int .i64 k] w fun e w' => e = .returned (.bool (fieldB a k)) ∧ w = w' := by
  by_cases h0 : 0 ≤ a
  · by_cases h1 : 1 ≤ k
    · by_cases h2 : a ≤ 64 - k
      · have H := hidp (fieldB_yes (a := a) (k := k) (by omega) (by omega) (by omega))
        go_enter Try.func18, Try.ntmps18
        go_wp2
        go_ret
        exact ⟨by rw [H.out]; rfl, rfl⟩
      · have H := hidp (fieldB_no (a := a) (k := k) (by omega))
        go_enter Try.func18, Try.ntmps18
        go_wp2
        go_ret
        exact ⟨by rw [H.out]; rfl, rfl⟩
    · have H := hidp (fieldB_no (a := a) (k := k) (by omega))
      go_enter Try.func18, Try.ntmps18
      go_wp2
      go_ret
      exact ⟨by rw [H.out]; rfl, rfl⟩
  · have H := hidp (fieldB_no (a := a) (k := k) (by omega))
    go_enter Try.func18, Try.ntmps18
    go_wp2
    go_ret
    exact ⟨by rw [H.out]; rfl, rfl⟩
theorem low_wrap : ∀ k : Fin 65, 1 ≤ k.val → IntKind.u64.wrap (IntKind.u64.wrap (2 ^ k.val) - 1) = ((2 ^ k.val - 1 : Nat) : Int) := by decide +kernel
theorem lowBits_c (k : Int) (h0 : 1 ≤ k) (h1 : k ≤ 64) (w : World) :
    Calls Try.prog 19 #[.int .i64 k] w fun e w' => e = .returned (.int .u64 ((2 ^ k.toNat - 1 : Nat) : Int)) ∧ w = w' := by
  have H := hidp (low_wrap ⟨k.toNat, by omega⟩ (by simp; omega))
  go_enter Try.func19, Try.ntmps19
  go_wp2
  go_ret
  exact ⟨ret_int H.out, rfl⟩
theorem and_one (n : Nat) (h : n < 2 ^ 32) : bits .and .u32 (n : Int) 1 = ((n % 2 : Nat) : Int) := by
  have := u32_and_nat n 1 h (by omega)
  rw [nat_mask1] at this
  exact this
theorem odd_bit (v k : Nat) : ((((v / 2 ^ k % 2 : Nat) : Int)) == 1) = v.testBit k := by
  rw [HM.bit_eq]
  cases v.testBit k <;> rfl
theorem join_or (h l : Nat) (hh : h < 2 ^ 32) (hl : l < 2 ^ 32) : bits .or .u64 ((h : Int) * 4294967296) (l : Int) = ((h * 4294967296 + l : Nat) : Int) := by
  have e : (h : Int) * 4294967296 = ((h * 4294967296 : Nat) : Int) := by omega
  rw [e, u64_or_nat _ _ (by omega) (by omega), nat_join 32 _ _ (by omega) hl]
theorem join_sum (h l : Nat) (hh : h < 2 ^ 32) (hl : l < 2 ^ 32) : (h : Int) * 4294967296 + (l : Int) = ((h * 4294967296 + l : Nat) : Int) := by omega
theorem Join_c (h l : Nat) (hh : h < 2 ^ 32) (hl : l < 2 ^ 32) (w : World) :
    Calls Try.prog 15 #[.int .u32 (h : Int), .int .u32 (l : Int)] w fun e w' => e = .returned (.int .u64 ((h * 4294967296 + l : Nat) : Int)) ∧ w = w' := by
  go_enter Try.func15, Try.ntmps15
  go_wp2
  go_ret
  exact ⟨ret_int (join_or h l hh hl), rfl⟩
theorem Lo_c (x : Nat) (hx : x < 2 ^ 64) (w : World) :
    Calls Try.prog 13 #[.int .u64 (x : Int)] w fun e w' => e = .returned (.int .u32 ((x % 4294967296 : Nat) : Int)) ∧ w = w' := by
  go_enter Try.func13, Try.ntmps13
  go_wp2
  go_ret
  exact ⟨ret_int (by first | omega | (rw [Int.tmod_eq_emod_of_nonneg (by omega)]; omega) | (rw [IntKind.wrap_u32]; omega)), rfl⟩
theorem field_nat {a k : Int} (h : fieldB a k = true) : ∃ a' k' : Nat, a = a' ∧ k = k' ∧ 1 ≤ k' ∧ a' + k' ≤ 64 := by
  unfold fieldB at h
  have := of_decide_eq_true h
  exact ⟨a.toNat, k.toNat, by omega, by omega, by omega, by omega⟩
/-- what Get answers -/
def getI (x : Nat) (a k : Int) : Nat := if fieldB a k then HM.getN x a.toNat k.toNat else 0
theorem and_low (y k : Nat) (hy : y < 2 ^ 64) (hk : k ≤ 64) : bits .and .u64 (y : Int) ((2 ^ k - 1 : Nat) : Int) = ((y % 2 ^ k : Nat) : Int) := by
  have h2 : 2 ^ k ≤ 2 ^ 64 := Nat.pow_le_pow_right (by omega) hk
  rw [u64_and_nat y _ hy (by omega), Nat.and_two_pow_sub_one_eq_mod]
theorem Get_c (x : Nat) (a k : Int) (hx : x < 2 ^ 64) (ha : -9223372036854775808 ≤ a) (ha' : a ≤ 9223372036854775807) (hk : -9223372036854775808 ≤ k) (hk' : k ≤ 9223372036854775807) (w : World) :
    Calls Try.prog 17 #[.int .u64 (x : Int), .int .i64 a, .int .i64 k] w fun e w' => e = .returned (.int .u64 ((getI x a k : Nat) : Int)) ∧ ∃ n, w' = w.drewN n := by
  cases hf : fieldB a k
  · have H := hidp hf
    clear hf
    go_enter Try.func17, Try.ntmps17
    go_wp2_with (go_at_call 18; refine (isField_c a k ha ha' hk hk' _).mono ?_; rintro e w' ⟨rfl, rfl⟩; rw [H.out])
    go_ret
    exact ⟨ret_int (by unfold getI; rw [H.out]; rfl), 0, rfl⟩
  · have H := hidp hf
    obtain ⟨a', k', rfl, rfl, h1, h2⟩ := field_nat hf
    clear hf
    go_enter Try.func17, Try.ntmps17
    go_wp2_with (go_at_call 18; refine (isField_c a' k' ha ha' hk hk' _).mono ?_; rintro e w' ⟨rfl, rfl⟩; rw [H.out])
    go_quiet ((go_at_call 19; exact quiet_same (lowBits_c k' (by omega) (by omega) _)))
    go_wp2
    go_ret
    exact ⟨ret_int (by rw [shr_cast, and_low _ _ (Nat.lt_of_le_of_lt (Nat.div_le_self _ _) hx) (by omega)]; unfold getI; rw [H.out, if_pos rfl, Int.toNat_natCast, Int.toNat_natCast]; rfl), nq, rfl⟩
/-- what Put answers -/
def putOk (a k : Int) (v : Nat) : Bool := fieldB a k && decide (v < 2 ^ k.toNat)
def putI (x : Nat) (a k : Int) (v : Nat) : Nat := if putOk a k v then HM.putN x a.toNat k.toNat v else 0
theorem wrap_nat (n : Nat) (h : n < 2 ^ 64) : IntKind.u64.wrap (n : Int) = (n : Int) := by
  simp only [IntKind.wrap, IntKind.bits, IntKind.signed]; simp; omega
theorem put_bits (x a k v : Nat) (hx : x < 2 ^ 64) (h : a + k ≤ 64) (hv : v < 2 ^ k) :
    bits .or .u64 (bits .andNot .u64 (x : Int) (IntKind.u64.wrap (((2 ^ k - 1 : Nat) : Int) * 2 ^ a))) (IntKind.u64.wrap ((v : Int) * 2 ^ a)) = ((HM.putN x a k v : Nat) : Int) := by
  have h1 := HM.mask_lt a k h
  have h2 : v * 2 ^ a < 2 ^ 64 := Nat.lt_of_le_of_lt (Nat.mul_le_mul_right _ (by omega)) h1
  have e1 : ((2 ^ k - 1 : Nat) : Int) * 2 ^ a = (((2 ^ k - 1) * 2 ^ a : Nat) : Int) := by rw [Int.natCast_mul, Int.natCast_pow]; rfl
  have e2 : (v : Int) * 2 ^ a = ((v * 2 ^ a : Nat) : Int) := by rw [Int.natCast_mul, Int.natCast_pow]; rfl
  rw [e1, e2, wrap_nat _ h1, wrap_nat _ h2, u64_andNot_nat _ _ hx h1, u64_or_nat _ _ (Nat.lt_of_le_of_lt Nat.and_le_left hx) h2]
  rfl
theorem Put_c (x v : Nat) (a k : Int) (hx : x < 2 ^ 64) (hv : v < 2 ^ 64) (ha : -9223372036854775808 ≤ a) (ha' : a ≤ 9223372036854775807) (hk : -9223372036854775808 ≤ k) (hk' : k ≤ 9223372036854775807) (w : World) :
    Calls Try.prog 12 #[.int .u64 (x : Int), .int .i64 a, .int .i64 k, .int .u64 (v : Int)] w fun e w' => e = .returned (.tuple #[.int .u64 ((putI x a k v : Nat) : Int), .bool (putOk a k v)]) ∧ ∃ n, w' = w.drewN n := by
  cases hf : fieldB a k
  · have H := hidp hf
    clear hf
    go_enter Try.func12, Try.ntmps12
    go_wp2_with (go_at_call 18; refine (isField_c a k ha ha' hk hk' _).mono ?_; rintro e w' ⟨rfl, rfl⟩; rw [H.out])
    go_ret2
    exact ⟨by unfold putI putOk; rw [H.out]; rfl, 0, rfl⟩
  · have H := hidp hf
    obtain ⟨a', k', rfl, rfl, h1, h2⟩ := field_nat hf
    clear hf
    by_cases hlt : v < 2 ^ k'
    · have HO : Hid (putOk a' k' v = true) := hidp (by unfold putOk; rw [H.out, Int.toNat_natCast]; simp [hlt])
      have HP : Hid (putI x a' k' v = HM.putN x a' k' v) := hidp (by unfold putI; rw [HO.out, if_pos rfl, Int.toNat_natCast, Int.toNat_natCast])
      have HB := hidp (put_bits x a' k' v hx h2 hlt)
      have hng : ¬ (((2 ^ k' - 1 : Nat) : Int) < (v : Int)) := by omega
      go_enter Try.func12, Try.ntmps12
      go_wp2_with (first | (go_at_call 18; refine (isField_c a' k' ha ha' hk hk' _).mono ?_; rintro e w' ⟨rfl, rfl⟩; rw [H.out]) | (go_at_call 19; refine (lowBits_c k' (by omega) (by omega) _).mono ?_; rintro e w' ⟨rfl, rfl⟩; rw [Int.toNat_natCast]))
      go_quiet ((go_at_call 19; exact quiet_same (lowBits_c k' (by omega) (by omega) _)))
      go_wp2
      go_ret2
      exact ⟨by rw [HO.out, HP.out, ← HB.out]; rfl, nq, rfl⟩
    · have HO : Hid (putOk a' k' v = false) := hidp (by unfold putOk; rw [H.out, Int.toNat_natCast]; simp [hlt])
      have HP : Hid (putI x a' k' v = 0) := hidp (by unfold putI; rw [HO.out]; rfl)
      have hg : (((2 ^ k' - 1 : Nat) : Int) < (v : Int)) := by have := Nat.two_pow_pos k'; omega
      go_enter Try.func12, Try.ntmps12
      go_wp2_with (first | (go_at_call 18; refine (isField_c a' k' ha ha' hk hk' _).mono ?_; rintro e w' ⟨rfl, rfl⟩; rw [H.out]) | (go_at_call 19; refine (lowBits_c k' (by omega) (by omega) _).mono ?_; rintro e w' ⟨rfl, rfl⟩; rw [Int.toNat_natCast]))
      go_ret2
      exact ⟨by rw [HO.out, HP.out]; rfl, 0, rfl⟩
end Go.Proofs.Ytceeilpobdgfdaa
