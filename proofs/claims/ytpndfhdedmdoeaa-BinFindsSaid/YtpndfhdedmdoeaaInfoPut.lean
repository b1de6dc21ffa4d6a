/-
  Contracts of info.Put, nacreref09.Put: an info's value.
-/
import Derived.Test.YtpndfhdedmdoeaaInfo
namespace Go.Proofs.Ytpndfhdedmdoeaa
open Go.ChangeShapes Go.WideShapes Go.ChangeAt Go.RowKit
set_option linter.unusedVariables false
set_option linter.unusedSimpArgs false

/-- put into a field of a word that has nothing there, nor above -/
theorem putN_new (x a k v : Nat) (ha : a + k ≤ 64) (hx : x < 2 ^ a) (hv : v < 2 ^ k) : HM.putN x a k v = x + v * 2 ^ a := by
  have hx64 : x < 2 ^ 64 := Nat.lt_of_lt_of_le hx (Nat.pow_le_pow_right (by omega) (by omega))
  have h1 : x + v * 2 ^ a = 2 ^ a * v + x := by rw [Nat.mul_comm, Nat.add_comm]
  have hlt : 2 ^ a * v + x < 2 ^ 64 := by
    have e : (2 : Nat) ^ 64 = 2 ^ a * 2 ^ (64 - a) := by rw [← Nat.pow_add]; congr 1; omega
    have e2 : (2 : Nat) ^ k ≤ 2 ^ (64 - a) := Nat.pow_le_pow_right (by omega) (by omega)
    have e3 : 2 ^ a * (v + 1) ≤ 2 ^ a * 2 ^ (64 - a) := Nat.mul_le_mul_left _ (by omega)
    rw [Nat.mul_succ] at e3
    rw [e]
    omega
  rw [h1]
  apply Nat.eq_of_testBit_eq
  intro i
  by_cases hi : i < 64
  · rw [HM.bit_putN x a k v i ha hv hi, Nat.testBit_two_pow_mul_add _ hx]
    by_cases h2 : i < a
    · rw [if_neg (by omega), if_pos h2]
    · rw [if_neg h2]
      by_cases h3 : i < a + k
      · rw [if_pos ⟨by omega, h3⟩]
      · rw [if_neg (by omega), Nat.testBit_lt_two_pow (Nat.lt_of_lt_of_le hx (Nat.pow_le_pow_right (by omega) (by omega))), Nat.testBit_lt_two_pow (Nat.lt_of_lt_of_le hv (Nat.pow_le_pow_right (by omega) (by omega)))]
  · rw [HM.bit_high (HM.putN_lt x a k v ha hv) (by omega), HM.bit_high hlt (by omega)]
theorem putNew_c (x a k v : Nat) (hk : 1 ≤ k) (ha : a + k ≤ 64) (hx : x < 2 ^ a) (hv : v < 2 ^ k) (y : Nat) (hy : x + v * 2 ^ a = y) (w : World) :
    Calls Try.prog 71 #[.int .u64 (x : Int), .int .i64 (a : Int), .int .i64 (k : Int), .int .u64 (v : Int)] w fun e w' => e = .returned (.tuple #[.int .u64 (y : Int), .bool true]) ∧ ∃ n, w' = w.drewN n := by
  have hx64 : x < 2 ^ 64 := Nat.lt_of_lt_of_le hx (Nat.pow_le_pow_right (by omega) (by omega))
  have hv64 : v < 2 ^ 64 := Nat.lt_of_lt_of_le hv (Nat.pow_le_pow_right (by omega) (by omega))
  refine (Put_c x v a k hx64 hv64 (by omega) (by omega) (by omega) (by omega) w).mono ?_
  rintro e w' ⟨rfl, hw⟩
  have hok : putOk a k v = true := by
    unfold putOk
    rw [fieldB_yes (by omega) (by omega) (by omega)]
    simpa using hv
  have e1 : putI x a k v = y := by
    unfold putI
    rw [if_pos hok]
    exact (putN_new x a k v ha hx hv).trans hy
  rw [hok, e1]
  exact ⟨rfl, hw⟩
theorem ret_half {k : IntKind} {a b : Int} {c : Bool} (h : a = b) : Ending.returned (.tuple #[.int k a, .bool c]) = .returned (.tuple #[.int k b, .bool c]) := by rw [h]

theorem inPut_c (k l c : Int) (w : World) :
    Calls Try.prog 36 #[.agg #[.int .i64 k, .int .i64 l, .int .i64 c]] w fun e w' => e = .returned (.tuple #[.int .u32 ((infoV k l c : Nat) : Int), .bool (infoB k l c)]) ∧ Below w.heap.size w w' := by
  cases hr : infoB k l c
  · have HP := hidp (infoV_no hr)
    have HR := hidp hr
    clear hr
    go_enter Try.func36, Try.ntmps36
    go_wp2_with fail
    refine (inIsRight_c k l c _).mono ?_
    rintro e w1 ⟨rfl, hb1⟩
    rw [HR.out]
    go_wp2
    go_ret2
    exact ⟨by rw [HP.out]; rfl, Bgo (Bnew (B0 _) _) hb1⟩
  · have HP := hidp (infoV_yes hr)
    have HR := hidp hr
    have hi := infoB_iff hr
    clear hr
    have hb : 0 ≤ k ∧ k ≤ 3 ∧ 0 ≤ l ∧ l ≤ 1024 ∧ 0 ≤ c ∧ c ≤ 8 := by unfold infoP at hi; omega
    obtain ⟨k0, k3, l0, l1, c0, c8⟩ := hb
    clear hi
    obtain ⟨k, rfl⟩ : ∃ n : Nat, k = n := ⟨k.toNat, by omega⟩
    obtain ⟨l, rfl⟩ : ∃ n : Nat, l = n := ⟨l.toNat, by omega⟩
    obtain ⟨c, rfl⟩ : ∃ n : Nat, c = n := ⟨c.toNat, by omega⟩
    go_enter Try.func36, Try.ntmps36
    go_wp2_with fail
    have hc := Held.new w 55 #[.int .i64 (k : Int), .int .i64 (l : Int), .int .i64 (c : Int)]
    refine (inIsRight_c k l c _).mono ?_
    rintro e w1 ⟨rfl, hb1⟩
    rw [HR.out]
    obtain ⟨c0, c1, c2⟩ := (hc.keep hb1).three
    go_wp2_with fail
    refine (putNew_c 0 0 4 k (by omega) (by omega) (by omega) (by omega) k (by omega) _).mono ?_
    rintro e w2 ⟨rfl, n2, rfl⟩
    go_wp2_with fail
    refine (putNew_c k 4 12 l (by omega) (by omega) (by omega) (by omega) (k + l * 16) (by omega) _).mono ?_
    rintro e w2 ⟨rfl, n3, rfl⟩
    go_wp2_with fail
    refine (putNew_c (k + l * 16) 16 4 c (by omega) (by omega) (by omega) (by omega) (k + l * 16 + c * 65536) (by omega) _).mono ?_
    rintro e w2 ⟨rfl, n4, rfl⟩
    go_wp2_with fail
    refine (Lo_c (k + l * 16 + c * 65536) (by omega) _).mono ?_
    rintro e w2 ⟨rfl, rfl⟩
    go_wp2
    go_ret2
    refine ⟨ret_half (by rw [HP.out]; omega), ?_⟩
    repeat (first | exact B0 _ | (with_reducible refine Bdrew ?_) | (with_reducible refine Bdraw ?_ _) | (with_reducible refine Bgo ?_ hb1) | (with_reducible refine Bnew ?_ _))
theorem r9Put_c (k l c : Int) (w : World) :
    Calls Try.prog 78 #[.agg #[.int .i64 k, .int .i64 l, .int .i64 c]] w fun e w' => e = .returned (.tuple #[.int .u32 ((infoV k l c : Nat) : Int), .bool (infoB k l c)]) ∧ Below w.heap.size w w' := by
  cases hr : infoB k l c
  · have HP := hidp (infoV_no hr)
    have HR := hidp hr
    clear hr
    go_enter Try.func78, Try.ntmps78
    go_wp2_with fail
    refine (r9Right_c k l c _).mono ?_
    rintro e w1 ⟨rfl, hb1⟩
    rw [HR.out]
    go_wp2
    go_ret2
    exact ⟨by rw [HP.out]; rfl, Bgo (Bnew (B0 _) _) hb1⟩
  · have HP := hidp (infoV_yes hr)
    have HR := hidp hr
    have hi := infoB_iff hr
    clear hr
    have hb : 0 ≤ k ∧ k ≤ 3 ∧ 0 ≤ l ∧ l ≤ 1024 ∧ 0 ≤ c ∧ c ≤ 8 := by unfold infoP at hi; omega
    obtain ⟨k0, k3, l0, l1, c0, c8⟩ := hb
    clear hi
    go_enter Try.func78, Try.ntmps78
    go_wp2_with fail
    have hc := Held.new w 55 #[.int .i64 k, .int .i64 l, .int .i64 c]
    refine (r9Right_c k l c _).mono ?_
    rintro e w1 ⟨rfl, hb1⟩
    rw [HR.out]
    obtain ⟨d0, d1, d2⟩ := (hc.keep hb1).three
    go_wp2
    go_ret2
    refine ⟨ret_half (by rw [HP.out]; first | omega | (simp; omega)), ?_⟩
    repeat (first | exact B0 _ | (with_reducible refine Bdrew ?_) | (with_reducible refine Bdraw ?_ _) | (with_reducible refine Bgo ?_ hb1) | (with_reducible refine Bnew ?_ _))
end Go.Proofs.Ytpndfhdedmdoeaa
