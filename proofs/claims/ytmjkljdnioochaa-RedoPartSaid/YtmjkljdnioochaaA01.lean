/-
  Plain facts on the bits of natural numbers, for the walks of package half: fields of words, how many bits are 1, the lowest one, the logarithm. No program is named here.
-/
import Derived.Below
import Derived.Test.YtmjkljdnioochaaAKit
import Derived.WalkKit
import Derived.ProofKit
import Derived.BigQuiet
import Derived.Outline
import Derived.Deep.QuietTactic
import Derived.Deep.DeepFit
import Derived.Maps.OwnSet
import Derived.Maps.RangeWalk
namespace Go.Proofs.Ytmjkljdnioochaa.HM

theorem bit_eq (x k : Nat) : x / 2 ^ k % 2 = (x.testBit k).toNat := by
 rw [Nat.testBit_eq_decide_div_mod_eq]
 rcases Nat.mod_two_eq_zero_or_one (x / 2 ^ k) with h | h <;> simp [h]

def getN (w a k : Nat) : Nat := w / 2 ^ a % 2 ^ k
def logI (n : Int) : Int := if n < 1 then -1 else (Nat.log2 n.toNat : Int)
theorem logI_at (n : Int) (k : Nat) (h1 : 1 <= n / 2 ^ k) (h2 : n / 2 ^ (k + 1) < 1) : logI n = k := by
 have hp : (0 : Int) < 2 ^ k := Int.pow_pos (by omega)
 have hn : 1 <= n := by
  have h3 := (Int.le_ediv_iff_mul_le hp).1 h1
  omega
 obtain ⟨m, rfl⟩ := Int.eq_ofNat_of_zero_le (show 0 <= n by omega)
 unfold logI
 rw [if_neg (by omega), Int.toNat_natCast]
 have h4 : 2 ^ k <= m := by
  have h3 := (Int.le_ediv_iff_mul_le hp).1 h1
  rw [Int.one_mul] at h3
  exact_mod_cast h3
 have h5 : m < 2 ^ (k + 1) := by
  have h3 := (Int.ediv_lt_iff_lt_mul (Int.pow_pos (by omega))).1 h2
  rw [Int.one_mul] at h3
  exact_mod_cast h3
 have : m ≠ 0 := by have := Nat.two_pow_pos k; omega
 have e : Nat.log2 m = k := by
  rw [Nat.log2_eq_iff this]
  exact ⟨h4, h5⟩
 rw [e]
theorem logI_no (n : Int) (h : n < 1) : logI n = -1 := by unfold logI; rw [if_pos h]

end Go.Proofs.Ytmjkljdnioochaa.HM

namespace Go.Proofs.Ytmjkljdnioochaa
open Go.ChangeShapes Go.WideShapes Go.ChangeAt Go.RowKit
set_option linter.unusedVariables false
section
def fieldB (a k : Int) : Bool := decide (0 <= a /\ 1 <= k /\ a <= 64 - k)
theorem fieldB_yes {a k : Int} (h0 : 0 <= a) (h1 : 1 <= k) (h2 : a <= 64 - k) : fieldB a k = true := by unfold fieldB; simp [h0, h1, h2]
theorem fieldB_no {a k : Int} (h : ¬ (0 <= a /\ 1 <= k /\ a <= 64 - k)) : fieldB a k = false := by unfold fieldB; exact decide_eq_false h
theorem isField_c (a k : Int) (ha : -9223372036854775808 <= a) (ha' : a <= 9223372036854775807) (hk : -9223372036854775808 <= k) (hk' : k <= 9223372036854775807) (w : World) :
  Calls Try.prog 76 #[.int .i64 a, .int .i64 k] w fun e w' => e = .returned (.bool (fieldB a k)) /\ w = w' := by
 by_cases h0 : 0 <= a
 ·by_cases h1 : 1 <= k
  ·by_cases h2 : a <= 64 - k
   ·have H := hidp (fieldB_yes (a := a) (k := k) (by omega) (by omega) (by omega))
    go_enter Try.func76, Try.ntmps76
    go_wp2
    go_ret
    exact ⟨by rw [H.out]; rfl, rfl⟩
   ·have H := hidp (fieldB_no (a := a) (k := k) (by omega))
    go_enter Try.func76, Try.ntmps76
    go_wp2
    go_ret
    exact ⟨by rw [H.out]; rfl, rfl⟩
  ·have H := hidp (fieldB_no (a := a) (k := k) (by omega))
   go_enter Try.func76, Try.ntmps76
   go_wp2
   go_ret
   exact ⟨by rw [H.out]; rfl, rfl⟩
 ·have H := hidp (fieldB_no (a := a) (k := k) (by omega))
  go_enter Try.func76, Try.ntmps76
  go_wp2
  go_ret
  exact ⟨by rw [H.out]; rfl, rfl⟩
theorem low_wrap : ∀ k : Fin 65, 1 <= k.val -> IntKind.u64.wrap (IntKind.u64.wrap (2 ^ k.val) - 1) = ((2 ^ k.val - 1 : Nat) : Int) := by decide +kernel
theorem lowBits_c (k : Int) (h0 : 1 <= k) (h1 : k <= 64) (w : World) :
  Calls Try.prog 77 #[.int .i64 k] w fun e w' => e = .returned (.int .u64 ((2 ^ k.toNat - 1 : Nat) : Int)) /\ w = w' := by
 have H := hidp (low_wrap ⟨k.toNat, by omega⟩ (by simp; omega))
 go_enter Try.func77, Try.ntmps77
 go_wp2
 go_ret
 exact ⟨ret_int H.out, rfl⟩
theorem odd_bit (v k : Nat) : ((((v / 2 ^ k % 2 : Nat) : Int)) == 1) = v.testBit k := by
 rw [HM.bit_eq]
 cases v.testBit k <;> rfl
theorem Bit_c (v : Nat) (i : Int) (b : Bool) (hv : v < 2 ^ 32) (h0 : 0 <= i) (h1 : i < 32) (hb : v.testBit i.toNat = b) (w : World) :
  Calls Try.prog 85 #[.int .u32 (v : Int), .int .i64 i] w fun e w' => e = .returned (.bool b) /\ w = w' := by
 have H := hidp hb
 clear hb
 go_enter Try.func85, Try.ntmps85
 go_wp2
 go_ret
 exact ⟨ret_bool (by rw [shr_cast, tmod_two, odd_bit, H.out]), rfl⟩
theorem RLog_c (n : Int) (h0 : -9223372036854775808 <= n) (h1 : n <= 9223372036854775807) (w : World) :
  Calls Try.prog 71 #[.int .i64 n] w fun e w' => e = .returned (.int .i64 (HM.logI n)) /\ w = w' := by
 go_enter Try.func71, Try.ntmps71
 go_wp2
 go_loop [0, 3] (fun m l => ∃ (q : Int) (k : Nat), k <= 63 /\ m = .int .i64 q /\ -9223372036854775808 <= q /\ q <= 9223372036854775807 /\ Hid (q = n / 2 ^ k) /\ l = .int .i64 ((k : Int) - 1) /\ Hid (0 < k -> 1 <= n / 2 ^ (k - 1))) (fun m _ => (intOf m).toNat)
 case atStart => exact ⟨n, 0, by omega, rfl, h0, h1, hidp (by simp), rfl, hidp (fun h => absurd h (by omega))⟩
 case round =>
  obtain ⟨q, k, hk, rfl, hq0, hq1, HQ, rfl, HF⟩ := hrel
  by_cases hlt : q < 1
  ·have HL : Hid (HM.logI n = (k : Int) - 1) := by
    have hq := HQ.out
    by_cases hk0 : k = 0
    ·subst hk0
     exact hidp (HM.logI_no n (by rw [hq] at hlt; simpa using hlt))
    ·have hs : k - 1 + 1 = k := by omega
     refine hidp ((HM.logI_at n (k - 1) (HF.out (by omega)) (by rw [hs, <- hq]; exact hlt)).trans (by omega))
   go_wp2
   go_ret
   exact ⟨ret_int HL.out.symm, rfl⟩
  ·have hk2 : k < 63 := by
    rcases Nat.lt_or_ge k 63 with h | h
    ·exact h
    ·obtain rfl : k = 63 := by omega
     have hq := HQ.out
     omega
   have HS : Hid (q / 2 = n / 2 ^ (k + 1)) := hidp (by rw [HQ.out, Int.pow_succ, Int.ediv_ediv_of_nonneg (Int.le_of_lt (Int.pow_pos (by omega)))])
   have hp : 1 <= q := by omega
   clear hlt
   go_wp2
   go_round
   case rel => exact ⟨q / 2, k + 1, by omega, rfl, by omega, by omega, HS, by go_num, hidp (fun _ => by have := HQ.out; simp only [Nat.add_sub_cancel]; omega)⟩
   case measure => simp [intOf]; omega
theorem join_or (h l : Nat) (hh : h < 2 ^ 32) (hl : l < 2 ^ 32) : bits .or .u64 ((h : Int) * 4294967296) (l : Int) = ((h * 4294967296 + l : Nat) : Int) := by
 have e : (h : Int) * 4294967296 = ((h * 4294967296 : Nat) : Int) := by omega
 rw [e, u64_or_nat _ _ (by omega) (by omega), nat_join 32 _ _ (by omega) hl]
theorem join_sum (h l : Nat) (hh : h < 2 ^ 32) (hl : l < 2 ^ 32) : (h : Int) * 4294967296 + (l : Int) = ((h * 4294967296 + l : Nat) : Int) := by omega
theorem Join_c (h l : Nat) (hh : h < 2 ^ 32) (hl : l < 2 ^ 32) (w : World) :
  Calls Try.prog 61 #[.int .u32 (h : Int), .int .u32 (l : Int)] w fun e w' => e = .returned (.int .u64 ((h * 4294967296 + l : Nat) : Int)) /\ w = w' := by
 go_enter Try.func61, Try.ntmps61
 go_wp2
 go_ret
 exact ⟨ret_int (join_or h l hh hl), rfl⟩
theorem RJoin_c (h l : Nat) (hh : h < 2 ^ 32) (hl : l < 2 ^ 32) (w : World) :
  Calls Try.prog 37 #[.int .u32 (h : Int), .int .u32 (l : Int)] w fun e w' => e = .returned (.int .u64 ((h * 4294967296 + l : Nat) : Int)) /\ w = w' := by
 go_enter Try.func37, Try.ntmps37
 go_wp2
 go_ret
 exact ⟨ret_int (join_sum h l hh hl), rfl⟩
theorem Hi_c (x : Nat) (hx : x < 2 ^ 64) (w : World) :
  Calls Try.prog 55 #[.int .u64 (x : Int)] w fun e w' => e = .returned (.int .u32 ((x / 4294967296 : Nat) : Int)) /\ w = w' := by
 go_enter Try.func55, Try.ntmps55
 go_wp2
 go_ret
 exact ⟨ret_int (by first | omega | (rw [Int.tmod_eq_emod_of_nonneg (by omega)]; omega) | (rw [IntKind.wrap_u32]; omega)), rfl⟩
theorem RHi_c (x : Nat) (hx : x < 2 ^ 64) (w : World) :
  Calls Try.prog 60 #[.int .u64 (x : Int)] w fun e w' => e = .returned (.int .u32 ((x / 4294967296 : Nat) : Int)) /\ w = w' := by
 go_enter Try.func60, Try.ntmps60
 go_wp2
 go_ret
 exact ⟨ret_int (by first | omega | (rw [Int.tmod_eq_emod_of_nonneg (by omega)]; omega) | (rw [IntKind.wrap_u32]; omega)), rfl⟩
theorem Lo_c (x : Nat) (hx : x < 2 ^ 64) (w : World) :
  Calls Try.prog 58 #[.int .u64 (x : Int)] w fun e w' => e = .returned (.int .u32 ((x % 4294967296 : Nat) : Int)) /\ w = w' := by
 go_enter Try.func58, Try.ntmps58
 go_wp2
 go_ret
 exact ⟨ret_int (by first | omega | (rw [Int.tmod_eq_emod_of_nonneg (by omega)]; omega) | (rw [IntKind.wrap_u32]; omega)), rfl⟩
theorem RLo_c (x : Nat) (hx : x < 2 ^ 64) (w : World) :
  Calls Try.prog 19 #[.int .u64 (x : Int)] w fun e w' => e = .returned (.int .u32 ((x % 4294967296 : Nat) : Int)) /\ w = w' := by
 go_enter Try.func19, Try.ntmps19
 go_wp2
 go_ret
 exact ⟨ret_int (by first | omega | (rw [Int.tmod_eq_emod_of_nonneg (by omega)]; omega) | (rw [IntKind.wrap_u32]; omega)), rfl⟩
theorem field_nat {a k : Int} (h : fieldB a k = true) : ∃ a' k' : Nat, a = a' /\ k = k' /\ 1 <= k' /\ a' + k' <= 64 := by
 unfold fieldB at h
 have := of_decide_eq_true h
 exact ⟨a.toNat, k.toNat, by omega, by omega, by omega, by omega⟩
def getI (x : Nat) (a k : Int) : Nat := if fieldB a k then HM.getN x a.toNat k.toNat else 0
theorem and_low (y k : Nat) (hy : y < 2 ^ 64) (hk : k <= 64) : bits .and .u64 (y : Int) ((2 ^ k - 1 : Nat) : Int) = ((y % 2 ^ k : Nat) : Int) := by
 have h2 : 2 ^ k <= 2 ^ 64 := Nat.pow_le_pow_right (by omega) hk
 rw [u64_and_nat y _ hy (by omega), Nat.and_two_pow_sub_one_eq_mod]
theorem Get_c (x : Nat) (a k : Int) (hx : x < 2 ^ 64) (ha : -9223372036854775808 <= a) (ha' : a <= 9223372036854775807) (hk : -9223372036854775808 <= k) (hk' : k <= 9223372036854775807) (w : World) :
  Calls Try.prog 54 #[.int .u64 (x : Int), .int .i64 a, .int .i64 k] w fun e w' => e = .returned (.int .u64 ((getI x a k : Nat) : Int)) /\ ∃ n, w' = w.drewN n := by
 cases hf : fieldB a k
 ·have H := hidp hf
  clear hf
  go_enter Try.func54, Try.ntmps54
  go_wp2_with (go_at_call 76; refine (isField_c a k ha ha' hk hk' _).mono ?_; rintro e w' ⟨rfl, rfl⟩; rw [H.out])
  go_ret
  exact ⟨ret_int (by unfold getI; rw [H.out]; rfl), 0, rfl⟩
 ·have H := hidp hf
  obtain ⟨a', k', rfl, rfl, h1, h2⟩ := field_nat hf
  clear hf
  go_enter Try.func54, Try.ntmps54
  go_wp2_with (go_at_call 76; refine (isField_c a' k' ha ha' hk hk' _).mono ?_; rintro e w' ⟨rfl, rfl⟩; rw [H.out])
  go_quiet ((go_at_call 77; exact quiet_same (lowBits_c k' (by omega) (by omega) _)))
  go_wp2
  go_ret
  exact ⟨ret_int (by rw [shr_cast, and_low _ _ (Nat.lt_of_le_of_lt (Nat.div_le_self _ _) hx) (by omega)]; unfold getI; rw [H.out, if_pos rfl, Int.toNat_natCast, Int.toNat_natCast]; rfl), nq, rfl⟩
end
section
def entB (m : Int) : Bool := decide (0 <= m /\ m <= 65535)
def entN (m : Int) (v : Nat) : Nat := if entB m then m.toNat * 4294967296 + v else 0
theorem ent_yes (m v : Nat) (h : m <= 65535) : entB m = true /\ entN m v = m * 4294967296 + v := by
 have : entB m = true := by unfold entB; simp; omega
 exact ⟨this, by unfold entN; rw [this, if_pos rfl, Int.toNat_natCast]⟩
theorem ent_no (m : Int) (v : Nat) (h : m < 0 \/ 65535 < m) : entB m = false /\ entN m v = 0 := by
 have : entB m = false := by unfold entB; simp; omega
 exact ⟨this, by unfold entN; rw [this]; rfl⟩
def notB (m : Int) : Bool := decide (0 <= m /\ m <= 96)
def notN (s : Nat) (o : Bool) (m : Int) : Nat := if notB m then s * 4294967296 + (if o then 2147483648 + m.toNat else m.toNat) else 0
theorem not_yes (s : Nat) (o : Bool) (m : Nat) (h : m <= 96) : notB m = true /\ notN s o m = s * 4294967296 + (if o then 2147483648 + m else m) := by
 have : notB m = true := by unfold notB; simp; omega
 exact ⟨this, by unfold notN; rw [this, if_pos rfl, Int.toNat_natCast]⟩
theorem not_no (s : Nat) (o : Bool) (m : Int) (h : m < 0 \/ 96 < m) : notB m = false /\ notN s o m = 0 := by
 have : notB m = false := by unfold notB; simp; omega
 exact ⟨this, by unfold notN; rw [this]; rfl⟩
def noteOf (x : Nat) : Nat × Bool × Nat × Bool :=
 if x % 2147483648 <= 96 then (x / 4294967296, decide (2147483648 <= x % 4294967296), x % 2147483648, true) else (0, false, 0, false)
theorem flag_or (k : Nat) (h : k <= 96) : bits .or .u32 (k : Int) 2147483648 = ((2147483648 + k : Nat) : Int) := by
 have e := u32_or_nat k 2147483648 (by omega) (by omega)
 rw [show ((2147483648 : Nat) : Int) = 2147483648 from rfl] at e
 rw [e, Nat.or_comm, show (2147483648 : Nat) = 1 * 2147483648 from rfl, nat_join 31 _ _ (by omega) (by omega)]
def openB (x t : Nat) : Bool := (noteOf x).2.2.2 && (noteOf x).2.1 && (noteOf x).1 == t
def openN (x t : Nat) : Nat := if openB x t then (noteOf x).2.2.1 else 0

theorem mkOfTip_yes (x : Nat) (hx : x < 2 ^ 64) (h : x % 4294967296 <= 16) (w : World) :
  Calls Try.prog 63 #[.int .u64 (x : Int)] w fun e w' => e = .returned (.tuple #[.int .u32 ((x / 4294967296 : Nat) : Int), .int .i64 ((x % 4294967296 : Nat) : Int), .bool true]) /\ w = w' := by
 generalize hl : x % 4294967296 = l at *
 have HL := hidp hl
 clear hl
 go_enter Try.func63, Try.ntmps63
 go_wp2_with (first | (go_at_call 58; refine (Lo_c x hx _).mono ?_; rintro e w' ⟨rfl, rfl⟩; rw [HL.out]) | (go_at_call 55; refine (Hi_c x hx _).mono ?_; rintro e w' ⟨rfl, rfl⟩))
 go_ret3
 exact ⟨rfl, rfl⟩
theorem mkOfTip_no (x : Nat) (hx : x < 2 ^ 64) (h : 16 < x % 4294967296) (w : World) :
  Calls Try.prog 63 #[.int .u64 (x : Int)] w fun e w' => e = .returned (.tuple #[.int .u32 0, .int .i64 0, .bool false]) /\ w = w' := by
 generalize hl : x % 4294967296 = l at *
 have HL := hidp hl
 clear hl
 go_enter Try.func63, Try.ntmps63
 go_wp2_with (first | (go_at_call 58; refine (Lo_c x hx _).mono ?_; rintro e w' ⟨rfl, rfl⟩; rw [HL.out]) | (go_at_call 55; refine (Hi_c x hx _).mono ?_; rintro e w' ⟨rfl, rfl⟩))
 go_ret3
 exact ⟨rfl, rfl⟩

theorem mkEntry_c (m : Int) (v : Nat) (hv : v < 2 ^ 32) (h0 : -9223372036854775808 <= m) (h1 : m <= 9223372036854775807) (w : World) :
  Calls Try.prog 36 #[.agg #[.int .i64 m, .int .u32 (v : Int)]] w fun e w' => e = .returned (.tuple #[.int .u64 ((entN m v : Nat) : Int), .bool (entB m)]) /\ Below w.heap.size w w' := by
 by_cases hm : m < 0
 ·have T := hidp (ent_no m v (by omega))
  go_enter Try.func36, Try.ntmps36
  go_wp2
  go_ret2
  exact ⟨by rw [T.out.1, T.out.2]; rfl, (Below.refl _ _).alloc (Nat.le_refl _) _⟩
 ·by_cases hm2 : 65535 < m
  ·have T := hidp (ent_no m v (by omega))
   go_enter Try.func36, Try.ntmps36
   go_wp2
   go_ret2
   exact ⟨by rw [T.out.1, T.out.2]; rfl, (Below.refl _ _).alloc (Nat.le_refl _) _⟩
  ·obtain ⟨k, rfl⟩ : ∃ k : Nat, m = k := ⟨m.toNat, by omega⟩
   have T := hidp (ent_yes k v (by omega))
   have hk : k < 2 ^ 32 := by omega
   have hk3 : k < 65536 := by omega
   clear hm hm2
   go_enter Try.func36, Try.ntmps36
   go_wp2_with (go_at_call 61; refine (Join_c k v hk hv _).mono ?_; rintro e w' ⟨rfl, rfl⟩)
   go_ret2
   exact ⟨by rw [T.out.1, T.out.2]; rfl, (Below.refl _ _).alloc (Nat.le_refl _) _⟩

theorem mkStamp_c (x : Nat) (hx : x < 2 ^ 64) (w : World) :
  Calls Try.prog 65 #[.int .u64 (x : Int)] w fun e w' => e = .returned (.int .u32 ((x / 4294967296 : Nat) : Int)) /\ w = w' := by
 go_enter Try.func65, Try.ntmps65
 go_wp2_with (go_at_call 55; refine (Hi_c x hx _).mono ?_; rintro e w' ⟨rfl, rfl⟩)
 go_ret
 exact ⟨rfl, rfl⟩

theorem mkVal_c (x : Nat) (hx : x < 2 ^ 64) (w : World) :
  Calls Try.prog 40 #[.int .u64 (x : Int)] w fun e w' => e = .returned (.int .u32 ((x % 4294967296 : Nat) : Int)) /\ w = w' := by
 go_enter Try.func40, Try.ntmps40
 go_wp2_with (go_at_call 58; refine (Lo_c x hx _).mono ?_; rintro e w' ⟨rfl, rfl⟩)
 go_ret
 exact ⟨rfl, rfl⟩

theorem mkCell_c (h l : Nat) (hh : h < 2 ^ 32) (hl : l < 2 ^ 32) (w : World) :
  Calls Try.prog 67 #[.int .u32 (h : Int), .int .u32 (l : Int)] w fun e w' => e = .returned (.int .u64 ((h * 4294967296 + l : Nat) : Int)) /\ w = w' := by
 go_enter Try.func67, Try.ntmps67
 go_wp2_with (go_at_call 61; refine (Join_c h l hh hl _).mono ?_; rintro e w' ⟨rfl, rfl⟩)
 go_ret
 exact ⟨rfl, rfl⟩

theorem mkOfEntry_yes (x : Nat) (hx : x < 2 ^ 64) (h : x / 4294967296 < 65536) (w : World) :
  Calls Try.prog 27 #[.int .u64 (x : Int)] w fun e w' => e = .returned (.tuple #[.agg #[.int .i64 ((x / 4294967296 : Nat) : Int), .int .u32 ((x % 4294967296 : Nat) : Int)], .bool true]) /\ Below w.heap.size w w' := by
 generalize hl : x / 4294967296 = l at *
 have HL := hidp hl
 clear hl
 generalize hl : x % 4294967296 = q at *
 have HQ := hidp hl
 clear hl
 have hb : (l : Int) <= 65535 := by omega
 have hh : decide ((65536 : Int) <= l) = false := by simp; omega
 clear h
 go_enter Try.func27, Try.ntmps27
 go_wp2_with (first | (go_at_call 55; refine (Hi_c x hx _).mono ?_; rintro e w' ⟨rfl, rfl⟩; rw [HL.out]) | (go_at_call 58; refine (Lo_c x hx _).mono ?_; rintro e w' ⟨rfl, rfl⟩; rw [HQ.out]))
 refine bodyPost_ret (v := .tuple #[.agg #[.int .i64 ((l : Nat) : Int), .int .u32 ((q : Nat) : Int)], .bool true]) (by simp [results, Try.results27, go_sem]) rfl ⟨rfl, ?_⟩
 exact ((Below.refl _ _).alloc (Nat.le_refl _) _)

theorem mkOfEntry_no (x : Nat) (hx : x < 2 ^ 64) (h : 65535 < x / 4294967296) (w : World) :
  Calls Try.prog 27 #[.int .u64 (x : Int)] w fun e w' => e = .returned (.tuple #[.agg #[.int .i64 0, .int .u32 0], .bool false]) /\ Below w.heap.size w w' := by
 generalize hl : x / 4294967296 = l at *
 have HL := hidp hl
 clear hl
 generalize hl : x % 4294967296 = q at *
 have HQ := hidp hl
 clear hl
 have hh : (65536 : Int) <= l := by omega
 clear h
 go_enter Try.func27, Try.ntmps27
 go_wp2_with (first | (go_at_call 55; refine (Hi_c x hx _).mono ?_; rintro e w' ⟨rfl, rfl⟩; rw [HL.out]) | (go_at_call 58; refine (Lo_c x hx _).mono ?_; rintro e w' ⟨rfl, rfl⟩; rw [HQ.out]))
 refine bodyPost_ret (v := .tuple #[.agg #[.int .i64 0, .int .u32 0], .bool false]) (by simp [results, Try.results27, go_sem]) rfl ⟨rfl, ?_⟩
 exact ((Below.refl _ _).alloc (Nat.le_refl _) _)

theorem r3OfEntry_yes (x : Nat) (hx : x < 2 ^ 64) (h : x / 4294967296 < 65536) (w : World) :
  Calls Try.prog 32 #[.int .u64 (x : Int)] w fun e w' => e = .returned (.tuple #[.agg #[.int .i64 ((x / 4294967296 : Nat) : Int), .int .u32 ((x % 4294967296 : Nat) : Int)], .bool true]) /\ Below w.heap.size w w' := by
 generalize hl : x / 4294967296 = l at *
 have HL := hidp hl
 clear hl
 generalize hl : x % 4294967296 = q at *
 have HQ := hidp hl
 clear hl
 have hh : (l : Int) <= 65535 := by omega
 clear h
 go_enter Try.func32, Try.ntmps32
 go_wp2_with (first | (go_at_call 60; refine (RHi_c x hx _).mono ?_; rintro e w' ⟨rfl, rfl⟩; rw [HL.out]) | (go_at_call 19; refine (RLo_c x hx _).mono ?_; rintro e w' ⟨rfl, rfl⟩; rw [HQ.out]))
 refine bodyPost_ret (v := .tuple #[.agg #[.int .i64 ((l : Nat) : Int), .int .u32 ((q : Nat) : Int)], .bool true]) (by simp [results, Try.results32, go_sem]) rfl ⟨rfl, ?_⟩
 exact ((Below.refl _ _).alloc (Nat.le_refl _) _)

theorem r3OfEntry_no (x : Nat) (hx : x < 2 ^ 64) (h : 65535 < x / 4294967296) (w : World) :
  Calls Try.prog 32 #[.int .u64 (x : Int)] w fun e w' => e = .returned (.tuple #[.agg #[.int .i64 0, .int .u32 0], .bool false]) /\ Below w.heap.size w w' := by
 generalize hl : x / 4294967296 = l at *
 have HL := hidp hl
 clear hl
 generalize hl : x % 4294967296 = q at *
 have HQ := hidp hl
 clear hl
 have hh : (65535 : Int) < l := by omega
 clear h
 go_enter Try.func32, Try.ntmps32
 go_wp2_with (first | (go_at_call 60; refine (RHi_c x hx _).mono ?_; rintro e w' ⟨rfl, rfl⟩; rw [HL.out]) | (go_at_call 19; refine (RLo_c x hx _).mono ?_; rintro e w' ⟨rfl, rfl⟩; rw [HQ.out]))
 refine bodyPost_ret (v := .tuple #[.agg #[.int .i64 0, .int .u32 0], .bool false]) (by simp [results, Try.results32, go_sem]) rfl ⟨rfl, ?_⟩
 exact ((Below.refl _ _).alloc (Nat.le_refl _) _)
end
section
theorem mkNote_c (s : Nat) (o : Bool) (m : Int) (hs : s < 2 ^ 32) (h0 : -9223372036854775808 <= m) (h1 : m <= 9223372036854775807) (w : World) :
  Calls Try.prog 34 #[.agg #[.int .u32 (s : Int), .bool o, .int .i64 m]] w fun e w' => e = .returned (.tuple #[.int .u64 ((notN s o m : Nat) : Int), .bool (notB m)]) /\ Below w.heap.size w w' := by
 by_cases hm : m < 0
 ·have T := hidp (not_no s o m (by omega))
  go_enter Try.func34, Try.ntmps34
  go_wp2
  go_ret2
  exact ⟨by rw [T.out.1, T.out.2]; rfl, (Below.refl _ _).alloc (Nat.le_refl _) _⟩
 ·by_cases hm2 : 96 < m
  ·have T := hidp (not_no s o m (by omega))
   go_enter Try.func34, Try.ntmps34
   go_wp2
   go_ret2
   exact ⟨by rw [T.out.1, T.out.2]; rfl, (Below.refl _ _).alloc (Nat.le_refl _) _⟩
  ·obtain ⟨k, rfl⟩ : ∃ k : Nat, m = k := ⟨m.toNat, by omega⟩
   have T := hidp (not_yes s o k (by omega))
   have hk : k <= 96 := by omega
   clear hm hm2
   cases o
   ·go_enter Try.func34, Try.ntmps34
    go_wp2_with (go_at_call 61; refine (Join_c s k hs (by omega) _).mono ?_; rintro e w' ⟨rfl, rfl⟩)
    go_ret2
    exact ⟨by rw [T.out.1, T.out.2]; rfl, (Below.refl _ _).alloc (Nat.le_refl _) _⟩
   ·have HB := hidp (flag_or k hk)
    go_enter Try.func34, Try.ntmps34
    go_wp2_with (go_at_call 61; rw [HB.out]; refine (Join_c s (2147483648 + k) hs (by omega) _).mono ?_; rintro e w' ⟨rfl, rfl⟩)
    go_ret2
    exact ⟨by rw [T.out.1, T.out.2]; rfl, (Below.refl _ _).alloc (Nat.le_refl _) _⟩

theorem r3Note_c (s : Nat) (o : Bool) (m : Int) (hs : s < 2 ^ 32) (h0 : -9223372036854775808 <= m) (h1 : m <= 9223372036854775807) (w : World) :
  Calls Try.prog 38 #[.agg #[.int .u32 (s : Int), .bool o, .int .i64 m]] w fun e w' => e = .returned (.tuple #[.int .u64 ((notN s o m : Nat) : Int), .bool (notB m)]) /\ Below w.heap.size w w' := by
 by_cases hm : m < 0
 ·have T := hidp (not_no s o m (by omega))
  go_enter Try.func38, Try.ntmps38
  go_wp2
  go_ret2
  exact ⟨by rw [T.out.1, T.out.2]; rfl, (Below.refl _ _).alloc (Nat.le_refl _) _⟩
 ·by_cases hm2 : 96 < m
  ·have T := hidp (not_no s o m (by omega))
   go_enter Try.func38, Try.ntmps38
   go_wp2
   go_ret2
   exact ⟨by rw [T.out.1, T.out.2]; rfl, (Below.refl _ _).alloc (Nat.le_refl _) _⟩
  ·obtain ⟨k, rfl⟩ : ∃ k : Nat, m = k := ⟨m.toNat, by omega⟩
   have T := hidp (not_yes s o k (by omega))
   have hk : k <= 96 := by omega
   clear hm hm2
   cases o
   ·go_enter Try.func38, Try.ntmps38
    go_wp2_with (go_at_call 37; refine (RJoin_c s k hs (by omega) _).mono ?_; rintro e w' ⟨rfl, rfl⟩)
    go_ret2
    exact ⟨by rw [T.out.1, T.out.2]; rfl, (Below.refl _ _).alloc (Nat.le_refl _) _⟩
   ·have HB : Hid ((k : Int) + 2147483648 = ((2147483648 + k : Nat) : Int)) := hidp (by omega)
    go_enter Try.func38, Try.ntmps38
    go_wp2_with (go_at_call 37; rw [HB.out]; refine (RJoin_c s (2147483648 + k) hs (by omega) _).mono ?_; rintro e w' ⟨rfl, rfl⟩)
    go_ret2
    exact ⟨by rw [T.out.1, T.out.2]; rfl, (Below.refl _ _).alloc (Nat.le_refl _) _⟩

theorem get_low16 (x : Nat) : getI x 0 16 = x % 65536 := by
 unfold getI fieldB HM.getN
 simp
theorem get_mid16 (x : Nat) : getI x 16 16 = x / 65536 % 65536 := by
 unfold getI fieldB HM.getN
 simp

theorem mkOfNote_yes_false (x : Nat) (hx : x < 2 ^ 64) (h : x % 2147483648 <= 96) (ho : x % 4294967296 < 2147483648) (w : World) :
  Calls Try.prog 24 #[.int .u64 (x : Int)] w fun e w' => e = .returned (.tuple #[.agg #[.int .u32 ((x / 4294967296 : Nat) : Int), .bool false, .int .i64 ((x % 2147483648 : Nat) : Int)], .bool true]) /\ Below w.heap.size w w' := by
 have HC : Hid (getI x 0 16 = x % 2147483648) := hidp (by rw [get_low16]; omega)
 have HF : Hid (getI x 16 16 = 0) := hidp (by rw [get_mid16]; omega)
 clear ho
 generalize hl : x / 4294967296 = l at *
 have HL := hidp hl
 clear hl
 generalize x % 2147483648 = c at *
 go_enter Try.func24, Try.ntmps24
 go_wp2_with fail
 refine (Get_c x 0 16 hx (by omega) (by omega) (by omega) (by omega) _).mono ?_
 rintro e w1 ⟨rfl, n1, rfl⟩
 rw [HC.out]
 go_wp2_with fail
 refine (Get_c x 16 16 hx (by omega) (by omega) (by omega) (by omega) _).mono ?_
 rintro e w1 ⟨rfl, n2, rfl⟩
 rw [HF.out]
 go_wp2_with (go_at_call 55; refine (Hi_c x hx _).mono ?_; rintro e w' ⟨rfl, rfl⟩; rw [HL.out])
 refine bodyPost_ret (v := .tuple #[.agg #[.int .u32 (l : Int), .bool false, .int .i64 (c : Int)], .bool true]) (by simp [results, Try.results24, go_sem]) rfl ⟨rfl, ?_⟩
 (repeat (first | exact Below.refl _ _ | (with_reducible refine Below.setCell ?_ (by simp) _) | (with_reducible refine below_draws ?_ _) | (with_reducible refine Below.alloc ?_ (by simp) _)))

theorem mkOfNote_yes_true (x : Nat) (hx : x < 2 ^ 64) (h : x % 2147483648 <= 96) (ho : 2147483648 <= x % 4294967296) (w : World) :
  Calls Try.prog 24 #[.int .u64 (x : Int)] w fun e w' => e = .returned (.tuple #[.agg #[.int .u32 ((x / 4294967296 : Nat) : Int), .bool true, .int .i64 ((x % 2147483648 : Nat) : Int)], .bool true]) /\ Below w.heap.size w w' := by
 have HC : Hid (getI x 0 16 = x % 2147483648) := hidp (by rw [get_low16]; omega)
 have HF : Hid (getI x 16 16 = 32768) := hidp (by rw [get_mid16]; omega)
 clear ho
 generalize hl : x / 4294967296 = l at *
 have HL := hidp hl
 clear hl
 generalize x % 2147483648 = c at *
 go_enter Try.func24, Try.ntmps24
 go_wp2_with fail
 refine (Get_c x 0 16 hx (by omega) (by omega) (by omega) (by omega) _).mono ?_
 rintro e w1 ⟨rfl, n1, rfl⟩
 rw [HC.out]
 go_wp2_with fail
 refine (Get_c x 16 16 hx (by omega) (by omega) (by omega) (by omega) _).mono ?_
 rintro e w1 ⟨rfl, n2, rfl⟩
 rw [HF.out]
 go_wp2_with (go_at_call 55; refine (Hi_c x hx _).mono ?_; rintro e w' ⟨rfl, rfl⟩; rw [HL.out])
 refine bodyPost_ret (v := .tuple #[.agg #[.int .u32 (l : Int), .bool true, .int .i64 (c : Int)], .bool true]) (by simp [results, Try.results24, go_sem]) rfl ⟨rfl, ?_⟩
 (repeat (first | exact Below.refl _ _ | (with_reducible refine Below.setCell ?_ (by simp) _) | (with_reducible refine below_draws ?_ _) | (with_reducible refine Below.alloc ?_ (by simp) _)))

theorem mkOfNote_big (x : Nat) (hx : x < 2 ^ 64) (h : 96 < x % 65536) (w : World) :
  Calls Try.prog 24 #[.int .u64 (x : Int)] w fun e w' => e = .returned (.tuple #[.agg #[.int .u32 0, .bool false, .int .i64 0], .bool false]) /\ Below w.heap.size w w' := by
 have HC : Hid (getI x 0 16 = x % 65536) := hidp (by rw [get_low16])
 have HF : Hid (getI x 16 16 = x / 65536 % 65536) := hidp (by rw [get_mid16])
 generalize x % 65536 = c at *
 generalize x / 65536 % 65536 = g at *
 go_enter Try.func24, Try.ntmps24
 go_wp2_with fail
 refine (Get_c x 0 16 hx (by omega) (by omega) (by omega) (by omega) _).mono ?_
 rintro e w1 ⟨rfl, n1, rfl⟩
 rw [HC.out]
 go_wp2_with fail
 refine (Get_c x 16 16 hx (by omega) (by omega) (by omega) (by omega) _).mono ?_
 rintro e w1 ⟨rfl, n2, rfl⟩
 rw [HF.out]
 go_wp2
 refine bodyPost_ret (v := .tuple #[.agg #[.int .u32 0, .bool false, .int .i64 0], .bool false]) (by simp [results, Try.results24, go_sem]) rfl ⟨rfl, ?_⟩
 (repeat (first | exact Below.refl _ _ | (with_reducible refine Below.setCell ?_ (by simp) _) | (with_reducible refine below_draws ?_ _) | (with_reducible refine Below.alloc ?_ (by simp) _)))

theorem mkOfNote_flag (x : Nat) (hx : x < 2 ^ 64) (h : x % 65536 <= 96) (hf : x / 65536 % 65536 ≠ 0 /\ x / 65536 % 65536 ≠ 32768) (w : World) :
  Calls Try.prog 24 #[.int .u64 (x : Int)] w fun e w' => e = .returned (.tuple #[.agg #[.int .u32 0, .bool false, .int .i64 0], .bool false]) /\ Below w.heap.size w w' := by
 have HC : Hid (getI x 0 16 = x % 65536) := hidp (by rw [get_low16])
 have HF : Hid (getI x 16 16 = x / 65536 % 65536) := hidp (by rw [get_mid16])
 generalize x % 65536 = c at *
 generalize x / 65536 % 65536 = g at *
 have t0 : ((g : Int) != 0) = true := by simp; omega
 have t1 : ((g : Int) != 32768) = true := by simp; omega
 have t2 : ((g : Int) == 0) = false := by simp; omega
 have t3 : ((g : Int) == 32768) = false := by simp; omega
 clear hf
 go_enter Try.func24, Try.ntmps24
 go_wp2_with fail
 refine (Get_c x 0 16 hx (by omega) (by omega) (by omega) (by omega) _).mono ?_
 rintro e w1 ⟨rfl, n1, rfl⟩
 rw [HC.out]
 go_wp2_with fail
 refine (Get_c x 16 16 hx (by omega) (by omega) (by omega) (by omega) _).mono ?_
 rintro e w1 ⟨rfl, n2, rfl⟩
 rw [HF.out]
 go_wp2
 refine bodyPost_ret (v := .tuple #[.agg #[.int .u32 0, .bool false, .int .i64 0], .bool false]) (by simp [results, Try.results24, go_sem]) rfl ⟨rfl, ?_⟩
 (repeat (first | exact Below.refl _ _ | (with_reducible refine Below.setCell ?_ (by simp) _) | (with_reducible refine below_draws ?_ _) | (with_reducible refine Below.alloc ?_ (by simp) _)))

theorem r3OfNote_yes_false (x : Nat) (hx : x < 2 ^ 64) (h : x % 2147483648 <= 96) (ho : x % 4294967296 < 2147483648) (w : World) :
  Calls Try.prog 30 #[.int .u64 (x : Int)] w fun e w' => e = .returned (.tuple #[.agg #[.int .u32 ((x / 4294967296 : Nat) : Int), .bool false, .int .i64 ((x % 2147483648 : Nat) : Int)], .bool true]) /\ Below w.heap.size w w' := by
 generalize hq : x % 4294967296 = q at *
 have HC := hidp hq
 have hqb : q < 4294967296 := by omega
 have HE : Hid (q = x % 2147483648) := hidp (by omega)
 have hm : q <= 96 := by omega
 have hd : decide ((2147483648 : Int) <= q) = false := by simp; omega
 clear hq ho
 generalize hl : x / 4294967296 = l at *
 have HL := hidp hl
 clear hl
 generalize x % 2147483648 = c at *
 go_enter Try.func30, Try.ntmps30
 go_wp2_with (first | (go_at_call 19; refine (RLo_c x hx _).mono ?_; rintro e w' ⟨rfl, rfl⟩; rw [HC.out]) | (go_at_call 60; refine (RHi_c x hx _).mono ?_; rintro e w' ⟨rfl, rfl⟩; rw [HL.out]))
 refine bodyPost_ret (v := .tuple #[.agg #[.int .u32 (l : Int), .bool false, .int .i64 ((q : Int))], .bool true]) (by simp [results, Try.results30, go_sem]) rfl ⟨by rw [HE.out], ?_⟩
 (repeat (first | exact Below.refl _ _ | (with_reducible refine Below.setCell ?_ (by simp) _) | (with_reducible refine below_draws ?_ _) | (with_reducible refine Below.alloc ?_ (by simp) _)))

theorem r3OfNote_yes_true (x : Nat) (hx : x < 2 ^ 64) (h : x % 2147483648 <= 96) (ho : 2147483648 <= x % 4294967296) (w : World) :
  Calls Try.prog 30 #[.int .u64 (x : Int)] w fun e w' => e = .returned (.tuple #[.agg #[.int .u32 ((x / 4294967296 : Nat) : Int), .bool true, .int .i64 ((x % 2147483648 : Nat) : Int)], .bool true]) /\ Below w.heap.size w w' := by
 generalize hq : x % 4294967296 = q at *
 have HC := hidp hq
 have hqb : q < 4294967296 := by omega
 have HE : Hid ((q : Int) - 2147483648 = (x % 2147483648 : Nat)) := hidp (by omega)
 have hm : ((q : Int) - 2147483648) % 4294967296 <= 96 := by omega
 have hd : decide ((2147483648 : Int) <= q) = true := by simp; omega
 clear hq ho
 generalize hl : x / 4294967296 = l at *
 have HL := hidp hl
 clear hl
 generalize x % 2147483648 = c at *
 go_enter Try.func30, Try.ntmps30
 go_wp2_with (first | (go_at_call 19; refine (RLo_c x hx _).mono ?_; rintro e w' ⟨rfl, rfl⟩; rw [HC.out]) | (go_at_call 60; refine (RHi_c x hx _).mono ?_; rintro e w' ⟨rfl, rfl⟩; rw [HL.out]))
 refine bodyPost_ret (v := .tuple #[.agg #[.int .u32 (l : Int), .bool true, .int .i64 ((q : Int) - 2147483648)], .bool true]) (by simp [results, Try.results30, go_sem]) rfl ⟨by rw [HE.out], ?_⟩
 (repeat (first | exact Below.refl _ _ | (with_reducible refine Below.setCell ?_ (by simp) _) | (with_reducible refine below_draws ?_ _) | (with_reducible refine Below.alloc ?_ (by simp) _)))

theorem r3OfNote_big (x : Nat) (hx : x < 2 ^ 64) (h : 96 < x % 4294967296) (ho : x % 4294967296 < 2147483648) (w : World) :
  Calls Try.prog 30 #[.int .u64 (x : Int)] w fun e w' => e = .returned (.tuple #[.agg #[.int .u32 0, .bool false, .int .i64 0], .bool false]) /\ Below w.heap.size w w' := by
 have hb : x % 4294967296 < 4294967296 := by omega
 generalize hq : x % 4294967296 = q at *
 have HC := hidp hq
 have hd : decide ((2147483648 : Int) <= q) = false := by simp; omega
 clear hq
 generalize hl : x / 4294967296 = l at *
 have HL := hidp hl
 clear hl
 go_enter Try.func30, Try.ntmps30
 go_wp2_with (first | (go_at_call 19; refine (RLo_c x hx _).mono ?_; rintro e w' ⟨rfl, rfl⟩; rw [HC.out]) | (go_at_call 60; refine (RHi_c x hx _).mono ?_; rintro e w' ⟨rfl, rfl⟩; rw [HL.out]))
 refine bodyPost_ret (v := .tuple #[.agg #[.int .u32 0, .bool false, .int .i64 0], .bool false]) (by simp [results, Try.results30, go_sem]) rfl ⟨rfl, ?_⟩
 (repeat (first | exact Below.refl _ _ | (with_reducible refine Below.setCell ?_ (by simp) _) | (with_reducible refine below_draws ?_ _) | (with_reducible refine Below.alloc ?_ (by simp) _)))

theorem r3OfNote_flag (x : Nat) (hx : x < 2 ^ 64) (h : 2147483744 < x % 4294967296) (w : World) :
  Calls Try.prog 30 #[.int .u64 (x : Int)] w fun e w' => e = .returned (.tuple #[.agg #[.int .u32 0, .bool false, .int .i64 0], .bool false]) /\ Below w.heap.size w w' := by
 have hb : x % 4294967296 < 4294967296 := by omega
 generalize hq : x % 4294967296 = q at *
 have HC := hidp hq
 have hd : decide ((2147483648 : Int) <= q) = true := by simp; omega
 clear hq
 generalize hl : x / 4294967296 = l at *
 have HL := hidp hl
 clear hl
 go_enter Try.func30, Try.ntmps30
 go_wp2_with (first | (go_at_call 19; refine (RLo_c x hx _).mono ?_; rintro e w' ⟨rfl, rfl⟩; rw [HC.out]) | (go_at_call 60; refine (RHi_c x hx _).mono ?_; rintro e w' ⟨rfl, rfl⟩; rw [HL.out]))
 refine bodyPost_ret (v := .tuple #[.agg #[.int .u32 0, .bool false, .int .i64 0], .bool false]) (by simp [results, Try.results30, go_sem]) rfl ⟨rfl, ?_⟩
 (repeat (first | exact Below.refl _ _ | (with_reducible refine Below.setCell ?_ (by simp) _) | (with_reducible refine below_draws ?_ _) | (with_reducible refine Below.alloc ?_ (by simp) _)))

theorem mkOfNote_c (x s c : Nat) (o b : Bool) (hx : x < 2 ^ 64) (h : noteOf x = (s, o, c, b)) (w : World) :
  Calls Try.prog 24 #[.int .u64 (x : Int)] w fun e w' => e = .returned (.tuple #[.agg #[.int .u32 (s : Int), .bool o, .int .i64 (c : Int)], .bool b]) /\ Below w.heap.size w w' := by
 unfold noteOf at h
 by_cases h1 : x % 2147483648 <= 96
 ·rw [if_pos h1] at h
  simp only [Prod.mk.injEq] at h
  obtain ⟨rfl, rfl, rfl, rfl⟩ := h
  by_cases h2 : 2147483648 <= x % 4294967296
  ·rw [decide_eq_true h2]; exact mkOfNote_yes_true x hx h1 h2 w
  ·rw [decide_eq_false h2]; exact mkOfNote_yes_false x hx h1 (by omega) w
 ·rw [if_neg h1] at h
  simp only [Prod.mk.injEq] at h
  obtain ⟨rfl, rfl, rfl, rfl⟩ := h
  by_cases h2 : 96 < x % 65536
  ·exact mkOfNote_big x hx h2 w
  ·exact mkOfNote_flag x hx (by omega) (by omega) w

theorem r3OfNote_c (x s c : Nat) (o b : Bool) (hx : x < 2 ^ 64) (h : noteOf x = (s, o, c, b)) (w : World) :
  Calls Try.prog 30 #[.int .u64 (x : Int)] w fun e w' => e = .returned (.tuple #[.agg #[.int .u32 (s : Int), .bool o, .int .i64 (c : Int)], .bool b]) /\ Below w.heap.size w w' := by
 unfold noteOf at h
 by_cases h1 : x % 2147483648 <= 96
 ·rw [if_pos h1] at h
  simp only [Prod.mk.injEq] at h
  obtain ⟨rfl, rfl, rfl, rfl⟩ := h
  by_cases h2 : 2147483648 <= x % 4294967296
  ·rw [decide_eq_true h2]; exact r3OfNote_yes_true x hx h1 h2 w
  ·rw [decide_eq_false h2]; exact r3OfNote_yes_false x hx h1 (by omega) w
 ·rw [if_neg h1] at h
  simp only [Prod.mk.injEq] at h
  obtain ⟨rfl, rfl, rfl, rfl⟩ := h
  by_cases h2 : x % 4294967296 < 2147483648
  ·exact r3OfNote_big x hx (by omega) h2 w
  ·exact r3OfNote_flag x hx (by omega)  w
end
section
theorem open_of {x s c t : Nat} {o b : Bool} (h : noteOf x = (s, o, c, b)) : openB x t = (b && o && s == t) /\ openN x t = if (b && o && s == t) = true then c else 0 := by
 have e : openB x t = (b && o && s == t) := by unfold openB; rw [h]
 exact ⟨e, by unfold openN; rw [e, h]⟩

theorem mkOpen_c (x t : Nat) (hx : x < 2 ^ 64) (ht : t < 2 ^ 32) (w : World) :
  Calls Try.prog 42 #[.int .u64 (x : Int), .int .u32 (t : Int)] w fun e w' => e = .returned (.tuple #[.int .i64 ((openN x t : Nat) : Int), .bool (openB x t)]) /\ Below w.heap.size w w' := by
 obtain ⟨s, o, c, b, hn⟩ : ∃ s o c b, noteOf x = (s, o, c, b) := ⟨_, _, _, _, rfl⟩
 have HO := hidp (open_of (t := t) hn)
 have HN := hidp hn
 clear hn
 cases b
 ·go_enter Try.func42, Try.ntmps42
  go_wp2_with (go_at_call 24; refine (mkOfNote_c x s c o false hx HN.out _).mono ?_; rintro e w' ⟨rfl, hb⟩)
  go_ret2
  exact ⟨by rw [HO.out.1, HO.out.2]; rfl, hb.trans ((Below.refl _ _).alloc hb.size _)⟩
 ·cases o
  ·go_enter Try.func42, Try.ntmps42
   go_wp2_with (go_at_call 24; refine (mkOfNote_c x s c false true hx HN.out _).mono ?_; rintro e w' ⟨rfl, hb⟩)
   go_ret2
   exact ⟨by rw [HO.out.1, HO.out.2]; rfl, hb.trans ((Below.refl _ _).alloc hb.size _)⟩
  ·by_cases hst : s = t
   ·subst hst
    have t2 : (s == s) = true := by simp
    rw [t2] at HO
    clear t2
    go_enter Try.func42, Try.ntmps42
    go_wp2_with (go_at_call 24; refine (mkOfNote_c x s c true true hx HN.out _).mono ?_; rintro e w' ⟨rfl, hb⟩)
    go_ret2
    exact ⟨by rw [HO.out.1, HO.out.2]; rfl, hb.trans ((Below.refl _ _).alloc hb.size _)⟩
   ·have t0 : ((s : Int) != t) = true := by simp; omega
    have t1 : ((s : Int) == t) = false := by simp; omega
    have t2 : (s == t) = false := by simp; omega
    rw [t2] at HO
    clear hst
    go_enter Try.func42, Try.ntmps42
    go_wp2_with (go_at_call 24; refine (mkOfNote_c x s c true true hx HN.out _).mono ?_; rintro e w' ⟨rfl, hb⟩)
    go_ret2
    exact ⟨by rw [HO.out.1, HO.out.2]; rfl, hb.trans ((Below.refl _ _).alloc hb.size _)⟩
end
section
def outB (v l m : Int) : Bool := decide (v < l \/ m < v)
theorem outB_lt {v l m : Int} (h : v < l) : outB v l m = true := by unfold outB; simp [h]
theorem outB_gt {v l m : Int} (h : m < v) : outB v l m = true := by unfold outB; simp [h]
theorem outB_no {v l m : Int} (h : l <= v) (h' : v <= m) : outB v l m = false := by unfold outB; exact decide_eq_false (by omega)
def rightB (t p s : Int) : Bool := !(outB t 1 16) && (!(outB p 4 1024) && !(outB s 10 20))
theorem rightB_iff (t p s : Int) : rightB t p s = true ↔ (1 <= t /\ t <= 16) /\ (4 <= p /\ p <= 1024) /\ 10 <= s /\ s <= 20 := by
 unfold rightB outB
 simp only [Bool.and_eq_true, Bool.not_eq_true', decide_eq_false_iff_not]
 omega

theorem cfWrong_c (a v l m : Int) (w : World) :
  Calls Try.prog 87 #[.agg #[.int .i64 a, .int .i64 v, .int .i64 l, .int .i64 m]] w fun e w' => e = .returned (.bool (outB v l m)) /\ Below w.heap.size w w' := by
 by_cases h0 : v < l
 ·have H := hidp (outB_lt (m := m) h0)
  go_enter Try.func87, Try.ntmps87
  go_wp2
  go_ret
  exact ⟨by rw [H.out]; rfl, Bnew (B0 _) _⟩
 ·by_cases h1 : m < v
  ·have H := hidp (outB_gt (l := l) h1)
   go_enter Try.func87, Try.ntmps87
   go_wp2
   go_ret
   exact ⟨by rw [H.out]; rfl, Bnew (B0 _) _⟩
  ·have H := hidp (outB_no (v := v) (l := l) (m := m) (by omega) (by omega))
   go_enter Try.func87, Try.ntmps87
   go_wp2
   go_ret
   exact ⟨by rw [H.out]; rfl, Bnew (B0 _) _⟩

def numV (t p s : Int) : Array Value := #[.int .i64 0, .int .i64 t, .int .i64 1, .int .i64 16, .int .i64 16, .int .i64 p, .int .i64 4, .int .i64 1024, .int .i64 32, .int .i64 s, .int .i64 10, .int .i64 20]
theorem cfNumbers_c (t p s : Int) (w : World) :
  Calls Try.prog 86 #[.agg #[.int .i64 t, .int .i64 p, .int .i64 s]] w fun e w' => e = .returned (.agg #[.int .i64 0, .int .i64 t, .int .i64 1, .int .i64 16, .int .i64 16, .int .i64 p, .int .i64 4, .int .i64 1024, .int .i64 32, .int .i64 s, .int .i64 10, .int .i64 20]) /\ Below w.heap.size w w' := by
 go_enter Try.func86, Try.ntmps86
 go_wp2
 exact bodyPost_ret (v := .agg #[.int .i64 0, .int .i64 t, .int .i64 1, .int .i64 16, .int .i64 16, .int .i64 p, .int .i64 4, .int .i64 1024, .int .i64 32, .int .i64 s, .int .i64 10, .int .i64 20]) (by simp [results, Try.results86, go_sem]) rfl ⟨rfl, Bnew (Bnew (B0 _) _) _⟩

theorem num_cells {t p s : Int} {g : Nat} {T : TypeId} {w : World} (h : Held w g T (numV t p s)) : w.cell? ⟨g, 0, none⟩ = some (.int .i64 0) /\ w.cell? ⟨g, 1, none⟩ = some (.int .i64 t) /\ w.cell? ⟨g, 2, none⟩ = some (.int .i64 1) /\ w.cell? ⟨g, 3, none⟩ = some (.int .i64 16) /\ w.cell? ⟨g, 4, none⟩ = some (.int .i64 16) /\ w.cell? ⟨g, 5, none⟩ = some (.int .i64 p) /\ w.cell? ⟨g, 6, none⟩ = some (.int .i64 4) /\ w.cell? ⟨g, 7, none⟩ = some (.int .i64 1024) /\ w.cell? ⟨g, 8, none⟩ = some (.int .i64 32) /\ w.cell? ⟨g, 9, none⟩ = some (.int .i64 s) /\ w.cell? ⟨g, 10, none⟩ = some (.int .i64 10) /\ w.cell? ⟨g, 11, none⟩ = some (.int .i64 20) :=
 ⟨h.cell 0, h.cell 1, h.cell 2, h.cell 3, h.cell 4, h.cell 5, h.cell 6, h.cell 7, h.cell 8, h.cell 9, h.cell 10, h.cell 11⟩
def idxI (t p s : Int) : Int := if outB t 1 16 then 0 else if outB p 4 1024 then 1 else if outB s 10 20 then 2 else -1
set_option maxHeartbeats 1600000 in
theorem cfIndex_c (t p s : Int) (g : Nat) (w : World) (hc : Held w g 107 (numV t p s)) :
  Calls Try.prog 89 #[.slice (some ⟨g, 0, none⟩) 3 3, .func (.func 87) #[] #[]] w fun e w' => e = .returned (.int .i64 (idxI t p s)) /\ Below w.heap.size w w' := by
 obtain ⟨c0, c1, c2, c3, c4, c5, c6, c7, c8, c9, c10, c11⟩ := num_cells hc
 cases h0 : outB t 1 16
 ·cases h1 : outB p 4 1024
  ·cases h2 : outB s 10 20
   ·have HX0 := hidp h0
    have HX1 := hidp h1
    have HX2 := hidp h2
    have HI : Hid (idxI t p s = -1) := hidp (by unfold idxI; simp [h0, h1, h2])
    clear h0 h1 h2
    go_enter Try.func89, Try.ntmps89
    go_wp2
    refine wp_loop_rounds 4 ?_
    rw [rounds_succ]
    go_wp2_with fail
    refine (cfWrong_c 0 t 1 16 _).mono ?_
    rintro e w1 ⟨rfl, hb0⟩
    rw [HX0.out]
    have hc1 := hc.keep hb0
    clear c0 c1 c2 c3 c4 c5 c6 c7 c8 c9 c10 c11
    obtain ⟨d0, d1, d2, d3, d4, d5, d6, d7, d8, d9, d10, d11⟩ := num_cells hc1
    go_wp2_with fail
    rw [rounds_succ]
    go_wp2_with fail
    refine (cfWrong_c 16 p 4 1024 _).mono ?_
    rintro e w2 ⟨rfl, hb1⟩
    rw [HX1.out]
    have hc2 := hc1.keep hb1
    clear d0 d1 d2 d3 d4 d5 d6 d7 d8 d9 d10 d11
    obtain ⟨d0, d1, d2, d3, d4, d5, d6, d7, d8, d9, d10, d11⟩ := num_cells hc2
    go_wp2_with fail
    rw [rounds_succ]
    go_wp2_with fail
    refine (cfWrong_c 32 s 10 20 _).mono ?_
    rintro e w3 ⟨rfl, hb2⟩
    rw [HX2.out]
    have hc3 := hc2.keep hb2
    clear d0 d1 d2 d3 d4 d5 d6 d7 d8 d9 d10 d11
    obtain ⟨d0, d1, d2, d3, d4, d5, d6, d7, d8, d9, d10, d11⟩ := num_cells hc3
    go_wp2_with fail
    rw [rounds_succ]
    go_wp2
    go_ret
    exact ⟨by rw [HI.out]; rfl, Bgo (Bgo (Bgo (B0 _) hb0) hb1) hb2⟩
   ·have HX0 := hidp h0
    have HX1 := hidp h1
    have HX2 := hidp h2
    have HI : Hid (idxI t p s = 2) := hidp (by unfold idxI; simp [h0, h1, h2])
    clear h0 h1 h2
    go_enter Try.func89, Try.ntmps89
    go_wp2
    refine wp_loop_rounds 3 ?_
    rw [rounds_succ]
    go_wp2_with fail
    refine (cfWrong_c 0 t 1 16 _).mono ?_
    rintro e w1 ⟨rfl, hb0⟩
    rw [HX0.out]
    have hc1 := hc.keep hb0
    clear c0 c1 c2 c3 c4 c5 c6 c7 c8 c9 c10 c11
    obtain ⟨d0, d1, d2, d3, d4, d5, d6, d7, d8, d9, d10, d11⟩ := num_cells hc1
    go_wp2_with fail
    rw [rounds_succ]
    go_wp2_with fail
    refine (cfWrong_c 16 p 4 1024 _).mono ?_
    rintro e w2 ⟨rfl, hb1⟩
    rw [HX1.out]
    have hc2 := hc1.keep hb1
    clear d0 d1 d2 d3 d4 d5 d6 d7 d8 d9 d10 d11
    obtain ⟨d0, d1, d2, d3, d4, d5, d6, d7, d8, d9, d10, d11⟩ := num_cells hc2
    go_wp2_with fail
    rw [rounds_succ]
    go_wp2_with fail
    refine (cfWrong_c 32 s 10 20 _).mono ?_
    rintro e w3 ⟨rfl, hb2⟩
    rw [HX2.out]
    have hc3 := hc2.keep hb2
    clear d0 d1 d2 d3 d4 d5 d6 d7 d8 d9 d10 d11
    obtain ⟨d0, d1, d2, d3, d4, d5, d6, d7, d8, d9, d10, d11⟩ := num_cells hc3
    go_wp2
    go_ret
    exact ⟨by rw [HI.out]; rfl, Bgo (Bgo (Bgo (B0 _) hb0) hb1) hb2⟩
  ·have HX0 := hidp h0
   have HX1 := hidp h1
   have HI : Hid (idxI t p s = 1) := hidp (by unfold idxI; simp [h0, h1])
   clear h0 h1
   go_enter Try.func89, Try.ntmps89
   go_wp2
   refine wp_loop_rounds 2 ?_
   rw [rounds_succ]
   go_wp2_with fail
   refine (cfWrong_c 0 t 1 16 _).mono ?_
   rintro e w1 ⟨rfl, hb0⟩
   rw [HX0.out]
   have hc1 := hc.keep hb0
   clear c0 c1 c2 c3 c4 c5 c6 c7 c8 c9 c10 c11
   obtain ⟨d0, d1, d2, d3, d4, d5, d6, d7, d8, d9, d10, d11⟩ := num_cells hc1
   go_wp2_with fail
   rw [rounds_succ]
   go_wp2_with fail
   refine (cfWrong_c 16 p 4 1024 _).mono ?_
   rintro e w2 ⟨rfl, hb1⟩
   rw [HX1.out]
   have hc2 := hc1.keep hb1
   clear d0 d1 d2 d3 d4 d5 d6 d7 d8 d9 d10 d11
   obtain ⟨d0, d1, d2, d3, d4, d5, d6, d7, d8, d9, d10, d11⟩ := num_cells hc2
   go_wp2
   go_ret
   exact ⟨by rw [HI.out]; rfl, Bgo (Bgo (B0 _) hb0) hb1⟩
 ·have HX0 := hidp h0
  have HI : Hid (idxI t p s = 0) := hidp (by unfold idxI; simp [h0])
  clear h0
  go_enter Try.func89, Try.ntmps89
  go_wp2
  refine wp_loop_rounds 1 ?_
  rw [rounds_succ]
  go_wp2_with fail
  refine (cfWrong_c 0 t 1 16 _).mono ?_
  rintro e w1 ⟨rfl, hb0⟩
  rw [HX0.out]
  have hc1 := hc.keep hb0
  clear c0 c1 c2 c3 c4 c5 c6 c7 c8 c9 c10 c11
  obtain ⟨d0, d1, d2, d3, d4, d5, d6, d7, d8, d9, d10, d11⟩ := num_cells hc1
  go_wp2
  go_ret
  exact ⟨by rw [HI.out]; rfl, Bgo (B0 _) hb0⟩

theorem idx_right {t p s : Int} (h : rightB t p s = true) : idxI t p s = -1 := by
 unfold rightB at h
 unfold idxI
 cases h0 : outB t 1 16 <;> cases h1 : outB p 4 1024 <;> cases h2 : outB s 10 20 <;> simp_all
theorem idx_wrong {t p s : Int} (h : rightB t p s = false) : ∃ k : Int, idxI t p s = k /\ 0 <= k /\ k <= 2 := by
 unfold rightB at h
 unfold idxI
 cases h0 : outB t 1 16 <;> cases h1 : outB p 4 1024 <;> cases h2 : outB s 10 20 <;> simp_all

theorem cfContains_c (t p s : Int) (g : Nat) (w : World) (hc : Held w g 107 (numV t p s)) :
  Calls Try.prog 88 #[.slice (some ⟨g, 0, none⟩) 3 3, .func (.func 87) #[] #[]] w fun e w' => e = .returned (.bool (!rightB t p s)) /\ Below w.heap.size w w' := by
 cases hr : rightB t p s
 ·obtain ⟨k, hk, h0, h2⟩ := idx_wrong hr
  have HK := hidp hk
  clear hk
  go_enter Try.func88, Try.ntmps88
  go_wp2_with fail
  refine (cfIndex_c t p s g _ hc).mono ?_
  rintro e w1 ⟨rfl, hb⟩
  rw [HK.out]
  go_wp2
  go_ret
  exact ⟨by first | rfl | trivial, hb⟩
 ·have HK := hidp (idx_right hr)
  go_enter Try.func88, Try.ntmps88
  go_wp2_with fail
  refine (cfIndex_c t p s g _ hc).mono ?_
  rintro e w1 ⟨rfl, hb⟩
  rw [HK.out]
  go_wp2
  go_ret
  exact ⟨by first | rfl | trivial, hb⟩

def checkI (t p s : Int) : Int := if rightB t p s then 0 else 1
theorem check_yes {t p s : Int} (h : rightB t p s = true) : checkI t p s = 0 := by unfold checkI; rw [h]; rfl
theorem check_no {t p s : Int} (h : rightB t p s = false) : checkI t p s = 1 := by unfold checkI; rw [h]; rfl
theorem cfCheck_c (t p s : Int) (w : World) :
  Calls Try.prog 82 #[.agg #[.int .i64 t, .int .i64 p, .int .i64 s]] w fun e w' => e = .returned (.int .i64 (checkI t p s)) /\ Below w.heap.size w w' := by
 cases hr : rightB t p s
 ·have HK := hidp (check_no hr)
  have HR := hidp hr
  clear hr
  go_enter Try.func82, Try.ntmps82
  go_wp2_with fail
  refine (cfNumbers_c t p s _).mono ?_
  rintro e w1 ⟨rfl, hb1⟩
  go_wp2_with fail
  refine (cfContains_c t p s _ _ (Held.new w1 _ _)).mono ?_
  rintro e w2 ⟨rfl, hb2⟩
  rw [HR.out]
  go_wp2
  go_ret
  exact ⟨by rw [HK.out]; rfl, Bgo (Bnew (Bgo (Bnew (B0 _) _) hb1) _) hb2⟩
 ·have HK := hidp (check_yes hr)
  have HR := hidp hr
  clear hr
  go_enter Try.func82, Try.ntmps82
  go_wp2_with fail
  refine (cfNumbers_c t p s _).mono ?_
  rintro e w1 ⟨rfl, hb1⟩
  go_wp2_with fail
  refine (cfContains_c t p s _ _ (Held.new w1 _ _)).mono ?_
  rintro e w2 ⟨rfl, hb2⟩
  rw [HR.out]
  go_wp2
  go_ret
  exact ⟨by rw [HK.out]; rfl, Bgo (Bnew (Bgo (Bnew (B0 _) _) hb1) _) hb2⟩
end
section
theorem rightB_mk {t p s : Int} (h : (1 <= t /\ t <= 16) /\ (4 <= p /\ p <= 1024) /\ 10 <= s /\ s <= 20) : rightB t p s = true := (rightB_iff t p s).2 h
theorem rightB_not {t p s : Int} (h : ¬ ((1 <= t /\ t <= 16) /\ (4 <= p /\ p <= 1024) /\ 10 <= s /\ s <= 20)) : rightB t p s = false := by
 cases hr : rightB t p s
 ·rfl
 ·exact absurd ((rightB_iff t p s).1 hr) h

theorem r4Right_c (t p s : Int) (w : World) :
  Calls Try.prog 44 #[.agg #[.int .i64 t, .int .i64 p, .int .i64 s]] w fun e w' => e = .returned (.bool (rightB t p s)) /\ Below w.heap.size w w' := by
 by_cases a1 : 1 <= t
 ·by_cases a2 : t <= 16
  ·by_cases a3 : 4 <= p
   ·by_cases a4 : p <= 1024
    ·by_cases a5 : 10 <= s
     ·by_cases a6 : s <= 20
      ·have H := hidp (rightB_mk (t := t) (p := p) (s := s) (by omega))
       go_enter Try.func44, Try.ntmps44
       go_wp2
       go_ret
       exact ⟨by rw [H.out]; rfl, Bnew (B0 _) _⟩
      ·have H := hidp (rightB_not (t := t) (p := p) (s := s) (by omega))
       go_enter Try.func44, Try.ntmps44
       go_wp2
       go_ret
       exact ⟨by rw [H.out]; rfl, Bnew (B0 _) _⟩
     ·have H := hidp (rightB_not (t := t) (p := p) (s := s) (by omega))
      go_enter Try.func44, Try.ntmps44
      go_wp2
      go_ret
      exact ⟨by rw [H.out]; rfl, Bnew (B0 _) _⟩
    ·have H := hidp (rightB_not (t := t) (p := p) (s := s) (by omega))
     go_enter Try.func44, Try.ntmps44
     go_wp2
     go_ret
     exact ⟨by rw [H.out]; rfl, Bnew (B0 _) _⟩
   ·have H := hidp (rightB_not (t := t) (p := p) (s := s) (by omega))
    go_enter Try.func44, Try.ntmps44
    go_wp2
    go_ret
    exact ⟨by rw [H.out]; rfl, Bnew (B0 _) _⟩
  ·have H := hidp (rightB_not (t := t) (p := p) (s := s) (by omega))
   go_enter Try.func44, Try.ntmps44
   go_wp2
   go_ret
   exact ⟨by rw [H.out]; rfl, Bnew (B0 _) _⟩
 ·have H := hidp (rightB_not (t := t) (p := p) (s := s) (by omega))
  go_enter Try.func44, Try.ntmps44
  go_wp2
  go_ret
  exact ⟨by rw [H.out]; rfl, Bnew (B0 _) _⟩
end
end Go.Proofs.Ytmjkljdnioochaa

namespace Go.Proofs.Ytmjkljdnioochaa
set_option linter.unusedVariables false
section
def lT (t p s : Int) : Int := if rightB t p s then t else 0
def lP (t p s : Int) : Int := if rightB t p s then p else 0
def lS (t p s : Int) : Int := if rightB t p s then s else 0
def lA (t p s : Int) : Int := if rightB t p s then 30 + 4 * t else 0
def lC (t p s : Int) : Int := if rightB t p s then 30 + 4 * t + 6 * p else 0
def lM (t p s : Int) : Int := if rightB t p s then (16 + (30 + 4 * t + 6 * p) + 7) / 8 * 8 else 0
def lK (t p s : Int) : Int := if rightB t p s then t + 1 else 0
def lW (t p s : Int) : Int := lM t p s + lK t p s * 120

structure Laid7 (t p s T P S A C M K : Int) : Prop where
 hT : lT t p s = T
 hP : lP t p s = P
 hS : lS t p s = S
 hA : lA t p s = A
 hC : lC t p s = C
 hM : lM t p s = M
 hK : lK t p s = K
theorem lay_yes {t p s : Int} (h : rightB t p s = true) : Laid7 t p s t p s (30 + 4 * t) (30 + 4 * t + 6 * p) ((16 + (30 + 4 * t + 6 * p) + 7) / 8 * 8) (t + 1) := by
 constructor <;> simp [lT, lP, lS, lA, lC, lM, lK, h]
theorem lay_no {t p s : Int} (h : rightB t p s = false) : Laid7 t p s 0 0 0 0 0 0 0 := by
 constructor <;> simp [lT, lP, lS, lA, lC, lM, lK, h]
theorem lay_bounds (t p s : Int) : (0 <= lT t p s /\ lT t p s <= 16) /\ (0 <= lP t p s /\ lP t p s <= 1024) /\ (0 <= lA t p s /\ lA t p s <= 94) /\ (0 <= lC t p s /\ lC t p s <= 6238) /\ (0 <= lM t p s /\ lM t p s <= 6256) /\ (0 <= lK t p s /\ lK t p s <= 17) /\ lM t p s % 8 = 0 := by
 cases hr : rightB t p s
 ·obtain ⟨h1, h2, h3, h4, h5, h6, h7⟩ := lay_no hr
  omega
 ·obtain ⟨h1, h2, h3, h4, h5, h6, h7⟩ := lay_yes hr
  have := (rightB_iff t p s).1 hr
  omega
theorem words_bounds (t p s : Int) : 0 <= lW t p s /\ lW t p s <= 8296 /\ lW t p s % 8 = 0 := by
 have := lay_bounds t p s
 unfold lW
 omega

def nthI (f n e i : Int) : Int := if f = -1 \/ i < 0 \/ n <= i then -1 else f + i * e
theorem nth_off {f n e i : Int} (h : f = -1 \/ i < 0 \/ n <= i) : nthI f n e i = -1 := by unfold nthI; rw [if_pos h]
theorem nth_on {f n e i : Int} (h : ¬ f = -1) (h0 : 0 <= i) (h1 : i < n) : nthI f n e i = f + i * e := by unfold nthI; rw [if_neg (by omega)]
theorem nth_bounds {f n e i B : Int} (hf : -1 <= f) (hB : f <= B) (he : 0 <= e) (hn : 0 <= n) : -1 <= nthI f n e i /\ nthI f n e i <= B + n * e := by
 have h2 := Int.mul_nonneg hn he
 by_cases h : f = -1 \/ i < 0 \/ n <= i
 ·rw [nth_off h]; omega
 ·rw [nth_on (by omega) (by omega) (by omega)]
  have h1 := Int.mul_nonneg (show 0 <= i by omega) he
  have h3 := Int.mul_le_mul_of_nonneg_right (show i <= n by omega) he
  omega

def pageI (t p s q b : Int) : Int := nthI (nthI (lA t p s) (lP t p s) 6 q) 6 1 b
def makerI (t p s m b : Int) : Int := nthI (nthI (lM t p s) (lK t p s) 120 m) 120 1 b
def wordI (t p s i : Int) : Int := nthI 16 (lC t p s) 1 i
def noteI (t p s m : Int) : Int := makerI t p s m 16
def logI (t p s m i : Int) : Int := nthI (makerI t p s m 24) 96 1 i

theorem pcell_no {t p s q b : Int} (h : ¬ (rightB t p s = true /\ 0 <= q /\ q < p)) : pageI t p s q b = -1 := by
 have h1 : nthI (lA t p s) (lP t p s) 6 q = -1 := by
  apply nth_off
  cases hr : rightB t p s
  ·have := lay_no hr; have := this.hP; omega
  ·have := (lay_yes hr).hP; rw [hr] at h; simp at h; omega
 unfold pageI
 exact nth_off (.inl h1)
theorem pcell_yes {t p s q b : Int} (hr : rightB t p s = true) (h0 : 0 <= q) (h1 : q < p) (h2 : 0 <= b) (h3 : b < 6) : pageI t p s q b = 30 + 4 * t + 6 * q + b := by
 obtain ⟨e1, e2, e3, e4, e5, e6, e7⟩ := lay_yes hr
 have := (rightB_iff t p s).1 hr
 unfold pageI
 rw [nth_on (f := lA t p s) (by omega) h0 (by omega), nth_on (by omega) h2 h3, e4]
 omega
theorem maker_no {t p s m : Int} (h : ¬ (rightB t p s = true /\ 0 <= m /\ m <= t)) : nthI (lM t p s) (lK t p s) 120 m = -1 := by
 apply nth_off
 cases hr : rightB t p s
 ·have := lay_no hr; have := this.hK; omega
 ·have := (lay_yes hr).hK; rw [hr] at h; simp at h; omega
theorem maker_yes {t p s m : Int} (hr : rightB t p s = true) (h0 : 0 <= m) (h1 : m <= t) : nthI (lM t p s) (lK t p s) 120 m = lM t p s + m * 120 := by
 have := (lay_yes hr).hK
 have := (lay_bounds t p s)
 exact nth_on (by omega) h0 (by omega)
theorem makerI_no {t p s m b : Int} (h : ¬ (rightB t p s = true /\ 0 <= m /\ m <= t)) : makerI t p s m b = -1 := by unfold makerI; exact nth_off (.inl (maker_no h))
theorem makerI_yes {t p s m b : Int} (hr : rightB t p s = true) (h0 : 0 <= m) (h1 : m <= t) (h2 : 0 <= b) (h3 : b < 120) : makerI t p s m b = lM t p s + m * 120 + b := by
 have := (lay_bounds t p s)
 unfold makerI
 rw [maker_yes hr h0 h1, nth_on (by omega) h2 h3]
 omega
theorem log_no {t p s m i : Int} (h : ¬ (rightB t p s = true /\ 0 <= m /\ m <= t /\ 0 <= i /\ i < 96)) : logI t p s m i = -1 := by
 unfold logI
 apply nth_off
 by_cases hf : 0 <= i /\ i < 96
 ·left; apply makerI_no; intro h'; exact h ⟨h'.1, h'.2.1, h'.2.2, hf.1, hf.2⟩
 ·omega
theorem log_yes {t p s m i : Int} (hr : rightB t p s = true) (h0 : 0 <= m) (h1 : m <= t) (h2 : 0 <= i) (h3 : i < 96) : logI t p s m i = lM t p s + m * 120 + 24 + i := by
 have := (lay_bounds t p s)
 unfold logI
 rw [makerI_yes hr h0 h1 (by omega) (by omega), nth_on (by omega) h2 h3]
 omega

def partT (q r : Int) : Int × Int × Int := if r < 16 then (4, q, r) else if r = 16 then (5, q, 0) else if 24 <= r then (6, q, r - 24) else (0, 0, 0)
def atT (t p s w : Int) : Int × Int × Int :=
 if w < 0 \/ lW t p s <= w then (0, 0, 0) else if w < 8 then (1, w, 0) else if w = 8 then (2, 0, 0)
 else if lM t p s <= w then partT ((w - lM t p s) / 120) ((w - lM t p s) % 120)
 else if 16 <= w /\ w - 16 < lC t p s then (3, w - 16, 0) else (0, 0, 0)
section
variable {t p s w : Int}
theorem place_out (h : w < 0 \/ lW t p s <= w) : atT t p s w = (0, 0, 0) := by unfold atT; rw [if_pos h]
theorem at_head (h : 0 <= w) (h' : w < lW t p s) (h8 : w < 8) : atT t p s w = (1, w, 0) := by unfold atT; rw [if_neg (by omega), if_pos h8]
theorem at_tip (h' : 8 < lW t p s) : atT t p s 8 = (2, 0, 0) := by unfold atT; rw [if_neg (by omega), if_neg (by omega), if_pos rfl]
theorem words_right (h0 : 0 <= w) (h : w < lW t p s) : rightB t p s = true := by
 cases hr : rightB t p s
 ·have h1 := (lay_no hr).hM; have h2 := (lay_no hr).hK; unfold lW at h; omega
 ·rfl
theorem first_far (hr : rightB t p s = true) : 64 <= lM t p s /\ 16 + lC t p s <= lM t p s /\ lM t p s < 24 + lC t p s /\ 58 <= lC t p s /\ lM t p s % 8 = 0 /\ lW t p s = lM t p s + (t + 1) * 120 := by
 obtain ⟨e1, e2, e3, e4, e5, e6, e7⟩ := lay_yes hr
 have := (rightB_iff t p s).1 hr
 unfold lW
 rw [e7]
 omega
theorem at_maker (h' : w < lW t p s) (hM : lM t p s <= w) : atT t p s w = partT ((w - lM t p s) / 120) ((w - lM t p s) % 120) := by
 have hb := lay_bounds t p s
 have hr := words_right (by omega) h'
 have := first_far hr
 unfold atT
 rw [if_neg (by omega), if_neg (by omega), if_neg (by omega), if_pos hM]
theorem at_cell (h0 : 16 <= w) (h1 : w - 16 < lC t p s) : atT t p s w = (3, w - 16, 0) := by
 have hr : rightB t p s = true := by
  cases hr : rightB t p s
  ·have h1 := (lay_no hr).hC; omega
  ·rfl
 have := first_far hr
 have := (rightB_iff t p s).1 hr
 unfold atT
 rw [if_neg (by omega), if_neg (by omega), if_neg (by omega), if_neg (by omega), if_pos ⟨h0, h1⟩]
theorem at_gap (h9 : 9 <= w) (hM : w < lM t p s) (hc : ¬ (16 <= w /\ w - 16 < lC t p s)) : atT t p s w = (0, 0, 0) := by
 unfold atT
 by_cases h : w < 0 \/ lW t p s <= w
 ·rw [if_pos h]
 ·rw [if_neg h, if_neg (by omega), if_neg (by omega), if_neg (by omega), if_neg hc]
theorem at_of {k i : Int} (hr : rightB t p s = true) (h0 : 0 <= k) (h1 : k <= t) (hi : 0 <= i) (hi' : i < 120) (hw : w - (lM t p s + k * 120) = i) : atT t p s w = partT k i := by
 have hf := first_far hr
 rw [at_maker (by omega) (by omega)]
 congr 1
 ·omega
 ·omega
theorem at_none (hr : rightB t p s = true) (h9 : 9 <= w) (h' : w < lW t p s) (hc : ¬ (16 <= w /\ w - 16 < lC t p s))
  (hn : ∀ k : Int, 0 <= k -> k <= t -> ¬ ((0 <= w - (lM t p s + k * 120) /\ w - (lM t p s + k * 120) < 17) \/ (24 <= w - (lM t p s + k * 120) /\ w - (lM t p s + k * 120) < 120))) : atT t p s w = (0, 0, 0) := by
 have hf := first_far hr
 by_cases hM : lM t p s <= w
 ·rw [at_maker h' hM]
  have := hn ((w - lM t p s) / 120) (by omega) (by omega)
  unfold partT
  rw [if_neg (by omega), if_neg (by omega), if_neg (by omega)]
 ·exact at_gap h9 (by omega) hc
end
end
end Go.Proofs.Ytmjkljdnioochaa

namespace Go.Proofs.Ytmjkljdnioochaa
open Go.ChangeShapes Go.WideShapes Go.ChangeAt Go.RowKit Go.Maps
set_option linter.unusedVariables false
section
structure Turns (F : Nat -> Prop) (w w' : World) : Prop where
 os : w'.os = w.os
 tape : w'.tape = w.tape
 output : w'.output = w.output
 size : w.heap.size <= w'.heap.size
 block : ∀ i, i < w.heap.size -> ¬ F i -> w'.heap[i]? = w.heap[i]?

section
variable {F G : Nat -> Prop} {w w' w'' : World}
theorem T0 (F : Nat -> Prop) (w : World) : Turns F w w := ⟨rfl, rfl, rfl, Nat.le_refl _, fun _ _ _ => rfl⟩
theorem Turns.trans (h : Turns F w w') (k : Turns F w' w'') : Turns F w w'' :=
 ⟨k.os.trans h.os, k.tape.trans h.tape, k.output.trans h.output, Nat.le_trans h.size k.size, fun i hi hf => (k.block i (Nat.lt_of_lt_of_le hi h.size) hf).trans (h.block i hi hf)⟩
theorem Turns.of_below (h : Below w.heap.size w w') (F : Nat -> Prop) : Turns F w w' := ⟨h.os, h.tape, h.output, h.size, fun i hi _ => h.block i hi⟩
theorem Turns.drew (h : Turns F w w') : Turns F w w'.drew := ⟨h.os, h.tape, h.output, h.size, h.block⟩
theorem Turns.alloc (h : Turns F w w') (o : Obj) : Turns F w (w'.alloc o) := h.trans (Turns.of_below (Bnew (B0 _) o) F)
theorem Turns.put (h : Turns F w w') {p : Addr} (hp : F p.block) (u : Value) : Turns F w (w'.setCell p u) :=
 ⟨h.os, h.tape, h.output, by simp; exact h.size, fun i hi hf => (Below.heap_setCell w' p u i (fun e => by subst e; exact hf hp)).trans (h.block i hi hf)⟩
theorem Turns.below {W : World} (h : Turns F w w') (hb : Below W.heap.size W w) (hf : ∀ i, F i -> W.heap.size <= i) : Below W.heap.size W w' :=
 ⟨h.os.trans hb.os, h.tape.trans hb.tape, h.output.trans hb.output, Nat.le_trans hb.size h.size, fun i hi => (h.block i (Nat.lt_of_lt_of_le hi hb.size) (fun x => by have := hf i x; omega)).trans (hb.block i hi)⟩
theorem Turns.held {g : Nat} {t : TypeId} {cs : Array Value} (h : Turns F w w') (hg : Held w g t cs) (hf : ¬ F g) : Held w' g t cs := (h.block g hg.lt hf).trans hg
end

def updF {α : Type} (f : Nat -> α) (i : Nat) (u : α) : Nat -> α := fun j => if j = i then u else f j
theorem updF_same {α : Type} (f : Nat -> α) (i : Nat) (u : α) : updF f i u i = u := if_pos rfl
theorem updF_other {α : Type} (f : Nat -> α) {i j : Nat} (u : α) (h : j ≠ i) : updF f i u j = f j := if_neg h
def RowF (w : World) (g : Nat) (t : TypeId) (n c : Nat) (f : Nat -> Value) : Prop :=
 ∃ cs : Array Value, Held w g t cs /\ cs.size = c /\ n <= c /\ c <= maxLen /\ ∀ i, i < n -> cs[i]? = some (f i)

section
variable {w w' : World} {g : Nat} {t : TypeId} {n c : Nat} {f : Nat -> Value}
theorem RowF.lt (h : RowF w g t n c f) : g < w.heap.size := by obtain ⟨cs, h1, _⟩ := h; exact h1.lt
theorem RowF.le (h : RowF w g t n c f) : n <= c := by obtain ⟨cs, _, _, h1, _⟩ := h; exact h1
theorem RowF.max (h : RowF w g t n c f) : c <= maxLen := by obtain ⟨cs, _, _, _, h1, _⟩ := h; exact h1
theorem RowF.cell (h : RowF w g t n c f) {i : Nat} (hi : i < n) : w.cell? ⟨g, i, none⟩ = some (f i) := by
 obtain ⟨cs, h1, _, _, _, h2⟩ := h
 exact (h1.cell i).trans (h2 i hi)
theorem RowF.thawed (h : RowF w g t n c f) (i : Nat) : w.frozen? ⟨g, i, none⟩ = false := by obtain ⟨cs, h1, _⟩ := h; exact h1.thawed i
theorem RowF.same (h : RowF w g t n c f) (hb : w'.heap[g]? = w.heap[g]?) : RowF w' g t n c f := by
 obtain ⟨cs, h1, r⟩ := h
 exact ⟨cs, hb.trans h1, r⟩
theorem RowF.keep (h : RowF w g t n c f) (hb : Below w.heap.size w w') : RowF w' g t n c f := h.same (hb.block g h.lt)
theorem RowF.put (h : RowF w g t n c f) {i : Nat} (hi : i < n) (u : Value) : RowF (w.setCell ⟨g, i, none⟩ u) g t n c (updF f i u) := by
 obtain ⟨cs, h1, h2, h3, h4, h5⟩ := h
 refine ⟨_, h1.put i u, by simp [h2], h3, h4, fun j hj => ?_⟩
 by_cases e : j = i
 ·subst e
  rw [updF_same]
  simp [Array.getElem?_setIfInBounds]
  omega
 ·rw [updF_other _ _ e, Array.getElem?_setIfInBounds_ne (by omega)]
  exact h5 j hj
theorem RowF.far (h : RowF w g t n c f) {p : Addr} (hp : g ≠ p.block) (u : Value) : RowF (w.setCell p u) g t n c f := h.same (Below.heap_setCell w p u g hp)
theorem RowF.congr {f' : Nat -> Value} (h : RowF w g t n c f) (e : ∀ i, i < n -> f i = f' i) : RowF w g t n c f' := by
 obtain ⟨cs, h1, h2, h3, h4, h5⟩ := h
 exact ⟨cs, h1, h2, h3, h4, fun i hi => by rw [h5 i hi, e i hi]⟩
theorem RowF.of_own {base : Nat} {e : TypeId} {cap : Nat} (h : w.ownsRow base e 1 (.slice (some ⟨g, 0, none⟩) n cap) n ((List.range n).map f)) : base <= g /\ RowF w g e n cap f := by
 rcases h.2 with ⟨h1, _⟩ | ⟨g', cap', cur, hv, hb, hg, hnc, hcm, hcs, htake⟩
 ·cases h1
 ·injection hv with h1 h2 h3
  injection h1 with h1
  injection h1 with h1
  subst h1
  subst h3
  refine ⟨hb, cur, hg, by simpa using hcs, by omega, by omega, fun i hi => ?_⟩
  have h4 := h.cellAt i (by omega)
  rw [Held.cell hg i] at h4
  rw [h4]
  simp [hi]
end
end
end Go.Proofs.Ytmjkljdnioochaa
