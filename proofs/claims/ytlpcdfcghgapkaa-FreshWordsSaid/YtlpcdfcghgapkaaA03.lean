/-
  Contracts of package info and of nacreref09: which infos are right, their values, and which info a value is.
-/
import Derived.Test.YtlpcdfcghgapkaaA02
import Derived.Deep.RegionHeld3
import Derived.IntWalk
import Derived.KernelRfl
import Derived.Test.YtlpcdfcghgapkaaA01
import Derived.RangeFuncNested
import Derived.RangeFuncBound
import Derived.RangeFuncLeaves
import Derived.Shelf.Abstract
import Derived.Shelf.RegionOpen
import Derived.WalkKit
import Derived.OwnWalkIn
import Derived.TacticsInMore
import Derived.LoopNIn
import Derived.LoopIn
import Derived.Laws.CopyOwn
import Derived.Laws.MakeOwn
import Derived.Laws.BitsAllLaws
import Derived.Deep.RegionLaw
import Derived.RegionTactic
import Derived.ChangeAlike
import Derived.BigQuiet
import Derived.Test.YtlpcdfcghgapkaaAKit
import Derived.Deep.AppendLies
namespace Go.Proofs.Ytlpcdfcghgapkaa
open Go.ChangeShapes Go.WideShapes Go.ChangeAt Go.RowKit
set_option linter.unusedVariables false
set_option linter.unusedSimpArgs false
section
def infoP (k l c : Int) : Prop := (k = 0 /\ l = 0 /\ c = 0) \/ ((k = 1 \/ k = 2) /\ 1 <= l /\ l <= 1024 /\ c = 0) \/ (k = 3 /\ l = 1 /\ 0 <= c /\ c <= 8)
instance (k l c : Int) : Decidable (infoP k l c) := by unfold infoP; infer_instance
def infoB (k l c : Int) : Bool := decide (infoP k l c)
theorem infoB_yes {k l c : Int} (h : infoP k l c) : infoB k l c = true := decide_eq_true h
theorem infoB_iff {k l c : Int} (h : infoB k l c = true) : infoP k l c := of_decide_eq_true h
def infoV (k l c : Int) : Nat := if infoB k l c then k.toNat + 16 * l.toNat + 65536 * c.toNat else 0
theorem infoV_yes {k l c : Int} (h : infoB k l c = true) : infoV k l c = k.toNat + 16 * l.toNat + 65536 * c.toNat := by unfold infoV; rw [if_pos h]
theorem infoV_no {k l c : Int} (h : infoB k l c = false) : infoV k l c = 0 := by unfold infoV; rw [h]; rfl

set_option maxHeartbeats 1600000 in
theorem inIsRight_c (k l c : Int) (w : World) :
  Calls Try.prog 56 #[.agg #[.int .i64 k, .int .i64 l, .int .i64 c]] w fun e w' => e = .returned (.bool (infoB k l c)) /\ Below w.heap.size w w' := by
 have hC : ∃ b, infoB k l c = b := ⟨_, rfl⟩
 obtain ⟨b, hb⟩ := hC
 rw [hb]
 have hcase : (k = 3 /\ l ≠ 1 /\ b = false) \/ (k = 3 /\ l = 1 /\ c < 0 /\ b = false) \/ (k = 3 /\ l = 1 /\ 0 <= c /\ 9 <= c /\ b = false) \/ (k = 3 /\ l = 1 /\ 0 <= c /\ c < 9 /\ b = true) \/
   ((k = 1 \/ k = 2) /\ l < 1 /\ b = false) \/ ((k = 1 \/ k = 2) /\ 1 <= l /\ 1024 < l /\ b = false) \/ ((k = 1 \/ k = 2) /\ 1 <= l /\ l <= 1024 /\ c ≠ 0 /\ b = false) \/ ((k = 1 \/ k = 2) /\ 1 <= l /\ l <= 1024 /\ c = 0 /\ b = true) \/
   (k = 0 /\ l ≠ 0 /\ b = false) \/ (k = 0 /\ l = 0 /\ c ≠ 0 /\ b = false) \/ (k = 0 /\ l = 0 /\ c = 0 /\ b = true) \/ (k ≠ 0 /\ k ≠ 1 /\ k ≠ 2 /\ k ≠ 3 /\ b = false) := by
  cases b
  ·have h : ¬ infoP k l c := of_decide_eq_false hb
   unfold infoP at h
   simp only [and_true, reduceCtorEq, and_false, or_false, false_or]
   omega
  ·have h : infoP k l c := infoB_iff hb
   unfold infoP at h
   simp only [and_true, reduceCtorEq, and_false, or_false, false_or]
   omega
 clear hb
 rcases hcase with ⟨rfl, h1, rfl⟩ | ⟨rfl, rfl, h1, rfl⟩ | ⟨rfl, rfl, h1, h2, rfl⟩ | ⟨rfl, rfl, h1, h2, rfl⟩ | ⟨rfl | rfl, h1, rfl⟩ | ⟨rfl | rfl, h1, h2, rfl⟩ | ⟨rfl | rfl, h1, h2, h3, rfl⟩ | ⟨rfl | rfl, h1, h2, rfl, rfl⟩ | ⟨rfl, h1, rfl⟩ | ⟨rfl, rfl, h1, rfl⟩ | ⟨rfl, rfl, rfl, rfl⟩ | ⟨h0, h1, h2, h3, rfl⟩
 all_goals
  go_enter Try.func56, Try.ntmps56
  go_wp2
  go_ret
  refine ⟨by first | rfl | (refine ret_bool ?_; simp; done) | (refine ret_bool ?_; simp; omega), ?_⟩
  repeat (first | exact B0 _ | (with_reducible refine Bdrew ?_) | (with_reducible refine Bdraw ?_ _) | (with_reducible refine Bnew ?_ _) | (refine Bput ?_ (Nat.le_refl _) _))
set_option maxHeartbeats 1600000 in
theorem r9Right_c (k l c : Int) (w : World) :
  Calls Try.prog 68 #[.agg #[.int .i64 k, .int .i64 l, .int .i64 c]] w fun e w' => e = .returned (.bool (infoB k l c)) /\ Below w.heap.size w w' := by
 have hC : ∃ b, infoB k l c = b := ⟨_, rfl⟩
 obtain ⟨b, hb⟩ := hC
 rw [hb]
 have hcase : (k = 3 /\ l ≠ 1 /\ b = false) \/ (k = 3 /\ l = 1 /\ c < 0 /\ b = false) \/ (k = 3 /\ l = 1 /\ 0 <= c /\ 8 < c /\ b = false) \/ (k = 3 /\ l = 1 /\ 0 <= c /\ c <= 8 /\ b = true) \/
   ((k = 1 \/ k = 2) /\ l < 1 /\ b = false) \/ ((k = 1 \/ k = 2) /\ 1 <= l /\ 1024 < l /\ b = false) \/ ((k = 1 \/ k = 2) /\ 1 <= l /\ l <= 1024 /\ c ≠ 0 /\ b = false) \/ ((k = 1 \/ k = 2) /\ 1 <= l /\ l <= 1024 /\ c = 0 /\ b = true) \/
   (k = 0 /\ l ≠ 0 /\ b = false) \/ (k = 0 /\ l = 0 /\ c ≠ 0 /\ b = false) \/ (k = 0 /\ l = 0 /\ c = 0 /\ b = true) \/ (k ≠ 0 /\ k ≠ 1 /\ k ≠ 2 /\ k ≠ 3 /\ b = false) := by
  cases b
  ·have h : ¬ infoP k l c := of_decide_eq_false hb
   unfold infoP at h
   simp only [and_true, reduceCtorEq, and_false, or_false, false_or]
   omega
  ·have h : infoP k l c := infoB_iff hb
   unfold infoP at h
   simp only [and_true, reduceCtorEq, and_false, or_false, false_or]
   omega
 clear hb
 rcases hcase with ⟨rfl, h1, rfl⟩ | ⟨rfl, rfl, h1, rfl⟩ | ⟨rfl, rfl, h1, h2, rfl⟩ | ⟨rfl, rfl, h1, h2, rfl⟩ | ⟨rfl | rfl, h1, rfl⟩ | ⟨rfl | rfl, h1, h2, rfl⟩ | ⟨rfl | rfl, h1, h2, h3, rfl⟩ | ⟨rfl | rfl, h1, h2, rfl, rfl⟩ | ⟨rfl, h1, rfl⟩ | ⟨rfl, rfl, h1, rfl⟩ | ⟨rfl, rfl, rfl, rfl⟩ | ⟨h0, h1, h2, h3, rfl⟩
 all_goals
  go_enter Try.func68, Try.ntmps68
  go_wp2
  go_ret
  refine ⟨by first | rfl | (refine ret_bool ?_; simp; done) | (refine ret_bool ?_; simp; omega), ?_⟩
  repeat (first | exact B0 _ | (with_reducible refine Bdrew ?_) | (with_reducible refine Bdraw ?_ _) | (with_reducible refine Bnew ?_ _) | (refine Bput ?_ (Nat.le_refl _) _))
end
section
theorem putN_new (x a k v : Nat) (ha : a + k <= 64) (hx : x < 2 ^ a) (hv : v < 2 ^ k) : HM.putN x a k v = x + v * 2 ^ a := by
 have hx64 : x < 2 ^ 64 := Nat.lt_of_lt_of_le hx (Nat.pow_le_pow_right (by omega) (by omega))
 have h1 : x + v * 2 ^ a = 2 ^ a * v + x := by rw [Nat.mul_comm, Nat.add_comm]
 have hlt : 2 ^ a * v + x < 2 ^ 64 := by
  have e : (2 : Nat) ^ 64 = 2 ^ a * 2 ^ (64 - a) := by rw [<- Nat.pow_add]; congr 1; omega
  have e2 : (2 : Nat) ^ k <= 2 ^ (64 - a) := Nat.pow_le_pow_right (by omega) (by omega)
  have e3 : 2 ^ a * (v + 1) <= 2 ^ a * 2 ^ (64 - a) := Nat.mul_le_mul_left _ (by omega)
  rw [Nat.mul_succ] at e3
  rw [e]
  omega
 rw [h1]
 apply Nat.eq_of_testBit_eq
 intro i
 by_cases hi : i < 64
 ·rw [HM.bit_putN x a k v i ha hv hi, Nat.testBit_two_pow_mul_add _ hx]
  by_cases h2 : i < a
  ·rw [if_neg (by omega), if_pos h2]
  ·rw [if_neg h2]
   by_cases h3 : i < a + k
   ·rw [if_pos ⟨by omega, h3⟩]
   ·rw [if_neg (by omega), Nat.testBit_lt_two_pow (Nat.lt_of_lt_of_le hx (Nat.pow_le_pow_right (by omega) (by omega))), Nat.testBit_lt_two_pow (Nat.lt_of_lt_of_le hv (Nat.pow_le_pow_right (by omega) (by omega)))]
 ·rw [HM.bit_high (HM.putN_lt x a k v ha hv) (by omega), HM.bit_high hlt (by omega)]
theorem putNew_c (x a k v : Nat) (hk : 1 <= k) (ha : a + k <= 64) (hx : x < 2 ^ a) (hv : v < 2 ^ k) (y : Nat) (hy : x + v * 2 ^ a = y) (w : World) :
  Calls Try.prog 57 #[.int .u64 (x : Int), .int .i64 (a : Int), .int .i64 (k : Int), .int .u64 (v : Int)] w fun e w' => e = .returned (.tuple #[.int .u64 (y : Int), .bool true]) /\ ∃ n, w' = w.drewN n := by
 have hx64 : x < 2 ^ 64 := Nat.lt_of_lt_of_le hx (Nat.pow_le_pow_right (by omega) (by omega))
 have hv64 : v < 2 ^ 64 := Nat.lt_of_lt_of_le hv (Nat.pow_le_pow_right (by omega) (by omega))
 refine (Put_c x v a k hx64 hv64 (by omega) (by omega) (by omega) (by omega) w).mono ?_
 rintro e w' ⟨rfl, hw⟩
 have hok : putOk a k v = true := by
  unfold putOk
  rw [fieldB_yes (by omega) (by omega) (by omega)]
  simpa using hv
 have e1 : putI x a k v = y := by
  unfold putI
  rw [if_pos hok]
  exact (putN_new x a k v ha hx hv).trans hy
 rw [hok, e1]
 exact ⟨rfl, hw⟩
theorem ret_half {k : IntKind} {a b : Int} {c : Bool} (h : a = b) : Ending.returned (.tuple #[.int k a, .bool c]) = .returned (.tuple #[.int k b, .bool c]) := by rw [h]

theorem inPut_c (k l c : Int) (w : World) :
  Calls Try.prog 35 #[.agg #[.int .i64 k, .int .i64 l, .int .i64 c]] w fun e w' => e = .returned (.tuple #[.int .u32 ((infoV k l c : Nat) : Int), .bool (infoB k l c)]) /\ Below w.heap.size w w' := by
 cases hr : infoB k l c
 ·have HP := hidp (infoV_no hr)
  have HR := hidp hr
  clear hr
  go_enter Try.func35, Try.ntmps35
  go_wp2_with fail
  refine (inIsRight_c k l c _).mono ?_
  rintro e w1 ⟨rfl, hb1⟩
  rw [HR.out]
  go_wp2
  go_ret2
  exact ⟨by rw [HP.out]; rfl, Bgo (Bnew (B0 _) _) hb1⟩
 ·have HP := hidp (infoV_yes hr)
  have HR := hidp hr
  have hi := infoB_iff hr
  clear hr
  have hb : 0 <= k /\ k <= 3 /\ 0 <= l /\ l <= 1024 /\ 0 <= c /\ c <= 8 := by unfold infoP at hi; omega
  obtain ⟨k0, k3, l0, l1, c0, c8⟩ := hb
  clear hi
  obtain ⟨k, rfl⟩ : ∃ n : Nat, k = n := ⟨k.toNat, by omega⟩
  obtain ⟨l, rfl⟩ : ∃ n : Nat, l = n := ⟨l.toNat, by omega⟩
  obtain ⟨c, rfl⟩ : ∃ n : Nat, c = n := ⟨c.toNat, by omega⟩
  go_enter Try.func35, Try.ntmps35
  go_wp2_with fail
  have hc := Held.new w 56 #[.int .i64 (k : Int), .int .i64 (l : Int), .int .i64 (c : Int)]
  refine (inIsRight_c k l c _).mono ?_
  rintro e w1 ⟨rfl, hb1⟩
  rw [HR.out]
  obtain ⟨c0, c1, c2⟩ := (hc.keep hb1).three
  go_wp2_with fail
  refine (putNew_c 0 0 4 k (by omega) (by omega) (by omega) (by omega) k (by omega) _).mono ?_
  rintro e w2 ⟨rfl, n2, rfl⟩
  go_wp2_with fail
  refine (putNew_c k 4 12 l (by omega) (by omega) (by omega) (by omega) (k + l * 16) (by omega) _).mono ?_
  rintro e w2 ⟨rfl, n3, rfl⟩
  go_wp2_with fail
  refine (putNew_c (k + l * 16) 16 4 c (by omega) (by omega) (by omega) (by omega) (k + l * 16 + c * 65536) (by omega) _).mono ?_
  rintro e w2 ⟨rfl, n4, rfl⟩
  go_wp2_with fail
  refine (Lo_c (k + l * 16 + c * 65536) (by omega) _).mono ?_
  rintro e w2 ⟨rfl, rfl⟩
  go_wp2
  go_ret2
  refine ⟨ret_half (by rw [HP.out]; omega), ?_⟩
  repeat (first | exact B0 _ | (with_reducible refine Bdrew ?_) | (with_reducible refine Bdraw ?_ _) | (with_reducible refine Bgo ?_ hb1) | (with_reducible refine Bnew ?_ _))
theorem r9Put_c (k l c : Int) (w : World) :
  Calls Try.prog 44 #[.agg #[.int .i64 k, .int .i64 l, .int .i64 c]] w fun e w' => e = .returned (.tuple #[.int .u32 ((infoV k l c : Nat) : Int), .bool (infoB k l c)]) /\ Below w.heap.size w w' := by
 cases hr : infoB k l c
 ·have HP := hidp (infoV_no hr)
  have HR := hidp hr
  clear hr
  go_enter Try.func44, Try.ntmps44
  go_wp2_with fail
  refine (r9Right_c k l c _).mono ?_
  rintro e w1 ⟨rfl, hb1⟩
  rw [HR.out]
  go_wp2
  go_ret2
  exact ⟨by rw [HP.out]; rfl, Bgo (Bnew (B0 _) _) hb1⟩
 ·have HP := hidp (infoV_yes hr)
  have HR := hidp hr
  have hi := infoB_iff hr
  clear hr
  have hb : 0 <= k /\ k <= 3 /\ 0 <= l /\ l <= 1024 /\ 0 <= c /\ c <= 8 := by unfold infoP at hi; omega
  obtain ⟨k0, k3, l0, l1, c0, c8⟩ := hb
  clear hi
  go_enter Try.func44, Try.ntmps44
  go_wp2_with fail
  have hc := Held.new w 56 #[.int .i64 k, .int .i64 l, .int .i64 c]
  refine (r9Right_c k l c _).mono ?_
  rintro e w1 ⟨rfl, hb1⟩
  rw [HR.out]
  obtain ⟨d0, d1, d2⟩ := (hc.keep hb1).three
  go_wp2
  go_ret2
  refine ⟨ret_half (by rw [HP.out]; first | omega | (simp; omega)), ?_⟩
  repeat (first | exact B0 _ | (with_reducible refine Bdrew ?_) | (with_reducible refine Bdraw ?_ _) | (with_reducible refine Bgo ?_ hb1) | (with_reducible refine Bnew ?_ _))
end
section
theorem infoV_lt (k l c : Int) : infoV k l c < 2 ^ 32 := by
 cases hr : infoB k l c
 ·rw [infoV_no hr]; omega
 ·have hi := infoB_iff hr
  unfold infoP at hi
  rw [infoV_yes hr]
  omega
end
end Go.Proofs.Ytlpcdfcghgapkaa

namespace Go.Proofs.Ytlpcdfcghgapkaa
set_option linter.unusedVariables false
section
theorem i64_same {x : Int} (h : -9223372036854775808 <= x) (h' : x <= 9223372036854775807) : IntKind.i64.wrap x = x := by
 simp only [IntKind.wrap, IntKind.bits, IntKind.signed]; simp; omega
end
end Go.Proofs.Ytlpcdfcghgapkaa

namespace Go.Proofs.Ytlpcdfcghgapkaa
open Go.ChangeShapes Go.WideShapes Go.ChangeAt Go.RowKit
set_option linter.unusedVariables false
section
structure AuH where
 t : Nat
 p : Nat
 s : Nat
 V : Nat -> Nat

namespace AuH
variable (H : AuH)
variable {H}
variable (H)
variable {H}
end AuH
end
end Go.Proofs.Ytlpcdfcghgapkaa

namespace Go.Proofs.Ytlpcdfcghgapkaa
open Go.ChangeShapes Go.WideShapes Go.ChangeAt Go.RowKit
set_option linter.unusedVariables false
set_option linter.unusedSimpArgs false
section
theorem Held.seven {w : World} {g : Nat} {t : TypeId} {c0 c1 c2 c3 c4 c5 c6 : Value} (h : Held w g t #[c0, c1, c2, c3, c4, c5, c6]) : w.cell? ⟨g, 0, none⟩ = some c0 /\ w.cell? ⟨g, 1, none⟩ = some c1 /\ w.cell? ⟨g, 2, none⟩ = some c2 /\ w.cell? ⟨g, 3, none⟩ = some c3 /\ w.cell? ⟨g, 4, none⟩ = some c4 /\ w.cell? ⟨g, 5, none⟩ = some c5 /\ w.cell? ⟨g, 6, none⟩ = some c6 :=
 ⟨h.cell 0, h.cell 1, h.cell 2, h.cell 3, h.cell 4, h.cell 5, h.cell 6⟩
theorem Held.thawed7 {w : World} {g : Nat} {t : TypeId} {cs : Array Value} (h : Held w g t cs) : w.frozen? ⟨g, 0, none⟩ = false /\ w.frozen? ⟨g, 1, none⟩ = false /\ w.frozen? ⟨g, 2, none⟩ = false /\ w.frozen? ⟨g, 3, none⟩ = false /\ w.frozen? ⟨g, 4, none⟩ = false /\ w.frozen? ⟨g, 5, none⟩ = false /\ w.frozen? ⟨g, 6, none⟩ = false :=
 ⟨h.thawed 0, h.thawed 1, h.thawed 2, h.thawed 3, h.thawed 4, h.thawed 5, h.thawed 6⟩

theorem plNth_c (f n e i : Int) (f0 : -1 <= f) (f1 : f <= 20000) (n0 : 0 <= n) (n1 : n <= 10000) (e0 : 0 <= e) (e1 : e <= 120) (w : World) :
  Calls Try.prog 50 #[.int .i64 f, .int .i64 n, .int .i64 e, .int .i64 i] w fun z w' => z = .returned (.int .i64 (nthI f n e i)) /\ w = w' := by
 by_cases c0 : f = -1
 ·subst c0
  have HN := hidp (nth_off (f := -1) (n := n) (e := e) (i := i) (.inl rfl))
  go_enter Try.func50, Try.ntmps50
  go_wp2
  go_ret
  exact ⟨by rw [HN.out]; rfl, rfl⟩
 ·have q0 : (f == -1) = false := by simpa using c0
  by_cases c1 : i < 0
  ·have HN := hidp (nth_off (f := f) (n := n) (e := e) (i := i) (.inr (.inl c1)))
   go_enter Try.func50, Try.ntmps50
   go_wp2
   go_ret
   exact ⟨by rw [HN.out]; rfl, rfl⟩
  ·by_cases c2 : n <= i
   ·have HN := hidp (nth_off (f := f) (n := n) (e := e) (i := i) (.inr (.inr c2)))
    go_enter Try.func50, Try.ntmps50
    go_wp2
    go_ret
    exact ⟨by rw [HN.out]; rfl, rfl⟩
   ·have HN := hidp (nth_on (f := f) (n := n) (e := e) (i := i) c0 (by omega) (by omega))
    have p0 : 0 <= i * e := Int.mul_nonneg (by omega) e0
    have p1 : i * e <= 10000 * 120 := Int.mul_le_mul (by omega) e1 e0 (by omega)
    obtain ⟨y, hy⟩ : ∃ y, i * e = y := ⟨_, rfl⟩
    have HY := hidp hy
    rw [hy] at p0 p1
    go_enter Try.func50, Try.ntmps50
    go_wp2
    go_ret
    exact ⟨by rw [HN.out, HY.out]; rfl, rfl⟩

theorem plLine_c (i : Nat) (h : i <= 10000) (w : World) :
  Calls Try.prog 55 #[.int .i64 (i : Int)] w fun z w' => z = .returned (.int .i64 (((i + 7) / 8 * 8 : Nat) : Int)) /\ w = w' := by
 go_enter Try.func55, Try.ntmps55
 go_wp2
 go_ret
 refine ⟨ret_int ?_, rfl⟩
 simp
 omega
theorem plLineI_c (i y : Int) (h0 : 0 <= i) (h : i <= 10000) (hy : (i + 7) / 8 * 8 = y) (w : World) :
  Calls Try.prog 55 #[.int .i64 i] w fun z w' => z = .returned (.int .i64 y) /\ w = w' := by
 obtain ⟨n, rfl⟩ : ∃ n : Nat, i = n := ⟨i.toNat, by omega⟩
 have e : y = (((n + 7) / 8 * 8 : Nat) : Int) := by omega
 rw [e]
 exact plLine_c n (by omega) w

set_option maxHeartbeats 1600000 in
theorem plLayout_no (t p s : Int) (hr : rightB t p s = false) (w : World) :
  Calls Try.prog 31 #[.agg #[.int .i64 t, .int .i64 p, .int .i64 s]] w fun z w' => z = .returned (.agg #[.int .i64 0, .int .i64 0, .int .i64 0, .int .i64 0, .int .i64 0, .int .i64 0, .int .i64 0]) /\ Below w.heap.size w w' := by
 have HK := hidp (check_no hr)
 have hl := Held.new2 w (.cells #[.int .i64 t, .int .i64 p, .int .i64 s] 23) 47 #[.int .i64 0, .int .i64 0, .int .i64 0, .int .i64 0, .int .i64 0, .int .i64 0, .int .i64 0]
 clear hr
 go_enter Try.func31, Try.ntmps31
 go_wp2_with fail
 refine (cfCheck_c t p s _).mono ?_
 rintro e w1 ⟨rfl, hb1⟩
 rw [HK.out]
 have hz := hb1.size
 have hl1 := hl.keep hb1
 obtain ⟨z0, z1, z2, z3, z4, z5, z6⟩ := hl1.seven
 obtain ⟨f0, f1, f2, f3, f4, f5, f6⟩ := hl1.thawed7
 go_wp2
 refine bodyPost_ret (v := .agg #[.int .i64 0, .int .i64 0, .int .i64 0, .int .i64 0, .int .i64 0, .int .i64 0, .int .i64 0]) (by simp [results, Try.results31, go_sem, z0, z1, z2, z3, z4, z5, z6]) rfl ⟨rfl, ?_⟩
 exact Bput (Bput (Bput (Bput (Bput (Bput (Bput (Bgo (Bnew (Bnew (B0 _) _) _) hb1) (Nat.le_succ _) _) (Nat.le_succ _) _) (Nat.le_succ _) _) (Nat.le_succ _) _) (Nat.le_succ _) _) (Nat.le_succ _) _) (Nat.le_succ _) _

set_option maxHeartbeats 1600000 in
theorem plLayout_yes (a b : Nat) (s : Int) (hr : rightB a b s = true) (w : World) :
  Calls Try.prog 31 #[.agg #[.int .i64 (a : Int), .int .i64 (b : Int), .int .i64 s]] w fun z w' => z = .returned (.agg #[.int .i64 (a : Int), .int .i64 (b : Int), .int .i64 s, .int .i64 (30 + 4 * a : Int), .int .i64 (30 + 4 * a + 6 * b : Int), .int .i64 ((16 + (30 + 4 * a + 6 * b) + 7) / 8 * 8 : Int), .int .i64 (a + 1 : Int)]) /\ Below w.heap.size w w' := by
 have HK := hidp (check_yes hr)
 have hn := (rightB_iff a b s).1 hr
 have a1 : a <= 16 := by omega
 have b1 : b <= 1024 := by omega
 obtain ⟨y, hy⟩ : ∃ y : Int, ((16 + (30 + 4 * (a : Int) + 6 * (b : Int)) + 7) / 8 * 8 : Int) = y := ⟨_, rfl⟩
 have HY := hidp hy
 rw [hy]
 have hd := (Held.new w 23 #[.int .i64 a, .int .i64 b, .int .i64 s]).alloc (.cells #[.int .i64 0, .int .i64 0, .int .i64 0, .int .i64 0, .int .i64 0, .int .i64 0, .int .i64 0] 47)
 have hl := Held.new2 w (.cells #[.int .i64 a, .int .i64 b, .int .i64 s] 23) 47 #[.int .i64 0, .int .i64 0, .int .i64 0, .int .i64 0, .int .i64 0, .int .i64 0, .int .i64 0]
 clear hr hn hy
 go_enter Try.func31, Try.ntmps31
 go_wp2_with fail
 refine (cfCheck_c a b s _).mono ?_
 rintro e w1 ⟨rfl, hb1⟩
 rw [HK.out]
 have hz := hb1.size
 have hd1 := hd.keep hb1
 have hl1 := hl.keep hb1
 obtain ⟨x0, x1, x2⟩ := hd1.three
 obtain ⟨z0, z1, z2, z3, z4, z5, z6⟩ := hl1.seven
 obtain ⟨f0, f1, f2, f3, f4, f5, f6⟩ := hl1.thawed7
 have hlt := hl1.lt
 clear hd hl
 go_wp2_with fail
 refine (plLineI_c _ y (by omega) (by omega) HY.out _).mono ?_
 rintro e w2 ⟨rfl, rfl⟩
 go_wp2
 have hfin := (((((((hl1.put 0 (.int .i64 (a : Int))).put 1 (.int .i64 (b : Int))).put 2 (.int .i64 s)).put 3 (.int .i64 (30 + 4 * a : Int))).put 4 (.int .i64 (30 + 4 * a + 6 * b : Int))).put 5 (.int .i64 y)).put 6 (.int .i64 (a + 1 : Int))).alloc
  (.cells #[.int .i64 (a : Int), .int .i64 (b : Int), .int .i64 s, .int .i64 (30 + 4 * a : Int), .int .i64 (30 + 4 * a + 6 * b : Int), .int .i64 y, .int .i64 (a + 1 : Int)] 47)
 obtain ⟨r0, r1, r2, r3, r4, r5, r6⟩ := hfin.seven
 refine bodyPost_ret (v := .agg #[.int .i64 (a : Int), .int .i64 (b : Int), .int .i64 s, .int .i64 (30 + 4 * a : Int), .int .i64 (30 + 4 * a + 6 * b : Int), .int .i64 y, .int .i64 (a + 1 : Int)]) (by simp [results, Try.results31, go_sem, r0, r1, r2, r3, r4, r5, r6]) rfl ⟨rfl, ?_⟩
 exact Bnew (Bput (Bput (Bput (Bput (Bput (Bput (Bput (Bgo (Bnew (Bnew (B0 _) _) _) hb1) (Nat.le_succ _) _) (Nat.le_succ _) _) (Nat.le_succ _) _) (Nat.le_succ _) _) (Nat.le_succ _) _) (Nat.le_succ _) _) (Nat.le_succ _) _) _

theorem plLayout_c (t p s T P S A C M K : Int) (h : Laid7 t p s T P S A C M K) (w : World) :
  Calls Try.prog 31 #[.agg #[.int .i64 t, .int .i64 p, .int .i64 s]] w fun z w' => z = .returned (.agg #[.int .i64 T, .int .i64 P, .int .i64 S, .int .i64 A, .int .i64 C, .int .i64 M, .int .i64 K]) /\ Below w.heap.size w w' := by
 obtain ⟨rfl, rfl, rfl, rfl, rfl, rfl, rfl⟩ := h
 cases hr : rightB t p s
 ·obtain ⟨e1, e2, e3, e4, e5, e6, e7⟩ := lay_no hr
  rw [e1, e2, e3, e4, e5, e6, e7]
  exact plLayout_no t p s hr w
 ·obtain ⟨e1, e2, e3, e4, e5, e6, e7⟩ := lay_yes hr
  rw [e1, e2, e3, e4, e5, e6, e7]
  have hn := (rightB_iff t p s).1 hr
  obtain ⟨a, rfl⟩ : ∃ a : Nat, t = a := ⟨t.toNat, by omega⟩
  obtain ⟨b, rfl⟩ : ∃ b : Nat, p = b := ⟨p.toNat, by omega⟩
  exact plLayout_yes a b s hr w
theorem lay_is (t p s : Int) : ∃ T P S A C M K : Int, Laid7 t p s T P S A C M K /\ (0 <= T /\ T <= 16) /\ (0 <= P /\ P <= 1024) /\ (0 <= A /\ A <= 94) /\ (0 <= C /\ C <= 6238) /\ (0 <= M /\ M <= 6256) /\ (0 <= K /\ K <= 17) /\ M % 8 = 0 :=
 ⟨_, _, _, _, _, _, _, ⟨rfl, rfl, rfl, rfl, rfl, rfl, rfl⟩, lay_bounds t p s⟩

theorem plWordsOf_c (T P S A C M K : Int) (m0 : 0 <= M) (m1 : M <= 10000) (k0 : 0 <= K) (k1 : K <= 17) (w : World) :
  Calls Try.prog 48 #[.agg #[.int .i64 T, .int .i64 P, .int .i64 S, .int .i64 A, .int .i64 C, .int .i64 M, .int .i64 K]] w fun z w' => z = .returned (.int .i64 (M + K * 120)) /\ Below w.heap.size w w' := by
 have _ : 24 = 24 := rfl
 go_enter Try.func48, Try.ntmps48
 go_wp2
 go_ret
 exact ⟨ret_int rfl, Bnew (B0 _) _⟩

theorem plCells_c (t p s : Int) (w : World) :
  Calls Try.prog 12 #[.agg #[.int .i64 t, .int .i64 p, .int .i64 s]] w fun z w' => z = .returned (.int .i64 (lC t p s)) /\ Below w.heap.size w w' := by
 obtain ⟨T, P, S, A, C, M, K, HL, ⟨t0, t1⟩, ⟨p0, p1⟩, ⟨a0, a1⟩, ⟨c0, c1⟩, ⟨m0, m1⟩, ⟨k0, k1⟩, -⟩ := lay_is t p s
 have HC := hidp HL.hC
 have hfd : ∀ w : World, (Instr.field 47 (.agg #[.int .i64 T, .int .i64 P, .int .i64 S, .int .i64 A, .int .i64 C, .int .i64 M, .int .i64 K]) 2).run Try.prog w = .ok (.int .i64 C) w := fun _ => by kernel_rfl
 go_enter Try.func12, Try.ntmps12
 go_wp2_with fail
 refine (plLayout_c t p s T P S A C M K HL _).mono ?_
 rintro e w1 ⟨rfl, hb1⟩
 go_wp2
 go_ret
 exact ⟨by rw [HC.out]; rfl, Bgo (Bnew (B0 _) _) hb1⟩
theorem plWords_c (t p s : Int) (w : World) :
  Calls Try.prog 24 #[.agg #[.int .i64 t, .int .i64 p, .int .i64 s]] w fun z w' => z = .returned (.int .i64 (lW t p s)) /\ Below w.heap.size w w' := by
 obtain ⟨T, P, S, A, C, M, K, HL, ⟨t0, t1⟩, ⟨p0, p1⟩, ⟨a0, a1⟩, ⟨c0, c1⟩, ⟨m0, m1⟩, ⟨k0, k1⟩, -⟩ := lay_is t p s
 have HC := hidp (show lW t p s = M + K * 120 by unfold lW; rw [HL.hM, HL.hK])
 go_enter Try.func24, Try.ntmps24
 go_wp2_with fail
 refine (plLayout_c t p s T P S A C M K HL _).mono ?_
 rintro e w1 ⟨rfl, hb1⟩
 go_wp2_with fail
 refine (plWordsOf_c T P S A C M K m0 (by omega) k0 k1 _).mono ?_
 rintro e w2 ⟨rfl, hb2⟩
 go_wp2
 go_ret
 exact ⟨by rw [HC.out]; rfl, Bgo (Bgo (Bnew (B0 _) _) hb1) hb2⟩

theorem plBin_c (k : Int) (w : World) :
  Calls Try.prog 39 #[.int .i64 k] w fun z w' => z = .returned (.int .i64 (nthI 2 11 1 k)) /\ w = w' := by
 go_enter Try.func39, Try.ntmps39
 go_wp2_with fail
 refine (plNth_c 2 11 1 k (by omega) (by omega) (by omega) (by omega) (by omega) (by omega) _).mono ?_
 rintro e w1 ⟨rfl, rfl⟩
 go_wp2
 go_ret
 exact ⟨by first | rfl | trivial, by first | rfl | trivial⟩

theorem plPage_c (t p s q b : Int) (w : World) :
  Calls Try.prog 59 #[.agg #[.int .i64 t, .int .i64 p, .int .i64 s], .int .i64 q, .int .i64 b] w fun z w' => z = .returned (.int .i64 (pageI t p s q b)) /\ Below w.heap.size w w' := by
 obtain ⟨T, P, S, A, C, M, K, HL, ⟨t0, t1⟩, ⟨p0, p1⟩, ⟨a0, a1⟩, ⟨c0, c1⟩, ⟨m0, m1⟩, ⟨k0, k1⟩, -⟩ := lay_is t p s
 have HR := hidp (show pageI t p s q b = nthI (nthI A P 6 q) 6 1 b by unfold pageI; rw [HL.hA, HL.hP])
 have hB := nth_bounds (f := A) (n := P) (e := 6) (i := q) (B := 6256) (by omega) (by omega) (by omega) (by omega)
 obtain ⟨y, hy⟩ : ∃ y, nthI A P 6 q = y := ⟨_, rfl⟩
 rw [hy] at hB HR
 have HY := hidp hy
 clear hy
 have hfd : ∀ w : World, (Instr.field 47 (.agg #[.int .i64 T, .int .i64 P, .int .i64 S, .int .i64 A, .int .i64 C, .int .i64 M, .int .i64 K]) 0).run Try.prog w = .ok (.agg #[.int .i64 T, .int .i64 P, .int .i64 S]) w := fun _ => by kernel_rfl
 have hfd2 : ∀ w : World, (Instr.field 23 (.agg #[.int .i64 T, .int .i64 P, .int .i64 S]) 0).run Try.prog w = .ok (.int .i64 T) w := fun _ => by kernel_rfl
 go_enter Try.func59, Try.ntmps59
 go_wp2_with fail
 refine (plLayout_c t p s T P S A C M K HL _).mono ?_
 rintro e w1 ⟨rfl, hb1⟩
 go_wp2_with fail
 refine (plNth_c A P 6 q (by omega) (by omega) (by omega) (by omega) (by omega) (by omega) _).mono ?_
 rintro e w2 ⟨rfl, rfl⟩
 rw [HY.out]
 go_wp2_with fail
 refine (plNth_c y 6 1 b (by omega) (by omega) (by omega) (by omega) (by omega) (by omega) _).mono ?_
 rintro e w3 ⟨rfl, rfl⟩
 go_wp2
 go_ret
 refine ⟨by rw [HR.out]; rfl, ?_⟩
 all_goals exact blz

theorem plInfo_c (t p s q : Int) (w : World) :
  Calls Try.prog 36 #[.agg #[.int .i64 t, .int .i64 p, .int .i64 s], .int .i64 q] w fun z w' => z = .returned (.int .i64 (pageI t p s q 0)) /\ Below w.heap.size w w' := by
 go_enter Try.func36, Try.ntmps36
 go_wp2_with fail
 refine (plPage_c t p s q 0 _).mono ?_
 rintro e w1 ⟨rfl, hb1⟩
 go_wp2
 go_ret
 exact ⟨by first | rfl | trivial, Bgo (Bnew (B0 _) _) hb1⟩

theorem plFoot_c (t p s q : Int) (w : World) :
  Calls Try.prog 37 #[.agg #[.int .i64 t, .int .i64 p, .int .i64 s], .int .i64 q] w fun z w' => z = .returned (.int .i64 (pageI t p s q 1)) /\ Below w.heap.size w w' := by
 go_enter Try.func37, Try.ntmps37
 go_wp2_with fail
 refine (plPage_c t p s q 1 _).mono ?_
 rintro e w1 ⟨rfl, hb1⟩
 go_wp2
 go_ret
 exact ⟨by first | rfl | trivial, Bgo (Bnew (B0 _) _) hb1⟩

theorem plNext_c (t p s q : Int) (w : World) :
  Calls Try.prog 79 #[.agg #[.int .i64 t, .int .i64 p, .int .i64 s], .int .i64 q] w fun z w' => z = .returned (.int .i64 (pageI t p s q 2)) /\ Below w.heap.size w w' := by
 go_enter Try.func79, Try.ntmps79
 go_wp2_with fail
 refine (plPage_c t p s q 2 _).mono ?_
 rintro e w1 ⟨rfl, hb1⟩
 go_wp2
 go_ret
 exact ⟨by first | rfl | trivial, Bgo (Bnew (B0 _) _) hb1⟩

theorem plPrev_c (t p s q : Int) (w : World) :
  Calls Try.prog 80 #[.agg #[.int .i64 t, .int .i64 p, .int .i64 s], .int .i64 q] w fun z w' => z = .returned (.int .i64 (pageI t p s q 3)) /\ Below w.heap.size w w' := by
 go_enter Try.func80, Try.ntmps80
 go_wp2_with fail
 refine (plPage_c t p s q 3 _).mono ?_
 rintro e w1 ⟨rfl, hb1⟩
 go_wp2
 go_ret
 exact ⟨by first | rfl | trivial, Bgo (Bnew (B0 _) _) hb1⟩

theorem plWord_c (t p s i : Int) (w : World) :
  Calls Try.prog 27 #[.agg #[.int .i64 t, .int .i64 p, .int .i64 s], .int .i64 i] w fun z w' => z = .returned (.int .i64 (wordI t p s i)) /\ Below w.heap.size w w' := by
 obtain ⟨T, P, S, A, C, M, K, HL, ⟨t0, t1⟩, ⟨p0, p1⟩, ⟨a0, a1⟩, ⟨c0, c1⟩, ⟨m0, m1⟩, ⟨k0, k1⟩, -⟩ := lay_is t p s
 have HR := hidp (show wordI t p s i = nthI 16 C 1 i by unfold wordI; rw [HL.hC])
 have hfd : ∀ w : World, (Instr.field 47 (.agg #[.int .i64 T, .int .i64 P, .int .i64 S, .int .i64 A, .int .i64 C, .int .i64 M, .int .i64 K]) 2).run Try.prog w = .ok (.int .i64 C) w := fun _ => by kernel_rfl
 go_enter Try.func27, Try.ntmps27
 go_wp2_with fail
 refine (plLayout_c t p s T P S A C M K HL _).mono ?_
 rintro e w1 ⟨rfl, hb1⟩
 go_wp2_with fail
 refine (plNth_c 16 C 1 i (by omega) (by omega) (by omega) (by omega) (by omega) (by omega) _).mono ?_
 rintro e w2 ⟨rfl, rfl⟩
 go_wp2
 go_ret
 exact ⟨by rw [HR.out]; rfl, Bgo (Bnew (B0 _) _) hb1⟩
end
end Go.Proofs.Ytlpcdfcghgapkaa

namespace Go.Proofs.Ytlpcdfcghgapkaa
open Go.ChangeShapes Go.WideShapes Go.ChangeAt Go.RowKit
set_option linter.unusedVariables false
section
theorem ret_word {k : IntKind} {a b : Int} {c : Bool} (h : a = b) : Ending.returned (.tuple #[.int k a, .bool c]) = .returned (.tuple #[.int k b, .bool c]) := by rw [h]
def wordN (t p s : Int) : Nat := if rightB t p s then t.toNat + p.toNat * 65536 + s.toNat * 4294967296 else 0
theorem word_yes {t p s : Int} (h : rightB t p s = true) : wordN t p s = t.toNat + p.toNat * 65536 + s.toNat * 4294967296 := by unfold wordN; rw [if_pos h]
theorem word_no {t p s : Int} (h : rightB t p s = false) : wordN t p s = 0 := by unfold wordN; rw [h]; rfl

theorem r4Word_c (t p s : Int) (w : World) :
  Calls Try.prog 52 #[.agg #[.int .i64 t, .int .i64 p, .int .i64 s]] w fun e w' => e = .returned (.tuple #[.int .u64 ((wordN t p s : Nat) : Int), .bool (rightB t p s)]) /\ Below w.heap.size w w' := by
 cases hr : rightB t p s
 ·have HP := hidp (word_no hr)
  have HR := hidp hr
  clear hr
  go_enter Try.func52, Try.ntmps52
  go_wp2_with fail
  refine (r4Right_c t p s _).mono ?_
  rintro e w1 ⟨rfl, hb1⟩
  rw [HR.out]
  go_wp2
  go_ret2
  exact ⟨by rw [HP.out]; rfl, Bgo (Bnew (B0 _) _) hb1⟩
 ·have HP := hidp (word_yes hr)
  have HR := hidp hr
  obtain ⟨⟨ht, ht'⟩, ⟨hp, hp'⟩, hs, hs'⟩ := (rightB_iff t p s).1 hr
  clear hr
  go_enter Try.func52, Try.ntmps52
  go_wp2_with fail
  have hc := Held.new w 23 #[.int .i64 t, .int .i64 p, .int .i64 s]
  refine (r4Right_c t p s _).mono ?_
  rintro e w1 ⟨rfl, hb1⟩
  rw [HR.out]
  obtain ⟨c0, c1, c2⟩ := (hc.keep hb1).three
  go_wp2
  go_ret2
  exact ⟨ret_word (by rw [HP.out]; omega), Bgo (Bnew (B0 _) _) hb1⟩

theorem put_new (x a v : Nat) (ha : a + 16 <= 64) (hx : x < 2 ^ a) (hv : v < 65536) : HM.putN x a 16 v = x + v * 2 ^ a := by
 have hx64 : x < 2 ^ 64 := Nat.lt_of_lt_of_le hx (Nat.pow_le_pow_right (by omega) (by omega))
 have h1 : x + v * 2 ^ a = 2 ^ a * v + x := by rw [Nat.mul_comm, Nat.add_comm]
 have hlt : 2 ^ a * v + x < 2 ^ 64 := by
  have e : (2 : Nat) ^ 64 = 2 ^ a * 2 ^ (64 - a) := by rw [<- Nat.pow_add]; congr 1; omega
  have e2 : (2 : Nat) ^ 16 <= 2 ^ (64 - a) := Nat.pow_le_pow_right (by omega) (by omega)
  have e3 : 2 ^ a * (v + 1) <= 2 ^ a * 2 ^ (64 - a) := Nat.mul_le_mul_left _ (by omega)
  rw [Nat.mul_succ] at e3
  rw [e]
  omega
 rw [h1]
 apply Nat.eq_of_testBit_eq
 intro i
 by_cases hi : i < 64
 ·rw [HM.bit_putN x a 16 v i ha hv hi, Nat.testBit_two_pow_mul_add _ hx]
  by_cases h2 : i < a
  ·rw [if_neg (by omega), if_pos h2]
  ·rw [if_neg h2]
   by_cases h3 : i < a + 16
   ·rw [if_pos ⟨by omega, h3⟩]
   ·rw [if_neg (by omega), Nat.testBit_lt_two_pow (Nat.lt_of_lt_of_le hx (Nat.pow_le_pow_right (by omega) (by omega))), Nat.testBit_lt_two_pow (Nat.lt_of_lt_of_le hv (show 65536 <= 2 ^ (i - a) from Nat.pow_le_pow_right (n := 2) (by omega) (show 16 <= i - a by omega)))]
 ·rw [HM.bit_high (HM.putN_lt x a 16 v ha hv) (by omega), HM.bit_high hlt (by omega)]
theorem cfPut_c (x a v : Nat) (ha : a + 16 <= 64) (hx : x < 2 ^ a) (hv : v < 65536) (y : Nat) (hy : x + v * 2 ^ a = y) (w : World) :
  Calls Try.prog 57 #[.int .u64 (x : Int), .int .i64 (a : Int), .int .i64 16, .int .u64 (v : Int)] w fun e w' => e = .returned (.tuple #[.int .u64 (y : Int), .bool true]) /\ ∃ n, w' = w.drewN n := by
 have hx64 : x < 2 ^ 64 := Nat.lt_of_lt_of_le hx (Nat.pow_le_pow_right (by omega) (by omega))
 refine (Put_c x v a 16 hx64 (by omega) (by omega) (by omega) (by omega) (by omega) w).mono ?_
 rintro e w' ⟨rfl, hw⟩
 have hk : putOk a 16 v = true := by
  unfold putOk
  rw [fieldB_yes (by omega) (by omega) (by omega)]
  simpa using hv
 have e1 : putI x a 16 v = y := by
  unfold putI
  rw [if_pos hk]
  exact (put_new x a v ha hx hv).trans hy
 rw [hk, e1]
 exact ⟨rfl, hw⟩

theorem cfWord_c (t p s : Int) (w : World) :
  Calls Try.prog 46 #[.agg #[.int .i64 t, .int .i64 p, .int .i64 s]] w fun e w' => e = .returned (.tuple #[.int .u64 ((wordN t p s : Nat) : Int), .bool (rightB t p s)]) /\ Below w.heap.size w w' := by
 cases hr : rightB t p s
 ·have HP := hidp (word_no hr)
  have HK := hidp (check_no hr)
  clear hr
  go_enter Try.func46, Try.ntmps46
  go_wp2_with fail
  refine (cfCheck_c t p s _).mono ?_
  rintro e w1 ⟨rfl, hb1⟩
  rw [HK.out]
  go_wp2
  go_ret2
  exact ⟨by rw [HP.out]; rfl, Bgo (Bnew (B0 _) _) hb1⟩
 ·have HP := hidp (word_yes hr)
  have HK := hidp (check_yes hr)
  obtain ⟨⟨ht, ht'⟩, ⟨hp, hp'⟩, hs, hs'⟩ := (rightB_iff t p s).1 hr
  clear hr
  obtain ⟨t, rfl⟩ : ∃ n : Nat, t = n := ⟨t.toNat, by omega⟩
  obtain ⟨p, rfl⟩ : ∃ n : Nat, p = n := ⟨p.toNat, by omega⟩
  obtain ⟨s, rfl⟩ : ∃ n : Nat, s = n := ⟨s.toNat, by omega⟩
  go_enter Try.func46, Try.ntmps46
  go_wp2_with fail
  have hc := Held.new w 23 #[.int .i64 (t : Int), .int .i64 (p : Int), .int .i64 (s : Int)]
  refine (cfCheck_c t p s _).mono ?_
  rintro e w1 ⟨rfl, hb1⟩
  rw [HK.out]
  have hc1 := hc.keep hb1
  obtain ⟨c0, c1, c2⟩ := hc1.three
  go_wp2_with fail
  refine (cfNumbers_c t p s _).mono ?_
  rintro e w2 ⟨rfl, hb2⟩
  go_wp2_with fail
  have i0 : ∀ w : World, (Instr.index 90 (.agg #[.int .i64 0, .int .i64 (t : Int), .int .i64 1, .int .i64 16, .int .i64 16, .int .i64 (p : Int), .int .i64 4, .int .i64 1024, .int .i64 32, .int .i64 (s : Int), .int .i64 10, .int .i64 20]) (.int .i64 0)).run Try.prog w = .ok (.agg #[.int .i64 0, .int .i64 (t : Int), .int .i64 1, .int .i64 16]) w := fun _ => by kernel_rfl
  have i1 : ∀ w : World, (Instr.index 90 (.agg #[.int .i64 0, .int .i64 (t : Int), .int .i64 1, .int .i64 16, .int .i64 16, .int .i64 (p : Int), .int .i64 4, .int .i64 1024, .int .i64 32, .int .i64 (s : Int), .int .i64 10, .int .i64 20]) (.int .i64 1)).run Try.prog w = .ok (.agg #[.int .i64 16, .int .i64 (p : Int), .int .i64 4, .int .i64 1024]) w := fun _ => by kernel_rfl
  have i2 : ∀ w : World, (Instr.index 90 (.agg #[.int .i64 0, .int .i64 (t : Int), .int .i64 1, .int .i64 16, .int .i64 16, .int .i64 (p : Int), .int .i64 4, .int .i64 1024, .int .i64 32, .int .i64 (s : Int), .int .i64 10, .int .i64 20]) (.int .i64 2)).run Try.prog w = .ok (.agg #[.int .i64 32, .int .i64 (s : Int), .int .i64 10, .int .i64 20]) w := fun _ => by kernel_rfl
  refine wp_loop_rounds 4 ?_
  rw [rounds_succ]
  go_wp2_with fail
  refine (cfPut_c 0 0 t (by omega) (by omega) (by omega) t (by omega) _).mono ?_
  rintro e w3 ⟨rfl, n3, rfl⟩
  go_wp2_with fail
  rw [rounds_succ]
  go_wp2_with fail
  refine (cfPut_c t 16 p (by omega) (by omega) (by omega) (t + p * 65536) (by omega) _).mono ?_
  rintro e w3 ⟨rfl, n4, rfl⟩
  go_wp2_with fail
  rw [rounds_succ]
  go_wp2_with fail
  refine (cfPut_c (t + p * 65536) 32 s (by omega) (by omega) (by omega) (t + p * 65536 + s * 4294967296) (by omega) _).mono ?_
  rintro e w3 ⟨rfl, n5, rfl⟩
  go_wp2_with fail
  rw [rounds_succ]
  go_wp2
  go_ret2
  exact ⟨ret_word (by rw [HP.out]; omega), Bdraw (Bnew (Bdraw (Bnew (Bdraw (Bnew (Bgo (Bgo (Bnew (B0 _) _) hb1) hb2) _) _) _) _) _) _⟩
end
end Go.Proofs.Ytlpcdfcghgapkaa

namespace Go.Proofs.Ytlpcdfcghgapkaa
open Go.ChangeShapes Go.WideShapes Go.ChangeAt Go.RowKit Go.Maps
set_option linter.unusedVariables false
section
section
variable {P : Program} {ops : Array Oper} {Q : Exit -> Act -> World -> Prop} {md : Region.Mode} {l n : Nat}
end

section
variable {D : Nat} {w w' w'' : World}
end

def mark (D : Nat) : Deferred := { target := .collected D, args := #[] }
end
end Go.Proofs.Ytlpcdfcghgapkaa

namespace Go.Proofs.Ytlpcdfcghgapkaa
open Go.ChangeShapes Go.WideShapes Go.ChangeAt Go.RowKit Go.Maps
set_option linter.unusedVariables false
set_option linter.unusedSimpArgs false
section
theorem wpList_copy_at {P : Program} {w : World} {ops : Array Oper} {rest : List Oper} {o : Oper} {a : Act} {Q : Exit -> Act -> World -> Prop} (hgd : o.guard = none) (d s : Operand) (dT sT : TypeId)
  (ho : o.op = .call { callee := .builtin .copy, args := #[d, s], argTypes := #[dT, sT] }) (elem : TypeId) (hu : P.underlying dT = some (.slice elem)) (hsz : (P.info? elem).map (·.size) = some 1)
  (g off dLen dCap : Nat) (ad : Addr) (sLen sCap : Nat) (hd : a.eval d = .slice (some ⟨g, off, none⟩) dLen dCap) (hs : a.eval s = .slice (some ad) sLen sCap)
  (cur : Array Value) (t : TypeId) (hg : Held w g t cur) (cs : List Value) (hn : cs.length = Nat.min sLen dLen)
  (hsrc : ∀ j v, cs[j]? = some v -> w.cell? (ad.add j) = some v) (hfit : off + cs.length <= cur.size) (h1 : ∀ v ∈ cs, v.oneCell' = true)
  (h : ∀ w', Held w' g t (cur.toList.take off ++ (cs ++ cur.toList.drop (off + cs.length))).toArray -> Turns (fun i => i = g) w w' -> wpList P ops Q rest (a.put o.dst (goInt cs.length)) w') : wpList P ops Q (o :: rest) a w :=
 wpList_copy_own hgd d s dT sT ho elem hu hsz g off dLen dCap ad sLen sCap hd hs cur t hg cs hn hsrc hfit h1
  (h _ (setRow_heap w g cur _ t _ hg) ⟨rfl, rfl, rfl, by simp [World.setRow], fun i hi hf => setRow_other w g i _ (by omega)⟩)
end
end Go.Proofs.Ytlpcdfcghgapkaa

namespace Go.Proofs.Ytlpcdfcghgapkaa
open Go.ChangeShapes Go.WideShapes Go.ChangeAt Go.RowKit Go.Shelf
set_option linter.unusedVariables false
set_option linter.unusedSimpArgs false
section
namespace AuH
variable {H : AuH}
theorem log_few {n : Nat} (h1 : 1 <= n) (h2 : n <= 1024) : 0 <= HM.logI (n : Int) /\ HM.logI (n : Int) <= 10 := by
 have h : ∃ k : Nat, k <= 10 /\ 2 ^ k <= n /\ n < 2 ^ (k + 1) := by
  rcases Nat.lt_or_ge n 1024 with h3 | h3
  ·refine ⟨Nat.log2 n, ?_, Nat.log2_self_le (by omega), Nat.lt_log2_self⟩
   have := Nat.log2_lt (n := n) (k := 10) (by omega)
   have := this.2 h3
   omega
  ·exact ⟨10, by omega, by omega, by omega⟩
 obtain ⟨k, hk, ha, hb⟩ := h
 rw [HM.logI_at (n : Int) k (by
  have e : ((n : Int) / 2 ^ k) = ((n / 2 ^ k : Nat) : Int) := by push_cast; rfl
  rw [e]
  have := Nat.div_le_div_right (c := 2 ^ k) ha
  rw [Nat.div_self (Nat.two_pow_pos k)] at this
  omega) (by
  have e : ((n : Int) / 2 ^ (k + 1)) = ((n / 2 ^ (k + 1) : Nat) : Int) := by push_cast; rfl
  rw [e, Nat.div_eq_of_lt hb]
  omega)]
 omega
end AuH
section
attribute [local go_sem] Oper.semAt_some

end
end
end Go.Proofs.Ytlpcdfcghgapkaa

namespace Go.Proofs.Ytlpcdfcghgapkaa
open Go.ChangeShapes Go.WideShapes Go.ChangeAt Go.RowKit Go.Maps
set_option linter.unusedVariables false
set_option linter.unusedSimpArgs false
section
def upd (g : Int -> Nat) (c : Int) (v : Nat) : Int -> Nat := fun a => if a = c then v else g a
section
variable {P : Nat} {nx pv : Nat -> Int} {hd : Int} {g g' : Int -> Nat} {l l1 l2 : List Nat} {a x a' x' p : Nat}
end
end
section
structure VW (n : Nat) (K : Nat -> Option Nat) (s : Vst) : Prop where
 all : ∀ i, i < n -> ∃ v, K i = some v
 lost : s.lost = false
section
variable {n : Nat} {K : Nat -> Option Nat} {s : Vst} {c : Int} {v : Nat}
theorem VW.at_ (h : VW n K s) {i : Nat} (hi : i < n) : getV n K s (i : Int) = (match pos s.wr i with | some k => atW s.wr k | none => (K i).getD 0) := by
 have ho := opn_yes hi h.lost
 unfold getV
 rw [if_pos ho, Int.toNat_natCast]
 cases pos s.wr i <;> rfl
theorem getV_far (n : Nat) (K : Nat -> Option Nat) (s : Vst) {a : Int} (h : ¬ (0 <= a /\ a < n)) : getV n K s a = 0 := getV_no (by unfold opn; simp; intro _ h1; omega)
theorem VW.get (h : VW n K s) (c : Int) : VW n K (getS n K s c) /\ getV n K (getS n K s c) = getV n K s := by
 by_cases ho : opn n s c = true
 ·obtain ⟨i, rfl, hi, hl⟩ := opn_at ho
  cases hp : pos s.wr i with
  | some k => rw [getS_put ho hp]; exact ⟨h, rfl⟩
  | none =>
   obtain ⟨v, hv⟩ := h.all i hi
   rw [getS_known ho hp hv]
   have e1 : (noteS s i).wr = s.wr /\ (noteS s i).lost = s.lost := by unfold noteS; split <;> exact ⟨rfl, rfl⟩
   refine ⟨⟨h.all, e1.2.trans h.lost⟩, ?_⟩
   funext a
   unfold getV opn
   rw [e1.1, e1.2]
 ·rw [getS_no (by simpa using ho)]; exact ⟨h, rfl⟩
theorem VW.put (h : VW n K s) {i : Nat} (hi : i < n) (v : Nat) : VW n K (putS n s (i : Int) v) /\ getV n K (putS n s (i : Int) v) = upd (getV n K s) (i : Int) v := by
 have ho := opn_yes hi h.lost
 have hV : VW n K (putS n s (i : Int) v) := ⟨h.all, by rw [putS_yes ho]; exact h.lost⟩
 refine ⟨hV, ?_⟩
 funext a
 by_cases ha : 0 <= a /\ a < n
 ·obtain ⟨j, rfl⟩ := Int.eq_ofNat_of_zero_le ha.1
  have hj : j < n := by omega
  rw [hV.at_ hj]
  have hw : (putS n s (i : Int) v).wr = putW s.wr i v := by rw [putS_yes ho]
  rw [hw, pos_putW]
  unfold upd
  cases hp : pos s.wr i with
  | some k =>
   obtain ⟨hk, hc⟩ := pos_some hp
   rw [putW_some hp]
   simp only
   by_cases e : j = i
   ·subst e
    rw [if_pos rfl, hp]
    simp [atW, List.getD, hk]
   ·rw [if_neg (by omega), h.at_ hj]
    cases hq : pos s.wr j with
    | none => rfl
    | some m =>
     have hm := pos_some hq
     have : m ≠ k := fun e2 => by subst e2; exact e (hm.2.symm.trans hc)
     simp [atW, List.getD, List.getElem?_set_ne (Ne.symm this)]
  | none =>
   rw [putW_none hp]
   simp only
   by_cases e : j = i
   ·subst e
    rw [if_pos rfl, if_pos rfl]
    simp [atW, List.getD]
   ·rw [if_neg e, if_neg (by omega), h.at_ hj]
    cases hq : pos s.wr j with
    | none => rfl
    | some m =>
     have hm := pos_some hq
     simp [atW, List.getD, List.getElem?_append_left hm.1]
 ·rw [getV_far n K _ ha]
  unfold upd
  rw [if_neg (by omega), getV_far n K _ ha]
end

section
variable {t P s n hd : Nat} {K : Nat -> Option Nat} {st : Vst} {l l1 l2 : List Nat} {p : Nat}
end

namespace AuH
variable {H : AuH}
end AuH
section
variable {H : AuH} {n c hd : Nat} {K : Nat -> Option Nat} {l : List Nat}
end
end
section
def frB (p : Nat) : Nat := (2 + HM.logI (p : Int)).toNat
def frV (t p : Nat) (i : Nat) : Nat := if i = 0 then p else if i = frB p then 1 else if i = 30 + 4 * t then 1 + 16 * p else if i = 30 + 4 * t + 6 * (p - 1) + 1 then 1 else 0
section
variable {t p s : Nat}
theorem frB_at (h1 : 1 <= p) (h2 : p <= 1024) : (frB p : Int) = 2 + HM.logI (p : Int) /\ 2 <= frB p /\ frB p <= 12 := by
 have h := AuH.log_few h1 h2
 unfold frB
 omega
end
end
end Go.Proofs.Ytlpcdfcghgapkaa

namespace Go.Proofs.Ytlpcdfcghgapkaa
open Go.ChangeShapes Go.WideShapes Go.ChangeAt Go.RowKit
set_option linter.unusedVariables false
set_option linter.unusedSimpArgs false
section
theorem w64 {x : Int} (h : -9223372036854775808 <= x) (h' : x <= 9223372036854775807) : IntKind.i64.wrap x = x := by
 simp only [IntKind.wrap, IntKind.bits, IntKind.signed]; simp; omega

theorem r7Bin_c (k : Int) (w : World) :
  Calls Try.prog 18 #[.int .i64 k] w fun z w' => z = .returned (.int .i64 (nthI 2 11 1 k)) /\ w = w' := by
 by_cases c0 : k < 0
 ·have HN := hidp (nth_off (f := 2) (n := 11) (e := 1) (.inr (.inl c0)))
  go_enter Try.func18, Try.ntmps18
  go_wp2
  go_ret
  exact ⟨by rw [HN.out]; rfl, rfl⟩
 ·by_cases c1 : 11 <= k
  ·have HN := hidp (nth_off (f := 2) (n := 11) (e := 1) (.inr (.inr c1)))
   go_enter Try.func18, Try.ntmps18
   go_wp2
   go_ret
   exact ⟨by rw [HN.out]; rfl, rfl⟩
  ·have HN := hidp (show nthI 2 11 1 k = 2 + k by rw [nth_on (by omega) (by omega) (by omega)]; omega)
   go_enter Try.func18, Try.ntmps18
   go_wp2
   go_ret
   exact ⟨by rw [HN.out]; rfl, rfl⟩

theorem r7Cells_c (t p s : Int) (w : World) :
  Calls Try.prog 17 #[.agg #[.int .i64 t, .int .i64 p, .int .i64 s]] w fun z w' => z = .returned (.int .i64 (lC t p s)) /\ Below w.heap.size w w' := by
 have hc := Held.new w 23 #[.int .i64 t, .int .i64 p, .int .i64 s]
 cases hr : rightB t p s
 ·have HR := hidp hr
  have HN := hidp (lay_no hr).hC
  clear hr
  go_enter Try.func17, Try.ntmps17
  go_wp2_with fail
  refine (r4Right_c t p s _).mono ?_
  rintro e w1 ⟨rfl, hb1⟩
  rw [HR.out]
  have hc1 := hc.keep hb1
  obtain ⟨x0, x1, x2⟩ := hc1.three
  go_wp2
  go_ret
  exact ⟨by rw [HN.out]; rfl, Bgo (Bnew (B0 _) _) hb1⟩
 ·have HR := hidp hr
  have HN := hidp (lay_yes hr).hC
  have hn := (rightB_iff t p s).1 hr
  have t0 : 1 <= t := by omega
  have t1 : t <= 16 := by omega
  have p0 : 4 <= p := by omega
  have p1 : p <= 1024 := by omega
  clear hn
  clear hr
  go_enter Try.func17, Try.ntmps17
  go_wp2_with fail
  refine (r4Right_c t p s _).mono ?_
  rintro e w1 ⟨rfl, hb1⟩
  rw [HR.out]
  have hc1 := hc.keep hb1
  obtain ⟨x0, x1, x2⟩ := hc1.three
  go_wp2
  go_ret
  exact ⟨by rw [HN.out]; rfl, Bgo (Bnew (B0 _) _) hb1⟩

theorem r7First_c (t p s m : Int) (hr : rightB t p s = true) (hm : lM t p s = m) (w : World) :
  Calls Try.prog 51 #[.agg #[.int .i64 t, .int .i64 p, .int .i64 s]] w fun z w' => z = .returned (.int .i64 m) /\ Below w.heap.size w w' := by
 obtain ⟨f1, f2, f3, f4, f5, f6⟩ := first_far hr
 have hb := lay_bounds t p s
 rw [hm] at f1 f2 f3 f5 hb
 obtain ⟨y, hy⟩ : ∃ y, lC t p s = y := ⟨_, rfl⟩
 rw [hy] at f2 f3 f4 hb
 have y1 : y <= 6238 := by omega
 have HY := hidp hy
 clear hb hm hy hr f6
 go_enter Try.func51, Try.ntmps51
 go_wp2_with fail
 refine (r7Cells_c t p s _).mono ?_
 rintro e w1 ⟨rfl, hb1⟩
 rw [HY.out]
 have HB := hidp hb1
 clear hb1
 go_wp2
 go_loopw [3] (fun i wr => ∃ n : Int, i = .int .i64 n /\ 16 + y <= n /\ n <= m /\ wr = w1) (fun i _ => (m - intOf i).toNat)
 case atStart => exact ⟨16 + y, rfl, by omega, by omega, rfl⟩
 case round =>
  obtain ⟨n, rfl, n0, n1, rfl⟩ := hrel
  by_cases he : n % 8 = 0
  ·obtain rfl : n = m := by omega
   have g : n.tmod 8 = 0 := by rw [Int.tmod_eq_emod_of_nonneg (by omega)]; exact he
   go_wp2
   go_ret
   exact ⟨by first | rfl | trivial, Bgo (Bnew (B0 _) _) HB.out⟩
  ·have g : (n % 8 == 0) = false := by simpa using he
   go_wp2
   refine ⟨⟨n + 1, rfl, by omega, by omega, trivial⟩, ?_⟩
   simp [intOf]
   omega

set_option maxHeartbeats 1600000 in
theorem r7Words_c (t p s : Int) (w : World) :
  Calls Try.prog 28 #[.agg #[.int .i64 t, .int .i64 p, .int .i64 s]] w fun z w' => z = .returned (.int .i64 (lW t p s)) /\ Below w.heap.size w w' := by
 have hc := Held.new w 23 #[.int .i64 t, .int .i64 p, .int .i64 s]
 cases hr : rightB t p s
 ·have HR := hidp hr
  have HN := hidp (show lW t p s = 0 by unfold lW; rw [(lay_no hr).hM, (lay_no hr).hK]; rfl)
  clear hr
  go_enter Try.func28, Try.ntmps28
  go_wp2_with fail
  refine (r4Right_c t p s _).mono ?_
  rintro e w1 ⟨rfl, hb1⟩
  rw [HR.out]
  have hc1 := hc.keep hb1
  obtain ⟨x0, x1, x2⟩ := hc1.three
  go_wp2
  go_ret
  exact ⟨by rw [HN.out]; rfl, Bgo (Bnew (B0 _) _) hb1⟩
 ·have HR := hidp hr
  obtain ⟨m, hm⟩ : ∃ m, lM t p s = m := ⟨_, rfl⟩
  have hb := (lay_bounds t p s)
  rw [hm] at hb
  have m0 : 0 <= m := by omega
  have m1 : m <= 6256 := by omega
  have HN := hidp (show lW t p s = m + 120 * (t + 1) by unfold lW; rw [hm, (lay_yes hr).hK]; omega)
  have HM := hidp hm
  have hn := (rightB_iff t p s).1 hr
  have t0 : 1 <= t := by omega
  have t1 : t <= 16 := by omega
  have p0 : 4 <= p := by omega
  have p1 : p <= 1024 := by omega
  clear hn
  clear hr hb hm
  go_enter Try.func28, Try.ntmps28
  go_wp2_with fail
  refine (r4Right_c t p s _).mono ?_
  rintro e w1 ⟨rfl, hb1⟩
  rw [HR.out]
  have hc1 := hc.keep hb1
  obtain ⟨x0, x1, x2⟩ := hc1.three
  go_wp2_with fail
  go_region_held3 (fun w' => w'.cell? ⟨w.heap.size, 0, none⟩ = some (.int .i64 t) /\ w'.cell? ⟨w.heap.size, 1, none⟩ = some (.int .i64 p) /\ w'.cell? ⟨w.heap.size, 2, none⟩ = some (.int .i64 s))
   (first | exact ⟨x0, x1, x2⟩ | go_keep | exact ⟨hst _ _ (by assumption), hst _ _ (by assumption), hst _ _ (by assumption)⟩)
   (first
    | (go_at_call 51; refine (r7First_c t p s m HR.out HM.out _).mono ?_; rintro e w' ⟨rfl, hbl⟩; have hst := cells_stay hbl))
  go_wp2
  go_ret
  have W1 := w64 (x := t + 1) (by omega) (by omega)
  have W2 := w64 (x := 120 * (t + 1)) (by omega) (by omega)
  have W3 := w64 (x := m + 120 * (t + 1)) (by omega) (by omega)
  refine ⟨by rw [HN.out]; exact ret_int (by rw [W1, W2, W3]), ?_⟩
  all_goals exact blz

set_option maxHeartbeats 1600000 in
theorem r7Page_c (t p s q b : Int) (b0 : 0 <= b) (b1 : b < 6) (w : World) :
  Calls Try.prog 45 #[.agg #[.int .i64 t, .int .i64 p, .int .i64 s], .int .i64 q, .int .i64 b] w fun z w' => z = .returned (.int .i64 (pageI t p s q b)) /\ Below w.heap.size w w' := by
 have hc := Held.new w 23 #[.int .i64 t, .int .i64 p, .int .i64 s]
 cases hr : rightB t p s
 ·have HR := hidp hr
  have HN := hidp (show pageI t p s q b = -1 from pcell_no (by intro h; rw [h.1] at hr; cases hr))
  clear hr
  go_enter Try.func45, Try.ntmps45
  go_wp2_with fail
  refine (r4Right_c t p s _).mono ?_
  rintro e w1 ⟨rfl, hb1⟩
  rw [HR.out]
  have hc1 := hc.keep hb1
  obtain ⟨x0, x1, x2⟩ := hc1.three
  go_wp2
  go_ret
  refine ⟨by rw [HN.out]; rfl, ?_⟩
  all_goals exact blz
 ·have HR := hidp hr
  have hn := (rightB_iff t p s).1 hr
  have t0 : 1 <= t := by omega
  have t1 : t <= 16 := by omega
  have p0 : 4 <= p := by omega
  have p1 : p <= 1024 := by omega
  clear hn
  by_cases c0 : q < 0
  ·clear hr
   have HN := hidp (show pageI t p s q b = -1 from pcell_no (by intro h; omega))
   go_enter Try.func45, Try.ntmps45
   go_wp2_with fail
   refine (r4Right_c t p s _).mono ?_
   rintro e w1 ⟨rfl, hb1⟩
   rw [HR.out]
   have hc1 := hc.keep hb1
   obtain ⟨x0, x1, x2⟩ := hc1.three
   go_wp2
   go_ret
   refine ⟨by rw [HN.out]; rfl, ?_⟩
   all_goals exact blz
  ·skip
   by_cases c1 : p <= q
   ·clear hr
    have HN := hidp (show pageI t p s q b = -1 from pcell_no (by intro h; omega))
    go_enter Try.func45, Try.ntmps45
    go_wp2_with fail
    refine (r4Right_c t p s _).mono ?_
    rintro e w1 ⟨rfl, hb1⟩
    rw [HR.out]
    have hc1 := hc.keep hb1
    obtain ⟨x0, x1, x2⟩ := hc1.three
    go_wp2
    go_ret
    refine ⟨by rw [HN.out]; rfl, ?_⟩
    all_goals exact blz
   ·skip
    have HN := hidp (show pageI t p s q b = 30 + 4 * t + 6 * q + b from pcell_yes hr (by omega) (by omega) b0 b1)
    clear hr
    go_enter Try.func45, Try.ntmps45
    go_wp2_with fail
    refine (r4Right_c t p s _).mono ?_
    rintro e w1 ⟨rfl, hb1⟩
    rw [HR.out]
    have hc1 := hc.keep hb1
    obtain ⟨x0, x1, x2⟩ := hc1.three
    go_wp2
    go_ret
    refine ⟨by rw [HN.out]; rfl, ?_⟩
    all_goals exact blz

theorem r7Info_c (t p s q : Int) (w : World) :
  Calls Try.prog 21 #[.agg #[.int .i64 t, .int .i64 p, .int .i64 s], .int .i64 q] w fun z w' => z = .returned (.int .i64 (pageI t p s q 0)) /\ Below w.heap.size w w' := by
 go_enter Try.func21, Try.ntmps21
 go_wp2_with fail
 refine (r7Page_c t p s q 0 (by omega) (by omega) _).mono ?_
 rintro e w1 ⟨rfl, hb1⟩
 go_wp2
 go_ret
 exact ⟨by first | rfl | trivial, Bgo (Bnew (B0 _) _) hb1⟩

theorem r7Foot_c (t p s q : Int) (w : World) :
  Calls Try.prog 22 #[.agg #[.int .i64 t, .int .i64 p, .int .i64 s], .int .i64 q] w fun z w' => z = .returned (.int .i64 (pageI t p s q 1)) /\ Below w.heap.size w w' := by
 go_enter Try.func22, Try.ntmps22
 go_wp2_with fail
 refine (r7Page_c t p s q 1 (by omega) (by omega) _).mono ?_
 rintro e w1 ⟨rfl, hb1⟩
 go_wp2
 go_ret
 exact ⟨by first | rfl | trivial, Bgo (Bnew (B0 _) _) hb1⟩
end
end Go.Proofs.Ytlpcdfcghgapkaa

namespace Go.Proofs.Ytlpcdfcghgapkaa
open Go.ChangeShapes Go.WideShapes Go.ChangeAt Go.RowKit Go.Maps
set_option linter.unusedVariables false
set_option linter.unusedSimpArgs false
set_option maxRecDepth 100000
section
structure Blk where
 n : Nat
 t : TypeId
 cs : Array Value
def GB (G : Nat -> Prop) (L : List Blk) : Nat -> Prop := fun g => G g \/ ∃ x, x ∈ L /\ x.n = g

structure WL (O : Ob) (w0 : World) (A G : Nat -> Prop) (ws : World) (L : List Blk) (st : Vst) (w : World) : Prop where
 at_ : O.At w0 A (GB G L) st w
 held : ∀ x ∈ L, Held w x.n x.t x.cs
 stay : Stay G ws w
 lo : ∀ x ∈ L, ws.heap.size <= x.n
 nd : (L.map (·.n)).Nodup

section
variable {O : Ob} {w0 ws w w' : World} {A G : Nat -> Prop} {L : List Blk} {x y z : Blk} {st s' : Vst}
theorem WL.start (h : O.At w0 A G st ws) : WL O w0 A G ws [] st ws :=
 ⟨h.less (fun g hg => by
  rcases hg with hg | ⟨x, hx, _⟩
  ·exact hg
  ·exact absurd hx (List.not_mem_nil)), fun x hx => absurd hx (List.not_mem_nil), Stay.of_below (B0 _) G, fun x hx => absurd hx (List.not_mem_nil), List.nodup_nil⟩
theorem WL.keep (h : WL O w0 A G ws L st w) (hb : Below w.heap.size w w') : WL O w0 A G ws L st w' :=
 ⟨h.at_.keep hb, fun x hx => (h.held x hx).keep hb, h.stay.trans (Stay.of_below hb G), h.lo, h.nd⟩
theorem WL.drew (h : WL O w0 A G ws L st w) : WL O w0 A G ws L st w.drew := h.keep (Bdrew (B0 w))
theorem WL.alloc (h : WL O w0 A G ws L st w) (o : Obj) : WL O w0 A G ws L st (w.alloc o) := h.keep (Bnew (B0 w) o)
theorem WL.call (h : WL O w0 A G ws L st w) (h1 : O.At w0 A (GB G L) s' w') (h2 : Stay (GB G L) w w') : WL O w0 A G ws L s' w' :=
 ⟨h1, fun x hx => h2.held (.inr ⟨x, hx, rfl⟩) (h.held x hx), h.stay.trans (h2.less fun g x => .inl x), h.lo, h.nd⟩
theorem WL.fin (h : WL O w0 A G ws L st w) : O.At w0 A G st w /\ Stay G ws w := ⟨h.at_.less fun g x => .inl x, h.stay⟩
theorem WL.new (h : WL O w0 A G ws L st w) (t : TypeId) (cs : Array Value) : WL O w0 A G ws (⟨w.heap.size, t, cs⟩ :: L) st (w.alloc (.cells cs t)) := by
 have hk := h.alloc (.cells cs t)
 refine ⟨(h.at_.box (.cells cs t)).less (fun g hg => ?_), fun x hx => ?_, hk.stay, fun x hx => ?_, ?_⟩
 ·rcases hg with hg | ⟨x, hx, rfl⟩
  ·exact .inl (.inl hg)
  ·rcases List.mem_cons.1 hx with rfl | hx
   ·exact .inr rfl
   ·exact .inl (.inr ⟨x, hx, rfl⟩)
 ·rcases List.mem_cons.1 hx with rfl | hx
  ·exact Held.new w t cs
  ·exact hk.held x hx
 ·rcases List.mem_cons.1 hx with rfl | hx
  ·exact h.stay.1
  ·exact h.lo x hx
 ·rw [List.map_cons]
  refine List.nodup_cons.2 ⟨fun hm => ?_, h.nd⟩
  obtain ⟨x, hx, e⟩ := List.mem_map.1 hm
  have h1 := (h.held x hx).lt
  have e : x.n = w.heap.size := e
  omega
theorem WL.h0 (h : WL O w0 A G ws (x :: L) st w) : Held w x.n x.t x.cs := h.held x (List.mem_cons_self ..)
end
end
end Go.Proofs.Ytlpcdfcghgapkaa

namespace Go.Proofs.Ytlpcdfcghgapkaa
open Go.ChangeShapes Go.WideShapes Go.ChangeAt Go.RowKit Go.Maps
set_option linter.unusedVariables false
set_option linter.unusedSimpArgs false
section
def ofI (n : Int) : Int := if n < 1 \/ 1024 < n then -1 else HM.logI n
theorem ofI_nat {n : Nat} (h1 : 1 <= n) (h2 : n <= 1024) : ∃ k : Nat, ofI (n : Int) = k /\ k <= 10 /\ 2 ^ k <= n /\ n < 2 ^ (k + 1) := by
 have h : ∃ k : Nat, k <= 10 /\ 2 ^ k <= n /\ n < 2 ^ (k + 1) := by
  rcases Nat.lt_or_ge n 1024 with h3 | h3
  ·refine ⟨Nat.log2 n, ?_, Nat.log2_self_le (by omega), Nat.lt_log2_self⟩
   have := Nat.log2_lt (n := n) (k := 10) (by omega)
   have := this.2 h3
   omega
  ·exact ⟨10, by omega, by omega, by omega⟩
 obtain ⟨k, hk, ha, hb⟩ := h
 refine ⟨k, ?_, hk, ha, hb⟩
 unfold ofI
 rw [if_neg (by omega)]
 exact HM.logI_at (n : Int) k (by
  have e : ((n : Int) / 2 ^ k) = ((n / 2 ^ k : Nat) : Int) := by push_cast; rfl
  rw [e]
  have := Nat.div_le_div_right (c := 2 ^ k) ha
  rw [Nat.div_self (Nat.two_pow_pos k)] at this
  omega) (by
  have e : ((n : Int) / 2 ^ (k + 1)) = ((n / 2 ^ (k + 1) : Nat) : Int) := by push_cast; rfl
  rw [e, Nat.div_eq_of_lt hb]
  omega)

section
variable (n : Nat) (K : Nat -> Option Nat) (t q s nn : Int)
end

def binH (nn : Int) : Int := nthI 2 11 1 (ofI nn)
theorem binH_nat {nn k : Nat} (h : ofI (nn : Int) = (k : Int)) (hk : k <= 10) : binH (nn : Int) = ((2 + k : Nat) : Int) := by
 unfold binH
 rw [h, nth_on (by omega) (by omega) (by omega)]
 push_cast
 omega
section
variable (n : Nat) (K : Nat -> Option Nat) (t q s : Int)
def addS (p nn : Int) (st : Vst) : Vst := if pgB q p = true /\ 1 <= nn /\ nn <= q - p then pushI n K t q s (binH nn) p (putS n (putS n st (pageI t q s p 0) (infoV 1 nn 0)) (pageI t q s (p + nn - 1) 1) (p.toNat + 1)) else st
end
end
end Go.Proofs.Ytlpcdfcghgapkaa

namespace Go.Proofs.Ytlpcdfcghgapkaa
open Go.ChangeShapes Go.WideShapes Go.ChangeAt Go.RowKit Go.Maps
set_option linter.unusedVariables false
set_option linter.unusedSimpArgs false
set_option maxRecDepth 100000
section
theorem Held.drw {w : World} {g : Nat} {t : TypeId} {cs : Array Value} (h : Held w g t cs) : Held w.drew g t cs := h
section
variable {w : World} {g : Nat} {t : TypeId} {c0 c1 c2 c3 c4 c5 : Value}
theorem Held.six' (h : Held w g t #[c0, c1, c2, c3, c4, c5]) : w.cell? ⟨g, 0, none⟩ = some c0 /\ w.cell? ⟨g, 1, none⟩ = some c1 /\ w.cell? ⟨g, 2, none⟩ = some c2 /\ w.cell? ⟨g, 3, none⟩ = some c3 /\ w.cell? ⟨g, 4, none⟩ = some c4 /\ w.cell? ⟨g, 5, none⟩ = some c5 := ⟨h.cell 0, h.cell 1, h.cell 2, h.cell 3, h.cell 4, h.cell 5⟩
end

theorem lkIs_c (b : Nat) (t q s hd p : Int) (w : World) :
  Calls Try.prog 60 #[.agg #[.pointer (some ⟨b, 0, none⟩), .int .i64 t, .int .i64 q, .int .i64 s, .int .i64 hd, .int .i64 p]] w fun e w' => e = .returned (.bool (pgB q p)) /\ Below w.heap.size w w' := by
 have hB := Bnew (B0 w) (.cells #[.pointer (some ⟨b, 0, none⟩), .int .i64 t, .int .i64 q, .int .i64 s, .int .i64 hd, .int .i64 p] 84)
 obtain ⟨x0, x1, x2, x3, x4, x5⟩ := (Held.new w 84 #[.pointer (some ⟨b, 0, none⟩), .int .i64 t, .int .i64 q, .int .i64 s, .int .i64 hd, .int .i64 p]).six'
 unfold pgB
 by_cases h0 : 0 <= p
 ·have t0 : decide ((0 : Int) <= p) = true := decide_eq_true h0
  obtain ⟨c, t1⟩ : ∃ c, decide (p < q) = c := ⟨_, rfl⟩
  rw [t0, t1]
  cases c with
  | true =>
   go_enter Try.func60, Try.ntmps60
   go_wp2
   go_ret
   exact ⟨rfl, hB⟩
  | false =>
   go_enter Try.func60, Try.ntmps60
   go_wp2
   go_ret
   exact ⟨rfl, hB⟩
 ·have t0 : decide ((0 : Int) <= p) = false := decide_eq_false h0
  rw [t0]
  go_enter Try.func60, Try.ntmps60
  go_wp2
  go_ret
  exact ⟨rfl, hB⟩

theorem lkLink_c (b : Nat) (t q s hd : Int) (k : Nat) (hk : k < 2 ^ 31) (w : World) :
  Calls Try.prog 65 #[.agg #[.pointer (some ⟨b, 0, none⟩), .int .i64 t, .int .i64 q, .int .i64 s, .int .i64 hd, .int .i64 (k : Int)]] w fun e w' => e = .returned (.int .u32 ((k + 1 : Nat) : Int)) /\ Below w.heap.size w w' := by
 have hB := Bnew (B0 w) (.cells #[.pointer (some ⟨b, 0, none⟩), .int .i64 t, .int .i64 q, .int .i64 s, .int .i64 hd, .int .i64 (k : Int)] 84)
 go_enter Try.func65, Try.ntmps65
 go_wp2
 go_ret
 exact ⟨by simp, hB⟩

set_option maxHeartbeats 1600000 in
theorem lkTo_c (b : Nat) (t q s hd : Int) (l : Nat) (hl : l < 2 ^ 32) (w : World) :
  Calls Try.prog 64 #[.agg #[.pointer (some ⟨b, 0, none⟩), .int .i64 t, .int .i64 q, .int .i64 s, .int .i64 hd], .int .u32 (l : Int)] w fun e w' => e = .returned (.agg #[.pointer (some ⟨b, 0, none⟩), .int .i64 t, .int .i64 q, .int .i64 s, .int .i64 hd, .int .i64 ((l : Int) - 1)]) /\ Below w.heap.size w w' := by
 go_enter Try.func64, Try.ntmps64
 go_wp2
 have hfin := Held.new2 w (.cells #[.pointer (some ⟨b, 0, none⟩), .int .i64 t, .int .i64 q, .int .i64 s, .int .i64 hd] 82) 84 #[.pointer (some ⟨b, 0, none⟩), .int .i64 t, .int .i64 q, .int .i64 s, .int .i64 hd, .int .i64 ((l : Int) - 1)]
 obtain ⟨r0, r1, r2, r3, r4, r5⟩ := hfin.six'
 refine bodyPost_ret (v := .agg #[.pointer (some ⟨b, 0, none⟩), .int .i64 t, .int .i64 q, .int .i64 s, .int .i64 hd, .int .i64 ((l : Int) - 1)]) (by simp [results, Try.results64, go_sem, r0, r1, r2, r3, r4, r5]) rfl ⟨rfl, ?_⟩
 exact Bnew (Bnew (B0 _) _) _

section
variable {base b n : Nat} {wh : Bool} {K : Nat -> Option Nat} {st : Vst} {w w0 : World} {A G : Nat -> Prop} {t q s hd p : Int}

theorem lkFirst_c (hn : n < 2 ^ 40) (h : (vOb base b n wh K).At w0 A G st w) :
  Calls Try.prog 61 #[.agg #[.pointer (some ⟨b, 0, none⟩), .int .i64 t, .int .i64 q, .int .i64 s, .int .i64 hd]] w fun e w' => e = .returned (.int .u32 ((getV n K st hd : Nat) : Int)) /\ (vOb base b n wh K).At w0 A G (getS n K st hd) w' /\ Stay G w w' := by
 have HA := hidp (h.alloc (.cells #[.pointer (some ⟨b, 0, none⟩), .int .i64 t, .int .i64 q, .int .i64 s, .int .i64 hd] 82))
 have hS : Stay G w (w.alloc (.cells #[.pointer (some ⟨b, 0, none⟩), .int .i64 t, .int .i64 q, .int .i64 s, .int .i64 hd] 82)) := Stay.of_below (Bnew (B0 w) _) G
 clear h
 go_enter Try.func61, Try.ntmps61
 go_wp2_with fail
 refine (vGetA hn hd HA.out).mono ?_
 rintro e w1 ⟨rfl, h1, h2⟩
 go_wp2
 go_ret
 exact ⟨rfl, h1, hS.trans h2⟩

theorem lkSetFirst_c (hn : n < 2 ^ 40) (l : Nat) (hl : l < 2 ^ 32) (h : (vOb base b n wh K).At w0 A G st w) :
  Calls Try.prog 66 #[.agg #[.pointer (some ⟨b, 0, none⟩), .int .i64 t, .int .i64 q, .int .i64 s, .int .i64 hd], .int .u32 (l : Int)] w fun e w' => e = .returned (.tuple #[]) /\ (vOb base b n wh K).At w0 A G (putS n st hd l) w' /\ Stay G w w' := by
 have HA := hidp (h.alloc (.cells #[.pointer (some ⟨b, 0, none⟩), .int .i64 t, .int .i64 q, .int .i64 s, .int .i64 hd] 82))
 have hS : Stay G w (w.alloc (.cells #[.pointer (some ⟨b, 0, none⟩), .int .i64 t, .int .i64 q, .int .i64 s, .int .i64 hd] 82)) := Stay.of_below (Bnew (B0 w) _) G
 clear h
 go_enter Try.func66, Try.ntmps66
 go_wp2_with fail
 refine (vPutA hn hd l hl HA.out).mono ?_
 rintro e w1 ⟨rfl, h1, h2⟩
 go_wp2
 go_end0
 exact ⟨rfl, h1, hS.trans h2⟩

set_option maxHeartbeats 1600000 in
theorem lkSetNext_c (hn : n < 2 ^ 40) (l : Nat) (hl : l < 2 ^ 32) (h : (vOb base b n wh K).At w0 A G st w) :
  Calls Try.prog 62 #[.agg #[.pointer (some ⟨b, 0, none⟩), .int .i64 t, .int .i64 q, .int .i64 s, .int .i64 hd, .int .i64 p], .int .u32 (l : Int)] w fun e w' => e = .returned (.tuple #[]) /\ (vOb base b n wh K).At w0 A G (putS n st (pageI t q s p 2) l) w' /\ Stay G w w' := by
 have HA := hidp (h.box (.cells #[.pointer (some ⟨b, 0, none⟩), .int .i64 t, .int .i64 q, .int .i64 s, .int .i64 hd, .int .i64 p] 84))
 have HC := hidp (Held.new w 84 #[.pointer (some ⟨b, 0, none⟩), .int .i64 t, .int .i64 q, .int .i64 s, .int .i64 hd, .int .i64 p])
 have HS := hidp (Stay.of_below (Bnew (B0 w) (.cells #[.pointer (some ⟨b, 0, none⟩), .int .i64 t, .int .i64 q, .int .i64 s, .int .i64 hd, .int .i64 p] 84)) G)
 clear h
 go_enter Try.func62, Try.ntmps62
 go_wp2_with fail
 refine wp_region_held_drew (S := (fun w' => w'.cell? ⟨w.heap.size, 0, none⟩ = some (.pointer (some ⟨b, 0, none⟩)) /\ w'.cell? ⟨w.heap.size, 1, none⟩ = some (.int .i64 t) /\ w'.cell? ⟨w.heap.size, 2, none⟩ = some (.int .i64 q) /\ w'.cell? ⟨w.heap.size, 3, none⟩ = some (.int .i64 s) /\ w'.cell? ⟨w.heap.size, 4, none⟩ = some (.int .i64 hd) /\ w'.cell? ⟨w.heap.size, 5, none⟩ = some (.int .i64 p))) (by kernel_rfl) ?_ (fun hHeld => ?_)
 ·(try dsimp only)
  first | exact HC.out.drw.six' | exact HC1.out.six' | exact HC2.out.six' | exact hHeld
 refine tkz 0 ?_
 refine tkz 1 ?_
 refine tkz 2 ?_
 refine tkz 3 ?_
 refine tkz 4 ?_
 refine tkz 5 ?_
 refine tkz 6 ?_
 refine tkz 7 ?_
 refine tkz 9 ?_
 refine rdz 8 fun K hK => ?_
 go_simp
 refine (plNext_c _ _ _ _ _).mono ?_; rintro e w1 ⟨rfl, hb1⟩; have HA1 := hidp (HA.out.drew.keep hb1); have HC1 := hidp (HC.out.drw.keep hb1); have HS1 := hidp ((HS.out.trans (Stay.of_below (Bdrew (B0 _)) _)).trans (Stay.of_below hb1 _)); clear HA HC HS hb1
 refine hK.out _ _ ?_ (fun hHeld => ?_)
 ·(try dsimp only)
  first | exact HC.out.drw.six' | exact HC1.out.six' | exact HC2.out.six' | exact hHeld
 clear hK K
 (try simp only [Act.put, gA, gB, gC, sA, sB, sC])
 refine rdz 10 fun K hK => ?_
 go_simp
 refine (vPutA hn _ l hl HA1.out).mono ?_; rintro e w2 ⟨rfl, h1, h2⟩; have HA2 := hidp (h1.less fun g x => Or.inl x); have HC2 := hidp (h2.held (Or.inr rfl) HC1.out); have HS2 := hidp (HS1.out.trans (h2.less fun g x => Or.inl x)); clear HA1 HC1 HS1 h1 h2
 refine hK.out _ _ ?_ (fun hHeld => ?_)
 ·(try dsimp only)
  first | exact HC.out.drw.six' | exact HC1.out.six' | exact HC2.out.six' | exact hHeld
 clear hK K
 (try simp only [Act.put, gA, gB, gC, sA, sB, sC])
 refine dnz ?_
 go_wp2
 go_end0
 exact ⟨rfl, HA2.out, HS2.out⟩

set_option maxHeartbeats 1600000 in
theorem lkSetPrev_c (hn : n < 2 ^ 40) (l : Nat) (hl : l < 2 ^ 32) (h : (vOb base b n wh K).At w0 A G st w) :
  Calls Try.prog 63 #[.agg #[.pointer (some ⟨b, 0, none⟩), .int .i64 t, .int .i64 q, .int .i64 s, .int .i64 hd, .int .i64 p], .int .u32 (l : Int)] w fun e w' => e = .returned (.tuple #[]) /\ (vOb base b n wh K).At w0 A G (putS n st (pageI t q s p 3) l) w' /\ Stay G w w' := by
 have HA := hidp (h.box (.cells #[.pointer (some ⟨b, 0, none⟩), .int .i64 t, .int .i64 q, .int .i64 s, .int .i64 hd, .int .i64 p] 84))
 have HC := hidp (Held.new w 84 #[.pointer (some ⟨b, 0, none⟩), .int .i64 t, .int .i64 q, .int .i64 s, .int .i64 hd, .int .i64 p])
 have HS := hidp (Stay.of_below (Bnew (B0 w) (.cells #[.pointer (some ⟨b, 0, none⟩), .int .i64 t, .int .i64 q, .int .i64 s, .int .i64 hd, .int .i64 p] 84)) G)
 clear h
 go_enter Try.func63, Try.ntmps63
 go_wp2_with fail
 refine wp_region_held_drew (S := (fun w' => w'.cell? ⟨w.heap.size, 0, none⟩ = some (.pointer (some ⟨b, 0, none⟩)) /\ w'.cell? ⟨w.heap.size, 1, none⟩ = some (.int .i64 t) /\ w'.cell? ⟨w.heap.size, 2, none⟩ = some (.int .i64 q) /\ w'.cell? ⟨w.heap.size, 3, none⟩ = some (.int .i64 s) /\ w'.cell? ⟨w.heap.size, 4, none⟩ = some (.int .i64 hd) /\ w'.cell? ⟨w.heap.size, 5, none⟩ = some (.int .i64 p))) (by kernel_rfl) ?_ (fun hHeld => ?_)
 ·(try dsimp only)
  first | exact HC.out.drw.six' | exact HC1.out.six' | exact HC2.out.six' | exact hHeld
 refine tkz 0 ?_
 refine tkz 1 ?_
 refine tkz 2 ?_
 refine tkz 3 ?_
 refine tkz 4 ?_
 refine tkz 5 ?_
 refine tkz 6 ?_
 refine tkz 7 ?_
 refine tkz 9 ?_
 refine rdz 8 fun K hK => ?_
 go_simp
 refine (plPrev_c _ _ _ _ _).mono ?_; rintro e w1 ⟨rfl, hb1⟩; have HA1 := hidp (HA.out.drew.keep hb1); have HC1 := hidp (HC.out.drw.keep hb1); have HS1 := hidp ((HS.out.trans (Stay.of_below (Bdrew (B0 _)) _)).trans (Stay.of_below hb1 _)); clear HA HC HS hb1
 refine hK.out _ _ ?_ (fun hHeld => ?_)
 ·(try dsimp only)
  first | exact HC.out.drw.six' | exact HC1.out.six' | exact HC2.out.six' | exact hHeld
 clear hK K
 (try simp only [Act.put, gA, gB, gC, sA, sB, sC])
 refine rdz 10 fun K hK => ?_
 go_simp
 refine (vPutA hn _ l hl HA1.out).mono ?_; rintro e w2 ⟨rfl, h1, h2⟩; have HA2 := hidp (h1.less fun g x => Or.inl x); have HC2 := hidp (h2.held (Or.inr rfl) HC1.out); have HS2 := hidp (HS1.out.trans (h2.less fun g x => Or.inl x)); clear HA1 HC1 HS1 h1 h2
 refine hK.out _ _ ?_ (fun hHeld => ?_)
 ·(try dsimp only)
  first | exact HC.out.drw.six' | exact HC1.out.six' | exact HC2.out.six' | exact hHeld
 clear hK K
 (try simp only [Act.put, gA, gB, gC, sA, sB, sC])
 refine dnz ?_
 go_wp2
 go_end0
 exact ⟨rfl, HA2.out, HS2.out⟩

end
end
end Go.Proofs.Ytlpcdfcghgapkaa
