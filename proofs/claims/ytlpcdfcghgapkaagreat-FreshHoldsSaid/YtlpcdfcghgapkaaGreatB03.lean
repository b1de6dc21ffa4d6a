/-
  Contracts of package info and of nacreref09: which infos are right, their values, and which info a value is.
-/
import Derived.Test.YtlpcdfcghgapkaaGreatB02
import Derived.Deep.RegionHeld3
import Derived.IntWalk
import Derived.KernelRfl
import Derived.Test.YtlpcdfcghgapkaaGreatB01
import Derived.RegionTactic
import Derived.ChangeAlike
import Derived.BigQuiet
import Derived.Test.YtlpcdfcghgapkaaGreatBKit
import Derived.RangeFuncNested
import Derived.RangeFuncBound
import Derived.RangeFuncLeaves
import Derived.Shelf.Abstract
import Derived.Shelf.RegionOpen
import Derived.WalkKit
import Derived.OwnWalkIn
import Derived.TacticsInMore
import Derived.LoopNIn
import Derived.LoopIn
import Derived.Laws.BitsAllLaws
import Derived.Laws.CopyOwn
import Derived.Laws.MakeOwn
import Derived.Deep.RegionLaw
namespace Go.Proofs.YtlpcdfcghgapkaaGreat
open Go.ChangeShapes Go.WideShapes Go.ChangeAt Go.RowKit
set_option linter.unusedVariables false
set_option linter.unusedSimpArgs false
section
def infoP (k l c : Int) : Prop := (k = 0 /\ l = 0 /\ c = 0) \/ ((k = 1 \/ k = 2) /\ 1 <= l /\ l <= 1024 /\ c = 0) \/ (k = 3 /\ l = 1 /\ 0 <= c /\ c <= 8)
instance (k l c : Int) : Decidable (infoP k l c) := by unfold infoP; infer_instance
def infoB (k l c : Int) : Bool := decide (infoP k l c)
theorem infoB_yes {k l c : Int} (h : infoP k l c) : infoB k l c = true := decide_eq_true h
theorem infoB_iff {k l c : Int} (h : infoB k l c = true) : infoP k l c := of_decide_eq_true h
def infoV (k l c : Int) : Nat := if infoB k l c then k.toNat + 16 * l.toNat + 65536 * c.toNat else 0
theorem infoV_yes {k l c : Int} (h : infoB k l c = true) : infoV k l c = k.toNat + 16 * l.toNat + 65536 * c.toNat := by unfold infoV; rw [if_pos h]
theorem infoV_no {k l c : Int} (h : infoB k l c = false) : infoV k l c = 0 := by unfold infoV; rw [h]; rfl

set_option maxHeartbeats 1600000 in
theorem inIsRight_c (k l c : Int) (w : World) :
  Calls Tryz.prog 52 #[.agg #[.int .i64 k, .int .i64 l, .int .i64 c]] w fun e w' => e = .returned (.bool (infoB k l c)) /\ Below w.heap.size w w' := by
 have hC : ∃ b, infoB k l c = b := ⟨_, rfl⟩
 obtain ⟨b, hb⟩ := hC
 rw [hb]
 have hcase : (k = 3 /\ l ≠ 1 /\ b = false) \/ (k = 3 /\ l = 1 /\ c < 0 /\ b = false) \/ (k = 3 /\ l = 1 /\ 0 <= c /\ 9 <= c /\ b = false) \/ (k = 3 /\ l = 1 /\ 0 <= c /\ c < 9 /\ b = true) \/
   ((k = 1 \/ k = 2) /\ l < 1 /\ b = false) \/ ((k = 1 \/ k = 2) /\ 1 <= l /\ 1024 < l /\ b = false) \/ ((k = 1 \/ k = 2) /\ 1 <= l /\ l <= 1024 /\ c ≠ 0 /\ b = false) \/ ((k = 1 \/ k = 2) /\ 1 <= l /\ l <= 1024 /\ c = 0 /\ b = true) \/
   (k = 0 /\ l ≠ 0 /\ b = false) \/ (k = 0 /\ l = 0 /\ c ≠ 0 /\ b = false) \/ (k = 0 /\ l = 0 /\ c = 0 /\ b = true) \/ (k ≠ 0 /\ k ≠ 1 /\ k ≠ 2 /\ k ≠ 3 /\ b = false) := by
  cases b
  ·have h : ¬ infoP k l c := of_decide_eq_false hb
   unfold infoP at h
   simp only [and_true, reduceCtorEq, and_false, or_false, false_or]
   omega
  ·have h : infoP k l c := infoB_iff hb
   unfold infoP at h
   simp only [and_true, reduceCtorEq, and_false, or_false, false_or]
   omega
 clear hb
 rcases hcase with ⟨rfl, h1, rfl⟩ | ⟨rfl, rfl, h1, rfl⟩ | ⟨rfl, rfl, h1, h2, rfl⟩ | ⟨rfl, rfl, h1, h2, rfl⟩ | ⟨rfl | rfl, h1, rfl⟩ | ⟨rfl | rfl, h1, h2, rfl⟩ | ⟨rfl | rfl, h1, h2, h3, rfl⟩ | ⟨rfl | rfl, h1, h2, rfl, rfl⟩ | ⟨rfl, h1, rfl⟩ | ⟨rfl, rfl, h1, rfl⟩ | ⟨rfl, rfl, rfl, rfl⟩ | ⟨h0, h1, h2, h3, rfl⟩
 all_goals
  go_enter Tryz.func52, Tryz.ntmps52
  go_wp2
  go_ret
  refine ⟨by first | rfl | (refine ret_bool ?_; simp; done) | (refine ret_bool ?_; simp; omega), ?_⟩
  repeat (first | exact B0 _ | (with_reducible refine Bdrew ?_) | (with_reducible refine Bdraw ?_ _) | (with_reducible refine Bnew ?_ _) | (refine Bput ?_ (Nat.le_refl _) _))
set_option maxHeartbeats 1600000 in
theorem r9Right_c (k l c : Int) (w : World) :
  Calls Tryz.prog 114 #[.agg #[.int .i64 k, .int .i64 l, .int .i64 c]] w fun e w' => e = .returned (.bool (infoB k l c)) /\ Below w.heap.size w w' := by
 have hC : ∃ b, infoB k l c = b := ⟨_, rfl⟩
 obtain ⟨b, hb⟩ := hC
 rw [hb]
 have hcase : (k = 3 /\ l ≠ 1 /\ b = false) \/ (k = 3 /\ l = 1 /\ c < 0 /\ b = false) \/ (k = 3 /\ l = 1 /\ 0 <= c /\ 8 < c /\ b = false) \/ (k = 3 /\ l = 1 /\ 0 <= c /\ c <= 8 /\ b = true) \/
   ((k = 1 \/ k = 2) /\ l < 1 /\ b = false) \/ ((k = 1 \/ k = 2) /\ 1 <= l /\ 1024 < l /\ b = false) \/ ((k = 1 \/ k = 2) /\ 1 <= l /\ l <= 1024 /\ c ≠ 0 /\ b = false) \/ ((k = 1 \/ k = 2) /\ 1 <= l /\ l <= 1024 /\ c = 0 /\ b = true) \/
   (k = 0 /\ l ≠ 0 /\ b = false) \/ (k = 0 /\ l = 0 /\ c ≠ 0 /\ b = false) \/ (k = 0 /\ l = 0 /\ c = 0 /\ b = true) \/ (k ≠ 0 /\ k ≠ 1 /\ k ≠ 2 /\ k ≠ 3 /\ b = false) := by
  cases b
  ·have h : ¬ infoP k l c := of_decide_eq_false hb
   unfold infoP at h
   simp only [and_true, reduceCtorEq, and_false, or_false, false_or]
   omega
  ·have h : infoP k l c := infoB_iff hb
   unfold infoP at h
   simp only [and_true, reduceCtorEq, and_false, or_false, false_or]
   omega
 clear hb
 rcases hcase with ⟨rfl, h1, rfl⟩ | ⟨rfl, rfl, h1, rfl⟩ | ⟨rfl, rfl, h1, h2, rfl⟩ | ⟨rfl, rfl, h1, h2, rfl⟩ | ⟨rfl | rfl, h1, rfl⟩ | ⟨rfl | rfl, h1, h2, rfl⟩ | ⟨rfl | rfl, h1, h2, h3, rfl⟩ | ⟨rfl | rfl, h1, h2, rfl, rfl⟩ | ⟨rfl, h1, rfl⟩ | ⟨rfl, rfl, h1, rfl⟩ | ⟨rfl, rfl, rfl, rfl⟩ | ⟨h0, h1, h2, h3, rfl⟩
 all_goals
  go_enter Tryz.func114, Tryz.ntmps114
  go_wp2
  go_ret
  refine ⟨by first | rfl | (refine ret_bool ?_; simp; done) | (refine ret_bool ?_; simp; omega), ?_⟩
  repeat (first | exact B0 _ | (with_reducible refine Bdrew ?_) | (with_reducible refine Bdraw ?_ _) | (with_reducible refine Bnew ?_ _) | (refine Bput ?_ (Nat.le_refl _) _))
end
section
theorem putN_new (x a k v : Nat) (ha : a + k <= 64) (hx : x < 2 ^ a) (hv : v < 2 ^ k) : HM.putN x a k v = x + v * 2 ^ a := by
 have hx64 : x < 2 ^ 64 := Nat.lt_of_lt_of_le hx (Nat.pow_le_pow_right (by omega) (by omega))
 have h1 : x + v * 2 ^ a = 2 ^ a * v + x := by rw [Nat.mul_comm, Nat.add_comm]
 have hlt : 2 ^ a * v + x < 2 ^ 64 := by
  have e : (2 : Nat) ^ 64 = 2 ^ a * 2 ^ (64 - a) := by rw [<- Nat.pow_add]; congr 1; omega
  have e2 : (2 : Nat) ^ k <= 2 ^ (64 - a) := Nat.pow_le_pow_right (by omega) (by omega)
  have e3 : 2 ^ a * (v + 1) <= 2 ^ a * 2 ^ (64 - a) := Nat.mul_le_mul_left _ (by omega)
  rw [Nat.mul_succ] at e3
  rw [e]
  omega
 rw [h1]
 apply Nat.eq_of_testBit_eq
 intro i
 by_cases hi : i < 64
 ·rw [HM.bit_putN x a k v i ha hv hi, Nat.testBit_two_pow_mul_add _ hx]
  by_cases h2 : i < a
  ·rw [if_neg (by omega), if_pos h2]
  ·rw [if_neg h2]
   by_cases h3 : i < a + k
   ·rw [if_pos ⟨by omega, h3⟩]
   ·rw [if_neg (by omega), Nat.testBit_lt_two_pow (Nat.lt_of_lt_of_le hx (Nat.pow_le_pow_right (by omega) (by omega))), Nat.testBit_lt_two_pow (Nat.lt_of_lt_of_le hv (Nat.pow_le_pow_right (by omega) (by omega)))]
 ·rw [HM.bit_high (HM.putN_lt x a k v ha hv) (by omega), HM.bit_high hlt (by omega)]
theorem putNew_c (x a k v : Nat) (hk : 1 <= k) (ha : a + k <= 64) (hx : x < 2 ^ a) (hv : v < 2 ^ k) (y : Nat) (hy : x + v * 2 ^ a = y) (w : World) :
  Calls Tryz.prog 53 #[.int .u64 (x : Int), .int .i64 (a : Int), .int .i64 (k : Int), .int .u64 (v : Int)] w fun e w' => e = .returned (.tuple #[.int .u64 (y : Int), .bool true]) /\ ∃ n, w' = w.drewN n := by
 have hx64 : x < 2 ^ 64 := Nat.lt_of_lt_of_le hx (Nat.pow_le_pow_right (by omega) (by omega))
 have hv64 : v < 2 ^ 64 := Nat.lt_of_lt_of_le hv (Nat.pow_le_pow_right (by omega) (by omega))
 refine (Put_c x v a k hx64 hv64 (by omega) (by omega) (by omega) (by omega) w).mono ?_
 rintro e w' ⟨rfl, hw⟩
 have hok : putOk a k v = true := by
  unfold putOk
  rw [fieldB_yes (by omega) (by omega) (by omega)]
  simpa using hv
 have e1 : putI x a k v = y := by
  unfold putI
  rw [if_pos hok]
  exact (putN_new x a k v ha hx hv).trans hy
 rw [hok, e1]
 exact ⟨rfl, hw⟩
theorem ret_half {k : IntKind} {a b : Int} {c : Bool} (h : a = b) : Ending.returned (.tuple #[.int k a, .bool c]) = .returned (.tuple #[.int k b, .bool c]) := by rw [h]

theorem inPut_c (k l c : Int) (w : World) :
  Calls Tryz.prog 33 #[.agg #[.int .i64 k, .int .i64 l, .int .i64 c]] w fun e w' => e = .returned (.tuple #[.int .u32 ((infoV k l c : Nat) : Int), .bool (infoB k l c)]) /\ Below w.heap.size w w' := by
 cases hr : infoB k l c
 ·have HP := hidp (infoV_no hr)
  have HR := hidp hr
  clear hr
  go_enter Tryz.func33, Tryz.ntmps33
  go_wp2_with fail
  refine (inIsRight_c k l c _).mono ?_
  rintro e w1 ⟨rfl, hb1⟩
  rw [HR.out]
  go_wp2
  go_ret2
  exact ⟨by rw [HP.out]; rfl, Bgo (Bnew (B0 _) _) hb1⟩
 ·have HP := hidp (infoV_yes hr)
  have HR := hidp hr
  have hi := infoB_iff hr
  clear hr
  have hb : 0 <= k /\ k <= 3 /\ 0 <= l /\ l <= 1024 /\ 0 <= c /\ c <= 8 := by unfold infoP at hi; omega
  obtain ⟨k0, k3, l0, l1, c0, c8⟩ := hb
  clear hi
  obtain ⟨k, rfl⟩ : ∃ n : Nat, k = n := ⟨k.toNat, by omega⟩
  obtain ⟨l, rfl⟩ : ∃ n : Nat, l = n := ⟨l.toNat, by omega⟩
  obtain ⟨c, rfl⟩ : ∃ n : Nat, c = n := ⟨c.toNat, by omega⟩
  go_enter Tryz.func33, Tryz.ntmps33
  go_wp2_with fail
  have hc := Held.new w 76 #[.int .i64 (k : Int), .int .i64 (l : Int), .int .i64 (c : Int)]
  refine (inIsRight_c k l c _).mono ?_
  rintro e w1 ⟨rfl, hb1⟩
  rw [HR.out]
  obtain ⟨c0, c1, c2⟩ := (hc.keep hb1).three
  go_wp2_with fail
  refine (putNew_c 0 0 4 k (by omega) (by omega) (by omega) (by omega) k (by omega) _).mono ?_
  rintro e w2 ⟨rfl, n2, rfl⟩
  go_wp2_with fail
  refine (putNew_c k 4 12 l (by omega) (by omega) (by omega) (by omega) (k + l * 16) (by omega) _).mono ?_
  rintro e w2 ⟨rfl, n3, rfl⟩
  go_wp2_with fail
  refine (putNew_c (k + l * 16) 16 4 c (by omega) (by omega) (by omega) (by omega) (k + l * 16 + c * 65536) (by omega) _).mono ?_
  rintro e w2 ⟨rfl, n4, rfl⟩
  go_wp2_with fail
  refine (Lo_c (k + l * 16 + c * 65536) (by omega) _).mono ?_
  rintro e w2 ⟨rfl, rfl⟩
  go_wp2
  go_ret2
  refine ⟨ret_half (by rw [HP.out]; omega), ?_⟩
  repeat (first | exact B0 _ | (with_reducible refine Bdrew ?_) | (with_reducible refine Bdraw ?_ _) | (with_reducible refine Bgo ?_ hb1) | (with_reducible refine Bnew ?_ _))
end
section
def infoG (v : Nat) : Int × Int × Int × Bool :=
 if infoB (v % 16 : Nat) (v / 16 % 4096 : Nat) (v / 65536 : Nat) then ((v % 16 : Nat), (v / 16 % 4096 : Nat), (v / 65536 : Nat), true) else (0, 0, 0, false)
theorem infoG_yes {v : Nat} (h : infoB (v % 16 : Nat) (v / 16 % 4096 : Nat) (v / 65536 : Nat) = true) : infoG v = (((v % 16 : Nat) : Int), ((v / 16 % 4096 : Nat) : Int), ((v / 65536 : Nat) : Int), true) := by unfold infoG; rw [if_pos h]
theorem infoG_no {v : Nat} (h : infoB (v % 16 : Nat) (v / 16 % 4096 : Nat) (v / 65536 : Nat) = false) : infoG v = (0, 0, 0, false) := by unfold infoG; rw [h]; rfl
theorem infoG_split (v : Nat) : (infoB (v % 16 : Nat) (v / 16 % 4096 : Nat) (v / 65536 % 16 : Nat) = true /\ infoV (v % 16 : Nat) (v / 16 % 4096 : Nat) (v / 65536 % 16 : Nat) = v) ↔ infoB (v % 16 : Nat) (v / 16 % 4096 : Nat) (v / 65536 : Nat) = true := by
 constructor
 ·rintro ⟨h1, h2⟩
  rw [infoV_yes h1] at h2
  simp only [Int.toNat_natCast] at h2
  have e : v / 65536 % 16 = v / 65536 := by omega
  rw [e] at h1
  exact h1
 ·intro h
  have h' := infoB_iff h
  unfold infoP at h'
  have e : v / 65536 % 16 = v / 65536 := by omega
  rw [e]
  refine ⟨h, ?_⟩
  rw [infoV_yes h]
  simp only [Int.toNat_natCast]
  omega
theorem infoG_back {v : Nat} {k l c : Int} (h : infoG v = (k, l, c, true)) : infoB k l c = true /\ infoV k l c = v := by
 cases hr : infoB (v % 16 : Nat) (v / 16 % 4096 : Nat) (v / 65536 : Nat)
 ·rw [infoG_no hr] at h; simp at h
 ·rw [infoG_yes hr] at h
  simp only [Prod.mk.injEq, and_true] at h
  obtain ⟨rfl, rfl, rfl⟩ := h
  have h2 := (infoG_split v).2 hr
  have h3 := infoB_iff hr
  unfold infoP at h3
  have e : v / 65536 % 16 = v / 65536 := by omega
  rw [e] at h2
  exact h2
theorem infoG_none {v : Nat} {k l c : Int} (h : infoG v = (k, l, c, false)) : k = 0 /\ l = 0 /\ c = 0 := by
 cases hr : infoB (v % 16 : Nat) (v / 16 % 4096 : Nat) (v / 65536 : Nat)
 ·rw [infoG_no hr] at h
  simp only [Prod.mk.injEq, and_true] at h
  omega
 ·rw [infoG_yes hr] at h; simp at h
theorem infoG_put {k l c : Int} (h : infoB k l c = true) : infoG (infoV k l c) = (k, l, c, true) := by
 have hi := infoB_iff h
 unfold infoP at hi
 rw [infoV_yes h]
 have e1 : (k.toNat + 16 * l.toNat + 65536 * c.toNat) % 16 = k.toNat := by omega
 have e2 : (k.toNat + 16 * l.toNat + 65536 * c.toNat) / 16 % 4096 = l.toNat := by omega
 have e3 : (k.toNat + 16 * l.toNat + 65536 * c.toNat) / 65536 = c.toNat := by omega
 unfold infoG
 rw [e1, e2, e3, show ((k.toNat : Nat) : Int) = k by omega, show ((l.toNat : Nat) : Int) = l by omega, show ((c.toNat : Nat) : Int) = c by omega, if_pos h]
theorem infoV_lt (k l c : Int) : infoV k l c < 2 ^ 32 := by
 cases hr : infoB k l c
 ·rw [infoV_no hr]; omega
 ·have hi := infoB_iff hr
  unfold infoP at hi
  rw [infoV_yes hr]
  omega
theorem r9Get_yes (v k l c : Nat) (hv : v < 2 ^ 32) (h1 : v % 16 = k) (h2 : v / 16 % 4096 = l) (h3 : v / 65536 = c) (hr : infoB k l c = true) (w : World) :
  Calls Tryz.prog 106 #[.int .u32 (v : Int)] w fun e w' => e = .returned (.tuple #[.agg #[.int .i64 (k : Int), .int .i64 (l : Int), .int .i64 (c : Int)], .bool true]) /\ Below w.heap.size w w' := by
 have HR := hidp hr
 clear hr
 have e1 : ((v : Int).tmod 16) = (k : Int) := by rw [Int.tmod_eq_emod_of_nonneg (by omega)]; omega
 have e2 : (((v : Int) / 16).tmod 4096) = (l : Int) := by rw [Int.tmod_eq_emod_of_nonneg (by omega)]; omega
 have e3 : ((v : Int) / 65536) = (c : Int) := by omega
 go_enter Tryz.func106, Tryz.ntmps106
 go_wp2_with fail
 refine (r9Right_c k l c _).mono ?_
 rintro e w6 ⟨rfl, hb⟩
 rw [HR.out]
 obtain ⟨hcl, hfr⟩ := bcell hb
 have hz := hb.size
 simp only [World.size_alloc, World.heap_drewN] at hz
 have z := ((Held.new w 76 #[.int .i64 0, .int .i64 0, .int .i64 0]).alloc (.cells #[.int .i64 (k : Int), .int .i64 (l : Int), .int .i64 (c : Int)] 76)).keep hb
 obtain ⟨q0, q1, q2⟩ := (((z.put 0 (.int .i64 (k : Int))).put 1 (.int .i64 (l : Int))).put 2 (.int .i64 (c : Int))).three
 go_wp2
 refine bodyPost_ret (v := .tuple #[.agg #[.int .i64 (k : Int), .int .i64 (l : Int), .int .i64 (c : Int)], .bool true]) (by simp [results, Tryz.results106, go_sem, hcl, q0, q1, q2]) rfl ⟨rfl, ?_⟩
 (repeat (first | exact B0 _ | (with_reducible refine Below.setCell ?_ (by first | (simp; done) | (simp; omega)) _) | (with_reducible refine Bgo ?_ hb) | (with_reducible refine below_draws ?_ _) | (with_reducible refine Below.alloc ?_ (by first | (simp; done) | (simp; omega)) _)))

theorem r9Get_no (v k l c : Nat) (hv : v < 2 ^ 32) (h1 : v % 16 = k) (h2 : v / 16 % 4096 = l) (h3 : v / 65536 = c) (hr : infoB k l c = false) (w : World) :
  Calls Tryz.prog 106 #[.int .u32 (v : Int)] w fun e w' => e = .returned (.tuple #[.agg #[.int .i64 0, .int .i64 0, .int .i64 0], .bool false]) /\ Below w.heap.size w w' := by
 have HR := hidp hr
 clear hr
 have e1 : ((v : Int).tmod 16) = (k : Int) := by rw [Int.tmod_eq_emod_of_nonneg (by omega)]; omega
 have e2 : (((v : Int) / 16).tmod 4096) = (l : Int) := by rw [Int.tmod_eq_emod_of_nonneg (by omega)]; omega
 have e3 : ((v : Int) / 65536) = (c : Int) := by omega
 go_enter Tryz.func106, Tryz.ntmps106
 go_wp2_with fail
 refine (r9Right_c k l c _).mono ?_
 rintro e w6 ⟨rfl, hb⟩
 rw [HR.out]
 obtain ⟨hcl, hfr⟩ := bcell hb
 have hz := hb.size
 simp only [World.size_alloc, World.heap_drewN] at hz
 have z := ((Held.new w 76 #[.int .i64 0, .int .i64 0, .int .i64 0]).alloc (.cells #[.int .i64 (k : Int), .int .i64 (l : Int), .int .i64 (c : Int)] 76)).keep hb
 obtain ⟨q0, q1, q2⟩ := (((z.put 0 (.int .i64 0)).put 1 (.int .i64 0)).put 2 (.int .i64 0)).three
 go_wp2
 refine bodyPost_ret (v := .tuple #[.agg #[.int .i64 0, .int .i64 0, .int .i64 0], .bool false]) (by simp [results, Tryz.results106, go_sem, hcl, q0, q1, q2]) rfl ⟨rfl, ?_⟩
 (repeat (first | exact B0 _ | (with_reducible refine Below.setCell ?_ (by first | (simp; done) | (simp; omega)) _) | (with_reducible refine Bgo ?_ hb) | (with_reducible refine below_draws ?_ _) | (with_reducible refine Below.alloc ?_ (by first | (simp; done) | (simp; omega)) _)))

theorem r9Get_c (v : Nat) (k l c : Int) (b : Bool) (hv : v < 2 ^ 32) (h : infoG v = (k, l, c, b)) (w : World) :
  Calls Tryz.prog 106 #[.int .u32 (v : Int)] w fun e w' => e = .returned (.tuple #[.agg #[.int .i64 k, .int .i64 l, .int .i64 c], .bool b]) /\ Below w.heap.size w w' := by
 cases hr : infoB (v % 16 : Nat) (v / 16 % 4096 : Nat) (v / 65536 : Nat)
 ·rw [infoG_no hr] at h
  simp only [Prod.mk.injEq] at h
  obtain ⟨rfl, rfl, rfl, rfl⟩ := h
  exact r9Get_no v _ _ _ hv rfl rfl rfl hr w
 ·rw [infoG_yes hr] at h
  simp only [Prod.mk.injEq] at h
  obtain ⟨rfl, rfl, rfl, rfl⟩ := h
  exact r9Get_yes v _ _ _ hv rfl rfl rfl hr w
end
end Go.Proofs.YtlpcdfcghgapkaaGreat

namespace Go.Proofs.YtlpcdfcghgapkaaGreat
set_option linter.unusedVariables false
section
def slotN (k : Nat) : Nat := ([32, 21, 16, 10, 8, 5, 4, 3, 2] : List Nat).getD k 0
def slotI (k : Int) : Nat := if 0 <= k then slotN k.toNat else 0
theorem slotI_nat (k : Nat) : slotI (k : Int) = slotN k := by unfold slotI; simp
theorem slotN_out {k : Nat} (h : 9 <= k) : slotN k = 0 := by unfold slotN; simp [List.getD, List.getElem?_eq_none (show ([32, 21, 16, 10, 8, 5, 4, 3, 2] : List Nat).length <= k by simpa using h)]
theorem slotI_out {k : Int} (h : k < 0 \/ 9 <= k) : slotI k = 0 := by
 unfold slotI
 split
 ·exact slotN_out (by omega)
 ·rfl
theorem slotN_in {k : Nat} (h : k < 9) : 2 <= slotN k /\ slotN k <= 32 := by
 have : ∀ j, j < 9 -> 2 <= slotN j /\ slotN j <= 32 := by decide
 exact this k h
theorem slotI_le (k : Int) : slotI k <= 32 := by
 by_cases h : 0 <= k /\ k < 9
 ·have := slotN_in (k := k.toNat) (by omega)
  unfold slotI; rw [if_pos h.1]; omega
 ·rw [slotI_out (by omega)]; omega
theorem slotI_zero {k : Int} : slotI k = 0 ↔ k < 0 \/ 9 <= k := by
 constructor
 ·intro h
  by_cases hk : 0 <= k /\ k < 9
  ·have := slotN_in (k := k.toNat) (by omega)
   unfold slotI at h; rw [if_pos hk.1] at h; omega
  ·omega
 ·exact slotI_out

def pageS (s : Int) : Nat := pageN 1 4 s
theorem pageS_no {s : Int} (h : s < 10 \/ 20 < s) : pageS s = 0 := page_no (rightB_not (by omega))
theorem pageS_yes {s : Int} (h : 10 <= s /\ s <= 20) : pageS s = 2 ^ s.toNat := page_yes (rightB_mk (by omega))
theorem pageS_le (s : Int) : pageS s <= 1048576 := by
 by_cases h : 10 <= s /\ s <= 20
 ·rw [pageS_yes h]
  exact (pow_bounds _ (by omega)).2
 ·rw [pageS_no (by omega)]; omega
def sizeN (s k : Int) : Nat := pageS s / slotI k - pageS s / slotI k % 16
theorem sizeN_le (s k : Int) : sizeN s k <= 1048576 := by
 have h1 := pageS_le s
 have h2 := Nat.div_le_self (pageS s) (slotI k)
 unfold sizeN
 generalize pageS s / slotI k = q at *
 omega
theorem sizes_all : ∀ s : Nat, s < 11 -> ∀ k : Nat, k < 9 ->
  let z := 2 ^ (s + 10) / slotN k - 2 ^ (s + 10) / slotN k % 16
  z % 16 = 0 /\ 16 <= z /\ z * slotN k <= 2 ^ (s + 10) /\ z <= 2 ^ (s + 10) / 2 /\ (k = 8 -> z = 2 ^ (s + 10) / 2) /\
   (0 < k -> 2 ^ (s + 10) / slotN (k - 1) - 2 ^ (s + 10) / slotN (k - 1) % 16 < z) := by decide +kernel

theorem size_at {s : Int} (h : 10 <= s /\ s <= 20) (k : Nat) : sizeN s (k : Int) = 2 ^ (s.toNat - 10 + 10) / slotN k - 2 ^ (s.toNat - 10 + 10) / slotN k % 16 := by
 unfold sizeN
 rw [pageS_yes h, slotI_nat, show s.toNat - 10 + 10 = s.toNat by omega]
theorem size_facts {s : Int} (h : 10 <= s /\ s <= 20) {k : Nat} (hk : k < 9) :
  sizeN s (k : Int) % 16 = 0 /\ 16 <= sizeN s (k : Int) /\ sizeN s (k : Int) * slotN k <= pageS s /\ sizeN s (k : Int) <= pageS s / 2 /\ (k = 8 -> sizeN s (k : Int) = pageS s / 2) /\
   (0 < k -> sizeN s ((k - 1 : Nat) : Int) < sizeN s (k : Int)) := by
 have := sizes_all (s.toNat - 10) (by omega) k hk
 simp only [] at this
 rw [size_at h k, size_at h (k - 1), pageS_yes h, show s.toNat = s.toNat - 10 + 10 by omega]
 simpa using this
theorem size_pos {s : Int} (h : 10 <= s /\ s <= 20) {k : Nat} (hk : k < 9) : 0 < sizeN s (k : Int) := by
 have := (size_facts h hk).2.1
 omega
end
section
def addrB (t p s i o : Int) : Bool := rightB t p s && decide ((0 <= i /\ i < p) /\ 0 <= o /\ o < (pageN t p s : Int))
def addrI (t p s i o : Int) : Int := if addrB t p s i o then (i + 1) * (pageN t p s : Int) + o else 0
def spotB (t p s a : Int) : Bool := decide ((pageN t p s : Int) <= a /\ a - pageN t p s < (bytesN t p s : Int))
def spotP (t p s a : Int) : Int := if spotB t p s a then a / (pageN t p s : Int) - 1 else 0
def spotO (t p s a : Int) : Int := if spotB t p s a then a % (pageN t p s : Int) else 0
def addrW (i o : Int) (g : Nat) : Int := IntKind.i64.wrap (IntKind.i64.wrap (IntKind.i64.wrap (i + 1) * (g : Int)) + o)

theorem i64_same {x : Int} (h : -9223372036854775808 <= x) (h' : x <= 9223372036854775807) : IntKind.i64.wrap x = x := by
 simp only [IntKind.wrap, IntKind.bits, IntKind.signed]; simp; omega

theorem right_nums {t p s : Int} (h : rightB t p s = true) : ∃ g q : Nat, pageN t p s = g /\ p = q /\ bytesN t p s = q * g /\ 4 <= q /\ q <= 1024 /\ 1024 <= g /\ g <= 1048576 /\ g = 2 ^ s.toNat /\ 10 <= s /\ s <= 20 /\ q * g <= 1073741824 := by
 obtain ⟨_, ⟨hp, hp'⟩, hs, hs'⟩ := (rightB_iff t p s).1 h
 refine ⟨2 ^ s.toNat, p.toNat, page_yes h, by omega, bytes_yes h, by omega, by omega, ?_, ?_, rfl, hs, hs', ?_⟩
 ·have := Nat.pow_le_pow_right (show 0 < 2 by omega) (show 10 <= s.toNat by omega)
  omega
 ·exact (pow_bounds _ (by omega)).2
 ·have h1 := (pow_bounds s.toNat (by omega)).2
  have h2 : p.toNat * 2 ^ s.toNat <= 1024 * 1048576 := Nat.mul_le_mul (by omega) h1
  omega
theorem wrong_nums {t p s : Int} (h : rightB t p s = false) : pageN t p s = 0 /\ bytesN t p s = 0 := ⟨page_no h, bytes_no h⟩

theorem spot_right {t p s a : Int} (h : spotB t p s a = true) : rightB t p s = true := by
 cases hr : rightB t p s
 ·obtain ⟨h1, h2⟩ := wrong_nums hr
  unfold spotB at h
  rw [h1, h2] at h
  simp at h
  omega
 ·rfl
theorem split_at {g i o : Int} (hg : 0 < g) (ho : 0 <= o) (ho' : o < g) : ((i + 1) * g + o) / g = i + 1 /\ ((i + 1) * g + o) % g = o := by
 constructor
 ·rw [Int.add_comm, Int.add_mul_ediv_right _ _ (by omega), Int.ediv_eq_zero_of_lt ho ho']; omega
 ·rw [Int.add_comm, Int.add_mul_emod_self_right, Int.emod_eq_of_lt ho ho']
theorem mul_bounds {i q g : Int} (h0 : 0 <= i) (hi : i < q) (hg : 0 < g) : g <= (i + 1) * g /\ (i + 1) * g <= q * g := by
 have h1 : (0 : Int) <= i * g := Int.mul_nonneg h0 (by omega)
 have h2 : (i + 1) * g <= q * g := Int.mul_le_mul_of_nonneg_right (by omega) (by omega)
 have h3 : (i + 1) * g = i * g + g := by rw [Int.add_mul]; omega
 omega

theorem addr_parts {t p s i o : Int} (h : addrB t p s i o = true) : rightB t p s = true /\ (0 <= i /\ i < p) /\ 0 <= o /\ o < (pageN t p s : Int) := by
 unfold addrB at h
 simpa using h
theorem addr_yes {t p s i o : Int} (h : addrB t p s i o = true) :
  addrW i o (pageN t p s) = addrI t p s i o /\ spotB t p s (addrI t p s i o) = true /\ spotP t p s (addrI t p s i o) = i /\ spotO t p s (addrI t p s i o) = o /\ 1024 <= addrI t p s i o /\ addrI t p s i o <= 1075838976 := by
 obtain ⟨hr, ⟨hi, hi'⟩, ho, ho'⟩ := addr_parts h
 obtain ⟨g, q, hg, rfl, hb, q1, q2, g1, g2, _, _, _, qg⟩ := right_nums hr
 rw [hg] at ho'
 have hm := mul_bounds hi hi' (show (0 : Int) < g by omega)
 have hsp := split_at (i := i) (show (0 : Int) < g by omega) ho ho'
 have hqg : ((q * g : Nat) : Int) = (q : Int) * (g : Int) := by push_cast; rfl
 have hI : addrI t q s i o = (i + 1) * (g : Int) + o := by unfold addrI; rw [if_pos h, hg]
 have hB : spotB t q s ((i + 1) * (g : Int) + o) = true := by
  unfold spotB
  rw [hg, hb, decide_eq_true_iff, hqg]
  omega
 rw [hI]
 refine ⟨?_, hB, ?_, ?_, by omega, by omega⟩
 ·unfold addrW
  rw [hg, i64_same (x := i + 1) (by omega) (by omega), i64_same (x := (i + 1) * (g : Int)) (by omega) (by omega), i64_same (by omega) (by omega)]
 ·unfold spotP
  rw [if_pos hB, hg, hsp.1]
  omega
 ·unfold spotO
  rw [if_pos hB, hg, hsp.2]
theorem spot_parts {t p s a : Int} (h : spotB t p s a = true) :
  addrB t p s (spotP t p s a) (spotO t p s a) = true /\ addrI t p s (spotP t p s a) (spotO t p s a) = a /\ 1024 <= a /\ a <= 1074790400 /\ (0 <= spotP t p s a /\ spotP t p s a < 1024) /\ 0 <= spotO t p s a /\ spotO t p s a < 1048576 := by
 have hr := spot_right h
 have h' := h
 unfold spotB at h'
 rw [decide_eq_true_iff] at h'
 obtain ⟨g, q, hg, rfl, hb, q1, q2, g1, g2, _, _, _, qg⟩ := right_nums hr
 rw [hg, hb] at h'
 have hP : spotP t q s a = a / (g : Int) - 1 := by unfold spotP; rw [if_pos h, hg]
 have hO : spotO t q s a = a % (g : Int) := by unfold spotO; rw [if_pos h, hg]
 rw [hP, hO]
 have hqg : ((q * g : Nat) : Int) = (q : Int) * (g : Int) := by push_cast; rfl
 have m0 := Int.emod_nonneg a (show (g : Int) ≠ 0 by omega)
 have m1 := Int.emod_lt_of_pos a (show (0 : Int) < g by omega)
 have d1 : 1 <= a / (g : Int) := (Int.le_ediv_iff_mul_le (by omega)).2 (by omega)
 have d2 : a / (g : Int) < (q : Int) + 1 := by
  refine (Int.ediv_lt_iff_lt_mul (by omega)).2 ?_
  rw [Int.add_mul]
  omega
 have hB : addrB t q s (a / (g : Int) - 1) (a % (g : Int)) = true := by
  unfold addrB
  rw [hr, hg, Bool.true_and, decide_eq_true_iff]
  exact ⟨⟨by omega, by omega⟩, m0, m1⟩
 refine ⟨hB, ?_, by omega, by omega, by omega, by omega⟩
 unfold addrI
 rw [if_pos hB, hg, Int.sub_add_cancel, Int.mul_comm]
 exact Int.mul_ediv_add_emod a g
theorem addrI_no {t p s i o : Int} (h : addrB t p s i o = false) : addrI t p s i o = 0 := by unfold addrI; rw [h]; rfl
def slotB (t p s k o : Int) : Bool := rightB t p s && decide (0 < sizeN s k /\ 0 <= o /\ o % (sizeN s k : Int) = 0 /\ o / (sizeN s k : Int) < (slotI k : Int))
def slotR (t p s k o : Int) : Int := if slotB t p s k o then o / (sizeN s k : Int) else 0
theorem slot_at {t p s k o : Int} (hr : rightB t p s = true) (i : Nat) (hi : i < slotI k) (ho : o = (i : Int) * (sizeN s k : Int)) : slotB t p s k o = true /\ slotR t p s k o = i := by
 have h' := (rightB_iff t p s).1 hr
 have hk : 0 <= k /\ k < 9 := by
  have := mt (slotI_zero (k := k)).2 (by omega)
  omega
 obtain ⟨k, rfl⟩ : ∃ n : Nat, k = n := ⟨k.toNat, by omega⟩
 have hz := size_pos (s := s) h'.2.2 (k := k) (by omega)
 have e1 : o / (sizeN s (k : Int) : Int) = (i : Int) := by rw [ho]; exact Int.mul_ediv_cancel _ (by omega)
 have e2 : o % (sizeN s (k : Int) : Int) = 0 := by rw [ho]; exact Int.mul_emod_left _ _
 have e3 : 0 <= o := by rw [ho]; exact Int.mul_nonneg (by omega) (by omega)
 have hB : slotB t p s (k : Int) o = true := by
  unfold slotB
  rw [hr, Bool.true_and, decide_eq_true_iff, e1]
  exact ⟨hz, e3, e2, by omega⟩
 refine ⟨hB, ?_⟩
 unfold slotR
 rw [if_pos hB, e1]
theorem slot_parts {t p s k o : Int} (h : slotB t p s k o = true) : rightB t p s = true /\ ∃ i : Nat, i < slotI k /\ o = (i : Int) * (sizeN s k : Int) /\ slotR t p s k o = i := by
 have hh := h
 unfold slotB at hh
 simp only [Bool.and_eq_true, decide_eq_true_eq] at hh
 obtain ⟨hr, h1, h2, h3, h4⟩ := hh
 refine ⟨hr, (o / (sizeN s k : Int)).toNat, ?_, ?_, ?_⟩
 ·have := Int.ediv_nonneg h2 (show (0 : Int) <= sizeN s k by omega)
  omega
 ·have h5 := Int.ediv_nonneg h2 (show (0 : Int) <= sizeN s k by omega)
  have h6 := Int.mul_ediv_add_emod o (sizeN s k)
  rw [Int.toNat_of_nonneg h5, Int.mul_comm]
  omega
 ·have h5 := Int.ediv_nonneg h2 (show (0 : Int) <= sizeN s k by omega)
  unfold slotR
  rw [if_pos h, Int.toNat_of_nonneg h5]
theorem slot_in {s k : Int} (hs : 10 <= s /\ s <= 20) {i : Nat} (hi : i < slotI k) : (i + 1) * sizeN s k <= pageS s /\ 16 <= sizeN s k /\ slotI k * sizeN s k <= pageS s := by
 have hk : 0 <= k /\ k < 9 := by
  have := mt (slotI_zero (k := k)).2 (by omega)
  omega
 obtain ⟨k, rfl⟩ : ∃ n : Nat, k = n := ⟨k.toNat, by omega⟩
 obtain ⟨_, h16, hle, _⟩ := size_facts hs (k := k) (by omega)
 rw [slotI_nat] at hi ⊢
 have h1 : (i + 1) * sizeN s (k : Int) <= slotN k * sizeN s (k : Int) := Nat.mul_le_mul_right _ hi
 rw [Nat.mul_comm] at hle
 exact ⟨by omega, h16, hle⟩

def atB (t p s k i j : Int) : Bool := decide (0 <= j /\ j < (slotI k : Int)) && addrB t p s i (j * (sizeN s k : Int))
def atI (t p s k i j : Int) : Int := if atB t p s k i j then addrI t p s i (j * (sizeN s k : Int)) else 0
theorem at_out {t p s k i j : Int} (h : ¬ (0 <= j /\ j < (slotI k : Int))) : atB t p s k i j = false /\ atI t p s k i j = 0 := by
 have : atB t p s k i j = false := by unfold atB; simp only [decide_eq_false h, Bool.false_and]
 exact ⟨this, by unfold atI; rw [this]; rfl⟩
theorem at_in {t p s k i j : Int} (h : 0 <= j /\ j < (slotI k : Int)) : atB t p s k i j = addrB t p s i (j * (sizeN s k : Int)) /\ atI t p s k i j = addrI t p s i (j * (sizeN s k : Int)) := by
 have : atB t p s k i j = addrB t p s i (j * (sizeN s k : Int)) := by unfold atB; simp only [decide_eq_true h, Bool.true_and]
 refine ⟨this, ?_⟩
 unfold atI
 rw [this]
 cases hb : addrB t p s i (j * (sizeN s k : Int))
 ·rw [addrI_no hb]; rfl
 ·rfl
end
end Go.Proofs.YtlpcdfcghgapkaaGreat

namespace Go.Proofs.YtlpcdfcghgapkaaGreat
open Go.ChangeShapes Go.WideShapes Go.ChangeAt Go.RowKit
set_option linter.unusedVariables false
section
structure AuH where
 t : Nat
 p : Nat
 s : Nat
 V : Nat -> Nat

namespace AuH
variable (H : AuH)
def cel (q b : Nat) : Nat := H.V (30 + 4 * H.t + 6 * q + b)
def K (q : Nat) : Int := (infoG (H.cel q 0)).1
def L (q : Nat) : Int := (infoG (H.cel q 0)).2.1
def Cl (q : Nat) : Int := (infoG (H.cel q 0)).2.2.1
def ok (q : Nat) : Bool := (infoG (H.cel q 0)).2.2.2
def ln (q : Nat) : Nat := (H.L q).toNat
theorem info_eq (q : Nat) : infoG (H.cel q 0) = (H.K q, H.L q, H.Cl q, H.ok q) := rfl
theorem infoP_at (q : Nat) : infoP (H.K q) (H.L q) (H.Cl q) := by
 cases hb : H.ok q
 ·have h := H.info_eq q
  rw [hb] at h
  exact .inl (infoG_none h)
 ·have h := H.info_eq q
  rw [hb] at h
  exact infoB_iff (infoG_back h).1
theorem ok_of (q : Nat) (h : H.K q ≠ 0) : H.ok q = true := by
 cases hb : H.ok q
 ·have h2 := H.info_eq q
  rw [hb] at h2
  exact absurd (infoG_none h2).1 h
 ·rfl
theorem K_cases (q : Nat) : (H.K q = 0 /\ H.ln q = 0 /\ H.Cl q = 0) \/ ((H.K q = 1 \/ H.K q = 2) /\ 1 <= H.ln q /\ H.ln q <= 1024 /\ H.Cl q = 0) \/ (H.K q = 3 /\ H.ln q = 1 /\ 0 <= H.Cl q /\ H.Cl q <= 8) := by
 have h := H.infoP_at q
 unfold infoP at h
 unfold ln
 omega
theorem L_ln (q : Nat) : H.L q = (H.ln q : Int) := by
 have h := H.infoP_at q
 unfold infoP at h
 unfold ln
 omega
theorem K_zero (q : Nat) (h : H.cel q 0 = 0) : H.K q = 0 /\ H.ok q = true := by
 have e : infoG 0 = (0, 0, 0, true) := by decide
 unfold K ok
 rw [h, e]
 exact ⟨rfl, rfl⟩
theorem ln_pos (q : Nat) (h : H.K q ≠ 0) : 1 <= H.ln q /\ H.ln q <= 1024 := by
 have := H.K_cases q
 omega

def can (q : Nat) : Bool := decide (q < H.p /\ H.K q ≠ 0 /\ q + H.ln q <= H.p)
def nx (q : Nat) : Nat := q + H.ln q
theorem can_iff (q : Nat) : H.can q = true ↔ q < H.p /\ H.K q ≠ 0 /\ q + H.ln q <= H.p := by unfold can; exact decide_eq_true_iff
theorem can_no (q : Nat) : H.can q = false ↔ ¬ (q < H.p /\ H.K q ≠ 0 /\ q + H.ln q <= H.p) := by unfold can; exact decide_eq_false_iff_not
theorem nx_gt {q : Nat} (h : H.can q = true) : q < H.nx q /\ H.nx q <= H.p := by
 have h := (H.can_iff q).1 h
 have := H.ln_pos q h.2.1
 unfold nx
 omega

inductive At : Nat -> Prop where
 | zero : At 0
 | step {q : Nat} : At q -> H.can q = true -> At (H.nx q)
variable {H}
theorem At.chain : ∀ (n a b : Nat), a + b <= n -> H.At a -> H.At b -> a < b -> H.can a = true /\ H.nx a <= b := by
 intro n
 induction n with
 | zero => intro a b h _ _ hl; omega
 | succ n ih =>
  intro a b h ha hb hl
  cases hb with
  | zero => omega
  | step hb0 hc =>
   rename_i b0
   have h0 := H.nx_gt hc
   rcases Nat.lt_trichotomy a b0 with h1 | h1 | h1
   ·have := ih a b0 (by omega) ha hb0 h1
    exact ⟨this.1, by omega⟩
   ·subst h1
    exact ⟨hc, Nat.le_refl _⟩
   ·have := ih b0 a (by omega) hb0 ha h1
    omega
theorem At.next {a b : Nat} (ha : H.At a) (hb : H.At b) (h : a < b) : H.can a = true /\ H.nx a <= b := At.chain _ a b (Nat.le_refl _) ha hb h
theorem At.cover {x : Nat} (h : H.At x) : ∀ q, q < x -> ∃ a, H.At a /\ H.can a = true /\ a <= q /\ q < H.nx a := by
 induction h with
 | zero => intro q hq; omega
 | step h hc ih =>
  rename_i a
  intro q hq
  rcases Nat.lt_or_ge q a with h1 | h1
  ·exact ih q h1
  ·exact ⟨a, h, hc, h1, hq⟩
variable (H)
def Bare (x : Nat) : Prop := ∀ a, H.At a -> H.can a = true -> a < x -> ∀ q, a < q -> q < H.nx a -> H.cel q 0 = 0
def Tiled : Prop := H.At H.p /\ H.Bare H.p
variable {H}
theorem Tiled.start (h : H.Tiled) {q : Nat} (hq : q < H.p) (hk : H.K q ≠ 0) : H.At q /\ H.can q = true := by
 obtain ⟨a, h1, h2, h3, h4⟩ := h.1.cover q hq
 rcases Nat.eq_or_lt_of_le h3 with h5 | h5
 ·subst h5; exact ⟨h1, h2⟩
 ·exact absurd (H.K_zero q (h.2 a h1 h2 (by omega) q h5 h4)).1 hk
theorem Tiled.at_can (h : H.Tiled) {q : Nat} (ha : H.At q) (hq : q < H.p) : H.can q = true := (At.next ha h.1 hq).1
theorem Tiled.at_K (h : H.Tiled) {q : Nat} (ha : H.At q) (hq : q < H.p) : H.K q ≠ 0 := ((H.can_iff q).1 (h.at_can ha hq)).2.1
theorem Tiled.inside (h : H.Tiled) {a q : Nat} (ha : H.At a) (h0 : a < H.p) (h1 : a < q) (h2 : q < H.nx a) : H.K q = 0 := (H.K_zero q (h.2 a ha (h.at_can ha h0) h0 q h1 h2)).1
theorem Tiled.cover (h : H.Tiled) {q : Nat} (hq : q < H.p) : ∃ a, H.At a /\ a < H.p /\ H.K a ≠ 0 /\ a <= q /\ q < H.nx a := by
 obtain ⟨a, h1, h2, h3, h4⟩ := h.1.cover q hq
 exact ⟨a, h1, by omega, h.at_K h1 (by omega), h3, h4⟩
def sumTo (f : Nat -> Nat) : Nat -> Nat
 | 0 => 0
 | n + 1 => sumTo f n + f n
theorem sumTo_skip (f : Nat -> Nat) (a : Nat) : ∀ n, (∀ q, a <= q -> q < a + n -> f q = 0) -> sumTo f (a + n) = sumTo f a
 | 0, _ => rfl
 | n + 1, h => by
  show sumTo f (a + n) + f (a + n) = _
  rw [sumTo_skip f a n (fun q h1 h2 => h q h1 (by omega)), h (a + n) (by omega) (by omega)]
  omega
theorem Tiled.sum {f : Nat -> Nat} (h : H.Tiled) {a : Nat} (ha : H.At a) (h0 : a < H.p) (hf : ∀ q, q < H.p -> H.K q = 0 -> f q = 0) : sumTo f (H.nx a) = sumTo f a + f a := by
 have h1 := H.ln_pos a (h.at_K ha h0)
 have h2 := (H.nx_gt (h.at_can ha h0)).2
 have e : H.nx a = (a + 1) + (H.ln a - 1) := by unfold nx; omega
 rw [e, sumTo_skip f (a + 1) _ (fun q h3 h4 => hf q (by omega) (h.inside ha h0 (by omega) (by omega)))]
 rfl
theorem sumTo_le (f : Nat -> Nat) (m : Nat) : ∀ n, (∀ q, q < n -> f q <= m) -> sumTo f n <= n * m
 | 0, _ => by simp [sumTo]
 | n + 1, h => by
  have h1 := sumTo_le f m n (fun q hq => h q (by omega))
  have h2 := h n (by omega)
  show sumTo f n + f n <= (n + 1) * m
  rw [Nat.succ_mul]
  omega
def catTo {α : Type} (f : Nat -> List α) : Nat -> List α
 | 0 => []
 | n + 1 => catTo f n ++ f n
theorem catTo_skip {α : Type} (f : Nat -> List α) (a : Nat) : ∀ n, (∀ q, a <= q -> q < a + n -> f q = []) -> catTo f (a + n) = catTo f a
 | 0, _ => rfl
 | n + 1, h => by
  show catTo f (a + n) ++ f (a + n) = _
  rw [catTo_skip f a n (fun q h1 h2 => h q h1 (by omega)), h (a + n) (by omega) (by omega), List.append_nil]
theorem Tiled.cat {α : Type} {f : Nat -> List α} (h : H.Tiled) {a : Nat} (ha : H.At a) (h0 : a < H.p) (hf : ∀ q, q < H.p -> H.K q = 0 -> f q = []) : catTo f (H.nx a) = catTo f a ++ f a := by
 have h1 := H.ln_pos a (h.at_K ha h0)
 have h2 := (H.nx_gt (h.at_can ha h0)).2
 have e : H.nx a = (a + 1) + (H.ln a - 1) := by unfold nx; omega
 rw [e, catTo_skip f (a + 1) _ (fun q h3 h4 => hf q (by omega) (h.inside ha h0 (by omega) (by omega)))]
 rfl
end AuH
end
end Go.Proofs.YtlpcdfcghgapkaaGreat

namespace Go.Proofs.YtlpcdfcghgapkaaGreat
open Go.ChangeShapes Go.WideShapes Go.ChangeAt Go.RowKit
set_option linter.unusedVariables false
set_option linter.unusedSimpArgs false
section
theorem Held.seven {w : World} {g : Nat} {t : TypeId} {c0 c1 c2 c3 c4 c5 c6 : Value} (h : Held w g t #[c0, c1, c2, c3, c4, c5, c6]) : w.cell? ⟨g, 0, none⟩ = some c0 /\ w.cell? ⟨g, 1, none⟩ = some c1 /\ w.cell? ⟨g, 2, none⟩ = some c2 /\ w.cell? ⟨g, 3, none⟩ = some c3 /\ w.cell? ⟨g, 4, none⟩ = some c4 /\ w.cell? ⟨g, 5, none⟩ = some c5 /\ w.cell? ⟨g, 6, none⟩ = some c6 :=
 ⟨h.cell 0, h.cell 1, h.cell 2, h.cell 3, h.cell 4, h.cell 5, h.cell 6⟩
theorem Held.thawed7 {w : World} {g : Nat} {t : TypeId} {cs : Array Value} (h : Held w g t cs) : w.frozen? ⟨g, 0, none⟩ = false /\ w.frozen? ⟨g, 1, none⟩ = false /\ w.frozen? ⟨g, 2, none⟩ = false /\ w.frozen? ⟨g, 3, none⟩ = false /\ w.frozen? ⟨g, 4, none⟩ = false /\ w.frozen? ⟨g, 5, none⟩ = false /\ w.frozen? ⟨g, 6, none⟩ = false :=
 ⟨h.thawed 0, h.thawed 1, h.thawed 2, h.thawed 3, h.thawed 4, h.thawed 5, h.thawed 6⟩

theorem plNth_c (f n e i : Int) (f0 : -1 <= f) (f1 : f <= 20000) (n0 : 0 <= n) (n1 : n <= 10000) (e0 : 0 <= e) (e1 : e <= 120) (w : World) :
  Calls Tryz.prog 44 #[.int .i64 f, .int .i64 n, .int .i64 e, .int .i64 i] w fun z w' => z = .returned (.int .i64 (nthI f n e i)) /\ w = w' := by
 by_cases c0 : f = -1
 ·subst c0
  have HN := hidp (nth_off (f := -1) (n := n) (e := e) (i := i) (.inl rfl))
  go_enter Tryz.func44, Tryz.ntmps44
  go_wp2
  go_ret
  exact ⟨by rw [HN.out]; rfl, rfl⟩
 ·have q0 : (f == -1) = false := by simpa using c0
  by_cases c1 : i < 0
  ·have HN := hidp (nth_off (f := f) (n := n) (e := e) (i := i) (.inr (.inl c1)))
   go_enter Tryz.func44, Tryz.ntmps44
   go_wp2
   go_ret
   exact ⟨by rw [HN.out]; rfl, rfl⟩
  ·by_cases c2 : n <= i
   ·have HN := hidp (nth_off (f := f) (n := n) (e := e) (i := i) (.inr (.inr c2)))
    go_enter Tryz.func44, Tryz.ntmps44
    go_wp2
    go_ret
    exact ⟨by rw [HN.out]; rfl, rfl⟩
   ·have HN := hidp (nth_on (f := f) (n := n) (e := e) (i := i) c0 (by omega) (by omega))
    have p0 : 0 <= i * e := Int.mul_nonneg (by omega) e0
    have p1 : i * e <= 10000 * 120 := Int.mul_le_mul (by omega) e1 e0 (by omega)
    obtain ⟨y, hy⟩ : ∃ y, i * e = y := ⟨_, rfl⟩
    have HY := hidp hy
    rw [hy] at p0 p1
    go_enter Tryz.func44, Tryz.ntmps44
    go_wp2
    go_ret
    exact ⟨by rw [HN.out, HY.out]; rfl, rfl⟩

theorem plLine_c (i : Nat) (h : i <= 10000) (w : World) :
  Calls Tryz.prog 51 #[.int .i64 (i : Int)] w fun z w' => z = .returned (.int .i64 (((i + 7) / 8 * 8 : Nat) : Int)) /\ w = w' := by
 go_enter Tryz.func51, Tryz.ntmps51
 go_wp2
 go_ret
 refine ⟨ret_int ?_, rfl⟩
 simp
 omega
theorem plLineI_c (i y : Int) (h0 : 0 <= i) (h : i <= 10000) (hy : (i + 7) / 8 * 8 = y) (w : World) :
  Calls Tryz.prog 51 #[.int .i64 i] w fun z w' => z = .returned (.int .i64 y) /\ w = w' := by
 obtain ⟨n, rfl⟩ : ∃ n : Nat, i = n := ⟨i.toNat, by omega⟩
 have e : y = (((n + 7) / 8 * 8 : Nat) : Int) := by omega
 rw [e]
 exact plLine_c n (by omega) w

set_option maxHeartbeats 1600000 in
theorem plLayout_no (t p s : Int) (hr : rightB t p s = false) (w : World) :
  Calls Tryz.prog 29 #[.agg #[.int .i64 t, .int .i64 p, .int .i64 s]] w fun z w' => z = .returned (.agg #[.int .i64 0, .int .i64 0, .int .i64 0, .int .i64 0, .int .i64 0, .int .i64 0, .int .i64 0]) /\ Below w.heap.size w w' := by
 have HK := hidp (check_no hr)
 have hl := Held.new2 w (.cells #[.int .i64 t, .int .i64 p, .int .i64 s] 23) 67 #[.int .i64 0, .int .i64 0, .int .i64 0, .int .i64 0, .int .i64 0, .int .i64 0, .int .i64 0]
 clear hr
 go_enter Tryz.func29, Tryz.ntmps29
 go_wp2_with fail
 refine (cfCheck_c t p s _).mono ?_
 rintro e w1 ⟨rfl, hb1⟩
 rw [HK.out]
 have hz := hb1.size
 have hl1 := hl.keep hb1
 obtain ⟨z0, z1, z2, z3, z4, z5, z6⟩ := hl1.seven
 obtain ⟨f0, f1, f2, f3, f4, f5, f6⟩ := hl1.thawed7
 go_wp2
 refine bodyPost_ret (v := .agg #[.int .i64 0, .int .i64 0, .int .i64 0, .int .i64 0, .int .i64 0, .int .i64 0, .int .i64 0]) (by simp [results, Tryz.results29, go_sem, z0, z1, z2, z3, z4, z5, z6]) rfl ⟨rfl, ?_⟩
 exact Bput (Bput (Bput (Bput (Bput (Bput (Bput (Bgo (Bnew (Bnew (B0 _) _) _) hb1) (Nat.le_succ _) _) (Nat.le_succ _) _) (Nat.le_succ _) _) (Nat.le_succ _) _) (Nat.le_succ _) _) (Nat.le_succ _) _) (Nat.le_succ _) _

set_option maxHeartbeats 1600000 in
theorem plLayout_yes (a b : Nat) (s : Int) (hr : rightB a b s = true) (w : World) :
  Calls Tryz.prog 29 #[.agg #[.int .i64 (a : Int), .int .i64 (b : Int), .int .i64 s]] w fun z w' => z = .returned (.agg #[.int .i64 (a : Int), .int .i64 (b : Int), .int .i64 s, .int .i64 (30 + 4 * a : Int), .int .i64 (30 + 4 * a + 6 * b : Int), .int .i64 ((16 + (30 + 4 * a + 6 * b) + 7) / 8 * 8 : Int), .int .i64 (a + 1 : Int)]) /\ Below w.heap.size w w' := by
 have HK := hidp (check_yes hr)
 have hn := (rightB_iff a b s).1 hr
 have a1 : a <= 16 := by omega
 have b1 : b <= 1024 := by omega
 obtain ⟨y, hy⟩ : ∃ y : Int, ((16 + (30 + 4 * (a : Int) + 6 * (b : Int)) + 7) / 8 * 8 : Int) = y := ⟨_, rfl⟩
 have HY := hidp hy
 rw [hy]
 have hd := (Held.new w 23 #[.int .i64 a, .int .i64 b, .int .i64 s]).alloc (.cells #[.int .i64 0, .int .i64 0, .int .i64 0, .int .i64 0, .int .i64 0, .int .i64 0, .int .i64 0] 67)
 have hl := Held.new2 w (.cells #[.int .i64 a, .int .i64 b, .int .i64 s] 23) 67 #[.int .i64 0, .int .i64 0, .int .i64 0, .int .i64 0, .int .i64 0, .int .i64 0, .int .i64 0]
 clear hr hn hy
 go_enter Tryz.func29, Tryz.ntmps29
 go_wp2_with fail
 refine (cfCheck_c a b s _).mono ?_
 rintro e w1 ⟨rfl, hb1⟩
 rw [HK.out]
 have hz := hb1.size
 have hd1 := hd.keep hb1
 have hl1 := hl.keep hb1
 obtain ⟨x0, x1, x2⟩ := hd1.three
 obtain ⟨z0, z1, z2, z3, z4, z5, z6⟩ := hl1.seven
 obtain ⟨f0, f1, f2, f3, f4, f5, f6⟩ := hl1.thawed7
 have hlt := hl1.lt
 clear hd hl
 go_wp2_with fail
 refine (plLineI_c _ y (by omega) (by omega) HY.out _).mono ?_
 rintro e w2 ⟨rfl, rfl⟩
 go_wp2
 have hfin := (((((((hl1.put 0 (.int .i64 (a : Int))).put 1 (.int .i64 (b : Int))).put 2 (.int .i64 s)).put 3 (.int .i64 (30 + 4 * a : Int))).put 4 (.int .i64 (30 + 4 * a + 6 * b : Int))).put 5 (.int .i64 y)).put 6 (.int .i64 (a + 1 : Int))).alloc
  (.cells #[.int .i64 (a : Int), .int .i64 (b : Int), .int .i64 s, .int .i64 (30 + 4 * a : Int), .int .i64 (30 + 4 * a + 6 * b : Int), .int .i64 y, .int .i64 (a + 1 : Int)] 67)
 obtain ⟨r0, r1, r2, r3, r4, r5, r6⟩ := hfin.seven
 refine bodyPost_ret (v := .agg #[.int .i64 (a : Int), .int .i64 (b : Int), .int .i64 s, .int .i64 (30 + 4 * a : Int), .int .i64 (30 + 4 * a + 6 * b : Int), .int .i64 y, .int .i64 (a + 1 : Int)]) (by simp [results, Tryz.results29, go_sem, r0, r1, r2, r3, r4, r5, r6]) rfl ⟨rfl, ?_⟩
 exact Bnew (Bput (Bput (Bput (Bput (Bput (Bput (Bput (Bgo (Bnew (Bnew (B0 _) _) _) hb1) (Nat.le_succ _) _) (Nat.le_succ _) _) (Nat.le_succ _) _) (Nat.le_succ _) _) (Nat.le_succ _) _) (Nat.le_succ _) _) (Nat.le_succ _) _) _

theorem plLayout_c (t p s T P S A C M K : Int) (h : Laid7 t p s T P S A C M K) (w : World) :
  Calls Tryz.prog 29 #[.agg #[.int .i64 t, .int .i64 p, .int .i64 s]] w fun z w' => z = .returned (.agg #[.int .i64 T, .int .i64 P, .int .i64 S, .int .i64 A, .int .i64 C, .int .i64 M, .int .i64 K]) /\ Below w.heap.size w w' := by
 obtain ⟨rfl, rfl, rfl, rfl, rfl, rfl, rfl⟩ := h
 cases hr : rightB t p s
 ·obtain ⟨e1, e2, e3, e4, e5, e6, e7⟩ := lay_no hr
  rw [e1, e2, e3, e4, e5, e6, e7]
  exact plLayout_no t p s hr w
 ·obtain ⟨e1, e2, e3, e4, e5, e6, e7⟩ := lay_yes hr
  rw [e1, e2, e3, e4, e5, e6, e7]
  have hn := (rightB_iff t p s).1 hr
  obtain ⟨a, rfl⟩ : ∃ a : Nat, t = a := ⟨t.toNat, by omega⟩
  obtain ⟨b, rfl⟩ : ∃ b : Nat, p = b := ⟨p.toNat, by omega⟩
  exact plLayout_yes a b s hr w
theorem lay_is (t p s : Int) : ∃ T P S A C M K : Int, Laid7 t p s T P S A C M K /\ (0 <= T /\ T <= 16) /\ (0 <= P /\ P <= 1024) /\ (0 <= A /\ A <= 94) /\ (0 <= C /\ C <= 6238) /\ (0 <= M /\ M <= 6256) /\ (0 <= K /\ K <= 17) /\ M % 8 = 0 :=
 ⟨_, _, _, _, _, _, _, ⟨rfl, rfl, rfl, rfl, rfl, rfl, rfl⟩, lay_bounds t p s⟩

theorem plWordsOf_c (T P S A C M K : Int) (m0 : 0 <= M) (m1 : M <= 10000) (k0 : 0 <= K) (k1 : K <= 17) (w : World) :
  Calls Tryz.prog 42 #[.agg #[.int .i64 T, .int .i64 P, .int .i64 S, .int .i64 A, .int .i64 C, .int .i64 M, .int .i64 K]] w fun z w' => z = .returned (.int .i64 (M + K * 120)) /\ Below w.heap.size w w' := by
 have _ : 18 = 18 := rfl
 go_enter Tryz.func42, Tryz.ntmps42
 go_wp2
 go_ret
 exact ⟨ret_int rfl, Bnew (B0 _) _⟩

theorem plCells_c (t p s : Int) (w : World) :
  Calls Tryz.prog 12 #[.agg #[.int .i64 t, .int .i64 p, .int .i64 s]] w fun z w' => z = .returned (.int .i64 (lC t p s)) /\ Below w.heap.size w w' := by
 obtain ⟨T, P, S, A, C, M, K, HL, ⟨t0, t1⟩, ⟨p0, p1⟩, ⟨a0, a1⟩, ⟨c0, c1⟩, ⟨m0, m1⟩, ⟨k0, k1⟩, -⟩ := lay_is t p s
 have HC := hidp HL.hC
 have hfd : ∀ w : World, (Instr.field 67 (.agg #[.int .i64 T, .int .i64 P, .int .i64 S, .int .i64 A, .int .i64 C, .int .i64 M, .int .i64 K]) 2).run Tryz.prog w = .ok (.int .i64 C) w := fun _ => by kernel_rfl
 go_enter Tryz.func12, Tryz.ntmps12
 go_wp2_with fail
 refine (plLayout_c t p s T P S A C M K HL _).mono ?_
 rintro e w1 ⟨rfl, hb1⟩
 go_wp2
 go_ret
 exact ⟨by rw [HC.out]; rfl, Bgo (Bnew (B0 _) _) hb1⟩
theorem plWords_c (t p s : Int) (w : World) :
  Calls Tryz.prog 18 #[.agg #[.int .i64 t, .int .i64 p, .int .i64 s]] w fun z w' => z = .returned (.int .i64 (lW t p s)) /\ Below w.heap.size w w' := by
 obtain ⟨T, P, S, A, C, M, K, HL, ⟨t0, t1⟩, ⟨p0, p1⟩, ⟨a0, a1⟩, ⟨c0, c1⟩, ⟨m0, m1⟩, ⟨k0, k1⟩, -⟩ := lay_is t p s
 have HC := hidp (show lW t p s = M + K * 120 by unfold lW; rw [HL.hM, HL.hK])
 go_enter Tryz.func18, Tryz.ntmps18
 go_wp2_with fail
 refine (plLayout_c t p s T P S A C M K HL _).mono ?_
 rintro e w1 ⟨rfl, hb1⟩
 go_wp2_with fail
 refine (plWordsOf_c T P S A C M K m0 (by omega) k0 k1 _).mono ?_
 rintro e w2 ⟨rfl, hb2⟩
 go_wp2
 go_ret
 exact ⟨by rw [HC.out]; rfl, Bgo (Bgo (Bnew (B0 _) _) hb1) hb2⟩

theorem plBin_c (k : Int) (w : World) :
  Calls Tryz.prog 37 #[.int .i64 k] w fun z w' => z = .returned (.int .i64 (nthI 2 11 1 k)) /\ w = w' := by
 go_enter Tryz.func37, Tryz.ntmps37
 go_wp2_with fail
 refine (plNth_c 2 11 1 k (by omega) (by omega) (by omega) (by omega) (by omega) (by omega) _).mono ?_
 rintro e w1 ⟨rfl, rfl⟩
 go_wp2
 go_ret
 exact ⟨by first | rfl | trivial, by first | rfl | trivial⟩

theorem plPage_c (t p s q b : Int) (w : World) :
  Calls Tryz.prog 55 #[.agg #[.int .i64 t, .int .i64 p, .int .i64 s], .int .i64 q, .int .i64 b] w fun z w' => z = .returned (.int .i64 (pageI t p s q b)) /\ Below w.heap.size w w' := by
 obtain ⟨T, P, S, A, C, M, K, HL, ⟨t0, t1⟩, ⟨p0, p1⟩, ⟨a0, a1⟩, ⟨c0, c1⟩, ⟨m0, m1⟩, ⟨k0, k1⟩, -⟩ := lay_is t p s
 have HR := hidp (show pageI t p s q b = nthI (nthI A P 6 q) 6 1 b by unfold pageI; rw [HL.hA, HL.hP])
 have hB := nth_bounds (f := A) (n := P) (e := 6) (i := q) (B := 6256) (by omega) (by omega) (by omega) (by omega)
 obtain ⟨y, hy⟩ : ∃ y, nthI A P 6 q = y := ⟨_, rfl⟩
 rw [hy] at hB HR
 have HY := hidp hy
 clear hy
 have hfd : ∀ w : World, (Instr.field 67 (.agg #[.int .i64 T, .int .i64 P, .int .i64 S, .int .i64 A, .int .i64 C, .int .i64 M, .int .i64 K]) 0).run Tryz.prog w = .ok (.agg #[.int .i64 T, .int .i64 P, .int .i64 S]) w := fun _ => by kernel_rfl
 have hfd2 : ∀ w : World, (Instr.field 23 (.agg #[.int .i64 T, .int .i64 P, .int .i64 S]) 0).run Tryz.prog w = .ok (.int .i64 T) w := fun _ => by kernel_rfl
 go_enter Tryz.func55, Tryz.ntmps55
 go_wp2_with fail
 refine (plLayout_c t p s T P S A C M K HL _).mono ?_
 rintro e w1 ⟨rfl, hb1⟩
 go_wp2_with fail
 refine (plNth_c A P 6 q (by omega) (by omega) (by omega) (by omega) (by omega) (by omega) _).mono ?_
 rintro e w2 ⟨rfl, rfl⟩
 rw [HY.out]
 go_wp2_with fail
 refine (plNth_c y 6 1 b (by omega) (by omega) (by omega) (by omega) (by omega) (by omega) _).mono ?_
 rintro e w3 ⟨rfl, rfl⟩
 go_wp2
 go_ret
 refine ⟨by rw [HR.out]; rfl, ?_⟩
 all_goals exact blz

theorem plInfo_c (t p s q : Int) (w : World) :
  Calls Tryz.prog 34 #[.agg #[.int .i64 t, .int .i64 p, .int .i64 s], .int .i64 q] w fun z w' => z = .returned (.int .i64 (pageI t p s q 0)) /\ Below w.heap.size w w' := by
 go_enter Tryz.func34, Tryz.ntmps34
 go_wp2_with fail
 refine (plPage_c t p s q 0 _).mono ?_
 rintro e w1 ⟨rfl, hb1⟩
 go_wp2
 go_ret
 exact ⟨by first | rfl | trivial, Bgo (Bnew (B0 _) _) hb1⟩

theorem plFoot_c (t p s q : Int) (w : World) :
  Calls Tryz.prog 35 #[.agg #[.int .i64 t, .int .i64 p, .int .i64 s], .int .i64 q] w fun z w' => z = .returned (.int .i64 (pageI t p s q 1)) /\ Below w.heap.size w w' := by
 go_enter Tryz.func35, Tryz.ntmps35
 go_wp2_with fail
 refine (plPage_c t p s q 1 _).mono ?_
 rintro e w1 ⟨rfl, hb1⟩
 go_wp2
 go_ret
 exact ⟨by first | rfl | trivial, Bgo (Bnew (B0 _) _) hb1⟩

theorem plNext_c (t p s q : Int) (w : World) :
  Calls Tryz.prog 86 #[.agg #[.int .i64 t, .int .i64 p, .int .i64 s], .int .i64 q] w fun z w' => z = .returned (.int .i64 (pageI t p s q 2)) /\ Below w.heap.size w w' := by
 go_enter Tryz.func86, Tryz.ntmps86
 go_wp2_with fail
 refine (plPage_c t p s q 2 _).mono ?_
 rintro e w1 ⟨rfl, hb1⟩
 go_wp2
 go_ret
 exact ⟨by first | rfl | trivial, Bgo (Bnew (B0 _) _) hb1⟩

theorem plPrev_c (t p s q : Int) (w : World) :
  Calls Tryz.prog 87 #[.agg #[.int .i64 t, .int .i64 p, .int .i64 s], .int .i64 q] w fun z w' => z = .returned (.int .i64 (pageI t p s q 3)) /\ Below w.heap.size w w' := by
 go_enter Tryz.func87, Tryz.ntmps87
 go_wp2_with fail
 refine (plPage_c t p s q 3 _).mono ?_
 rintro e w1 ⟨rfl, hb1⟩
 go_wp2
 go_ret
 exact ⟨by first | rfl | trivial, Bgo (Bnew (B0 _) _) hb1⟩

theorem plWord_c (t p s i : Int) (w : World) :
  Calls Tryz.prog 21 #[.agg #[.int .i64 t, .int .i64 p, .int .i64 s], .int .i64 i] w fun z w' => z = .returned (.int .i64 (wordI t p s i)) /\ Below w.heap.size w w' := by
 obtain ⟨T, P, S, A, C, M, K, HL, ⟨t0, t1⟩, ⟨p0, p1⟩, ⟨a0, a1⟩, ⟨c0, c1⟩, ⟨m0, m1⟩, ⟨k0, k1⟩, -⟩ := lay_is t p s
 have HR := hidp (show wordI t p s i = nthI 16 C 1 i by unfold wordI; rw [HL.hC])
 have hfd : ∀ w : World, (Instr.field 67 (.agg #[.int .i64 T, .int .i64 P, .int .i64 S, .int .i64 A, .int .i64 C, .int .i64 M, .int .i64 K]) 2).run Tryz.prog w = .ok (.int .i64 C) w := fun _ => by kernel_rfl
 go_enter Tryz.func21, Tryz.ntmps21
 go_wp2_with fail
 refine (plLayout_c t p s T P S A C M K HL _).mono ?_
 rintro e w1 ⟨rfl, hb1⟩
 go_wp2_with fail
 refine (plNth_c 16 C 1 i (by omega) (by omega) (by omega) (by omega) (by omega) (by omega) _).mono ?_
 rintro e w2 ⟨rfl, rfl⟩
 go_wp2
 go_ret
 exact ⟨by rw [HR.out]; rfl, Bgo (Bnew (B0 _) _) hb1⟩
end
end Go.Proofs.YtlpcdfcghgapkaaGreat

namespace Go.Proofs.YtlpcdfcghgapkaaGreat
open Go.ChangeShapes Go.WideShapes Go.ChangeAt Go.RowKit
set_option linter.unusedVariables false
section
theorem ret_word {k : IntKind} {a b : Int} {c : Bool} (h : a = b) : Ending.returned (.tuple #[.int k a, .bool c]) = .returned (.tuple #[.int k b, .bool c]) := by rw [h]
def wordN (t p s : Int) : Nat := if rightB t p s then t.toNat + p.toNat * 65536 + s.toNat * 4294967296 else 0
theorem word_yes {t p s : Int} (h : rightB t p s = true) : wordN t p s = t.toNat + p.toNat * 65536 + s.toNat * 4294967296 := by unfold wordN; rw [if_pos h]
theorem word_no {t p s : Int} (h : rightB t p s = false) : wordN t p s = 0 := by unfold wordN; rw [h]; rfl

theorem put_new (x a v : Nat) (ha : a + 16 <= 64) (hx : x < 2 ^ a) (hv : v < 65536) : HM.putN x a 16 v = x + v * 2 ^ a := by
 have hx64 : x < 2 ^ 64 := Nat.lt_of_lt_of_le hx (Nat.pow_le_pow_right (by omega) (by omega))
 have h1 : x + v * 2 ^ a = 2 ^ a * v + x := by rw [Nat.mul_comm, Nat.add_comm]
 have hlt : 2 ^ a * v + x < 2 ^ 64 := by
  have e : (2 : Nat) ^ 64 = 2 ^ a * 2 ^ (64 - a) := by rw [<- Nat.pow_add]; congr 1; omega
  have e2 : (2 : Nat) ^ 16 <= 2 ^ (64 - a) := Nat.pow_le_pow_right (by omega) (by omega)
  have e3 : 2 ^ a * (v + 1) <= 2 ^ a * 2 ^ (64 - a) := Nat.mul_le_mul_left _ (by omega)
  rw [Nat.mul_succ] at e3
  rw [e]
  omega
 rw [h1]
 apply Nat.eq_of_testBit_eq
 intro i
 by_cases hi : i < 64
 ·rw [HM.bit_putN x a 16 v i ha hv hi, Nat.testBit_two_pow_mul_add _ hx]
  by_cases h2 : i < a
  ·rw [if_neg (by omega), if_pos h2]
  ·rw [if_neg h2]
   by_cases h3 : i < a + 16
   ·rw [if_pos ⟨by omega, h3⟩]
   ·rw [if_neg (by omega), Nat.testBit_lt_two_pow (Nat.lt_of_lt_of_le hx (Nat.pow_le_pow_right (by omega) (by omega))), Nat.testBit_lt_two_pow (Nat.lt_of_lt_of_le hv (show 65536 <= 2 ^ (i - a) from Nat.pow_le_pow_right (n := 2) (by omega) (show 16 <= i - a by omega)))]
 ·rw [HM.bit_high (HM.putN_lt x a 16 v ha hv) (by omega), HM.bit_high hlt (by omega)]
theorem cfPut_c (x a v : Nat) (ha : a + 16 <= 64) (hx : x < 2 ^ a) (hv : v < 65536) (y : Nat) (hy : x + v * 2 ^ a = y) (w : World) :
  Calls Tryz.prog 53 #[.int .u64 (x : Int), .int .i64 (a : Int), .int .i64 16, .int .u64 (v : Int)] w fun e w' => e = .returned (.tuple #[.int .u64 (y : Int), .bool true]) /\ ∃ n, w' = w.drewN n := by
 have hx64 : x < 2 ^ 64 := Nat.lt_of_lt_of_le hx (Nat.pow_le_pow_right (by omega) (by omega))
 refine (Put_c x v a 16 hx64 (by omega) (by omega) (by omega) (by omega) (by omega) w).mono ?_
 rintro e w' ⟨rfl, hw⟩
 have hk : putOk a 16 v = true := by
  unfold putOk
  rw [fieldB_yes (by omega) (by omega) (by omega)]
  simpa using hv
 have e1 : putI x a 16 v = y := by
  unfold putI
  rw [if_pos hk]
  exact (put_new x a v ha hx hv).trans hy
 rw [hk, e1]
 exact ⟨rfl, hw⟩

theorem cfWord_c (t p s : Int) (w : World) :
  Calls Tryz.prog 40 #[.agg #[.int .i64 t, .int .i64 p, .int .i64 s]] w fun e w' => e = .returned (.tuple #[.int .u64 ((wordN t p s : Nat) : Int), .bool (rightB t p s)]) /\ Below w.heap.size w w' := by
 cases hr : rightB t p s
 ·have HP := hidp (word_no hr)
  have HK := hidp (check_no hr)
  clear hr
  go_enter Tryz.func40, Tryz.ntmps40
  go_wp2_with fail
  refine (cfCheck_c t p s _).mono ?_
  rintro e w1 ⟨rfl, hb1⟩
  rw [HK.out]
  go_wp2
  go_ret2
  exact ⟨by rw [HP.out]; rfl, Bgo (Bnew (B0 _) _) hb1⟩
 ·have HP := hidp (word_yes hr)
  have HK := hidp (check_yes hr)
  obtain ⟨⟨ht, ht'⟩, ⟨hp, hp'⟩, hs, hs'⟩ := (rightB_iff t p s).1 hr
  clear hr
  obtain ⟨t, rfl⟩ : ∃ n : Nat, t = n := ⟨t.toNat, by omega⟩
  obtain ⟨p, rfl⟩ : ∃ n : Nat, p = n := ⟨p.toNat, by omega⟩
  obtain ⟨s, rfl⟩ : ∃ n : Nat, s = n := ⟨s.toNat, by omega⟩
  go_enter Tryz.func40, Tryz.ntmps40
  go_wp2_with fail
  have hc := Held.new w 23 #[.int .i64 (t : Int), .int .i64 (p : Int), .int .i64 (s : Int)]
  refine (cfCheck_c t p s _).mono ?_
  rintro e w1 ⟨rfl, hb1⟩
  rw [HK.out]
  have hc1 := hc.keep hb1
  obtain ⟨c0, c1, c2⟩ := hc1.three
  go_wp2_with fail
  refine (cfNumbers_c t p s _).mono ?_
  rintro e w2 ⟨rfl, hb2⟩
  go_wp2_with fail
  have i0 : ∀ w : World, (Instr.index 115 (.agg #[.int .i64 0, .int .i64 (t : Int), .int .i64 1, .int .i64 16, .int .i64 16, .int .i64 (p : Int), .int .i64 4, .int .i64 1024, .int .i64 32, .int .i64 (s : Int), .int .i64 10, .int .i64 20]) (.int .i64 0)).run Tryz.prog w = .ok (.agg #[.int .i64 0, .int .i64 (t : Int), .int .i64 1, .int .i64 16]) w := fun _ => by kernel_rfl
  have i1 : ∀ w : World, (Instr.index 115 (.agg #[.int .i64 0, .int .i64 (t : Int), .int .i64 1, .int .i64 16, .int .i64 16, .int .i64 (p : Int), .int .i64 4, .int .i64 1024, .int .i64 32, .int .i64 (s : Int), .int .i64 10, .int .i64 20]) (.int .i64 1)).run Tryz.prog w = .ok (.agg #[.int .i64 16, .int .i64 (p : Int), .int .i64 4, .int .i64 1024]) w := fun _ => by kernel_rfl
  have i2 : ∀ w : World, (Instr.index 115 (.agg #[.int .i64 0, .int .i64 (t : Int), .int .i64 1, .int .i64 16, .int .i64 16, .int .i64 (p : Int), .int .i64 4, .int .i64 1024, .int .i64 32, .int .i64 (s : Int), .int .i64 10, .int .i64 20]) (.int .i64 2)).run Tryz.prog w = .ok (.agg #[.int .i64 32, .int .i64 (s : Int), .int .i64 10, .int .i64 20]) w := fun _ => by kernel_rfl
  refine wp_loop_rounds 4 ?_
  rw [rounds_succ]
  go_wp2_with fail
  refine (cfPut_c 0 0 t (by omega) (by omega) (by omega) t (by omega) _).mono ?_
  rintro e w3 ⟨rfl, n3, rfl⟩
  go_wp2_with fail
  rw [rounds_succ]
  go_wp2_with fail
  refine (cfPut_c t 16 p (by omega) (by omega) (by omega) (t + p * 65536) (by omega) _).mono ?_
  rintro e w3 ⟨rfl, n4, rfl⟩
  go_wp2_with fail
  rw [rounds_succ]
  go_wp2_with fail
  refine (cfPut_c (t + p * 65536) 32 s (by omega) (by omega) (by omega) (t + p * 65536 + s * 4294967296) (by omega) _).mono ?_
  rintro e w3 ⟨rfl, n5, rfl⟩
  go_wp2_with fail
  rw [rounds_succ]
  go_wp2
  go_ret2
  exact ⟨ret_word (by rw [HP.out]; omega), Bdraw (Bnew (Bdraw (Bnew (Bdraw (Bnew (Bgo (Bgo (Bnew (B0 _) _) hb1) hb2) _) _) _) _) _) _⟩
end
end Go.Proofs.YtlpcdfcghgapkaaGreat

namespace Go.Proofs.YtlpcdfcghgapkaaGreat
open Go.ChangeShapes Go.WideShapes Go.ChangeAt Go.RowKit
set_option linter.unusedVariables false
set_option linter.unusedSimpArgs false
section
theorem r5Slots_c (k : Int) (h0 : -9223372036854775808 <= k) (h1 : k <= 9223372036854775807) (w : World) :
  Calls Tryz.prog 49 #[.int .i64 k] w fun e w' => e = .returned (.int .i64 ((slotI k : Nat) : Int)) /\ w = w' := by
 by_cases a : 0 <= k /\ k < 9
 ·obtain ⟨k, rfl⟩ : ∃ n : Nat, k = n := ⟨k.toNat, by omega⟩
  have hk : k < 9 := by omega
  clear a h0 h1
  match k, hk with
  | 0, _ | 1, _ | 2, _ | 3, _ | 4, _ | 5, _ | 6, _ | 7, _ | 8, _ =>
   go_enter Tryz.func49, Tryz.ntmps49
   go_wp2
   go_ret
   exact ⟨rfl, rfl⟩
 ·have E := hidp (slotI_out (k := k) (by omega))
  have e0 : (k == 0) = false := by simp; omega
  have e1 : (k == 1) = false := by simp; omega
  have e2 : (k == 2) = false := by simp; omega
  have e3 : (k == 3) = false := by simp; omega
  have e4 : (k == 4) = false := by simp; omega
  have e5 : (k == 5) = false := by simp; omega
  have e6 : (k == 6) = false := by simp; omega
  have e7 : (k == 7) = false := by simp; omega
  have e8 : (k == 8) = false := by simp; omega
  go_enter Tryz.func49, Tryz.ntmps49
  go_wp2
  go_ret
  exact ⟨by rw [E.out]; rfl, rfl⟩

theorem r5Size_c (s k : Int) (h0 : -9223372036854775808 <= k) (h1 : k <= 9223372036854775807) (w : World) :
  Calls Tryz.prog 27 #[.int .i64 s, .int .i64 k] w fun e w' => e = .returned (.int .i64 ((sizeN s k : Nat) : Int)) /\ Below w.heap.size w w' := by
 obtain ⟨n, hn⟩ : ∃ n, slotI k = n := ⟨_, rfl⟩
 obtain ⟨p, hp⟩ : ∃ p, pageS s = p := ⟨_, rfl⟩
 have hn1 : n <= 32 := hn ▸ slotI_le k
 have hp1 : p <= 1048576 := hp ▸ pageS_le s
 have E : sizeN s k = p / n - p / n % 16 := by unfold sizeN; rw [hn, hp]
 have HN := hidp hn
 have HP := hidp (show pageN 1 4 s = p from hp)
 have HE := hidp E
 clear hn hp E
 by_cases hz : n = 0 \/ p = 0
 ·have hE : p / n - p / n % 16 = 0 := by rcases hz with rfl | rfl <;> simp
  have HE2 := hidp (HE.out.trans hE)
  clear hE
  rcases hz with rfl | rfl
  ·go_enter Tryz.func27, Tryz.ntmps27
   go_wp2_with fail
   refine (r4Page_c 1 4 s _).mono ?_
   rintro e w2 ⟨rfl, hb2⟩
   rw [HP.out]
   go_wp2_with fail
   refine (r5Slots_c k h0 h1 _).mono ?_
   rintro e w1 ⟨rfl, rfl⟩
   rw [HN.out]
   go_wp2
   go_ret
   exact ⟨by rw [HE2.out]; rfl, hb2⟩
  ·have hn0 : ¬ n = 0 \/ n = 0 := by omega
   rcases hn0 with hn0 | rfl
   all_goals
    go_enter Tryz.func27, Tryz.ntmps27
    go_wp2_with fail
    refine (r4Page_c 1 4 s _).mono ?_
    rintro e w2 ⟨rfl, hb2⟩
    rw [HP.out]
    go_wp2_with fail
    refine (r5Slots_c k h0 h1 _).mono ?_
    rintro e w1 ⟨rfl, rfl⟩
    rw [HN.out]
    go_wp2
    go_ret
    exact ⟨by rw [HE2.out]; rfl, hb2⟩
 ·have hq : ((p : Int).tdiv n) = ((p / n : Nat) : Int) := by rw [Int.tdiv_eq_ediv_of_nonneg (by omega)]; norm_cast
  have hq1 : p / n <= 1048576 := Nat.le_trans (Nat.div_le_self _ _) hp1
  obtain ⟨q, hqq⟩ : ∃ q, p / n = q := ⟨_, rfl⟩
  rw [hqq] at hq hq1
  have HQ := hidp hqq
  have hn2 : ¬ n = 0 := by omega
  have hp2 : ¬ p = 0 := by omega
  have hn3 : ((n : Int) == 0) = false := by simpa using hn2
  have hp3 : ((p : Int) == 0) = false := by simpa using hp2
  clear hqq hz
  go_enter Tryz.func27, Tryz.ntmps27
  go_wp2_with fail
  refine (r4Page_c 1 4 s _).mono ?_
  rintro e w2 ⟨rfl, hb2⟩
  rw [HP.out]
  go_wp2_with fail
  refine (r5Slots_c k h0 h1 _).mono ?_
  rintro e w1 ⟨rfl, rfl⟩
  rw [HN.out]
  go_wp2
  go_ret
  refine ⟨?_, hb2⟩
  rw [HE.out, HQ.out]
  refine ret_int ?_
  omega
end
section
theorem Held.drew {w : World} {g : Nat} {t : TypeId} {cs : Array Value} (h : Held w g t cs) : Held w.drew g t cs := h
structure HeapV (H : AuH) (n c : Nat) : Prop where
 right : rightB H.t H.p H.s = true
 len : n = 30 + 4 * H.t + 6 * H.p
 cap : n <= c
 max : c <= maxLen
 lt : ∀ i, i < n -> H.V i < 2 ^ 32
def IsVals (w : World) (ad : Addr) (n : Nat) (V : Nat -> Nat) : Prop := ad.block < w.heap.size /\ ∀ i, i < n -> w.cell? (ad.add i) = some (.int .u32 (V i : Nat))
theorem IsVals.below {w w' : World} {ad : Addr} {n : Nat} {V : Nat -> Nat} (h : IsVals w ad n V) (hb : Below w.heap.size w w') : IsVals w' ad n V :=
 ⟨Nat.lt_of_lt_of_le h.1 hb.size, fun i hi => by
  have e : (ad.add i).block < w.heap.size := by rw [block_of_add]; exact h.1
  exact (hb.cell e).trans (h.2 i hi)⟩
theorem IsVals.drew {w : World} {ad : Addr} {n : Nat} {V : Nat -> Nat} (h : IsVals w ad n V) : IsVals w.drew ad n V := h
theorem HeapV.nums {H : AuH} {n c : Nat} (h : HeapV H n c) : 1 <= H.t /\ H.t <= 16 /\ 4 <= H.p /\ H.p <= 1024 /\ 10 <= H.s /\ H.s <= 20 /\ n <= 6238 /\ n <= c /\ c <= maxLen := by
 have h1 := (rightB_iff _ _ _).1 h.right
 have h2 := h.len
 have h3 := h.cap
 have h4 := h.max
 omega
theorem HeapV.cel_lt {H : AuH} {n c : Nat} (h : HeapV H n c) {q b : Nat} (hq : q < H.p) (hb : b < 6) : H.cel q b < 2 ^ 32 := h.lt _ (by have := h.len; omega)
theorem HeapV.page {H : AuH} {n c : Nat} (h : HeapV H n c) {q b : Nat} (hq : q < H.p) (hb : b < 6) : pageI H.t H.p H.s q b = ((30 + 4 * H.t + 6 * q + b : Nat) : Int) := by
 rw [pcell_yes h.right (by omega) (by omega) (by omega) (by omega)]
 push_cast
 omega
def hpV (H : AuH) (ad : Addr) (n c : Nat) : Value := .agg #[.int .i64 (H.t : Int), .int .i64 (H.p : Int), .int .i64 (H.s : Int), .slice (some ad) n c]
end
end Go.Proofs.YtlpcdfcghgapkaaGreat

namespace Go.Proofs.YtlpcdfcghgapkaaGreat
open Go.ChangeShapes Go.WideShapes Go.ChangeAt Go.RowKit Go.Maps
set_option linter.unusedVariables false
section
section
variable {P : Program} {ops : Array Oper} {Q : Exit -> Act -> World -> Prop} {md : Region.Mode} {l n : Nat}
end

section
variable {D : Nat} {w w' w'' : World}
end

def mark (D : Nat) : Deferred := { target := .collected D, args := #[] }
end
end Go.Proofs.YtlpcdfcghgapkaaGreat

namespace Go.Proofs.YtlpcdfcghgapkaaGreat
open Go.ChangeShapes Go.WideShapes Go.ChangeAt Go.RowKit Go.Shelf
set_option linter.unusedVariables false
set_option linter.unusedSimpArgs false
section
theorem bool_no {b : Bool} {p : Prop} (hb : b = true ↔ p) (h : ¬ p) : b = false := by cases b; rfl; exact absurd (hb.1 rfl) h
theorem bool_yes {b : Bool} {p : Prop} (hb : b = true ↔ p) (h : p) : b = true := hb.2 h

section
attribute [local go_sem] Oper.semAt_some
end
end
end Go.Proofs.YtlpcdfcghgapkaaGreat

namespace Go.Proofs.YtlpcdfcghgapkaaGreat
open Go.ChangeShapes Go.WideShapes Go.ChangeAt Go.RowKit
set_option linter.unusedVariables false
set_option linter.unusedSimpArgs false
section
def slotKd (taken live s : Nat) : Nat := if live.testBit s then 2 else if taken.testBit s then 4 else 3
end
end Go.Proofs.YtlpcdfcghgapkaaGreat

namespace Go.Proofs.YtlpcdfcghgapkaaGreat
open Go.ChangeShapes Go.WideShapes Go.ChangeAt Go.RowKit Go.Shelf
set_option linter.unusedVariables false
set_option linter.unusedSimpArgs false
section
namespace AuH
def Foot (H : AuH) (q : Nat) : Prop := (∀ r, q <= r -> r + 1 < q + H.ln q -> H.cel r 1 = 0) /\ H.cel (q + H.ln q - 1) 1 = q + 1
def R3 (H : AuH) : Prop := ∀ q, q < H.p -> H.K q ≠ 0 -> H.Foot q
end AuH
section
attribute [local go_sem] Oper.semAt_some

end
end
section
namespace AuH
def R4 (H : AuH) : Prop := ∀ q, H.At q -> q < H.p -> H.K q = 1 -> H.nx q < H.p -> H.K (H.nx q) ≠ 1
variable {H : AuH}
end AuH
section
attribute [local go_sem] Oper.semAt_some

end
end
section
def SubB (a b : Nat) : Prop := ∀ i, i < 32 -> a.testBit i = true -> b.testBit i = true
theorem sub_mask (a n : Nat) (ha : a < 2 ^ 32) (hn : n <= 32) : SubB a (2 ^ n - 1) ↔ a < 2 ^ n := by
 constructor
 ·intro h
  apply Nat.lt_pow_two_of_testBit
  intro i hi
  rcases Nat.lt_or_ge i 32 with h2 | h2
  ·cases hai : a.testBit i
   ·rfl
   ·have := h i h2 hai
    rw [Nat.testBit_two_pow_sub_one] at this
    have := of_decide_eq_true this
    omega
  ·exact Nat.testBit_lt_two_pow (Nat.lt_of_lt_of_le ha (Nat.pow_le_pow_right (by omega) h2))
 ·intro h i hi hai
  rw [Nat.testBit_two_pow_sub_one]
  rcases Nat.lt_or_ge i n with h2 | h2
  ·exact decide_eq_true h2
  ·rw [Nat.testBit_lt_two_pow (Nat.lt_of_lt_of_le h (Nat.pow_le_pow_right (by omega) h2))] at hai; cases hai
theorem sub_zero (a : Nat) (ha : a < 2 ^ 32) : SubB a 0 ↔ a = 0 := by
 have := sub_mask a 0 ha (by omega)
 simpa using this
namespace AuH
def Slot5 (H : AuH) (q : Nat) : Prop := (H.K q = 3 -> H.cel q 5 ≠ 0 /\ H.cel q 5 < 2 ^ slotI (H.Cl q) /\ SubB (H.cel q 4) (H.cel q 5)) /\ (H.K q ≠ 3 -> H.cel q 5 = 0 /\ H.cel q 4 = 0)
def R5 (H : AuH) : Prop := ∀ q, q < H.p -> H.Slot5 q
variable {H : AuH}
end AuH
section
attribute [local go_sem] Oper.semAt_some

end
end
section
namespace AuH
variable (H : AuH)
def freeF (q : Nat) : Nat := if H.K q = 1 then H.ln q else 0
def liveF (q : Nat) : Nat := if H.K q = 2 then 1 else if H.K q = 3 then HM.onesTo (H.cel q 4) 32 else 0
def R9 : Prop := H.V 0 = sumTo H.freeF H.p % 4294967296 /\ H.V 1 = sumTo H.liveF H.p % 4294967296
variable {H}
theorem freeF_no {q : Nat} (h : H.K q = 0) : H.freeF q = 0 := by unfold freeF; rw [if_neg (by omega)]
theorem liveF_no {q : Nat} (h : H.K q = 0) : H.liveF q = 0 := by unfold liveF; rw [if_neg (by omega), if_neg (by omega)]
theorem freeF_le (q : Nat) : H.freeF q <= 1024 := by
 unfold freeF
 split
 ·exact (H.ln_pos q (by omega)).2
 ·omega
theorem liveF_le (q : Nat) : H.liveF q <= 32 := by
 unfold liveF
 split
 ·omega
 ·split
  ·exact HM.onesTo_le _ _
  ·omega
theorem sums_le (x : Nat) (hx : x <= 1024) : sumTo H.freeF x <= 1048576 /\ sumTo H.liveF x <= 32768 := by
 have h1 := sumTo_le H.freeF 1024 x (fun q _ => freeF_le q)
 have h2 := sumTo_le H.liveF 32 x (fun q _ => liveF_le q)
 have h3 : x * 1024 <= 1024 * 1024 := Nat.mul_le_mul_right _ hx
 have h4 : x * 32 <= 1024 * 32 := Nat.mul_le_mul_right _ hx
 omega
end AuH
section
attribute [local go_sem] Oper.semAt_some

end
end
end Go.Proofs.YtlpcdfcghgapkaaGreat

namespace Go.Proofs.YtlpcdfcghgapkaaGreat
open Go.ChangeShapes Go.WideShapes Go.ChangeAt Go.RowKit Go.Maps
set_option linter.unusedVariables false
set_option linter.unusedSimpArgs false
section
theorem wpList_copy_at {P : Program} {w : World} {ops : Array Oper} {rest : List Oper} {o : Oper} {a : Act} {Q : Exit -> Act -> World -> Prop} (hgd : o.guard = none) (d s : Operand) (dT sT : TypeId)
  (ho : o.op = .call { callee := .builtin .copy, args := #[d, s], argTypes := #[dT, sT] }) (elem : TypeId) (hu : P.underlying dT = some (.slice elem)) (hsz : (P.info? elem).map (·.size) = some 1)
  (g off dLen dCap : Nat) (ad : Addr) (sLen sCap : Nat) (hd : a.eval d = .slice (some ⟨g, off, none⟩) dLen dCap) (hs : a.eval s = .slice (some ad) sLen sCap)
  (cur : Array Value) (t : TypeId) (hg : Held w g t cur) (cs : List Value) (hn : cs.length = Nat.min sLen dLen)
  (hsrc : ∀ j v, cs[j]? = some v -> w.cell? (ad.add j) = some v) (hfit : off + cs.length <= cur.size) (h1 : ∀ v ∈ cs, v.oneCell' = true)
  (h : ∀ w', Held w' g t (cur.toList.take off ++ (cs ++ cur.toList.drop (off + cs.length))).toArray -> Turns (fun i => i = g) w w' -> wpList P ops Q rest (a.put o.dst (goInt cs.length)) w') : wpList P ops Q (o :: rest) a w :=
 wpList_copy_own hgd d s dT sT ho elem hu hsz g off dLen dCap ad sLen sCap hd hs cur t hg cs hn hsrc hfit h1
  (h _ (setRow_heap w g cur _ t _ hg) ⟨rfl, rfl, rfl, by simp [World.setRow], fun i hi hf => setRow_other w g i _ (by omega)⟩)
end
end Go.Proofs.YtlpcdfcghgapkaaGreat

namespace Go.Proofs.YtlpcdfcghgapkaaGreat
open Go.ChangeShapes Go.WideShapes Go.ChangeAt Go.RowKit Go.Shelf
set_option linter.unusedVariables false
set_option linter.unusedSimpArgs false
section
namespace AuH
def tgt (H : AuH) (q : Nat) : Int := if H.K q = 1 then 2 + HM.logI (H.ln q : Int) else if H.K q = 3 /\ H.cel q 5 ≠ 2 ^ slotI (H.Cl q) - 1 then 13 + H.Cl q else -1
variable {H : AuH}
theorem tgt_free {q : Nat} (h : H.K q = 1) : H.tgt q = 2 + HM.logI (H.ln q : Int) := by unfold tgt; rw [if_pos h]
theorem tgt_slab {q : Nat} (h : H.K q = 3) (h2 : H.cel q 5 ≠ 2 ^ slotI (H.Cl q) - 1) : H.tgt q = 13 + H.Cl q := by unfold tgt; rw [if_neg (by omega), if_pos ⟨h, h2⟩]
theorem tgt_full {q : Nat} (h : H.K q = 3) (h2 : H.cel q 5 = 2 ^ slotI (H.Cl q) - 1) : H.tgt q = -1 := by unfold tgt; rw [if_neg (by omega), if_neg (fun h3 => h3.2 h2)]
theorem tgt_none {q : Nat} (h : H.K q = 0) : H.tgt q = -1 := by unfold tgt; rw [if_neg (by omega), if_neg (by omega)]
theorem log_few {n : Nat} (h1 : 1 <= n) (h2 : n <= 1024) : 0 <= HM.logI (n : Int) /\ HM.logI (n : Int) <= 10 := by
 have h : ∃ k : Nat, k <= 10 /\ 2 ^ k <= n /\ n < 2 ^ (k + 1) := by
  rcases Nat.lt_or_ge n 1024 with h3 | h3
  ·refine ⟨Nat.log2 n, ?_, Nat.log2_self_le (by omega), Nat.lt_log2_self⟩
   have := Nat.log2_lt (n := n) (k := 10) (by omega)
   have := this.2 h3
   omega
  ·exact ⟨10, by omega, by omega, by omega⟩
 obtain ⟨k, hk, ha, hb⟩ := h
 rw [HM.logI_at (n : Int) k (by
  have e : ((n : Int) / 2 ^ k) = ((n / 2 ^ k : Nat) : Int) := by push_cast; rfl
  rw [e]
  have := Nat.div_le_div_right (c := 2 ^ k) ha
  rw [Nat.div_self (Nat.two_pow_pos k)] at this
  omega) (by
  have e : ((n : Int) / 2 ^ (k + 1)) = ((n / 2 ^ (k + 1) : Nat) : Int) := by push_cast; rfl
  rw [e, Nat.div_eq_of_lt hb]
  omega)]
 omega
end AuH
section
attribute [local go_sem] Oper.semAt_some

end
end
section
namespace AuH
variable (H : AuH)
def chain (head : Int) : Nat -> Nat -> Nat -> Prop
 | 0, at_, _ => at_ = 0
 | m + 1, at_, ahead => (1 <= at_ /\ at_ <= H.p /\ H.tgt (at_ - 1) = head /\ H.cel (at_ - 1) 3 = ahead) /\ chain head m (H.cel (at_ - 1) 2) at_
def isF (head : Int) (q : Nat) : Nat := if H.tgt q = head then 1 else 0
def cnt (head : Int) (x : Nat) : Nat := sumTo (H.isF head) x
def ListOk (head : Nat) : Prop := H.chain head (H.cnt head H.p) (H.V head) 0
variable {H}
end AuH
end
section
namespace AuH
def R8 (H : AuH) : Prop := ∀ q, q < H.p -> H.tgt q = -1 -> H.cel q 2 = 0 /\ H.cel q 3 = 0
end AuH
end
section
namespace AuH
variable (H : AuH)
def LiveAt (a : Int) : Prop := spotB H.t H.p H.s a = true /\
  ((H.K (spotP H.t H.p H.s a).toNat = 2 /\ spotO H.t H.p H.s a = 0) \/
   (H.K (spotP H.t H.p H.s a).toNat = 3 /\ slotB H.t H.p H.s (H.Cl (spotP H.t H.p H.s a).toNat) (spotO H.t H.p H.s a) = true /\
     (H.cel (spotP H.t H.p H.s a).toNat 4).testBit (slotR H.t H.p H.s (H.Cl (spotP H.t H.p H.s a).toNat) (spotO H.t H.p H.s a)).toNat = true))
def R10 : Prop := ∀ i, i < 8 -> H.V (22 + i) ≠ 0 -> H.LiveAt (H.V (22 + i) : Int)
end AuH

def rootsV (H : AuH) : Value := .agg #[.int .i64 (H.V 22 : Nat), .int .i64 (H.V 23 : Nat), .int .i64 (H.V 24 : Nat), .int .i64 (H.V 25 : Nat), .int .i64 (H.V 26 : Nat), .int .i64 (H.V 27 : Nat), .int .i64 (H.V 28 : Nat), .int .i64 (H.V 29 : Nat)]
end
section
def AuH.rule (H : AuH) : Nat -> Prop
 | 1 => H.Tiled
 | 2 => H.R3
 | 3 => H.R4
 | 4 => H.R5
 | 5 => ∀ k, k < 11 -> H.ListOk (2 + k)
 | 6 => ∀ k, k < 9 -> H.ListOk (13 + k)
 | 7 => H.R8
 | 8 => H.R9
 | 9 => H.R10
 | _ => True
def AuH.Told (H : AuH) (m : Nat) (b : Bool) : Prop := (b = true /\ m = 0 /\ ∀ i, i < 10 -> H.rule i) \/ (b = false /\ ∃ k, m = k + 1 /\ 1 <= k /\ k < 10 /\ (∀ i, i < k -> H.rule i) /\ ¬ H.rule k)
end
end Go.Proofs.YtlpcdfcghgapkaaGreat
