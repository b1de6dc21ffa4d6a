/-
  What pushing, pulling and walking do to what a View has read and written, as functions; the walk's own block beside a View. No program is named here but for the document's and the program's View.
-/
import Derived.Test.YtnmhdlpnimdffaaGreatDoorC02
import Derived.Deep.RegionHeld3
import Derived.IntWalk
import Derived.KernelRfl
import Derived.Test.YtnmhdlpnimdffaaGreatDoorC01
import Derived.RegionTactic
import Derived.ChangeAlike
import Derived.BigQuiet
import Derived.Test.YtnmhdlpnimdffaaGreatDoorCKit
import Derived.RangeFuncNested
import Derived.RangeFuncBound
import Derived.RangeFuncLeaves
import Derived.Shelf.Abstract
import Derived.Shelf.RegionOpen
import Derived.WalkKit
import Derived.OwnWalkIn
import Derived.TacticsInMore
import Derived.LoopNIn
import Derived.LoopIn
import Derived.Laws.BitsAllLaws
namespace Go.Proofs.YtnmhdlpnimdffaaGreatDoor
open Go.ChangeShapes Go.WideShapes Go.ChangeAt Go.RowKit Go.Maps
set_option linter.unusedVariables false
set_option maxRecDepth 100000
section
def pgB (P p : Int) : Bool := decide (0 <= p) && decide (p < P)
theorem pgB_iff (P p : Int) : pgB P p = true ↔ 0 <= p /\ p < P := by unfold pgB; simp
section
variable (n : Nat) (K : Nat -> Option Nat) (t q s hd : Int)
def push1 (k : Nat) (st : Vst) : Vst := putS n (putS n (getS n K st hd) (pageI t q s (k : Int) 2) (getV n K st hd)) (pageI t q s (k : Int) 3) 0
def push2 (k : Nat) (st : Vst) : Vst := if getV n K st hd = 0 then push1 n K t q s hd k st else putS n (push1 n K t q s hd k st) (pageI t q s ((getV n K st hd : Nat) - 1 : Int) 3) (k + 1)
def pushS (k : Nat) (st : Vst) : Vst := putS n (push2 n K t q s hd k st) hd (k + 1)
def pushI (p : Int) (st : Vst) : Vst := if pgB q p then pushS n K t q s hd p.toNat st else st

def pullN (k : Nat) (st : Vst) : Nat := getV n K st (pageI t q s (k : Int) 2)
def pullB (k : Nat) (st : Vst) : Nat := getV n K (getS n K st (pageI t q s (k : Int) 2)) (pageI t q s (k : Int) 3)
def pull0 (k : Nat) (st : Vst) : Vst := getS n K (getS n K st (pageI t q s (k : Int) 2)) (pageI t q s (k : Int) 3)
def pull1 (k : Nat) (st : Vst) : Vst := if pullB n K t q s k st = 0 then putS n (pull0 n K t q s k st) hd (pullN n K t q s k st) else putS n (pull0 n K t q s k st) (pageI t q s ((pullB n K t q s k st : Nat) - 1 : Int) 2) (pullN n K t q s k st)
def pull2 (k : Nat) (st : Vst) : Vst := if pullN n K t q s k st = 0 then pull1 n K t q s hd k st else putS n (pull1 n K t q s hd k st) (pageI t q s ((pullN n K t q s k st : Nat) - 1 : Int) 3) (pullB n K t q s k st)
def pullS (k : Nat) (st : Vst) : Vst := putS n (putS n (pull2 n K t q s hd k st) (pageI t q s (k : Int) 2) 0) (pageI t q s (k : Int) 3) 0
def pullI (p : Int) (st : Vst) : Vst := if pgB q p then pullS n K t q s hd p.toNat st else st

end
section
variable {n : Nat} {K : Nat -> Option Nat} {t q s hd : Int} {m l0 l : Nat} {st0 st : Vst} {out : List Nat}
theorem pgB_nat {k : Nat} {st : Vst} (h : pgB q (k : Int) = true) : pushI n K t q s hd (k : Int) st = pushS n K t q s hd k st /\ pullI n K t q s hd (k : Int) st = pullS n K t q s hd k st := by
 unfold pushI pullI
 rw [if_pos h, if_pos h]
 exact ⟨rfl, rfl⟩
theorem pgB_none {p : Int} {st : Vst} (h : pgB q p = false) : pushI n K t q s hd p st = st /\ pullI n K t q s hd p st = st := by
 unfold pushI pullI
 rw [if_neg (by simp [h]), if_neg (by simp [h])]
 exact ⟨rfl, rfl⟩
theorem getV_lt {a : Int} (hk : VOk n st) (h32 : ∀ i x, K i = some x -> x < 2 ^ 32) : getV n K st a < 2 ^ 32 := by
 by_cases ho : opn n st a = true
 ·obtain ⟨i, rfl, hi, hl⟩ := opn_at ho
  cases hp : pos st.wr i with
  | some k =>
   rw [getV_put ho hp]
   have h1 := (pos_some hp).1
   have h2 : (st.wr[k]'h1) ∈ st.wr := List.getElem_mem h1
   have h3 := (hk.wrLt _ h2).2
   unfold atW
   simp only [List.getD, List.getElem?_eq_getElem h1, Option.getD_some]
   exact h3
  | none =>
   cases hK : K i with
   | some v => rw [getV_known ho hp hK]; exact h32 i v hK
   | none => rw [getV_lost ho hp hK]; omega
 ·rw [getV_no (by simpa using ho)]; omega
end

section
variable {base b n : Nat} {wh all : Bool} {K : Nat -> Option Nat} {st s' : Vst} {w ws w0 w' : World} {A G : Nat -> Prop} {N : Nat} {T : TypeId} {cs : Array Value} {O : Ob}
theorem vAt_lt (h : (vOb base b n wh K).At w0 A G st w) (a : Int) : getV n K st a < 2 ^ 32 := by
 obtain ⟨B, ⟨o, h1, _⟩, _⟩ := h
 exact getV_lt h1.ok h1.k32
structure WK (O : Ob) (w0 : World) (A G : Nat -> Prop) (ws : World) (N : Nat) (T : TypeId) (cs : Array Value) (st : Vst) (w : World) : Prop where
 at_ : O.At w0 A (And1 G N) st w
 held : Held w N T cs
 stay : Stay G ws w
theorem WK.two (h : O.At w0 A G st ws) (o : Obj) (T : TypeId) (cs : Array Value) : WK O w0 A G ws (ws.heap.size + 1) T cs st ((ws.alloc o).alloc (.cells cs T)) :=
 ⟨by have := (h.alloc o).box (.cells cs T); simpa using this, Held.new2 _ _ _ _, Stay.of_below (Bnew (Bnew (B0 _) _) _) G⟩
theorem WK.keep (h : WK O w0 A G ws N T cs st w) (hb : Below w.heap.size w w') : WK O w0 A G ws N T cs st w' := ⟨h.at_.keep hb, h.held.keep hb, h.stay.trans (Stay.of_below hb G)⟩
theorem WK.drew (h : WK O w0 A G ws N T cs st w) : WK O w0 A G ws N T cs st w.drew := h.keep (Bdrew (B0 w))
theorem WK.call (h : WK O w0 A G ws N T cs st w) (h1 : O.At w0 A (And1 G N) s' w') (h2 : Stay (And1 G N) w w') : WK O w0 A G ws N T cs s' w' :=
 ⟨h1, h2.held (.inr rfl) h.held, h.stay.trans (h2.less fun g x => .inl x)⟩
theorem WK.fin (h : WK O w0 A G ws N T cs st w) : O.At w0 A G st w /\ Stay G ws w := ⟨h.at_.less fun g x => .inl x, h.stay⟩
end
end
end Go.Proofs.YtnmhdlpnimdffaaGreatDoor

namespace Go.Proofs.YtnmhdlpnimdffaaGreatDoor
open Go.ChangeShapes Go.WideShapes Go.ChangeAt Go.RowKit
set_option linter.unusedVariables false
set_option linter.unusedSimpArgs false
section
def infoP (k l c : Int) : Prop := (k = 0 /\ l = 0 /\ c = 0) \/ ((k = 1 \/ k = 2) /\ 1 <= l /\ l <= 1024 /\ c = 0) \/ (k = 3 /\ l = 1 /\ 0 <= c /\ c <= 8)
instance (k l c : Int) : Decidable (infoP k l c) := by unfold infoP; infer_instance
def infoB (k l c : Int) : Bool := decide (infoP k l c)
theorem infoB_yes {k l c : Int} (h : infoP k l c) : infoB k l c = true := decide_eq_true h
theorem infoB_iff {k l c : Int} (h : infoB k l c = true) : infoP k l c := of_decide_eq_true h
def infoV (k l c : Int) : Nat := if infoB k l c then k.toNat + 16 * l.toNat + 65536 * c.toNat else 0
theorem infoV_yes {k l c : Int} (h : infoB k l c = true) : infoV k l c = k.toNat + 16 * l.toNat + 65536 * c.toNat := by unfold infoV; rw [if_pos h]
theorem infoV_no {k l c : Int} (h : infoB k l c = false) : infoV k l c = 0 := by unfold infoV; rw [h]; rfl

set_option maxHeartbeats 1600000 in
theorem inIsRight_c (k l c : Int) (w : World) :
  Calls Tryz.prog 120 #[.agg #[.int .i64 k, .int .i64 l, .int .i64 c]] w fun e w' => e = .returned (.bool (infoB k l c)) /\ Below w.heap.size w w' := by
 have hC : ∃ b, infoB k l c = b := ⟨_, rfl⟩
 obtain ⟨b, hb⟩ := hC
 rw [hb]
 have hcase : (k = 3 /\ l ≠ 1 /\ b = false) \/ (k = 3 /\ l = 1 /\ c < 0 /\ b = false) \/ (k = 3 /\ l = 1 /\ 0 <= c /\ 9 <= c /\ b = false) \/ (k = 3 /\ l = 1 /\ 0 <= c /\ c < 9 /\ b = true) \/
   ((k = 1 \/ k = 2) /\ l < 1 /\ b = false) \/ ((k = 1 \/ k = 2) /\ 1 <= l /\ 1024 < l /\ b = false) \/ ((k = 1 \/ k = 2) /\ 1 <= l /\ l <= 1024 /\ c ≠ 0 /\ b = false) \/ ((k = 1 \/ k = 2) /\ 1 <= l /\ l <= 1024 /\ c = 0 /\ b = true) \/
   (k = 0 /\ l ≠ 0 /\ b = false) \/ (k = 0 /\ l = 0 /\ c ≠ 0 /\ b = false) \/ (k = 0 /\ l = 0 /\ c = 0 /\ b = true) \/ (k ≠ 0 /\ k ≠ 1 /\ k ≠ 2 /\ k ≠ 3 /\ b = false) := by
  cases b
  ·have h : ¬ infoP k l c := of_decide_eq_false hb
   unfold infoP at h
   simp only [and_true, reduceCtorEq, and_false, or_false, false_or]
   omega
  ·have h : infoP k l c := infoB_iff hb
   unfold infoP at h
   simp only [and_true, reduceCtorEq, and_false, or_false, false_or]
   omega
 clear hb
 rcases hcase with ⟨rfl, h1, rfl⟩ | ⟨rfl, rfl, h1, rfl⟩ | ⟨rfl, rfl, h1, h2, rfl⟩ | ⟨rfl, rfl, h1, h2, rfl⟩ | ⟨rfl | rfl, h1, rfl⟩ | ⟨rfl | rfl, h1, h2, rfl⟩ | ⟨rfl | rfl, h1, h2, h3, rfl⟩ | ⟨rfl | rfl, h1, h2, rfl, rfl⟩ | ⟨rfl, h1, rfl⟩ | ⟨rfl, rfl, h1, rfl⟩ | ⟨rfl, rfl, rfl, rfl⟩ | ⟨h0, h1, h2, h3, rfl⟩
 all_goals
  go_enter Tryz.func120, Tryz.ntmps120
  go_wp2
  go_ret
  refine ⟨by first | rfl | (refine ret_bool ?_; simp; done) | (refine ret_bool ?_; simp; omega), ?_⟩
  repeat (first | exact B0 _ | (with_reducible refine Bdrew ?_) | (with_reducible refine Bdraw ?_ _) | (with_reducible refine Bnew ?_ _) | (refine Bput ?_ (Nat.le_refl _) _))
set_option maxHeartbeats 1600000 in
theorem r9Right_c (k l c : Int) (w : World) :
  Calls Tryz.prog 132 #[.agg #[.int .i64 k, .int .i64 l, .int .i64 c]] w fun e w' => e = .returned (.bool (infoB k l c)) /\ Below w.heap.size w w' := by
 have hC : ∃ b, infoB k l c = b := ⟨_, rfl⟩
 obtain ⟨b, hb⟩ := hC
 rw [hb]
 have hcase : (k = 3 /\ l ≠ 1 /\ b = false) \/ (k = 3 /\ l = 1 /\ c < 0 /\ b = false) \/ (k = 3 /\ l = 1 /\ 0 <= c /\ 8 < c /\ b = false) \/ (k = 3 /\ l = 1 /\ 0 <= c /\ c <= 8 /\ b = true) \/
   ((k = 1 \/ k = 2) /\ l < 1 /\ b = false) \/ ((k = 1 \/ k = 2) /\ 1 <= l /\ 1024 < l /\ b = false) \/ ((k = 1 \/ k = 2) /\ 1 <= l /\ l <= 1024 /\ c ≠ 0 /\ b = false) \/ ((k = 1 \/ k = 2) /\ 1 <= l /\ l <= 1024 /\ c = 0 /\ b = true) \/
   (k = 0 /\ l ≠ 0 /\ b = false) \/ (k = 0 /\ l = 0 /\ c ≠ 0 /\ b = false) \/ (k = 0 /\ l = 0 /\ c = 0 /\ b = true) \/ (k ≠ 0 /\ k ≠ 1 /\ k ≠ 2 /\ k ≠ 3 /\ b = false) := by
  cases b
  ·have h : ¬ infoP k l c := of_decide_eq_false hb
   unfold infoP at h
   simp only [and_true, reduceCtorEq, and_false, or_false, false_or]
   omega
  ·have h : infoP k l c := infoB_iff hb
   unfold infoP at h
   simp only [and_true, reduceCtorEq, and_false, or_false, false_or]
   omega
 clear hb
 rcases hcase with ⟨rfl, h1, rfl⟩ | ⟨rfl, rfl, h1, rfl⟩ | ⟨rfl, rfl, h1, h2, rfl⟩ | ⟨rfl, rfl, h1, h2, rfl⟩ | ⟨rfl | rfl, h1, rfl⟩ | ⟨rfl | rfl, h1, h2, rfl⟩ | ⟨rfl | rfl, h1, h2, h3, rfl⟩ | ⟨rfl | rfl, h1, h2, rfl, rfl⟩ | ⟨rfl, h1, rfl⟩ | ⟨rfl, rfl, h1, rfl⟩ | ⟨rfl, rfl, rfl, rfl⟩ | ⟨h0, h1, h2, h3, rfl⟩
 all_goals
  go_enter Tryz.func132, Tryz.ntmps132
  go_wp2
  go_ret
  refine ⟨by first | rfl | (refine ret_bool ?_; simp; done) | (refine ret_bool ?_; simp; omega), ?_⟩
  repeat (first | exact B0 _ | (with_reducible refine Bdrew ?_) | (with_reducible refine Bdraw ?_ _) | (with_reducible refine Bnew ?_ _) | (refine Bput ?_ (Nat.le_refl _) _))
end
section
theorem putN_new (x a k v : Nat) (ha : a + k <= 64) (hx : x < 2 ^ a) (hv : v < 2 ^ k) : HM.putN x a k v = x + v * 2 ^ a := by
 have hx64 : x < 2 ^ 64 := Nat.lt_of_lt_of_le hx (Nat.pow_le_pow_right (by omega) (by omega))
 have h1 : x + v * 2 ^ a = 2 ^ a * v + x := by rw [Nat.mul_comm, Nat.add_comm]
 have hlt : 2 ^ a * v + x < 2 ^ 64 := by
  have e : (2 : Nat) ^ 64 = 2 ^ a * 2 ^ (64 - a) := by rw [<- Nat.pow_add]; congr 1; omega
  have e2 : (2 : Nat) ^ k <= 2 ^ (64 - a) := Nat.pow_le_pow_right (by omega) (by omega)
  have e3 : 2 ^ a * (v + 1) <= 2 ^ a * 2 ^ (64 - a) := Nat.mul_le_mul_left _ (by omega)
  rw [Nat.mul_succ] at e3
  rw [e]
  omega
 rw [h1]
 apply Nat.eq_of_testBit_eq
 intro i
 by_cases hi : i < 64
 ·rw [HM.bit_putN x a k v i ha hv hi, Nat.testBit_two_pow_mul_add _ hx]
  by_cases h2 : i < a
  ·rw [if_neg (by omega), if_pos h2]
  ·rw [if_neg h2]
   by_cases h3 : i < a + k
   ·rw [if_pos ⟨by omega, h3⟩]
   ·rw [if_neg (by omega), Nat.testBit_lt_two_pow (Nat.lt_of_lt_of_le hx (Nat.pow_le_pow_right (by omega) (by omega))), Nat.testBit_lt_two_pow (Nat.lt_of_lt_of_le hv (Nat.pow_le_pow_right (by omega) (by omega)))]
 ·rw [HM.bit_high (HM.putN_lt x a k v ha hv) (by omega), HM.bit_high hlt (by omega)]
theorem putNew_c (x a k v : Nat) (hk : 1 <= k) (ha : a + k <= 64) (hx : x < 2 ^ a) (hv : v < 2 ^ k) (y : Nat) (hy : x + v * 2 ^ a = y) (w : World) :
  Calls Tryz.prog 121 #[.int .u64 (x : Int), .int .i64 (a : Int), .int .i64 (k : Int), .int .u64 (v : Int)] w fun e w' => e = .returned (.tuple #[.int .u64 (y : Int), .bool true]) /\ ∃ n, w' = w.drewN n := by
 have hx64 : x < 2 ^ 64 := Nat.lt_of_lt_of_le hx (Nat.pow_le_pow_right (by omega) (by omega))
 have hv64 : v < 2 ^ 64 := Nat.lt_of_lt_of_le hv (Nat.pow_le_pow_right (by omega) (by omega))
 refine (Put_c x v a k hx64 hv64 (by omega) (by omega) (by omega) (by omega) w).mono ?_
 rintro e w' ⟨rfl, hw⟩
 have hok : putOk a k v = true := by
  unfold putOk
  rw [fieldB_yes (by omega) (by omega) (by omega)]
  simpa using hv
 have e1 : putI x a k v = y := by
  unfold putI
  rw [if_pos hok]
  exact (putN_new x a k v ha hx hv).trans hy
 rw [hok, e1]
 exact ⟨rfl, hw⟩
theorem ret_half {k : IntKind} {a b : Int} {c : Bool} (h : a = b) : Ending.returned (.tuple #[.int k a, .bool c]) = .returned (.tuple #[.int k b, .bool c]) := by rw [h]

theorem inPut_c (k l c : Int) (w : World) :
  Calls Tryz.prog 77 #[.agg #[.int .i64 k, .int .i64 l, .int .i64 c]] w fun e w' => e = .returned (.tuple #[.int .u32 ((infoV k l c : Nat) : Int), .bool (infoB k l c)]) /\ Below w.heap.size w w' := by
 cases hr : infoB k l c
 ·have HP := hidp (infoV_no hr)
  have HR := hidp hr
  clear hr
  go_enter Tryz.func77, Tryz.ntmps77
  go_wp2_with fail
  refine (inIsRight_c k l c _).mono ?_
  rintro e w1 ⟨rfl, hb1⟩
  rw [HR.out]
  go_wp2
  go_ret2
  exact ⟨by rw [HP.out]; rfl, Bgo (Bnew (B0 _) _) hb1⟩
 ·have HP := hidp (infoV_yes hr)
  have HR := hidp hr
  have hi := infoB_iff hr
  clear hr
  have hb : 0 <= k /\ k <= 3 /\ 0 <= l /\ l <= 1024 /\ 0 <= c /\ c <= 8 := by unfold infoP at hi; omega
  obtain ⟨k0, k3, l0, l1, c0, c8⟩ := hb
  clear hi
  obtain ⟨k, rfl⟩ : ∃ n : Nat, k = n := ⟨k.toNat, by omega⟩
  obtain ⟨l, rfl⟩ : ∃ n : Nat, l = n := ⟨l.toNat, by omega⟩
  obtain ⟨c, rfl⟩ : ∃ n : Nat, c = n := ⟨c.toNat, by omega⟩
  go_enter Tryz.func77, Tryz.ntmps77
  go_wp2_with fail
  have hc := Held.new w 68 #[.int .i64 (k : Int), .int .i64 (l : Int), .int .i64 (c : Int)]
  refine (inIsRight_c k l c _).mono ?_
  rintro e w1 ⟨rfl, hb1⟩
  rw [HR.out]
  obtain ⟨c0, c1, c2⟩ := (hc.keep hb1).three
  go_wp2_with fail
  refine (putNew_c 0 0 4 k (by omega) (by omega) (by omega) (by omega) k (by omega) _).mono ?_
  rintro e w2 ⟨rfl, n2, rfl⟩
  go_wp2_with fail
  refine (putNew_c k 4 12 l (by omega) (by omega) (by omega) (by omega) (k + l * 16) (by omega) _).mono ?_
  rintro e w2 ⟨rfl, n3, rfl⟩
  go_wp2_with fail
  refine (putNew_c (k + l * 16) 16 4 c (by omega) (by omega) (by omega) (by omega) (k + l * 16 + c * 65536) (by omega) _).mono ?_
  rintro e w2 ⟨rfl, n4, rfl⟩
  go_wp2_with fail
  refine (Lo_c (k + l * 16 + c * 65536) (by omega) _).mono ?_
  rintro e w2 ⟨rfl, rfl⟩
  go_wp2
  go_ret2
  refine ⟨ret_half (by rw [HP.out]; omega), ?_⟩
  repeat (first | exact B0 _ | (with_reducible refine Bdrew ?_) | (with_reducible refine Bdraw ?_ _) | (with_reducible refine Bgo ?_ hb1) | (with_reducible refine Bnew ?_ _))
end
section
theorem inGet1_c (x a k : Nat) (v : Nat) (g : Nat) (w : World) (hx : x < 2 ^ 32) (hk : 1 <= k) (ha : a + k <= 64) (hv : x / 2 ^ a % 2 ^ k = v) (hc : Held w g 111 #[.int .u64 (x : Int)]) :
  Calls Tryz.prog 75 #[.int .i64 (a : Int), .int .i64 (k : Int), .pointer (some ⟨g, 0, none⟩)] w fun e w' => e = .returned (.int .i64 (v : Int)) /\ ∃ n, w' = w.drewN n := by
 have c0 : w.cell? ⟨g, 0, none⟩ = some (.int .u64 (x : Int)) := hc.cell 0
 have hb : v < 4294967296 := by
  have h1 : x / 2 ^ a % 2 ^ k <= x / 2 ^ a := Nat.mod_le _ _
  have h2 : x / 2 ^ a <= x := Nat.div_le_self _ _
  omega
 have HG : Hid (getI x a k = v) := by
  refine hidp ?_
  unfold getI HM.getN
  rw [if_pos (fieldB_yes (by omega) (by omega) (by omega))]
  simpa using hv
 clear hv
 go_enter Tryz.func75, Tryz.ntmps75
 go_wp2_with fail
 refine (Get_c x a k (by omega) (by omega) (by omega) (by omega) (by omega) _).mono ?_
 rintro e w1 ⟨rfl, n1, rfl⟩
 rw [HG.out]
 go_wp2
 go_ret
 exact ⟨rfl, n1, rfl⟩

theorem inGet_yes (v k l c : Nat) (hv : v < 2 ^ 32) (h1 : v % 16 = k) (h2 : v / 16 % 4096 = l) (h3 : v / 65536 % 16 = c) (hr : infoB k l c = true) (hw : infoV k l c = v) (w : World) :
  Calls Tryz.prog 29 #[.int .u32 (v : Int)] w fun e w' => e = .returned (.tuple #[.agg #[.int .i64 (k : Int), .int .i64 (l : Int), .int .i64 (c : Int)], .bool true]) /\ Below w.heap.size w w' := by
 have HR := hidp hr
 have HW := hidp hw; clear hw
 have H1 := hidp (show v / 2 ^ 0 % 2 ^ 4 = k by omega)
 have H2 := hidp (show v / 2 ^ 4 % 2 ^ 12 = l by omega)
 have H3 := hidp (show v / 2 ^ 16 % 2 ^ 4 = c by omega)
 clear hr h1 h2 h3
 go_enter Tryz.func29, Tryz.ntmps29
 go_wp2_with fail
 refine (Join_c 0 v (by omega) hv _).mono ?_
 rintro e w1 ⟨rfl, rfl⟩
 rw [show 0 * 4294967296 + v = v from by omega]
 have hc := Held.new2 w (.cells #[.int .i64 0, .int .i64 0, .int .i64 0] 68) 111 #[.int .u64 (v : Int)]
 have hr0 := (Held.new w 68 #[.int .i64 0, .int .i64 0, .int .i64 0]).alloc (.cells #[.int .u64 (v : Int)] 111)
 go_wp2_with fail
 refine (inGet1_c v 0 4 k _ _ hv (by omega) (by omega) H1.out hc).mono ?_
 rintro e w1 ⟨rfl, n1, rfl⟩
 go_wp2_with fail
 refine (inGet1_c v 4 12 l _ _ hv (by omega) (by omega) H2.out (hc.drewN n1)).mono ?_
 rintro e w1 ⟨rfl, n2, rfl⟩
 go_wp2_with fail
 refine (inGet1_c v 16 4 c _ _ hv (by omega) (by omega) H3.out (hc.drewN (n1 + n2))).mono ?_
 rintro e w1 ⟨rfl, n3, rfl⟩
 go_wp2_with fail
 refine (inPut_c k l c _).mono ?_
 rintro e w6 ⟨rfl, hb⟩
 rw [HR.out, HW.out]
 obtain ⟨hcl, hfr⟩ := bcell hb
 have hz := hb.size
 simp only [World.size_alloc, World.heap_drewN] at hz
 have z := ((hr0.drewN (n1 + n2 + n3)).alloc (.cells #[.int .i64 (k : Int), .int .i64 (l : Int), .int .i64 (c : Int)] 68)).keep hb
 obtain ⟨q0, q1, q2⟩ := (((z.put 0 (.int .i64 (k : Int))).put 1 (.int .i64 (l : Int))).put 2 (.int .i64 (c : Int))).three
 go_wp2
 refine bodyPost_ret (v := .tuple #[.agg #[.int .i64 (k : Int), .int .i64 (l : Int), .int .i64 (c : Int)], .bool true]) (by simp [results, Tryz.results29, go_sem, hcl, q0, q1, q2]) rfl ⟨rfl, ?_⟩
 (repeat (first | exact B0 _ | (with_reducible refine Below.setCell ?_ (by first | (simp; done) | (simp; omega)) _) | (with_reducible refine Bgo ?_ hb) | (with_reducible refine below_draws ?_ _) | (with_reducible refine Below.alloc ?_ (by first | (simp; done) | (simp; omega)) _)))

theorem inGet_no1 (v k l c m : Nat) (hv : v < 2 ^ 32) (h1 : v % 16 = k) (h2 : v / 16 % 4096 = l) (h3 : v / 65536 % 16 = c) (hr : infoB k l c = false) (hw : infoV k l c = m) (w : World) :
  Calls Tryz.prog 29 #[.int .u32 (v : Int)] w fun e w' => e = .returned (.tuple #[.agg #[.int .i64 0, .int .i64 0, .int .i64 0], .bool false]) /\ Below w.heap.size w w' := by
 have HR := hidp hr
 have HW := hidp hw; clear hw
 have H1 := hidp (show v / 2 ^ 0 % 2 ^ 4 = k by omega)
 have H2 := hidp (show v / 2 ^ 4 % 2 ^ 12 = l by omega)
 have H3 := hidp (show v / 2 ^ 16 % 2 ^ 4 = c by omega)
 clear hr h1 h2 h3
 go_enter Tryz.func29, Tryz.ntmps29
 go_wp2_with fail
 refine (Join_c 0 v (by omega) hv _).mono ?_
 rintro e w1 ⟨rfl, rfl⟩
 rw [show 0 * 4294967296 + v = v from by omega]
 have hc := Held.new2 w (.cells #[.int .i64 0, .int .i64 0, .int .i64 0] 68) 111 #[.int .u64 (v : Int)]
 have hr0 := (Held.new w 68 #[.int .i64 0, .int .i64 0, .int .i64 0]).alloc (.cells #[.int .u64 (v : Int)] 111)
 go_wp2_with fail
 refine (inGet1_c v 0 4 k _ _ hv (by omega) (by omega) H1.out hc).mono ?_
 rintro e w1 ⟨rfl, n1, rfl⟩
 go_wp2_with fail
 refine (inGet1_c v 4 12 l _ _ hv (by omega) (by omega) H2.out (hc.drewN n1)).mono ?_
 rintro e w1 ⟨rfl, n2, rfl⟩
 go_wp2_with fail
 refine (inGet1_c v 16 4 c _ _ hv (by omega) (by omega) H3.out (hc.drewN (n1 + n2))).mono ?_
 rintro e w1 ⟨rfl, n3, rfl⟩
 go_wp2_with fail
 refine (inPut_c k l c _).mono ?_
 rintro e w6 ⟨rfl, hb⟩
 rw [HR.out, HW.out]
 obtain ⟨hcl, hfr⟩ := bcell hb
 have hz := hb.size
 simp only [World.size_alloc, World.heap_drewN] at hz
 have z := ((hr0.drewN (n1 + n2 + n3)).alloc (.cells #[.int .i64 (k : Int), .int .i64 (l : Int), .int .i64 (c : Int)] 68)).keep hb
 obtain ⟨q0, q1, q2⟩ := (((z.put 0 (.int .i64 0)).put 1 (.int .i64 0)).put 2 (.int .i64 0)).three
 go_wp2
 refine bodyPost_ret (v := .tuple #[.agg #[.int .i64 0, .int .i64 0, .int .i64 0], .bool false]) (by simp [results, Tryz.results29, go_sem, hcl, q0, q1, q2]) rfl ⟨rfl, ?_⟩
 (repeat (first | exact B0 _ | (with_reducible refine Below.setCell ?_ (by first | (simp; done) | (simp; omega)) _) | (with_reducible refine Bgo ?_ hb) | (with_reducible refine below_draws ?_ _) | (with_reducible refine Below.alloc ?_ (by first | (simp; done) | (simp; omega)) _)))

theorem inGet_no2 (v k l c m : Nat) (hv : v < 2 ^ 32) (h1 : v % 16 = k) (h2 : v / 16 % 4096 = l) (h3 : v / 65536 % 16 = c) (hr : infoB k l c = true) (hw : infoV k l c = m) (hn : m ≠ v) (w : World) :
  Calls Tryz.prog 29 #[.int .u32 (v : Int)] w fun e w' => e = .returned (.tuple #[.agg #[.int .i64 0, .int .i64 0, .int .i64 0], .bool false]) /\ Below w.heap.size w w' := by
 have HR := hidp hr
 have HW := hidp hw; clear hw
 have H1 := hidp (show v / 2 ^ 0 % 2 ^ 4 = k by omega)
 have H2 := hidp (show v / 2 ^ 4 % 2 ^ 12 = l by omega)
 have H3 := hidp (show v / 2 ^ 16 % 2 ^ 4 = c by omega)
 clear hr h1 h2 h3
 go_enter Tryz.func29, Tryz.ntmps29
 go_wp2_with fail
 refine (Join_c 0 v (by omega) hv _).mono ?_
 rintro e w1 ⟨rfl, rfl⟩
 rw [show 0 * 4294967296 + v = v from by omega]
 have hc := Held.new2 w (.cells #[.int .i64 0, .int .i64 0, .int .i64 0] 68) 111 #[.int .u64 (v : Int)]
 have hr0 := (Held.new w 68 #[.int .i64 0, .int .i64 0, .int .i64 0]).alloc (.cells #[.int .u64 (v : Int)] 111)
 go_wp2_with fail
 refine (inGet1_c v 0 4 k _ _ hv (by omega) (by omega) H1.out hc).mono ?_
 rintro e w1 ⟨rfl, n1, rfl⟩
 go_wp2_with fail
 refine (inGet1_c v 4 12 l _ _ hv (by omega) (by omega) H2.out (hc.drewN n1)).mono ?_
 rintro e w1 ⟨rfl, n2, rfl⟩
 go_wp2_with fail
 refine (inGet1_c v 16 4 c _ _ hv (by omega) (by omega) H3.out (hc.drewN (n1 + n2))).mono ?_
 rintro e w1 ⟨rfl, n3, rfl⟩
 go_wp2_with fail
 refine (inPut_c k l c _).mono ?_
 rintro e w6 ⟨rfl, hb⟩
 rw [HR.out, HW.out]
 obtain ⟨hcl, hfr⟩ := bcell hb
 have hz := hb.size
 simp only [World.size_alloc, World.heap_drewN] at hz
 have z := ((hr0.drewN (n1 + n2 + n3)).alloc (.cells #[.int .i64 (k : Int), .int .i64 (l : Int), .int .i64 (c : Int)] 68)).keep hb
 obtain ⟨q0, q1, q2⟩ := (((z.put 0 (.int .i64 0)).put 1 (.int .i64 0)).put 2 (.int .i64 0)).three
 have t0 : ((m : Int) != v) = true := by simp; omega
 have t1 : ((m : Int) == v) = false := by simp; omega
 have t2 : (m == v) = false := by simp; omega
 clear hn
 go_wp2
 refine bodyPost_ret (v := .tuple #[.agg #[.int .i64 0, .int .i64 0, .int .i64 0], .bool false]) (by simp [results, Tryz.results29, go_sem, hcl, q0, q1, q2]) rfl ⟨rfl, ?_⟩
 (repeat (first | exact B0 _ | (with_reducible refine Below.setCell ?_ (by first | (simp; done) | (simp; omega)) _) | (with_reducible refine Bgo ?_ hb) | (with_reducible refine below_draws ?_ _) | (with_reducible refine Below.alloc ?_ (by first | (simp; done) | (simp; omega)) _)))

def infoG (v : Nat) : Int × Int × Int × Bool :=
 if infoB (v % 16 : Nat) (v / 16 % 4096 : Nat) (v / 65536 : Nat) then ((v % 16 : Nat), (v / 16 % 4096 : Nat), (v / 65536 : Nat), true) else (0, 0, 0, false)
theorem infoG_yes {v : Nat} (h : infoB (v % 16 : Nat) (v / 16 % 4096 : Nat) (v / 65536 : Nat) = true) : infoG v = (((v % 16 : Nat) : Int), ((v / 16 % 4096 : Nat) : Int), ((v / 65536 : Nat) : Int), true) := by unfold infoG; rw [if_pos h]
theorem infoG_no {v : Nat} (h : infoB (v % 16 : Nat) (v / 16 % 4096 : Nat) (v / 65536 : Nat) = false) : infoG v = (0, 0, 0, false) := by unfold infoG; rw [h]; rfl
theorem infoG_split (v : Nat) : (infoB (v % 16 : Nat) (v / 16 % 4096 : Nat) (v / 65536 % 16 : Nat) = true /\ infoV (v % 16 : Nat) (v / 16 % 4096 : Nat) (v / 65536 % 16 : Nat) = v) ↔ infoB (v % 16 : Nat) (v / 16 % 4096 : Nat) (v / 65536 : Nat) = true := by
 constructor
 ·rintro ⟨h1, h2⟩
  rw [infoV_yes h1] at h2
  simp only [Int.toNat_natCast] at h2
  have e : v / 65536 % 16 = v / 65536 := by omega
  rw [e] at h1
  exact h1
 ·intro h
  have h' := infoB_iff h
  unfold infoP at h'
  have e : v / 65536 % 16 = v / 65536 := by omega
  rw [e]
  refine ⟨h, ?_⟩
  rw [infoV_yes h]
  simp only [Int.toNat_natCast]
  omega
theorem infoG_back {v : Nat} {k l c : Int} (h : infoG v = (k, l, c, true)) : infoB k l c = true /\ infoV k l c = v := by
 cases hr : infoB (v % 16 : Nat) (v / 16 % 4096 : Nat) (v / 65536 : Nat)
 ·rw [infoG_no hr] at h; simp at h
 ·rw [infoG_yes hr] at h
  simp only [Prod.mk.injEq, and_true] at h
  obtain ⟨rfl, rfl, rfl⟩ := h
  have h2 := (infoG_split v).2 hr
  have h3 := infoB_iff hr
  unfold infoP at h3
  have e : v / 65536 % 16 = v / 65536 := by omega
  rw [e] at h2
  exact h2
theorem infoG_none {v : Nat} {k l c : Int} (h : infoG v = (k, l, c, false)) : k = 0 /\ l = 0 /\ c = 0 := by
 cases hr : infoB (v % 16 : Nat) (v / 16 % 4096 : Nat) (v / 65536 : Nat)
 ·rw [infoG_no hr] at h
  simp only [Prod.mk.injEq, and_true] at h
  omega
 ·rw [infoG_yes hr] at h; simp at h
theorem infoG_put {k l c : Int} (h : infoB k l c = true) : infoG (infoV k l c) = (k, l, c, true) := by
 have hi := infoB_iff h
 unfold infoP at hi
 rw [infoV_yes h]
 have e1 : (k.toNat + 16 * l.toNat + 65536 * c.toNat) % 16 = k.toNat := by omega
 have e2 : (k.toNat + 16 * l.toNat + 65536 * c.toNat) / 16 % 4096 = l.toNat := by omega
 have e3 : (k.toNat + 16 * l.toNat + 65536 * c.toNat) / 65536 = c.toNat := by omega
 unfold infoG
 rw [e1, e2, e3, show ((k.toNat : Nat) : Int) = k by omega, show ((l.toNat : Nat) : Int) = l by omega, show ((c.toNat : Nat) : Int) = c by omega, if_pos h]
theorem infoV_lt (k l c : Int) : infoV k l c < 2 ^ 32 := by
 cases hr : infoB k l c
 ·rw [infoV_no hr]; omega
 ·have hi := infoB_iff hr
  unfold infoP at hi
  rw [infoV_yes hr]
  omega
theorem inGet_c (v : Nat) (k l c : Int) (b : Bool) (hv : v < 2 ^ 32) (h : infoG v = (k, l, c, b)) (w : World) :
  Calls Tryz.prog 29 #[.int .u32 (v : Int)] w fun e w' => e = .returned (.tuple #[.agg #[.int .i64 k, .int .i64 l, .int .i64 c], .bool b]) /\ Below w.heap.size w w' := by
 have hs := infoG_split v
 cases hr : infoB (v % 16 : Nat) (v / 16 % 4096 : Nat) (v / 65536 : Nat)
 ·rw [infoG_no hr] at h
  simp only [Prod.mk.injEq] at h
  obtain ⟨rfl, rfl, rfl, rfl⟩ := h
  rw [hr] at hs
  cases h5 : infoB (v % 16 : Nat) (v / 16 % 4096 : Nat) (v / 65536 % 16 : Nat)
  ·exact inGet_no1 v _ _ _ _ hv rfl rfl rfl h5 rfl w
  ·refine inGet_no2 v _ _ _ _ hv rfl rfl rfl h5 rfl (fun h6 => ?_) w
   have := hs.1 ⟨h5, h6⟩
   cases this
 ·rw [infoG_yes hr] at h
  simp only [Prod.mk.injEq] at h
  obtain ⟨rfl, rfl, rfl, rfl⟩ := h
  obtain ⟨h5, h6⟩ := hs.2 hr
  have hi := infoB_iff hr
  unfold infoP at hi
  have e : v / 65536 % 16 = v / 65536 := by omega
  have := inGet_yes v _ _ _ hv rfl rfl rfl h5 h6 w
  rw [e] at this
  exact this

theorem r9Get_yes (v k l c : Nat) (hv : v < 2 ^ 32) (h1 : v % 16 = k) (h2 : v / 16 % 4096 = l) (h3 : v / 65536 = c) (hr : infoB k l c = true) (w : World) :
  Calls Tryz.prog 92 #[.int .u32 (v : Int)] w fun e w' => e = .returned (.tuple #[.agg #[.int .i64 (k : Int), .int .i64 (l : Int), .int .i64 (c : Int)], .bool true]) /\ Below w.heap.size w w' := by
 have HR := hidp hr
 clear hr
 have e1 : ((v : Int).tmod 16) = (k : Int) := by rw [Int.tmod_eq_emod_of_nonneg (by omega)]; omega
 have e2 : (((v : Int) / 16).tmod 4096) = (l : Int) := by rw [Int.tmod_eq_emod_of_nonneg (by omega)]; omega
 have e3 : ((v : Int) / 65536) = (c : Int) := by omega
 go_enter Tryz.func92, Tryz.ntmps92
 go_wp2_with fail
 refine (r9Right_c k l c _).mono ?_
 rintro e w6 ⟨rfl, hb⟩
 rw [HR.out]
 obtain ⟨hcl, hfr⟩ := bcell hb
 have hz := hb.size
 simp only [World.size_alloc, World.heap_drewN] at hz
 have z := ((Held.new w 68 #[.int .i64 0, .int .i64 0, .int .i64 0]).alloc (.cells #[.int .i64 (k : Int), .int .i64 (l : Int), .int .i64 (c : Int)] 68)).keep hb
 obtain ⟨q0, q1, q2⟩ := (((z.put 0 (.int .i64 (k : Int))).put 1 (.int .i64 (l : Int))).put 2 (.int .i64 (c : Int))).three
 go_wp2
 refine bodyPost_ret (v := .tuple #[.agg #[.int .i64 (k : Int), .int .i64 (l : Int), .int .i64 (c : Int)], .bool true]) (by simp [results, Tryz.results92, go_sem, hcl, q0, q1, q2]) rfl ⟨rfl, ?_⟩
 (repeat (first | exact B0 _ | (with_reducible refine Below.setCell ?_ (by first | (simp; done) | (simp; omega)) _) | (with_reducible refine Bgo ?_ hb) | (with_reducible refine below_draws ?_ _) | (with_reducible refine Below.alloc ?_ (by first | (simp; done) | (simp; omega)) _)))

theorem r9Get_no (v k l c : Nat) (hv : v < 2 ^ 32) (h1 : v % 16 = k) (h2 : v / 16 % 4096 = l) (h3 : v / 65536 = c) (hr : infoB k l c = false) (w : World) :
  Calls Tryz.prog 92 #[.int .u32 (v : Int)] w fun e w' => e = .returned (.tuple #[.agg #[.int .i64 0, .int .i64 0, .int .i64 0], .bool false]) /\ Below w.heap.size w w' := by
 have HR := hidp hr
 clear hr
 have e1 : ((v : Int).tmod 16) = (k : Int) := by rw [Int.tmod_eq_emod_of_nonneg (by omega)]; omega
 have e2 : (((v : Int) / 16).tmod 4096) = (l : Int) := by rw [Int.tmod_eq_emod_of_nonneg (by omega)]; omega
 have e3 : ((v : Int) / 65536) = (c : Int) := by omega
 go_enter Tryz.func92, Tryz.ntmps92
 go_wp2_with fail
 refine (r9Right_c k l c _).mono ?_
 rintro e w6 ⟨rfl, hb⟩
 rw [HR.out]
 obtain ⟨hcl, hfr⟩ := bcell hb
 have hz := hb.size
 simp only [World.size_alloc, World.heap_drewN] at hz
 have z := ((Held.new w 68 #[.int .i64 0, .int .i64 0, .int .i64 0]).alloc (.cells #[.int .i64 (k : Int), .int .i64 (l : Int), .int .i64 (c : Int)] 68)).keep hb
 obtain ⟨q0, q1, q2⟩ := (((z.put 0 (.int .i64 0)).put 1 (.int .i64 0)).put 2 (.int .i64 0)).three
 go_wp2
 refine bodyPost_ret (v := .tuple #[.agg #[.int .i64 0, .int .i64 0, .int .i64 0], .bool false]) (by simp [results, Tryz.results92, go_sem, hcl, q0, q1, q2]) rfl ⟨rfl, ?_⟩
 (repeat (first | exact B0 _ | (with_reducible refine Below.setCell ?_ (by first | (simp; done) | (simp; omega)) _) | (with_reducible refine Bgo ?_ hb) | (with_reducible refine below_draws ?_ _) | (with_reducible refine Below.alloc ?_ (by first | (simp; done) | (simp; omega)) _)))

theorem r9Get_c (v : Nat) (k l c : Int) (b : Bool) (hv : v < 2 ^ 32) (h : infoG v = (k, l, c, b)) (w : World) :
  Calls Tryz.prog 92 #[.int .u32 (v : Int)] w fun e w' => e = .returned (.tuple #[.agg #[.int .i64 k, .int .i64 l, .int .i64 c], .bool b]) /\ Below w.heap.size w w' := by
 cases hr : infoB (v % 16 : Nat) (v / 16 % 4096 : Nat) (v / 65536 : Nat)
 ·rw [infoG_no hr] at h
  simp only [Prod.mk.injEq] at h
  obtain ⟨rfl, rfl, rfl, rfl⟩ := h
  exact r9Get_no v _ _ _ hv rfl rfl rfl hr w
 ·rw [infoG_yes hr] at h
  simp only [Prod.mk.injEq] at h
  obtain ⟨rfl, rfl, rfl, rfl⟩ := h
  exact r9Get_yes v _ _ _ hv rfl rfl rfl hr w
end
end Go.Proofs.YtnmhdlpnimdffaaGreatDoor

namespace Go.Proofs.YtnmhdlpnimdffaaGreatDoor
set_option linter.unusedVariables false
section
def slotN (k : Nat) : Nat := ([32, 21, 16, 10, 8, 5, 4, 3, 2] : List Nat).getD k 0
def slotI (k : Int) : Nat := if 0 <= k then slotN k.toNat else 0
theorem slotI_nat (k : Nat) : slotI (k : Int) = slotN k := by unfold slotI; simp
theorem slotN_out {k : Nat} (h : 9 <= k) : slotN k = 0 := by unfold slotN; simp [List.getD, List.getElem?_eq_none (show ([32, 21, 16, 10, 8, 5, 4, 3, 2] : List Nat).length <= k by simpa using h)]
theorem slotI_out {k : Int} (h : k < 0 \/ 9 <= k) : slotI k = 0 := by
 unfold slotI
 split
 ·exact slotN_out (by omega)
 ·rfl
theorem slotN_in {k : Nat} (h : k < 9) : 2 <= slotN k /\ slotN k <= 32 := by
 have : ∀ j, j < 9 -> 2 <= slotN j /\ slotN j <= 32 := by decide
 exact this k h
theorem slotI_le (k : Int) : slotI k <= 32 := by
 by_cases h : 0 <= k /\ k < 9
 ·have := slotN_in (k := k.toNat) (by omega)
  unfold slotI; rw [if_pos h.1]; omega
 ·rw [slotI_out (by omega)]; omega
theorem slotI_zero {k : Int} : slotI k = 0 ↔ k < 0 \/ 9 <= k := by
 constructor
 ·intro h
  by_cases hk : 0 <= k /\ k < 9
  ·have := slotN_in (k := k.toNat) (by omega)
   unfold slotI at h; rw [if_pos hk.1] at h; omega
  ·omega
 ·exact slotI_out

def pageS (s : Int) : Nat := pageN 1 4 s
theorem pageS_no {s : Int} (h : s < 10 \/ 20 < s) : pageS s = 0 := page_no (rightB_not (by omega))
theorem pageS_yes {s : Int} (h : 10 <= s /\ s <= 20) : pageS s = 2 ^ s.toNat := page_yes (rightB_mk (by omega))
theorem pageS_le (s : Int) : pageS s <= 1048576 := by
 by_cases h : 10 <= s /\ s <= 20
 ·rw [pageS_yes h]
  exact (pow_bounds _ (by omega)).2
 ·rw [pageS_no (by omega)]; omega
def sizeN (s k : Int) : Nat := pageS s / slotI k - pageS s / slotI k % 16
theorem sizeN_le (s k : Int) : sizeN s k <= 1048576 := by
 have h1 := pageS_le s
 have h2 := Nat.div_le_self (pageS s) (slotI k)
 unfold sizeN
 generalize pageS s / slotI k = q at *
 omega
theorem sizes_all : ∀ s : Nat, s < 11 -> ∀ k : Nat, k < 9 ->
  let z := 2 ^ (s + 10) / slotN k - 2 ^ (s + 10) / slotN k % 16
  z % 16 = 0 /\ 16 <= z /\ z * slotN k <= 2 ^ (s + 10) /\ z <= 2 ^ (s + 10) / 2 /\ (k = 8 -> z = 2 ^ (s + 10) / 2) /\
   (0 < k -> 2 ^ (s + 10) / slotN (k - 1) - 2 ^ (s + 10) / slotN (k - 1) % 16 < z) := by decide +kernel

theorem size_at {s : Int} (h : 10 <= s /\ s <= 20) (k : Nat) : sizeN s (k : Int) = 2 ^ (s.toNat - 10 + 10) / slotN k - 2 ^ (s.toNat - 10 + 10) / slotN k % 16 := by
 unfold sizeN
 rw [pageS_yes h, slotI_nat, show s.toNat - 10 + 10 = s.toNat by omega]
theorem size_facts {s : Int} (h : 10 <= s /\ s <= 20) {k : Nat} (hk : k < 9) :
  sizeN s (k : Int) % 16 = 0 /\ 16 <= sizeN s (k : Int) /\ sizeN s (k : Int) * slotN k <= pageS s /\ sizeN s (k : Int) <= pageS s / 2 /\ (k = 8 -> sizeN s (k : Int) = pageS s / 2) /\
   (0 < k -> sizeN s ((k - 1 : Nat) : Int) < sizeN s (k : Int)) := by
 have := sizes_all (s.toNat - 10) (by omega) k hk
 simp only [] at this
 rw [size_at h k, size_at h (k - 1), pageS_yes h, show s.toNat = s.toNat - 10 + 10 by omega]
 simpa using this
theorem size_pos {s : Int} (h : 10 <= s /\ s <= 20) {k : Nat} (hk : k < 9) : 0 < sizeN s (k : Int) := by
 have := (size_facts h hk).2.1
 omega
end
section
def addrB (t p s i o : Int) : Bool := rightB t p s && decide ((0 <= i /\ i < p) /\ 0 <= o /\ o < (pageN t p s : Int))
def addrI (t p s i o : Int) : Int := if addrB t p s i o then (i + 1) * (pageN t p s : Int) + o else 0
def spotB (t p s a : Int) : Bool := decide ((pageN t p s : Int) <= a /\ a - pageN t p s < (bytesN t p s : Int))
def spotP (t p s a : Int) : Int := if spotB t p s a then a / (pageN t p s : Int) - 1 else 0
def spotO (t p s a : Int) : Int := if spotB t p s a then a % (pageN t p s : Int) else 0
def addrW (i o : Int) (g : Nat) : Int := IntKind.i64.wrap (IntKind.i64.wrap (IntKind.i64.wrap (i + 1) * (g : Int)) + o)

theorem i64_same {x : Int} (h : -9223372036854775808 <= x) (h' : x <= 9223372036854775807) : IntKind.i64.wrap x = x := by
 simp only [IntKind.wrap, IntKind.bits, IntKind.signed]; simp; omega

theorem right_nums {t p s : Int} (h : rightB t p s = true) : ∃ g q : Nat, pageN t p s = g /\ p = q /\ bytesN t p s = q * g /\ 4 <= q /\ q <= 1024 /\ 1024 <= g /\ g <= 1048576 /\ g = 2 ^ s.toNat /\ 10 <= s /\ s <= 20 /\ q * g <= 1073741824 := by
 obtain ⟨_, ⟨hp, hp'⟩, hs, hs'⟩ := (rightB_iff t p s).1 h
 refine ⟨2 ^ s.toNat, p.toNat, page_yes h, by omega, bytes_yes h, by omega, by omega, ?_, ?_, rfl, hs, hs', ?_⟩
 ·have := Nat.pow_le_pow_right (show 0 < 2 by omega) (show 10 <= s.toNat by omega)
  omega
 ·exact (pow_bounds _ (by omega)).2
 ·have h1 := (pow_bounds s.toNat (by omega)).2
  have h2 : p.toNat * 2 ^ s.toNat <= 1024 * 1048576 := Nat.mul_le_mul (by omega) h1
  omega
theorem wrong_nums {t p s : Int} (h : rightB t p s = false) : pageN t p s = 0 /\ bytesN t p s = 0 := ⟨page_no h, bytes_no h⟩

theorem spot_right {t p s a : Int} (h : spotB t p s a = true) : rightB t p s = true := by
 cases hr : rightB t p s
 ·obtain ⟨h1, h2⟩ := wrong_nums hr
  unfold spotB at h
  rw [h1, h2] at h
  simp at h
  omega
 ·rfl
theorem split_at {g i o : Int} (hg : 0 < g) (ho : 0 <= o) (ho' : o < g) : ((i + 1) * g + o) / g = i + 1 /\ ((i + 1) * g + o) % g = o := by
 constructor
 ·rw [Int.add_comm, Int.add_mul_ediv_right _ _ (by omega), Int.ediv_eq_zero_of_lt ho ho']; omega
 ·rw [Int.add_comm, Int.add_mul_emod_self_right, Int.emod_eq_of_lt ho ho']
theorem mul_bounds {i q g : Int} (h0 : 0 <= i) (hi : i < q) (hg : 0 < g) : g <= (i + 1) * g /\ (i + 1) * g <= q * g := by
 have h1 : (0 : Int) <= i * g := Int.mul_nonneg h0 (by omega)
 have h2 : (i + 1) * g <= q * g := Int.mul_le_mul_of_nonneg_right (by omega) (by omega)
 have h3 : (i + 1) * g = i * g + g := by rw [Int.add_mul]; omega
 omega

theorem addr_parts {t p s i o : Int} (h : addrB t p s i o = true) : rightB t p s = true /\ (0 <= i /\ i < p) /\ 0 <= o /\ o < (pageN t p s : Int) := by
 unfold addrB at h
 simpa using h
theorem addr_yes {t p s i o : Int} (h : addrB t p s i o = true) :
  addrW i o (pageN t p s) = addrI t p s i o /\ spotB t p s (addrI t p s i o) = true /\ spotP t p s (addrI t p s i o) = i /\ spotO t p s (addrI t p s i o) = o /\ 1024 <= addrI t p s i o /\ addrI t p s i o <= 1075838976 := by
 obtain ⟨hr, ⟨hi, hi'⟩, ho, ho'⟩ := addr_parts h
 obtain ⟨g, q, hg, rfl, hb, q1, q2, g1, g2, _, _, _, qg⟩ := right_nums hr
 rw [hg] at ho'
 have hm := mul_bounds hi hi' (show (0 : Int) < g by omega)
 have hsp := split_at (i := i) (show (0 : Int) < g by omega) ho ho'
 have hqg : ((q * g : Nat) : Int) = (q : Int) * (g : Int) := by push_cast; rfl
 have hI : addrI t q s i o = (i + 1) * (g : Int) + o := by unfold addrI; rw [if_pos h, hg]
 have hB : spotB t q s ((i + 1) * (g : Int) + o) = true := by
  unfold spotB
  rw [hg, hb, decide_eq_true_iff, hqg]
  omega
 rw [hI]
 refine ⟨?_, hB, ?_, ?_, by omega, by omega⟩
 ·unfold addrW
  rw [hg, i64_same (x := i + 1) (by omega) (by omega), i64_same (x := (i + 1) * (g : Int)) (by omega) (by omega), i64_same (by omega) (by omega)]
 ·unfold spotP
  rw [if_pos hB, hg, hsp.1]
  omega
 ·unfold spotO
  rw [if_pos hB, hg, hsp.2]
theorem spot_parts {t p s a : Int} (h : spotB t p s a = true) :
  addrB t p s (spotP t p s a) (spotO t p s a) = true /\ addrI t p s (spotP t p s a) (spotO t p s a) = a /\ 1024 <= a /\ a <= 1074790400 /\ (0 <= spotP t p s a /\ spotP t p s a < 1024) /\ 0 <= spotO t p s a /\ spotO t p s a < 1048576 := by
 have hr := spot_right h
 have h' := h
 unfold spotB at h'
 rw [decide_eq_true_iff] at h'
 obtain ⟨g, q, hg, rfl, hb, q1, q2, g1, g2, _, _, _, qg⟩ := right_nums hr
 rw [hg, hb] at h'
 have hP : spotP t q s a = a / (g : Int) - 1 := by unfold spotP; rw [if_pos h, hg]
 have hO : spotO t q s a = a % (g : Int) := by unfold spotO; rw [if_pos h, hg]
 rw [hP, hO]
 have hqg : ((q * g : Nat) : Int) = (q : Int) * (g : Int) := by push_cast; rfl
 have m0 := Int.emod_nonneg a (show (g : Int) ≠ 0 by omega)
 have m1 := Int.emod_lt_of_pos a (show (0 : Int) < g by omega)
 have d1 : 1 <= a / (g : Int) := (Int.le_ediv_iff_mul_le (by omega)).2 (by omega)
 have d2 : a / (g : Int) < (q : Int) + 1 := by
  refine (Int.ediv_lt_iff_lt_mul (by omega)).2 ?_
  rw [Int.add_mul]
  omega
 have hB : addrB t q s (a / (g : Int) - 1) (a % (g : Int)) = true := by
  unfold addrB
  rw [hr, hg, Bool.true_and, decide_eq_true_iff]
  exact ⟨⟨by omega, by omega⟩, m0, m1⟩
 refine ⟨hB, ?_, by omega, by omega, by omega, by omega⟩
 unfold addrI
 rw [if_pos hB, hg, Int.sub_add_cancel, Int.mul_comm]
 exact Int.mul_ediv_add_emod a g
theorem addrI_no {t p s i o : Int} (h : addrB t p s i o = false) : addrI t p s i o = 0 := by unfold addrI; rw [h]; rfl
def slotB (t p s k o : Int) : Bool := rightB t p s && decide (0 < sizeN s k /\ 0 <= o /\ o % (sizeN s k : Int) = 0 /\ o / (sizeN s k : Int) < (slotI k : Int))
def slotR (t p s k o : Int) : Int := if slotB t p s k o then o / (sizeN s k : Int) else 0
theorem slot_at {t p s k o : Int} (hr : rightB t p s = true) (i : Nat) (hi : i < slotI k) (ho : o = (i : Int) * (sizeN s k : Int)) : slotB t p s k o = true /\ slotR t p s k o = i := by
 have h' := (rightB_iff t p s).1 hr
 have hk : 0 <= k /\ k < 9 := by
  have := mt (slotI_zero (k := k)).2 (by omega)
  omega
 obtain ⟨k, rfl⟩ : ∃ n : Nat, k = n := ⟨k.toNat, by omega⟩
 have hz := size_pos (s := s) h'.2.2 (k := k) (by omega)
 have e1 : o / (sizeN s (k : Int) : Int) = (i : Int) := by rw [ho]; exact Int.mul_ediv_cancel _ (by omega)
 have e2 : o % (sizeN s (k : Int) : Int) = 0 := by rw [ho]; exact Int.mul_emod_left _ _
 have e3 : 0 <= o := by rw [ho]; exact Int.mul_nonneg (by omega) (by omega)
 have hB : slotB t p s (k : Int) o = true := by
  unfold slotB
  rw [hr, Bool.true_and, decide_eq_true_iff, e1]
  exact ⟨hz, e3, e2, by omega⟩
 refine ⟨hB, ?_⟩
 unfold slotR
 rw [if_pos hB, e1]
theorem slot_parts {t p s k o : Int} (h : slotB t p s k o = true) : rightB t p s = true /\ ∃ i : Nat, i < slotI k /\ o = (i : Int) * (sizeN s k : Int) /\ slotR t p s k o = i := by
 have hh := h
 unfold slotB at hh
 simp only [Bool.and_eq_true, decide_eq_true_eq] at hh
 obtain ⟨hr, h1, h2, h3, h4⟩ := hh
 refine ⟨hr, (o / (sizeN s k : Int)).toNat, ?_, ?_, ?_⟩
 ·have := Int.ediv_nonneg h2 (show (0 : Int) <= sizeN s k by omega)
  omega
 ·have h5 := Int.ediv_nonneg h2 (show (0 : Int) <= sizeN s k by omega)
  have h6 := Int.mul_ediv_add_emod o (sizeN s k)
  rw [Int.toNat_of_nonneg h5, Int.mul_comm]
  omega
 ·have h5 := Int.ediv_nonneg h2 (show (0 : Int) <= sizeN s k by omega)
  unfold slotR
  rw [if_pos h, Int.toNat_of_nonneg h5]
theorem slot_in {s k : Int} (hs : 10 <= s /\ s <= 20) {i : Nat} (hi : i < slotI k) : (i + 1) * sizeN s k <= pageS s /\ 16 <= sizeN s k /\ slotI k * sizeN s k <= pageS s := by
 have hk : 0 <= k /\ k < 9 := by
  have := mt (slotI_zero (k := k)).2 (by omega)
  omega
 obtain ⟨k, rfl⟩ : ∃ n : Nat, k = n := ⟨k.toNat, by omega⟩
 obtain ⟨_, h16, hle, _⟩ := size_facts hs (k := k) (by omega)
 rw [slotI_nat] at hi ⊢
 have h1 : (i + 1) * sizeN s (k : Int) <= slotN k * sizeN s (k : Int) := Nat.mul_le_mul_right _ hi
 rw [Nat.mul_comm] at hle
 exact ⟨by omega, h16, hle⟩

def atB (t p s k i j : Int) : Bool := decide (0 <= j /\ j < (slotI k : Int)) && addrB t p s i (j * (sizeN s k : Int))
def atI (t p s k i j : Int) : Int := if atB t p s k i j then addrI t p s i (j * (sizeN s k : Int)) else 0
theorem at_out {t p s k i j : Int} (h : ¬ (0 <= j /\ j < (slotI k : Int))) : atB t p s k i j = false /\ atI t p s k i j = 0 := by
 have : atB t p s k i j = false := by unfold atB; simp only [decide_eq_false h, Bool.false_and]
 exact ⟨this, by unfold atI; rw [this]; rfl⟩
theorem at_in {t p s k i j : Int} (h : 0 <= j /\ j < (slotI k : Int)) : atB t p s k i j = addrB t p s i (j * (sizeN s k : Int)) /\ atI t p s k i j = addrI t p s i (j * (sizeN s k : Int)) := by
 have : atB t p s k i j = addrB t p s i (j * (sizeN s k : Int)) := by unfold atB; simp only [decide_eq_true h, Bool.true_and]
 refine ⟨this, ?_⟩
 unfold atI
 rw [this]
 cases hb : addrB t p s i (j * (sizeN s k : Int))
 ·rw [addrI_no hb]; rfl
 ·rfl
end
end Go.Proofs.YtnmhdlpnimdffaaGreatDoor

namespace Go.Proofs.YtnmhdlpnimdffaaGreatDoor
open Go.ChangeShapes Go.WideShapes Go.ChangeAt Go.RowKit
set_option linter.unusedVariables false
section
structure AuH where
 t : Nat
 p : Nat
 s : Nat
 V : Nat -> Nat

namespace AuH
variable (H : AuH)
def cel (q b : Nat) : Nat := H.V (30 + 4 * H.t + 6 * q + b)
def K (q : Nat) : Int := (infoG (H.cel q 0)).1
def L (q : Nat) : Int := (infoG (H.cel q 0)).2.1
def Cl (q : Nat) : Int := (infoG (H.cel q 0)).2.2.1
def ok (q : Nat) : Bool := (infoG (H.cel q 0)).2.2.2
def ln (q : Nat) : Nat := (H.L q).toNat
theorem info_eq (q : Nat) : infoG (H.cel q 0) = (H.K q, H.L q, H.Cl q, H.ok q) := rfl
theorem infoP_at (q : Nat) : infoP (H.K q) (H.L q) (H.Cl q) := by
 cases hb : H.ok q
 ·have h := H.info_eq q
  rw [hb] at h
  exact .inl (infoG_none h)
 ·have h := H.info_eq q
  rw [hb] at h
  exact infoB_iff (infoG_back h).1
theorem ok_of (q : Nat) (h : H.K q ≠ 0) : H.ok q = true := by
 cases hb : H.ok q
 ·have h2 := H.info_eq q
  rw [hb] at h2
  exact absurd (infoG_none h2).1 h
 ·rfl
theorem K_cases (q : Nat) : (H.K q = 0 /\ H.ln q = 0 /\ H.Cl q = 0) \/ ((H.K q = 1 \/ H.K q = 2) /\ 1 <= H.ln q /\ H.ln q <= 1024 /\ H.Cl q = 0) \/ (H.K q = 3 /\ H.ln q = 1 /\ 0 <= H.Cl q /\ H.Cl q <= 8) := by
 have h := H.infoP_at q
 unfold infoP at h
 unfold ln
 omega
theorem L_ln (q : Nat) : H.L q = (H.ln q : Int) := by
 have h := H.infoP_at q
 unfold infoP at h
 unfold ln
 omega
theorem K_zero (q : Nat) (h : H.cel q 0 = 0) : H.K q = 0 /\ H.ok q = true := by
 have e : infoG 0 = (0, 0, 0, true) := by decide
 unfold K ok
 rw [h, e]
 exact ⟨rfl, rfl⟩
theorem ln_pos (q : Nat) (h : H.K q ≠ 0) : 1 <= H.ln q /\ H.ln q <= 1024 := by
 have := H.K_cases q
 omega

def can (q : Nat) : Bool := decide (q < H.p /\ H.K q ≠ 0 /\ q + H.ln q <= H.p)
def nx (q : Nat) : Nat := q + H.ln q
theorem can_iff (q : Nat) : H.can q = true ↔ q < H.p /\ H.K q ≠ 0 /\ q + H.ln q <= H.p := by unfold can; exact decide_eq_true_iff
theorem can_no (q : Nat) : H.can q = false ↔ ¬ (q < H.p /\ H.K q ≠ 0 /\ q + H.ln q <= H.p) := by unfold can; exact decide_eq_false_iff_not
theorem nx_gt {q : Nat} (h : H.can q = true) : q < H.nx q /\ H.nx q <= H.p := by
 have h := (H.can_iff q).1 h
 have := H.ln_pos q h.2.1
 unfold nx
 omega

inductive At : Nat -> Prop where
 | zero : At 0
 | step {q : Nat} : At q -> H.can q = true -> At (H.nx q)
variable {H}
theorem At.chain : ∀ (n a b : Nat), a + b <= n -> H.At a -> H.At b -> a < b -> H.can a = true /\ H.nx a <= b := by
 intro n
 induction n with
 | zero => intro a b h _ _ hl; omega
 | succ n ih =>
  intro a b h ha hb hl
  cases hb with
  | zero => omega
  | step hb0 hc =>
   rename_i b0
   have h0 := H.nx_gt hc
   rcases Nat.lt_trichotomy a b0 with h1 | h1 | h1
   ·have := ih a b0 (by omega) ha hb0 h1
    exact ⟨this.1, by omega⟩
   ·subst h1
    exact ⟨hc, Nat.le_refl _⟩
   ·have := ih b0 a (by omega) hb0 ha h1
    omega
theorem At.next {a b : Nat} (ha : H.At a) (hb : H.At b) (h : a < b) : H.can a = true /\ H.nx a <= b := At.chain _ a b (Nat.le_refl _) ha hb h
theorem At.cover {x : Nat} (h : H.At x) : ∀ q, q < x -> ∃ a, H.At a /\ H.can a = true /\ a <= q /\ q < H.nx a := by
 induction h with
 | zero => intro q hq; omega
 | step h hc ih =>
  rename_i a
  intro q hq
  rcases Nat.lt_or_ge q a with h1 | h1
  ·exact ih q h1
  ·exact ⟨a, h, hc, h1, hq⟩
variable (H)
def Bare (x : Nat) : Prop := ∀ a, H.At a -> H.can a = true -> a < x -> ∀ q, a < q -> q < H.nx a -> H.cel q 0 = 0
def Tiled : Prop := H.At H.p /\ H.Bare H.p
variable {H}
theorem Tiled.start (h : H.Tiled) {q : Nat} (hq : q < H.p) (hk : H.K q ≠ 0) : H.At q /\ H.can q = true := by
 obtain ⟨a, h1, h2, h3, h4⟩ := h.1.cover q hq
 rcases Nat.eq_or_lt_of_le h3 with h5 | h5
 ·subst h5; exact ⟨h1, h2⟩
 ·exact absurd (H.K_zero q (h.2 a h1 h2 (by omega) q h5 h4)).1 hk
theorem Tiled.at_can (h : H.Tiled) {q : Nat} (ha : H.At q) (hq : q < H.p) : H.can q = true := (At.next ha h.1 hq).1
theorem Tiled.at_K (h : H.Tiled) {q : Nat} (ha : H.At q) (hq : q < H.p) : H.K q ≠ 0 := ((H.can_iff q).1 (h.at_can ha hq)).2.1
theorem Tiled.inside (h : H.Tiled) {a q : Nat} (ha : H.At a) (h0 : a < H.p) (h1 : a < q) (h2 : q < H.nx a) : H.K q = 0 := (H.K_zero q (h.2 a ha (h.at_can ha h0) h0 q h1 h2)).1
theorem Tiled.cover (h : H.Tiled) {q : Nat} (hq : q < H.p) : ∃ a, H.At a /\ a < H.p /\ H.K a ≠ 0 /\ a <= q /\ q < H.nx a := by
 obtain ⟨a, h1, h2, h3, h4⟩ := h.1.cover q hq
 exact ⟨a, h1, by omega, h.at_K h1 (by omega), h3, h4⟩
def sumTo (f : Nat -> Nat) : Nat -> Nat
 | 0 => 0
 | n + 1 => sumTo f n + f n
theorem sumTo_skip (f : Nat -> Nat) (a : Nat) : ∀ n, (∀ q, a <= q -> q < a + n -> f q = 0) -> sumTo f (a + n) = sumTo f a
 | 0, _ => rfl
 | n + 1, h => by
  show sumTo f (a + n) + f (a + n) = _
  rw [sumTo_skip f a n (fun q h1 h2 => h q h1 (by omega)), h (a + n) (by omega) (by omega)]
  omega
theorem Tiled.sum {f : Nat -> Nat} (h : H.Tiled) {a : Nat} (ha : H.At a) (h0 : a < H.p) (hf : ∀ q, q < H.p -> H.K q = 0 -> f q = 0) : sumTo f (H.nx a) = sumTo f a + f a := by
 have h1 := H.ln_pos a (h.at_K ha h0)
 have h2 := (H.nx_gt (h.at_can ha h0)).2
 have e : H.nx a = (a + 1) + (H.ln a - 1) := by unfold nx; omega
 rw [e, sumTo_skip f (a + 1) _ (fun q h3 h4 => hf q (by omega) (h.inside ha h0 (by omega) (by omega)))]
 rfl
theorem sumTo_le (f : Nat -> Nat) (m : Nat) : ∀ n, (∀ q, q < n -> f q <= m) -> sumTo f n <= n * m
 | 0, _ => by simp [sumTo]
 | n + 1, h => by
  have h1 := sumTo_le f m n (fun q hq => h q (by omega))
  have h2 := h n (by omega)
  show sumTo f n + f n <= (n + 1) * m
  rw [Nat.succ_mul]
  omega
def catTo {α : Type} (f : Nat -> List α) : Nat -> List α
 | 0 => []
 | n + 1 => catTo f n ++ f n
theorem catTo_skip {α : Type} (f : Nat -> List α) (a : Nat) : ∀ n, (∀ q, a <= q -> q < a + n -> f q = []) -> catTo f (a + n) = catTo f a
 | 0, _ => rfl
 | n + 1, h => by
  show catTo f (a + n) ++ f (a + n) = _
  rw [catTo_skip f a n (fun q h1 h2 => h q h1 (by omega)), h (a + n) (by omega) (by omega), List.append_nil]
theorem Tiled.cat {α : Type} {f : Nat -> List α} (h : H.Tiled) {a : Nat} (ha : H.At a) (h0 : a < H.p) (hf : ∀ q, q < H.p -> H.K q = 0 -> f q = []) : catTo f (H.nx a) = catTo f a ++ f a := by
 have h1 := H.ln_pos a (h.at_K ha h0)
 have h2 := (H.nx_gt (h.at_can ha h0)).2
 have e : H.nx a = (a + 1) + (H.ln a - 1) := by unfold nx; omega
 rw [e, catTo_skip f (a + 1) _ (fun q h3 h4 => hf q (by omega) (h.inside ha h0 (by omega) (by omega)))]
 rfl
end AuH
end
end Go.Proofs.YtnmhdlpnimdffaaGreatDoor

namespace Go.Proofs.YtnmhdlpnimdffaaGreatDoor
open Go.ChangeShapes Go.WideShapes Go.ChangeAt Go.RowKit
set_option linter.unusedVariables false
set_option linter.unusedSimpArgs false
section
theorem Held.seven {w : World} {g : Nat} {t : TypeId} {c0 c1 c2 c3 c4 c5 c6 : Value} (h : Held w g t #[c0, c1, c2, c3, c4, c5, c6]) : w.cell? ⟨g, 0, none⟩ = some c0 /\ w.cell? ⟨g, 1, none⟩ = some c1 /\ w.cell? ⟨g, 2, none⟩ = some c2 /\ w.cell? ⟨g, 3, none⟩ = some c3 /\ w.cell? ⟨g, 4, none⟩ = some c4 /\ w.cell? ⟨g, 5, none⟩ = some c5 /\ w.cell? ⟨g, 6, none⟩ = some c6 :=
 ⟨h.cell 0, h.cell 1, h.cell 2, h.cell 3, h.cell 4, h.cell 5, h.cell 6⟩
theorem Held.thawed7 {w : World} {g : Nat} {t : TypeId} {cs : Array Value} (h : Held w g t cs) : w.frozen? ⟨g, 0, none⟩ = false /\ w.frozen? ⟨g, 1, none⟩ = false /\ w.frozen? ⟨g, 2, none⟩ = false /\ w.frozen? ⟨g, 3, none⟩ = false /\ w.frozen? ⟨g, 4, none⟩ = false /\ w.frozen? ⟨g, 5, none⟩ = false /\ w.frozen? ⟨g, 6, none⟩ = false :=
 ⟨h.thawed 0, h.thawed 1, h.thawed 2, h.thawed 3, h.thawed 4, h.thawed 5, h.thawed 6⟩

theorem plNth_c (f n e i : Int) (f0 : -1 <= f) (f1 : f <= 20000) (n0 : 0 <= n) (n1 : n <= 10000) (e0 : 0 <= e) (e1 : e <= 120) (w : World) :
  Calls Tryz.prog 79 #[.int .i64 f, .int .i64 n, .int .i64 e, .int .i64 i] w fun z w' => z = .returned (.int .i64 (nthI f n e i)) /\ w = w' := by
 by_cases c0 : f = -1
 ·subst c0
  have HN := hidp (nth_off (f := -1) (n := n) (e := e) (i := i) (.inl rfl))
  go_enter Tryz.func79, Tryz.ntmps79
  go_wp2
  go_ret
  exact ⟨by rw [HN.out]; rfl, rfl⟩
 ·have q0 : (f == -1) = false := by simpa using c0
  by_cases c1 : i < 0
  ·have HN := hidp (nth_off (f := f) (n := n) (e := e) (i := i) (.inr (.inl c1)))
   go_enter Tryz.func79, Tryz.ntmps79
   go_wp2
   go_ret
   exact ⟨by rw [HN.out]; rfl, rfl⟩
  ·by_cases c2 : n <= i
   ·have HN := hidp (nth_off (f := f) (n := n) (e := e) (i := i) (.inr (.inr c2)))
    go_enter Tryz.func79, Tryz.ntmps79
    go_wp2
    go_ret
    exact ⟨by rw [HN.out]; rfl, rfl⟩
   ·have HN := hidp (nth_on (f := f) (n := n) (e := e) (i := i) c0 (by omega) (by omega))
    have p0 : 0 <= i * e := Int.mul_nonneg (by omega) e0
    have p1 : i * e <= 10000 * 120 := Int.mul_le_mul (by omega) e1 e0 (by omega)
    obtain ⟨y, hy⟩ : ∃ y, i * e = y := ⟨_, rfl⟩
    have HY := hidp hy
    rw [hy] at p0 p1
    go_enter Tryz.func79, Tryz.ntmps79
    go_wp2
    go_ret
    exact ⟨by rw [HN.out, HY.out]; rfl, rfl⟩

theorem plLine_c (i : Nat) (h : i <= 10000) (w : World) :
  Calls Tryz.prog 139 #[.int .i64 (i : Int)] w fun z w' => z = .returned (.int .i64 (((i + 7) / 8 * 8 : Nat) : Int)) /\ w = w' := by
 go_enter Tryz.func139, Tryz.ntmps139
 go_wp2
 go_ret
 refine ⟨ret_int ?_, rfl⟩
 simp
 omega
theorem plLineI_c (i y : Int) (h0 : 0 <= i) (h : i <= 10000) (hy : (i + 7) / 8 * 8 = y) (w : World) :
  Calls Tryz.prog 139 #[.int .i64 i] w fun z w' => z = .returned (.int .i64 y) /\ w = w' := by
 obtain ⟨n, rfl⟩ : ∃ n : Nat, i = n := ⟨i.toNat, by omega⟩
 have e : y = (((n + 7) / 8 * 8 : Nat) : Int) := by omega
 rw [e]
 exact plLine_c n (by omega) w

set_option maxHeartbeats 1600000 in
theorem plLayout_no (t p s : Int) (hr : rightB t p s = false) (w : World) :
  Calls Tryz.prog 123 #[.agg #[.int .i64 t, .int .i64 p, .int .i64 s]] w fun z w' => z = .returned (.agg #[.int .i64 0, .int .i64 0, .int .i64 0, .int .i64 0, .int .i64 0, .int .i64 0, .int .i64 0]) /\ Below w.heap.size w w' := by
 have HK := hidp (check_no hr)
 have hl := Held.new2 w (.cells #[.int .i64 t, .int .i64 p, .int .i64 s] 23) 152 #[.int .i64 0, .int .i64 0, .int .i64 0, .int .i64 0, .int .i64 0, .int .i64 0, .int .i64 0]
 clear hr
 go_enter Tryz.func123, Tryz.ntmps123
 go_wp2_with fail
 refine (cfCheck_c t p s _).mono ?_
 rintro e w1 ⟨rfl, hb1⟩
 rw [HK.out]
 have hz := hb1.size
 have hl1 := hl.keep hb1
 obtain ⟨z0, z1, z2, z3, z4, z5, z6⟩ := hl1.seven
 obtain ⟨f0, f1, f2, f3, f4, f5, f6⟩ := hl1.thawed7
 go_wp2
 refine bodyPost_ret (v := .agg #[.int .i64 0, .int .i64 0, .int .i64 0, .int .i64 0, .int .i64 0, .int .i64 0, .int .i64 0]) (by simp [results, Tryz.results123, go_sem, z0, z1, z2, z3, z4, z5, z6]) rfl ⟨rfl, ?_⟩
 exact Bput (Bput (Bput (Bput (Bput (Bput (Bput (Bgo (Bnew (Bnew (B0 _) _) _) hb1) (Nat.le_succ _) _) (Nat.le_succ _) _) (Nat.le_succ _) _) (Nat.le_succ _) _) (Nat.le_succ _) _) (Nat.le_succ _) _) (Nat.le_succ _) _

set_option maxHeartbeats 1600000 in
theorem plLayout_yes (a b : Nat) (s : Int) (hr : rightB a b s = true) (w : World) :
  Calls Tryz.prog 123 #[.agg #[.int .i64 (a : Int), .int .i64 (b : Int), .int .i64 s]] w fun z w' => z = .returned (.agg #[.int .i64 (a : Int), .int .i64 (b : Int), .int .i64 s, .int .i64 (30 + 4 * a : Int), .int .i64 (30 + 4 * a + 6 * b : Int), .int .i64 ((16 + (30 + 4 * a + 6 * b) + 7) / 8 * 8 : Int), .int .i64 (a + 1 : Int)]) /\ Below w.heap.size w w' := by
 have HK := hidp (check_yes hr)
 have hn := (rightB_iff a b s).1 hr
 have a1 : a <= 16 := by omega
 have b1 : b <= 1024 := by omega
 obtain ⟨y, hy⟩ : ∃ y : Int, ((16 + (30 + 4 * (a : Int) + 6 * (b : Int)) + 7) / 8 * 8 : Int) = y := ⟨_, rfl⟩
 have HY := hidp hy
 rw [hy]
 have hd := (Held.new w 23 #[.int .i64 a, .int .i64 b, .int .i64 s]).alloc (.cells #[.int .i64 0, .int .i64 0, .int .i64 0, .int .i64 0, .int .i64 0, .int .i64 0, .int .i64 0] 152)
 have hl := Held.new2 w (.cells #[.int .i64 a, .int .i64 b, .int .i64 s] 23) 152 #[.int .i64 0, .int .i64 0, .int .i64 0, .int .i64 0, .int .i64 0, .int .i64 0, .int .i64 0]
 clear hr hn hy
 go_enter Tryz.func123, Tryz.ntmps123
 go_wp2_with fail
 refine (cfCheck_c a b s _).mono ?_
 rintro e w1 ⟨rfl, hb1⟩
 rw [HK.out]
 have hz := hb1.size
 have hd1 := hd.keep hb1
 have hl1 := hl.keep hb1
 obtain ⟨x0, x1, x2⟩ := hd1.three
 obtain ⟨z0, z1, z2, z3, z4, z5, z6⟩ := hl1.seven
 obtain ⟨f0, f1, f2, f3, f4, f5, f6⟩ := hl1.thawed7
 have hlt := hl1.lt
 clear hd hl
 go_wp2_with fail
 refine (plLineI_c _ y (by omega) (by omega) HY.out _).mono ?_
 rintro e w2 ⟨rfl, rfl⟩
 go_wp2
 have hfin := (((((((hl1.put 0 (.int .i64 (a : Int))).put 1 (.int .i64 (b : Int))).put 2 (.int .i64 s)).put 3 (.int .i64 (30 + 4 * a : Int))).put 4 (.int .i64 (30 + 4 * a + 6 * b : Int))).put 5 (.int .i64 y)).put 6 (.int .i64 (a + 1 : Int))).alloc
  (.cells #[.int .i64 (a : Int), .int .i64 (b : Int), .int .i64 s, .int .i64 (30 + 4 * a : Int), .int .i64 (30 + 4 * a + 6 * b : Int), .int .i64 y, .int .i64 (a + 1 : Int)] 152)
 obtain ⟨r0, r1, r2, r3, r4, r5, r6⟩ := hfin.seven
 refine bodyPost_ret (v := .agg #[.int .i64 (a : Int), .int .i64 (b : Int), .int .i64 s, .int .i64 (30 + 4 * a : Int), .int .i64 (30 + 4 * a + 6 * b : Int), .int .i64 y, .int .i64 (a + 1 : Int)]) (by simp [results, Tryz.results123, go_sem, r0, r1, r2, r3, r4, r5, r6]) rfl ⟨rfl, ?_⟩
 exact Bnew (Bput (Bput (Bput (Bput (Bput (Bput (Bput (Bgo (Bnew (Bnew (B0 _) _) _) hb1) (Nat.le_succ _) _) (Nat.le_succ _) _) (Nat.le_succ _) _) (Nat.le_succ _) _) (Nat.le_succ _) _) (Nat.le_succ _) _) (Nat.le_succ _) _) _

theorem plLayout_c (t p s T P S A C M K : Int) (h : Laid7 t p s T P S A C M K) (w : World) :
  Calls Tryz.prog 123 #[.agg #[.int .i64 t, .int .i64 p, .int .i64 s]] w fun z w' => z = .returned (.agg #[.int .i64 T, .int .i64 P, .int .i64 S, .int .i64 A, .int .i64 C, .int .i64 M, .int .i64 K]) /\ Below w.heap.size w w' := by
 obtain ⟨rfl, rfl, rfl, rfl, rfl, rfl, rfl⟩ := h
 cases hr : rightB t p s
 ·obtain ⟨e1, e2, e3, e4, e5, e6, e7⟩ := lay_no hr
  rw [e1, e2, e3, e4, e5, e6, e7]
  exact plLayout_no t p s hr w
 ·obtain ⟨e1, e2, e3, e4, e5, e6, e7⟩ := lay_yes hr
  rw [e1, e2, e3, e4, e5, e6, e7]
  have hn := (rightB_iff t p s).1 hr
  obtain ⟨a, rfl⟩ : ∃ a : Nat, t = a := ⟨t.toNat, by omega⟩
  obtain ⟨b, rfl⟩ : ∃ b : Nat, p = b := ⟨p.toNat, by omega⟩
  exact plLayout_yes a b s hr w
theorem lay_is (t p s : Int) : ∃ T P S A C M K : Int, Laid7 t p s T P S A C M K /\ (0 <= T /\ T <= 16) /\ (0 <= P /\ P <= 1024) /\ (0 <= A /\ A <= 94) /\ (0 <= C /\ C <= 6238) /\ (0 <= M /\ M <= 6256) /\ (0 <= K /\ K <= 17) /\ M % 8 = 0 :=
 ⟨_, _, _, _, _, _, _, ⟨rfl, rfl, rfl, rfl, rfl, rfl, rfl⟩, lay_bounds t p s⟩

theorem plCells_c (t p s : Int) (w : World) :
  Calls Tryz.prog 103 #[.agg #[.int .i64 t, .int .i64 p, .int .i64 s]] w fun z w' => z = .returned (.int .i64 (lC t p s)) /\ Below w.heap.size w w' := by
 obtain ⟨T, P, S, A, C, M, K, HL, ⟨t0, t1⟩, ⟨p0, p1⟩, ⟨a0, a1⟩, ⟨c0, c1⟩, ⟨m0, m1⟩, ⟨k0, k1⟩, -⟩ := lay_is t p s
 have HC := hidp HL.hC
 have hfd : ∀ w : World, (Instr.field 152 (.agg #[.int .i64 T, .int .i64 P, .int .i64 S, .int .i64 A, .int .i64 C, .int .i64 M, .int .i64 K]) 2).run Tryz.prog w = .ok (.int .i64 C) w := fun _ => by kernel_rfl
 go_enter Tryz.func103, Tryz.ntmps103
 go_wp2_with fail
 refine (plLayout_c t p s T P S A C M K HL _).mono ?_
 rintro e w1 ⟨rfl, hb1⟩
 go_wp2
 go_ret
 exact ⟨by rw [HC.out]; rfl, Bgo (Bnew (B0 _) _) hb1⟩
theorem plBin_c (k : Int) (w : World) :
  Calls Tryz.prog 149 #[.int .i64 k] w fun z w' => z = .returned (.int .i64 (nthI 2 11 1 k)) /\ w = w' := by
 go_enter Tryz.func149, Tryz.ntmps149
 go_wp2_with fail
 refine (plNth_c 2 11 1 k (by omega) (by omega) (by omega) (by omega) (by omega) (by omega) _).mono ?_
 rintro e w1 ⟨rfl, rfl⟩
 go_wp2
 go_ret
 exact ⟨by first | rfl | trivial, by first | rfl | trivial⟩

theorem plRack_c (k : Int) (w : World) :
  Calls Tryz.prog 34 #[.int .i64 k] w fun z w' => z = .returned (.int .i64 (nthI 13 9 1 k)) /\ w = w' := by
 go_enter Tryz.func34, Tryz.ntmps34
 go_wp2_with fail
 refine (plNth_c 13 9 1 k (by omega) (by omega) (by omega) (by omega) (by omega) (by omega) _).mono ?_
 rintro e w1 ⟨rfl, rfl⟩
 go_wp2
 go_ret
 exact ⟨by first | rfl | trivial, by first | rfl | trivial⟩

theorem plPage_c (t p s q b : Int) (w : World) :
  Calls Tryz.prog 78 #[.agg #[.int .i64 t, .int .i64 p, .int .i64 s], .int .i64 q, .int .i64 b] w fun z w' => z = .returned (.int .i64 (pageI t p s q b)) /\ Below w.heap.size w w' := by
 obtain ⟨T, P, S, A, C, M, K, HL, ⟨t0, t1⟩, ⟨p0, p1⟩, ⟨a0, a1⟩, ⟨c0, c1⟩, ⟨m0, m1⟩, ⟨k0, k1⟩, -⟩ := lay_is t p s
 have HR := hidp (show pageI t p s q b = nthI (nthI A P 6 q) 6 1 b by unfold pageI; rw [HL.hA, HL.hP])
 have hB := nth_bounds (f := A) (n := P) (e := 6) (i := q) (B := 6256) (by omega) (by omega) (by omega) (by omega)
 obtain ⟨y, hy⟩ : ∃ y, nthI A P 6 q = y := ⟨_, rfl⟩
 rw [hy] at hB HR
 have HY := hidp hy
 clear hy
 have hfd : ∀ w : World, (Instr.field 152 (.agg #[.int .i64 T, .int .i64 P, .int .i64 S, .int .i64 A, .int .i64 C, .int .i64 M, .int .i64 K]) 0).run Tryz.prog w = .ok (.agg #[.int .i64 T, .int .i64 P, .int .i64 S]) w := fun _ => by kernel_rfl
 have hfd2 : ∀ w : World, (Instr.field 23 (.agg #[.int .i64 T, .int .i64 P, .int .i64 S]) 0).run Tryz.prog w = .ok (.int .i64 T) w := fun _ => by kernel_rfl
 go_enter Tryz.func78, Tryz.ntmps78
 go_wp2_with fail
 refine (plLayout_c t p s T P S A C M K HL _).mono ?_
 rintro e w1 ⟨rfl, hb1⟩
 go_wp2_with fail
 refine (plNth_c A P 6 q (by omega) (by omega) (by omega) (by omega) (by omega) (by omega) _).mono ?_
 rintro e w2 ⟨rfl, rfl⟩
 rw [HY.out]
 go_wp2_with fail
 refine (plNth_c y 6 1 b (by omega) (by omega) (by omega) (by omega) (by omega) (by omega) _).mono ?_
 rintro e w3 ⟨rfl, rfl⟩
 go_wp2
 go_ret
 refine ⟨by rw [HR.out]; rfl, ?_⟩
 all_goals exact blz

theorem plInfo_c (t p s q : Int) (w : World) :
  Calls Tryz.prog 30 #[.agg #[.int .i64 t, .int .i64 p, .int .i64 s], .int .i64 q] w fun z w' => z = .returned (.int .i64 (pageI t p s q 0)) /\ Below w.heap.size w w' := by
 go_enter Tryz.func30, Tryz.ntmps30
 go_wp2_with fail
 refine (plPage_c t p s q 0 _).mono ?_
 rintro e w1 ⟨rfl, hb1⟩
 go_wp2
 go_ret
 exact ⟨by first | rfl | trivial, Bgo (Bnew (B0 _) _) hb1⟩

theorem plFoot_c (t p s q : Int) (w : World) :
  Calls Tryz.prog 126 #[.agg #[.int .i64 t, .int .i64 p, .int .i64 s], .int .i64 q] w fun z w' => z = .returned (.int .i64 (pageI t p s q 1)) /\ Below w.heap.size w w' := by
 go_enter Tryz.func126, Tryz.ntmps126
 go_wp2_with fail
 refine (plPage_c t p s q 1 _).mono ?_
 rintro e w1 ⟨rfl, hb1⟩
 go_wp2
 go_ret
 exact ⟨by first | rfl | trivial, Bgo (Bnew (B0 _) _) hb1⟩

theorem plNext_c (t p s q : Int) (w : World) :
  Calls Tryz.prog 124 #[.agg #[.int .i64 t, .int .i64 p, .int .i64 s], .int .i64 q] w fun z w' => z = .returned (.int .i64 (pageI t p s q 2)) /\ Below w.heap.size w w' := by
 go_enter Tryz.func124, Tryz.ntmps124
 go_wp2_with fail
 refine (plPage_c t p s q 2 _).mono ?_
 rintro e w1 ⟨rfl, hb1⟩
 go_wp2
 go_ret
 exact ⟨by first | rfl | trivial, Bgo (Bnew (B0 _) _) hb1⟩

theorem plPrev_c (t p s q : Int) (w : World) :
  Calls Tryz.prog 125 #[.agg #[.int .i64 t, .int .i64 p, .int .i64 s], .int .i64 q] w fun z w' => z = .returned (.int .i64 (pageI t p s q 3)) /\ Below w.heap.size w w' := by
 go_enter Tryz.func125, Tryz.ntmps125
 go_wp2_with fail
 refine (plPage_c t p s q 3 _).mono ?_
 rintro e w1 ⟨rfl, hb1⟩
 go_wp2
 go_ret
 exact ⟨by first | rfl | trivial, Bgo (Bnew (B0 _) _) hb1⟩

theorem plSlots_c (t p s q : Int) (w : World) :
  Calls Tryz.prog 31 #[.agg #[.int .i64 t, .int .i64 p, .int .i64 s], .int .i64 q] w fun z w' => z = .returned (.int .i64 (pageI t p s q 4)) /\ Below w.heap.size w w' := by
 go_enter Tryz.func31, Tryz.ntmps31
 go_wp2_with fail
 refine (plPage_c t p s q 4 _).mono ?_
 rintro e w1 ⟨rfl, hb1⟩
 go_wp2
 go_ret
 exact ⟨by first | rfl | trivial, Bgo (Bnew (B0 _) _) hb1⟩

theorem plTaken_c (t p s q : Int) (w : World) :
  Calls Tryz.prog 32 #[.agg #[.int .i64 t, .int .i64 p, .int .i64 s], .int .i64 q] w fun z w' => z = .returned (.int .i64 (pageI t p s q 5)) /\ Below w.heap.size w w' := by
 go_enter Tryz.func32, Tryz.ntmps32
 go_wp2_with fail
 refine (plPage_c t p s q 5 _).mono ?_
 rintro e w1 ⟨rfl, hb1⟩
 go_wp2
 go_ret
 exact ⟨by first | rfl | trivial, Bgo (Bnew (B0 _) _) hb1⟩
end
end Go.Proofs.YtnmhdlpnimdffaaGreatDoor

namespace Go.Proofs.YtnmhdlpnimdffaaGreatDoor
open Go.ChangeShapes Go.WideShapes Go.ChangeAt Go.RowKit
set_option linter.unusedVariables false
section
theorem put_new (x a v : Nat) (ha : a + 16 <= 64) (hx : x < 2 ^ a) (hv : v < 65536) : HM.putN x a 16 v = x + v * 2 ^ a := by
 have hx64 : x < 2 ^ 64 := Nat.lt_of_lt_of_le hx (Nat.pow_le_pow_right (by omega) (by omega))
 have h1 : x + v * 2 ^ a = 2 ^ a * v + x := by rw [Nat.mul_comm, Nat.add_comm]
 have hlt : 2 ^ a * v + x < 2 ^ 64 := by
  have e : (2 : Nat) ^ 64 = 2 ^ a * 2 ^ (64 - a) := by rw [<- Nat.pow_add]; congr 1; omega
  have e2 : (2 : Nat) ^ 16 <= 2 ^ (64 - a) := Nat.pow_le_pow_right (by omega) (by omega)
  have e3 : 2 ^ a * (v + 1) <= 2 ^ a * 2 ^ (64 - a) := Nat.mul_le_mul_left _ (by omega)
  rw [Nat.mul_succ] at e3
  rw [e]
  omega
 rw [h1]
 apply Nat.eq_of_testBit_eq
 intro i
 by_cases hi : i < 64
 ·rw [HM.bit_putN x a 16 v i ha hv hi, Nat.testBit_two_pow_mul_add _ hx]
  by_cases h2 : i < a
  ·rw [if_neg (by omega), if_pos h2]
  ·rw [if_neg h2]
   by_cases h3 : i < a + 16
   ·rw [if_pos ⟨by omega, h3⟩]
   ·rw [if_neg (by omega), Nat.testBit_lt_two_pow (Nat.lt_of_lt_of_le hx (Nat.pow_le_pow_right (by omega) (by omega))), Nat.testBit_lt_two_pow (Nat.lt_of_lt_of_le hv (show 65536 <= 2 ^ (i - a) from Nat.pow_le_pow_right (n := 2) (by omega) (show 16 <= i - a by omega)))]
 ·rw [HM.bit_high (HM.putN_lt x a 16 v ha hv) (by omega), HM.bit_high hlt (by omega)]
end
end Go.Proofs.YtnmhdlpnimdffaaGreatDoor

namespace Go.Proofs.YtnmhdlpnimdffaaGreatDoor
open Go.ChangeShapes Go.WideShapes Go.ChangeAt Go.RowKit
set_option linter.unusedVariables false
set_option linter.unusedSimpArgs false
section
def SlotsLaid (w : World) : Prop := ∀ k : Nat, k < 9 -> w.cell? ⟨0, k, none⟩ = some (.int .i64 ((slotN k : Nat) : Int))
theorem SlotsLaid.below {w w' : World} (h : SlotsLaid w) (hb : Below w.heap.size w w') : SlotsLaid w' := fun k hk => cells_stay hb _ _ (h k hk)
theorem clSlots_c (k : Int) (h0 : -9223372036854775808 <= k) (h1 : k <= 9223372036854775807) (w : World) (hT : SlotsLaid w) :
  Calls Tryz.prog 81 #[.int .i64 k] w fun e w' => e = .returned (.int .i64 ((slotI k : Nat) : Int)) /\ w = w' := by
 by_cases a : k < 0
 ·have E := hidp (slotI_out (.inl a))
  go_enter Tryz.func81, Tryz.ntmps81
  go_wp2
  go_ret
  exact ⟨by rw [E.out]; rfl, rfl⟩
 by_cases b : 9 <= k
 ·have E := hidp (slotI_out (.inr b))
  go_enter Tryz.func81, Tryz.ntmps81
  go_wp2
  go_ret
  exact ⟨by rw [E.out]; rfl, rfl⟩
 ·obtain ⟨k, rfl⟩ : ∃ n : Nat, k = n := ⟨k.toNat, by omega⟩
  have E := hidp (slotI_nat k)
  have hk : k < 9 := by omega
  have hc := hT k hk
  have HT := hidp hT
  clear hT
  go_enter Tryz.func81, Tryz.ntmps81
  go_wp2
  go_ret
  exact ⟨by rw [E.out]; rfl, rfl⟩

theorem r5Slots_c (k : Int) (h0 : -9223372036854775808 <= k) (h1 : k <= 9223372036854775807) (w : World) :
  Calls Tryz.prog 97 #[.int .i64 k] w fun e w' => e = .returned (.int .i64 ((slotI k : Nat) : Int)) /\ w = w' := by
 by_cases a : 0 <= k /\ k < 9
 ·obtain ⟨k, rfl⟩ : ∃ n : Nat, k = n := ⟨k.toNat, by omega⟩
  have hk : k < 9 := by omega
  clear a h0 h1
  match k, hk with
  | 0, _ | 1, _ | 2, _ | 3, _ | 4, _ | 5, _ | 6, _ | 7, _ | 8, _ =>
   go_enter Tryz.func97, Tryz.ntmps97
   go_wp2
   go_ret
   exact ⟨rfl, rfl⟩
 ·have E := hidp (slotI_out (k := k) (by omega))
  have e0 : (k == 0) = false := by simp; omega
  have e1 : (k == 1) = false := by simp; omega
  have e2 : (k == 2) = false := by simp; omega
  have e3 : (k == 3) = false := by simp; omega
  have e4 : (k == 4) = false := by simp; omega
  have e5 : (k == 5) = false := by simp; omega
  have e6 : (k == 6) = false := by simp; omega
  have e7 : (k == 7) = false := by simp; omega
  have e8 : (k == 8) = false := by simp; omega
  go_enter Tryz.func97, Tryz.ntmps97
  go_wp2
  go_ret
  exact ⟨by rw [E.out]; rfl, rfl⟩

theorem r5Size_c (s k : Int) (h0 : -9223372036854775808 <= k) (h1 : k <= 9223372036854775807) (w : World) :
  Calls Tryz.prog 59 #[.int .i64 s, .int .i64 k] w fun e w' => e = .returned (.int .i64 ((sizeN s k : Nat) : Int)) /\ Below w.heap.size w w' := by
 obtain ⟨n, hn⟩ : ∃ n, slotI k = n := ⟨_, rfl⟩
 obtain ⟨p, hp⟩ : ∃ p, pageS s = p := ⟨_, rfl⟩
 have hn1 : n <= 32 := hn ▸ slotI_le k
 have hp1 : p <= 1048576 := hp ▸ pageS_le s
 have E : sizeN s k = p / n - p / n % 16 := by unfold sizeN; rw [hn, hp]
 have HN := hidp hn
 have HP := hidp (show pageN 1 4 s = p from hp)
 have HE := hidp E
 clear hn hp E
 by_cases hz : n = 0 \/ p = 0
 ·have hE : p / n - p / n % 16 = 0 := by rcases hz with rfl | rfl <;> simp
  have HE2 := hidp (HE.out.trans hE)
  clear hE
  rcases hz with rfl | rfl
  ·go_enter Tryz.func59, Tryz.ntmps59
   go_wp2_with fail
   refine (r4Page_c 1 4 s _).mono ?_
   rintro e w2 ⟨rfl, hb2⟩
   rw [HP.out]
   go_wp2_with fail
   refine (r5Slots_c k h0 h1 _).mono ?_
   rintro e w1 ⟨rfl, rfl⟩
   rw [HN.out]
   go_wp2
   go_ret
   exact ⟨by rw [HE2.out]; rfl, hb2⟩
  ·have hn0 : ¬ n = 0 \/ n = 0 := by omega
   rcases hn0 with hn0 | rfl
   all_goals
    go_enter Tryz.func59, Tryz.ntmps59
    go_wp2_with fail
    refine (r4Page_c 1 4 s _).mono ?_
    rintro e w2 ⟨rfl, hb2⟩
    rw [HP.out]
    go_wp2_with fail
    refine (r5Slots_c k h0 h1 _).mono ?_
    rintro e w1 ⟨rfl, rfl⟩
    rw [HN.out]
    go_wp2
    go_ret
    exact ⟨by rw [HE2.out]; rfl, hb2⟩
 ·have hq : ((p : Int).tdiv n) = ((p / n : Nat) : Int) := by rw [Int.tdiv_eq_ediv_of_nonneg (by omega)]; norm_cast
  have hq1 : p / n <= 1048576 := Nat.le_trans (Nat.div_le_self _ _) hp1
  obtain ⟨q, hqq⟩ : ∃ q, p / n = q := ⟨_, rfl⟩
  rw [hqq] at hq hq1
  have HQ := hidp hqq
  have hn2 : ¬ n = 0 := by omega
  have hp2 : ¬ p = 0 := by omega
  have hn3 : ((n : Int) == 0) = false := by simpa using hn2
  have hp3 : ((p : Int) == 0) = false := by simpa using hp2
  clear hqq hz
  go_enter Tryz.func59, Tryz.ntmps59
  go_wp2_with fail
  refine (r4Page_c 1 4 s _).mono ?_
  rintro e w2 ⟨rfl, hb2⟩
  rw [HP.out]
  go_wp2_with fail
  refine (r5Slots_c k h0 h1 _).mono ?_
  rintro e w1 ⟨rfl, rfl⟩
  rw [HN.out]
  go_wp2
  go_ret
  refine ⟨?_, hb2⟩
  rw [HE.out, HQ.out]
  refine ret_int ?_
  omega
end
section
theorem Held.drew {w : World} {g : Nat} {t : TypeId} {cs : Array Value} (h : Held w g t cs) : Held w.drew g t cs := h
structure HeapV (H : AuH) (n c : Nat) : Prop where
 right : rightB H.t H.p H.s = true
 len : n = 30 + 4 * H.t + 6 * H.p
 cap : n <= c
 max : c <= maxLen
 lt : ∀ i, i < n -> H.V i < 2 ^ 32
def IsVals (w : World) (ad : Addr) (n : Nat) (V : Nat -> Nat) : Prop := ad.block < w.heap.size /\ ∀ i, i < n -> w.cell? (ad.add i) = some (.int .u32 (V i : Nat))
theorem IsVals.below {w w' : World} {ad : Addr} {n : Nat} {V : Nat -> Nat} (h : IsVals w ad n V) (hb : Below w.heap.size w w') : IsVals w' ad n V :=
 ⟨Nat.lt_of_lt_of_le h.1 hb.size, fun i hi => by
  have e : (ad.add i).block < w.heap.size := by rw [block_of_add]; exact h.1
  exact (hb.cell e).trans (h.2 i hi)⟩
theorem IsVals.drew {w : World} {ad : Addr} {n : Nat} {V : Nat -> Nat} (h : IsVals w ad n V) : IsVals w.drew ad n V := h
theorem HeapV.nums {H : AuH} {n c : Nat} (h : HeapV H n c) : 1 <= H.t /\ H.t <= 16 /\ 4 <= H.p /\ H.p <= 1024 /\ 10 <= H.s /\ H.s <= 20 /\ n <= 6238 /\ n <= c /\ c <= maxLen := by
 have h1 := (rightB_iff _ _ _).1 h.right
 have h2 := h.len
 have h3 := h.cap
 have h4 := h.max
 omega
theorem HeapV.cel_lt {H : AuH} {n c : Nat} (h : HeapV H n c) {q b : Nat} (hq : q < H.p) (hb : b < 6) : H.cel q b < 2 ^ 32 := h.lt _ (by have := h.len; omega)
theorem HeapV.page {H : AuH} {n c : Nat} (h : HeapV H n c) {q b : Nat} (hq : q < H.p) (hb : b < 6) : pageI H.t H.p H.s q b = ((30 + 4 * H.t + 6 * q + b : Nat) : Int) := by
 rw [pcell_yes h.right (by omega) (by omega) (by omega) (by omega)]
 push_cast
 omega
def hpV (H : AuH) (ad : Addr) (n c : Nat) : Value := .agg #[.int .i64 (H.t : Int), .int .i64 (H.p : Int), .int .i64 (H.s : Int), .slice (some ad) n c]
end
end Go.Proofs.YtnmhdlpnimdffaaGreatDoor

namespace Go.Proofs.YtnmhdlpnimdffaaGreatDoor
open Go.ChangeShapes Go.WideShapes Go.ChangeAt Go.RowKit Go.Shelf
set_option linter.unusedVariables false
set_option linter.unusedSimpArgs false
section
theorem bool_no {b : Bool} {p : Prop} (hb : b = true ↔ p) (h : ¬ p) : b = false := by cases b; rfl; exact absurd (hb.1 rfl) h
theorem bool_yes {b : Bool} {p : Prop} (hb : b = true ↔ p) (h : p) : b = true := hb.2 h

section
attribute [local go_sem] Oper.semAt_some
end
end
end Go.Proofs.YtnmhdlpnimdffaaGreatDoor

namespace Go.Proofs.YtnmhdlpnimdffaaGreatDoor
open Go.ChangeShapes Go.WideShapes Go.ChangeAt Go.RowKit
set_option linter.unusedVariables false
set_option linter.unusedSimpArgs false
section
def slotKd (taken live s : Nat) : Nat := if live.testBit s then 2 else if taken.testBit s then 4 else 3
end
end Go.Proofs.YtnmhdlpnimdffaaGreatDoor

namespace Go.Proofs.YtnmhdlpnimdffaaGreatDoor
open Go.ChangeShapes Go.WideShapes Go.ChangeAt Go.RowKit Go.Shelf
set_option linter.unusedVariables false
set_option linter.unusedSimpArgs false
section
namespace AuH
def Foot (H : AuH) (q : Nat) : Prop := (∀ r, q <= r -> r + 1 < q + H.ln q -> H.cel r 1 = 0) /\ H.cel (q + H.ln q - 1) 1 = q + 1
def R3 (H : AuH) : Prop := ∀ q, q < H.p -> H.K q ≠ 0 -> H.Foot q
end AuH
section
attribute [local go_sem] Oper.semAt_some

end
end
section
namespace AuH
def R4 (H : AuH) : Prop := ∀ q, H.At q -> q < H.p -> H.K q = 1 -> H.nx q < H.p -> H.K (H.nx q) ≠ 1
variable {H : AuH}
end AuH
section
attribute [local go_sem] Oper.semAt_some

end
end
section
def SubB (a b : Nat) : Prop := ∀ i, i < 32 -> a.testBit i = true -> b.testBit i = true
theorem sub_mask (a n : Nat) (ha : a < 2 ^ 32) (hn : n <= 32) : SubB a (2 ^ n - 1) ↔ a < 2 ^ n := by
 constructor
 ·intro h
  apply Nat.lt_pow_two_of_testBit
  intro i hi
  rcases Nat.lt_or_ge i 32 with h2 | h2
  ·cases hai : a.testBit i
   ·rfl
   ·have := h i h2 hai
    rw [Nat.testBit_two_pow_sub_one] at this
    have := of_decide_eq_true this
    omega
  ·exact Nat.testBit_lt_two_pow (Nat.lt_of_lt_of_le ha (Nat.pow_le_pow_right (by omega) h2))
 ·intro h i hi hai
  rw [Nat.testBit_two_pow_sub_one]
  rcases Nat.lt_or_ge i n with h2 | h2
  ·exact decide_eq_true h2
  ·rw [Nat.testBit_lt_two_pow (Nat.lt_of_lt_of_le h (Nat.pow_le_pow_right (by omega) h2))] at hai; cases hai
theorem sub_zero (a : Nat) (ha : a < 2 ^ 32) : SubB a 0 ↔ a = 0 := by
 have := sub_mask a 0 ha (by omega)
 simpa using this
namespace AuH
def Slot5 (H : AuH) (q : Nat) : Prop := (H.K q = 3 -> H.cel q 5 ≠ 0 /\ H.cel q 5 < 2 ^ slotI (H.Cl q) /\ SubB (H.cel q 4) (H.cel q 5)) /\ (H.K q ≠ 3 -> H.cel q 5 = 0 /\ H.cel q 4 = 0)
def R5 (H : AuH) : Prop := ∀ q, q < H.p -> H.Slot5 q
variable {H : AuH}
end AuH
section
attribute [local go_sem] Oper.semAt_some

end
end
end Go.Proofs.YtnmhdlpnimdffaaGreatDoor
