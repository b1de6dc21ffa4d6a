/-
  What pushing, pulling and walking do to what a View has read and written, as functions; the walk's own block beside a View. No program is named here but for the document's and the program's View.
-/
import Derived.Test.YtioolaaphbddbaaGreatDoorP03
import Derived.Deep.RegionHeld3
import Derived.IntWalk
import Derived.KernelRfl
namespace Go.Proofs.YtioolaaphbddbaaGreatDoor
open Go.ChangeShapes Go.WideShapes Go.ChangeAt Go.RowKit Go.Maps
set_option linter.unusedVariables false
set_option maxRecDepth 100000
section
def pgB (P p : Int) : Bool := decide (0 ≤ p) && decide (p < P)
theorem pgB_iff (P p : Int) : pgB P p = true ↔ 0 ≤ p ∧ p < P := by unfold pgB; simp
theorem pgB_no {P p : Int} (h : pgB P p = false) : ¬ (0 ≤ p ∧ p < P) := by
  intro x
  rw [(pgB_iff P p).2 x] at h
  cases h

section
variable (n : Nat) (K : Nat → Option Nat) (t q s hd : Int)
def push1 (k : Nat) (st : Vst) : Vst := putS n (putS n (getS n K st hd) (pageI t q s (k : Int) 2) (getV n K st hd)) (pageI t q s (k : Int) 3) 0
def push2 (k : Nat) (st : Vst) : Vst := if getV n K st hd = 0 then push1 n K t q s hd k st else putS n (push1 n K t q s hd k st) (pageI t q s ((getV n K st hd : Nat) - 1 : Int) 3) (k + 1)
def pushS (k : Nat) (st : Vst) : Vst := putS n (push2 n K t q s hd k st) hd (k + 1)
def pushI (p : Int) (st : Vst) : Vst := if pgB q p then pushS n K t q s hd p.toNat st else st

def pullN (k : Nat) (st : Vst) : Nat := getV n K st (pageI t q s (k : Int) 2)
def pullB (k : Nat) (st : Vst) : Nat := getV n K (getS n K st (pageI t q s (k : Int) 2)) (pageI t q s (k : Int) 3)
def pull0 (k : Nat) (st : Vst) : Vst := getS n K (getS n K st (pageI t q s (k : Int) 2)) (pageI t q s (k : Int) 3)
def pull1 (k : Nat) (st : Vst) : Vst := if pullB n K t q s k st = 0 then putS n (pull0 n K t q s k st) hd (pullN n K t q s k st) else putS n (pull0 n K t q s k st) (pageI t q s ((pullB n K t q s k st : Nat) - 1 : Int) 2) (pullN n K t q s k st)
def pull2 (k : Nat) (st : Vst) : Vst := if pullN n K t q s k st = 0 then pull1 n K t q s hd k st else putS n (pull1 n K t q s hd k st) (pageI t q s ((pullN n K t q s k st : Nat) - 1 : Int) 3) (pullB n K t q s k st)
def pullS (k : Nat) (st : Vst) : Vst := putS n (putS n (pull2 n K t q s hd k st) (pageI t q s (k : Int) 2) 0) (pageI t q s (k : Int) 3) 0
def pullI (p : Int) (st : Vst) : Vst := if pgB q p then pullS n K t q s hd p.toNat st else st

def walkF : Nat → Nat → Vst → List Nat × Vst
  | 0, _, st => ([], st)
  | m + 1, l, st => if 1 ≤ l ∧ (l : Int) ≤ q then
      let r := walkF m (getV n K st (pageI t q s ((l : Int) - 1) 2)) (getS n K st (pageI t q s ((l : Int) - 1) 2))
      ((l - 1) :: r.1, r.2)
    else ([], st)
def walkL (st : Vst) : List Nat := (walkF n K t q s q.toNat (getV n K st hd) (getS n K st hd)).1
def walkS (st : Vst) : Vst := (walkF n K t q s q.toNat (getV n K st hd) (getS n K st hd)).2
theorem walkF_step {m l : Nat} {st : Vst} (h : 1 ≤ l ∧ (l : Int) ≤ q) : walkF n K t q s (m + 1) l st = ((l - 1) :: (walkF n K t q s m (getV n K st (pageI t q s ((l : Int) - 1) 2)) (getS n K st (pageI t q s ((l : Int) - 1) 2))).1, (walkF n K t q s m (getV n K st (pageI t q s ((l : Int) - 1) 2)) (getS n K st (pageI t q s ((l : Int) - 1) 2))).2) := by
  rw [walkF, if_pos h]
theorem walkF_end {m l : Nat} {st : Vst} (h : ¬ (1 ≤ l ∧ (l : Int) ≤ q)) : walkF n K t q s m l st = ([], st) := by
  cases m with
  | zero => rfl
  | succ m => rw [walkF, if_neg h]
end
section
variable {n : Nat} {K : Nat → Option Nat} {t q s hd : Int} {m l0 l : Nat} {st0 st : Vst} {out : List Nat}
theorem pgB_nat {k : Nat} {st : Vst} (h : pgB q (k : Int) = true) : pushI n K t q s hd (k : Int) st = pushS n K t q s hd k st ∧ pullI n K t q s hd (k : Int) st = pullS n K t q s hd k st := by
  unfold pushI pullI
  rw [if_pos h, if_pos h]
  exact ⟨rfl, rfl⟩
theorem pgB_none {p : Int} {st : Vst} (h : pgB q p = false) : pushI n K t q s hd p st = st ∧ pullI n K t q s hd p st = st := by
  unfold pushI pullI
  rw [if_neg (by simp [h]), if_neg (by simp [h])]
  exact ⟨rfl, rfl⟩
theorem getV_lt {a : Int} (hk : VOk n st) (h32 : ∀ i x, K i = some x → x < 2 ^ 32) : getV n K st a < 2 ^ 32 := by
  by_cases ho : opn n st a = true
  · obtain ⟨i, rfl, hi, hl⟩ := opn_at ho
    cases hp : pos st.wr i with
    | some k =>
      rw [getV_put ho hp]
      have h1 := (pos_some hp).1
      have h2 : (st.wr[k]'h1) ∈ st.wr := List.getElem_mem h1
      have h3 := (hk.wrLt _ h2).2
      unfold atW
      simp only [List.getD, List.getElem?_eq_getElem h1, Option.getD_some]
      exact h3
    | none =>
      cases hK : K i with
      | some v => rw [getV_known ho hp hK]; exact h32 i v hK
      | none => rw [getV_lost ho hp hK]; omega
  · rw [getV_no (by simpa using ho)]; omega
end

section
variable {base b n : Nat} {wh all : Bool} {K : Nat → Option Nat} {st s' : Vst} {w ws w0 w' : World} {A G : Nat → Prop} {N : Nat} {T : TypeId} {cs : Array Value} {O : Ob}
theorem vAt_lt (h : (vOb base b n wh K).At w0 A G st w) (a : Int) : getV n K st a < 2 ^ 32 := by
  obtain ⟨B, ⟨o, h1, _⟩, _⟩ := h
  exact getV_lt h1.ok h1.k32
theorem rAt_lt (h : (rOb base b n all K).At w0 A G st w) (a : Int) : getV n K st a < 2 ^ 32 := by
  obtain ⟨B, ⟨o, h1, _⟩, _⟩ := h
  exact getV_lt h1.ok h1.k32
structure WK (O : Ob) (w0 : World) (A G : Nat → Prop) (ws : World) (N : Nat) (T : TypeId) (cs : Array Value) (st : Vst) (w : World) : Prop where
  at_ : O.At w0 A (And1 G N) st w
  held : Held w N T cs
  stay : Stay G ws w
theorem WK.one (h : O.At w0 A G st ws) (T : TypeId) (cs : Array Value) : WK O w0 A G ws ws.heap.size T cs st (ws.alloc (.cells cs T)) := ⟨h.box _, Held.new _ _ _, Stay.of_below (Bnew (B0 _) _) G⟩
theorem WK.two (h : O.At w0 A G st ws) (o : Obj) (T : TypeId) (cs : Array Value) : WK O w0 A G ws (ws.heap.size + 1) T cs st ((ws.alloc o).alloc (.cells cs T)) :=
  ⟨by have := (h.alloc o).box (.cells cs T); simpa using this, Held.new2 _ _ _ _, Stay.of_below (Bnew (Bnew (B0 _) _) _) G⟩
theorem WK.keep (h : WK O w0 A G ws N T cs st w) (hb : Below w.heap.size w w') : WK O w0 A G ws N T cs st w' := ⟨h.at_.keep hb, h.held.keep hb, h.stay.trans (Stay.of_below hb G)⟩
theorem WK.drew (h : WK O w0 A G ws N T cs st w) : WK O w0 A G ws N T cs st w.drew := h.keep (Bdrew (B0 w))
theorem WK.call (h : WK O w0 A G ws N T cs st w) (h1 : O.At w0 A (And1 G N) s' w') (h2 : Stay (And1 G N) w w') : WK O w0 A G ws N T cs s' w' :=
  ⟨h1, h2.held (.inr rfl) h.held, h.stay.trans (h2.less fun g x => .inl x)⟩
theorem WK.fin (h : WK O w0 A G ws N T cs st w) : O.At w0 A G st w ∧ Stay G ws w := ⟨h.at_.less fun g x => .inl x, h.stay⟩
end
end
end Go.Proofs.YtioolaaphbddbaaGreatDoor

namespace Go.Proofs.YtioolaaphbddbaaGreatDoor
open Go.ChangeShapes Go.WideShapes Go.ChangeAt Go.RowKit
set_option linter.unusedVariables false
set_option linter.unusedSimpArgs false
section
def infoP (k l c : Int) : Prop := (k = 0 ∧ l = 0 ∧ c = 0) ∨ ((k = 1 ∨ k = 2) ∧ 1 ≤ l ∧ l ≤ 1024 ∧ c = 0) ∨ (k = 3 ∧ l = 1 ∧ 0 ≤ c ∧ c ≤ 8)
instance (k l c : Int) : Decidable (infoP k l c) := by unfold infoP; infer_instance
def infoB (k l c : Int) : Bool := decide (infoP k l c)
theorem infoB_iff {k l c : Int} (h : infoB k l c = true) : infoP k l c := of_decide_eq_true h
def infoV (k l c : Int) : Nat := if infoB k l c then k.toNat + 16 * l.toNat + 65536 * c.toNat else 0
theorem infoV_yes {k l c : Int} (h : infoB k l c = true) : infoV k l c = k.toNat + 16 * l.toNat + 65536 * c.toNat := by unfold infoV; rw [if_pos h]
theorem infoV_no {k l c : Int} (h : infoB k l c = false) : infoV k l c = 0 := by unfold infoV; rw [h]; rfl

set_option maxHeartbeats 1600000 in
theorem inIsRight_c (k l c : Int) (w : World) :
    Calls Tryz.prog 121 #[.agg #[.int .i64 k, .int .i64 l, .int .i64 c]] w fun e w' => e = .returned (.bool (infoB k l c)) ∧ Below w.heap.size w w' := by
  have hC : ∃ b, infoB k l c = b := ⟨_, rfl⟩
  obtain ⟨b, hb⟩ := hC
  rw [hb]
  have hcase : (k = 3 ∧ l ≠ 1 ∧ b = false) ∨ (k = 3 ∧ l = 1 ∧ c < 0 ∧ b = false) ∨ (k = 3 ∧ l = 1 ∧ 0 ≤ c ∧ 9 ≤ c ∧ b = false) ∨ (k = 3 ∧ l = 1 ∧ 0 ≤ c ∧ c < 9 ∧ b = true) ∨
      ((k = 1 ∨ k = 2) ∧ l < 1 ∧ b = false) ∨ ((k = 1 ∨ k = 2) ∧ 1 ≤ l ∧ 1024 < l ∧ b = false) ∨ ((k = 1 ∨ k = 2) ∧ 1 ≤ l ∧ l ≤ 1024 ∧ c ≠ 0 ∧ b = false) ∨ ((k = 1 ∨ k = 2) ∧ 1 ≤ l ∧ l ≤ 1024 ∧ c = 0 ∧ b = true) ∨
      (k = 0 ∧ l ≠ 0 ∧ b = false) ∨ (k = 0 ∧ l = 0 ∧ c ≠ 0 ∧ b = false) ∨ (k = 0 ∧ l = 0 ∧ c = 0 ∧ b = true) ∨ (k ≠ 0 ∧ k ≠ 1 ∧ k ≠ 2 ∧ k ≠ 3 ∧ b = false) := by
    cases b
    · have h : ¬ infoP k l c := of_decide_eq_false hb
      unfold infoP at h
      simp only [and_true, reduceCtorEq, and_false, or_false, false_or]
      omega
    · have h : infoP k l c := infoB_iff hb
      unfold infoP at h
      simp only [and_true, reduceCtorEq, and_false, or_false, false_or]
      omega
  clear hb
  rcases hcase with ⟨rfl, h1, rfl⟩ | ⟨rfl, rfl, h1, rfl⟩ | ⟨rfl, rfl, h1, h2, rfl⟩ | ⟨rfl, rfl, h1, h2, rfl⟩ | ⟨rfl | rfl, h1, rfl⟩ | ⟨rfl | rfl, h1, h2, rfl⟩ | ⟨rfl | rfl, h1, h2, h3, rfl⟩ | ⟨rfl | rfl, h1, h2, rfl, rfl⟩ | ⟨rfl, h1, rfl⟩ | ⟨rfl, rfl, h1, rfl⟩ | ⟨rfl, rfl, rfl, rfl⟩ | ⟨h0, h1, h2, h3, rfl⟩
  all_goals
    go_enter Tryz.func121, Tryz.ntmps121
    go_wp2
    go_ret
    refine ⟨by first | rfl | (refine ret_bool ?_; simp; done) | (refine ret_bool ?_; simp; omega), ?_⟩
    repeat (first | exact B0 _ | (with_reducible refine Bdrew ?_) | (with_reducible refine Bdraw ?_ _) | (with_reducible refine Bnew ?_ _) | (refine Bput ?_ (Nat.le_refl _) _))
set_option maxHeartbeats 1600000 in
theorem r9Right_c (k l c : Int) (w : World) :
    Calls Tryz.prog 106 #[.agg #[.int .i64 k, .int .i64 l, .int .i64 c]] w fun e w' => e = .returned (.bool (infoB k l c)) ∧ Below w.heap.size w w' := by
  have hC : ∃ b, infoB k l c = b := ⟨_, rfl⟩
  obtain ⟨b, hb⟩ := hC
  rw [hb]
  have hcase : (k = 3 ∧ l ≠ 1 ∧ b = false) ∨ (k = 3 ∧ l = 1 ∧ c < 0 ∧ b = false) ∨ (k = 3 ∧ l = 1 ∧ 0 ≤ c ∧ 8 < c ∧ b = false) ∨ (k = 3 ∧ l = 1 ∧ 0 ≤ c ∧ c ≤ 8 ∧ b = true) ∨
      ((k = 1 ∨ k = 2) ∧ l < 1 ∧ b = false) ∨ ((k = 1 ∨ k = 2) ∧ 1 ≤ l ∧ 1024 < l ∧ b = false) ∨ ((k = 1 ∨ k = 2) ∧ 1 ≤ l ∧ l ≤ 1024 ∧ c ≠ 0 ∧ b = false) ∨ ((k = 1 ∨ k = 2) ∧ 1 ≤ l ∧ l ≤ 1024 ∧ c = 0 ∧ b = true) ∨
      (k = 0 ∧ l ≠ 0 ∧ b = false) ∨ (k = 0 ∧ l = 0 ∧ c ≠ 0 ∧ b = false) ∨ (k = 0 ∧ l = 0 ∧ c = 0 ∧ b = true) ∨ (k ≠ 0 ∧ k ≠ 1 ∧ k ≠ 2 ∧ k ≠ 3 ∧ b = false) := by
    cases b
    · have h : ¬ infoP k l c := of_decide_eq_false hb
      unfold infoP at h
      simp only [and_true, reduceCtorEq, and_false, or_false, false_or]
      omega
    · have h : infoP k l c := infoB_iff hb
      unfold infoP at h
      simp only [and_true, reduceCtorEq, and_false, or_false, false_or]
      omega
  clear hb
  rcases hcase with ⟨rfl, h1, rfl⟩ | ⟨rfl, rfl, h1, rfl⟩ | ⟨rfl, rfl, h1, h2, rfl⟩ | ⟨rfl, rfl, h1, h2, rfl⟩ | ⟨rfl | rfl, h1, rfl⟩ | ⟨rfl | rfl, h1, h2, rfl⟩ | ⟨rfl | rfl, h1, h2, h3, rfl⟩ | ⟨rfl | rfl, h1, h2, rfl, rfl⟩ | ⟨rfl, h1, rfl⟩ | ⟨rfl, rfl, h1, rfl⟩ | ⟨rfl, rfl, rfl, rfl⟩ | ⟨h0, h1, h2, h3, rfl⟩
  all_goals
    go_enter Tryz.func106, Tryz.ntmps106
    go_wp2
    go_ret
    refine ⟨by first | rfl | (refine ret_bool ?_; simp; done) | (refine ret_bool ?_; simp; omega), ?_⟩
    repeat (first | exact B0 _ | (with_reducible refine Bdrew ?_) | (with_reducible refine Bdraw ?_ _) | (with_reducible refine Bnew ?_ _) | (refine Bput ?_ (Nat.le_refl _) _))
end
section
theorem putN_new (x a k v : Nat) (ha : a + k ≤ 64) (hx : x < 2 ^ a) (hv : v < 2 ^ k) : HM.putN x a k v = x + v * 2 ^ a := by
  have hx64 : x < 2 ^ 64 := Nat.lt_of_lt_of_le hx (Nat.pow_le_pow_right (by omega) (by omega))
  have h1 : x + v * 2 ^ a = 2 ^ a * v + x := by rw [Nat.mul_comm, Nat.add_comm]
  have hlt : 2 ^ a * v + x < 2 ^ 64 := by
    have e : (2 : Nat) ^ 64 = 2 ^ a * 2 ^ (64 - a) := by rw [← Nat.pow_add]; congr 1; omega
    have e2 : (2 : Nat) ^ k ≤ 2 ^ (64 - a) := Nat.pow_le_pow_right (by omega) (by omega)
    have e3 : 2 ^ a * (v + 1) ≤ 2 ^ a * 2 ^ (64 - a) := Nat.mul_le_mul_left _ (by omega)
    rw [Nat.mul_succ] at e3
    rw [e]
    omega
  rw [h1]
  apply Nat.eq_of_testBit_eq
  intro i
  by_cases hi : i < 64
  · rw [HM.bit_putN x a k v i ha hv hi, Nat.testBit_two_pow_mul_add _ hx]
    by_cases h2 : i < a
    · rw [if_neg (by omega), if_pos h2]
    · rw [if_neg h2]
      by_cases h3 : i < a + k
      · rw [if_pos ⟨by omega, h3⟩]
      · rw [if_neg (by omega), Nat.testBit_lt_two_pow (Nat.lt_of_lt_of_le hx (Nat.pow_le_pow_right (by omega) (by omega))), Nat.testBit_lt_two_pow (Nat.lt_of_lt_of_le hv (Nat.pow_le_pow_right (by omega) (by omega)))]
  · rw [HM.bit_high (HM.putN_lt x a k v ha hv) (by omega), HM.bit_high hlt (by omega)]
theorem putNew_c (x a k v : Nat) (hk : 1 ≤ k) (ha : a + k ≤ 64) (hx : x < 2 ^ a) (hv : v < 2 ^ k) (y : Nat) (hy : x + v * 2 ^ a = y) (w : World) :
    Calls Tryz.prog 122 #[.int .u64 (x : Int), .int .i64 (a : Int), .int .i64 (k : Int), .int .u64 (v : Int)] w fun e w' => e = .returned (.tuple #[.int .u64 (y : Int), .bool true]) ∧ ∃ n, w' = w.drewN n := by
  have hx64 : x < 2 ^ 64 := Nat.lt_of_lt_of_le hx (Nat.pow_le_pow_right (by omega) (by omega))
  have hv64 : v < 2 ^ 64 := Nat.lt_of_lt_of_le hv (Nat.pow_le_pow_right (by omega) (by omega))
  refine (Put_c x v a k hx64 hv64 (by omega) (by omega) (by omega) (by omega) w).mono ?_
  rintro e w' ⟨rfl, hw⟩
  have hok : putOk a k v = true := by
    unfold putOk
    rw [fieldB_yes (by omega) (by omega) (by omega)]
    simpa using hv
  have e1 : putI x a k v = y := by
    unfold putI
    rw [if_pos hok]
    exact (putN_new x a k v ha hx hv).trans hy
  rw [hok, e1]
  exact ⟨rfl, hw⟩
theorem ret_half {k : IntKind} {a b : Int} {c : Bool} (h : a = b) : Ending.returned (.tuple #[.int k a, .bool c]) = .returned (.tuple #[.int k b, .bool c]) := by rw [h]

theorem inPut_c (k l c : Int) (w : World) :
    Calls Tryz.prog 80 #[.agg #[.int .i64 k, .int .i64 l, .int .i64 c]] w fun e w' => e = .returned (.tuple #[.int .u32 ((infoV k l c : Nat) : Int), .bool (infoB k l c)]) ∧ Below w.heap.size w w' := by
  cases hr : infoB k l c
  · have HP := hidp (infoV_no hr)
    have HR := hidp hr
    clear hr
    go_enter Tryz.func80, Tryz.ntmps80
    go_wp2_with fail
    refine (inIsRight_c k l c _).mono ?_
    rintro e w1 ⟨rfl, hb1⟩
    rw [HR.out]
    go_wp2
    go_ret2
    exact ⟨by rw [HP.out]; rfl, Bgo (Bnew (B0 _) _) hb1⟩
  · have HP := hidp (infoV_yes hr)
    have HR := hidp hr
    have hi := infoB_iff hr
    clear hr
    have hb : 0 ≤ k ∧ k ≤ 3 ∧ 0 ≤ l ∧ l ≤ 1024 ∧ 0 ≤ c ∧ c ≤ 8 := by unfold infoP at hi; omega
    obtain ⟨k0, k3, l0, l1, c0, c8⟩ := hb
    clear hi
    obtain ⟨k, rfl⟩ : ∃ n : Nat, k = n := ⟨k.toNat, by omega⟩
    obtain ⟨l, rfl⟩ : ∃ n : Nat, l = n := ⟨l.toNat, by omega⟩
    obtain ⟨c, rfl⟩ : ∃ n : Nat, c = n := ⟨c.toNat, by omega⟩
    go_enter Tryz.func80, Tryz.ntmps80
    go_wp2_with fail
    have hc := Held.new w 60 #[.int .i64 (k : Int), .int .i64 (l : Int), .int .i64 (c : Int)]
    refine (inIsRight_c k l c _).mono ?_
    rintro e w1 ⟨rfl, hb1⟩
    rw [HR.out]
    obtain ⟨c0, c1, c2⟩ := (hc.keep hb1).three
    go_wp2_with fail
    refine (putNew_c 0 0 4 k (by omega) (by omega) (by omega) (by omega) k (by omega) _).mono ?_
    rintro e w2 ⟨rfl, n2, rfl⟩
    go_wp2_with fail
    refine (putNew_c k 4 12 l (by omega) (by omega) (by omega) (by omega) (k + l * 16) (by omega) _).mono ?_
    rintro e w2 ⟨rfl, n3, rfl⟩
    go_wp2_with fail
    refine (putNew_c (k + l * 16) 16 4 c (by omega) (by omega) (by omega) (by omega) (k + l * 16 + c * 65536) (by omega) _).mono ?_
    rintro e w2 ⟨rfl, n4, rfl⟩
    go_wp2_with fail
    refine (Lo_c (k + l * 16 + c * 65536) (by omega) _).mono ?_
    rintro e w2 ⟨rfl, rfl⟩
    go_wp2
    go_ret2
    refine ⟨ret_half (by rw [HP.out]; omega), ?_⟩
    repeat (first | exact B0 _ | (with_reducible refine Bdrew ?_) | (with_reducible refine Bdraw ?_ _) | (with_reducible refine Bgo ?_ hb1) | (with_reducible refine Bnew ?_ _))
theorem r9Put_c (k l c : Int) (w : World) :
    Calls Tryz.prog 95 #[.agg #[.int .i64 k, .int .i64 l, .int .i64 c]] w fun e w' => e = .returned (.tuple #[.int .u32 ((infoV k l c : Nat) : Int), .bool (infoB k l c)]) ∧ Below w.heap.size w w' := by
  cases hr : infoB k l c
  · have HP := hidp (infoV_no hr)
    have HR := hidp hr
    clear hr
    go_enter Tryz.func95, Tryz.ntmps95
    go_wp2_with fail
    refine (r9Right_c k l c _).mono ?_
    rintro e w1 ⟨rfl, hb1⟩
    rw [HR.out]
    go_wp2
    go_ret2
    exact ⟨by rw [HP.out]; rfl, Bgo (Bnew (B0 _) _) hb1⟩
  · have HP := hidp (infoV_yes hr)
    have HR := hidp hr
    have hi := infoB_iff hr
    clear hr
    have hb : 0 ≤ k ∧ k ≤ 3 ∧ 0 ≤ l ∧ l ≤ 1024 ∧ 0 ≤ c ∧ c ≤ 8 := by unfold infoP at hi; omega
    obtain ⟨k0, k3, l0, l1, c0, c8⟩ := hb
    clear hi
    go_enter Tryz.func95, Tryz.ntmps95
    go_wp2_with fail
    have hc := Held.new w 60 #[.int .i64 k, .int .i64 l, .int .i64 c]
    refine (r9Right_c k l c _).mono ?_
    rintro e w1 ⟨rfl, hb1⟩
    rw [HR.out]
    obtain ⟨d0, d1, d2⟩ := (hc.keep hb1).three
    go_wp2
    go_ret2
    refine ⟨ret_half (by rw [HP.out]; first | omega | (simp; omega)), ?_⟩
    repeat (first | exact B0 _ | (with_reducible refine Bdrew ?_) | (with_reducible refine Bdraw ?_ _) | (with_reducible refine Bgo ?_ hb1) | (with_reducible refine Bnew ?_ _))
end
section
theorem inGet1_c (x a k : Nat) (v : Nat) (g : Nat) (w : World) (hx : x < 2 ^ 32) (hk : 1 ≤ k) (ha : a + k ≤ 64) (hv : x / 2 ^ a % 2 ^ k = v) (hc : Held w g 125 #[.int .u64 (x : Int)]) :
    Calls Tryz.prog 100 #[.int .i64 (a : Int), .int .i64 (k : Int), .pointer (some ⟨g, 0, none⟩)] w fun e w' => e = .returned (.int .i64 (v : Int)) ∧ ∃ n, w' = w.drewN n := by
  have c0 : w.cell? ⟨g, 0, none⟩ = some (.int .u64 (x : Int)) := hc.cell 0
  have hb : v < 4294967296 := by
    have h1 : x / 2 ^ a % 2 ^ k ≤ x / 2 ^ a := Nat.mod_le _ _
    have h2 : x / 2 ^ a ≤ x := Nat.div_le_self _ _
    omega
  have HG : Hid (getI x a k = v) := by
    refine hidp ?_
    unfold getI HM.getN
    rw [if_pos (fieldB_yes (by omega) (by omega) (by omega))]
    simpa using hv
  clear hv
  go_enter Tryz.func100, Tryz.ntmps100
  go_wp2_with fail
  refine (Get_c x a k (by omega) (by omega) (by omega) (by omega) (by omega) _).mono ?_
  rintro e w1 ⟨rfl, n1, rfl⟩
  rw [HG.out]
  go_wp2
  go_ret
  exact ⟨rfl, n1, rfl⟩

theorem inGet_yes (v k l c : Nat) (hv : v < 2 ^ 32) (h1 : v % 16 = k) (h2 : v / 16 % 4096 = l) (h3 : v / 65536 % 16 = c) (hr : infoB k l c = true) (hw : infoV k l c = v) (w : World) :
    Calls Tryz.prog 56 #[.int .u32 (v : Int)] w fun e w' => e = .returned (.tuple #[.agg #[.int .i64 (k : Int), .int .i64 (l : Int), .int .i64 (c : Int)], .bool true]) ∧ Below w.heap.size w w' := by
  have HR := hidp hr
  have HW := hidp hw; clear hw
  have H1 := hidp (show v / 2 ^ 0 % 2 ^ 4 = k by omega)
  have H2 := hidp (show v / 2 ^ 4 % 2 ^ 12 = l by omega)
  have H3 := hidp (show v / 2 ^ 16 % 2 ^ 4 = c by omega)
  clear hr h1 h2 h3
  go_enter Tryz.func56, Tryz.ntmps56
  go_wp2_with fail
  refine (Join_c 0 v (by omega) hv _).mono ?_
  rintro e w1 ⟨rfl, rfl⟩
  rw [show 0 * 4294967296 + v = v from by omega]
  have hc := Held.new2 w (.cells #[.int .i64 0, .int .i64 0, .int .i64 0] 60) 125 #[.int .u64 (v : Int)]
  have hr0 := (Held.new w 60 #[.int .i64 0, .int .i64 0, .int .i64 0]).alloc (.cells #[.int .u64 (v : Int)] 125)
  go_wp2_with fail
  refine (inGet1_c v 0 4 k _ _ hv (by omega) (by omega) H1.out hc).mono ?_
  rintro e w1 ⟨rfl, n1, rfl⟩
  go_wp2_with fail
  refine (inGet1_c v 4 12 l _ _ hv (by omega) (by omega) H2.out (hc.drewN n1)).mono ?_
  rintro e w1 ⟨rfl, n2, rfl⟩
  go_wp2_with fail
  refine (inGet1_c v 16 4 c _ _ hv (by omega) (by omega) H3.out (hc.drewN (n1 + n2))).mono ?_
  rintro e w1 ⟨rfl, n3, rfl⟩
  go_wp2_with fail
  refine (inPut_c k l c _).mono ?_
  rintro e w6 ⟨rfl, hb⟩
  rw [HR.out, HW.out]
  obtain ⟨hcl, hfr⟩ := bcell hb
  have hz := hb.size
  simp only [World.size_alloc, World.heap_drewN] at hz
  have z := ((hr0.drewN (n1 + n2 + n3)).alloc (.cells #[.int .i64 (k : Int), .int .i64 (l : Int), .int .i64 (c : Int)] 60)).keep hb
  obtain ⟨q0, q1, q2⟩ := (((z.put 0 (.int .i64 (k : Int))).put 1 (.int .i64 (l : Int))).put 2 (.int .i64 (c : Int))).three
  go_wp2
  refine bodyPost_ret (v := .tuple #[.agg #[.int .i64 (k : Int), .int .i64 (l : Int), .int .i64 (c : Int)], .bool true]) (by simp [results, Tryz.results56, go_sem, hcl, q0, q1, q2]) rfl ⟨rfl, ?_⟩
  (repeat (first | exact B0 _ | (with_reducible refine Below.setCell ?_ (by first | (simp; done) | (simp; omega)) _) | (with_reducible refine Bgo ?_ hb) | (with_reducible refine below_draws ?_ _) | (with_reducible refine Below.alloc ?_ (by first | (simp; done) | (simp; omega)) _)))

theorem inGet_no1 (v k l c m : Nat) (hv : v < 2 ^ 32) (h1 : v % 16 = k) (h2 : v / 16 % 4096 = l) (h3 : v / 65536 % 16 = c) (hr : infoB k l c = false) (hw : infoV k l c = m) (w : World) :
    Calls Tryz.prog 56 #[.int .u32 (v : Int)] w fun e w' => e = .returned (.tuple #[.agg #[.int .i64 0, .int .i64 0, .int .i64 0], .bool false]) ∧ Below w.heap.size w w' := by
  have HR := hidp hr
  have HW := hidp hw; clear hw
  have H1 := hidp (show v / 2 ^ 0 % 2 ^ 4 = k by omega)
  have H2 := hidp (show v / 2 ^ 4 % 2 ^ 12 = l by omega)
  have H3 := hidp (show v / 2 ^ 16 % 2 ^ 4 = c by omega)
  clear hr h1 h2 h3
  go_enter Tryz.func56, Tryz.ntmps56
  go_wp2_with fail
  refine (Join_c 0 v (by omega) hv _).mono ?_
  rintro e w1 ⟨rfl, rfl⟩
  rw [show 0 * 4294967296 + v = v from by omega]
  have hc := Held.new2 w (.cells #[.int .i64 0, .int .i64 0, .int .i64 0] 60) 125 #[.int .u64 (v : Int)]
  have hr0 := (Held.new w 60 #[.int .i64 0, .int .i64 0, .int .i64 0]).alloc (.cells #[.int .u64 (v : Int)] 125)
  go_wp2_with fail
  refine (inGet1_c v 0 4 k _ _ hv (by omega) (by omega) H1.out hc).mono ?_
  rintro e w1 ⟨rfl, n1, rfl⟩
  go_wp2_with fail
  refine (inGet1_c v 4 12 l _ _ hv (by omega) (by omega) H2.out (hc.drewN n1)).mono ?_
  rintro e w1 ⟨rfl, n2, rfl⟩
  go_wp2_with fail
  refine (inGet1_c v 16 4 c _ _ hv (by omega) (by omega) H3.out (hc.drewN (n1 + n2))).mono ?_
  rintro e w1 ⟨rfl, n3, rfl⟩
  go_wp2_with fail
  refine (inPut_c k l c _).mono ?_
  rintro e w6 ⟨rfl, hb⟩
  rw [HR.out, HW.out]
  obtain ⟨hcl, hfr⟩ := bcell hb
  have hz := hb.size
  simp only [World.size_alloc, World.heap_drewN] at hz
  have z := ((hr0.drewN (n1 + n2 + n3)).alloc (.cells #[.int .i64 (k : Int), .int .i64 (l : Int), .int .i64 (c : Int)] 60)).keep hb
  obtain ⟨q0, q1, q2⟩ := (((z.put 0 (.int .i64 0)).put 1 (.int .i64 0)).put 2 (.int .i64 0)).three
  go_wp2
  refine bodyPost_ret (v := .tuple #[.agg #[.int .i64 0, .int .i64 0, .int .i64 0], .bool false]) (by simp [results, Tryz.results56, go_sem, hcl, q0, q1, q2]) rfl ⟨rfl, ?_⟩
  (repeat (first | exact B0 _ | (with_reducible refine Below.setCell ?_ (by first | (simp; done) | (simp; omega)) _) | (with_reducible refine Bgo ?_ hb) | (with_reducible refine below_draws ?_ _) | (with_reducible refine Below.alloc ?_ (by first | (simp; done) | (simp; omega)) _)))

theorem inGet_no2 (v k l c m : Nat) (hv : v < 2 ^ 32) (h1 : v % 16 = k) (h2 : v / 16 % 4096 = l) (h3 : v / 65536 % 16 = c) (hr : infoB k l c = true) (hw : infoV k l c = m) (hn : m ≠ v) (w : World) :
    Calls Tryz.prog 56 #[.int .u32 (v : Int)] w fun e w' => e = .returned (.tuple #[.agg #[.int .i64 0, .int .i64 0, .int .i64 0], .bool false]) ∧ Below w.heap.size w w' := by
  have HR := hidp hr
  have HW := hidp hw; clear hw
  have H1 := hidp (show v / 2 ^ 0 % 2 ^ 4 = k by omega)
  have H2 := hidp (show v / 2 ^ 4 % 2 ^ 12 = l by omega)
  have H3 := hidp (show v / 2 ^ 16 % 2 ^ 4 = c by omega)
  clear hr h1 h2 h3
  go_enter Tryz.func56, Tryz.ntmps56
  go_wp2_with fail
  refine (Join_c 0 v (by omega) hv _).mono ?_
  rintro e w1 ⟨rfl, rfl⟩
  rw [show 0 * 4294967296 + v = v from by omega]
  have hc := Held.new2 w (.cells #[.int .i64 0, .int .i64 0, .int .i64 0] 60) 125 #[.int .u64 (v : Int)]
  have hr0 := (Held.new w 60 #[.int .i64 0, .int .i64 0, .int .i64 0]).alloc (.cells #[.int .u64 (v : Int)] 125)
  go_wp2_with fail
  refine (inGet1_c v 0 4 k _ _ hv (by omega) (by omega) H1.out hc).mono ?_
  rintro e w1 ⟨rfl, n1, rfl⟩
  go_wp2_with fail
  refine (inGet1_c v 4 12 l _ _ hv (by omega) (by omega) H2.out (hc.drewN n1)).mono ?_
  rintro e w1 ⟨rfl, n2, rfl⟩
  go_wp2_with fail
  refine (inGet1_c v 16 4 c _ _ hv (by omega) (by omega) H3.out (hc.drewN (n1 + n2))).mono ?_
  rintro e w1 ⟨rfl, n3, rfl⟩
  go_wp2_with fail
  refine (inPut_c k l c _).mono ?_
  rintro e w6 ⟨rfl, hb⟩
  rw [HR.out, HW.out]
  obtain ⟨hcl, hfr⟩ := bcell hb
  have hz := hb.size
  simp only [World.size_alloc, World.heap_drewN] at hz
  have z := ((hr0.drewN (n1 + n2 + n3)).alloc (.cells #[.int .i64 (k : Int), .int .i64 (l : Int), .int .i64 (c : Int)] 60)).keep hb
  obtain ⟨q0, q1, q2⟩ := (((z.put 0 (.int .i64 0)).put 1 (.int .i64 0)).put 2 (.int .i64 0)).three
  have t0 : ((m : Int) != v) = true := by simp; omega
  have t1 : ((m : Int) == v) = false := by simp; omega
  have t2 : (m == v) = false := by simp; omega
  clear hn
  go_wp2
  refine bodyPost_ret (v := .tuple #[.agg #[.int .i64 0, .int .i64 0, .int .i64 0], .bool false]) (by simp [results, Tryz.results56, go_sem, hcl, q0, q1, q2]) rfl ⟨rfl, ?_⟩
  (repeat (first | exact B0 _ | (with_reducible refine Below.setCell ?_ (by first | (simp; done) | (simp; omega)) _) | (with_reducible refine Bgo ?_ hb) | (with_reducible refine below_draws ?_ _) | (with_reducible refine Below.alloc ?_ (by first | (simp; done) | (simp; omega)) _)))


def infoG (v : Nat) : Int × Int × Int × Bool :=
  if infoB (v % 16 : Nat) (v / 16 % 4096 : Nat) (v / 65536 : Nat) then ((v % 16 : Nat), (v / 16 % 4096 : Nat), (v / 65536 : Nat), true) else (0, 0, 0, false)
theorem infoG_yes {v : Nat} (h : infoB (v % 16 : Nat) (v / 16 % 4096 : Nat) (v / 65536 : Nat) = true) : infoG v = (((v % 16 : Nat) : Int), ((v / 16 % 4096 : Nat) : Int), ((v / 65536 : Nat) : Int), true) := by unfold infoG; rw [if_pos h]
theorem infoG_no {v : Nat} (h : infoB (v % 16 : Nat) (v / 16 % 4096 : Nat) (v / 65536 : Nat) = false) : infoG v = (0, 0, 0, false) := by unfold infoG; rw [h]; rfl
theorem infoG_split (v : Nat) : (infoB (v % 16 : Nat) (v / 16 % 4096 : Nat) (v / 65536 % 16 : Nat) = true ∧ infoV (v % 16 : Nat) (v / 16 % 4096 : Nat) (v / 65536 % 16 : Nat) = v) ↔ infoB (v % 16 : Nat) (v / 16 % 4096 : Nat) (v / 65536 : Nat) = true := by
  constructor
  · rintro ⟨h1, h2⟩
    rw [infoV_yes h1] at h2
    simp only [Int.toNat_natCast] at h2
    have e : v / 65536 % 16 = v / 65536 := by omega
    rw [e] at h1
    exact h1
  · intro h
    have h' := infoB_iff h
    unfold infoP at h'
    have e : v / 65536 % 16 = v / 65536 := by omega
    rw [e]
    refine ⟨h, ?_⟩
    rw [infoV_yes h]
    simp only [Int.toNat_natCast]
    omega
theorem infoG_back {v : Nat} {k l c : Int} (h : infoG v = (k, l, c, true)) : infoB k l c = true ∧ infoV k l c = v := by
  cases hr : infoB (v % 16 : Nat) (v / 16 % 4096 : Nat) (v / 65536 : Nat)
  · rw [infoG_no hr] at h; simp at h
  · rw [infoG_yes hr] at h
    simp only [Prod.mk.injEq, and_true] at h
    obtain ⟨rfl, rfl, rfl⟩ := h
    have h2 := (infoG_split v).2 hr
    have h3 := infoB_iff hr
    unfold infoP at h3
    have e : v / 65536 % 16 = v / 65536 := by omega
    rw [e] at h2
    exact h2
theorem infoG_none {v : Nat} {k l c : Int} (h : infoG v = (k, l, c, false)) : k = 0 ∧ l = 0 ∧ c = 0 := by
  cases hr : infoB (v % 16 : Nat) (v / 16 % 4096 : Nat) (v / 65536 : Nat)
  · rw [infoG_no hr] at h
    simp only [Prod.mk.injEq, and_true] at h
    omega
  · rw [infoG_yes hr] at h; simp at h
theorem infoV_lt (k l c : Int) : infoV k l c < 2 ^ 32 := by
  cases hr : infoB k l c
  · rw [infoV_no hr]; omega
  · have hi := infoB_iff hr
    unfold infoP at hi
    rw [infoV_yes hr]
    omega
theorem inGet_c (v : Nat) (k l c : Int) (b : Bool) (hv : v < 2 ^ 32) (h : infoG v = (k, l, c, b)) (w : World) :
    Calls Tryz.prog 56 #[.int .u32 (v : Int)] w fun e w' => e = .returned (.tuple #[.agg #[.int .i64 k, .int .i64 l, .int .i64 c], .bool b]) ∧ Below w.heap.size w w' := by
  have hs := infoG_split v
  cases hr : infoB (v % 16 : Nat) (v / 16 % 4096 : Nat) (v / 65536 : Nat)
  · rw [infoG_no hr] at h
    simp only [Prod.mk.injEq] at h
    obtain ⟨rfl, rfl, rfl, rfl⟩ := h
    rw [hr] at hs
    cases h5 : infoB (v % 16 : Nat) (v / 16 % 4096 : Nat) (v / 65536 % 16 : Nat)
    · exact inGet_no1 v _ _ _ _ hv rfl rfl rfl h5 rfl w
    · refine inGet_no2 v _ _ _ _ hv rfl rfl rfl h5 rfl (fun h6 => ?_) w
      have := hs.1 ⟨h5, h6⟩
      cases this
  · rw [infoG_yes hr] at h
    simp only [Prod.mk.injEq] at h
    obtain ⟨rfl, rfl, rfl, rfl⟩ := h
    obtain ⟨h5, h6⟩ := hs.2 hr
    have hi := infoB_iff hr
    unfold infoP at hi
    have e : v / 65536 % 16 = v / 65536 := by omega
    have := inGet_yes v _ _ _ hv rfl rfl rfl h5 h6 w
    rw [e] at this
    exact this

theorem r9Get_yes (v k l c : Nat) (hv : v < 2 ^ 32) (h1 : v % 16 = k) (h2 : v / 16 % 4096 = l) (h3 : v / 65536 = c) (hr : infoB k l c = true) (w : World) :
    Calls Tryz.prog 64 #[.int .u32 (v : Int)] w fun e w' => e = .returned (.tuple #[.agg #[.int .i64 (k : Int), .int .i64 (l : Int), .int .i64 (c : Int)], .bool true]) ∧ Below w.heap.size w w' := by
  have HR := hidp hr
  clear hr
  have e1 : ((v : Int).tmod 16) = (k : Int) := by rw [Int.tmod_eq_emod_of_nonneg (by omega)]; omega
  have e2 : (((v : Int) / 16).tmod 4096) = (l : Int) := by rw [Int.tmod_eq_emod_of_nonneg (by omega)]; omega
  have e3 : ((v : Int) / 65536) = (c : Int) := by omega
  go_enter Tryz.func64, Tryz.ntmps64
  go_wp2_with fail
  refine (r9Right_c k l c _).mono ?_
  rintro e w6 ⟨rfl, hb⟩
  rw [HR.out]
  obtain ⟨hcl, hfr⟩ := bcell hb
  have hz := hb.size
  simp only [World.size_alloc, World.heap_drewN] at hz
  have z := ((Held.new w 60 #[.int .i64 0, .int .i64 0, .int .i64 0]).alloc (.cells #[.int .i64 (k : Int), .int .i64 (l : Int), .int .i64 (c : Int)] 60)).keep hb
  obtain ⟨q0, q1, q2⟩ := (((z.put 0 (.int .i64 (k : Int))).put 1 (.int .i64 (l : Int))).put 2 (.int .i64 (c : Int))).three
  go_wp2
  refine bodyPost_ret (v := .tuple #[.agg #[.int .i64 (k : Int), .int .i64 (l : Int), .int .i64 (c : Int)], .bool true]) (by simp [results, Tryz.results64, go_sem, hcl, q0, q1, q2]) rfl ⟨rfl, ?_⟩
  (repeat (first | exact B0 _ | (with_reducible refine Below.setCell ?_ (by first | (simp; done) | (simp; omega)) _) | (with_reducible refine Bgo ?_ hb) | (with_reducible refine below_draws ?_ _) | (with_reducible refine Below.alloc ?_ (by first | (simp; done) | (simp; omega)) _)))

theorem r9Get_no (v k l c : Nat) (hv : v < 2 ^ 32) (h1 : v % 16 = k) (h2 : v / 16 % 4096 = l) (h3 : v / 65536 = c) (hr : infoB k l c = false) (w : World) :
    Calls Tryz.prog 64 #[.int .u32 (v : Int)] w fun e w' => e = .returned (.tuple #[.agg #[.int .i64 0, .int .i64 0, .int .i64 0], .bool false]) ∧ Below w.heap.size w w' := by
  have HR := hidp hr
  clear hr
  have e1 : ((v : Int).tmod 16) = (k : Int) := by rw [Int.tmod_eq_emod_of_nonneg (by omega)]; omega
  have e2 : (((v : Int) / 16).tmod 4096) = (l : Int) := by rw [Int.tmod_eq_emod_of_nonneg (by omega)]; omega
  have e3 : ((v : Int) / 65536) = (c : Int) := by omega
  go_enter Tryz.func64, Tryz.ntmps64
  go_wp2_with fail
  refine (r9Right_c k l c _).mono ?_
  rintro e w6 ⟨rfl, hb⟩
  rw [HR.out]
  obtain ⟨hcl, hfr⟩ := bcell hb
  have hz := hb.size
  simp only [World.size_alloc, World.heap_drewN] at hz
  have z := ((Held.new w 60 #[.int .i64 0, .int .i64 0, .int .i64 0]).alloc (.cells #[.int .i64 (k : Int), .int .i64 (l : Int), .int .i64 (c : Int)] 60)).keep hb
  obtain ⟨q0, q1, q2⟩ := (((z.put 0 (.int .i64 0)).put 1 (.int .i64 0)).put 2 (.int .i64 0)).three
  go_wp2
  refine bodyPost_ret (v := .tuple #[.agg #[.int .i64 0, .int .i64 0, .int .i64 0], .bool false]) (by simp [results, Tryz.results64, go_sem, hcl, q0, q1, q2]) rfl ⟨rfl, ?_⟩
  (repeat (first | exact B0 _ | (with_reducible refine Below.setCell ?_ (by first | (simp; done) | (simp; omega)) _) | (with_reducible refine Bgo ?_ hb) | (with_reducible refine below_draws ?_ _) | (with_reducible refine Below.alloc ?_ (by first | (simp; done) | (simp; omega)) _)))

theorem r9Get_c (v : Nat) (k l c : Int) (b : Bool) (hv : v < 2 ^ 32) (h : infoG v = (k, l, c, b)) (w : World) :
    Calls Tryz.prog 64 #[.int .u32 (v : Int)] w fun e w' => e = .returned (.tuple #[.agg #[.int .i64 k, .int .i64 l, .int .i64 c], .bool b]) ∧ Below w.heap.size w w' := by
  cases hr : infoB (v % 16 : Nat) (v / 16 % 4096 : Nat) (v / 65536 : Nat)
  · rw [infoG_no hr] at h
    simp only [Prod.mk.injEq] at h
    obtain ⟨rfl, rfl, rfl, rfl⟩ := h
    exact r9Get_no v _ _ _ hv rfl rfl rfl hr w
  · rw [infoG_yes hr] at h
    simp only [Prod.mk.injEq] at h
    obtain ⟨rfl, rfl, rfl, rfl⟩ := h
    exact r9Get_yes v _ _ _ hv rfl rfl rfl hr w
end
end Go.Proofs.YtioolaaphbddbaaGreatDoor

namespace Go.Proofs.YtioolaaphbddbaaGreatDoor
open Go.ChangeShapes Go.WideShapes Go.ChangeAt Go.RowKit Go.Maps
set_option linter.unusedVariables false
set_option linter.unusedSimpArgs false
section
def ofI (n : Int) : Int := if n < 1 ∨ 1024 < n then -1 else HM.logI n
theorem ofI_nat {n : Nat} (h1 : 1 ≤ n) (h2 : n ≤ 1024) : ∃ k : Nat, ofI (n : Int) = k ∧ k ≤ 10 ∧ 2 ^ k ≤ n ∧ n < 2 ^ (k + 1) := by
  have h : ∃ k : Nat, k ≤ 10 ∧ 2 ^ k ≤ n ∧ n < 2 ^ (k + 1) := by
    rcases Nat.lt_or_ge n 1024 with h3 | h3
    · refine ⟨Nat.log2 n, ?_, Nat.log2_self_le (by omega), Nat.lt_log2_self⟩
      have := Nat.log2_lt (n := n) (k := 10) (by omega)
      have := this.2 h3
      omega
    · exact ⟨10, by omega, by omega, by omega⟩
  obtain ⟨k, hk, ha, hb⟩ := h
  refine ⟨k, ?_, hk, ha, hb⟩
  unfold ofI
  rw [if_neg (by omega)]
  exact HM.logI_at (n : Int) k (by
    have e : ((n : Int) / 2 ^ k) = ((n / 2 ^ k : Nat) : Int) := by push_cast; rfl
    rw [e]
    have := Nat.div_le_div_right (c := 2 ^ k) ha
    rw [Nat.div_self (Nat.two_pow_pos k)] at this
    omega) (by
    have e : ((n : Int) / 2 ^ (k + 1)) = ((n / 2 ^ (k + 1) : Nat) : Int) := by push_cast; rfl
    rw [e, Nat.div_eq_of_lt hb]
    omega)

def fitB (nn : Int) (v : Nat) : Bool := decide ((infoG v).1 = 1) && decide (nn ≤ (infoG v).2.1)
section
variable (n : Nat) (K : Nat → Option Nat) (t q s nn : Int)
def lookF : Nat → Nat → Vst → Option Nat × Vst
  | 0, _, st => (none, st)
  | m + 1, l, st => if 1 ≤ l ∧ (l : Int) ≤ q then
      (if fitB nn (getV n K st (pageI t q s ((l : Int) - 1) 0)) = true then (some (l - 1), getS n K st (pageI t q s ((l : Int) - 1) 0))
       else lookF m (getV n K (getS n K st (pageI t q s ((l : Int) - 1) 0)) (pageI t q s ((l : Int) - 1) 2)) (getS n K (getS n K st (pageI t q s ((l : Int) - 1) 0)) (pageI t q s ((l : Int) - 1) 2)))
    else (none, st)
def nextF : Nat → Nat → Vst → Option Nat × Vst
  | 0, _, st => (none, st)
  | j + 1, k, st => if 1 ≤ getV n K st ((2 + k : Nat) : Int) ∧ ((getV n K st ((2 + k : Nat) : Int) : Nat) : Int) ≤ q then (some (getV n K st ((2 + k : Nat) : Int) - 1), getS n K st ((2 + k : Nat) : Int))
    else nextF j (k + 1) (getS n K st ((2 + k : Nat) : Int))
def findF (k : Nat) (st : Vst) : Option Nat × Vst :=
  let r := lookF n K t q s nn q.toNat (getV n K st ((2 + k : Nat) : Int)) (getS n K st ((2 + k : Nat) : Int))
  match r.1 with
  | some p => (some p, r.2)
  | none => nextF n K q (11 - (k + 1)) (k + 1) r.2
theorem lookF_end {m l : Nat} {st : Vst} (h : ¬ (1 ≤ l ∧ (l : Int) ≤ q)) : lookF n K t q s nn m l st = (none, st) := by
  cases m with
  | zero => rfl
  | succ m => rw [lookF, if_neg h]
theorem lookF_found {m l : Nat} {st : Vst} (h : 1 ≤ l ∧ (l : Int) ≤ q) (hv : fitB nn (getV n K st (pageI t q s ((l : Int) - 1) 0)) = true) : lookF n K t q s nn (m + 1) l st = (some (l - 1), getS n K st (pageI t q s ((l : Int) - 1) 0)) := by
  rw [lookF, if_pos h, if_pos hv]
theorem lookF_step {m l : Nat} {st : Vst} (h : 1 ≤ l ∧ (l : Int) ≤ q) (hv : fitB nn (getV n K st (pageI t q s ((l : Int) - 1) 0)) = false) :
    lookF n K t q s nn (m + 1) l st = lookF n K t q s nn m (getV n K (getS n K st (pageI t q s ((l : Int) - 1) 0)) (pageI t q s ((l : Int) - 1) 2)) (getS n K (getS n K st (pageI t q s ((l : Int) - 1) 0)) (pageI t q s ((l : Int) - 1) 2)) := by
  rw [lookF, if_pos h, if_neg (by rw [hv]; simp)]
theorem nextF_found {j k : Nat} {st : Vst} (h : 1 ≤ getV n K st ((2 + k : Nat) : Int) ∧ ((getV n K st ((2 + k : Nat) : Int) : Nat) : Int) ≤ q) : nextF n K q (j + 1) k st = (some (getV n K st ((2 + k : Nat) : Int) - 1), getS n K st ((2 + k : Nat) : Int)) := by
  rw [nextF, if_pos h]
theorem nextF_step {j k : Nat} {st : Vst} (h : ¬ (1 ≤ getV n K st ((2 + k : Nat) : Int) ∧ ((getV n K st ((2 + k : Nat) : Int) : Nat) : Int) ≤ q)) : nextF n K q (j + 1) k st = nextF n K q j (k + 1) (getS n K st ((2 + k : Nat) : Int)) := by
  rw [nextF, if_neg h]
end

def binH (nn : Int) : Int := nthI 2 11 1 (ofI nn)
section
variable (n : Nat) (K : Nat → Option Nat) (t q s : Int)
def infoOf (p : Int) (st : Vst) : Int × Int × Int × Bool := infoG (getV n K st (pageI t q s p 0))
def dropV (p : Int) (st : Vst) : Int := if pgB q p then (if (infoOf n K t q s p st).1 = 1 then (infoOf n K t q s p st).2.1 else 0) else 0
def dropS (p : Int) (st : Vst) : Vst := if pgB q p then (if (infoOf n K t q s p st).1 = 1 then pullI n K t q s (binH (infoOf n K t q s p st).2.1) p (getS n K st (pageI t q s p 0)) else getS n K st (pageI t q s p 0)) else st
def addS (p nn : Int) (st : Vst) : Vst := if pgB q p = true ∧ 1 ≤ nn ∧ nn ≤ q - p then pushI n K t q s (binH nn) p (putS n (putS n st (pageI t q s p 0) (infoV 1 nn 0)) (pageI t q s (p + nn - 1) 1) (p.toNat + 1)) else st
end
def foundI (o : Option Nat) : Int := match o with
  | some p => (p : Int)
  | none => 0
def findI (n : Nat) (K : Nat → Option Nat) (t q s nn : Int) (st : Vst) : Option Nat × Vst := if 1 ≤ nn ∧ nn ≤ q then findF n K t q s nn (ofI nn).toNat st else (none, st)
theorem findI_no {n : Nat} {K : Nat → Option Nat} {t q s nn : Int} {st : Vst} (h : ¬ (1 ≤ nn ∧ nn ≤ q)) : findI n K t q s nn st = (none, st) := by unfold findI; rw [if_neg h]
theorem findI_yes {n : Nat} {K : Nat → Option Nat} {t q s nn : Int} {st : Vst} {own : Nat} (ho : ofI nn = (own : Int)) (h1 : 1 ≤ nn) (h2 : nn ≤ q) : findI n K t q s nn st = findF n K t q s nn own st := by
  unfold findI
  rw [if_pos ⟨h1, h2⟩, ho, Int.toNat_natCast]
end
section
def add32 (a : Nat) (m : Int) : Nat := (((a : Int) + m) % 4294967296).toNat
def sub32 (a : Nat) (m : Int) : Nat := (((a : Int) - m) % 4294967296).toNat
theorem add32_lt (a : Nat) (m : Int) : add32 a m < 2 ^ 32 := by unfold add32; have := Int.emod_lt_of_pos ((a : Int) + m) (show (0 : Int) < 4294967296 by omega); have := Int.emod_nonneg ((a : Int) + m) (show (4294967296 : Int) ≠ 0 by omega); omega
theorem sub32_lt (a : Nat) (m : Int) : sub32 a m < 2 ^ 32 := by unfold sub32; have := Int.emod_lt_of_pos ((a : Int) - m) (show (0 : Int) < 4294967296 by omega); have := Int.emod_nonneg ((a : Int) - m) (show (4294967296 : Int) ≠ 0 by omega); omega
section
variable (n : Nat) (K : Nat → Option Nat) (t q s : Int)
def usedS (p m : Nat) (st : Vst) : Vst := putS n (putS n st (pageI t q s p 0) (infoV 2 (m : Int) 0)) (pageI t q s ((p : Int) + (m : Int) - 1) 1) (p + 1)
def restS (p m : Nat) (l : Int) (st : Vst) : Vst := if (m : Int) < l then addS n K t q s ((p : Int) + (m : Int)) (l - (m : Int)) st else st
def lessS (m : Nat) (st : Vst) : Vst := putS n (getS n K st 0) 0 (sub32 (getV n K st 0) (m : Int))
def moreS (m : Nat) (st : Vst) : Vst := putS n (getS n K st 0) 0 (add32 (getV n K st 0) (m : Int))
def takeS (p m : Nat) (st : Vst) : Vst := lessS n K m (restS n K t q s p m (dropV n K t q s p st) (usedS n t q s p m (dropS n K t q s p st)))
def takeI (m : Int) (st : Vst) : Option Nat × Vst := match (findI n K t q s m st).1 with
  | some p => (some p, takeS n K t q s p m.toNat (findI n K t q s m st).2)
  | none => (none, (findI n K t q s m st).2)
def relL (p : Nat) (st : Vst) : Vst × Int × Int := if p = 0 then (st, (p : Int), 0) else
  (let f : Int := ((getV n K st (pageI t q s ((p : Int) - 1) 1) : Nat) : Int)
   let st1 := getS n K st (pageI t q s ((p : Int) - 1) 1)
   let st2 := getS n K st1 (pageI t q s (f - 1) 0)
   if (infoOf n K t q s (f - 1) st1).1 = 1 then (putS n (putS n (dropS n K t q s (f - 1) st2) (pageI t q s p 0) 0) (pageI t q s ((p : Int) - 1) 1) 0, f - 1, dropV n K t q s (f - 1) st2)
   else (st2, (p : Int), 0))
def relR (r : Nat) (st : Vst) : Vst × Int := if (r : Int) < q then
  (let st1 := getS n K st (pageI t q s r 0)
   if (infoOf n K t q s r st).1 = 1 then (putS n (putS n (dropS n K t q s r st1) (pageI t q s r 0) 0) (pageI t q s ((r : Int) - 1) 1) 0, dropV n K t q s r st1)
   else (st1, 0))
  else (st, 0)
def releaseS (p m : Nat) (st : Vst) : Vst :=
  moreS n K m (addS n K t q s (relL n K t q s p st).2.1 ((m : Int) + (relL n K t q s p st).2.2 + (relR n K t q s (p + m) (relL n K t q s p st).1).2) (relR n K t q s (p + m) (relL n K t q s p st).1).1)
end
end
end Go.Proofs.YtioolaaphbddbaaGreatDoor

namespace Go.Proofs.YtioolaaphbddbaaGreatDoor
open Go.ChangeShapes Go.WideShapes Go.ChangeAt Go.RowKit Go.Maps
set_option linter.unusedVariables false
set_option linter.unusedSimpArgs false
set_option maxRecDepth 100000
section
structure Blk where
  n : Nat
  t : TypeId
  cs : Array Value
def GB (G : Nat → Prop) (L : List Blk) : Nat → Prop := fun g => G g ∨ ∃ x, x ∈ L ∧ x.n = g

structure WL (O : Ob) (w0 : World) (A G : Nat → Prop) (ws : World) (L : List Blk) (st : Vst) (w : World) : Prop where
  at_ : O.At w0 A (GB G L) st w
  held : ∀ x ∈ L, Held w x.n x.t x.cs
  stay : Stay G ws w
  lo : ∀ x ∈ L, ws.heap.size ≤ x.n
  nd : (L.map (·.n)).Nodup

section
variable {O : Ob} {w0 ws w w' : World} {A G : Nat → Prop} {L : List Blk} {x y z : Blk} {st s' : Vst}
theorem WL.start (h : O.At w0 A G st ws) : WL O w0 A G ws [] st ws :=
  ⟨h.less (fun g hg => by
    rcases hg with hg | ⟨x, hx, _⟩
    · exact hg
    · exact absurd hx (List.not_mem_nil)), fun x hx => absurd hx (List.not_mem_nil), Stay.of_below (B0 _) G, fun x hx => absurd hx (List.not_mem_nil), List.nodup_nil⟩
theorem WL.keep (h : WL O w0 A G ws L st w) (hb : Below w.heap.size w w') : WL O w0 A G ws L st w' :=
  ⟨h.at_.keep hb, fun x hx => (h.held x hx).keep hb, h.stay.trans (Stay.of_below hb G), h.lo, h.nd⟩
theorem WL.drew (h : WL O w0 A G ws L st w) : WL O w0 A G ws L st w.drew := h.keep (Bdrew (B0 w))
theorem WL.drewN (h : WL O w0 A G ws L st w) (k : Nat) : WL O w0 A G ws L st (w.drewN k) := h.keep (Bdraw (B0 w) k)
theorem WL.alloc (h : WL O w0 A G ws L st w) (o : Obj) : WL O w0 A G ws L st (w.alloc o) := h.keep (Bnew (B0 w) o)
theorem WL.call (h : WL O w0 A G ws L st w) (h1 : O.At w0 A (GB G L) s' w') (h2 : Stay (GB G L) w w') : WL O w0 A G ws L s' w' :=
  ⟨h1, fun x hx => h2.held (.inr ⟨x, hx, rfl⟩) (h.held x hx), h.stay.trans (h2.less fun g x => .inl x), h.lo, h.nd⟩
theorem WL.fin (h : WL O w0 A G ws L st w) : O.At w0 A G st w ∧ Stay G ws w := ⟨h.at_.less fun g x => .inl x, h.stay⟩
theorem WL.new (h : WL O w0 A G ws L st w) (t : TypeId) (cs : Array Value) : WL O w0 A G ws (⟨w.heap.size, t, cs⟩ :: L) st (w.alloc (.cells cs t)) := by
  have hk := h.alloc (.cells cs t)
  refine ⟨(h.at_.box (.cells cs t)).less (fun g hg => ?_), fun x hx => ?_, hk.stay, fun x hx => ?_, ?_⟩
  · rcases hg with hg | ⟨x, hx, rfl⟩
    · exact .inl (.inl hg)
    · rcases List.mem_cons.1 hx with rfl | hx
      · exact .inr rfl
      · exact .inl (.inr ⟨x, hx, rfl⟩)
  · rcases List.mem_cons.1 hx with rfl | hx
    · exact Held.new w t cs
    · exact hk.held x hx
  · rcases List.mem_cons.1 hx with rfl | hx
    · exact h.stay.1
    · exact h.lo x hx
  · rw [List.map_cons]
    refine List.nodup_cons.2 ⟨fun hm => ?_, h.nd⟩
    obtain ⟨x, hx, e⟩ := List.mem_map.1 hm
    have h1 := (h.held x hx).lt
    have e : x.n = w.heap.size := e
    omega
theorem WL.drop (h : WL O w0 A G ws (x :: L) st w) : WL O w0 A G ws L st w :=
  ⟨h.at_.less (fun g hg => by
    rcases hg with hg | ⟨y, hy, rfl⟩
    · exact .inl hg
    · exact .inr ⟨y, List.mem_cons_of_mem _ hy, rfl⟩), fun y hy => h.held y (List.mem_cons_of_mem _ hy), h.stay, fun y hy => h.lo y (List.mem_cons_of_mem _ hy), (List.nodup_cons.1 h.nd).2⟩
theorem WL.put (h : WL O w0 A G ws (x :: L) st w) (i : Nat) (v : Value) : WL O w0 A G ws (⟨x.n, x.t, x.cs.setIfInBounds i v⟩ :: L) st (w.setCell ⟨x.n, i, none⟩ v) := by
  have hnd := List.nodup_cons.1 h.nd
  have hlo := h.lo x (List.mem_cons_self ..)
  refine ⟨(h.at_.put (p := ⟨x.n, i, none⟩) (.inr ⟨x, List.mem_cons_self .., rfl⟩) v).less (fun g hg => ?_), fun y hy => ?_, ⟨by simp; exact h.stay.1, fun g hg hl => (Below.heap_setCell w ⟨x.n, i, none⟩ v g (fun e => by have e : g = x.n := e; omega)).trans (h.stay.2 g hg hl)⟩, fun y hy => ?_, h.nd⟩
  · rcases hg with hg | ⟨y, hy, rfl⟩
    · exact .inl hg
    · rcases List.mem_cons.1 hy with rfl | hy
      · exact .inr ⟨x, List.mem_cons_self .., rfl⟩
      · exact .inr ⟨y, List.mem_cons_of_mem _ hy, rfl⟩
  · rcases List.mem_cons.1 hy with rfl | hy
    · exact (h.held x (List.mem_cons_self ..)).put i v
    · refine (h.held y (List.mem_cons_of_mem _ hy)).far (p := ⟨x.n, i, none⟩) (fun e => hnd.1 ?_) v
      have e : y.n = x.n := e
      exact List.mem_map.2 ⟨y, hy, e⟩
  · rcases List.mem_cons.1 hy with rfl | hy
    · exact hlo
    · exact h.lo y (List.mem_cons_of_mem _ hy)
theorem WL.swap (h : WL O w0 A G ws (x :: y :: L) st w) : WL O w0 A G ws (y :: x :: L) st w := by
  refine ⟨h.at_.less (fun g hg => ?_), fun z hz => h.held z (by simp at hz ⊢; rcases hz with e | e | e <;> simp [e]), h.stay, fun z hz => h.lo z (by simp at hz ⊢; rcases hz with e | e | e <;> simp [e]), ?_⟩
  · rcases hg with hg | ⟨z, hz, e⟩
    · exact .inl hg
    · exact .inr ⟨z, by simp at hz ⊢; rcases hz with e | e | e <;> simp [e], e⟩
  · have := h.nd
    simp only [List.map_cons, List.nodup_cons, List.mem_cons, not_or] at this ⊢
    exact ⟨⟨fun e => this.1.1 e.symm, this.2.1⟩, this.1.2, this.2.2⟩
theorem WL.h0 (h : WL O w0 A G ws (x :: L) st w) : Held w x.n x.t x.cs := h.held x (List.mem_cons_self ..)
theorem WL.h1 (h : WL O w0 A G ws (x :: y :: L) st w) : Held w y.n y.t y.cs := h.held y (List.mem_cons_of_mem _ (List.mem_cons_self ..))
theorem WL.h2 (h : WL O w0 A G ws (x :: y :: z :: L) st w) : Held w z.n z.t z.cs := h.held z (List.mem_cons_of_mem _ (List.mem_cons_of_mem _ (List.mem_cons_self ..)))
theorem vWL_lt {base b n : Nat} {wh : Bool} {K : Nat → Option Nat} (h : WL (vOb base b n wh K) w0 A G ws L st w) (a : Int) : getV n K st a < 2 ^ 32 := vAt_lt h.at_ a
theorem rWL_lt {base b n : Nat} {all : Bool} {K : Nat → Option Nat} (h : WL (rOb base b n all K) w0 A G ws L st w) (a : Int) : getV n K st a < 2 ^ 32 := rAt_lt h.at_ a
end
end
end Go.Proofs.YtioolaaphbddbaaGreatDoor

namespace Go.Proofs.YtioolaaphbddbaaGreatDoor
open Go.ChangeShapes Go.WideShapes Go.ChangeAt Go.RowKit
set_option linter.unusedVariables false
set_option linter.unusedSimpArgs false
section
theorem Held.seven {w : World} {g : Nat} {t : TypeId} {c0 c1 c2 c3 c4 c5 c6 : Value} (h : Held w g t #[c0, c1, c2, c3, c4, c5, c6]) : w.cell? ⟨g, 0, none⟩ = some c0 ∧ w.cell? ⟨g, 1, none⟩ = some c1 ∧ w.cell? ⟨g, 2, none⟩ = some c2 ∧ w.cell? ⟨g, 3, none⟩ = some c3 ∧ w.cell? ⟨g, 4, none⟩ = some c4 ∧ w.cell? ⟨g, 5, none⟩ = some c5 ∧ w.cell? ⟨g, 6, none⟩ = some c6 :=
  ⟨h.cell 0, h.cell 1, h.cell 2, h.cell 3, h.cell 4, h.cell 5, h.cell 6⟩
theorem Held.thawed7 {w : World} {g : Nat} {t : TypeId} {cs : Array Value} (h : Held w g t cs) : w.frozen? ⟨g, 0, none⟩ = false ∧ w.frozen? ⟨g, 1, none⟩ = false ∧ w.frozen? ⟨g, 2, none⟩ = false ∧ w.frozen? ⟨g, 3, none⟩ = false ∧ w.frozen? ⟨g, 4, none⟩ = false ∧ w.frozen? ⟨g, 5, none⟩ = false ∧ w.frozen? ⟨g, 6, none⟩ = false :=
  ⟨h.thawed 0, h.thawed 1, h.thawed 2, h.thawed 3, h.thawed 4, h.thawed 5, h.thawed 6⟩

theorem plNth_c (f n e i : Int) (f0 : -1 ≤ f) (f1 : f ≤ 20000) (n0 : 0 ≤ n) (n1 : n ≤ 10000) (e0 : 0 ≤ e) (e1 : e ≤ 120) (w : World) :
    Calls Tryz.prog 114 #[.int .i64 f, .int .i64 n, .int .i64 e, .int .i64 i] w fun z w' => z = .returned (.int .i64 (nthI f n e i)) ∧ w = w' := by
  by_cases c0 : f = -1
  · subst c0
    have HN := hidp (nth_off (f := -1) (n := n) (e := e) (i := i) (.inl rfl))
    go_enter Tryz.func114, Tryz.ntmps114
    go_wp2
    go_ret
    exact ⟨by rw [HN.out]; rfl, rfl⟩
  · have q0 : (f == -1) = false := by simpa using c0
    by_cases c1 : i < 0
    · have HN := hidp (nth_off (f := f) (n := n) (e := e) (i := i) (.inr (.inl c1)))
      go_enter Tryz.func114, Tryz.ntmps114
      go_wp2
      go_ret
      exact ⟨by rw [HN.out]; rfl, rfl⟩
    · by_cases c2 : n ≤ i
      · have HN := hidp (nth_off (f := f) (n := n) (e := e) (i := i) (.inr (.inr c2)))
        go_enter Tryz.func114, Tryz.ntmps114
        go_wp2
        go_ret
        exact ⟨by rw [HN.out]; rfl, rfl⟩
      · have HN := hidp (nth_on (f := f) (n := n) (e := e) (i := i) c0 (by omega) (by omega))
        have p0 : 0 ≤ i * e := Int.mul_nonneg (by omega) e0
        have p1 : i * e ≤ 10000 * 120 := Int.mul_le_mul (by omega) e1 e0 (by omega)
        obtain ⟨y, hy⟩ : ∃ y, i * e = y := ⟨_, rfl⟩
        have HY := hidp hy
        rw [hy] at p0 p1
        go_enter Tryz.func114, Tryz.ntmps114
        go_wp2
        go_ret
        exact ⟨by rw [HN.out, HY.out]; rfl, rfl⟩

theorem plLine_c (i : Nat) (h : i ≤ 10000) (w : World) :
    Calls Tryz.prog 157 #[.int .i64 (i : Int)] w fun z w' => z = .returned (.int .i64 (((i + 7) / 8 * 8 : Nat) : Int)) ∧ w = w' := by
  go_enter Tryz.func157, Tryz.ntmps157
  go_wp2
  go_ret
  refine ⟨ret_int ?_, rfl⟩
  simp
  omega
theorem plLineI_c (i y : Int) (h0 : 0 ≤ i) (h : i ≤ 10000) (hy : (i + 7) / 8 * 8 = y) (w : World) :
    Calls Tryz.prog 157 #[.int .i64 i] w fun z w' => z = .returned (.int .i64 y) ∧ w = w' := by
  obtain ⟨n, rfl⟩ : ∃ n : Nat, i = n := ⟨i.toNat, by omega⟩
  have e : y = (((n + 7) / 8 * 8 : Nat) : Int) := by omega
  rw [e]
  exact plLine_c n (by omega) w

set_option maxHeartbeats 1600000 in
theorem plLayout_no (t p s : Int) (hr : rightB t p s = false) (w : World) :
    Calls Tryz.prog 132 #[.agg #[.int .i64 t, .int .i64 p, .int .i64 s]] w fun z w' => z = .returned (.agg #[.int .i64 0, .int .i64 0, .int .i64 0, .int .i64 0, .int .i64 0, .int .i64 0, .int .i64 0]) ∧ Below w.heap.size w w' := by
  have HK := hidp (check_no hr)
  have hl := Held.new2 w (.cells #[.int .i64 t, .int .i64 p, .int .i64 s] 23) 153 #[.int .i64 0, .int .i64 0, .int .i64 0, .int .i64 0, .int .i64 0, .int .i64 0, .int .i64 0]
  clear hr
  go_enter Tryz.func132, Tryz.ntmps132
  go_wp2_with fail
  refine (cfCheck_c t p s _).mono ?_
  rintro e w1 ⟨rfl, hb1⟩
  rw [HK.out]
  have hz := hb1.size
  have hl1 := hl.keep hb1
  obtain ⟨z0, z1, z2, z3, z4, z5, z6⟩ := hl1.seven
  obtain ⟨f0, f1, f2, f3, f4, f5, f6⟩ := hl1.thawed7
  go_wp2
  refine bodyPost_ret (v := .agg #[.int .i64 0, .int .i64 0, .int .i64 0, .int .i64 0, .int .i64 0, .int .i64 0, .int .i64 0]) (by simp [results, Tryz.results132, go_sem, z0, z1, z2, z3, z4, z5, z6]) rfl ⟨rfl, ?_⟩
  exact Bput (Bput (Bput (Bput (Bput (Bput (Bput (Bgo (Bnew (Bnew (B0 _) _) _) hb1) (Nat.le_succ _) _) (Nat.le_succ _) _) (Nat.le_succ _) _) (Nat.le_succ _) _) (Nat.le_succ _) _) (Nat.le_succ _) _) (Nat.le_succ _) _

set_option maxHeartbeats 1600000 in
theorem plLayout_yes (a b : Nat) (s : Int) (hr : rightB a b s = true) (w : World) :
    Calls Tryz.prog 132 #[.agg #[.int .i64 (a : Int), .int .i64 (b : Int), .int .i64 s]] w fun z w' => z = .returned (.agg #[.int .i64 (a : Int), .int .i64 (b : Int), .int .i64 s, .int .i64 (30 + 4 * a : Int), .int .i64 (30 + 4 * a + 6 * b : Int), .int .i64 ((16 + (30 + 4 * a + 6 * b) + 7) / 8 * 8 : Int), .int .i64 (a + 1 : Int)]) ∧ Below w.heap.size w w' := by
  have HK := hidp (check_yes hr)
  have hn := (rightB_iff a b s).1 hr
  have a1 : a ≤ 16 := by omega
  have b1 : b ≤ 1024 := by omega
  obtain ⟨y, hy⟩ : ∃ y : Int, ((16 + (30 + 4 * (a : Int) + 6 * (b : Int)) + 7) / 8 * 8 : Int) = y := ⟨_, rfl⟩
  have HY := hidp hy
  rw [hy]
  have hd := (Held.new w 23 #[.int .i64 a, .int .i64 b, .int .i64 s]).alloc (.cells #[.int .i64 0, .int .i64 0, .int .i64 0, .int .i64 0, .int .i64 0, .int .i64 0, .int .i64 0] 153)
  have hl := Held.new2 w (.cells #[.int .i64 a, .int .i64 b, .int .i64 s] 23) 153 #[.int .i64 0, .int .i64 0, .int .i64 0, .int .i64 0, .int .i64 0, .int .i64 0, .int .i64 0]
  clear hr hn hy
  go_enter Tryz.func132, Tryz.ntmps132
  go_wp2_with fail
  refine (cfCheck_c a b s _).mono ?_
  rintro e w1 ⟨rfl, hb1⟩
  rw [HK.out]
  have hz := hb1.size
  have hd1 := hd.keep hb1
  have hl1 := hl.keep hb1
  obtain ⟨x0, x1, x2⟩ := hd1.three
  obtain ⟨z0, z1, z2, z3, z4, z5, z6⟩ := hl1.seven
  obtain ⟨f0, f1, f2, f3, f4, f5, f6⟩ := hl1.thawed7
  have hlt := hl1.lt
  clear hd hl
  go_wp2_with fail
  refine (plLineI_c _ y (by omega) (by omega) HY.out _).mono ?_
  rintro e w2 ⟨rfl, rfl⟩
  go_wp2
  have hfin := (((((((hl1.put 0 (.int .i64 (a : Int))).put 1 (.int .i64 (b : Int))).put 2 (.int .i64 s)).put 3 (.int .i64 (30 + 4 * a : Int))).put 4 (.int .i64 (30 + 4 * a + 6 * b : Int))).put 5 (.int .i64 y)).put 6 (.int .i64 (a + 1 : Int))).alloc
    (.cells #[.int .i64 (a : Int), .int .i64 (b : Int), .int .i64 s, .int .i64 (30 + 4 * a : Int), .int .i64 (30 + 4 * a + 6 * b : Int), .int .i64 y, .int .i64 (a + 1 : Int)] 153)
  obtain ⟨r0, r1, r2, r3, r4, r5, r6⟩ := hfin.seven
  refine bodyPost_ret (v := .agg #[.int .i64 (a : Int), .int .i64 (b : Int), .int .i64 s, .int .i64 (30 + 4 * a : Int), .int .i64 (30 + 4 * a + 6 * b : Int), .int .i64 y, .int .i64 (a + 1 : Int)]) (by simp [results, Tryz.results132, go_sem, r0, r1, r2, r3, r4, r5, r6]) rfl ⟨rfl, ?_⟩
  exact Bnew (Bput (Bput (Bput (Bput (Bput (Bput (Bput (Bgo (Bnew (Bnew (B0 _) _) _) hb1) (Nat.le_succ _) _) (Nat.le_succ _) _) (Nat.le_succ _) _) (Nat.le_succ _) _) (Nat.le_succ _) _) (Nat.le_succ _) _) (Nat.le_succ _) _) _

theorem plLayout_c (t p s T P S A C M K : Int) (h : Laid7 t p s T P S A C M K) (w : World) :
    Calls Tryz.prog 132 #[.agg #[.int .i64 t, .int .i64 p, .int .i64 s]] w fun z w' => z = .returned (.agg #[.int .i64 T, .int .i64 P, .int .i64 S, .int .i64 A, .int .i64 C, .int .i64 M, .int .i64 K]) ∧ Below w.heap.size w w' := by
  obtain ⟨rfl, rfl, rfl, rfl, rfl, rfl, rfl⟩ := h
  cases hr : rightB t p s
  · obtain ⟨e1, e2, e3, e4, e5, e6, e7⟩ := lay_no hr
    rw [e1, e2, e3, e4, e5, e6, e7]
    exact plLayout_no t p s hr w
  · obtain ⟨e1, e2, e3, e4, e5, e6, e7⟩ := lay_yes hr
    rw [e1, e2, e3, e4, e5, e6, e7]
    have hn := (rightB_iff t p s).1 hr
    obtain ⟨a, rfl⟩ : ∃ a : Nat, t = a := ⟨t.toNat, by omega⟩
    obtain ⟨b, rfl⟩ : ∃ b : Nat, p = b := ⟨p.toNat, by omega⟩
    exact plLayout_yes a b s hr w
theorem lay_is (t p s : Int) : ∃ T P S A C M K : Int, Laid7 t p s T P S A C M K ∧ (0 ≤ T ∧ T ≤ 16) ∧ (0 ≤ P ∧ P ≤ 1024) ∧ (0 ≤ A ∧ A ≤ 94) ∧ (0 ≤ C ∧ C ≤ 6238) ∧ (0 ≤ M ∧ M ≤ 6256) ∧ (0 ≤ K ∧ K ≤ 17) ∧ M % 8 = 0 :=
  ⟨_, _, _, _, _, _, _, ⟨rfl, rfl, rfl, rfl, rfl, rfl, rfl⟩, lay_bounds t p s⟩

theorem plBin_c (k : Int) (w : World) :
    Calls Tryz.prog 139 #[.int .i64 k] w fun z w' => z = .returned (.int .i64 (nthI 2 11 1 k)) ∧ w = w' := by
  go_enter Tryz.func139, Tryz.ntmps139
  go_wp2_with fail
  refine (plNth_c 2 11 1 k (by omega) (by omega) (by omega) (by omega) (by omega) (by omega) _).mono ?_
  rintro e w1 ⟨rfl, rfl⟩
  go_wp2
  go_ret
  exact ⟨by first | rfl | trivial, by first | rfl | trivial⟩

theorem plRack_c (k : Int) (w : World) :
    Calls Tryz.prog 78 #[.int .i64 k] w fun z w' => z = .returned (.int .i64 (nthI 13 9 1 k)) ∧ w = w' := by
  go_enter Tryz.func78, Tryz.ntmps78
  go_wp2_with fail
  refine (plNth_c 13 9 1 k (by omega) (by omega) (by omega) (by omega) (by omega) (by omega) _).mono ?_
  rintro e w1 ⟨rfl, rfl⟩
  go_wp2
  go_ret
  exact ⟨by first | rfl | trivial, by first | rfl | trivial⟩

theorem plPage_c (t p s q b : Int) (w : World) :
    Calls Tryz.prog 102 #[.agg #[.int .i64 t, .int .i64 p, .int .i64 s], .int .i64 q, .int .i64 b] w fun z w' => z = .returned (.int .i64 (pageI t p s q b)) ∧ Below w.heap.size w w' := by
  obtain ⟨T, P, S, A, C, M, K, HL, ⟨t0, t1⟩, ⟨p0, p1⟩, ⟨a0, a1⟩, ⟨c0, c1⟩, ⟨m0, m1⟩, ⟨k0, k1⟩, -⟩ := lay_is t p s
  have HR := hidp (show pageI t p s q b = nthI (nthI A P 6 q) 6 1 b by unfold pageI; rw [HL.hA, HL.hP])
  have hB := nth_bounds (f := A) (n := P) (e := 6) (i := q) (B := 6256) (by omega) (by omega) (by omega) (by omega)
  obtain ⟨y, hy⟩ : ∃ y, nthI A P 6 q = y := ⟨_, rfl⟩
  rw [hy] at hB HR
  have HY := hidp hy
  clear hy
  have hfd : ∀ w : World, (Instr.field 153 (.agg #[.int .i64 T, .int .i64 P, .int .i64 S, .int .i64 A, .int .i64 C, .int .i64 M, .int .i64 K]) 0).run Tryz.prog w = .ok (.agg #[.int .i64 T, .int .i64 P, .int .i64 S]) w := fun _ => by kernel_rfl
  have hfd2 : ∀ w : World, (Instr.field 23 (.agg #[.int .i64 T, .int .i64 P, .int .i64 S]) 0).run Tryz.prog w = .ok (.int .i64 T) w := fun _ => by kernel_rfl
  go_enter Tryz.func102, Tryz.ntmps102
  go_wp2_with fail
  refine (plLayout_c t p s T P S A C M K HL _).mono ?_
  rintro e w1 ⟨rfl, hb1⟩
  go_wp2_with fail
  refine (plNth_c A P 6 q (by omega) (by omega) (by omega) (by omega) (by omega) (by omega) _).mono ?_
  rintro e w2 ⟨rfl, rfl⟩
  rw [HY.out]
  go_wp2_with fail
  refine (plNth_c y 6 1 b (by omega) (by omega) (by omega) (by omega) (by omega) (by omega) _).mono ?_
  rintro e w3 ⟨rfl, rfl⟩
  go_wp2
  go_ret
  refine ⟨by rw [HR.out]; rfl, ?_⟩
  repeat (first | exact B0 _ | (with_reducible refine Bgo ?_ (by assumption)) | (with_reducible refine Bdrew ?_) | (with_reducible refine Bdraw ?_ _) | (with_reducible refine Bnew ?_ _) | (with_reducible refine Bput ?_ (by first | (simp; done) | (simp; omega)) _))

theorem plInfo_c (t p s q : Int) (w : World) :
    Calls Tryz.prog 57 #[.agg #[.int .i64 t, .int .i64 p, .int .i64 s], .int .i64 q] w fun z w' => z = .returned (.int .i64 (pageI t p s q 0)) ∧ Below w.heap.size w w' := by
  go_enter Tryz.func57, Tryz.ntmps57
  go_wp2_with fail
  refine (plPage_c t p s q 0 _).mono ?_
  rintro e w1 ⟨rfl, hb1⟩
  go_wp2
  go_ret
  exact ⟨by first | rfl | trivial, Bgo (Bnew (B0 _) _) hb1⟩

theorem plFoot_c (t p s q : Int) (w : World) :
    Calls Tryz.prog 144 #[.agg #[.int .i64 t, .int .i64 p, .int .i64 s], .int .i64 q] w fun z w' => z = .returned (.int .i64 (pageI t p s q 1)) ∧ Below w.heap.size w w' := by
  go_enter Tryz.func144, Tryz.ntmps144
  go_wp2_with fail
  refine (plPage_c t p s q 1 _).mono ?_
  rintro e w1 ⟨rfl, hb1⟩
  go_wp2
  go_ret
  exact ⟨by first | rfl | trivial, Bgo (Bnew (B0 _) _) hb1⟩

theorem plNext_c (t p s q : Int) (w : World) :
    Calls Tryz.prog 143 #[.agg #[.int .i64 t, .int .i64 p, .int .i64 s], .int .i64 q] w fun z w' => z = .returned (.int .i64 (pageI t p s q 2)) ∧ Below w.heap.size w w' := by
  go_enter Tryz.func143, Tryz.ntmps143
  go_wp2_with fail
  refine (plPage_c t p s q 2 _).mono ?_
  rintro e w1 ⟨rfl, hb1⟩
  go_wp2
  go_ret
  exact ⟨by first | rfl | trivial, Bgo (Bnew (B0 _) _) hb1⟩

theorem plPrev_c (t p s q : Int) (w : World) :
    Calls Tryz.prog 163 #[.agg #[.int .i64 t, .int .i64 p, .int .i64 s], .int .i64 q] w fun z w' => z = .returned (.int .i64 (pageI t p s q 3)) ∧ Below w.heap.size w w' := by
  go_enter Tryz.func163, Tryz.ntmps163
  go_wp2_with fail
  refine (plPage_c t p s q 3 _).mono ?_
  rintro e w1 ⟨rfl, hb1⟩
  go_wp2
  go_ret
  exact ⟨by first | rfl | trivial, Bgo (Bnew (B0 _) _) hb1⟩

theorem plTaken_c (t p s q : Int) (w : World) :
    Calls Tryz.prog 125 #[.agg #[.int .i64 t, .int .i64 p, .int .i64 s], .int .i64 q] w fun z w' => z = .returned (.int .i64 (pageI t p s q 5)) ∧ Below w.heap.size w w' := by
  go_enter Tryz.func125, Tryz.ntmps125
  go_wp2_with fail
  refine (plPage_c t p s q 5 _).mono ?_
  rintro e w1 ⟨rfl, hb1⟩
  go_wp2
  go_ret
  exact ⟨by first | rfl | trivial, Bgo (Bnew (B0 _) _) hb1⟩
end
end Go.Proofs.YtioolaaphbddbaaGreatDoor

namespace Go.Proofs.YtioolaaphbddbaaGreatDoor
set_option linter.unusedVariables false
section
def slotN (k : Nat) : Nat := ([32, 21, 16, 10, 8, 5, 4, 3, 2] : List Nat).getD k 0
def slotI (k : Int) : Nat := if 0 ≤ k then slotN k.toNat else 0
theorem slotI_nat (k : Nat) : slotI (k : Int) = slotN k := by unfold slotI; simp
theorem slotN_out {k : Nat} (h : 9 ≤ k) : slotN k = 0 := by unfold slotN; simp [List.getD, List.getElem?_eq_none (show ([32, 21, 16, 10, 8, 5, 4, 3, 2] : List Nat).length ≤ k by simpa using h)]
theorem slotI_out {k : Int} (h : k < 0 ∨ 9 ≤ k) : slotI k = 0 := by
  unfold slotI
  split
  · exact slotN_out (by omega)
  · rfl
theorem slotN_in {k : Nat} (h : k < 9) : 2 ≤ slotN k ∧ slotN k ≤ 32 := by
  have : ∀ j, j < 9 → 2 ≤ slotN j ∧ slotN j ≤ 32 := by decide
  exact this k h
theorem slotI_le (k : Int) : slotI k ≤ 32 := by
  by_cases h : 0 ≤ k ∧ k < 9
  · have := slotN_in (k := k.toNat) (by omega)
    unfold slotI; rw [if_pos h.1]; omega
  · rw [slotI_out (by omega)]; omega
theorem slotI_zero {k : Int} : slotI k = 0 ↔ k < 0 ∨ 9 ≤ k := by
  constructor
  · intro h
    by_cases hk : 0 ≤ k ∧ k < 9
    · have := slotN_in (k := k.toNat) (by omega)
      unfold slotI at h; rw [if_pos hk.1] at h; omega
    · omega
  · exact slotI_out

def pageS (s : Int) : Nat := pageN 1 4 s
theorem pageS_no {s : Int} (h : s < 10 ∨ 20 < s) : pageS s = 0 := page_no (rightB_not (by omega))
theorem pageS_yes {s : Int} (h : 10 ≤ s ∧ s ≤ 20) : pageS s = 2 ^ s.toNat := page_yes (rightB_mk (by omega))
theorem pageS_le (s : Int) : pageS s ≤ 1048576 := by
  by_cases h : 10 ≤ s ∧ s ≤ 20
  · rw [pageS_yes h]
    exact (pow_bounds _ (by omega)).2
  · rw [pageS_no (by omega)]; omega
def sizeN (s k : Int) : Nat := pageS s / slotI k - pageS s / slotI k % 16
theorem sizeN_le (s k : Int) : sizeN s k ≤ 1048576 := by
  have h1 := pageS_le s
  have h2 := Nat.div_le_self (pageS s) (slotI k)
  unfold sizeN
  generalize pageS s / slotI k = q at *
  omega
theorem sizes_all : ∀ s : Nat, s < 11 → ∀ k : Nat, k < 9 →
    let z := 2 ^ (s + 10) / slotN k - 2 ^ (s + 10) / slotN k % 16
    z % 16 = 0 ∧ 16 ≤ z ∧ z * slotN k ≤ 2 ^ (s + 10) ∧ z ≤ 2 ^ (s + 10) / 2 ∧ (k = 8 → z = 2 ^ (s + 10) / 2) ∧
      (0 < k → 2 ^ (s + 10) / slotN (k - 1) - 2 ^ (s + 10) / slotN (k - 1) % 16 < z) := by decide +kernel

theorem size_at {s : Int} (h : 10 ≤ s ∧ s ≤ 20) (k : Nat) : sizeN s (k : Int) = 2 ^ (s.toNat - 10 + 10) / slotN k - 2 ^ (s.toNat - 10 + 10) / slotN k % 16 := by
  unfold sizeN
  rw [pageS_yes h, slotI_nat, show s.toNat - 10 + 10 = s.toNat by omega]
theorem size_facts {s : Int} (h : 10 ≤ s ∧ s ≤ 20) {k : Nat} (hk : k < 9) :
    sizeN s (k : Int) % 16 = 0 ∧ 16 ≤ sizeN s (k : Int) ∧ sizeN s (k : Int) * slotN k ≤ pageS s ∧ sizeN s (k : Int) ≤ pageS s / 2 ∧ (k = 8 → sizeN s (k : Int) = pageS s / 2) ∧
      (0 < k → sizeN s ((k - 1 : Nat) : Int) < sizeN s (k : Int)) := by
  have := sizes_all (s.toNat - 10) (by omega) k hk
  simp only [] at this
  rw [size_at h k, size_at h (k - 1), pageS_yes h, show s.toNat = s.toNat - 10 + 10 by omega]
  simpa using this
theorem size_pos {s : Int} (h : 10 ≤ s ∧ s ≤ 20) {k : Nat} (hk : k < 9) : 0 < sizeN s (k : Int) := by
  have := (size_facts h hk).2.1
  omega
end
section
def addrB (t p s i o : Int) : Bool := rightB t p s && decide ((0 ≤ i ∧ i < p) ∧ 0 ≤ o ∧ o < (pageN t p s : Int))
def addrI (t p s i o : Int) : Int := if addrB t p s i o then (i + 1) * (pageN t p s : Int) + o else 0
def spotB (t p s a : Int) : Bool := decide ((pageN t p s : Int) ≤ a ∧ a - pageN t p s < (bytesN t p s : Int))
def spotP (t p s a : Int) : Int := if spotB t p s a then a / (pageN t p s : Int) - 1 else 0
def spotO (t p s a : Int) : Int := if spotB t p s a then a % (pageN t p s : Int) else 0
def addrW (i o : Int) (g : Nat) : Int := IntKind.i64.wrap (IntKind.i64.wrap (IntKind.i64.wrap (i + 1) * (g : Int)) + o)

theorem i64_same {x : Int} (h : -9223372036854775808 ≤ x) (h' : x ≤ 9223372036854775807) : IntKind.i64.wrap x = x := by
  simp only [IntKind.wrap, IntKind.bits, IntKind.signed]; simp; omega

theorem right_nums {t p s : Int} (h : rightB t p s = true) : ∃ g q : Nat, pageN t p s = g ∧ p = q ∧ bytesN t p s = q * g ∧ 4 ≤ q ∧ q ≤ 1024 ∧ 1024 ≤ g ∧ g ≤ 1048576 ∧ g = 2 ^ s.toNat ∧ 10 ≤ s ∧ s ≤ 20 ∧ q * g ≤ 1073741824 := by
  obtain ⟨_, ⟨hp, hp'⟩, hs, hs'⟩ := (rightB_iff t p s).1 h
  refine ⟨2 ^ s.toNat, p.toNat, page_yes h, by omega, bytes_yes h, by omega, by omega, ?_, ?_, rfl, hs, hs', ?_⟩
  · have := Nat.pow_le_pow_right (show 0 < 2 by omega) (show 10 ≤ s.toNat by omega)
    omega
  · exact (pow_bounds _ (by omega)).2
  · have h1 := (pow_bounds s.toNat (by omega)).2
    have h2 : p.toNat * 2 ^ s.toNat ≤ 1024 * 1048576 := Nat.mul_le_mul (by omega) h1
    omega
theorem wrong_nums {t p s : Int} (h : rightB t p s = false) : pageN t p s = 0 ∧ bytesN t p s = 0 := ⟨page_no h, bytes_no h⟩

theorem spot_right {t p s a : Int} (h : spotB t p s a = true) : rightB t p s = true := by
  cases hr : rightB t p s
  · obtain ⟨h1, h2⟩ := wrong_nums hr
    unfold spotB at h
    rw [h1, h2] at h
    simp at h
    omega
  · rfl
theorem split_at {g i o : Int} (hg : 0 < g) (ho : 0 ≤ o) (ho' : o < g) : ((i + 1) * g + o) / g = i + 1 ∧ ((i + 1) * g + o) % g = o := by
  constructor
  · rw [Int.add_comm, Int.add_mul_ediv_right _ _ (by omega), Int.ediv_eq_zero_of_lt ho ho']; omega
  · rw [Int.add_comm, Int.add_mul_emod_self_right, Int.emod_eq_of_lt ho ho']
theorem mul_bounds {i q g : Int} (h0 : 0 ≤ i) (hi : i < q) (hg : 0 < g) : g ≤ (i + 1) * g ∧ (i + 1) * g ≤ q * g := by
  have h1 : (0 : Int) ≤ i * g := Int.mul_nonneg h0 (by omega)
  have h2 : (i + 1) * g ≤ q * g := Int.mul_le_mul_of_nonneg_right (by omega) (by omega)
  have h3 : (i + 1) * g = i * g + g := by rw [Int.add_mul]; omega
  omega

theorem addr_parts {t p s i o : Int} (h : addrB t p s i o = true) : rightB t p s = true ∧ (0 ≤ i ∧ i < p) ∧ 0 ≤ o ∧ o < (pageN t p s : Int) := by
  unfold addrB at h
  simpa using h
theorem addr_yes {t p s i o : Int} (h : addrB t p s i o = true) :
    addrW i o (pageN t p s) = addrI t p s i o ∧ spotB t p s (addrI t p s i o) = true ∧ spotP t p s (addrI t p s i o) = i ∧ spotO t p s (addrI t p s i o) = o ∧ 1024 ≤ addrI t p s i o ∧ addrI t p s i o ≤ 1075838976 := by
  obtain ⟨hr, ⟨hi, hi'⟩, ho, ho'⟩ := addr_parts h
  obtain ⟨g, q, hg, rfl, hb, q1, q2, g1, g2, _, _, _, qg⟩ := right_nums hr
  rw [hg] at ho'
  have hm := mul_bounds hi hi' (show (0 : Int) < g by omega)
  have hsp := split_at (i := i) (show (0 : Int) < g by omega) ho ho'
  have hqg : ((q * g : Nat) : Int) = (q : Int) * (g : Int) := by push_cast; rfl
  have hI : addrI t q s i o = (i + 1) * (g : Int) + o := by unfold addrI; rw [if_pos h, hg]
  have hB : spotB t q s ((i + 1) * (g : Int) + o) = true := by
    unfold spotB
    rw [hg, hb, decide_eq_true_iff, hqg]
    omega
  rw [hI]
  refine ⟨?_, hB, ?_, ?_, by omega, by omega⟩
  · unfold addrW
    rw [hg, i64_same (x := i + 1) (by omega) (by omega), i64_same (x := (i + 1) * (g : Int)) (by omega) (by omega), i64_same (by omega) (by omega)]
  · unfold spotP
    rw [if_pos hB, hg, hsp.1]
    omega
  · unfold spotO
    rw [if_pos hB, hg, hsp.2]
theorem spot_parts {t p s a : Int} (h : spotB t p s a = true) :
    addrB t p s (spotP t p s a) (spotO t p s a) = true ∧ addrI t p s (spotP t p s a) (spotO t p s a) = a ∧ 1024 ≤ a ∧ a ≤ 1074790400 ∧ (0 ≤ spotP t p s a ∧ spotP t p s a < 1024) ∧ 0 ≤ spotO t p s a ∧ spotO t p s a < 1048576 := by
  have hr := spot_right h
  have h' := h
  unfold spotB at h'
  rw [decide_eq_true_iff] at h'
  obtain ⟨g, q, hg, rfl, hb, q1, q2, g1, g2, _, _, _, qg⟩ := right_nums hr
  rw [hg, hb] at h'
  have hP : spotP t q s a = a / (g : Int) - 1 := by unfold spotP; rw [if_pos h, hg]
  have hO : spotO t q s a = a % (g : Int) := by unfold spotO; rw [if_pos h, hg]
  rw [hP, hO]
  have hqg : ((q * g : Nat) : Int) = (q : Int) * (g : Int) := by push_cast; rfl
  have m0 := Int.emod_nonneg a (show (g : Int) ≠ 0 by omega)
  have m1 := Int.emod_lt_of_pos a (show (0 : Int) < g by omega)
  have d1 : 1 ≤ a / (g : Int) := (Int.le_ediv_iff_mul_le (by omega)).2 (by omega)
  have d2 : a / (g : Int) < (q : Int) + 1 := by
    refine (Int.ediv_lt_iff_lt_mul (by omega)).2 ?_
    rw [Int.add_mul]
    omega
  have hB : addrB t q s (a / (g : Int) - 1) (a % (g : Int)) = true := by
    unfold addrB
    rw [hr, hg, Bool.true_and, decide_eq_true_iff]
    exact ⟨⟨by omega, by omega⟩, m0, m1⟩
  refine ⟨hB, ?_, by omega, by omega, by omega, by omega⟩
  unfold addrI
  rw [if_pos hB, hg, Int.sub_add_cancel, Int.mul_comm]
  exact Int.mul_ediv_add_emod a g
theorem addrI_no {t p s i o : Int} (h : addrB t p s i o = false) : addrI t p s i o = 0 := by unfold addrI; rw [h]; rfl
def slotB (t p s k o : Int) : Bool := rightB t p s && decide (0 < sizeN s k ∧ 0 ≤ o ∧ o % (sizeN s k : Int) = 0 ∧ o / (sizeN s k : Int) < (slotI k : Int))
def slotR (t p s k o : Int) : Int := if slotB t p s k o then o / (sizeN s k : Int) else 0
theorem slot_at {t p s k o : Int} (hr : rightB t p s = true) (i : Nat) (hi : i < slotI k) (ho : o = (i : Int) * (sizeN s k : Int)) : slotB t p s k o = true ∧ slotR t p s k o = i := by
  have h' := (rightB_iff t p s).1 hr
  have hk : 0 ≤ k ∧ k < 9 := by
    have := mt (slotI_zero (k := k)).2 (by omega)
    omega
  obtain ⟨k, rfl⟩ : ∃ n : Nat, k = n := ⟨k.toNat, by omega⟩
  have hz := size_pos (s := s) h'.2.2 (k := k) (by omega)
  have e1 : o / (sizeN s (k : Int) : Int) = (i : Int) := by rw [ho]; exact Int.mul_ediv_cancel _ (by omega)
  have e2 : o % (sizeN s (k : Int) : Int) = 0 := by rw [ho]; exact Int.mul_emod_left _ _
  have e3 : 0 ≤ o := by rw [ho]; exact Int.mul_nonneg (by omega) (by omega)
  have hB : slotB t p s (k : Int) o = true := by
    unfold slotB
    rw [hr, Bool.true_and, decide_eq_true_iff, e1]
    exact ⟨hz, e3, e2, by omega⟩
  refine ⟨hB, ?_⟩
  unfold slotR
  rw [if_pos hB, e1]
theorem slot_parts {t p s k o : Int} (h : slotB t p s k o = true) : rightB t p s = true ∧ ∃ i : Nat, i < slotI k ∧ o = (i : Int) * (sizeN s k : Int) ∧ slotR t p s k o = i := by
  have hh := h
  unfold slotB at hh
  simp only [Bool.and_eq_true, decide_eq_true_eq] at hh
  obtain ⟨hr, h1, h2, h3, h4⟩ := hh
  refine ⟨hr, (o / (sizeN s k : Int)).toNat, ?_, ?_, ?_⟩
  · have := Int.ediv_nonneg h2 (show (0 : Int) ≤ sizeN s k by omega)
    omega
  · have h5 := Int.ediv_nonneg h2 (show (0 : Int) ≤ sizeN s k by omega)
    have h6 := Int.mul_ediv_add_emod o (sizeN s k)
    rw [Int.toNat_of_nonneg h5, Int.mul_comm]
    omega
  · have h5 := Int.ediv_nonneg h2 (show (0 : Int) ≤ sizeN s k by omega)
    unfold slotR
    rw [if_pos h, Int.toNat_of_nonneg h5]
theorem slot_in {s k : Int} (hs : 10 ≤ s ∧ s ≤ 20) {i : Nat} (hi : i < slotI k) : (i + 1) * sizeN s k ≤ pageS s ∧ 16 ≤ sizeN s k ∧ slotI k * sizeN s k ≤ pageS s := by
  have hk : 0 ≤ k ∧ k < 9 := by
    have := mt (slotI_zero (k := k)).2 (by omega)
    omega
  obtain ⟨k, rfl⟩ : ∃ n : Nat, k = n := ⟨k.toNat, by omega⟩
  obtain ⟨_, h16, hle, _⟩ := size_facts hs (k := k) (by omega)
  rw [slotI_nat] at hi ⊢
  have h1 : (i + 1) * sizeN s (k : Int) ≤ slotN k * sizeN s (k : Int) := Nat.mul_le_mul_right _ hi
  rw [Nat.mul_comm] at hle
  exact ⟨by omega, h16, hle⟩

def atB (t p s k i j : Int) : Bool := decide (0 ≤ j ∧ j < (slotI k : Int)) && addrB t p s i (j * (sizeN s k : Int))
def atI (t p s k i j : Int) : Int := if atB t p s k i j then addrI t p s i (j * (sizeN s k : Int)) else 0
theorem at_out {t p s k i j : Int} (h : ¬ (0 ≤ j ∧ j < (slotI k : Int))) : atB t p s k i j = false ∧ atI t p s k i j = 0 := by
  have : atB t p s k i j = false := by unfold atB; simp only [decide_eq_false h, Bool.false_and]
  exact ⟨this, by unfold atI; rw [this]; rfl⟩
theorem at_in {t p s k i j : Int} (h : 0 ≤ j ∧ j < (slotI k : Int)) : atB t p s k i j = addrB t p s i (j * (sizeN s k : Int)) ∧ atI t p s k i j = addrI t p s i (j * (sizeN s k : Int)) := by
  have : atB t p s k i j = addrB t p s i (j * (sizeN s k : Int)) := by unfold atB; simp only [decide_eq_true h, Bool.true_and]
  refine ⟨this, ?_⟩
  unfold atI
  rw [this]
  cases hb : addrB t p s i (j * (sizeN s k : Int))
  · rw [addrI_no hb]; rfl
  · rfl
end
end Go.Proofs.YtioolaaphbddbaaGreatDoor
