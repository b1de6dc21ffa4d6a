/-
  What link.Push, and link.Pull, do. Written by link/gen_push.py.
-/
import Derived.Test.YtlpcdfcghgapkaaA03
import Derived.Test.YtlpcdfcghgapkaaA02
import Derived.Below
import Derived.Test.YtlpcdfcghgapkaaA01
import Derived.Laws.MakeOwn
import Derived.Test.YtlpcdfcghgapkaaAKit
namespace Go.Proofs.Ytlpcdfcghgapkaa
open Go.ChangeShapes Go.WideShapes Go.ChangeAt Go.RowKit Go.Maps
set_option linter.unusedVariables false
set_option linter.unusedSimpArgs false
set_option maxRecDepth 100000
section
section
variable {base b n : Nat} {wh : Bool} {K : Nat -> Option Nat} {st : Vst} {w w0 : World} {A G : Nat -> Prop} {t q s hd : Int}

theorem lkPush_no (hn : n < 2 ^ 40) (p : Int) (hp : pgB q p = false) (h : (vOb base b n wh K).At w0 A G st w) :
  Calls Try.prog 38 #[.pointer (some ⟨b, 0, none⟩), .agg #[.int .i64 t, .int .i64 q, .int .i64 s], .int .i64 hd, .int .i64 p] w fun e w' => e = .returned (.tuple #[]) /\ (vOb base b n wh K).At w0 A G (st) w' /\ Stay G w w' := by
 have W0 := hidp (WK.two h (.cells #[.int .i64 t, .int .i64 q, .int .i64 s] 23) 84 #[.pointer (some ⟨b, 0, none⟩), .int .i64 t, .int .i64 q, .int .i64 s, .int .i64 hd, .int .i64 p])
 obtain ⟨x0, x1, x2, x3, x4, x5⟩ := W0.out.held.six'
 have HK := hidp hp
 clear h hp
 go_enter Try.func38, Try.ntmps38
 go_wp2_with fail
 refine (lkIs_c b t q s hd p _).mono ?_; rintro e w1 ⟨rfl, hb⟩; rw [HK.out]; have W1 := hidp (W0.out.keep hb); clear hb W0
 go_wp2
 (try simp only [Exit.inBlock, Exit.then])
 refine bodyPost_ret (results_none rfl _ _ _) rfl ?_
 exact ⟨rfl, W1.out.fin⟩

set_option maxHeartbeats 3200000 in
theorem lkPush_yes (hn : n < 2 ^ 40) (k : Nat) (hk : pgB q (k : Int) = true) (hk31 : k < 2 ^ 31) (h : (vOb base b n wh K).At w0 A G st w) :
  Calls Try.prog 38 #[.pointer (some ⟨b, 0, none⟩), .agg #[.int .i64 t, .int .i64 q, .int .i64 s], .int .i64 hd, .int .i64 (k : Int)] w fun e w' => e = .returned (.tuple #[]) /\ (vOb base b n wh K).At w0 A G (pushS n K t q s hd k st) w' /\ Stay G w w' := by
 have W0 := hidp (WK.two h (.cells #[.int .i64 t, .int .i64 q, .int .i64 s] 23) 84 #[.pointer (some ⟨b, 0, none⟩), .int .i64 t, .int .i64 q, .int .i64 s, .int .i64 hd, .int .i64 (k : Int)])
 obtain ⟨x0, x1, x2, x3, x4, x5⟩ := W0.out.held.six'
 have HK := hidp hk
 obtain ⟨l, hl⟩ : ∃ l, getV n K st hd = l := ⟨_, rfl⟩
 have hl32 : l < 2 ^ 32 := by rw [<- hl]; exact vAt_lt h hd
 have HL := hidp hl
 have HQ : Hid (push1 n K t q s hd k st = putS n (putS n (getS n K st hd) (pageI t q s (k : Int) 2) l) (pageI t q s (k : Int) 3) 0) := hidp (by unfold push1; rw [hl])
 have HP : Hid (l = 0 -> pushS n K t q s hd k st = putS n (push1 n K t q s hd k st) hd (k + 1)) := hidp (fun e => by unfold pushS push2; rw [if_pos (hl.trans e)])
 have HR : Hid (l ≠ 0 -> pushS n K t q s hd k st = putS n (putS n (push1 n K t q s hd k st) (pageI t q s ((l : Int) - 1) 3) (k + 1)) hd (k + 1)) := hidp (fun e => by unfold pushS push2; rw [if_neg (by rw [hl]; exact e), hl])
 clear hl
 clear h hk
 go_enter Try.func38, Try.ntmps38
 go_wp2_with fail
 refine (lkIs_c b t q s hd k _).mono ?_; rintro e w1 ⟨rfl, hb⟩; have W1 := hidp (W0.out.keep hb); clear hb W0; rw [HK.out]
 obtain ⟨x0, x1, x2, x3, x4, x5⟩ := W1.out.held.six'
 go_wp2_with fail
 refine (lkFirst_c hn W1.out.at_).mono ?_; rintro e w2 ⟨rfl, h1, h2⟩; have W2 := hidp (W1.out.call h1 h2); clear h1 h2 W1; rw [HL.out]
 obtain ⟨x0, x1, x2, x3, x4, x5⟩ := W2.out.held.six'
 go_wp2_with fail
 refine (lkSetNext_c hn l hl32 W2.out.at_).mono ?_; rintro e w3 ⟨rfl, h1, h2⟩; have W3 := hidp (W2.out.call h1 h2); clear h1 h2 W2
 obtain ⟨x0, x1, x2, x3, x4, x5⟩ := W3.out.held.six'
 go_wp2_with fail
 refine (lkSetPrev_c hn 0 (by omega) W3.out.at_).mono ?_; rintro e w4 ⟨rfl, h1, h2⟩; have W4 := hidp (W3.out.call h1 h2); clear h1 h2 W3
 obtain ⟨x0, x1, x2, x3, x4, x5⟩ := W4.out.held.six'
 rw [<- HQ.out] at W4
 clear HL HQ HK
 by_cases hz : l = 0
 ·have HE := hidp (HP.out hz)
  subst hz
  clear HP HR
  go_wp2_with fail
  refine wp_region_held_drew (S := (fun w' => w'.cell? ⟨w.heap.size + 1, 0, none⟩ = some (.pointer (some ⟨b, 0, none⟩)) /\ w'.cell? ⟨w.heap.size + 1, 1, none⟩ = some (.int .i64 t) /\ w'.cell? ⟨w.heap.size + 1, 2, none⟩ = some (.int .i64 q) /\ w'.cell? ⟨w.heap.size + 1, 3, none⟩ = some (.int .i64 s) /\ w'.cell? ⟨w.heap.size + 1, 4, none⟩ = some (.int .i64 hd) /\ w'.cell? ⟨w.heap.size + 1, 5, none⟩ = some (.int .i64 (k : Int)))) (by kernel_rfl) ?_ (fun hHeld => ?_)
  ·(try dsimp only)
   first | exact W4.out.drew.held.six' | exact W5.out.held.six' | exact W6.out.held.six' | exact hHeld
  refine tkz 0 ?_
  refine tkz 1 ?_
  refine tkz 2 ?_
  refine rdz 3 fun K hK => ?_
  go_simp
  refine (lkLink_c b t q s hd k hk31 _).mono ?_; rintro e w5 ⟨rfl, hb⟩; have W5 := hidp (W4.out.drew.keep hb); clear hb W4
  refine hK.out _ _ ?_ (fun hHeld => ?_)
  ·(try dsimp only)
   first | exact W4.out.drew.held.six' | exact W5.out.held.six' | exact W6.out.held.six' | exact hHeld
  clear hK K
  (try simp only [Act.put, gA, gB, gC, sA, sB, sC])
  refine rdz 4 fun K hK => ?_
  go_simp
  refine (lkSetFirst_c hn (k + 1) (by omega) W5.out.at_).mono ?_; rintro e w6 ⟨rfl, h1, h2⟩; have W6 := hidp (W5.out.call h1 h2); clear h1 h2 W5
  refine hK.out _ _ ?_ (fun hHeld => ?_)
  ·(try dsimp only)
   first | exact W4.out.drew.held.six' | exact W5.out.held.six' | exact W6.out.held.six' | exact hHeld
  clear hK K
  (try simp only [Act.put, gA, gB, gC, sA, sB, sC])
  refine dnz ?_
  obtain ⟨x0, x1, x2, x3, x4, x5⟩ := W6.out.held.six'
  go_wp2
  go_end0
  exact ⟨rfl, by rw [HE.out]; exact W6.out.fin⟩
 ·have HE := hidp (HR.out hz)
  have t1 : ((l : Int) == 0) = false := by simp; omega
  have t2 : ((l : Int) != 0) = true := by simp; omega
  clear HP HR
  go_wp2_with fail
  refine wp_region_held_drew (S := (fun w' => w'.cell? ⟨w.heap.size + 1, 0, none⟩ = some (.pointer (some ⟨b, 0, none⟩)) /\ w'.cell? ⟨w.heap.size + 1, 1, none⟩ = some (.int .i64 t) /\ w'.cell? ⟨w.heap.size + 1, 2, none⟩ = some (.int .i64 q) /\ w'.cell? ⟨w.heap.size + 1, 3, none⟩ = some (.int .i64 s) /\ w'.cell? ⟨w.heap.size + 1, 4, none⟩ = some (.int .i64 hd) /\ w'.cell? ⟨w.heap.size + 1, 5, none⟩ = some (.int .i64 (k : Int)))) (by kernel_rfl) ?_ (fun hHeld => ?_)
  ·(try dsimp only)
   first | exact W4.out.drew.held.six' | exact W5.out.held.six' | exact W6.out.held.six' | exact W7.out.held.six' | exact hHeld
  refine tkz 0 ?_
  refine tkz 1 ?_
  refine tkz 2 ?_
  refine tkz 4 ?_
  refine rdz 3 fun K hK => ?_
  go_simp
  refine (lkTo_c b t q s hd l hl32 _).mono ?_; rintro e w5 ⟨rfl, hb⟩; have W5 := hidp (W4.out.drew.keep hb); clear hb W4
  refine hK.out _ _ ?_ (fun hHeld => ?_)
  ·(try dsimp only)
   first | exact W4.out.drew.held.six' | exact W5.out.held.six' | exact W6.out.held.six' | exact W7.out.held.six' | exact hHeld
  clear hK K
  (try simp only [Act.put, gA, gB, gC, sA, sB, sC])
  refine rdz 5 fun K hK => ?_
  go_simp
  refine (lkLink_c b t q s hd k hk31 _).mono ?_; rintro e w6 ⟨rfl, hb⟩; have W6 := hidp (W5.out.keep hb); clear hb W5
  refine hK.out _ _ ?_ (fun hHeld => ?_)
  ·(try dsimp only)
   first | exact W4.out.drew.held.six' | exact W5.out.held.six' | exact W6.out.held.six' | exact W7.out.held.six' | exact hHeld
  clear hK K
  (try simp only [Act.put, gA, gB, gC, sA, sB, sC])
  refine rdz 6 fun K hK => ?_
  go_simp
  refine (lkSetPrev_c hn (k + 1) (by omega) W6.out.at_).mono ?_; rintro e w7 ⟨rfl, h1, h2⟩; have W7 := hidp (W6.out.call h1 h2); clear h1 h2 W6
  refine hK.out _ _ ?_ (fun hHeld => ?_)
  ·(try dsimp only)
   first | exact W4.out.drew.held.six' | exact W5.out.held.six' | exact W6.out.held.six' | exact W7.out.held.six' | exact hHeld
  clear hK K
  (try simp only [Act.put, gA, gB, gC, sA, sB, sC])
  refine dnz ?_
  obtain ⟨x0, x1, x2, x3, x4, x5⟩ := W7.out.held.six'
  go_wp2_with fail
  refine wp_region_held_drew (S := (fun w' => w'.cell? ⟨w.heap.size + 1, 0, none⟩ = some (.pointer (some ⟨b, 0, none⟩)) /\ w'.cell? ⟨w.heap.size + 1, 1, none⟩ = some (.int .i64 t) /\ w'.cell? ⟨w.heap.size + 1, 2, none⟩ = some (.int .i64 q) /\ w'.cell? ⟨w.heap.size + 1, 3, none⟩ = some (.int .i64 s) /\ w'.cell? ⟨w.heap.size + 1, 4, none⟩ = some (.int .i64 hd) /\ w'.cell? ⟨w.heap.size + 1, 5, none⟩ = some (.int .i64 (k : Int)))) (by kernel_rfl) ?_ (fun hHeld => ?_)
  ·(try dsimp only)
   first | exact W7.out.drew.held.six' | exact W8.out.held.six' | exact W9.out.held.six' | exact hHeld
  refine tkz 0 ?_
  refine tkz 1 ?_
  refine tkz 2 ?_
  refine rdz 3 fun K hK => ?_
  go_simp
  refine (lkLink_c b t q s hd k hk31 _).mono ?_; rintro e w8 ⟨rfl, hb⟩; have W8 := hidp (W7.out.drew.keep hb); clear hb W7
  refine hK.out _ _ ?_ (fun hHeld => ?_)
  ·(try dsimp only)
   first | exact W7.out.drew.held.six' | exact W8.out.held.six' | exact W9.out.held.six' | exact hHeld
  clear hK K
  (try simp only [Act.put, gA, gB, gC, sA, sB, sC])
  refine rdz 4 fun K hK => ?_
  go_simp
  refine (lkSetFirst_c hn (k + 1) (by omega) W8.out.at_).mono ?_; rintro e w9 ⟨rfl, h1, h2⟩; have W9 := hidp (W8.out.call h1 h2); clear h1 h2 W8
  refine hK.out _ _ ?_ (fun hHeld => ?_)
  ·(try dsimp only)
   first | exact W7.out.drew.held.six' | exact W8.out.held.six' | exact W9.out.held.six' | exact hHeld
  clear hK K
  (try simp only [Act.put, gA, gB, gC, sA, sB, sC])
  refine dnz ?_
  obtain ⟨x0, x1, x2, x3, x4, x5⟩ := W9.out.held.six'
  go_wp2
  go_end0
  exact ⟨rfl, by rw [HE.out]; exact W9.out.fin⟩
theorem lkPush_c (hn : n < 2 ^ 40) (hq : q <= 2 ^ 31) (p : Int) (h : (vOb base b n wh K).At w0 A G st w) :
  Calls Try.prog 38 #[.pointer (some ⟨b, 0, none⟩), .agg #[.int .i64 t, .int .i64 q, .int .i64 s], .int .i64 hd, .int .i64 p] w fun e w' => e = .returned (.tuple #[]) /\ (vOb base b n wh K).At w0 A G (pushI n K t q s hd p st) w' /\ Stay G w w' := by
 cases hp : pgB q p with
 | false => rw [(pgB_none hp).1]; exact lkPush_no hn p hp h
 | true =>
  have h1 := (pgB_iff _ _).1 hp
  obtain ⟨k, rfl⟩ := Int.eq_ofNat_of_zero_le h1.1
  rw [(pgB_nat hp).1]
  exact lkPush_yes hn k hp (by omega) h

end
end
section
theorem ofI_log {n : Int} (h : n <= 1024) : HM.logI n = ofI n := by
 unfold ofI
 by_cases h1 : n < 1
 ·rw [if_pos (.inl h1), HM.logI_no n h1]
 ·rw [if_neg (by omega)]
theorem ofI_high {n : Int} (h : 1024 < n) : ofI n = -1 := by unfold ofI; rw [if_pos (.inr h)]
theorem ofI_low {n : Int} (h : n < 1) : ofI n = -1 := by unfold ofI; rw [if_pos (.inl h)]

theorem addS_yes {n : Nat} {K : Nat -> Option Nat} {t q s : Int} {k m : Nat} {st : Vst} (h : pgB q (k : Int) = true /\ 1 <= (m : Int) /\ (m : Int) <= q - (k : Int)) :
  addS n K t q s (k : Int) (m : Int) st = pushI n K t q s (binH (m : Int)) (k : Int) (putS n (putS n st (pageI t q s (k : Int) 0) (infoV 1 (m : Int) 0)) (pageI t q s ((k : Int) + (m : Int) - 1) 1) (k + 1)) := by
 unfold addS
 rw [if_pos h, Int.toNat_natCast]
theorem bnOf_c (n : Int) (h0 : -9223372036854775808 <= n) (h1 : n <= 9223372036854775807) (w : World) :
  Calls Try.prog 40 #[.int .i64 n] w fun e w' => e = .returned (.int .i64 (ofI n)) /\ w = w' := by
 by_cases h : 1024 < n
 ·have t0 : decide ((1024 : Int) < n) = true := decide_eq_true h
  have HO := hidp (ofI_high h)
  go_enter Try.func40, Try.ntmps40
  go_wp2
  go_ret
  exact ⟨by rw [HO.out]; rfl, rfl⟩
 ·have t0 : decide ((1024 : Int) < n) = false := decide_eq_false h
  have HO : Hid (HM.logI n = ofI n) := hidp (ofI_log (by omega))
  go_enter Try.func40, Try.ntmps40
  go_wp2_with fail
  refine (Log_c n h0 h1 _).mono ?_
  rintro e w1 ⟨rfl, rfl⟩
  rw [HO.out]
  go_wp2
  go_ret
  exact ⟨rfl, rfl⟩
theorem r14Of_c (n : Int) (h0 : -9223372036854775808 <= n) (h1 : n <= 9223372036854775807) (w : World) :
  Calls Try.prog 19 #[.int .i64 n] w fun e w' => e = .returned (.int .i64 (ofI n)) /\ w = w' := by
 by_cases hl : n < 1
 ·have t0 : decide (n < (1 : Int)) = true := decide_eq_true hl
  have HO := hidp (ofI_low hl)
  go_enter Try.func19, Try.ntmps19
  go_wp2
  go_ret
  exact ⟨by rw [HO.out]; rfl, rfl⟩
 ·have t0 : decide (n < (1 : Int)) = false := decide_eq_false hl
  by_cases h : 1024 < n
  ·have t1 : decide ((1024 : Int) < n) = true := decide_eq_true h
   have HO := hidp (ofI_high h)
   go_enter Try.func19, Try.ntmps19
   go_wp2
   go_ret
   exact ⟨by rw [HO.out]; rfl, rfl⟩
  ·have t1 : decide ((1024 : Int) < n) = false := decide_eq_false h
   have HO : Hid (HM.logI n = ofI n) := hidp (ofI_log (by omega))
   go_enter Try.func19, Try.ntmps19
   go_wp2_with fail
   refine (RLog_c n h0 h1 _).mono ?_
   rintro e w1 ⟨rfl, rfl⟩
   rw [HO.out]
   go_wp2
   go_ret
   exact ⟨rfl, rfl⟩

theorem bnIsPage_c (t q s p : Int) (w : World) :
  Calls Try.prog 34 #[.agg #[.int .i64 t, .int .i64 q, .int .i64 s], .int .i64 p] w fun e w' => e = .returned (.bool (pgB q p)) /\ Below w.heap.size w w' := by
 have hB := Bnew (B0 w) (.cells #[.int .i64 t, .int .i64 q, .int .i64 s] 23)
 obtain ⟨x0, x1, x2⟩ := (Held.new w 23 #[.int .i64 t, .int .i64 q, .int .i64 s]).three
 unfold pgB
 by_cases h0 : 0 <= p
 ·have t0 : decide ((0 : Int) <= p) = true := decide_eq_true h0
  obtain ⟨c, t1⟩ : ∃ c, decide (p < q) = c := ⟨_, rfl⟩
  rw [t0, t1]
  cases c with
  | true =>
   go_enter Try.func34, Try.ntmps34
   go_wp2
   go_ret
   exact ⟨rfl, hB⟩
  | false =>
   go_enter Try.func34, Try.ntmps34
   go_wp2
   go_ret
   exact ⟨rfl, hB⟩
 ·have t0 : decide ((0 : Int) <= p) = false := decide_eq_false h0
  rw [t0]
  go_enter Try.func34, Try.ntmps34
  go_wp2
  go_ret
  exact ⟨rfl, hB⟩

theorem r9Value_c (k l c : Int) (w : World) :
  Calls Try.prog 20 #[.int .i64 k, .int .i64 l, .int .i64 c] w fun e w' => e = .returned (.int .u32 ((infoV k l c : Nat) : Int)) /\ Below w.heap.size w w' := by
 go_enter Try.func20, Try.ntmps20
 go_wp2_with fail
 refine (r9Put_c k l c _).mono ?_
 rintro e w1 ⟨rfl, hb⟩
 go_wp2
 go_ret
 exact ⟨rfl, hb⟩

section
variable {base b n : Nat} {wh all : Bool} {K : Nat -> Option Nat} {st : Vst} {w w0 : World} {A G : Nat -> Prop} {t q s : Int}
end
end
end Go.Proofs.Ytlpcdfcghgapkaa

namespace Go.Proofs.Ytlpcdfcghgapkaa.SM

def stp (r : Nat) (b : Bool) : Nat := if (r.testBit 0 != b) then r / 2 ^^^ 2197175160 else r / 2
theorem stp_lt {r : Nat} (h : r < 2 ^ 32) (b : Bool) : stp r b < 2 ^ 32 := by
 unfold stp
 split
 ·exact Nat.xor_lt_two_pow (by omega) (by omega)
 ·omega
theorem half_xor (r s : Nat) : (r ^^^ s) / 2 = r / 2 ^^^ s / 2 := by
 refine Nat.eq_of_testBit_eq fun i => ?_
 rw [Nat.testBit_div_two, Nat.testBit_xor, Nat.testBit_xor, Nat.testBit_div_two, Nat.testBit_div_two]
theorem stp_xor (r s : Nat) (b c : Bool) : stp r b ^^^ stp s c = stp (r ^^^ s) (b != c) := by
 unfold stp
 rw [half_xor, Nat.testBit_xor]
 generalize r / 2 = x
 generalize s / 2 = y
 refine Nat.eq_of_testBit_eq fun i => ?_
 generalize hz : (2197175160 : Nat) = z
 cases r.testBit 0 <;> cases s.testBit 0 <;> cases b <;> cases c <;> simp <;> cases x.testBit i <;> cases y.testBit i <;> cases z.testBit i <;> rfl
def rn (f : Nat -> Bool) (r : Nat) : Nat -> Nat
 | 0 => r
 | p + 1 => stp (rn f r p) (f p)
theorem rn_lt (f : Nat -> Bool) {r : Nat} (h : r < 2 ^ 32) (p : Nat) : rn f r p < 2 ^ 32 := by
 induction p with
 | zero => exact h
 | succ p ih => exact stp_lt ih _
def nx (r x k : Nat) : Nat := rn (fun i => x.testBit i) r k
def nextN (r x : Nat) : Nat := nx r x 64
theorem nx_succ (r x k : Nat) : nx r x (k + 1) = stp (nx r x k) (x.testBit k) := rfl
theorem nx_lt {r : Nat} (h : r < 2 ^ 32) (x k : Nat) : nx r x k < 2 ^ 32 := rn_lt _ h k
def regs (r : Nat) (ws : List Nat) : Nat := ws.foldl nextN r
theorem regs_lt {r : Nat} (h : r < 2 ^ 32) (ws : List Nat) : regs r ws < 2 ^ 32 := by
 unfold regs
 induction ws generalizing r with
 | nil => exact h
 | cons x ws ih => exact ih (nx_lt h x 64)
theorem regs_snoc (r : Nat) (ws : List Nat) (x : Nat) : regs r (ws ++ [x]) = nextN (regs r ws) x := by unfold regs; simp
theorem regs_take (r : Nat) (ws : List Nat) (k : Nat) (h : k < ws.length) : regs r (ws.take (k + 1)) = nextN (regs r (ws.take k)) (ws.getD k 0) := by
 rw [List.take_succ_eq_append_getElem h, regs_snoc]
 simp [List.getD, List.getElem?_eq_getElem h]
def ofN (ws : List Nat) : Nat := 4294967295 - regs 4294967295 ws

end Go.Proofs.Ytlpcdfcghgapkaa.SM

namespace Go.Proofs.Ytlpcdfcghgapkaa
open Go.ChangeShapes Go.WideShapes Go.ChangeAt Go.RowKit
set_option linter.unusedVariables false
section
def head7 (t p s : Int) : List Nat := [0x4e41435245303031, 1, wordN t p s, (lW t p s).toNat, 0, 0, 0]
def headL (t p s : Int) : List Nat := head7 t p s ++ [SM.ofN (head7 t p s)]
theorem word_lt (t p s : Int) : wordN t p s < 2 ^ 64 := by
 unfold wordN
 split
 ·rename_i h
  have := (rightB_iff t p s).1 h
  omega
 ·omega
theorem headL_len (t p s : Int) : (headL t p s).length = 8 := rfl
theorem head7_lt (t p s : Int) : ∀ x ∈ head7 t p s, x < 2 ^ 64 := by
 have h1 := word_lt t p s
 have h2 := words_bounds t p s
 intro x hx
 simp only [head7, List.mem_cons, List.not_mem_nil, or_false] at hx
 omega
theorem ofN_lt (ws : List Nat) : SM.ofN ws < 2 ^ 32 := by unfold SM.ofN; omega
end
section
theorem First_c (w : World) : Calls Try.prog 70 #[] w fun e w' => e = .returned (.int .u32 4294967295) /\ w = w' := by
 go_enter Try.func70, Try.ntmps70
 go_wp2
 go_ret
 exact ⟨rfl, rfl⟩
theorem not_u32 (r : Nat) (h : r < 2 ^ 32) : bits .xor .u32 IntKind.u32.max (r : Int) = ((4294967295 - r : Nat) : Int) := by
 have e := u32_xor_nat 4294967295 r (by omega) h
 have e2 : 4294967295 ^^^ r = 4294967295 - r := by
  refine Nat.eq_of_testBit_eq fun i => ?_
  have h1 := Nat.testBit_two_pow_sub_succ (n := 32) (x := r) h i
  have h2 := Nat.testBit_two_pow_sub_one 32 i
  rw [show 4294967295 - r = 2 ^ 32 - (r + 1) from by omega, h1, Nat.testBit_xor, show (4294967295 : Nat) = 2 ^ 32 - 1 from rfl, h2]
  by_cases hi : i < 32
  ·simp [hi]
  ·simp [hi, Nat.testBit_lt_two_pow (Nat.lt_of_lt_of_le h (Nat.pow_le_pow_right (by omega) (Nat.le_of_not_lt hi)))]
 rw [e2] at e
 exact e
theorem Last_c (r : Nat) (hr : r < 2 ^ 32) (w : World) : Calls Try.prog 72 #[.int .u32 (r : Int)] w fun e w' => e = .returned (.int .u32 ((4294967295 - r : Nat) : Int)) /\ w = w' := by
 go_enter Try.func72, Try.ntmps72
 go_wp2
 go_ret
 exact ⟨ret_int (not_u32 r hr), rfl⟩
theorem and_one32 (n : Nat) (h : n < 2 ^ 32) : bits .and .u32 (n : Int) 1 = ((n % 2 : Nat) : Int) := by
 have := u32_and_nat n 1 h (by omega)
 rw [nat_mask1] at this
 exact this
theorem and_one64 (n : Nat) (h : n < 2 ^ 64) : bits .and .u64 (n : Int) 1 = ((n % 2 : Nat) : Int) := by
 have := u64_and_nat n 1 h (by omega)
 rw [nat_mask1] at this
 exact this
theorem move_math (r : Nat) (h : r < 2 ^ 32) : bits .xor .u32 ((r : Int) / 2) (IntKind.u32.wrap (2197175160 * bits .and .u32 (r : Int) 1)) = ((SM.stp r false : Nat) : Int) := by
 rw [and_one32 r h]
 have e : (r : Int) / 2 = ((r / 2 : Nat) : Int) := by omega
 unfold SM.stp
 rw [Nat.testBit_zero, e]
 rcases Nat.mod_two_eq_zero_or_one r with h0 | h0
 ·rw [h0, show IntKind.u32.wrap (2197175160 * ((0 : Nat) : Int)) = ((0 : Nat) : Int) from rfl, u32_xor_nat (r / 2) 0 (by omega) (by omega)]
  simp
 ·rw [h0, show IntKind.u32.wrap (2197175160 * ((1 : Nat) : Int)) = ((2197175160 : Nat) : Int) from rfl, u32_xor_nat (r / 2) 2197175160 (by omega) (by omega)]
  simp
theorem move_c (r : Nat) (hr : r < 2 ^ 32) (w : World) : Calls Try.prog 81 #[.int .u32 (r : Int)] w fun e w' => e = .returned (.int .u32 ((SM.stp r false : Nat) : Int)) /\ w = w' := by
 go_enter Try.func81, Try.ntmps81
 go_wp2
 go_ret
 exact ⟨ret_int (move_math r hr), rfl⟩
theorem xor_const (r : Nat) (hr : r < 2 ^ 32) : bits .xor .u32 ((r : Int) / 2) 2197175160 = ((r / 2 ^^^ 2197175160 : Nat) : Int) := by
 have e : (r : Int) / 2 = ((r / 2 : Nat) : Int) := by omega
 rw [e]
 exact u32_xor_nat (r / 2) 2197175160 (by omega) (by omega)
theorem odd_nat (r : Nat) : (((r : Int) % 2) == 1) = r.testBit 0 := by
 have := odd_bit r 0
 simpa using this
theorem r2bit_c (r : Nat) (b : Bool) (hr : r < 2 ^ 32) (w : World) : Calls Try.prog 82 #[.int .u32 (r : Int), .bool b] w fun e w' => e = .returned (.int .u32 ((SM.stp r b : Nat) : Int)) /\ w = w' := by
 have HX := hidp (xor_const r hr)
 have HO := hidp (odd_nat r)
 go_enter Try.func82, Try.ntmps82
 go_wp2
 ·rename_i h
  go_ret
  exact ⟨ret_int (by rw [HO.out] at h; rw [HX.out]; unfold SM.stp; rw [if_pos]; simpa using h), rfl⟩
 ·rename_i h
  go_ret
  exact ⟨ret_int (by rw [HO.out] at h; unfold SM.stp; rw [if_neg (by simpa using h)]; omega), rfl⟩

theorem stp_over (r : Nat) (b : Bool) : SM.stp (r ^^^ b.toNat) false = SM.stp r b := by
 have h := SM.stp_xor r b.toNat b b
 have h2 : SM.stp b.toNat b = 0 := by cases b <;> rfl
 rw [h2] at h
 simpa using h.symm
theorem over_math (r x k : Nat) (hr : r < 2 ^ 32) (hx : x < 2 ^ 64) : bits .xor .u32 (r : Int) (bits .and .u64 ((x : Int) / 2 ^ k) 1 % 4294967296) = ((r ^^^ (x.testBit k).toNat : Nat) : Int) := by
 rw [shr_cast, and_one64 _ (Nat.lt_of_le_of_lt (Nat.div_le_self _ _) hx)]
 have e : x / 2 ^ k % 2 = (x.testBit k).toNat := by
  rw [Nat.testBit_eq_decide_div_mod_eq]
  rcases Nat.mod_two_eq_zero_or_one (x / 2 ^ k) with h | h <;> simp [h]
 rw [e]
 have hb : (x.testBit k).toNat < 2 ^ 32 := by cases x.testBit k <;> decide
 have e2 : (((x.testBit k).toNat : Nat) : Int) % 4294967296 = (((x.testBit k).toNat : Nat) : Int) := by omega
 rw [e2]
 exact u32_xor_nat r _ hr hb
theorem Next_c (r x : Nat) (hr : r < 2 ^ 32) (hx : x < 2 ^ 64) (w : World) :
  Calls Try.prog 71 #[.int .u32 (r : Int), .int .u64 (x : Int)] w fun e w' => e = .returned (.int .u32 ((SM.nextN r x : Nat) : Int)) /\ w = w' := by
 go_enter Try.func71, Try.ntmps71
 go_wp2
 go_loop [0, 6] (fun q i => ∃ k : Nat, k <= 64 /\ i = .int .i64 k /\ q = .int .u32 ((SM.nx r x k : Nat) : Int)) (fun _ i => 64 - (intOf i).toNat)
 case atStart => exact ⟨0, by omega, rfl, rfl⟩
 case round =>
  obtain ⟨k, hk, rfl, rfl⟩ := hrel
  by_cases hlt : k < 64
  ·have HN := hidp (over_math (SM.nx r x k) x k (SM.nx_lt hr x k) hx)
   have hb : SM.nx r x k ^^^ (x.testBit k).toNat < 2 ^ 32 := Nat.xor_lt_two_pow (SM.nx_lt hr x k) (by cases x.testBit k <;> decide)
   have HS : Hid (SM.stp (SM.nx r x k ^^^ (x.testBit k).toNat) false = SM.nx r x (k + 1)) := hidp ((stp_over _ _).trans (SM.nx_succ r x k).symm)
   have hn := SM.nx_lt hr x k
   generalize SM.nx r x k ^^^ (x.testBit k).toNat = y at *
   go_wp2_with fail
   rw [HN.out]
   refine (move_c y hb _).mono ?_
   rintro e w' ⟨rfl, rfl⟩
   rw [HS.out]
   go_wp2
   go_round
   case rel => exact ⟨k + 1, by omega, by go_num, rfl⟩
   case measure => simp [intOf]; omega
  ·obtain rfl : k = 64 := by omega
   go_wp2
   go_ret
   exact ⟨rfl, rfl⟩
theorem RNext_c (r x : Nat) (hr : r < 2 ^ 32) (hx : x < 2 ^ 64) (w : World) :
  Calls Try.prog 73 #[.int .u32 (r : Int), .int .u64 (x : Int)] w fun e w' => e = .returned (.int .u32 ((SM.nextN r x : Nat) : Int)) /\ w = w' := by
 have HL : Hid (∀ k : Nat, k < 32 -> (x % 4294967296).testBit ((k : Int).toNat) = x.testBit k) := hidp (fun k hk => by
  rw [show (4294967296 : Nat) = 2 ^ 32 from rfl, Nat.testBit_mod_two_pow, Int.toNat_natCast]; simp [hk])
 have HH : Hid (∀ k : Nat, (x / 4294967296).testBit ((k : Int).toNat) = x.testBit (32 + k)) := hidp (fun k => by
  rw [show (4294967296 : Nat) = 2 ^ 32 from rfl, Nat.testBit_div_two_pow, Int.toNat_natCast, Nat.add_comm])
 go_enter Try.func73, Try.ntmps73
 go_wp2
 go_loop [0, 5] (fun q i => ∃ k : Nat, k <= 32 /\ i = .int .i64 k /\ q = .int .u32 ((SM.nx r x k : Nat) : Int)) (fun _ i => 32 - (intOf i).toNat)
 case atStart => exact ⟨0, by omega, rfl, rfl⟩
 case round =>
  obtain ⟨k, hk, rfl, rfl⟩ := hrel
  have hn := SM.nx_lt hr x k
  by_cases hlt : k < 32
  ·have HS := hidp (SM.nx_succ r x k)
   have HT := hidp (HL.out k hlt)
   go_wp2_with fail
   refine (RLo_c x hx _).mono ?_
   rintro e w' ⟨rfl, rfl⟩
   go_wp2_with fail
   refine (Bit_c _ k _ (by omega) (by omega) (by omega) HT.out _).mono ?_
   rintro e w' ⟨rfl, rfl⟩
   go_wp2_with fail
   refine (r2bit_c _ _ hn _).mono ?_
   rintro e w' ⟨rfl, rfl⟩
   rw [<- HS.out]
   go_wp2
   go_round
   case rel => exact ⟨k + 1, by omega, by go_num, rfl⟩
   case measure => simp [intOf]; omega
  ·obtain rfl : k = 32 := by omega
   go_wp2
   go_loop [0, 6] (fun q i => ∃ k : Nat, k <= 32 /\ i = .int .i64 k /\ q = .int .u32 ((SM.nx r x (32 + k) : Nat) : Int)) (fun _ i => 32 - (intOf i).toNat)
   case atStart => exact ⟨0, by omega, rfl, rfl⟩
   case round =>
    obtain ⟨k, hk, rfl, rfl⟩ := hrel
    have hn := SM.nx_lt hr x (32 + k)
    by_cases hlt : k < 32
    ·have HS := hidp (SM.nx_succ r x (32 + k))
     have HT := hidp (HH.out k)
     go_wp2_with fail
     refine (RHi_c x hx _).mono ?_
     rintro e w' ⟨rfl, rfl⟩
     go_wp2_with fail
     refine (Bit_c _ k _ (by omega) (by omega) (by omega) HT.out _).mono ?_
     rintro e w' ⟨rfl, rfl⟩
     go_wp2_with fail
     refine (r2bit_c _ _ hn _).mono ?_
     rintro e w' ⟨rfl, rfl⟩
     rw [<- HS.out]
     go_wp2
     go_round
     case rel => exact ⟨k + 1, by omega, by go_num, rfl⟩
     case measure => simp [intOf]; omega
    ·obtain rfl : k = 32 := by omega
     go_wp2
     go_ret
     exact ⟨rfl, rfl⟩
theorem Of_c (A : Option Addr) (c : Nat) (ws : List Nat) (h64 : ∀ x ∈ ws, x < 2 ^ 64) (hm : ws.length <= maxLen) (w : World) (B : Nat) (hr : Reads w B 1 A ws.length (wordVs ws)) :
  Calls Try.prog 47 #[.slice A ws.length c] w fun e w' => e = .returned (.int .u32 ((SM.ofN ws : Nat) : Int)) /\ w = w' := by
 unfold maxLen at hm
 have HR := hidp hr
 have HB : Hid (∀ k, SM.regs 4294967295 (ws.take k) < 2 ^ 32) := hidp (fun k => SM.regs_lt (by omega) _)
 have H64 : Hid (∀ k, ws.getD k 0 < 2 ^ 64) := hidp (fun k => getD_lt (by omega) h64 k)
 have HS : Hid (∀ k, k < ws.length -> SM.regs 4294967295 (ws.take (k + 1)) = SM.nextN (SM.regs 4294967295 (ws.take k)) (ws.getD k 0)) := hidp (fun k hk => SM.regs_take _ _ _ hk)
 have HV : Hid (∀ k, k < ws.length -> (wordVs ws)[k]? = some (.int .u64 ((ws.getD k 0 : Nat) : Int))) := hidp (fun k hk => wordVs_at ws k hk)
 have HE : Hid (SM.regs 4294967295 (ws.take ws.length) = SM.regs 4294967295 ws) := hidp (by rw [List.take_length])
 have H0 : Hid (SM.regs 4294967295 (ws.take 0) = 4294967295) := hidp rfl
 clear hr h64
 generalize hn : ws.length = n at *
 clear hn
 go_enter Try.func47, Try.ntmps47
 go_wp2_with (go_at_call 70; refine (First_c _).mono ?_; rintro e w' ⟨rfl, rfl⟩)
 go_loop [3, 9] (fun q i => ∃ k : Nat, k <= n /\ i = .int .i64 k /\ q = .int .u32 ((SM.regs 4294967295 (ws.take k) : Nat) : Int)) (fun _ i => n - (intOf i).toNat)
 case atStart => exact ⟨0, by omega, rfl, by rw [H0.out]; rfl⟩
 case round =>
  obtain ⟨k, hk, rfl, rfl⟩ := hrel
  have hq := HB.out k
  by_cases hlt : k < n
  ·obtain ⟨ad, u, rfl, _, hx, hc⟩ := HR.out.at_ hlt
   have HT := hidp (HS.out k hlt)
   have h64 := H64.out k
   have hu := HV.out k hlt
   rw [hx] at hu
   injection hu with hu
   subst hu
   have HX := hidp hx
   clear hx
   generalize ws.getD k 0 = x at *
   go_wp2_with fail
   refine (Next_c _ x hq h64 _).mono ?_
   rintro e w' ⟨rfl, rfl⟩
   rw [<- HT.out]
   go_wp2
   go_round
   case rel => exact ⟨k + 1, by omega, by go_num, rfl⟩
   case measure => simp [intOf]; omega
  ·obtain rfl : k = n := by omega
   go_wp2_with fail
   refine (Last_c _ hq _).mono ?_
   rintro e w' ⟨rfl, rfl⟩
   go_wp2
   go_ret
   exact ⟨ret_int (by rw [HE.out]; rfl), rfl⟩
theorem ROf_c (A : Option Addr) (c : Nat) (ws : List Nat) (h64 : ∀ x ∈ ws, x < 2 ^ 64) (hm : ws.length <= maxLen) (w : World) (B : Nat) (hr : Reads w B 1 A ws.length (wordVs ws)) :
  Calls Try.prog 53 #[.slice A ws.length c] w fun e w' => e = .returned (.int .u32 ((SM.ofN ws : Nat) : Int)) /\ w = w' := by
 unfold maxLen at hm
 have HR := hidp hr
 have HB : Hid (∀ k, SM.regs 4294967295 (ws.take k) < 2 ^ 32) := hidp (fun k => SM.regs_lt (by omega) _)
 have H64 : Hid (∀ k, ws.getD k 0 < 2 ^ 64) := hidp (fun k => getD_lt (by omega) h64 k)
 have HS : Hid (∀ k, k < ws.length -> SM.regs 4294967295 (ws.take (k + 1)) = SM.nextN (SM.regs 4294967295 (ws.take k)) (ws.getD k 0)) := hidp (fun k hk => SM.regs_take _ _ _ hk)
 have HV : Hid (∀ k, k < ws.length -> (wordVs ws)[k]? = some (.int .u64 ((ws.getD k 0 : Nat) : Int))) := hidp (fun k hk => wordVs_at ws k hk)
 have HE : Hid (SM.regs 4294967295 (ws.take ws.length) = SM.regs 4294967295 ws) := hidp (by rw [List.take_length])
 have H0 : Hid (SM.regs 4294967295 (ws.take 0) = 4294967295) := hidp rfl
 clear hr h64
 generalize hn : ws.length = n at *
 clear hn
 go_enter Try.func53, Try.ntmps53
 go_wp2
 go_loop [3, 4] (fun q i => ∃ k : Nat, k <= n /\ i = .int .i64 k /\ q = .int .u32 ((SM.regs 4294967295 (ws.take k) : Nat) : Int)) (fun _ i => n - (intOf i).toNat)
 case atStart => exact ⟨0, by omega, rfl, by rw [H0.out]; rfl⟩
 case round =>
  obtain ⟨k, hk, rfl, rfl⟩ := hrel
  have hq := HB.out k
  by_cases hlt : k < n
  ·obtain ⟨ad, u, rfl, _, hx, hc⟩ := HR.out.at_ hlt
   have HT := hidp (HS.out k hlt)
   have h64 := H64.out k
   have hu := HV.out k hlt
   rw [hx] at hu
   injection hu with hu
   subst hu
   have HX := hidp hx
   clear hx
   generalize ws.getD k 0 = x at *
   go_wp2_with fail
   refine (RNext_c _ x hq h64 _).mono ?_
   rintro e w' ⟨rfl, rfl⟩
   rw [<- HT.out]
   go_wp2
   go_round
   case rel => exact ⟨k + 1, by omega, by go_num, rfl⟩
   case measure => simp [intOf]; omega
  ·obtain rfl : k = n := by omega
   go_wp2
   go_ret
   exact ⟨ret_int (by rw [HE.out]; unfold SM.ofN; have := HB.out k; rw [HE.out] at this; omega), rfl⟩
theorem Of_n (A : Option Addr) (c n : Nat) (ws : List Nat) (hn : Hid (ws.length = n)) (h64 : Hid (∀ x ∈ ws, x < 2 ^ 64)) (hm : Hid (n <= maxLen)) (w : World) (B : Nat) (hr : Reads w B 1 A n (wordVs ws)) :
  Calls Try.prog 47 #[.slice A n c] w fun e w' => e = .returned (.int .u32 ((SM.ofN ws : Nat) : Int)) /\ w = w' := by
 obtain rfl := hn.out
 exact Of_c A c ws h64.out hm.out w B hr
theorem ROf_n (A : Option Addr) (c n : Nat) (ws : List Nat) (hn : Hid (ws.length = n)) (h64 : Hid (∀ x ∈ ws, x < 2 ^ 64)) (hm : Hid (n <= maxLen)) (w : World) (B : Nat) (hr : Reads w B 1 A n (wordVs ws)) :
  Calls Try.prog 53 #[.slice A n c] w fun e w' => e = .returned (.int .u32 ((SM.ofN ws : Nat) : Int)) /\ w = w' := by
 obtain rfl := hn.out
 exact ROf_c A c ws h64.out hm.out w B hr
end
end Go.Proofs.Ytlpcdfcghgapkaa

namespace Go.Proofs.Ytlpcdfcghgapkaa
open Go.ChangeShapes Go.WideShapes Go.ChangeAt Go.RowKit
set_option linter.unusedVariables false
set_option linter.unusedSimpArgs false
section
theorem wordInfo : (Try.prog.info? 42).map (fun i => (i.zero, i.size, i.bytes)) = some (some (.int .u64 0), 1, 8) := by kernel_rfl

set_option maxHeartbeats 1600000 in
theorem hdEncode_no (t p s : Int) (hr : rightB t p s = false) (w : World) :
  Calls Try.prog 23 #[.agg #[.int .i64 t, .int .i64 p, .int .i64 s]] w fun e w' => e = .returned (.slice none 0 0) /\ Below w.heap.size w w' := by
 have HR := hidp hr
 clear hr
 go_enter Try.func23, Try.ntmps23
 go_wp2_with fail
 refine (cfWord_c t p s _).mono ?_
 rintro e w1 ⟨rfl, hb1⟩
 rw [HR.out]
 go_wp2
 go_ret
 exact ⟨by first | rfl | trivial, Bgo (Bnew (B0 _) _) hb1⟩

set_option maxHeartbeats 1600000 in
theorem hdEncode_yes (t p s : Int) (hr : rightB t p s = true) (w : World) :
    Calls Try.prog 23 #[.agg #[.int .i64 t, .int .i64 p, .int .i64 s]] w fun e w' => ∃ u, e = .returned u /\ w'.ownsRow w.heap.size 42 1 u 8 (wordVs (headL t p s)) /\ Below w.heap.size w w' := by
  have HR := hidp hr
  obtain ⟨x, hx⟩ : ∃ x, wordN t p s = x := ⟨_, rfl⟩
  have hx64 := word_lt t p s
  rw [hx] at hx64
  have HX := hidp hx
  obtain ⟨b0, b1, _⟩ := words_bounds t p s
  obtain ⟨m, hm⟩ : ∃ m : Nat, lW t p s = m := ⟨(lW t p s).toNat, by omega⟩
  have HM := hidp hm
  have hm1 : m <= 8296 := by omega
  clear hr hx hm b0 b1
  have hc := Held.new w 23 #[.int .i64 t, .int .i64 p, .int .i64 s]
  go_enter Try.func23, Try.ntmps23
  go_wp2_with fail
  refine (cfWord_c t p s _).mono ?_
  rintro e w1 ⟨rfl, hb1⟩
  rw [HR.out, HX.out]
  have hc1 := hc.keep hb1
  obtain ⟨x0, x1, x2⟩ := hc1.three
  go_wp2_with fail
  refine (plWords_c t p s _).mono ?_
  rintro e w2 ⟨rfl, hb2⟩
  rw [HM.out]
  have hb12 := Bgo (Bgo (Bnew (B0 w) (.cells #[.int .i64 t, .int .i64 p, .int .i64 s] 23)) hb1) hb2
  have H7 := hidp (show head7 t p s = [0x4e41435245303031, 1, x, m, 0, 0, 0] by unfold head7; rw [HX.out, HM.out, Int.toNat_natCast])
  have hown := World.ownsRow_lit (base := w.heap.size) (e := 42) (size := 1) w2 #[.int .u64 0x4e41435245303031, .int .u64 1, .int .u64 x, .int .u64 m, .int .u64 0, .int .u64 0, .int .u64 0] 7 hb12.size (by unfold maxLen; omega) rfl
  have HO := hidp hown
  have HF : Hid (Reads (w2.alloc (.cells #[.int .u64 0x4e41435245303031, .int .u64 1, .int .u64 x, .int .u64 m, .int .u64 0, .int .u64 0, .int .u64 0] 42)) (w2.heap.size + 1) 1 (some ⟨w2.heap.size, 0, none⟩) 7 (wordVs [0x4e41435245303031, 1, x, m, 0, 0, 0])) :=
    hidp ((Reads.of_own hown).more (by simp))
  have HB := hidp hb12
  have H64 : ∀ y ∈ [0x4e41435245303031, 1, x, m, 0, 0, 0], y < 2 ^ 64 := by
    have := head7_lt t p s
    rw [H7.out] at this
    exact this
  obtain ⟨c, hcs⟩ : ∃ c, SM.ofN [0x4e41435245303031, 1, x, m, 0, 0, 0] = c := ⟨_, rfl⟩
  have hcl : c < 2 ^ 32 := by rw [<- hcs]; exact ofN_lt _
  have HC := hidp hcs
  obtain ⟨i0, hi, hz0, hz1, hz2⟩ := info_parts wordInfo
  clear hown hb12 hcs hb1 hb2
  go_wp2_with fail
  refine (Of_n _ _ 7 [0x4e41435245303031, 1, x, m, 0, 0, 0] (hidp rfl) (hidp H64) (hidp (by unfold maxLen; omega)) _ _ HF.out).mono ?_
  rintro e w3 ⟨rfl, rfl⟩
  rw [HC.out]
  go_wp2_with
    (at_builtin
     refine wpList_append_own _ rfl _ _ 30 rfl w.heap.size 42 i0 (.int .u64 0) 1 8 Try.underlying30 hi hz0 hz1 hz2 rfl (by decide) _ _ _ rfl (HO.out.alloc _) ⟨_, 0, none⟩ 1 1 [.int .u64 (c : Int)] rfl rfl ?c1 ?c2 ?c3 ?c4 ?c5 ?_
     case c1 => intro j y hy; rcases j with _ | j; (· simp at hy; subst hy; simp [Addr.add]); (· simp at hy)
     case c2 => simp [Value.oneCell']
     case c3 => unfold maxLen; simp
     case c4 => simp
     case c5 => have := HB.out.size; simp; omega
     intro u1 w4 hown1 hgrow _)
  go_ret
  have hE : wordVs (headL t p s) = [Value.int .u64 0x4e41435245303031, .int .u64 1, .int .u64 x, .int .u64 m, .int .u64 0, .int .u64 0, .int .u64 0] ++ [.int .u64 (c : Int)] := by
    unfold headL
    rw [H7.out, HC.out]
    rfl
  refine ⟨u1, rfl, by rw [hE]; exact hown1, ?_⟩
  have hb := ((HB.out.alloc HB.out.size (.cells #[.int .u64 0x4e41435245303031, .int .u64 1, .int .u64 x, .int .u64 m, .int .u64 0, .int .u64 0, .int .u64 0] 42)).alloc (by have := HB.out.size; simp; omega) (.cells #[.int .u64 (c : Int)] 42))
  exact hb.grown hgrow (by have := HB.out.size; simp; omega) (fun j hj => (HO.out.lt j hj).1)

set_option maxHeartbeats 1600000 in
theorem r8Encode_yes (t p s : Int) (hr : rightB t p s = true) (w : World) :
    Calls Try.prog 29 #[.agg #[.int .i64 t, .int .i64 p, .int .i64 s]] w fun e w' => ∃ u, e = .returned u /\ w'.ownsRow w.heap.size 42 1 u 8 (wordVs (headL t p s)) /\ Below w.heap.size w w' := by
  have HR := hidp hr
  obtain ⟨x, hx⟩ : ∃ x, wordN t p s = x := ⟨_, rfl⟩
  have hx64 := word_lt t p s
  rw [hx] at hx64
  have HX := hidp hx
  obtain ⟨b0, b1, _⟩ := words_bounds t p s
  obtain ⟨m, hm⟩ : ∃ m : Nat, lW t p s = m := ⟨(lW t p s).toNat, by omega⟩
  have HM := hidp hm
  have hm1 : m <= 8296 := by omega
  clear hr hx hm b0 b1
  have hc := Held.new w 23 #[.int .i64 t, .int .i64 p, .int .i64 s]
  go_enter Try.func29, Try.ntmps29
  go_wp2_with fail
  refine (r4Word_c t p s _).mono ?_
  rintro e w1 ⟨rfl, hb1⟩
  rw [HR.out, HX.out]
  have hc1 := hc.keep hb1
  obtain ⟨x0, x1, x2⟩ := hc1.three
  go_wp2_with fail
  refine (r7Words_c t p s _).mono ?_
  rintro e w2 ⟨rfl, hb2⟩
  rw [HM.out]
  have hb12 := Bgo (Bgo (Bnew (B0 w) (.cells #[.int .i64 t, .int .i64 p, .int .i64 s] 23)) hb1) hb2
  have H7 := hidp (show head7 t p s = [0x4e41435245303031, 1, x, m, 0, 0, 0] by unfold head7; rw [HX.out, HM.out, Int.toNat_natCast])
  have hown := World.ownsRow_lit (base := w.heap.size) (e := 42) (size := 1) w2 #[.int .u64 0x4e41435245303031, .int .u64 1, .int .u64 x, .int .u64 m, .int .u64 0, .int .u64 0, .int .u64 0] 7 hb12.size (by unfold maxLen; omega) rfl
  have HO := hidp hown
  have HF : Hid (Reads (w2.alloc (.cells #[.int .u64 0x4e41435245303031, .int .u64 1, .int .u64 x, .int .u64 m, .int .u64 0, .int .u64 0, .int .u64 0] 42)) (w2.heap.size + 1) 1 (some ⟨w2.heap.size, 0, none⟩) 7 (wordVs [0x4e41435245303031, 1, x, m, 0, 0, 0])) :=
    hidp ((Reads.of_own hown).more (by simp))
  have HB := hidp hb12
  have H64 : ∀ y ∈ [0x4e41435245303031, 1, x, m, 0, 0, 0], y < 2 ^ 64 := by
    have := head7_lt t p s
    rw [H7.out] at this
    exact this
  obtain ⟨c, hcs⟩ : ∃ c, SM.ofN [0x4e41435245303031, 1, x, m, 0, 0, 0] = c := ⟨_, rfl⟩
  have hcl : c < 2 ^ 32 := by rw [<- hcs]; exact ofN_lt _
  have HC := hidp hcs
  obtain ⟨i0, hi, hz0, hz1, hz2⟩ := info_parts wordInfo
  clear hown hb12 hcs hb1 hb2
  go_wp2_with fail
  refine (ROf_n _ _ 7 [0x4e41435245303031, 1, x, m, 0, 0, 0] (hidp rfl) (hidp H64) (hidp (by unfold maxLen; omega)) _ _ HF.out).mono ?_
  rintro e w3 ⟨rfl, rfl⟩
  rw [HC.out]
  go_wp2_with
    (at_builtin
     refine wpList_append_own _ rfl _ _ 30 rfl w.heap.size 42 i0 (.int .u64 0) 1 8 Try.underlying30 hi hz0 hz1 hz2 rfl (by decide) _ _ _ rfl (HO.out.alloc _) ⟨_, 0, none⟩ 1 1 [.int .u64 (c : Int)] rfl rfl ?c1 ?c2 ?c3 ?c4 ?c5 ?_
     case c1 => intro j y hy; rcases j with _ | j; (· simp at hy; subst hy; simp [Addr.add]); (· simp at hy)
     case c2 => simp [Value.oneCell']
     case c3 => unfold maxLen; simp
     case c4 => simp
     case c5 => have := HB.out.size; simp; omega
     intro u1 w4 hown1 hgrow _)
  go_ret
  have hE : wordVs (headL t p s) = [Value.int .u64 0x4e41435245303031, .int .u64 1, .int .u64 x, .int .u64 m, .int .u64 0, .int .u64 0, .int .u64 0] ++ [.int .u64 (c : Int)] := by
    unfold headL
    rw [H7.out, HC.out]
    rfl
  refine ⟨u1, rfl, by rw [hE]; exact hown1, ?_⟩
  have hb := ((HB.out.alloc HB.out.size (.cells #[.int .u64 0x4e41435245303031, .int .u64 1, .int .u64 x, .int .u64 m, .int .u64 0, .int .u64 0, .int .u64 0] 42)).alloc (by have := HB.out.size; simp; omega) (.cells #[.int .u64 (c : Int)] 42))
  exact hb.grown hgrow (by have := HB.out.size; simp; omega) (fun j hj => (HO.out.lt j hj).1)
end
end Go.Proofs.Ytlpcdfcghgapkaa

namespace Go.Proofs.Ytlpcdfcghgapkaa
open Go.ChangeShapes Go.WideShapes Go.ChangeAt Go.RowKit Go.Maps
set_option linter.unusedVariables false
set_option linter.unusedSimpArgs false
set_option maxRecDepth 100000
section
theorem u32_info25 : (Try.prog.info? 32).map (fun i => (i.zero, i.size, i.bytes)) = some (some (.int .u32 0), 1, 4) := by kernel_rfl
theorem make_u32 (n : Nat) (hn : n <= 1000000) (w : World) : (Instr.makeSlice 25 (.int .i64 (n : Int)) (.int .i64 (n : Int))).run Try.prog w = .ok (.slice (some ⟨w.heap.size, 0, none⟩) n n) (w.alloc (.cells (madeCells #[.int .u32 0] n) 32)) := by
 obtain ⟨i, hi⟩ : ∃ i, Try.prog.info? 32 = some i := Option.isSome_iff_exists.1 (by kernel_rfl)
 have h := u32_info25
 rw [hi] at h
 simp only [Option.map_some, Option.some.injEq, Prod.mk.injEq] at h
 obtain ⟨hz, hs, hb⟩ := h
 have := run_makeSlice (w := w) 25 32 i _ Try.underlying25 hi hz .i64 .i64 (n : Int) (n : Int) (by omega) (by omega) (by rw [hs]; omega) (by rw [hb]; omega) (by omega)
 rw [Int.toNat_natCast, hs, Nat.mul_one] at this
 exact this
theorem row_made {w : World} {t : TypeId} {z : Value} {n : Nat} (hn : n <= maxLen) : RowF (w.alloc (.cells (madeCells #[z] n) t)) w.heap.size t n n (fun _ => z) := by
 refine ⟨_, Held.new w t _, by unfold madeCells; simp, Nat.le_refl _, hn, fun i hi => ?_⟩
 unfold madeCells
 rw [Array.getElem?_map, Array.getElem?_range, if_pos hi]
 simp [Nat.mod_one]
theorem row_made1 {w : World} {t : TypeId} {z : Value} {n i : Nat} (hn : n <= maxLen) (hi : i < n) (u : Value) : RowF (w.alloc (.cells ((madeCells #[z] n).setIfInBounds i u) t)) w.heap.size t n n (updF (fun _ => z) i u) := by
 refine ⟨_, Held.new w t _, by unfold madeCells; simp, Nat.le_refl _, hn, fun j hj => ?_⟩
 by_cases e : j = i
 ·subst e
  rw [updF_same]
  simp [madeCells, Array.getElem?_setIfInBounds, hj]
 ·rw [updF_other _ _ e, Array.getElem?_setIfInBounds_ne (by omega)]
  unfold madeCells
  rw [Array.getElem?_map, Array.getElem?_range, if_pos hj]
  simp [Nat.mod_one]
set_option maxHeartbeats 1600000 in
theorem r25Vals_no (t p s : Int) (hr : rightB t p s = false) (w : World) :
  Calls Try.prog 7 #[.agg #[.int .i64 t, .int .i64 p, .int .i64 s]] w fun e w' => e = .returned (.slice none 0 0) /\ Below w.heap.size w w' := by
 have HC := hidp (Held.new w 23 #[.int .i64 t, .int .i64 p, .int .i64 s])
 have HB := hidp (Bnew (B0 w) (.cells #[.int .i64 t, .int .i64 p, .int .i64 s] 23))
 have E0 : Hid (lC t p s = 0) := hidp (by unfold lC; rw [hr]; rfl)
 have hmk : ∀ w : World, (Instr.makeSlice 25 (.int .i64 0) (.int .i64 0)).run Try.prog w = .ok (.slice (some ⟨w.heap.size, 0, none⟩) 0 0) (w.alloc (.cells (madeCells #[.int .u32 0] 0) 32)) := make_u32 0 (by omega)
 obtain ⟨x0, x1, x2⟩ := HC.out.three
 go_enter Try.func7, Try.ntmps7
 go_wp2_with fail
 refine (r7Cells_c t p s _).mono ?_; rintro e w1 ⟨rfl, hb⟩; rw [E0.out]
 replace HB := hidp (Bgo HB.out hb)
 clear hb
 go_wp2
 go_ret
 exact ⟨by first | rfl | trivial, Bnew HB.out _⟩
set_option maxHeartbeats 3200000 in
theorem r25Vals_yes (t p s n : Nat) (hr : rightB t p s = true) (hn : n = 30 + 4 * t + 6 * p) (w : World) :
  Calls Try.prog 7 #[.agg #[.int .i64 (t : Int), .int .i64 (p : Int), .int .i64 (s : Int)]] w fun e w' => ∃ g, e = .returned (.slice (some ⟨g, 0, none⟩) n n) /\ RowF w' g 32 n n (valF (frV t p)) /\ w.heap.size <= g /\ Below w.heap.size w w' := by
 have hri := (rightB_iff t p s).1 hr
 have HC := hidp (Held.new w 23 #[.int .i64 (t : Int), .int .i64 (p : Int), .int .i64 (s : Int)])
 have HB := hidp (Bnew (B0 w) (.cells #[.int .i64 (t : Int), .int .i64 (p : Int), .int .i64 (s : Int)] 23))
 have E0 : Hid (lC t p s = (n : Int)) := hidp (by unfold lC; rw [hr, hn]; simp)
 have hn2 : n <= 1000000 := by omega
 have hmk := make_u32 n hn2
 have q0 : ((n : Int) == 0) = false := by simp; omega
 have HN := hidp hn
 have h0n : 30 <= n := by omega
 have hnu : n <= 6238 := by omega
 clear hn hn2
 obtain ⟨x0, x1, x2⟩ := HC.out.three
 go_enter Try.func7, Try.ntmps7
 go_wp2_with fail
 refine (r7Cells_c t p s _).mono ?_; rintro e w1 ⟨rfl, hb⟩; rw [E0.out]
 replace HC := hidp (HC.out.keep hb)
 replace HB := hidp (Bgo HB.out hb)
 clear hb x0 x1 x2
 have HM := hidp (row_made (w := w1) (t := 32) (z := .int .u32 0) (n := n) (by have := HN.out; unfold maxLen; omega))
 have HC2 := hidp (HC.out.alloc (.cells ((madeCells #[.int .u32 0] n).setIfInBounds 0 (.int .u32 (p : Int))) 32))
 have HC3 := hidp (HC.out.alloc (.cells (madeCells #[.int .u32 0] n) 32))
 obtain ⟨_, a1, _⟩ := HC3.out.three
 obtain ⟨x0, x1, x2⟩ := HC2.out.three
 have y0 := HM.out.cell (i := 0) (by have := HN.out; omega)
 have f0 := HM.out.thawed 0
 have cp : IntKind.u32.wrap (p : Int) = (p : Int) := wrap_nat32 p (by omega)
 go_wp2_with fail
 clear hmk a1 y0 f0 x0 x1 x2 HM HC3
 have HRW := hidp (row_made1 (w := w1) (t := 32) (z := .int .u32 0) (n := n) (i := 0) (by have := HN.out; unfold maxLen; omega) (by omega) (.int .u32 (p : Int)))
 replace HB := hidp (Bnew HB.out (.cells ((madeCells #[.int .u32 0] n).setIfInBounds 0 (.int .u32 (p : Int))) 32))
 have HG : Hid (w.heap.size < w1.heap.size) := hidp HC.out.lt
 replace HC := HC2
 clear HC2
 generalize hg : w1.heap.size = g at *
 generalize hw2 : w1.alloc (.cells ((madeCells #[.int .u32 0] n).setIfInBounds 0 (.int .u32 (p : Int))) 32) = w2 at *
 clear hg hw2
 have hfr := frB_at (p := p) (by omega) (by omega)
 obtain ⟨fb, hfb⟩ : ∃ x, frB p = x := ⟨_, rfl⟩
 rw [hfb] at hfr
 obtain ⟨k, hk, hk10, _⟩ := ofI_nat (n := p) (by omega) (by omega)
 have hok : 2 + (k : Int) = (fb : Int) := by
  have : ofI (p : Int) = HM.logI (p : Int) := by unfold ofI; rw [if_neg (by omega)]
  omega
 have HOF := hidp hk
 have HFB := hidp hfb
 have HBI : Hid (nthI 2 11 1 (k : Int) = (fb : Int)) := hidp (by rw [nth_on (by omega) (by omega) (by omega)]; omega)
 obtain ⟨ip, hip⟩ : ∃ x, 30 + 4 * t = x := ⟨_, rfl⟩
 have HIP := hidp hip
 clear hip
 have HPI : Hid (pageI (t : Int) (p : Int) (s : Int) 0 0 = (ip : Int)) := hidp (by rw [pcell_yes hr (by omega) (by omega) (by omega) (by omega)]; have := HIP.out; omega)
 have HPF : Hid (pageI (t : Int) (p : Int) (s : Int) ((p : Int) - 1) 1 = ((30 + 4 * t + 6 * (p - 1) + 1 : Nat) : Int)) := hidp (by rw [pcell_yes hr (by omega) (by omega) (by omega) (by omega)]; omega)
 have HIV : Hid (infoV 1 (p : Int) 0 = 1 + 16 * p) := hidp (by rw [infoV_yes (infoB_yes (by unfold infoP; omega))]; simp)
 have hfb12 : 2 <= fb /\ fb <= 12 := hfr.2
 clear hfr hok hk hfb
 refine (r14Of_c (p : Int) (by omega) (by omega) _).mono ?_
 rintro e w9 ⟨rfl, rfl⟩
 rw [HOF.out]
 obtain ⟨x0, x1, x2⟩ := HC.out.three
 go_wp2_with fail
 refine (r7Bin_c (k : Int) _).mono ?_
 rintro e w9 ⟨rfl, rfl⟩
 rw [HBI.out]
 have y4 := HRW.out.cell (i := fb) (by omega)
 have f4 := HRW.out.thawed (fb)
 have q4 : decide ((fb : Int) < (n : Int)) = true := decide_eq_true (by omega)
 go_wp2_with fail
 replace HB := hidp (Bput HB.out (p := ⟨g, fb, none⟩) (by have := HG.out; show w.heap.size <= g; omega) (.int .u32 1))
 replace HC := hidp (HC.out.far (p := ⟨g, fb, none⟩) (by have := HG.out; show w.heap.size ≠ g; omega) (.int .u32 1))
 replace HRW := hidp (HRW.out.put (i := fb) (by omega) (.int .u32 1))
 clear y4 f4 x0 x1 x2
 replace HC := hidp HC.out.drw
 replace HRW := hidp (HRW.out.keep (Bdrew (B0 _)))
 replace HB := hidp (Bdrew HB.out)
 have hi5n : ip < n := by have := HN.out; have := HIP.out; omega
 have hi5 : (ip : Int) < (n : Int) := by omega
 refine wp_region_held_drew (S := (fun w' => w'.cell? ⟨w.heap.size, 0, none⟩ = some (.int .i64 (t : Int)) /\ w'.cell? ⟨w.heap.size, 1, none⟩ = some (.int .i64 (p : Int)) /\ w'.cell? ⟨w.heap.size, 2, none⟩ = some (.int .i64 (s : Int)))) (by kernel_rfl) ?_ (fun hHeld => ?_)
 ·(try dsimp only)
  first | exact HC.out.three | exact hHeld
 refine tkz 0 ?_
 refine tkz 1 ?_
 refine tkz 3 ?_
 refine tkz 4 ?_
 refine rdz 2 fun K hK => ?_
 go_simp
 refine (r7Info_c t p s 0 _).mono ?_
 rintro e w4 ⟨rfl, hb⟩
 rw [HPI.out]
 replace HC := hidp (HC.out.keep hb)
 replace HRW := hidp (HRW.out.keep hb)
 replace HB := hidp (Bgo HB.out hb)
 clear hb
 refine hK.out _ _ ?_ (fun hHeld => ?_)
 ·(try dsimp only)
  first | exact HC.out.three | exact hHeld
 clear hK K
 (try simp only [Act.put, gA, gB, gC, sA, sB, sC])
 refine rdz 5 fun K hK => ?_
 go_simp
 refine (r9Value_c 1 p 0 _).mono ?_
 rintro e w5 ⟨rfl, hb⟩
 rw [HIV.out]
 replace HC := hidp (HC.out.keep hb)
 replace HRW := hidp (HRW.out.keep hb)
 replace HB := hidp (Bgo HB.out hb)
 clear hb
 have y5 := HRW.out.cell (i := ip) hi5n
 have f5 := HRW.out.thawed (ip)
 refine hK.out _ _ ?_ (fun hHeld => ?_)
 ·(try dsimp only)
  first | exact HC.out.three | exact hHeld
 clear hK K
 (try simp only [Act.put, gA, gB, gC, sA, sB, sC])
 refine tkz 6 ?_
 refine rdz 7 fun K hK => ?_
 go_simp
 replace HB := hidp (Bput HB.out (p := ⟨g, ip, none⟩) (by have := HG.out; show w.heap.size <= g; omega) (.int .u32 ((1 + 16 * p : Nat) : Int)))
 replace HC := hidp (HC.out.far (p := ⟨g, ip, none⟩) (by have := HG.out; show w.heap.size ≠ g; omega) (.int .u32 ((1 + 16 * p : Nat) : Int)))
 replace HRW := hidp (HRW.out.put (i := ip) hi5n (.int .u32 ((1 + 16 * p : Nat) : Int)))
 refine hK.out _ _ ?_ (fun hHeld => ?_)
 ·(try dsimp only)
  first | exact HC.out.three | exact hHeld
 clear hK K
 (try simp only [Act.put, gA, gB, gC, sA, sB, sC])
 refine dnz ?_
 clear y5 f5
 obtain ⟨x0, x1, x2⟩ := HC.out.three
 have cs : IntKind.i64.wrap ((p : Int) - 1) = (p : Int) - 1 := i64_same (by omega) (by omega)
 go_wp2_with fail
 refine (r7Foot_c t p s ((p : Int) - 1) _).mono ?_
 rintro e w6 ⟨rfl, hb⟩
 rw [HPF.out]
 replace HC := hidp (HC.out.keep hb)
 replace HRW := hidp (HRW.out.keep hb)
 replace HB := hidp (Bgo HB.out hb)
 clear hb
 have y6 := HRW.out.cell (i := 30 + 4 * t + 6 * (p - 1) + 1) (by have := HN.out; omega)
 have f6 := HRW.out.thawed (30 + 4 * t + 6 * (p - 1) + 1)
 have hi6 : 30 + 4 * t + 6 * (p - 1) + 1 < n := by have := HN.out; omega
 obtain ⟨ix, hix⟩ : ∃ x, 30 + 4 * t + 6 * (p - 1) + 1 = x := ⟨_, rfl⟩
 rw [hix] at y6 f6 hi6 ⊢
 have HIX := hidp hix
 clear x0 x1 x2 hix
 go_wp2
 go_ret
 replace HB := hidp (Bput HB.out (p := ⟨g, ix, none⟩) (by have := HG.out; show w.heap.size <= g; omega) (.int .u32 1))
 replace HC := hidp (HC.out.far (p := ⟨g, ix, none⟩) (by have := HG.out; show w.heap.size ≠ g; omega) (.int .u32 1))
 replace HRW := hidp (HRW.out.put (i := ix) hi6 (.int .u32 1))
 refine ⟨g, rfl, HRW.out.congr fun i hi => ?_, by have := HG.out; omega, HB.out⟩
 have h1 := HIX.out
 have h2 := HFB.out
 have h3 := HIP.out
 show _ = Value.int .u32 (frV t p i : Nat)
 unfold frV
 rw [h2, h1, h3]
 unfold updF
 by_cases e1 : i = ix
 ·subst e1
  rw [if_pos rfl, if_neg (by omega), if_neg (by omega), if_neg (by omega), if_pos rfl]
  rfl
 ·rw [if_neg e1]
  by_cases e2 : i = ip
  ·rw [if_pos e2, if_neg (by omega), if_neg (by omega), if_pos e2]
  ·rw [if_neg e2]
   by_cases e3 : i = fb
   ·rw [if_pos e3, if_neg (by omega), if_pos e3]
    rfl
   ·rw [if_neg e3]
    by_cases e4 : i = 0
    ·rw [if_pos e4, if_pos e4]
    ·rw [if_neg e4, if_neg e4, if_neg e3, if_neg e2, if_neg e1]
     rfl
end
section
def wrdF (f : Nat -> Nat) : Nat -> Value := fun i => .int .u64 ((f i : Nat) : Int)
theorem wrd_info : (Try.prog.info? 42).map (fun i => (i.zero, i.size, i.bytes)) = some (some (.int .u64 0), 1, 8) := by kernel_rfl
theorem make_u64 (n : Nat) (hn : n <= 1000000) (w : World) : (Instr.makeSlice 30 (.int .i64 (n : Int)) (.int .i64 (n : Int))).run Try.prog w = .ok (.slice (some ⟨w.heap.size, 0, none⟩) n n) (w.alloc (.cells (madeCells #[.int .u64 0] n) 42)) := by
 obtain ⟨i, hi⟩ : ∃ i, Try.prog.info? 42 = some i := Option.isSome_iff_exists.1 (by kernel_rfl)
 have h := wrd_info
 rw [hi] at h
 simp only [Option.map_some, Option.some.injEq, Prod.mk.injEq] at h
 obtain ⟨hz, hs, hb⟩ := h
 have := run_makeSlice (w := w) 30 42 i _ Try.underlying30 hi hz .i64 .i64 (n : Int) (n : Int) (by omega) (by omega) (by rw [hs]; omega) (by rw [hb]; omega) (by omega)
 rw [Int.toNat_natCast, hs, Nat.mul_one] at this
 exact this
theorem addr_add (g k : Nat) : (⟨g, 0, none⟩ : Addr).add k = ⟨g, k, none⟩ := by
 unfold Addr.add
 by_cases h : k = 0
 ·rw [if_pos h, h]
 ·rw [if_neg h]; simp
section
variable {w w' : World} {A : Option Addr} {m c g : Nat} {f f' : Nat -> Nat}
end
end
section
theorem own_lower {w : World} {base base' : Nat} {e : TypeId} {size n : Nat} {v : Value} {xs : List Value} (h : w.ownsRow base e size v n xs) (hb : base' <= base) : w.ownsRow base' e size v n xs := by
 refine ⟨h.1, ?_⟩
 rcases h.2 with h2 | ⟨g, cap, cur, rfl, hbg, hg, hr⟩
 ·exact .inl h2
 ·exact .inr ⟨g, cap, cur, rfl, Nat.le_trans hb hbg, hg, hr⟩

section
variable {O : Ob} {w0 ws w w' : World} {A G : Nat -> Prop} {N : Nat} {T : TypeId} {cs : Array Value} {base : Nat} {u : Value} {nl : Nat} {xs : List Value} {st s' : Vst}
end
end
section
def fwT (t p s j i : Nat) : Nat := if i < 8 then (headL t p s).getD i 0 else if i = 8 then 4294967296 else if 16 <= i /\ i < 16 + j then frV t p (i - 16) else 0
def fwI (t p s : Nat) : Nat -> Nat := fwT t p s (30 + 4 * t + 6 * p)
def fwN (t p : Nat) : Nat := (16 + (30 + 4 * t + 6 * p) + 7) / 8 * 8 + (t + 1) * 120
theorem fwN_eq {t p s : Nat} (hr : rightB t p s = true) : lW (t : Int) (p : Int) (s : Int) = (fwN t p : Int) := by
 unfold lW lM lK fwN
 rw [hr]
 simp
theorem own_far25 {w : World} {base size n g : Nat} {e : TypeId} {v : Value} {xs : List Value} {p : Addr} (h : w.ownsRow base e size v n xs) (u : Value) (hv : v.ownBlock = some g) (hp : g ≠ p.block) : (w.setCell p u).ownsRow base e size v n xs :=
 own_kept h (fun g' e' => Below.heap_setCell w p u g' (by rw [hv] at e'; injection e' with e'; rw [<- e']; exact hp))
set_option maxHeartbeats 1600000 in
theorem r25Words_no (t p s : Int) (hr : rightB t p s = false) (w : World) :
  Calls Try.prog 11 #[.agg #[.int .i64 t, .int .i64 p, .int .i64 s]] w fun e w' => e = .returned (.slice none 0 0) /\ Below w.heap.size w w' := by
 have HC := hidp (Held.new w 23 #[.int .i64 t, .int .i64 p, .int .i64 s])
 have HB := hidp (Bnew (B0 w) (.cells #[.int .i64 t, .int .i64 p, .int .i64 s] 23))
 have E0 : Hid (lW t p s = 0) := hidp (by unfold lW lM lK; rw [hr]; rfl)
 have hmk : ∀ w : World, (Instr.makeSlice 30 (.int .i64 0) (.int .i64 0)).run Try.prog w = .ok (.slice (some ⟨w.heap.size, 0, none⟩) 0 0) (w.alloc (.cells (madeCells #[.int .u64 0] 0) 42)) := make_u64 0 (by omega)
 obtain ⟨x0, x1, x2⟩ := HC.out.three
 go_enter Try.func11, Try.ntmps11
 go_wp2_with fail
 refine (r7Words_c t p s _).mono ?_; rintro e w1 ⟨rfl, hb⟩; rw [E0.out]
 replace HB := hidp (Bgo HB.out hb)
 clear hb
 go_wp2
 go_ret
 exact ⟨by first | rfl | trivial, Bnew HB.out _⟩
set_option maxHeartbeats 3200000 in
theorem r25Words_yes (t p s m : Nat) (hr : rightB t p s = true) (hm : m = fwN t p) (w : World) :
  Calls Try.prog 11 #[.agg #[.int .i64 (t : Int), .int .i64 (p : Int), .int .i64 (s : Int)]] w fun e w' => ∃ g, e = .returned (.slice (some ⟨g, 0, none⟩) m m) /\ RowF w' g 42 m m (wrdF (fwI t p s)) /\ w.heap.size <= g /\ Below w.heap.size w w' := by
 have hri := (rightB_iff t p s).1 hr
 have HC := hidp (Held.new w 23 #[.int .i64 (t : Int), .int .i64 (p : Int), .int .i64 (s : Int)])
 have HB := hidp (Bnew (B0 w) (.cells #[.int .i64 (t : Int), .int .i64 (p : Int), .int .i64 (s : Int)] 23))
 have E0 : Hid (lW t p s = (m : Int)) := hidp (by rw [fwN_eq hr, hm])
 obtain ⟨n, hn⟩ : ∃ n, n = 30 + 4 * t + 6 * p := ⟨_, rfl⟩
 have hmn : 16 + n <= m := by rw [hm, hn]; unfold fwN; omega
 have hmu : m <= 100000 := by rw [hm]; unfold fwN; omega
 have hmk := make_u64 m (by omega)
 have q0 : ((m : Int) == 0) = false := by simp; omega
 have HN := hidp hn
 have HVA := hidp (fun w => r25Vals_yes t p s n hr hn w)
 have HEN := hidp (fun w => r8Encode_yes t p s hr w)
 have HHL : Hid ((headL (t : Int) (p : Int) (s : Int)).length = 8) := hidp (headL_len _ _ _)
 have hn0 : 30 <= n := by omega
 clear hm hn
 obtain ⟨x0, x1, x2⟩ := HC.out.three
 go_enter Try.func11, Try.ntmps11
 go_wp2_with fail
 refine (r7Words_c t p s _).mono ?_; rintro e w1 ⟨rfl, hb⟩; rw [E0.out]
 replace HC := hidp (HC.out.keep hb)
 replace HB := hidp (Bgo HB.out hb)
 clear hb x0 x1 x2
 have HRW := hidp (row_made (w := w1) (t := 42) (z := .int .u64 0) (n := m) (by unfold maxLen; omega))
 have HG : Hid (w.heap.size < w1.heap.size) := hidp HC.out.lt
 replace HC := hidp (HC.out.alloc (.cells (madeCells #[.int .u64 0] m) 42))
 replace HB := hidp (Bnew HB.out (.cells (madeCells #[.int .u64 0] m) 42))
 obtain ⟨x0, x1, x2⟩ := HC.out.three
 go_wp2_with fail
 generalize hg : w1.heap.size = g at *
 generalize hw2 : w1.alloc (.cells (madeCells #[.int .u64 0] m) 42) = w2 at *
 clear hg hw2 hmk
 refine (HEN.out _).mono ?_
 rintro e w3 ⟨u, rfl, ho, hb⟩
 have hgl := HRW.out.lt
 replace HC := hidp (HC.out.keep hb)
 replace HRW := hidp (HRW.out.keep hb)
 replace HB := hidp (Bgo HB.out hb)
 clear hb
 rcases ho.2 with ⟨_, h8⟩ | ⟨g8, c8, cur8, rfl, hb8, _, hn8, hc8, _, _⟩
 ·omega
 have HO := hidp ho
 have HG8 : Hid (g < g8) := hidp (by omega)
 have hc8' : c8 <= 9223372036854775807 := hc8
 clear ho hgl hb8 x0 x1 x2
 obtain ⟨x0, x1, x2⟩ := HC.out.three
 go_wp2_with fail
 go_loopw [5] (fun u5 wr => ∃ j : Nat, j <= 8 /\ u5 = .int .i64 (j : Int) /\ Hid (RowF wr g 42 m m (wrdF fun i => if i < j then (headL (t : Int) (p : Int) (s : Int)).getD i 0 else 0)) /\ Hid (Held wr w.heap.size 23 #[.int .i64 (t : Int), .int .i64 (p : Int), .int .i64 (s : Int)]) /\ Hid (wr.ownsRow 0 42 1 (.slice (some ⟨g8, 0, none⟩) 8 c8) 8 (wordVs (headL (t : Int) (p : Int) (s : Int)))) /\ Hid (Below w.heap.size w wr)) (fun u5 _ => 8 - (intOf u5).toNat)
 case atStart => exact ⟨0, by omega, rfl, hidp (HRW.out.congr fun i hi => rfl), HC, hidp (own_lower HO.out (Nat.zero_le _)), HB⟩
 case round =>
  clear HRW HC HO HB x0 x1 x2
  obtain ⟨j, hj, rfl, HRW, HC, HO, HB⟩ := hrel
  obtain ⟨x0, x1, x2⟩ := HC.out.three
  by_cases hlt : j < 8
  ·have t1 : decide ((j : Int) < 8) = true := decide_eq_true (by omega)
   have t1n : decide (j < 8) = true := decide_eq_true hlt
   obtain ⟨h, hh⟩ : ∃ h, (headL (t : Int) (p : Int) (s : Int)).getD j 0 = h := ⟨_, rfl⟩
   have ch : wr.cell? ⟨g8, j, none⟩ = some (.int .u64 (h : Int)) := by
    rw [HO.out.cellAt j (by omega)]
    unfold wordVs
    rw [List.getElem?_map, List.getElem?_eq_getElem (by rw [HHL.out]; exact hlt)]
    rw [<- hh]
    simp [List.getD, List.getElem?_eq_getElem (show j < (headL (t : Int) (p : Int) (s : Int)).length by rw [HHL.out]; exact hlt)]
   have HH := hidp hh
   have y := HRW.out.cell (i := j) (by omega)
   have f := HRW.out.thawed j
   have i1 : (j : Int) < (m : Int) := by omega
   have i2 : (j : Int) < 8 := by omega
   clear hh
   go_wp2_with fail
   replace HB := hidp (Bput HB.out (p := ⟨g, j, none⟩) (by have := HG.out; show w.heap.size <= g; omega) (.int .u64 (h : Int)))
   replace HC := hidp (HC.out.far (p := ⟨g, j, none⟩) (by have := HG.out; show w.heap.size ≠ g; omega) (.int .u64 (h : Int)))
   replace HRW := hidp (HRW.out.put (i := j) (by omega) (.int .u64 (h : Int)))
   replace HO := hidp (own_far25 HO.out (g := g8) (p := ⟨g, j, none⟩) (.int .u64 (h : Int)) rfl (by have := HG8.out; show g8 ≠ g; omega))
   go_roundw
   case rel => exact ⟨j + 1, by omega, by go_num, hidp (HRW.out.congr fun i hi => by
     dsimp only [wrdF, updF]
     have := HH.out
     by_cases e : i = j
     ·subst e; rw [if_pos rfl, if_pos (by omega), this]
     ·rw [if_neg e]
      by_cases e2 : i < j
      ·rw [if_pos e2, if_pos (by omega)]
      ·rw [if_neg e2, if_neg (by omega)]), HC, HO, HB⟩
   case measure => simp [intOf]; omega
  ·have t1 : decide ((j : Int) < 8) = false := decide_eq_false (by omega)
   have t1n : decide (j < 8) = false := decide_eq_false hlt
   obtain rfl : j = 8 := by omega
   clear HO HHL HEN
   go_wp2_with fail
   refine (RJoin_c 1 0 (by decide) (by decide) _).mono ?_
   rintro e w9 ⟨rfl, rfl⟩
   rw [show ((1 * 4294967296 + 0 : Nat) : Int) = 4294967296 from rfl]
   have y := HRW.out.cell (i := 8) (by omega)
   have f := HRW.out.thawed 8
   have i1 : (8 : Int) < (m : Int) := by omega
   go_wp2_with fail
   replace HB := hidp (Bput HB.out (p := ⟨g, 8, none⟩) (by have := HG.out; show w.heap.size <= g; omega) (.int .u64 4294967296))
   replace HC := hidp (HC.out.far (p := ⟨g, 8, none⟩) (by have := HG.out; show w.heap.size ≠ g; omega) (.int .u64 4294967296))
   replace HRW := hidp (HRW.out.put (i := 8) (by omega) (.int .u64 4294967296))
   refine (HVA.out _).mono ?_
   rintro e w4 ⟨g2, rfl, hv, hg2, hb⟩
   have hgl := HRW.out.lt
   have HG2 : Hid (g < g2) := hidp (by omega)
   replace HC := hidp (HC.out.keep hb)
   replace HRW := hidp (HRW.out.keep hb)
   replace HB := hidp (Bgo HB.out hb)
   clear hb
   have HV := hidp hv
   clear hv hg2 hgl y f i1 x0 x1 x2
   obtain ⟨x0, x1, x2⟩ := HC.out.three
   go_wp2_with fail
   go_loopw [7] (fun u7 wr => ∃ j : Nat, j <= n /\ u7 = .int .i64 (j : Int) /\ Hid (RowF wr g 42 m m (wrdF (fwT t p s j))) /\ Hid (Held wr w.heap.size 23 #[.int .i64 (t : Int), .int .i64 (p : Int), .int .i64 (s : Int)]) /\ Hid (RowF wr g2 32 n n (valF (frV t p))) /\ Hid (Below w.heap.size w wr)) (fun u7 _ => n - (intOf u7).toNat)
   case atStart => exact ⟨0, by omega, rfl, hidp (HRW.out.congr fun i hi => by
     dsimp only [wrdF, updF, fwT]
     by_cases e : i = 8
     ·subst e; rw [if_pos rfl, if_neg (by omega), if_pos rfl]; rfl
     ·rw [if_neg e]
      by_cases e2 : i < 8
      ·rw [if_pos e2, if_pos e2]
      ·rw [if_neg e2, if_neg e2, if_neg e, if_neg (by omega)]), HC, HV, HB⟩
   case round =>
    clear HRW HC HV HB x0 x1 x2
    obtain ⟨j, hj, rfl, HRW, HC, HV, HB⟩ := hrel
    obtain ⟨x0, x1, x2⟩ := HC.out.three
    by_cases hlt : j < n
    ·have t1 : decide ((j : Int) < (n : Int)) = true := decide_eq_true (by omega)
     have t1n : decide (j < n) = true := decide_eq_true hlt
     obtain ⟨h, hh⟩ : ∃ h, frV t p j = h := ⟨_, rfl⟩
     have ch := HV.out.cell (i := j) hlt
     unfold valF at ch
     rw [hh] at ch
     have h32 : h < 2 ^ 32 := by rw [<- hh]; unfold frV; split; omega; split; omega; split; omega; split <;> omega
     have HH := hidp hh
     have y := HRW.out.cell (i := 16 + j) (by omega)
     have f := HRW.out.thawed (16 + j)
     have i1 : (16 : Int) + (j : Int) < (m : Int) := by omega
     have i2 : (j : Int) < (n : Int) := by omega
     have i3 : IntKind.i64.wrap ((16 : Int) + (j : Int)) = ((16 + j : Nat) : Int) := i64_same (by omega) (by omega)
     have i4 : IntKind.u64.wrap (h : Int) = (h : Int) := wrap_nat64 h (by omega)
     clear hh
     go_wp2_with fail
     replace HB := hidp (Bput HB.out (p := ⟨g, 16 + j, none⟩) (by have := HG.out; show w.heap.size <= g; omega) (.int .u64 (h : Int)))
     replace HC := hidp (HC.out.far (p := ⟨g, 16 + j, none⟩) (by have := HG.out; show w.heap.size ≠ g; omega) (.int .u64 (h : Int)))
     replace HRW := hidp (HRW.out.put (i := 16 + j) (by omega) (.int .u64 (h : Int)))
     replace HV := hidp (HV.out.far (p := ⟨g, 16 + j, none⟩) (by have := HG2.out; show g2 ≠ g; omega) (.int .u64 (h : Int)))
     go_roundw
     case rel => exact ⟨j + 1, by omega, by go_num, hidp (HRW.out.congr fun i hi => by
       dsimp only [wrdF, updF, fwT]
       have := HH.out
       by_cases e : i = 16 + j
       ·subst e; rw [if_pos rfl, if_neg (by omega), if_neg (by omega), if_pos (by omega), show 16 + j - 16 = j by omega, this]
       ·rw [if_neg e]
        by_cases e2 : i < 8
        ·rw [if_pos e2, if_pos e2]
        ·rw [if_neg e2, if_neg e2]
         by_cases e3 : i = 8
         ·rw [if_pos e3, if_pos e3]
         ·rw [if_neg e3, if_neg e3]
          by_cases e4 : 16 <= i /\ i < 16 + j
          ·rw [if_pos e4, if_pos (by omega)]
          ·rw [if_neg e4, if_neg (by omega)]), HC, HV, HB⟩
     case measure => simp [intOf]; omega
    ·have t1 : decide ((j : Int) < (n : Int)) = false := decide_eq_false (by omega)
     have t1n : decide (j < n) = false := decide_eq_false hlt
     obtain rfl : j = n := by omega
     go_wp2
     go_ret
     exact ⟨g, rfl, HRW.out.congr (fun i hi => by unfold fwI; rw [<- HN.out]), by have := HG.out; omega, HB.out⟩
end
section
def frK (n : Nat) : Nat -> Option Nat := fun i => (List.replicate n 0)[i]?
def frS (n t p s : Nat) : Vst := putS n (addS n (frK n) (t : Int) (p : Int) (s : Int) ((0 : Nat) : Int) (p : Int) freshS) ((0 : Nat) : Int) p
theorem frK_at {n i : Nat} (h : i < n) : frK n i = some 0 := by unfold frK; rw [List.getElem?_replicate, if_pos h]
theorem frK_fresh (n : Nat) : VW n (frK n) freshS := ⟨fun i hi => ⟨0, frK_at hi⟩, rfl⟩
theorem frK_zero {n i : Nat} (h : i < n) : getV n (frK n) freshS (i : Int) = 0 := by
 rw [(frK_fresh n).at_ h, frK_at h]
 rfl
theorem fr_view {t p s n : Nat} (hr : rightB t p s = true) (hn : n = 30 + 4 * t + 6 * p) : VW n (frK n) (frS n t p s) /\ ∀ i, i < n -> nowV (frK n) (frS n t p s).wr i = frV t p i := by
 have hri := (rightB_iff t p s).1 hr
 have hp1 : 1 <= p := by omega
 have hp2 : p <= 1024 := by omega
 have hfr := frB_at (p := p) hp1 hp2
 obtain ⟨k, hk, hk10, _⟩ := ofI_nat (n := p) hp1 hp2
 have hok : 2 + (k : Int) = (frB p : Int) := by
  have : ofI (p : Int) = HM.logI (p : Int) := by unfold ofI; rw [if_neg (by omega)]
  omega
 have hbh : binH (p : Int) = ((frB p : Nat) : Int) := by rw [binH_nat hk hk10]; omega
 have hpi : ∀ b : Nat, b < 6 -> pageI (t : Int) (p : Int) (s : Int) ((0 : Nat) : Int) (b : Int) = ((30 + 4 * t + b : Nat) : Int) := fun b hb => by rw [pcell_yes hr (by omega) (by omega) (by omega) (by omega)]; omega
 have hpf : pageI (t : Int) (p : Int) (s : Int) (((0 : Nat) : Int) + (p : Int) - 1) 1 = ((30 + 4 * t + 6 * (p - 1) + 1 : Nat) : Int) := by rw [pcell_yes hr (by omega) (by omega) (by omega) (by omega)]; omega
 have hp0 := hpi 0 (by omega)
 have hpn := hpi 2 (by omega)
 have hpv := hpi 3 (by omega)
 have hiv : infoV 1 (p : Int) 0 = 1 + 16 * p := by rw [infoV_yes (infoB_yes (by unfold infoP; omega))]; simp
 have hpg : pgB (p : Int) ((0 : Nat) : Int) = true := (pgB_iff _ _).2 (by omega)
 obtain ⟨fb, hfb⟩ : ∃ x, frB p = x := ⟨_, rfl⟩
 rw [hfb] at hfr hbh
 obtain ⟨v1, e1⟩ := (frK_fresh n).put (i := 30 + 4 * t + 0) (by omega) (1 + 16 * p)
 obtain ⟨v2, e2⟩ := v1.put (i := 30 + 4 * t + 6 * (p - 1) + 1) (by omega) 1
 obtain ⟨s2, hs2⟩ : ∃ x, putS n (putS n freshS ((30 + 4 * t + 0 : Nat) : Int) (1 + 16 * p)) ((30 + 4 * t + 6 * (p - 1) + 1 : Nat) : Int) 1 = x := ⟨_, rfl⟩
 rw [hs2] at v2 e2
 obtain ⟨v3, e3⟩ := v2.get ((fb : Nat) : Int)
 have h0 : getV n (frK n) s2 ((fb : Nat) : Int) = 0 := by
  rw [e2, e1]
  unfold upd
  rw [if_neg (by omega), if_neg (by omega)]
  exact frK_zero (by omega)
 obtain ⟨v4, e4⟩ := v3.put (i := 30 + 4 * t + 2) (by omega) 0
 obtain ⟨v5, e5⟩ := v4.put (i := 30 + 4 * t + 3) (by omega) 0
 obtain ⟨v6, e6⟩ := v5.put (i := fb) (by omega) (0 + 1)
 obtain ⟨v7, e7⟩ := v6.put (i := 0) (by omega) p
 have hS : frS n t p s = putS n (putS n (putS n (putS n (getS n (frK n) s2 ((fb : Nat) : Int)) ((30 + 4 * t + 2 : Nat) : Int) 0) ((30 + 4 * t + 3 : Nat) : Int) 0) ((fb : Nat) : Int) (0 + 1)) ((0 : Nat) : Int) p := by
  unfold frS
  rw [addS_yes (k := 0) ⟨hpg, by omega, by omega⟩, hbh, (pgB_nat (k := 0) hpg).1]
  unfold pushS push2 push1
  rw [show pageI (t : Int) (p : Int) (s : Int) ((0 : Nat) : Int) 0 = ((30 + 4 * t + 0 : Nat) : Int) from hp0, hpf, hiv, show (0 + 1 : Nat) = 1 from rfl, hs2, h0, if_pos rfl, show pageI (t : Int) (p : Int) (s : Int) ((0 : Nat) : Int) 2 = ((30 + 4 * t + 2 : Nat) : Int) from hpn, show pageI (t : Int) (p : Int) (s : Int) ((0 : Nat) : Int) 3 = ((30 + 4 * t + 3 : Nat) : Int) from hpv]
 rw [hS]
 refine ⟨v7, fun i hi => ?_⟩
 refine (v7.at_ hi).symm.trans ?_
 rw [e7, e6, e5, e4, e3, e2, e1]
 unfold upd frV
 rw [hfb]
 by_cases c0 : i = 0
 ·rw [if_pos (by omega), if_pos c0]
 ·rw [if_neg (by omega), if_neg c0]
  by_cases c1 : i = fb
  ·rw [if_pos (by omega), if_pos c1]
  ·rw [if_neg (by omega), if_neg c1]
   by_cases c2 : i = 30 + 4 * t
   ·rw [if_neg (by omega), if_neg (by omega), if_neg (by omega), if_pos (by omega), if_pos c2]
   ·rw [if_neg c2]
    by_cases c3 : i = 30 + 4 * t + 6 * (p - 1) + 1
    ·rw [if_neg (by omega), if_neg (by omega), if_pos (by omega), if_pos c3]
    ·rw [if_neg c3]
     by_cases c4 : i = 30 + 4 * t + 3
     ·rw [if_pos (by omega)]
     ·rw [if_neg (by omega)]
      by_cases c5 : i = 30 + 4 * t + 2
      ·rw [if_pos (by omega)]
      ·rw [if_neg (by omega), if_neg (by omega), if_neg (by omega)]
       exact frK_zero hi
end
section
section
variable {base b n : Nat} {wh all : Bool} {K : Nat -> Option Nat} {st : Vst} {w w0 : World} {A G : Nat -> Prop} {t q s : Int}

set_option maxHeartbeats 3200000 in
theorem bnAdd_yes (hn : n < 2 ^ 40) (k m : Nat) (hq : q <= 2147483648) (hk : pgB q (k : Int) = true) (h1 : 1 <= (m : Int)) (h2 : (m : Int) <= q - (k : Int)) (h : (vOb base b n wh K).At w0 A G st w) :
  Calls Try.prog 14 #[.pointer (some ⟨b, 0, none⟩), .agg #[.int .i64 t, .int .i64 q, .int .i64 s], .int .i64 (k : Int), .int .i64 (m : Int)] w fun e w' => e = .returned (.tuple #[]) /\ (vOb base b n wh K).At w0 A G (addS n K t q s (k : Int) (m : Int) st) w' /\ Stay G w w' := by
 have W0 := hidp ((WL.start h).new 23 #[.int .i64 t, .int .i64 q, .int .i64 s])
 obtain ⟨x0, x1, x2⟩ := W0.out.h0.three
 have t0 : decide ((m : Int) < (1 : Int)) = false := decide_eq_false (by omega)
 have t1 : decide (q - (k : Int) < (m : Int)) = false := decide_eq_false (by omega)
 have hm31 : m <= 2147483648 := by omega
 have sk : IntKind.u32.wrap ((k : Int) + 1) = ((k + 1 : Nat) : Int) := by have := wrap_nat32 (k + 1) (by omega); simpa using this
 have HIV := hidp (infoV_lt 1 (m : Int) 0)
 have HE : Hid (addS n K t q s (k : Int) (m : Int) st = pushI n K t q s (nthI 2 11 1 (ofI (m : Int))) (k : Int) (putS n (putS n st (pageI t q s (k : Int) 0) (infoV 1 (m : Int) 0)) (pageI t q s ((k : Int) + (m : Int) - 1) 1) (k + 1))) := hidp (addS_yes ⟨hk, h1, h2⟩)
 have hk2 := (pgB_iff _ _).1 hk
 have hk31 : k < 2147483648 := by omega
 have sq : IntKind.i64.wrap (q - (k : Int)) = q - (k : Int) := i64_same (by omega) (by omega)
 have HK := hidp hk
 clear hk
 clear h
 go_enter Try.func14, Try.ntmps14
 go_wp2_with fail
 refine (bnIsPage_c t q s (k : Int) _).mono ?_; rintro e w1 ⟨rfl, hb⟩; have W1 := hidp (W0.out.keep hb); clear hb W0; rw [HK.out]
 obtain ⟨x0, x1, x2⟩ := W1.out.h0.three
 go_wp2_with fail
 refine (inPut_c 1 (m : Int) 0 _).mono ?_; rintro e w2 ⟨rfl, hb⟩; have W2 := hidp (W1.out.keep hb); clear hb W1
 obtain ⟨x0, x1, x2⟩ := W2.out.h0.three
 go_wp2_with fail
 refine (plInfo_c t q s (k : Int) _).mono ?_; rintro e w3 ⟨rfl, hb⟩; have W3 := hidp (W2.out.keep hb); clear hb W2
 obtain ⟨x0, x1, x2⟩ := W3.out.h0.three
 go_wp2_with fail
 refine (vPutA hn _ _ HIV.out W3.out.at_).mono ?_; rintro e w4 ⟨rfl, h1, h2⟩; have W4 := hidp (W3.out.call h1 h2); clear h1 h2 W3
 obtain ⟨x0, x1, x2⟩ := W4.out.h0.three
 go_wp2_with fail
 refine (plFoot_c t q s ((k : Int) + (m : Int) - 1) _).mono ?_; rintro e w5 ⟨rfl, hb⟩; have W5 := hidp (W4.out.keep hb); clear hb W4
 obtain ⟨x0, x1, x2⟩ := W5.out.h0.three
 go_wp2_with fail
 refine (vPutA hn _ (k + 1) (by omega) W5.out.at_).mono ?_; rintro e w6 ⟨rfl, h1, h2⟩; have W6 := hidp (W5.out.call h1 h2); clear h1 h2 W5
 obtain ⟨x0, x1, x2⟩ := W6.out.h0.three
 go_wp2_with fail
 refine wp_region_held_drew (S := (fun w' => w'.cell? ⟨w.heap.size, 0, none⟩ = some (.int .i64 t) /\ w'.cell? ⟨w.heap.size, 1, none⟩ = some (.int .i64 q) /\ w'.cell? ⟨w.heap.size, 2, none⟩ = some (.int .i64 s))) (by kernel_rfl) ?_ (fun hHeld => ?_)
 ·(try dsimp only)
  first | exact W6.out.drew.h0.three | exact W6.out.h0.three | exact W7.out.h0.three | exact hHeld
 refine tkz 0 ?_
 refine tkz 1 ?_
 refine tkz 2 ?_
 refine tkz 5 ?_
 refine rdz 3 fun K hK => ?_
 go_simp
 refine (bnOf_c (m : Int) (by omega) (by omega) _).mono ?_; rintro e w9 ⟨rfl, rfl⟩
 refine hK.out _ _ ?_ (fun hHeld => ?_)
 ·(try dsimp only)
  first | exact W6.out.drew.h0.three | exact W6.out.h0.three | exact W7.out.h0.three | exact hHeld
 clear hK K
 (try simp only [Act.put, gA, gB, gC, sA, sB, sC])
 refine rdz 4 fun K hK => ?_
 go_simp
 refine (plBin_c (ofI (m : Int)) _).mono ?_; rintro e w9 ⟨rfl, rfl⟩
 refine hK.out _ _ ?_ (fun hHeld => ?_)
 ·(try dsimp only)
  first | exact W6.out.drew.h0.three | exact W6.out.h0.three | exact W7.out.h0.three | exact hHeld
 clear hK K
 (try simp only [Act.put, gA, gB, gC, sA, sB, sC])
 refine rdz 6 fun K hK => ?_
 go_simp
 refine (lkPush_c hn (by omega) (k : Int) W6.out.drew.at_).mono ?_; rintro e w7 ⟨rfl, h1, h2⟩; have W7 := hidp (W6.out.drew.call h1 h2); clear h1 h2 W6
 refine hK.out _ _ ?_ (fun hHeld => ?_)
 ·(try dsimp only)
  first | exact W6.out.drew.h0.three | exact W6.out.h0.three | exact W7.out.h0.three | exact hHeld
 clear hK K
 (try simp only [Act.put, gA, gB, gC, sA, sB, sC])
 refine dnz ?_
 obtain ⟨x0, x1, x2⟩ := W7.out.h0.three
 go_wp2
 go_end0
 exact ⟨rfl, by rw [HE.out]; exact W7.out.fin⟩

end
end
end Go.Proofs.Ytlpcdfcghgapkaa
