/-
  What the document's Push, and Pull, do. Written by link/gen_rpush.py.
-/
import Derived.Test.YtpndfhdedmdoeaaLinkMath
import Derived.Test.YtpndfhdedmdoeaaPlaceRef
namespace Go.Proofs.Ytpndfhdedmdoeaa
open Go.ChangeShapes Go.WideShapes Go.ChangeAt Go.RowKit Go.Maps
set_option linter.unusedVariables false
set_option linter.unusedSimpArgs false
set_option maxRecDepth 100000

section
variable {base b n : Nat} {all : Bool} {K : Nat → Option Nat} {st : Vst} {w w0 : World} {A G : Nat → Prop} {t q s hd : Int}

theorem rkPush_no (p : Int) (hp : pgB q p = false) (h : (rOb base b n all K).At w0 A G st w) :
    Calls Try.prog 45 #[.pointer (some ⟨b, 0, none⟩), .agg #[.int .i64 t, .int .i64 q, .int .i64 s], .int .i64 hd, .int .i64 p] w fun e w' => e = .returned (.tuple #[]) ∧ (rOb base b n all K).At w0 A G (st) w' ∧ Stay G w w' := by
  have W0 := hidp (WK.one h 23 #[.int .i64 t, .int .i64 q, .int .i64 s])
  obtain ⟨x0, x1, x2⟩ := W0.out.held.three
  have hp := pgB_no hp
  clear h
  by_cases h0 : p < 0
  · have t0 : decide (p < (0 : Int)) = true := decide_eq_true h0
    go_enter Try.func45, Try.ntmps45
    go_wp2
    (try simp only [Exit.inBlock, Exit.then])
    refine bodyPost_ret (results_none rfl _ _ _) rfl ?_
    exact ⟨rfl, W0.out.fin⟩
  · have t0 : decide (p < (0 : Int)) = false := decide_eq_false h0
    have t1 : decide (q ≤ p) = true := decide_eq_true (by omega)
    go_enter Try.func45, Try.ntmps45
    go_wp2
    (try simp only [Exit.inBlock, Exit.then])
    refine bodyPost_ret (results_none rfl _ _ _) rfl ?_
    exact ⟨rfl, W0.out.fin⟩

set_option maxHeartbeats 3200000 in
theorem rkPush_yes (hn : n < 2 ^ 40) (k : Nat) (hk : pgB q (k : Int) = true) (hk31 : k < 2 ^ 31) (h : (rOb base b n all K).At w0 A G st w) :
    Calls Try.prog 45 #[.pointer (some ⟨b, 0, none⟩), .agg #[.int .i64 t, .int .i64 q, .int .i64 s], .int .i64 hd, .int .i64 (k : Int)] w fun e w' => e = .returned (.tuple #[]) ∧ (rOb base b n all K).At w0 A G (pushS n K t q s hd k st) w' ∧ Stay G w w' := by
  have W0 := hidp (WK.one h 23 #[.int .i64 t, .int .i64 q, .int .i64 s])
  obtain ⟨x0, x1, x2⟩ := W0.out.held.three
  have hk2 := (pgB_iff _ _).1 hk
  have t8 : decide ((k : Int) < 0) = false := decide_eq_false (by omega)
  have t9 : decide (q ≤ (k : Int)) = false := decide_eq_false (by omega)
  have sk : IntKind.u32.wrap ((k : Int) + 1) = ((k + 1 : Nat) : Int) := by have := wrap_nat32 (k + 1) (by omega); simpa using this
  obtain ⟨l, hl⟩ : ∃ l, getV n K st hd = l := ⟨_, rfl⟩
  have hl32 : l < 2 ^ 32 := by rw [← hl]; exact rAt_lt h hd
  have HL := hidp hl
  have HQ : Hid (push1 n K t q s hd k st = putS n (putS n (getS n K st hd) (pageI t q s (k : Int) 2) l) (pageI t q s (k : Int) 3) 0) := hidp (by unfold push1; rw [hl])
  have HP : Hid (l = 0 → pushS n K t q s hd k st = putS n (push1 n K t q s hd k st) hd (k + 1)) := hidp (fun e => by unfold pushS push2; rw [if_pos (hl.trans e)])
  have HR : Hid (l ≠ 0 → pushS n K t q s hd k st = putS n (putS n (push1 n K t q s hd k st) (pageI t q s ((l : Int) - 1) 3) (k + 1)) hd (k + 1)) := hidp (fun e => by unfold pushS push2; rw [if_neg (by rw [hl]; exact e), hl])
  clear hl
  clear h hk hk2
  go_enter Try.func45, Try.ntmps45
  go_wp2_with fail
  refine (rGetA hn hd W0.out.at_).mono ?_; rintro e w1 ⟨rfl, h1, h2⟩; have W1 := hidp (W0.out.call h1 h2); clear h1 h2 W0; rw [HL.out]
  obtain ⟨x0, x1, x2⟩ := W1.out.held.three
  go_wp2_with fail
  refine (r7Next_c t q s (k : Int) _).mono ?_; rintro e w2 ⟨rfl, hb⟩; have W2 := hidp (W1.out.keep hb); clear hb W1
  obtain ⟨x0, x1, x2⟩ := W2.out.held.three
  go_wp2_with fail
  refine (rPutA hn _ l hl32 W2.out.at_).mono ?_; rintro e w3 ⟨rfl, h1, h2⟩; have W3 := hidp (W2.out.call h1 h2); clear h1 h2 W2
  obtain ⟨x0, x1, x2⟩ := W3.out.held.three
  go_wp2_with fail
  refine (r7Prev_c t q s (k : Int) _).mono ?_; rintro e w4 ⟨rfl, hb⟩; have W4 := hidp (W3.out.keep hb); clear hb W3
  obtain ⟨x0, x1, x2⟩ := W4.out.held.three
  go_wp2_with fail
  refine (rPutA hn _ 0 (by omega) W4.out.at_).mono ?_; rintro e w5 ⟨rfl, h1, h2⟩; have W5 := hidp (W4.out.call h1 h2); clear h1 h2 W4
  obtain ⟨x0, x1, x2⟩ := W5.out.held.three
  rw [← HQ.out] at W5
  clear HL HQ
  by_cases hz : l = 0
  · have HE := hidp (HP.out hz)
    subst hz
    clear HP HR
    go_wp2_with fail
    refine (rPutA hn hd (k + 1) (by omega) W5.out.at_).mono ?_; rintro e w6 ⟨rfl, h1, h2⟩; have W6 := hidp (W5.out.call h1 h2); clear h1 h2 W5
    obtain ⟨x0, x1, x2⟩ := W6.out.held.three
    go_wp2
    go_end0
    exact ⟨rfl, by rw [HE.out]; exact W6.out.fin⟩
  · have HE := hidp (HR.out hz)
    have t1 : ((l : Int) == 0) = false := by simp; omega
    have t2 : ((l : Int) != 0) = true := by simp; omega
    clear HP HR
    go_wp2_with fail
    refine (r7Prev_c t q s ((l : Int) - 1) _).mono ?_; rintro e w6 ⟨rfl, hb⟩; have W6 := hidp (W5.out.keep hb); clear hb W5
    obtain ⟨x0, x1, x2⟩ := W6.out.held.three
    go_wp2_with fail
    refine (rPutA hn _ (k + 1) (by omega) W6.out.at_).mono ?_; rintro e w7 ⟨rfl, h1, h2⟩; have W7 := hidp (W6.out.call h1 h2); clear h1 h2 W6
    obtain ⟨x0, x1, x2⟩ := W7.out.held.three
    go_wp2_with fail
    refine (rPutA hn hd (k + 1) (by omega) W7.out.at_).mono ?_; rintro e w8 ⟨rfl, h1, h2⟩; have W8 := hidp (W7.out.call h1 h2); clear h1 h2 W7
    obtain ⟨x0, x1, x2⟩ := W8.out.held.three
    go_wp2
    go_end0
    exact ⟨rfl, by rw [HE.out]; exact W8.out.fin⟩
theorem rkPush_c (hn : n < 2 ^ 40) (hq : q ≤ 2 ^ 31) (p : Int) (h : (rOb base b n all K).At w0 A G st w) :
    Calls Try.prog 45 #[.pointer (some ⟨b, 0, none⟩), .agg #[.int .i64 t, .int .i64 q, .int .i64 s], .int .i64 hd, .int .i64 p] w fun e w' => e = .returned (.tuple #[]) ∧ (rOb base b n all K).At w0 A G (pushI n K t q s hd p st) w' ∧ Stay G w w' := by
  cases hp : pgB q p with
  | false => rw [(pgB_none hp).1]; exact rkPush_no p hp h
  | true =>
    have h1 := (pgB_iff _ _).1 hp
    obtain ⟨k, rfl⟩ := Int.eq_ofNat_of_zero_le h1.1
    rw [(pgB_nat hp).1]
    exact rkPush_yes hn k hp (by omega) h

theorem rkPull_no (p : Int) (hp : pgB q p = false) (h : (rOb base b n all K).At w0 A G st w) :
    Calls Try.prog 34 #[.pointer (some ⟨b, 0, none⟩), .agg #[.int .i64 t, .int .i64 q, .int .i64 s], .int .i64 hd, .int .i64 p] w fun e w' => e = .returned (.tuple #[]) ∧ (rOb base b n all K).At w0 A G (st) w' ∧ Stay G w w' := by
  have W0 := hidp (WK.one h 23 #[.int .i64 t, .int .i64 q, .int .i64 s])
  obtain ⟨x0, x1, x2⟩ := W0.out.held.three
  have hp := pgB_no hp
  clear h
  by_cases h0 : p < 0
  · have t0 : decide (p < (0 : Int)) = true := decide_eq_true h0
    go_enter Try.func34, Try.ntmps34
    go_wp2
    (try simp only [Exit.inBlock, Exit.then])
    refine bodyPost_ret (results_none rfl _ _ _) rfl ?_
    exact ⟨rfl, W0.out.fin⟩
  · have t0 : decide (p < (0 : Int)) = false := decide_eq_false h0
    have t1 : decide (q ≤ p) = true := decide_eq_true (by omega)
    go_enter Try.func34, Try.ntmps34
    go_wp2
    (try simp only [Exit.inBlock, Exit.then])
    refine bodyPost_ret (results_none rfl _ _ _) rfl ?_
    exact ⟨rfl, W0.out.fin⟩

set_option maxHeartbeats 3200000 in
theorem rkPull_yes (hn : n < 2 ^ 40) (k : Nat) (hk : pgB q (k : Int) = true) (hk31 : k < 2 ^ 31) (h : (rOb base b n all K).At w0 A G st w) :
    Calls Try.prog 34 #[.pointer (some ⟨b, 0, none⟩), .agg #[.int .i64 t, .int .i64 q, .int .i64 s], .int .i64 hd, .int .i64 (k : Int)] w fun e w' => e = .returned (.tuple #[]) ∧ (rOb base b n all K).At w0 A G (pullS n K t q s hd k st) w' ∧ Stay G w w' := by
  have W0 := hidp (WK.one h 23 #[.int .i64 t, .int .i64 q, .int .i64 s])
  obtain ⟨x0, x1, x2⟩ := W0.out.held.three
  have hk2 := (pgB_iff _ _).1 hk
  have t8 : decide ((k : Int) < 0) = false := decide_eq_false (by omega)
  have t9 : decide (q ≤ (k : Int)) = false := decide_eq_false (by omega)
  have sk : IntKind.u32.wrap ((k : Int) + 1) = ((k + 1 : Nat) : Int) := by have := wrap_nat32 (k + 1) (by omega); simpa using this
  obtain ⟨x, hx⟩ : ∃ x, pullN n K t q s k st = x := ⟨_, rfl⟩
  obtain ⟨y, hy⟩ : ∃ y, pullB n K t q s k st = y := ⟨_, rfl⟩
  have hx32 : x < 2 ^ 32 := by rw [← hx]; exact rAt_lt h _
  have HX : Hid (getV n K st (pageI t q s (k : Int) 2) = x) := hidp hx
  have HY : Hid (getV n K (getS n K st (pageI t q s (k : Int) 2)) (pageI t q s (k : Int) 3) = y) := hidp hy
  have H0 : Hid (pull0 n K t q s k st = getS n K (getS n K st (pageI t q s (k : Int) 2)) (pageI t q s (k : Int) 3)) := hidp rfl
  have HA : Hid (y = 0 → pull1 n K t q s hd k st = putS n (pull0 n K t q s k st) hd x) := hidp (fun e => by unfold pull1; rw [if_pos (hy.trans e), hx])
  have HB : Hid (y ≠ 0 → pull1 n K t q s hd k st = putS n (pull0 n K t q s k st) (pageI t q s ((y : Int) - 1) 2) x) := hidp (fun e => by unfold pull1; rw [if_neg (by rw [hy]; exact e), hx, hy])
  have HC : Hid (x = 0 → pull2 n K t q s hd k st = pull1 n K t q s hd k st) := hidp (fun e => by unfold pull2; rw [if_pos (hx.trans e)])
  have HD : Hid (x ≠ 0 → pull2 n K t q s hd k st = putS n (pull1 n K t q s hd k st) (pageI t q s ((x : Int) - 1) 3) y) := hidp (fun e => by unfold pull2; rw [if_neg (by rw [hx]; exact e), hx, hy])
  have HE : Hid (pullS n K t q s hd k st = putS n (putS n (pull2 n K t q s hd k st) (pageI t q s (k : Int) 2) 0) (pageI t q s (k : Int) 3) 0) := hidp rfl
  clear hx hy
  clear h hk hk2
  go_enter Try.func34, Try.ntmps34
  go_wp2_with fail
  refine (r7Next_c t q s (k : Int) _).mono ?_; rintro e w1 ⟨rfl, hb⟩; have W1 := hidp (W0.out.keep hb); clear hb W0
  obtain ⟨x0, x1, x2⟩ := W1.out.held.three
  go_wp2_with fail
  refine (rGetA hn _ W1.out.at_).mono ?_; rintro e w2 ⟨rfl, h1, h2⟩; have W2 := hidp (W1.out.call h1 h2); clear h1 h2 W1; rw [HX.out]
  obtain ⟨x0, x1, x2⟩ := W2.out.held.three
  go_wp2_with fail
  refine (r7Prev_c t q s (k : Int) _).mono ?_; rintro e w3 ⟨rfl, hb⟩; have W3 := hidp (W2.out.keep hb); clear hb W2
  obtain ⟨x0, x1, x2⟩ := W3.out.held.three
  have hy32 : y < 2 ^ 32 := by rw [← HY.out]; exact rAt_lt W3.out.at_ _
  go_wp2_with fail
  refine (rGetA hn _ W3.out.at_).mono ?_; rintro e w4 ⟨rfl, h1, h2⟩; have W4 := hidp (W3.out.call h1 h2); clear h1 h2 W3; rw [HY.out]
  obtain ⟨x0, x1, x2⟩ := W4.out.held.three
  rw [← H0.out] at W4
  clear HX HY H0
  by_cases hyz : y = 0
  · have HM := hidp (HA.out hyz)
    subst hyz
    go_wp2_with fail
    refine (rPutA hn hd x hx32 W4.out.at_).mono ?_; rintro e w5 ⟨rfl, h1, h2⟩; have W5 := hidp (W4.out.call h1 h2); clear h1 h2 W4
    obtain ⟨x0, x1, x2⟩ := W5.out.held.three
    rw [← HM.out] at W5
    clear HA HB HM
    by_cases hxz : x = 0
    · have HN := hidp (HC.out hxz)
      subst hxz
      clear HC HD
      go_wp2_with fail
      refine (r7Next_c t q s (k : Int) _).mono ?_; rintro e w6 ⟨rfl, hb⟩; have W6 := hidp (W5.out.keep hb); clear hb W5
      obtain ⟨x0, x1, x2⟩ := W6.out.held.three
      go_wp2_with fail
      refine (rPutA hn _ 0 (by omega) W6.out.at_).mono ?_; rintro e w7 ⟨rfl, h1, h2⟩; have W7 := hidp (W6.out.call h1 h2); clear h1 h2 W6
      obtain ⟨x0, x1, x2⟩ := W7.out.held.three
      go_wp2_with fail
      refine (r7Prev_c t q s (k : Int) _).mono ?_; rintro e w8 ⟨rfl, hb⟩; have W8 := hidp (W7.out.keep hb); clear hb W7
      obtain ⟨x0, x1, x2⟩ := W8.out.held.three
      go_wp2_with fail
      refine (rPutA hn _ 0 (by omega) W8.out.at_).mono ?_; rintro e w9 ⟨rfl, h1, h2⟩; have W9 := hidp (W8.out.call h1 h2); clear h1 h2 W8
      obtain ⟨x0, x1, x2⟩ := W9.out.held.three
      go_wp2
      go_end0
      exact ⟨rfl, by rw [HE.out, HN.out]; exact W9.out.fin⟩
    · have HN := hidp (HD.out hxz)
      have t3 : ((x : Int) == 0) = false := by simp; omega
      have t4 : ((x : Int) != 0) = true := by simp; omega
      clear HC HD
      go_wp2_with fail
      refine (r7Prev_c t q s ((x : Int) - 1) _).mono ?_; rintro e w6 ⟨rfl, hb⟩; have W6 := hidp (W5.out.keep hb); clear hb W5
      obtain ⟨x0, x1, x2⟩ := W6.out.held.three
      go_wp2_with fail
      refine (rPutA hn _ 0 (by omega) W6.out.at_).mono ?_; rintro e w7 ⟨rfl, h1, h2⟩; have W7 := hidp (W6.out.call h1 h2); clear h1 h2 W6
      obtain ⟨x0, x1, x2⟩ := W7.out.held.three
      go_wp2_with fail
      refine (r7Next_c t q s (k : Int) _).mono ?_; rintro e w8 ⟨rfl, hb⟩; have W8 := hidp (W7.out.keep hb); clear hb W7
      obtain ⟨x0, x1, x2⟩ := W8.out.held.three
      go_wp2_with fail
      refine (rPutA hn _ 0 (by omega) W8.out.at_).mono ?_; rintro e w9 ⟨rfl, h1, h2⟩; have W9 := hidp (W8.out.call h1 h2); clear h1 h2 W8
      obtain ⟨x0, x1, x2⟩ := W9.out.held.three
      go_wp2_with fail
      refine (r7Prev_c t q s (k : Int) _).mono ?_; rintro e w10 ⟨rfl, hb⟩; have W10 := hidp (W9.out.keep hb); clear hb W9
      obtain ⟨x0, x1, x2⟩ := W10.out.held.three
      go_wp2_with fail
      refine (rPutA hn _ 0 (by omega) W10.out.at_).mono ?_; rintro e w11 ⟨rfl, h1, h2⟩; have W11 := hidp (W10.out.call h1 h2); clear h1 h2 W10
      obtain ⟨x0, x1, x2⟩ := W11.out.held.three
      go_wp2
      go_end0
      exact ⟨rfl, by rw [HE.out, HN.out]; exact W11.out.fin⟩
  · have HM := hidp (HB.out hyz)
    have t1 : ((y : Int) == 0) = false := by simp; omega
    have t2 : ((y : Int) != 0) = true := by simp; omega
    go_wp2_with fail
    refine (r7Next_c t q s ((y : Int) - 1) _).mono ?_; rintro e w5 ⟨rfl, hb⟩; have W5 := hidp (W4.out.keep hb); clear hb W4
    obtain ⟨x0, x1, x2⟩ := W5.out.held.three
    go_wp2_with fail
    refine (rPutA hn _ x hx32 W5.out.at_).mono ?_; rintro e w6 ⟨rfl, h1, h2⟩; have W6 := hidp (W5.out.call h1 h2); clear h1 h2 W5
    obtain ⟨x0, x1, x2⟩ := W6.out.held.three
    rw [← HM.out] at W6
    clear HA HB HM
    by_cases hxz : x = 0
    · have HN := hidp (HC.out hxz)
      subst hxz
      clear HC HD
      go_wp2_with fail
      refine (r7Next_c t q s (k : Int) _).mono ?_; rintro e w7 ⟨rfl, hb⟩; have W7 := hidp (W6.out.keep hb); clear hb W6
      obtain ⟨x0, x1, x2⟩ := W7.out.held.three
      go_wp2_with fail
      refine (rPutA hn _ 0 (by omega) W7.out.at_).mono ?_; rintro e w8 ⟨rfl, h1, h2⟩; have W8 := hidp (W7.out.call h1 h2); clear h1 h2 W7
      obtain ⟨x0, x1, x2⟩ := W8.out.held.three
      go_wp2_with fail
      refine (r7Prev_c t q s (k : Int) _).mono ?_; rintro e w9 ⟨rfl, hb⟩; have W9 := hidp (W8.out.keep hb); clear hb W8
      obtain ⟨x0, x1, x2⟩ := W9.out.held.three
      go_wp2_with fail
      refine (rPutA hn _ 0 (by omega) W9.out.at_).mono ?_; rintro e w10 ⟨rfl, h1, h2⟩; have W10 := hidp (W9.out.call h1 h2); clear h1 h2 W9
      obtain ⟨x0, x1, x2⟩ := W10.out.held.three
      go_wp2
      go_end0
      exact ⟨rfl, by rw [HE.out, HN.out]; exact W10.out.fin⟩
    · have HN := hidp (HD.out hxz)
      have t3 : ((x : Int) == 0) = false := by simp; omega
      have t4 : ((x : Int) != 0) = true := by simp; omega
      clear HC HD
      go_wp2_with fail
      refine (r7Prev_c t q s ((x : Int) - 1) _).mono ?_; rintro e w7 ⟨rfl, hb⟩; have W7 := hidp (W6.out.keep hb); clear hb W6
      obtain ⟨x0, x1, x2⟩ := W7.out.held.three
      go_wp2_with fail
      refine (rPutA hn _ y hy32 W7.out.at_).mono ?_; rintro e w8 ⟨rfl, h1, h2⟩; have W8 := hidp (W7.out.call h1 h2); clear h1 h2 W7
      obtain ⟨x0, x1, x2⟩ := W8.out.held.three
      go_wp2_with fail
      refine (r7Next_c t q s (k : Int) _).mono ?_; rintro e w9 ⟨rfl, hb⟩; have W9 := hidp (W8.out.keep hb); clear hb W8
      obtain ⟨x0, x1, x2⟩ := W9.out.held.three
      go_wp2_with fail
      refine (rPutA hn _ 0 (by omega) W9.out.at_).mono ?_; rintro e w10 ⟨rfl, h1, h2⟩; have W10 := hidp (W9.out.call h1 h2); clear h1 h2 W9
      obtain ⟨x0, x1, x2⟩ := W10.out.held.three
      go_wp2_with fail
      refine (r7Prev_c t q s (k : Int) _).mono ?_; rintro e w11 ⟨rfl, hb⟩; have W11 := hidp (W10.out.keep hb); clear hb W10
      obtain ⟨x0, x1, x2⟩ := W11.out.held.three
      go_wp2_with fail
      refine (rPutA hn _ 0 (by omega) W11.out.at_).mono ?_; rintro e w12 ⟨rfl, h1, h2⟩; have W12 := hidp (W11.out.call h1 h2); clear h1 h2 W11
      obtain ⟨x0, x1, x2⟩ := W12.out.held.three
      go_wp2
      go_end0
      exact ⟨rfl, by rw [HE.out, HN.out]; exact W12.out.fin⟩
theorem rkPull_c (hn : n < 2 ^ 40) (hq : q ≤ 2 ^ 31) (p : Int) (h : (rOb base b n all K).At w0 A G st w) :
    Calls Try.prog 34 #[.pointer (some ⟨b, 0, none⟩), .agg #[.int .i64 t, .int .i64 q, .int .i64 s], .int .i64 hd, .int .i64 p] w fun e w' => e = .returned (.tuple #[]) ∧ (rOb base b n all K).At w0 A G (pullI n K t q s hd p st) w' ∧ Stay G w w' := by
  cases hp : pgB q p with
  | false => rw [(pgB_none hp).2]; exact rkPull_no p hp h
  | true =>
    have h1 := (pgB_iff _ _).1 hp
    obtain ⟨k, rfl⟩ := Int.eq_ofNat_of_zero_le h1.1
    rw [(pgB_nat hp).2]
    exact rkPull_yes hn k hp (by omega) h

end
end Go.Proofs.Ytpndfhdedmdoeaa
