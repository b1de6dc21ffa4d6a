/-
  What link.Push, and link.Pull, do. Written by link/gen_push.py.
-/
import Derived.Test.YtpndfhdedmdoeaaLinkPage
namespace Go.Proofs.Ytpndfhdedmdoeaa
open Go.ChangeShapes Go.WideShapes Go.ChangeAt Go.RowKit Go.Maps
set_option linter.unusedVariables false
set_option linter.unusedSimpArgs false
set_option maxRecDepth 100000

section
variable {base b n : Nat} {wh : Bool} {K : Nat → Option Nat} {st : Vst} {w w0 : World} {A G : Nat → Prop} {t q s hd : Int}

theorem lkPush_no (hn : n < 2 ^ 40) (p : Int) (hp : pgB q p = false) (h : (vOb base b n wh K).At w0 A G st w) :
    Calls Try.prog 40 #[.pointer (some ⟨b, 0, none⟩), .agg #[.int .i64 t, .int .i64 q, .int .i64 s], .int .i64 hd, .int .i64 p] w fun e w' => e = .returned (.tuple #[]) ∧ (vOb base b n wh K).At w0 A G (st) w' ∧ Stay G w w' := by
  have W0 := hidp (WK.two h (.cells #[.int .i64 t, .int .i64 q, .int .i64 s] 23) 95 #[.pointer (some ⟨b, 0, none⟩), .int .i64 t, .int .i64 q, .int .i64 s, .int .i64 hd, .int .i64 p])
  obtain ⟨x0, x1, x2, x3, x4, x5⟩ := W0.out.held.six'
  have HK := hidp hp
  clear h hp
  go_enter Try.func40, Try.ntmps40
  go_wp2_with fail
  refine (lkIs_c b t q s hd p _).mono ?_; rintro e w1 ⟨rfl, hb⟩; rw [HK.out]; have W1 := hidp (W0.out.keep hb); clear hb W0
  go_wp2
  (try simp only [Exit.inBlock, Exit.then])
  refine bodyPost_ret (results_none rfl _ _ _) rfl ?_
  exact ⟨rfl, W1.out.fin⟩

set_option maxHeartbeats 3200000 in
theorem lkPush_yes (hn : n < 2 ^ 40) (k : Nat) (hk : pgB q (k : Int) = true) (hk31 : k < 2 ^ 31) (h : (vOb base b n wh K).At w0 A G st w) :
    Calls Try.prog 40 #[.pointer (some ⟨b, 0, none⟩), .agg #[.int .i64 t, .int .i64 q, .int .i64 s], .int .i64 hd, .int .i64 (k : Int)] w fun e w' => e = .returned (.tuple #[]) ∧ (vOb base b n wh K).At w0 A G (pushS n K t q s hd k st) w' ∧ Stay G w w' := by
  have W0 := hidp (WK.two h (.cells #[.int .i64 t, .int .i64 q, .int .i64 s] 23) 95 #[.pointer (some ⟨b, 0, none⟩), .int .i64 t, .int .i64 q, .int .i64 s, .int .i64 hd, .int .i64 (k : Int)])
  obtain ⟨x0, x1, x2, x3, x4, x5⟩ := W0.out.held.six'
  have HK := hidp hk
  obtain ⟨l, hl⟩ : ∃ l, getV n K st hd = l := ⟨_, rfl⟩
  have hl32 : l < 2 ^ 32 := by rw [← hl]; exact vAt_lt h hd
  have HL := hidp hl
  have HQ : Hid (push1 n K t q s hd k st = putS n (putS n (getS n K st hd) (pageI t q s (k : Int) 2) l) (pageI t q s (k : Int) 3) 0) := hidp (by unfold push1; rw [hl])
  have HP : Hid (l = 0 → pushS n K t q s hd k st = putS n (push1 n K t q s hd k st) hd (k + 1)) := hidp (fun e => by unfold pushS push2; rw [if_pos (hl.trans e)])
  have HR : Hid (l ≠ 0 → pushS n K t q s hd k st = putS n (putS n (push1 n K t q s hd k st) (pageI t q s ((l : Int) - 1) 3) (k + 1)) hd (k + 1)) := hidp (fun e => by unfold pushS push2; rw [if_neg (by rw [hl]; exact e), hl])
  clear hl
  clear h hk
  go_enter Try.func40, Try.ntmps40
  go_wp2_with fail
  refine (lkIs_c b t q s hd k _).mono ?_; rintro e w1 ⟨rfl, hb⟩; have W1 := hidp (W0.out.keep hb); clear hb W0; rw [HK.out]
  obtain ⟨x0, x1, x2, x3, x4, x5⟩ := W1.out.held.six'
  go_wp2_with fail
  refine (lkFirst_c hn W1.out.at_).mono ?_; rintro e w2 ⟨rfl, h1, h2⟩; have W2 := hidp (W1.out.call h1 h2); clear h1 h2 W1; rw [HL.out]
  obtain ⟨x0, x1, x2, x3, x4, x5⟩ := W2.out.held.six'
  go_wp2_with fail
  refine (lkSetNext_c hn l hl32 W2.out.at_).mono ?_; rintro e w3 ⟨rfl, h1, h2⟩; have W3 := hidp (W2.out.call h1 h2); clear h1 h2 W2
  obtain ⟨x0, x1, x2, x3, x4, x5⟩ := W3.out.held.six'
  go_wp2_with fail
  refine (lkSetPrev_c hn 0 (by omega) W3.out.at_).mono ?_; rintro e w4 ⟨rfl, h1, h2⟩; have W4 := hidp (W3.out.call h1 h2); clear h1 h2 W3
  obtain ⟨x0, x1, x2, x3, x4, x5⟩ := W4.out.held.six'
  rw [← HQ.out] at W4
  clear HL HQ HK
  by_cases hz : l = 0
  · have HE := hidp (HP.out hz)
    subst hz
    clear HP HR
    go_wp2_with fail
    refine wp_region_held_drew (S := (fun w' => w'.cell? ⟨w.heap.size + 1, 0, none⟩ = some (.pointer (some ⟨b, 0, none⟩)) ∧ w'.cell? ⟨w.heap.size + 1, 1, none⟩ = some (.int .i64 t) ∧ w'.cell? ⟨w.heap.size + 1, 2, none⟩ = some (.int .i64 q) ∧ w'.cell? ⟨w.heap.size + 1, 3, none⟩ = some (.int .i64 s) ∧ w'.cell? ⟨w.heap.size + 1, 4, none⟩ = some (.int .i64 hd) ∧ w'.cell? ⟨w.heap.size + 1, 5, none⟩ = some (.int .i64 (k : Int)))) (by kernel_rfl) ?_ (fun hHeld => ?_)
    · (try dsimp only)
      first | exact W4.out.drew.held.six' | exact W5.out.held.six' | exact W6.out.held.six' | exact hHeld
    refine tkO (i := 0) (v := ?_) rfl (by kernel_rfl) (fun _ _ _ h => h) (by rfl) ?_ (by assumption) ?_
    rotate_left
    · intro w hSw; (try dsimp only at hSw); go_simp; (try with_reducible rfl)
    (try simp only [Act.put, gA, gB, gC, sA, sB, sC])
    refine tkO (i := 1) (v := ?_) rfl (by kernel_rfl) (fun _ _ _ h => h) (by rfl) ?_ (by assumption) ?_
    rotate_left
    · intro w hSw; (try dsimp only at hSw); go_simp; (try with_reducible rfl)
    (try simp only [Act.put, gA, gB, gC, sA, sB, sC])
    refine tkO (i := 2) (v := ?_) rfl (by kernel_rfl) (fun _ _ _ h => h) (by rfl) ?_ (by assumption) ?_
    rotate_left
    · intro w hSw; (try dsimp only at hSw); go_simp; (try with_reducible rfl)
    (try simp only [Act.put, gA, gB, gC, sA, sB, sC])
    refine wpAnyH_ready (rs := [3]) (by kernel_rfl) (by simp) ?_
    refine AllReadyH.cons (o := _) rfl (fun K hK => ?_) AllReadyH.nil
    go_simp
    refine (lkLink_c b t q s hd k hk31 _).mono ?_; rintro e w5 ⟨rfl, hb⟩; have W5 := hidp (W4.out.drew.keep hb); clear hb W4
    refine hK.out _ _ ?_ (fun hHeld => ?_)
    · (try dsimp only)
      first | exact W4.out.drew.held.six' | exact W5.out.held.six' | exact W6.out.held.six' | exact hHeld
    clear hK K
    (try simp only [Act.put, gA, gB, gC, sA, sB, sC])
    refine wpAnyH_ready (rs := [4]) (by kernel_rfl) (by simp) ?_
    refine AllReadyH.cons (o := _) rfl (fun K hK => ?_) AllReadyH.nil
    go_simp
    refine (lkSetFirst_c hn (k + 1) (by omega) W5.out.at_).mono ?_; rintro e w6 ⟨rfl, h1, h2⟩; have W6 := hidp (W5.out.call h1 h2); clear h1 h2 W5
    refine hK.out _ _ ?_ (fun hHeld => ?_)
    · (try dsimp only)
      first | exact W4.out.drew.held.six' | exact W5.out.held.six' | exact W6.out.held.six' | exact hHeld
    clear hK K
    (try simp only [Act.put, gA, gB, gC, sA, sB, sC])
    refine wpAnyH_done (by kernel_rfl) ?_ _
    obtain ⟨x0, x1, x2, x3, x4, x5⟩ := W6.out.held.six'
    go_wp2
    go_end0
    exact ⟨rfl, by rw [HE.out]; exact W6.out.fin⟩
  · have HE := hidp (HR.out hz)
    have t1 : ((l : Int) == 0) = false := by simp; omega
    have t2 : ((l : Int) != 0) = true := by simp; omega
    clear HP HR
    go_wp2_with fail
    refine wp_region_held_drew (S := (fun w' => w'.cell? ⟨w.heap.size + 1, 0, none⟩ = some (.pointer (some ⟨b, 0, none⟩)) ∧ w'.cell? ⟨w.heap.size + 1, 1, none⟩ = some (.int .i64 t) ∧ w'.cell? ⟨w.heap.size + 1, 2, none⟩ = some (.int .i64 q) ∧ w'.cell? ⟨w.heap.size + 1, 3, none⟩ = some (.int .i64 s) ∧ w'.cell? ⟨w.heap.size + 1, 4, none⟩ = some (.int .i64 hd) ∧ w'.cell? ⟨w.heap.size + 1, 5, none⟩ = some (.int .i64 (k : Int)))) (by kernel_rfl) ?_ (fun hHeld => ?_)
    · (try dsimp only)
      first | exact W4.out.drew.held.six' | exact W5.out.held.six' | exact W6.out.held.six' | exact W7.out.held.six' | exact hHeld
    refine tkO (i := 0) (v := ?_) rfl (by kernel_rfl) (fun _ _ _ h => h) (by rfl) ?_ (by assumption) ?_
    rotate_left
    · intro w hSw; (try dsimp only at hSw); go_simp; (try with_reducible rfl)
    (try simp only [Act.put, gA, gB, gC, sA, sB, sC])
    refine tkO (i := 1) (v := ?_) rfl (by kernel_rfl) (fun _ _ _ h => h) (by rfl) ?_ (by assumption) ?_
    rotate_left
    · intro w hSw; (try dsimp only at hSw); go_simp; (try with_reducible rfl)
    (try simp only [Act.put, gA, gB, gC, sA, sB, sC])
    refine tkO (i := 2) (v := ?_) rfl (by kernel_rfl) (fun _ _ _ h => h) (by rfl) ?_ (by assumption) ?_
    rotate_left
    · intro w hSw; (try dsimp only at hSw); go_simp; (try with_reducible rfl)
    (try simp only [Act.put, gA, gB, gC, sA, sB, sC])
    refine tkO (i := 4) (v := ?_) rfl (by kernel_rfl) (fun _ _ _ h => h) (by rfl) ?_ (by assumption) ?_
    rotate_left
    · intro w hSw; (try dsimp only at hSw); go_simp; (try with_reducible rfl)
    (try simp only [Act.put, gA, gB, gC, sA, sB, sC])
    refine wpAnyH_ready (rs := [3]) (by kernel_rfl) (by simp) ?_
    refine AllReadyH.cons (o := _) rfl (fun K hK => ?_) AllReadyH.nil
    go_simp
    refine (lkTo_c b t q s hd l hl32 _).mono ?_; rintro e w5 ⟨rfl, hb⟩; have W5 := hidp (W4.out.drew.keep hb); clear hb W4
    refine hK.out _ _ ?_ (fun hHeld => ?_)
    · (try dsimp only)
      first | exact W4.out.drew.held.six' | exact W5.out.held.six' | exact W6.out.held.six' | exact W7.out.held.six' | exact hHeld
    clear hK K
    (try simp only [Act.put, gA, gB, gC, sA, sB, sC])
    refine wpAnyH_ready (rs := [5]) (by kernel_rfl) (by simp) ?_
    refine AllReadyH.cons (o := _) rfl (fun K hK => ?_) AllReadyH.nil
    go_simp
    refine (lkLink_c b t q s hd k hk31 _).mono ?_; rintro e w6 ⟨rfl, hb⟩; have W6 := hidp (W5.out.keep hb); clear hb W5
    refine hK.out _ _ ?_ (fun hHeld => ?_)
    · (try dsimp only)
      first | exact W4.out.drew.held.six' | exact W5.out.held.six' | exact W6.out.held.six' | exact W7.out.held.six' | exact hHeld
    clear hK K
    (try simp only [Act.put, gA, gB, gC, sA, sB, sC])
    refine wpAnyH_ready (rs := [6]) (by kernel_rfl) (by simp) ?_
    refine AllReadyH.cons (o := _) rfl (fun K hK => ?_) AllReadyH.nil
    go_simp
    refine (lkSetPrev_c hn (k + 1) (by omega) W6.out.at_).mono ?_; rintro e w7 ⟨rfl, h1, h2⟩; have W7 := hidp (W6.out.call h1 h2); clear h1 h2 W6
    refine hK.out _ _ ?_ (fun hHeld => ?_)
    · (try dsimp only)
      first | exact W4.out.drew.held.six' | exact W5.out.held.six' | exact W6.out.held.six' | exact W7.out.held.six' | exact hHeld
    clear hK K
    (try simp only [Act.put, gA, gB, gC, sA, sB, sC])
    refine wpAnyH_done (by kernel_rfl) ?_ _
    obtain ⟨x0, x1, x2, x3, x4, x5⟩ := W7.out.held.six'
    go_wp2_with fail
    refine wp_region_held_drew (S := (fun w' => w'.cell? ⟨w.heap.size + 1, 0, none⟩ = some (.pointer (some ⟨b, 0, none⟩)) ∧ w'.cell? ⟨w.heap.size + 1, 1, none⟩ = some (.int .i64 t) ∧ w'.cell? ⟨w.heap.size + 1, 2, none⟩ = some (.int .i64 q) ∧ w'.cell? ⟨w.heap.size + 1, 3, none⟩ = some (.int .i64 s) ∧ w'.cell? ⟨w.heap.size + 1, 4, none⟩ = some (.int .i64 hd) ∧ w'.cell? ⟨w.heap.size + 1, 5, none⟩ = some (.int .i64 (k : Int)))) (by kernel_rfl) ?_ (fun hHeld => ?_)
    · (try dsimp only)
      first | exact W7.out.drew.held.six' | exact W8.out.held.six' | exact W9.out.held.six' | exact hHeld
    refine tkO (i := 0) (v := ?_) rfl (by kernel_rfl) (fun _ _ _ h => h) (by rfl) ?_ (by assumption) ?_
    rotate_left
    · intro w hSw; (try dsimp only at hSw); go_simp; (try with_reducible rfl)
    (try simp only [Act.put, gA, gB, gC, sA, sB, sC])
    refine tkO (i := 1) (v := ?_) rfl (by kernel_rfl) (fun _ _ _ h => h) (by rfl) ?_ (by assumption) ?_
    rotate_left
    · intro w hSw; (try dsimp only at hSw); go_simp; (try with_reducible rfl)
    (try simp only [Act.put, gA, gB, gC, sA, sB, sC])
    refine tkO (i := 2) (v := ?_) rfl (by kernel_rfl) (fun _ _ _ h => h) (by rfl) ?_ (by assumption) ?_
    rotate_left
    · intro w hSw; (try dsimp only at hSw); go_simp; (try with_reducible rfl)
    (try simp only [Act.put, gA, gB, gC, sA, sB, sC])
    refine wpAnyH_ready (rs := [3]) (by kernel_rfl) (by simp) ?_
    refine AllReadyH.cons (o := _) rfl (fun K hK => ?_) AllReadyH.nil
    go_simp
    refine (lkLink_c b t q s hd k hk31 _).mono ?_; rintro e w8 ⟨rfl, hb⟩; have W8 := hidp (W7.out.drew.keep hb); clear hb W7
    refine hK.out _ _ ?_ (fun hHeld => ?_)
    · (try dsimp only)
      first | exact W7.out.drew.held.six' | exact W8.out.held.six' | exact W9.out.held.six' | exact hHeld
    clear hK K
    (try simp only [Act.put, gA, gB, gC, sA, sB, sC])
    refine wpAnyH_ready (rs := [4]) (by kernel_rfl) (by simp) ?_
    refine AllReadyH.cons (o := _) rfl (fun K hK => ?_) AllReadyH.nil
    go_simp
    refine (lkSetFirst_c hn (k + 1) (by omega) W8.out.at_).mono ?_; rintro e w9 ⟨rfl, h1, h2⟩; have W9 := hidp (W8.out.call h1 h2); clear h1 h2 W8
    refine hK.out _ _ ?_ (fun hHeld => ?_)
    · (try dsimp only)
      first | exact W7.out.drew.held.six' | exact W8.out.held.six' | exact W9.out.held.six' | exact hHeld
    clear hK K
    (try simp only [Act.put, gA, gB, gC, sA, sB, sC])
    refine wpAnyH_done (by kernel_rfl) ?_ _
    obtain ⟨x0, x1, x2, x3, x4, x5⟩ := W9.out.held.six'
    go_wp2
    go_end0
    exact ⟨rfl, by rw [HE.out]; exact W9.out.fin⟩
theorem lkPush_c (hn : n < 2 ^ 40) (hq : q ≤ 2 ^ 31) (p : Int) (h : (vOb base b n wh K).At w0 A G st w) :
    Calls Try.prog 40 #[.pointer (some ⟨b, 0, none⟩), .agg #[.int .i64 t, .int .i64 q, .int .i64 s], .int .i64 hd, .int .i64 p] w fun e w' => e = .returned (.tuple #[]) ∧ (vOb base b n wh K).At w0 A G (pushI n K t q s hd p st) w' ∧ Stay G w w' := by
  cases hp : pgB q p with
  | false => rw [(pgB_none hp).1]; exact lkPush_no hn p hp h
  | true =>
    have h1 := (pgB_iff _ _).1 hp
    obtain ⟨k, rfl⟩ := Int.eq_ofNat_of_zero_le h1.1
    rw [(pgB_nat hp).1]
    exact lkPush_yes hn k hp (by omega) h

theorem lkPull_no (hn : n < 2 ^ 40) (p : Int) (hp : pgB q p = false) (h : (vOb base b n wh K).At w0 A G st w) :
    Calls Try.prog 31 #[.pointer (some ⟨b, 0, none⟩), .agg #[.int .i64 t, .int .i64 q, .int .i64 s], .int .i64 hd, .int .i64 p] w fun e w' => e = .returned (.tuple #[]) ∧ (vOb base b n wh K).At w0 A G (st) w' ∧ Stay G w w' := by
  have W0 := hidp (WK.two h (.cells #[.int .i64 t, .int .i64 q, .int .i64 s] 23) 95 #[.pointer (some ⟨b, 0, none⟩), .int .i64 t, .int .i64 q, .int .i64 s, .int .i64 hd, .int .i64 p])
  obtain ⟨x0, x1, x2, x3, x4, x5⟩ := W0.out.held.six'
  have HK := hidp hp
  clear h hp
  go_enter Try.func31, Try.ntmps31
  go_wp2_with fail
  refine (lkIs_c b t q s hd p _).mono ?_; rintro e w1 ⟨rfl, hb⟩; rw [HK.out]; have W1 := hidp (W0.out.keep hb); clear hb W0
  go_wp2
  (try simp only [Exit.inBlock, Exit.then])
  refine bodyPost_ret (results_none rfl _ _ _) rfl ?_
  exact ⟨rfl, W1.out.fin⟩

set_option maxHeartbeats 3200000 in
theorem lkPull_yes (hn : n < 2 ^ 40) (k : Nat) (hk : pgB q (k : Int) = true) (hk31 : k < 2 ^ 31) (h : (vOb base b n wh K).At w0 A G st w) :
    Calls Try.prog 31 #[.pointer (some ⟨b, 0, none⟩), .agg #[.int .i64 t, .int .i64 q, .int .i64 s], .int .i64 hd, .int .i64 (k : Int)] w fun e w' => e = .returned (.tuple #[]) ∧ (vOb base b n wh K).At w0 A G (pullS n K t q s hd k st) w' ∧ Stay G w w' := by
  have W0 := hidp (WK.two h (.cells #[.int .i64 t, .int .i64 q, .int .i64 s] 23) 95 #[.pointer (some ⟨b, 0, none⟩), .int .i64 t, .int .i64 q, .int .i64 s, .int .i64 hd, .int .i64 (k : Int)])
  obtain ⟨x0, x1, x2, x3, x4, x5⟩ := W0.out.held.six'
  have HK := hidp hk
  obtain ⟨x, hx⟩ : ∃ x, pullN n K t q s k st = x := ⟨_, rfl⟩
  obtain ⟨y, hy⟩ : ∃ y, pullB n K t q s k st = y := ⟨_, rfl⟩
  have hx32 : x < 2 ^ 32 := by rw [← hx]; exact vAt_lt h _
  have HX : Hid (getV n K st (pageI t q s (k : Int) 2) = x) := hidp hx
  have HY : Hid (getV n K (getS n K st (pageI t q s (k : Int) 2)) (pageI t q s (k : Int) 3) = y) := hidp hy
  have H0 : Hid (pull0 n K t q s k st = getS n K (getS n K st (pageI t q s (k : Int) 2)) (pageI t q s (k : Int) 3)) := hidp rfl
  have HA : Hid (y = 0 → pull1 n K t q s hd k st = putS n (pull0 n K t q s k st) hd x) := hidp (fun e => by unfold pull1; rw [if_pos (hy.trans e), hx])
  have HB : Hid (y ≠ 0 → pull1 n K t q s hd k st = putS n (pull0 n K t q s k st) (pageI t q s ((y : Int) - 1) 2) x) := hidp (fun e => by unfold pull1; rw [if_neg (by rw [hy]; exact e), hx, hy])
  have HC : Hid (x = 0 → pull2 n K t q s hd k st = pull1 n K t q s hd k st) := hidp (fun e => by unfold pull2; rw [if_pos (hx.trans e)])
  have HD : Hid (x ≠ 0 → pull2 n K t q s hd k st = putS n (pull1 n K t q s hd k st) (pageI t q s ((x : Int) - 1) 3) y) := hidp (fun e => by unfold pull2; rw [if_neg (by rw [hx]; exact e), hx, hy])
  have HE : Hid (pullS n K t q s hd k st = putS n (putS n (pull2 n K t q s hd k st) (pageI t q s (k : Int) 2) 0) (pageI t q s (k : Int) 3) 0) := hidp rfl
  clear hx hy
  clear h hk
  go_enter Try.func31, Try.ntmps31
  go_wp2_with fail
  refine (lkIs_c b t q s hd k _).mono ?_; rintro e w1 ⟨rfl, hb⟩; have W1 := hidp (W0.out.keep hb); clear hb W0; rw [HK.out]
  obtain ⟨x0, x1, x2, x3, x4, x5⟩ := W1.out.held.six'
  go_wp2_with fail
  refine wp_region_held_drew (S := (fun w' => w'.cell? ⟨w.heap.size + 1, 0, none⟩ = some (.pointer (some ⟨b, 0, none⟩)) ∧ w'.cell? ⟨w.heap.size + 1, 1, none⟩ = some (.int .i64 t) ∧ w'.cell? ⟨w.heap.size + 1, 2, none⟩ = some (.int .i64 q) ∧ w'.cell? ⟨w.heap.size + 1, 3, none⟩ = some (.int .i64 s) ∧ w'.cell? ⟨w.heap.size + 1, 4, none⟩ = some (.int .i64 hd) ∧ w'.cell? ⟨w.heap.size + 1, 5, none⟩ = some (.int .i64 (k : Int)))) (by kernel_rfl) ?_ (fun hHeld => ?_)
  · (try dsimp only)
    first | exact W1.out.drew.held.six' | exact W2.out.held.six' | exact W3.out.held.six' | exact hHeld
  refine tkO (i := 0) (v := ?_) rfl (by kernel_rfl) (fun _ _ _ h => h) (by rfl) ?_ (by assumption) ?_
  rotate_left
  · intro w hSw; (try dsimp only at hSw); go_simp; (try with_reducible rfl)
  (try simp only [Act.put, gA, gB, gC, sA, sB, sC])
  refine tkO (i := 2) (v := ?_) rfl (by kernel_rfl) (fun _ _ _ h => h) (by rfl) ?_ (by assumption) ?_
  rotate_left
  · intro w hSw; (try dsimp only at hSw); go_simp; (try with_reducible rfl)
  (try simp only [Act.put, gA, gB, gC, sA, sB, sC])
  refine wpAnyH_ready (rs := [1]) (by kernel_rfl) (by simp) ?_
  refine AllReadyH.cons (o := _) rfl (fun K hK => ?_) AllReadyH.nil
  go_simp
  refine (lkNext_c hn W1.out.drew.at_).mono ?_; rintro e w2 ⟨rfl, h1, h2⟩; have W2 := hidp (W1.out.drew.call h1 h2); have HZ := W2; clear h1 h2 W1; rw [HX.out]
  refine hK.out _ _ ?_ (fun hHeld => ?_)
  · (try dsimp only)
    first | exact W1.out.drew.held.six' | exact W2.out.held.six' | exact W3.out.held.six' | exact hHeld
  clear hK K
  (try simp only [Act.put, gA, gB, gC, sA, sB, sC])
  refine wpAnyH_ready (rs := [3]) (by kernel_rfl) (by simp) ?_
  refine AllReadyH.cons (o := _) rfl (fun K hK => ?_) AllReadyH.nil
  go_simp
  refine (lkPrev_c hn W2.out.at_).mono ?_; rintro e w3 ⟨rfl, h1, h2⟩; have W3 := hidp (W2.out.call h1 h2); clear h1 h2 W2; have hy32 : y < 2 ^ 32 := by { rw [← HY.out]; exact vAt_lt HZ.out.at_ _ }; clear HZ; rw [HY.out]
  refine hK.out _ _ ?_ (fun hHeld => ?_)
  · (try dsimp only)
    first | exact W1.out.drew.held.six' | exact W2.out.held.six' | exact W3.out.held.six' | exact hHeld
  clear hK K
  (try simp only [Act.put, gA, gB, gC, sA, sB, sC])
  refine tkO (i := 4) (v := ?_) rfl (by kernel_rfl) (fun _ _ _ h => h) (by rfl) ?_ (by assumption) ?_
  rotate_left
  · intro w hSw; (try dsimp only at hSw); go_simp; (try with_reducible rfl)
  (try simp only [Act.put, gA, gB, gC, sA, sB, sC])
  refine tkO (i := 5) (v := ?_) rfl (by kernel_rfl) (fun _ _ _ h => h) (by rfl) ?_ (by assumption) ?_
  rotate_left
  · intro w hSw; (try dsimp only at hSw); go_simp; (try with_reducible rfl)
  (try simp only [Act.put, gA, gB, gC, sA, sB, sC])
  refine wpAnyH_done (by kernel_rfl) ?_ _
  obtain ⟨x0, x1, x2, x3, x4, x5⟩ := W3.out.held.six'
  rw [← H0.out] at W3
  clear HX HY H0 HK
  by_cases hyz : y = 0
  · have HM := hidp (HA.out hyz)
    subst hyz
    go_wp2_with fail
    refine (lkSetFirst_c hn x hx32 W3.out.at_).mono ?_; rintro e w4 ⟨rfl, h1, h2⟩; have W4 := hidp (W3.out.call h1 h2); clear h1 h2 W3
    obtain ⟨x0, x1, x2, x3, x4, x5⟩ := W4.out.held.six'
    rw [← HM.out] at W4
    clear HA HB HM
    by_cases hxz : x = 0
    · have HN := hidp (HC.out hxz)
      subst hxz
      clear HC HD
      go_wp2_with fail
      refine (lkSetNext_c hn 0 (by omega) W4.out.at_).mono ?_; rintro e w5 ⟨rfl, h1, h2⟩; have W5 := hidp (W4.out.call h1 h2); clear h1 h2 W4
      obtain ⟨x0, x1, x2, x3, x4, x5⟩ := W5.out.held.six'
      go_wp2_with fail
      refine (lkSetPrev_c hn 0 (by omega) W5.out.at_).mono ?_; rintro e w6 ⟨rfl, h1, h2⟩; have W6 := hidp (W5.out.call h1 h2); clear h1 h2 W5
      obtain ⟨x0, x1, x2, x3, x4, x5⟩ := W6.out.held.six'
      go_wp2
      go_end0
      exact ⟨rfl, by rw [HE.out, HN.out]; exact W6.out.fin⟩
    · have HN := hidp (HD.out hxz)
      have t3 : ((x : Int) == 0) = false := by simp; omega
      have t4 : ((x : Int) != 0) = true := by simp; omega
      clear HC HD
      go_wp2_with fail
      refine (lkTo_c b t q s hd x hx32 _).mono ?_; rintro e w5 ⟨rfl, hb⟩; have W5 := hidp (W4.out.keep hb); clear hb W4
      obtain ⟨x0, x1, x2, x3, x4, x5⟩ := W5.out.held.six'
      go_wp2_with fail
      refine (lkSetPrev_c hn 0 (by omega) W5.out.at_).mono ?_; rintro e w6 ⟨rfl, h1, h2⟩; have W6 := hidp (W5.out.call h1 h2); clear h1 h2 W5
      obtain ⟨x0, x1, x2, x3, x4, x5⟩ := W6.out.held.six'
      go_wp2_with fail
      refine (lkSetNext_c hn 0 (by omega) W6.out.at_).mono ?_; rintro e w7 ⟨rfl, h1, h2⟩; have W7 := hidp (W6.out.call h1 h2); clear h1 h2 W6
      obtain ⟨x0, x1, x2, x3, x4, x5⟩ := W7.out.held.six'
      go_wp2_with fail
      refine (lkSetPrev_c hn 0 (by omega) W7.out.at_).mono ?_; rintro e w8 ⟨rfl, h1, h2⟩; have W8 := hidp (W7.out.call h1 h2); clear h1 h2 W7
      obtain ⟨x0, x1, x2, x3, x4, x5⟩ := W8.out.held.six'
      go_wp2
      go_end0
      exact ⟨rfl, by rw [HE.out, HN.out]; exact W8.out.fin⟩
  · have HM := hidp (HB.out hyz)
    have t1 : ((y : Int) == 0) = false := by simp; omega
    have t2 : ((y : Int) != 0) = true := by simp; omega
    go_wp2_with fail
    refine (lkTo_c b t q s hd y hy32 _).mono ?_; rintro e w4 ⟨rfl, hb⟩; have W4 := hidp (W3.out.keep hb); clear hb W3
    obtain ⟨x0, x1, x2, x3, x4, x5⟩ := W4.out.held.six'
    go_wp2_with fail
    refine (lkSetNext_c hn x hx32 W4.out.at_).mono ?_; rintro e w5 ⟨rfl, h1, h2⟩; have W5 := hidp (W4.out.call h1 h2); clear h1 h2 W4
    obtain ⟨x0, x1, x2, x3, x4, x5⟩ := W5.out.held.six'
    rw [← HM.out] at W5
    clear HA HB HM
    by_cases hxz : x = 0
    · have HN := hidp (HC.out hxz)
      subst hxz
      clear HC HD
      go_wp2_with fail
      refine (lkSetNext_c hn 0 (by omega) W5.out.at_).mono ?_; rintro e w6 ⟨rfl, h1, h2⟩; have W6 := hidp (W5.out.call h1 h2); clear h1 h2 W5
      obtain ⟨x0, x1, x2, x3, x4, x5⟩ := W6.out.held.six'
      go_wp2_with fail
      refine (lkSetPrev_c hn 0 (by omega) W6.out.at_).mono ?_; rintro e w7 ⟨rfl, h1, h2⟩; have W7 := hidp (W6.out.call h1 h2); clear h1 h2 W6
      obtain ⟨x0, x1, x2, x3, x4, x5⟩ := W7.out.held.six'
      go_wp2
      go_end0
      exact ⟨rfl, by rw [HE.out, HN.out]; exact W7.out.fin⟩
    · have HN := hidp (HD.out hxz)
      have t3 : ((x : Int) == 0) = false := by simp; omega
      have t4 : ((x : Int) != 0) = true := by simp; omega
      clear HC HD
      go_wp2_with fail
      refine (lkTo_c b t q s hd x hx32 _).mono ?_; rintro e w6 ⟨rfl, hb⟩; have W6 := hidp (W5.out.keep hb); clear hb W5
      obtain ⟨x0, x1, x2, x3, x4, x5⟩ := W6.out.held.six'
      go_wp2_with fail
      refine (lkSetPrev_c hn y hy32 W6.out.at_).mono ?_; rintro e w7 ⟨rfl, h1, h2⟩; have W7 := hidp (W6.out.call h1 h2); clear h1 h2 W6
      obtain ⟨x0, x1, x2, x3, x4, x5⟩ := W7.out.held.six'
      go_wp2_with fail
      refine (lkSetNext_c hn 0 (by omega) W7.out.at_).mono ?_; rintro e w8 ⟨rfl, h1, h2⟩; have W8 := hidp (W7.out.call h1 h2); clear h1 h2 W7
      obtain ⟨x0, x1, x2, x3, x4, x5⟩ := W8.out.held.six'
      go_wp2_with fail
      refine (lkSetPrev_c hn 0 (by omega) W8.out.at_).mono ?_; rintro e w9 ⟨rfl, h1, h2⟩; have W9 := hidp (W8.out.call h1 h2); clear h1 h2 W8
      obtain ⟨x0, x1, x2, x3, x4, x5⟩ := W9.out.held.six'
      go_wp2
      go_end0
      exact ⟨rfl, by rw [HE.out, HN.out]; exact W9.out.fin⟩
theorem lkPull_c (hn : n < 2 ^ 40) (hq : q ≤ 2 ^ 31) (p : Int) (h : (vOb base b n wh K).At w0 A G st w) :
    Calls Try.prog 31 #[.pointer (some ⟨b, 0, none⟩), .agg #[.int .i64 t, .int .i64 q, .int .i64 s], .int .i64 hd, .int .i64 p] w fun e w' => e = .returned (.tuple #[]) ∧ (vOb base b n wh K).At w0 A G (pullI n K t q s hd p st) w' ∧ Stay G w w' := by
  cases hp : pgB q p with
  | false => rw [(pgB_none hp).2]; exact lkPull_no hn p hp h
  | true =>
    have h1 := (pgB_iff _ _).1 hp
    obtain ⟨k, rfl⟩ := Int.eq_ofNat_of_zero_le h1.1
    rw [(pgB_nat hp).2]
    exact lkPull_yes hn k hp (by omega) h

end
end Go.Proofs.Ytpndfhdedmdoeaa
