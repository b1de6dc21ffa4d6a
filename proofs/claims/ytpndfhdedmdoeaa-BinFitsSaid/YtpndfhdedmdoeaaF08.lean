/-
  Contracts of place's At, and of what it calls.
-/
import Derived.Test.YtpndfhdedmdoeaaF06
import Derived.Deep.RegionHeld3
import Derived.IntWalk
import Derived.KernelRfl
import Derived.Test.YtpndfhdedmdoeaaF05
namespace Go.Proofs.Ytpndfhdedmdoeaa
open Go.ChangeShapes Go.WideShapes Go.ChangeAt Go.RowKit
set_option linter.unusedVariables false
set_option linter.unusedSimpArgs false

theorem part_call {q r : Int} (h : r < 16) : partT q r = (4, q, r) := by unfold partT; rw [if_pos h]
theorem part_note {q : Int} : partT q 16 = (5, q, 0) := by unfold partT; rw [if_neg (by omega), if_pos rfl]
theorem part_log {q r : Int} (h : 24 ≤ r) : partT q r = (6, q, r - 24) := by unfold partT; rw [if_neg (by omega), if_neg (by omega), if_pos h]
theorem part_none {q r : Int} (h : 16 < r) (h' : r < 24) : partT q r = (0, 0, 0) := by unfold partT; rw [if_neg (by omega), if_neg (by omega), if_neg (by omega)]

end Go.Proofs.Ytpndfhdedmdoeaa

/-
  Contracts of the document's answers to place (nacreref07).
-/
namespace Go.Proofs.Ytpndfhdedmdoeaa
open Go.ChangeShapes Go.WideShapes Go.ChangeAt Go.RowKit
set_option linter.unusedVariables false
set_option linter.unusedSimpArgs false

theorem w64 {x : Int} (h : -9223372036854775808 ≤ x) (h' : x ≤ 9223372036854775807) : IntKind.i64.wrap x = x := by
  simp only [IntKind.wrap, IntKind.bits, IntKind.signed]; simp; omega

theorem r7Bin_c (k : Int) (w : World) :
    Calls Try.prog 35 #[.int .i64 k] w fun z w' => z = .returned (.int .i64 (nthI 2 11 1 k)) ∧ w = w' := by
  by_cases c0 : k < 0
  · have HN := hidp (nth_off (f := 2) (n := 11) (e := 1) (.inr (.inl c0)))
    go_enter Try.func35, Try.ntmps35
    go_wp2
    go_ret
    exact ⟨by rw [HN.out]; rfl, rfl⟩
  · by_cases c1 : 11 ≤ k
    · have HN := hidp (nth_off (f := 2) (n := 11) (e := 1) (.inr (.inr c1)))
      go_enter Try.func35, Try.ntmps35
      go_wp2
      go_ret
      exact ⟨by rw [HN.out]; rfl, rfl⟩
    · have HN := hidp (show nthI 2 11 1 k = 2 + k by rw [nth_on (by omega) (by omega) (by omega)]; omega)
      go_enter Try.func35, Try.ntmps35
      go_wp2
      go_ret
      exact ⟨by rw [HN.out]; rfl, rfl⟩

theorem r7Rack_c (k : Int) (w : World) :
    Calls Try.prog 108 #[.int .i64 k] w fun z w' => z = .returned (.int .i64 (nthI 13 9 1 k)) ∧ w = w' := by
  by_cases c0 : k < 0
  · have HN := hidp (nth_off (f := 13) (n := 9) (e := 1) (.inr (.inl c0)))
    go_enter Try.func108, Try.ntmps108
    go_wp2
    go_ret
    exact ⟨by rw [HN.out]; rfl, rfl⟩
  · by_cases c1 : 9 ≤ k
    · have HN := hidp (nth_off (f := 13) (n := 9) (e := 1) (.inr (.inr c1)))
      go_enter Try.func108, Try.ntmps108
      go_wp2
      go_ret
      exact ⟨by rw [HN.out]; rfl, rfl⟩
    · have HN := hidp (show nthI 13 9 1 k = 13 + k by rw [nth_on (by omega) (by omega) (by omega)]; omega)
      go_enter Try.func108, Try.ntmps108
      go_wp2
      go_ret
      exact ⟨by rw [HN.out]; rfl, rfl⟩

theorem r7Root_c (k : Int) (w : World) :
    Calls Try.prog 113 #[.int .i64 k] w fun z w' => z = .returned (.int .i64 (nthI 22 8 1 k)) ∧ w = w' := by
  by_cases c0 : k < 0
  · have HN := hidp (nth_off (f := 22) (n := 8) (e := 1) (.inr (.inl c0)))
    go_enter Try.func113, Try.ntmps113
    go_wp2
    go_ret
    exact ⟨by rw [HN.out]; rfl, rfl⟩
  · by_cases c1 : 8 ≤ k
    · have HN := hidp (nth_off (f := 22) (n := 8) (e := 1) (.inr (.inr c1)))
      go_enter Try.func113, Try.ntmps113
      go_wp2
      go_ret
      exact ⟨by rw [HN.out]; rfl, rfl⟩
    · have HN := hidp (show nthI 22 8 1 k = 22 + k by rw [nth_on (by omega) (by omega) (by omega)]; omega)
      go_enter Try.func113, Try.ntmps113
      go_wp2
      go_ret
      exact ⟨by rw [HN.out]; rfl, rfl⟩

theorem r7Cells_c (t p s : Int) (w : World) :
    Calls Try.prog 82 #[.agg #[.int .i64 t, .int .i64 p, .int .i64 s]] w fun z w' => z = .returned (.int .i64 (lC t p s)) ∧ Below w.heap.size w w' := by
  have hc := Held.new w 23 #[.int .i64 t, .int .i64 p, .int .i64 s]
  cases hr : rightB t p s
  · have HR := hidp hr
    have HN := hidp (lay_no hr).hC
    clear hr
    go_enter Try.func82, Try.ntmps82
    go_wp2_with fail
    refine (r4Right_c t p s _).mono ?_
    rintro e w1 ⟨rfl, hb1⟩
    rw [HR.out]
    have hc1 := hc.keep hb1
    obtain ⟨x0, x1, x2⟩ := hc1.three
    go_wp2
    go_ret
    exact ⟨by rw [HN.out]; rfl, Bgo (Bnew (B0 _) _) hb1⟩
  · have HR := hidp hr
    have HN := hidp (lay_yes hr).hC
    have hn := (rightB_iff t p s).1 hr
    have t0 : 1 ≤ t := by omega
    have t1 : t ≤ 16 := by omega
    have p0 : 4 ≤ p := by omega
    have p1 : p ≤ 1024 := by omega
    clear hn
    clear hr
    go_enter Try.func82, Try.ntmps82
    go_wp2_with fail
    refine (r4Right_c t p s _).mono ?_
    rintro e w1 ⟨rfl, hb1⟩
    rw [HR.out]
    have hc1 := hc.keep hb1
    obtain ⟨x0, x1, x2⟩ := hc1.three
    go_wp2
    go_ret
    exact ⟨by rw [HN.out]; rfl, Bgo (Bnew (B0 _) _) hb1⟩

set_option maxHeartbeats 1600000 in
theorem r7Page_c (t p s q b : Int) (b0 : 0 ≤ b) (b1 : b < 6) (w : World) :
    Calls Try.prog 77 #[.agg #[.int .i64 t, .int .i64 p, .int .i64 s], .int .i64 q, .int .i64 b] w fun z w' => z = .returned (.int .i64 (pageI t p s q b)) ∧ Below w.heap.size w w' := by
  have hc := Held.new w 23 #[.int .i64 t, .int .i64 p, .int .i64 s]
  cases hr : rightB t p s
  · have HR := hidp hr
    have HN := hidp (show pageI t p s q b = -1 from pcell_no (by intro h; rw [h.1] at hr; cases hr))
    clear hr
    go_enter Try.func77, Try.ntmps77
    go_wp2_with fail
    refine (r4Right_c t p s _).mono ?_
    rintro e w1 ⟨rfl, hb1⟩
    rw [HR.out]
    have hc1 := hc.keep hb1
    obtain ⟨x0, x1, x2⟩ := hc1.three
    go_wp2
    go_ret
    refine ⟨by rw [HN.out]; rfl, ?_⟩
    repeat (first | exact B0 _ | (with_reducible refine Bgo ?_ (by assumption)) | (with_reducible refine Bdrew ?_) | (with_reducible refine Bdraw ?_ _) | (with_reducible refine Bnew ?_ _) | (with_reducible refine Bput ?_ (by first | (simp; done) | (simp; omega)) _))
  · have HR := hidp hr
    have hn := (rightB_iff t p s).1 hr
    have t0 : 1 ≤ t := by omega
    have t1 : t ≤ 16 := by omega
    have p0 : 4 ≤ p := by omega
    have p1 : p ≤ 1024 := by omega
    clear hn
    by_cases c0 : q < 0
    · clear hr
      have HN := hidp (show pageI t p s q b = -1 from pcell_no (by intro h; omega))
      go_enter Try.func77, Try.ntmps77
      go_wp2_with fail
      refine (r4Right_c t p s _).mono ?_
      rintro e w1 ⟨rfl, hb1⟩
      rw [HR.out]
      have hc1 := hc.keep hb1
      obtain ⟨x0, x1, x2⟩ := hc1.three
      go_wp2
      go_ret
      refine ⟨by rw [HN.out]; rfl, ?_⟩
      repeat (first | exact B0 _ | (with_reducible refine Bgo ?_ (by assumption)) | (with_reducible refine Bdrew ?_) | (with_reducible refine Bdraw ?_ _) | (with_reducible refine Bnew ?_ _) | (with_reducible refine Bput ?_ (by first | (simp; done) | (simp; omega)) _))
    · skip
      by_cases c1 : p ≤ q
      · clear hr
        have HN := hidp (show pageI t p s q b = -1 from pcell_no (by intro h; omega))
        go_enter Try.func77, Try.ntmps77
        go_wp2_with fail
        refine (r4Right_c t p s _).mono ?_
        rintro e w1 ⟨rfl, hb1⟩
        rw [HR.out]
        have hc1 := hc.keep hb1
        obtain ⟨x0, x1, x2⟩ := hc1.three
        go_wp2
        go_ret
        refine ⟨by rw [HN.out]; rfl, ?_⟩
        repeat (first | exact B0 _ | (with_reducible refine Bgo ?_ (by assumption)) | (with_reducible refine Bdrew ?_) | (with_reducible refine Bdraw ?_ _) | (with_reducible refine Bnew ?_ _) | (with_reducible refine Bput ?_ (by first | (simp; done) | (simp; omega)) _))
      · skip
        have HN := hidp (show pageI t p s q b = 30 + 4 * t + 6 * q + b from pcell_yes hr (by omega) (by omega) b0 b1)
        clear hr
        go_enter Try.func77, Try.ntmps77
        go_wp2_with fail
        refine (r4Right_c t p s _).mono ?_
        rintro e w1 ⟨rfl, hb1⟩
        rw [HR.out]
        have hc1 := hc.keep hb1
        obtain ⟨x0, x1, x2⟩ := hc1.three
        go_wp2
        go_ret
        refine ⟨by rw [HN.out]; rfl, ?_⟩
        repeat (first | exact B0 _ | (with_reducible refine Bgo ?_ (by assumption)) | (with_reducible refine Bdrew ?_) | (with_reducible refine Bdraw ?_ _) | (with_reducible refine Bnew ?_ _) | (with_reducible refine Bput ?_ (by first | (simp; done) | (simp; omega)) _))

theorem r7Info_c (t p s q : Int) (w : World) :
    Calls Try.prog 42 #[.agg #[.int .i64 t, .int .i64 p, .int .i64 s], .int .i64 q] w fun z w' => z = .returned (.int .i64 (pageI t p s q 0)) ∧ Below w.heap.size w w' := by
  go_enter Try.func42, Try.ntmps42
  go_wp2_with fail
  refine (r7Page_c t p s q 0 (by omega) (by omega) _).mono ?_
  rintro e w1 ⟨rfl, hb1⟩
  go_wp2
  go_ret
  exact ⟨by first | rfl | trivial, Bgo (Bnew (B0 _) _) hb1⟩

theorem r7Foot_c (t p s q : Int) (w : World) :
    Calls Try.prog 44 #[.agg #[.int .i64 t, .int .i64 p, .int .i64 s], .int .i64 q] w fun z w' => z = .returned (.int .i64 (pageI t p s q 1)) ∧ Below w.heap.size w w' := by
  go_enter Try.func44, Try.ntmps44
  go_wp2_with fail
  refine (r7Page_c t p s q 1 (by omega) (by omega) _).mono ?_
  rintro e w1 ⟨rfl, hb1⟩
  go_wp2
  go_ret
  exact ⟨by first | rfl | trivial, Bgo (Bnew (B0 _) _) hb1⟩

theorem r7Next_c (t p s q : Int) (w : World) :
    Calls Try.prog 57 #[.agg #[.int .i64 t, .int .i64 p, .int .i64 s], .int .i64 q] w fun z w' => z = .returned (.int .i64 (pageI t p s q 2)) ∧ Below w.heap.size w w' := by
  go_enter Try.func57, Try.ntmps57
  go_wp2_with fail
  refine (r7Page_c t p s q 2 (by omega) (by omega) _).mono ?_
  rintro e w1 ⟨rfl, hb1⟩
  go_wp2
  go_ret
  exact ⟨by first | rfl | trivial, Bgo (Bnew (B0 _) _) hb1⟩

theorem r7Prev_c (t p s q : Int) (w : World) :
    Calls Try.prog 69 #[.agg #[.int .i64 t, .int .i64 p, .int .i64 s], .int .i64 q] w fun z w' => z = .returned (.int .i64 (pageI t p s q 3)) ∧ Below w.heap.size w w' := by
  go_enter Try.func69, Try.ntmps69
  go_wp2_with fail
  refine (r7Page_c t p s q 3 (by omega) (by omega) _).mono ?_
  rintro e w1 ⟨rfl, hb1⟩
  go_wp2
  go_ret
  exact ⟨by first | rfl | trivial, Bgo (Bnew (B0 _) _) hb1⟩

theorem r7Slots_c (t p s q : Int) (w : World) :
    Calls Try.prog 117 #[.agg #[.int .i64 t, .int .i64 p, .int .i64 s], .int .i64 q] w fun z w' => z = .returned (.int .i64 (pageI t p s q 4)) ∧ Below w.heap.size w w' := by
  go_enter Try.func117, Try.ntmps117
  go_wp2_with fail
  refine (r7Page_c t p s q 4 (by omega) (by omega) _).mono ?_
  rintro e w1 ⟨rfl, hb1⟩
  go_wp2
  go_ret
  exact ⟨by first | rfl | trivial, Bgo (Bnew (B0 _) _) hb1⟩

theorem r7Taken_c (t p s q : Int) (w : World) :
    Calls Try.prog 118 #[.agg #[.int .i64 t, .int .i64 p, .int .i64 s], .int .i64 q] w fun z w' => z = .returned (.int .i64 (pageI t p s q 5)) ∧ Below w.heap.size w w' := by
  go_enter Try.func118, Try.ntmps118
  go_wp2_with fail
  refine (r7Page_c t p s q 5 (by omega) (by omega) _).mono ?_
  rintro e w1 ⟨rfl, hb1⟩
  go_wp2
  go_ret
  exact ⟨by first | rfl | trivial, Bgo (Bnew (B0 _) _) hb1⟩

end Go.Proofs.Ytpndfhdedmdoeaa

/-
  What the document's Push, and Pull, do. Written by link/gen_rpush.py.
-/
namespace Go.Proofs.Ytpndfhdedmdoeaa
open Go.ChangeShapes Go.WideShapes Go.ChangeAt Go.RowKit Go.Maps
set_option linter.unusedVariables false
set_option linter.unusedSimpArgs false
set_option maxRecDepth 100000

section
variable {base b n : Nat} {all : Bool} {K : Nat → Option Nat} {st : Vst} {w w0 : World} {A G : Nat → Prop} {t q s hd : Int}

theorem rkPush_no (p : Int) (hp : pgB q p = false) (h : (rOb base b n all K).At w0 A G st w) :
    Calls Try.prog 45 #[.pointer (some ⟨b, 0, none⟩), .agg #[.int .i64 t, .int .i64 q, .int .i64 s], .int .i64 hd, .int .i64 p] w fun e w' => e = .returned (.tuple #[]) ∧ (rOb base b n all K).At w0 A G (st) w' ∧ Stay G w w' := by
  have W0 := hidp (WK.one h 23 #[.int .i64 t, .int .i64 q, .int .i64 s])
  obtain ⟨x0, x1, x2⟩ := W0.out.held.three
  have hp := pgB_no hp
  clear h
  by_cases h0 : p < 0
  · have t0 : decide (p < (0 : Int)) = true := decide_eq_true h0
    go_enter Try.func45, Try.ntmps45
    go_wp2
    (try simp only [Exit.inBlock, Exit.then])
    refine bodyPost_ret (results_none rfl _ _ _) rfl ?_
    exact ⟨rfl, W0.out.fin⟩
  · have t0 : decide (p < (0 : Int)) = false := decide_eq_false h0
    have t1 : decide (q ≤ p) = true := decide_eq_true (by omega)
    go_enter Try.func45, Try.ntmps45
    go_wp2
    (try simp only [Exit.inBlock, Exit.then])
    refine bodyPost_ret (results_none rfl _ _ _) rfl ?_
    exact ⟨rfl, W0.out.fin⟩

set_option maxHeartbeats 3200000 in
theorem rkPush_yes (hn : n < 2 ^ 40) (k : Nat) (hk : pgB q (k : Int) = true) (hk31 : k < 2 ^ 31) (h : (rOb base b n all K).At w0 A G st w) :
    Calls Try.prog 45 #[.pointer (some ⟨b, 0, none⟩), .agg #[.int .i64 t, .int .i64 q, .int .i64 s], .int .i64 hd, .int .i64 (k : Int)] w fun e w' => e = .returned (.tuple #[]) ∧ (rOb base b n all K).At w0 A G (pushS n K t q s hd k st) w' ∧ Stay G w w' := by
  have W0 := hidp (WK.one h 23 #[.int .i64 t, .int .i64 q, .int .i64 s])
  obtain ⟨x0, x1, x2⟩ := W0.out.held.three
  have hk2 := (pgB_iff _ _).1 hk
  have t8 : decide ((k : Int) < 0) = false := decide_eq_false (by omega)
  have t9 : decide (q ≤ (k : Int)) = false := decide_eq_false (by omega)
  have sk : IntKind.u32.wrap ((k : Int) + 1) = ((k + 1 : Nat) : Int) := by have := wrap_nat32 (k + 1) (by omega); simpa using this
  obtain ⟨l, hl⟩ : ∃ l, getV n K st hd = l := ⟨_, rfl⟩
  have hl32 : l < 2 ^ 32 := by rw [← hl]; exact rAt_lt h hd
  have HL := hidp hl
  have HQ : Hid (push1 n K t q s hd k st = putS n (putS n (getS n K st hd) (pageI t q s (k : Int) 2) l) (pageI t q s (k : Int) 3) 0) := hidp (by unfold push1; rw [hl])
  have HP : Hid (l = 0 → pushS n K t q s hd k st = putS n (push1 n K t q s hd k st) hd (k + 1)) := hidp (fun e => by unfold pushS push2; rw [if_pos (hl.trans e)])
  have HR : Hid (l ≠ 0 → pushS n K t q s hd k st = putS n (putS n (push1 n K t q s hd k st) (pageI t q s ((l : Int) - 1) 3) (k + 1)) hd (k + 1)) := hidp (fun e => by unfold pushS push2; rw [if_neg (by rw [hl]; exact e), hl])
  clear hl
  clear h hk hk2
  go_enter Try.func45, Try.ntmps45
  go_wp2_with fail
  refine (rGetA hn hd W0.out.at_).mono ?_; rintro e w1 ⟨rfl, h1, h2⟩; have W1 := hidp (W0.out.call h1 h2); clear h1 h2 W0; rw [HL.out]
  obtain ⟨x0, x1, x2⟩ := W1.out.held.three
  go_wp2_with fail
  refine (r7Next_c t q s (k : Int) _).mono ?_; rintro e w2 ⟨rfl, hb⟩; have W2 := hidp (W1.out.keep hb); clear hb W1
  obtain ⟨x0, x1, x2⟩ := W2.out.held.three
  go_wp2_with fail
  refine (rPutA hn _ l hl32 W2.out.at_).mono ?_; rintro e w3 ⟨rfl, h1, h2⟩; have W3 := hidp (W2.out.call h1 h2); clear h1 h2 W2
  obtain ⟨x0, x1, x2⟩ := W3.out.held.three
  go_wp2_with fail
  refine (r7Prev_c t q s (k : Int) _).mono ?_; rintro e w4 ⟨rfl, hb⟩; have W4 := hidp (W3.out.keep hb); clear hb W3
  obtain ⟨x0, x1, x2⟩ := W4.out.held.three
  go_wp2_with fail
  refine (rPutA hn _ 0 (by omega) W4.out.at_).mono ?_; rintro e w5 ⟨rfl, h1, h2⟩; have W5 := hidp (W4.out.call h1 h2); clear h1 h2 W4
  obtain ⟨x0, x1, x2⟩ := W5.out.held.three
  rw [← HQ.out] at W5
  clear HL HQ
  by_cases hz : l = 0
  · have HE := hidp (HP.out hz)
    subst hz
    clear HP HR
    go_wp2_with fail
    refine (rPutA hn hd (k + 1) (by omega) W5.out.at_).mono ?_; rintro e w6 ⟨rfl, h1, h2⟩; have W6 := hidp (W5.out.call h1 h2); clear h1 h2 W5
    obtain ⟨x0, x1, x2⟩ := W6.out.held.three
    go_wp2
    go_end0
    exact ⟨rfl, by rw [HE.out]; exact W6.out.fin⟩
  · have HE := hidp (HR.out hz)
    have t1 : ((l : Int) == 0) = false := by simp; omega
    have t2 : ((l : Int) != 0) = true := by simp; omega
    clear HP HR
    go_wp2_with fail
    refine (r7Prev_c t q s ((l : Int) - 1) _).mono ?_; rintro e w6 ⟨rfl, hb⟩; have W6 := hidp (W5.out.keep hb); clear hb W5
    obtain ⟨x0, x1, x2⟩ := W6.out.held.three
    go_wp2_with fail
    refine (rPutA hn _ (k + 1) (by omega) W6.out.at_).mono ?_; rintro e w7 ⟨rfl, h1, h2⟩; have W7 := hidp (W6.out.call h1 h2); clear h1 h2 W6
    obtain ⟨x0, x1, x2⟩ := W7.out.held.three
    go_wp2_with fail
    refine (rPutA hn hd (k + 1) (by omega) W7.out.at_).mono ?_; rintro e w8 ⟨rfl, h1, h2⟩; have W8 := hidp (W7.out.call h1 h2); clear h1 h2 W7
    obtain ⟨x0, x1, x2⟩ := W8.out.held.three
    go_wp2
    go_end0
    exact ⟨rfl, by rw [HE.out]; exact W8.out.fin⟩
theorem rkPush_c (hn : n < 2 ^ 40) (hq : q ≤ 2 ^ 31) (p : Int) (h : (rOb base b n all K).At w0 A G st w) :
    Calls Try.prog 45 #[.pointer (some ⟨b, 0, none⟩), .agg #[.int .i64 t, .int .i64 q, .int .i64 s], .int .i64 hd, .int .i64 p] w fun e w' => e = .returned (.tuple #[]) ∧ (rOb base b n all K).At w0 A G (pushI n K t q s hd p st) w' ∧ Stay G w w' := by
  cases hp : pgB q p with
  | false => rw [(pgB_none hp).1]; exact rkPush_no p hp h
  | true =>
    have h1 := (pgB_iff _ _).1 hp
    obtain ⟨k, rfl⟩ := Int.eq_ofNat_of_zero_le h1.1
    rw [(pgB_nat hp).1]
    exact rkPush_yes hn k hp (by omega) h

theorem rkPull_no (p : Int) (hp : pgB q p = false) (h : (rOb base b n all K).At w0 A G st w) :
    Calls Try.prog 34 #[.pointer (some ⟨b, 0, none⟩), .agg #[.int .i64 t, .int .i64 q, .int .i64 s], .int .i64 hd, .int .i64 p] w fun e w' => e = .returned (.tuple #[]) ∧ (rOb base b n all K).At w0 A G (st) w' ∧ Stay G w w' := by
  have W0 := hidp (WK.one h 23 #[.int .i64 t, .int .i64 q, .int .i64 s])
  obtain ⟨x0, x1, x2⟩ := W0.out.held.three
  have hp := pgB_no hp
  clear h
  by_cases h0 : p < 0
  · have t0 : decide (p < (0 : Int)) = true := decide_eq_true h0
    go_enter Try.func34, Try.ntmps34
    go_wp2
    (try simp only [Exit.inBlock, Exit.then])
    refine bodyPost_ret (results_none rfl _ _ _) rfl ?_
    exact ⟨rfl, W0.out.fin⟩
  · have t0 : decide (p < (0 : Int)) = false := decide_eq_false h0
    have t1 : decide (q ≤ p) = true := decide_eq_true (by omega)
    go_enter Try.func34, Try.ntmps34
    go_wp2
    (try simp only [Exit.inBlock, Exit.then])
    refine bodyPost_ret (results_none rfl _ _ _) rfl ?_
    exact ⟨rfl, W0.out.fin⟩

set_option maxHeartbeats 3200000 in
theorem rkPull_yes (hn : n < 2 ^ 40) (k : Nat) (hk : pgB q (k : Int) = true) (hk31 : k < 2 ^ 31) (h : (rOb base b n all K).At w0 A G st w) :
    Calls Try.prog 34 #[.pointer (some ⟨b, 0, none⟩), .agg #[.int .i64 t, .int .i64 q, .int .i64 s], .int .i64 hd, .int .i64 (k : Int)] w fun e w' => e = .returned (.tuple #[]) ∧ (rOb base b n all K).At w0 A G (pullS n K t q s hd k st) w' ∧ Stay G w w' := by
  have W0 := hidp (WK.one h 23 #[.int .i64 t, .int .i64 q, .int .i64 s])
  obtain ⟨x0, x1, x2⟩ := W0.out.held.three
  have hk2 := (pgB_iff _ _).1 hk
  have t8 : decide ((k : Int) < 0) = false := decide_eq_false (by omega)
  have t9 : decide (q ≤ (k : Int)) = false := decide_eq_false (by omega)
  have sk : IntKind.u32.wrap ((k : Int) + 1) = ((k + 1 : Nat) : Int) := by have := wrap_nat32 (k + 1) (by omega); simpa using this
  obtain ⟨x, hx⟩ : ∃ x, pullN n K t q s k st = x := ⟨_, rfl⟩
  obtain ⟨y, hy⟩ : ∃ y, pullB n K t q s k st = y := ⟨_, rfl⟩
  have hx32 : x < 2 ^ 32 := by rw [← hx]; exact rAt_lt h _
  have HX : Hid (getV n K st (pageI t q s (k : Int) 2) = x) := hidp hx
  have HY : Hid (getV n K (getS n K st (pageI t q s (k : Int) 2)) (pageI t q s (k : Int) 3) = y) := hidp hy
  have H0 : Hid (pull0 n K t q s k st = getS n K (getS n K st (pageI t q s (k : Int) 2)) (pageI t q s (k : Int) 3)) := hidp rfl
  have HA : Hid (y = 0 → pull1 n K t q s hd k st = putS n (pull0 n K t q s k st) hd x) := hidp (fun e => by unfold pull1; rw [if_pos (hy.trans e), hx])
  have HB : Hid (y ≠ 0 → pull1 n K t q s hd k st = putS n (pull0 n K t q s k st) (pageI t q s ((y : Int) - 1) 2) x) := hidp (fun e => by unfold pull1; rw [if_neg (by rw [hy]; exact e), hx, hy])
  have HC : Hid (x = 0 → pull2 n K t q s hd k st = pull1 n K t q s hd k st) := hidp (fun e => by unfold pull2; rw [if_pos (hx.trans e)])
  have HD : Hid (x ≠ 0 → pull2 n K t q s hd k st = putS n (pull1 n K t q s hd k st) (pageI t q s ((x : Int) - 1) 3) y) := hidp (fun e => by unfold pull2; rw [if_neg (by rw [hx]; exact e), hx, hy])
  have HE : Hid (pullS n K t q s hd k st = putS n (putS n (pull2 n K t q s hd k st) (pageI t q s (k : Int) 2) 0) (pageI t q s (k : Int) 3) 0) := hidp rfl
  clear hx hy
  clear h hk hk2
  go_enter Try.func34, Try.ntmps34
  go_wp2_with fail
  refine (r7Next_c t q s (k : Int) _).mono ?_; rintro e w1 ⟨rfl, hb⟩; have W1 := hidp (W0.out.keep hb); clear hb W0
  obtain ⟨x0, x1, x2⟩ := W1.out.held.three
  go_wp2_with fail
  refine (rGetA hn _ W1.out.at_).mono ?_; rintro e w2 ⟨rfl, h1, h2⟩; have W2 := hidp (W1.out.call h1 h2); clear h1 h2 W1; rw [HX.out]
  obtain ⟨x0, x1, x2⟩ := W2.out.held.three
  go_wp2_with fail
  refine (r7Prev_c t q s (k : Int) _).mono ?_; rintro e w3 ⟨rfl, hb⟩; have W3 := hidp (W2.out.keep hb); clear hb W2
  obtain ⟨x0, x1, x2⟩ := W3.out.held.three
  have hy32 : y < 2 ^ 32 := by rw [← HY.out]; exact rAt_lt W3.out.at_ _
  go_wp2_with fail
  refine (rGetA hn _ W3.out.at_).mono ?_; rintro e w4 ⟨rfl, h1, h2⟩; have W4 := hidp (W3.out.call h1 h2); clear h1 h2 W3; rw [HY.out]
  obtain ⟨x0, x1, x2⟩ := W4.out.held.three
  rw [← H0.out] at W4
  clear HX HY H0
  by_cases hyz : y = 0
  · have HM := hidp (HA.out hyz)
    subst hyz
    go_wp2_with fail
    refine (rPutA hn hd x hx32 W4.out.at_).mono ?_; rintro e w5 ⟨rfl, h1, h2⟩; have W5 := hidp (W4.out.call h1 h2); clear h1 h2 W4
    obtain ⟨x0, x1, x2⟩ := W5.out.held.three
    rw [← HM.out] at W5
    clear HA HB HM
    by_cases hxz : x = 0
    · have HN := hidp (HC.out hxz)
      subst hxz
      clear HC HD
      go_wp2_with fail
      refine (r7Next_c t q s (k : Int) _).mono ?_; rintro e w6 ⟨rfl, hb⟩; have W6 := hidp (W5.out.keep hb); clear hb W5
      obtain ⟨x0, x1, x2⟩ := W6.out.held.three
      go_wp2_with fail
      refine (rPutA hn _ 0 (by omega) W6.out.at_).mono ?_; rintro e w7 ⟨rfl, h1, h2⟩; have W7 := hidp (W6.out.call h1 h2); clear h1 h2 W6
      obtain ⟨x0, x1, x2⟩ := W7.out.held.three
      go_wp2_with fail
      refine (r7Prev_c t q s (k : Int) _).mono ?_; rintro e w8 ⟨rfl, hb⟩; have W8 := hidp (W7.out.keep hb); clear hb W7
      obtain ⟨x0, x1, x2⟩ := W8.out.held.three
      go_wp2_with fail
      refine (rPutA hn _ 0 (by omega) W8.out.at_).mono ?_; rintro e w9 ⟨rfl, h1, h2⟩; have W9 := hidp (W8.out.call h1 h2); clear h1 h2 W8
      obtain ⟨x0, x1, x2⟩ := W9.out.held.three
      go_wp2
      go_end0
      exact ⟨rfl, by rw [HE.out, HN.out]; exact W9.out.fin⟩
    · have HN := hidp (HD.out hxz)
      have t3 : ((x : Int) == 0) = false := by simp; omega
      have t4 : ((x : Int) != 0) = true := by simp; omega
      clear HC HD
      go_wp2_with fail
      refine (r7Prev_c t q s ((x : Int) - 1) _).mono ?_; rintro e w6 ⟨rfl, hb⟩; have W6 := hidp (W5.out.keep hb); clear hb W5
      obtain ⟨x0, x1, x2⟩ := W6.out.held.three
      go_wp2_with fail
      refine (rPutA hn _ 0 (by omega) W6.out.at_).mono ?_; rintro e w7 ⟨rfl, h1, h2⟩; have W7 := hidp (W6.out.call h1 h2); clear h1 h2 W6
      obtain ⟨x0, x1, x2⟩ := W7.out.held.three
      go_wp2_with fail
      refine (r7Next_c t q s (k : Int) _).mono ?_; rintro e w8 ⟨rfl, hb⟩; have W8 := hidp (W7.out.keep hb); clear hb W7
      obtain ⟨x0, x1, x2⟩ := W8.out.held.three
      go_wp2_with fail
      refine (rPutA hn _ 0 (by omega) W8.out.at_).mono ?_; rintro e w9 ⟨rfl, h1, h2⟩; have W9 := hidp (W8.out.call h1 h2); clear h1 h2 W8
      obtain ⟨x0, x1, x2⟩ := W9.out.held.three
      go_wp2_with fail
      refine (r7Prev_c t q s (k : Int) _).mono ?_; rintro e w10 ⟨rfl, hb⟩; have W10 := hidp (W9.out.keep hb); clear hb W9
      obtain ⟨x0, x1, x2⟩ := W10.out.held.three
      go_wp2_with fail
      refine (rPutA hn _ 0 (by omega) W10.out.at_).mono ?_; rintro e w11 ⟨rfl, h1, h2⟩; have W11 := hidp (W10.out.call h1 h2); clear h1 h2 W10
      obtain ⟨x0, x1, x2⟩ := W11.out.held.three
      go_wp2
      go_end0
      exact ⟨rfl, by rw [HE.out, HN.out]; exact W11.out.fin⟩
  · have HM := hidp (HB.out hyz)
    have t1 : ((y : Int) == 0) = false := by simp; omega
    have t2 : ((y : Int) != 0) = true := by simp; omega
    go_wp2_with fail
    refine (r7Next_c t q s ((y : Int) - 1) _).mono ?_; rintro e w5 ⟨rfl, hb⟩; have W5 := hidp (W4.out.keep hb); clear hb W4
    obtain ⟨x0, x1, x2⟩ := W5.out.held.three
    go_wp2_with fail
    refine (rPutA hn _ x hx32 W5.out.at_).mono ?_; rintro e w6 ⟨rfl, h1, h2⟩; have W6 := hidp (W5.out.call h1 h2); clear h1 h2 W5
    obtain ⟨x0, x1, x2⟩ := W6.out.held.three
    rw [← HM.out] at W6
    clear HA HB HM
    by_cases hxz : x = 0
    · have HN := hidp (HC.out hxz)
      subst hxz
      clear HC HD
      go_wp2_with fail
      refine (r7Next_c t q s (k : Int) _).mono ?_; rintro e w7 ⟨rfl, hb⟩; have W7 := hidp (W6.out.keep hb); clear hb W6
      obtain ⟨x0, x1, x2⟩ := W7.out.held.three
      go_wp2_with fail
      refine (rPutA hn _ 0 (by omega) W7.out.at_).mono ?_; rintro e w8 ⟨rfl, h1, h2⟩; have W8 := hidp (W7.out.call h1 h2); clear h1 h2 W7
      obtain ⟨x0, x1, x2⟩ := W8.out.held.three
      go_wp2_with fail
      refine (r7Prev_c t q s (k : Int) _).mono ?_; rintro e w9 ⟨rfl, hb⟩; have W9 := hidp (W8.out.keep hb); clear hb W8
      obtain ⟨x0, x1, x2⟩ := W9.out.held.three
      go_wp2_with fail
      refine (rPutA hn _ 0 (by omega) W9.out.at_).mono ?_; rintro e w10 ⟨rfl, h1, h2⟩; have W10 := hidp (W9.out.call h1 h2); clear h1 h2 W9
      obtain ⟨x0, x1, x2⟩ := W10.out.held.three
      go_wp2
      go_end0
      exact ⟨rfl, by rw [HE.out, HN.out]; exact W10.out.fin⟩
    · have HN := hidp (HD.out hxz)
      have t3 : ((x : Int) == 0) = false := by simp; omega
      have t4 : ((x : Int) != 0) = true := by simp; omega
      clear HC HD
      go_wp2_with fail
      refine (r7Prev_c t q s ((x : Int) - 1) _).mono ?_; rintro e w7 ⟨rfl, hb⟩; have W7 := hidp (W6.out.keep hb); clear hb W6
      obtain ⟨x0, x1, x2⟩ := W7.out.held.three
      go_wp2_with fail
      refine (rPutA hn _ y hy32 W7.out.at_).mono ?_; rintro e w8 ⟨rfl, h1, h2⟩; have W8 := hidp (W7.out.call h1 h2); clear h1 h2 W7
      obtain ⟨x0, x1, x2⟩ := W8.out.held.three
      go_wp2_with fail
      refine (r7Next_c t q s (k : Int) _).mono ?_; rintro e w9 ⟨rfl, hb⟩; have W9 := hidp (W8.out.keep hb); clear hb W8
      obtain ⟨x0, x1, x2⟩ := W9.out.held.three
      go_wp2_with fail
      refine (rPutA hn _ 0 (by omega) W9.out.at_).mono ?_; rintro e w10 ⟨rfl, h1, h2⟩; have W10 := hidp (W9.out.call h1 h2); clear h1 h2 W9
      obtain ⟨x0, x1, x2⟩ := W10.out.held.three
      go_wp2_with fail
      refine (r7Prev_c t q s (k : Int) _).mono ?_; rintro e w11 ⟨rfl, hb⟩; have W11 := hidp (W10.out.keep hb); clear hb W10
      obtain ⟨x0, x1, x2⟩ := W11.out.held.three
      go_wp2_with fail
      refine (rPutA hn _ 0 (by omega) W11.out.at_).mono ?_; rintro e w12 ⟨rfl, h1, h2⟩; have W12 := hidp (W11.out.call h1 h2); clear h1 h2 W11
      obtain ⟨x0, x1, x2⟩ := W12.out.held.three
      go_wp2
      go_end0
      exact ⟨rfl, by rw [HE.out, HN.out]; exact W12.out.fin⟩
theorem rkPull_c (hn : n < 2 ^ 40) (hq : q ≤ 2 ^ 31) (p : Int) (h : (rOb base b n all K).At w0 A G st w) :
    Calls Try.prog 34 #[.pointer (some ⟨b, 0, none⟩), .agg #[.int .i64 t, .int .i64 q, .int .i64 s], .int .i64 hd, .int .i64 p] w fun e w' => e = .returned (.tuple #[]) ∧ (rOb base b n all K).At w0 A G (pullI n K t q s hd p st) w' ∧ Stay G w w' := by
  cases hp : pgB q p with
  | false => rw [(pgB_none hp).2]; exact rkPull_no p hp h
  | true =>
    have h1 := (pgB_iff _ _).1 hp
    obtain ⟨k, rfl⟩ := Int.eq_ofNat_of_zero_le h1.1
    rw [(pgB_nat hp).2]
    exact rkPull_yes hn k hp (by omega) h

end
end Go.Proofs.Ytpndfhdedmdoeaa
