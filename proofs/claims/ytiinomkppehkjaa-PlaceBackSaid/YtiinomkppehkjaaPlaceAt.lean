/-
  Contracts of place's At, and of what it calls.
-/
import Derived.Test.YtiinomkppehkjaaPlace
namespace Go.Proofs.Ytiinomkppehkjaa
open Go.ChangeShapes Go.WideShapes Go.ChangeAt Go.RowKit
set_option linter.unusedVariables false
set_option linter.unusedSimpArgs false

theorem part_call {q r : Int} (h : r < 16) : partT q r = (4, q, r) := by unfold partT; rw [if_pos h]
theorem part_note {q : Int} : partT q 16 = (5, q, 0) := by unfold partT; rw [if_neg (by omega), if_pos rfl]
theorem part_log {q r : Int} (h : 24 ≤ r) : partT q r = (6, q, r - 24) := by unfold partT; rw [if_neg (by omega), if_neg (by omega), if_pos h]
theorem part_none {q r : Int} (h : 16 < r) (h' : r < 24) : partT q r = (0, 0, 0) := by unfold partT; rw [if_neg (by omega), if_neg (by omega), if_neg (by omega)]

set_option maxHeartbeats 1600000 in
theorem plOfMaker_call (T P S A C M K w : Int) (d q r : Nat) (hd : w - M = (d : Int)) (hq : d / 120 = q) (hr : d % 120 = r) (h1 : d ≤ 10000) (c : r < 16) (W : World) :
    Calls Try.prog 51 #[.agg #[.int .i64 T, .int .i64 P, .int .i64 S, .int .i64 A, .int .i64 C, .int .i64 M, .int .i64 K], .int .i64 w] W fun z w' => z = .returned (.agg #[.int .i64 4, .int .i64 (q : Int), .int .i64 (r : Int)]) ∧ Below W.heap.size W w' := by
  have e1 : (d : Int) / 120 = q := by omega
  have e2 : (d : Int) % 120 = r := by omega
  have q1 : q ≤ 100 := by omega
  have r1 : r < 120 := by omega
  have hn := Held.new2 W (.cells #[.int .i64 T, .int .i64 P, .int .i64 S, .int .i64 A, .int .i64 C, .int .i64 M, .int .i64 K] 35) 31 #[.int .i64 0, .int .i64 0, .int .i64 0]
  clear hq hr
  go_enter Try.func51, Try.ntmps51
  go_wp2
  refine bodyPost_ret (v := .agg #[.int .i64 4, .int .i64 (q : Int), .int .i64 (r : Int)]) (by simp [results, Try.results51, go_sem]) rfl ⟨rfl, ?_⟩
  repeat (first | exact B0 _ | (with_reducible refine Bgo ?_ (by assumption)) | (with_reducible refine Bdrew ?_) | (with_reducible refine Bdraw ?_ _) | (with_reducible refine Bnew ?_ _) | (with_reducible refine Bput ?_ (by first | (simp; done) | (simp; omega)) _))

set_option maxHeartbeats 1600000 in
theorem plOfMaker_note (T P S A C M K w : Int) (d q r : Nat) (hd : w - M = (d : Int)) (hq : d / 120 = q) (hr : d % 120 = r) (h1 : d ≤ 10000) (c : r = 16) (W : World) :
    Calls Try.prog 51 #[.agg #[.int .i64 T, .int .i64 P, .int .i64 S, .int .i64 A, .int .i64 C, .int .i64 M, .int .i64 K], .int .i64 w] W fun z w' => z = .returned (.agg #[.int .i64 5, .int .i64 (q : Int), .int .i64 0]) ∧ Below W.heap.size W w' := by
  have e1 : (d : Int) / 120 = q := by omega
  have e2 : (d : Int) % 120 = r := by omega
  have q1 : q ≤ 100 := by omega
  have r1 : r < 120 := by omega
  have hn := Held.new2 W (.cells #[.int .i64 T, .int .i64 P, .int .i64 S, .int .i64 A, .int .i64 C, .int .i64 M, .int .i64 K] 35) 31 #[.int .i64 0, .int .i64 0, .int .i64 0]
  have c1 : ((r : Int) == 16) = true := by simp; omega
  have c2 : ¬ (r < 16) := by omega
  clear c
  clear hq hr
  go_enter Try.func51, Try.ntmps51
  go_wp2
  refine bodyPost_ret (v := .agg #[.int .i64 5, .int .i64 (q : Int), .int .i64 0]) (by simp [results, Try.results51, go_sem]) rfl ⟨rfl, ?_⟩
  repeat (first | exact B0 _ | (with_reducible refine Bgo ?_ (by assumption)) | (with_reducible refine Bdrew ?_) | (with_reducible refine Bdraw ?_ _) | (with_reducible refine Bnew ?_ _) | (with_reducible refine Bput ?_ (by first | (simp; done) | (simp; omega)) _))

set_option maxHeartbeats 1600000 in
theorem plOfMaker_log (T P S A C M K w : Int) (d q r : Nat) (hd : w - M = (d : Int)) (hq : d / 120 = q) (hr : d % 120 = r) (h1 : d ≤ 10000) (c : 24 ≤ r) (W : World) :
    Calls Try.prog 51 #[.agg #[.int .i64 T, .int .i64 P, .int .i64 S, .int .i64 A, .int .i64 C, .int .i64 M, .int .i64 K], .int .i64 w] W fun z w' => z = .returned (.agg #[.int .i64 6, .int .i64 (q : Int), .int .i64 ((r : Int) - 24)]) ∧ Below W.heap.size W w' := by
  have e1 : (d : Int) / 120 = q := by omega
  have e2 : (d : Int) % 120 = r := by omega
  have q1 : q ≤ 100 := by omega
  have r1 : r < 120 := by omega
  have hn := Held.new2 W (.cells #[.int .i64 T, .int .i64 P, .int .i64 S, .int .i64 A, .int .i64 C, .int .i64 M, .int .i64 K] 35) 31 #[.int .i64 0, .int .i64 0, .int .i64 0]
  have c1 : ((r : Int) == 16) = false := by simp; omega
  have c2 : ¬ (r < 16) := by omega
  clear hq hr
  go_enter Try.func51, Try.ntmps51
  go_wp2
  refine bodyPost_ret (v := .agg #[.int .i64 6, .int .i64 (q : Int), .int .i64 ((r : Int) - 24)]) (by simp [results, Try.results51, go_sem]) rfl ⟨rfl, ?_⟩
  repeat (first | exact B0 _ | (with_reducible refine Bgo ?_ (by assumption)) | (with_reducible refine Bdrew ?_) | (with_reducible refine Bdraw ?_ _) | (with_reducible refine Bnew ?_ _) | (with_reducible refine Bput ?_ (by first | (simp; done) | (simp; omega)) _))

set_option maxHeartbeats 1600000 in
theorem plOfMaker_none (T P S A C M K w : Int) (d q r : Nat) (hd : w - M = (d : Int)) (hq : d / 120 = q) (hr : d % 120 = r) (h1 : d ≤ 10000) (c : 16 < r) (c3 : r < 24) (W : World) :
    Calls Try.prog 51 #[.agg #[.int .i64 T, .int .i64 P, .int .i64 S, .int .i64 A, .int .i64 C, .int .i64 M, .int .i64 K], .int .i64 w] W fun z w' => z = .returned (.agg #[.int .i64 0, .int .i64 0, .int .i64 0]) ∧ Below W.heap.size W w' := by
  have e1 : (d : Int) / 120 = q := by omega
  have e2 : (d : Int) % 120 = r := by omega
  have q1 : q ≤ 100 := by omega
  have r1 : r < 120 := by omega
  have hn := Held.new2 W (.cells #[.int .i64 T, .int .i64 P, .int .i64 S, .int .i64 A, .int .i64 C, .int .i64 M, .int .i64 K] 35) 31 #[.int .i64 0, .int .i64 0, .int .i64 0]
  have c1 : ((r : Int) == 16) = false := by simp; omega
  have c2 : ¬ (r < 16) := by omega
  clear hq hr
  go_enter Try.func51, Try.ntmps51
  go_wp2
  refine bodyPost_ret (v := .agg #[.int .i64 0, .int .i64 0, .int .i64 0]) (by simp [results, Try.results51, go_sem]) rfl ⟨rfl, ?_⟩
  repeat (first | exact B0 _ | (with_reducible refine Bgo ?_ (by assumption)) | (with_reducible refine Bdrew ?_) | (with_reducible refine Bdraw ?_ _) | (with_reducible refine Bnew ?_ _) | (with_reducible refine Bput ?_ (by first | (simp; done) | (simp; omega)) _))

theorem plOfMaker_c (T P S A C M K w k a b : Int) (h0 : M ≤ w) (h1 : w - M ≤ 10000) (h : partT ((w - M) / 120) ((w - M) % 120) = (k, a, b)) (W : World) :
    Calls Try.prog 51 #[.agg #[.int .i64 T, .int .i64 P, .int .i64 S, .int .i64 A, .int .i64 C, .int .i64 M, .int .i64 K], .int .i64 w] W fun z w' => z = .returned (.agg #[.int .i64 k, .int .i64 a, .int .i64 b]) ∧ Below W.heap.size W w' := by
  obtain ⟨d, hd⟩ : ∃ d : Nat, w - M = (d : Int) := ⟨(w - M).toNat, by omega⟩
  rw [hd] at h
  have eq : ((d : Int) / 120) = ((d / 120 : Nat) : Int) := by omega
  have er : ((d : Int) % 120) = ((d % 120 : Nat) : Int) := by omega
  rw [eq, er] at h
  by_cases c1 : d % 120 < 16
  · rw [part_call (by omega)] at h
    simp only [Prod.mk.injEq] at h
    obtain ⟨rfl, rfl, rfl⟩ := h
    exact plOfMaker_call T P S A C M K w d _ _ hd rfl rfl (by omega) c1 W
  · by_cases c2 : d % 120 = 16
    · rw [c2, show ((16 : Nat) : Int) = 16 from rfl, part_note] at h
      simp only [Prod.mk.injEq] at h
      obtain ⟨rfl, rfl, rfl⟩ := h
      exact plOfMaker_note T P S A C M K w d _ _ hd rfl rfl (by omega) c2 W
    · by_cases c3 : 24 ≤ d % 120
      · rw [part_log (by omega)] at h
        simp only [Prod.mk.injEq] at h
        obtain ⟨rfl, rfl, rfl⟩ := h
        exact plOfMaker_log T P S A C M K w d _ _ hd rfl rfl (by omega) c3 W
      · rw [part_none (by omega) (by omega)] at h
        simp only [Prod.mk.injEq] at h
        obtain ⟨rfl, rfl, rfl⟩ := h
        exact plOfMaker_none T P S A C M K w d _ _ hd rfl rfl (by omega) (by omega) (by omega) W

set_option maxHeartbeats 1600000 in
theorem plAt_low (t p s v : Int) (h : v < 0) (w : World) :
    Calls Try.prog 40 #[.agg #[.int .i64 t, .int .i64 p, .int .i64 s], .int .i64 v] w fun z w' => z = .returned (.agg #[.int .i64 0, .int .i64 0, .int .i64 0]) ∧ Below w.heap.size w w' := by
  obtain ⟨T, P, S, A, C, M, K, HL, ⟨t0, t1⟩, ⟨p0, p1⟩, ⟨a0, a1⟩, ⟨c0, c1⟩, ⟨m0, m1⟩, ⟨k0, k1⟩, -⟩ := lay_is t p s
  have HM := hidp HL.hM
  have HC := hidp HL.hC
  have HW := hidp (show lW t p s = M + K * 120 by unfold lW; rw [HL.hM, HL.hK])

  go_enter Try.func40, Try.ntmps40
  go_wp2_with fail
  refine (plLayout_c t p s T P S A C M K HL _).mono ?_
  rintro e w1 ⟨rfl, hb1⟩
  have z1 := ((Held.new2 w (.cells #[.int .i64 t, .int .i64 p, .int .i64 s] 23) 31 #[.int .i64 0, .int .i64 0, .int .i64 0]).keep hb1).alloc (.cells #[.int .i64 T, .int .i64 P, .int .i64 S, .int .i64 A, .int .i64 C, .int .i64 M, .int .i64 K] 35)
  have l1 := Held.new w1 35 #[.int .i64 T, .int .i64 P, .int .i64 S, .int .i64 A, .int .i64 C, .int .i64 M, .int .i64 K]
  obtain ⟨x0, x1, x2⟩ := z1.three
  have f0 := z1.thawed 0
  have f1 := z1.thawed 1
  have f2 := z1.thawed 2
  go_wp2
  obtain ⟨r0, r1, r2⟩ := (((z1.put 0 (.int .i64 0)).put 1 (.int .i64 0)).put 2 (.int .i64 0)).three
  refine bodyPost_ret (v := .agg #[.int .i64 0, .int .i64 0, .int .i64 0]) (by simp [results, Try.results40, go_sem, r0, r1, r2]) rfl ⟨rfl, ?_⟩
  exact Bput (Bput (Bput (Bnew (Bgo (Bnew (Bnew (B0 _) _) _) hb1) _) (Nat.le_succ _) _) (Nat.le_succ _) _) (Nat.le_succ _) _

set_option maxHeartbeats 1600000 in
theorem plAt_out (t p s v : Int) (h : 0 ≤ v) (h1 : lW t p s ≤ v) (w : World) :
    Calls Try.prog 40 #[.agg #[.int .i64 t, .int .i64 p, .int .i64 s], .int .i64 v] w fun z w' => z = .returned (.agg #[.int .i64 0, .int .i64 0, .int .i64 0]) ∧ Below w.heap.size w w' := by
  obtain ⟨T, P, S, A, C, M, K, HL, ⟨t0, t1⟩, ⟨p0, p1⟩, ⟨a0, a1⟩, ⟨c0, c1⟩, ⟨m0, m1⟩, ⟨k0, k1⟩, -⟩ := lay_is t p s
  have HM := hidp HL.hM
  have HC := hidp HL.hC
  have HW := hidp (show lW t p s = M + K * 120 by unfold lW; rw [HL.hM, HL.hK])
  rw [HW.out] at h1
  go_enter Try.func40, Try.ntmps40
  go_wp2_with fail
  refine (plLayout_c t p s T P S A C M K HL _).mono ?_
  rintro e w1 ⟨rfl, hb1⟩
  have z1 := ((Held.new2 w (.cells #[.int .i64 t, .int .i64 p, .int .i64 s] 23) 31 #[.int .i64 0, .int .i64 0, .int .i64 0]).keep hb1).alloc (.cells #[.int .i64 T, .int .i64 P, .int .i64 S, .int .i64 A, .int .i64 C, .int .i64 M, .int .i64 K] 35)
  have l1 := Held.new w1 35 #[.int .i64 T, .int .i64 P, .int .i64 S, .int .i64 A, .int .i64 C, .int .i64 M, .int .i64 K]
  go_wp2_with fail
  refine (plWordsOf_c T P S A C M K m0 (by omega) k0 k1 _).mono ?_
  rintro e w2 ⟨rfl, hb2⟩
  have z2 := z1.keep hb2
  have l2 := l1.keep hb2
  clear z1 l1
  obtain ⟨y0, y1, y2, y3, y4, y5, y6⟩ := l2.seven
  obtain ⟨x0, x1, x2⟩ := z2.three
  have f0 := z2.thawed 0
  have f1 := z2.thawed 1
  have f2 := z2.thawed 2
  go_wp2
  obtain ⟨r0, r1, r2⟩ := (((z2.put 0 (.int .i64 0)).put 1 (.int .i64 0)).put 2 (.int .i64 0)).three
  refine bodyPost_ret (v := .agg #[.int .i64 0, .int .i64 0, .int .i64 0]) (by simp [results, Try.results40, go_sem, r0, r1, r2]) rfl ⟨rfl, ?_⟩
  exact Bput (Bput (Bput (Bgo (Bnew (Bgo (Bnew (Bnew (B0 _) _) _) hb1) _) hb2) (Nat.le_succ _) _) (Nat.le_succ _) _) (Nat.le_succ _) _

set_option maxHeartbeats 1600000 in
theorem plAt_head (t p s v : Int) (h : 0 ≤ v) (h1 : v < lW t p s) (h2 : v < 8) (w : World) :
    Calls Try.prog 40 #[.agg #[.int .i64 t, .int .i64 p, .int .i64 s], .int .i64 v] w fun z w' => z = .returned (.agg #[.int .i64 1, .int .i64 v, .int .i64 0]) ∧ Below w.heap.size w w' := by
  obtain ⟨T, P, S, A, C, M, K, HL, ⟨t0, t1⟩, ⟨p0, p1⟩, ⟨a0, a1⟩, ⟨c0, c1⟩, ⟨m0, m1⟩, ⟨k0, k1⟩, -⟩ := lay_is t p s
  have HM := hidp HL.hM
  have HC := hidp HL.hC
  have HW := hidp (show lW t p s = M + K * 120 by unfold lW; rw [HL.hM, HL.hK])
  rw [HW.out] at h1
  go_enter Try.func40, Try.ntmps40
  go_wp2_with fail
  refine (plLayout_c t p s T P S A C M K HL _).mono ?_
  rintro e w1 ⟨rfl, hb1⟩
  have z1 := ((Held.new2 w (.cells #[.int .i64 t, .int .i64 p, .int .i64 s] 23) 31 #[.int .i64 0, .int .i64 0, .int .i64 0]).keep hb1).alloc (.cells #[.int .i64 T, .int .i64 P, .int .i64 S, .int .i64 A, .int .i64 C, .int .i64 M, .int .i64 K] 35)
  have l1 := Held.new w1 35 #[.int .i64 T, .int .i64 P, .int .i64 S, .int .i64 A, .int .i64 C, .int .i64 M, .int .i64 K]
  go_wp2_with fail
  refine (plWordsOf_c T P S A C M K m0 (by omega) k0 k1 _).mono ?_
  rintro e w2 ⟨rfl, hb2⟩
  have z2 := z1.keep hb2
  have l2 := l1.keep hb2
  clear z1 l1
  obtain ⟨y0, y1, y2, y3, y4, y5, y6⟩ := l2.seven
  obtain ⟨x0, x1, x2⟩ := z2.three
  have f0 := z2.thawed 0
  have f1 := z2.thawed 1
  have f2 := z2.thawed 2
  go_wp2
  obtain ⟨r0, r1, r2⟩ := (((z2.put 0 (.int .i64 1)).put 1 (.int .i64 v)).put 2 (.int .i64 0)).three
  refine bodyPost_ret (v := .agg #[.int .i64 1, .int .i64 v, .int .i64 0]) (by simp [results, Try.results40, go_sem, r0, r1, r2]) rfl ⟨rfl, ?_⟩
  exact Bput (Bput (Bput (Bgo (Bnew (Bgo (Bnew (Bnew (B0 _) _) _) hb1) _) hb2) (Nat.le_succ _) _) (Nat.le_succ _) _) (Nat.le_succ _) _

set_option maxHeartbeats 1600000 in
theorem plAt_tip (t p s v : Int) (h1 : v < lW t p s) (h2 : v = 8) (w : World) :
    Calls Try.prog 40 #[.agg #[.int .i64 t, .int .i64 p, .int .i64 s], .int .i64 v] w fun z w' => z = .returned (.agg #[.int .i64 2, .int .i64 0, .int .i64 0]) ∧ Below w.heap.size w w' := by
  obtain ⟨T, P, S, A, C, M, K, HL, ⟨t0, t1⟩, ⟨p0, p1⟩, ⟨a0, a1⟩, ⟨c0, c1⟩, ⟨m0, m1⟩, ⟨k0, k1⟩, -⟩ := lay_is t p s
  have HM := hidp HL.hM
  have HC := hidp HL.hC
  have HW := hidp (show lW t p s = M + K * 120 by unfold lW; rw [HL.hM, HL.hK])
  rw [HW.out] at h1
  subst h2
  go_enter Try.func40, Try.ntmps40
  go_wp2_with fail
  refine (plLayout_c t p s T P S A C M K HL _).mono ?_
  rintro e w1 ⟨rfl, hb1⟩
  have z1 := ((Held.new2 w (.cells #[.int .i64 t, .int .i64 p, .int .i64 s] 23) 31 #[.int .i64 0, .int .i64 0, .int .i64 0]).keep hb1).alloc (.cells #[.int .i64 T, .int .i64 P, .int .i64 S, .int .i64 A, .int .i64 C, .int .i64 M, .int .i64 K] 35)
  have l1 := Held.new w1 35 #[.int .i64 T, .int .i64 P, .int .i64 S, .int .i64 A, .int .i64 C, .int .i64 M, .int .i64 K]
  go_wp2_with fail
  refine (plWordsOf_c T P S A C M K m0 (by omega) k0 k1 _).mono ?_
  rintro e w2 ⟨rfl, hb2⟩
  have z2 := z1.keep hb2
  have l2 := l1.keep hb2
  clear z1 l1
  obtain ⟨y0, y1, y2, y3, y4, y5, y6⟩ := l2.seven
  obtain ⟨x0, x1, x2⟩ := z2.three
  have f0 := z2.thawed 0
  have f1 := z2.thawed 1
  have f2 := z2.thawed 2
  go_wp2
  obtain ⟨r0, r1, r2⟩ := (((z2.put 0 (.int .i64 2)).put 1 (.int .i64 0)).put 2 (.int .i64 0)).three
  refine bodyPost_ret (v := .agg #[.int .i64 2, .int .i64 0, .int .i64 0]) (by simp [results, Try.results40, go_sem, r0, r1, r2]) rfl ⟨rfl, ?_⟩
  exact Bput (Bput (Bput (Bgo (Bnew (Bgo (Bnew (Bnew (B0 _) _) _) hb1) _) hb2) (Nat.le_succ _) _) (Nat.le_succ _) _) (Nat.le_succ _) _

set_option maxHeartbeats 1600000 in
theorem plAt_cell (t p s v : Int) (h : 16 ≤ v) (h1 : v < lW t p s) (h2 : v < lM t p s) (h3 : v - 16 < lC t p s) (w : World) :
    Calls Try.prog 40 #[.agg #[.int .i64 t, .int .i64 p, .int .i64 s], .int .i64 v] w fun z w' => z = .returned (.agg #[.int .i64 3, .int .i64 (v - 16), .int .i64 0]) ∧ Below w.heap.size w w' := by
  obtain ⟨T, P, S, A, C, M, K, HL, ⟨t0, t1⟩, ⟨p0, p1⟩, ⟨a0, a1⟩, ⟨c0, c1⟩, ⟨m0, m1⟩, ⟨k0, k1⟩, -⟩ := lay_is t p s
  have HM := hidp HL.hM
  have HC := hidp HL.hC
  have HW := hidp (show lW t p s = M + K * 120 by unfold lW; rw [HL.hM, HL.hK])
  rw [HW.out] at h1
  rw [HM.out] at h2
  rw [HC.out] at h3
  have n8 : (v == 8) = false := by simp; omega
  go_enter Try.func40, Try.ntmps40
  go_wp2_with fail
  refine (plLayout_c t p s T P S A C M K HL _).mono ?_
  rintro e w1 ⟨rfl, hb1⟩
  have z1 := ((Held.new2 w (.cells #[.int .i64 t, .int .i64 p, .int .i64 s] 23) 31 #[.int .i64 0, .int .i64 0, .int .i64 0]).keep hb1).alloc (.cells #[.int .i64 T, .int .i64 P, .int .i64 S, .int .i64 A, .int .i64 C, .int .i64 M, .int .i64 K] 35)
  have l1 := Held.new w1 35 #[.int .i64 T, .int .i64 P, .int .i64 S, .int .i64 A, .int .i64 C, .int .i64 M, .int .i64 K]
  go_wp2_with fail
  refine (plWordsOf_c T P S A C M K m0 (by omega) k0 k1 _).mono ?_
  rintro e w2 ⟨rfl, hb2⟩
  have z2 := z1.keep hb2
  have l2 := l1.keep hb2
  clear z1 l1
  obtain ⟨y0, y1, y2, y3, y4, y5, y6⟩ := l2.seven
  obtain ⟨x0, x1, x2⟩ := z2.three
  have f0 := z2.thawed 0
  have f1 := z2.thawed 1
  have f2 := z2.thawed 2
  go_wp2
  obtain ⟨r0, r1, r2⟩ := (((z2.put 0 (.int .i64 3)).put 1 (.int .i64 (v - 16))).put 2 (.int .i64 0)).three
  refine bodyPost_ret (v := .agg #[.int .i64 3, .int .i64 (v - 16), .int .i64 0]) (by simp [results, Try.results40, go_sem, r0, r1, r2]) rfl ⟨rfl, ?_⟩
  exact Bput (Bput (Bput (Bgo (Bnew (Bgo (Bnew (Bnew (B0 _) _) _) hb1) _) hb2) (Nat.le_succ _) _) (Nat.le_succ _) _) (Nat.le_succ _) _

set_option maxHeartbeats 1600000 in
theorem plAt_gap1 (t p s v : Int) (h : 9 ≤ v) (h1 : v < lW t p s) (h2 : v < lM t p s) (h3 : v < 16) (w : World) :
    Calls Try.prog 40 #[.agg #[.int .i64 t, .int .i64 p, .int .i64 s], .int .i64 v] w fun z w' => z = .returned (.agg #[.int .i64 0, .int .i64 0, .int .i64 0]) ∧ Below w.heap.size w w' := by
  obtain ⟨T, P, S, A, C, M, K, HL, ⟨t0, t1⟩, ⟨p0, p1⟩, ⟨a0, a1⟩, ⟨c0, c1⟩, ⟨m0, m1⟩, ⟨k0, k1⟩, -⟩ := lay_is t p s
  have HM := hidp HL.hM
  have HC := hidp HL.hC
  have HW := hidp (show lW t p s = M + K * 120 by unfold lW; rw [HL.hM, HL.hK])
  rw [HW.out] at h1
  rw [HM.out] at h2
  have n8 : (v == 8) = false := by simp; omega
  go_enter Try.func40, Try.ntmps40
  go_wp2_with fail
  refine (plLayout_c t p s T P S A C M K HL _).mono ?_
  rintro e w1 ⟨rfl, hb1⟩
  have z1 := ((Held.new2 w (.cells #[.int .i64 t, .int .i64 p, .int .i64 s] 23) 31 #[.int .i64 0, .int .i64 0, .int .i64 0]).keep hb1).alloc (.cells #[.int .i64 T, .int .i64 P, .int .i64 S, .int .i64 A, .int .i64 C, .int .i64 M, .int .i64 K] 35)
  have l1 := Held.new w1 35 #[.int .i64 T, .int .i64 P, .int .i64 S, .int .i64 A, .int .i64 C, .int .i64 M, .int .i64 K]
  go_wp2_with fail
  refine (plWordsOf_c T P S A C M K m0 (by omega) k0 k1 _).mono ?_
  rintro e w2 ⟨rfl, hb2⟩
  have z2 := z1.keep hb2
  have l2 := l1.keep hb2
  clear z1 l1
  obtain ⟨y0, y1, y2, y3, y4, y5, y6⟩ := l2.seven
  obtain ⟨x0, x1, x2⟩ := z2.three
  have f0 := z2.thawed 0
  have f1 := z2.thawed 1
  have f2 := z2.thawed 2
  go_wp2
  obtain ⟨r0, r1, r2⟩ := (((z2.put 0 (.int .i64 0)).put 1 (.int .i64 0)).put 2 (.int .i64 0)).three
  refine bodyPost_ret (v := .agg #[.int .i64 0, .int .i64 0, .int .i64 0]) (by simp [results, Try.results40, go_sem, r0, r1, r2]) rfl ⟨rfl, ?_⟩
  exact Bput (Bput (Bput (Bgo (Bnew (Bgo (Bnew (Bnew (B0 _) _) _) hb1) _) hb2) (Nat.le_succ _) _) (Nat.le_succ _) _) (Nat.le_succ _) _

set_option maxHeartbeats 1600000 in
theorem plAt_gap2 (t p s v : Int) (h : 16 ≤ v) (h1 : v < lW t p s) (h2 : v < lM t p s) (h3 : lC t p s ≤ v - 16) (w : World) :
    Calls Try.prog 40 #[.agg #[.int .i64 t, .int .i64 p, .int .i64 s], .int .i64 v] w fun z w' => z = .returned (.agg #[.int .i64 0, .int .i64 0, .int .i64 0]) ∧ Below w.heap.size w w' := by
  obtain ⟨T, P, S, A, C, M, K, HL, ⟨t0, t1⟩, ⟨p0, p1⟩, ⟨a0, a1⟩, ⟨c0, c1⟩, ⟨m0, m1⟩, ⟨k0, k1⟩, -⟩ := lay_is t p s
  have HM := hidp HL.hM
  have HC := hidp HL.hC
  have HW := hidp (show lW t p s = M + K * 120 by unfold lW; rw [HL.hM, HL.hK])
  rw [HW.out] at h1
  rw [HM.out] at h2
  rw [HC.out] at h3
  have n8 : (v == 8) = false := by simp; omega
  go_enter Try.func40, Try.ntmps40
  go_wp2_with fail
  refine (plLayout_c t p s T P S A C M K HL _).mono ?_
  rintro e w1 ⟨rfl, hb1⟩
  have z1 := ((Held.new2 w (.cells #[.int .i64 t, .int .i64 p, .int .i64 s] 23) 31 #[.int .i64 0, .int .i64 0, .int .i64 0]).keep hb1).alloc (.cells #[.int .i64 T, .int .i64 P, .int .i64 S, .int .i64 A, .int .i64 C, .int .i64 M, .int .i64 K] 35)
  have l1 := Held.new w1 35 #[.int .i64 T, .int .i64 P, .int .i64 S, .int .i64 A, .int .i64 C, .int .i64 M, .int .i64 K]
  go_wp2_with fail
  refine (plWordsOf_c T P S A C M K m0 (by omega) k0 k1 _).mono ?_
  rintro e w2 ⟨rfl, hb2⟩
  have z2 := z1.keep hb2
  have l2 := l1.keep hb2
  clear z1 l1
  obtain ⟨y0, y1, y2, y3, y4, y5, y6⟩ := l2.seven
  obtain ⟨x0, x1, x2⟩ := z2.three
  have f0 := z2.thawed 0
  have f1 := z2.thawed 1
  have f2 := z2.thawed 2
  go_wp2
  obtain ⟨r0, r1, r2⟩ := (((z2.put 0 (.int .i64 0)).put 1 (.int .i64 0)).put 2 (.int .i64 0)).three
  refine bodyPost_ret (v := .agg #[.int .i64 0, .int .i64 0, .int .i64 0]) (by simp [results, Try.results40, go_sem, r0, r1, r2]) rfl ⟨rfl, ?_⟩
  exact Bput (Bput (Bput (Bgo (Bnew (Bgo (Bnew (Bnew (B0 _) _) _) hb1) _) hb2) (Nat.le_succ _) _) (Nat.le_succ _) _) (Nat.le_succ _) _

set_option maxHeartbeats 1600000 in
theorem plAt_maker (t p s v : Int) (k a b : Int) (h : 9 ≤ v) (h1 : v < lW t p s) (h2 : lM t p s ≤ v) (h3 : partT ((v - lM t p s) / 120) ((v - lM t p s) % 120) = (k, a, b)) (w : World) :
    Calls Try.prog 40 #[.agg #[.int .i64 t, .int .i64 p, .int .i64 s], .int .i64 v] w fun z w' => z = .returned (.agg #[.int .i64 k, .int .i64 a, .int .i64 b]) ∧ Below w.heap.size w w' := by
  obtain ⟨T, P, S, A, C, M, K, HL, ⟨t0, t1⟩, ⟨p0, p1⟩, ⟨a0, a1⟩, ⟨c0, c1⟩, ⟨m0, m1⟩, ⟨k0, k1⟩, -⟩ := lay_is t p s
  have HM := hidp HL.hM
  have HC := hidp HL.hC
  have HW := hidp (show lW t p s = M + K * 120 by unfold lW; rw [HL.hM, HL.hK])
  rw [HW.out] at h1
  rw [HM.out] at h2 h3
  have HP := hidp h3
  clear h3
  have n8 : (v == 8) = false := by simp; omega
  go_enter Try.func40, Try.ntmps40
  go_wp2_with fail
  refine (plLayout_c t p s T P S A C M K HL _).mono ?_
  rintro e w1 ⟨rfl, hb1⟩
  have z1 := ((Held.new2 w (.cells #[.int .i64 t, .int .i64 p, .int .i64 s] 23) 31 #[.int .i64 0, .int .i64 0, .int .i64 0]).keep hb1).alloc (.cells #[.int .i64 T, .int .i64 P, .int .i64 S, .int .i64 A, .int .i64 C, .int .i64 M, .int .i64 K] 35)
  have l1 := Held.new w1 35 #[.int .i64 T, .int .i64 P, .int .i64 S, .int .i64 A, .int .i64 C, .int .i64 M, .int .i64 K]
  go_wp2_with fail
  refine (plWordsOf_c T P S A C M K m0 (by omega) k0 k1 _).mono ?_
  rintro e w2 ⟨rfl, hb2⟩
  have z2 := z1.keep hb2
  have l2 := l1.keep hb2
  clear z1 l1
  obtain ⟨y0, y1, y2, y3, y4, y5, y6⟩ := l2.seven
  go_wp2_with fail
  refine (plOfMaker_c T P S A C M K v _ _ _ (by omega) (by omega) HP.out _).mono ?_
  rintro e w3 ⟨rfl, hb3⟩
  have z3 := z2.keep hb3
  clear z2
  obtain ⟨x0, x1, x2⟩ := z3.three
  have f0 := z3.thawed 0
  have f1 := z3.thawed 1
  have f2 := z3.thawed 2
  go_wp2
  obtain ⟨r0, r1, r2⟩ := (((z3.put 0 (.int .i64 k)).put 1 (.int .i64 a)).put 2 (.int .i64 b)).three
  refine bodyPost_ret (v := .agg #[.int .i64 k, .int .i64 a, .int .i64 b]) (by simp [results, Try.results40, go_sem, r0, r1, r2]) rfl ⟨rfl, ?_⟩
  exact Bput (Bput (Bput (Bgo (Bgo (Bnew (Bgo (Bnew (Bnew (B0 _) _) _) hb1) _) hb2) hb3) (Nat.le_succ _) _) (Nat.le_succ _) _) (Nat.le_succ _) _

/-- what a word is -/
theorem plAt_c (t p s v k a b : Int) (h : atT t p s v = (k, a, b)) (w : World) :
    Calls Try.prog 40 #[.agg #[.int .i64 t, .int .i64 p, .int .i64 s], .int .i64 v] w fun z w' => z = .returned (.agg #[.int .i64 k, .int .i64 a, .int .i64 b]) ∧ Below w.heap.size w w' := by
  by_cases c0 : v < 0
  · rw [at_out (.inl c0)] at h
    simp only [Prod.mk.injEq] at h
    obtain ⟨rfl, rfl, rfl⟩ := h
    exact plAt_low t p s v c0 w
  · by_cases c1 : lW t p s ≤ v
    · rw [at_out (.inr c1)] at h
      simp only [Prod.mk.injEq] at h
      obtain ⟨rfl, rfl, rfl⟩ := h
      exact plAt_out t p s v (by omega) c1 w
    · have hr := words_right (w := v) (t := t) (p := p) (s := s) (by omega) (by omega)
      have hf := first_far hr
      by_cases c2 : v < 8
      · rw [at_head (by omega) (by omega) c2] at h
        simp only [Prod.mk.injEq] at h
        obtain ⟨rfl, rfl, rfl⟩ := h
        exact plAt_head t p s v (by omega) (by omega) c2 w
      · by_cases c3 : v = 8
        · rw [c3, at_tip (by omega)] at h
          simp only [Prod.mk.injEq] at h
          obtain ⟨rfl, rfl, rfl⟩ := h
          exact plAt_tip t p s v (by omega) c3 w
        · by_cases c4 : lM t p s ≤ v
          · rw [at_maker (by omega) c4] at h
            exact plAt_maker t p s v k a b (by omega) (by omega) c4 h w
          · by_cases c5 : v < 16
            · rw [at_gap (by omega) (by omega) (by omega)] at h
              simp only [Prod.mk.injEq] at h
              obtain ⟨rfl, rfl, rfl⟩ := h
              exact plAt_gap1 t p s v (by omega) (by omega) (by omega) c5 w
            · by_cases c6 : v - 16 < lC t p s
              · rw [at_cell (by omega) c6] at h
                simp only [Prod.mk.injEq] at h
                obtain ⟨rfl, rfl, rfl⟩ := h
                exact plAt_cell t p s v (by omega) (by omega) (by omega) c6 w
              · rw [at_gap (by omega) (by omega) (by omega)] at h
                simp only [Prod.mk.injEq] at h
                obtain ⟨rfl, rfl, rfl⟩ := h
                exact plAt_gap2 t p s v (by omega) (by omega) (by omega) (by omega) w

end Go.Proofs.Ytiinomkppehkjaa
