/-
  The contract of the document's answer to what a word is (nacreref07.At).
-/
import Derived.Test.YtiinomkppehkjaaPlaceRef
namespace Go.Proofs.Ytiinomkppehkjaa
open Go.ChangeShapes Go.WideShapes Go.ChangeAt Go.RowKit
set_option linter.unusedVariables false
set_option linter.unusedSimpArgs false

set_option maxHeartbeats 1600000 in
theorem r7At_low (t p s v : Int) (h : v < 0) (w : World) :
    Calls Try.prog 41 #[.agg #[.int .i64 t, .int .i64 p, .int .i64 s], .int .i64 v] w fun z w' => z = .returned (.agg #[.int .i64 0, .int .i64 0, .int .i64 0]) ∧ Below w.heap.size w w' := by
  obtain ⟨y, hy⟩ : ∃ y, lC t p s = y := ⟨_, rfl⟩
  obtain ⟨u, hu⟩ : ∃ u, lW t p s = u := ⟨_, rfl⟩
  have hb := lay_bounds t p s
  have hw := words_bounds t p s
  rw [hy] at hb
  rw [hu] at hw
  have y0 : 0 ≤ y := by omega
  have y1 : y ≤ 6238 := by omega
  have u0 : 0 ≤ u := by omega
  have u1 : u ≤ 8296 := by omega
  have HY := hidp hy
  have HU := hidp hu
  clear hb hw hy hu
  have z0 := Held.new2 w (.cells #[.int .i64 t, .int .i64 p, .int .i64 s] 23) 31 #[.int .i64 0, .int .i64 0, .int .i64 0]
  have c0 := (Held.new w 23 #[.int .i64 t, .int .i64 p, .int .i64 s]).alloc (.cells #[.int .i64 0, .int .i64 0, .int .i64 0] 31)
  go_enter Try.func41, Try.ntmps41
  obtain ⟨x0, x1, x2⟩ := z0.three
  have f0 := z0.thawed 0
  have f1 := z0.thawed 1
  have f2 := z0.thawed 2
  go_wp2
  exact bodyPost_ret (v := .agg #[.int .i64 0, .int .i64 0, .int .i64 0]) (by simp [results, Try.results41, go_sem]) rfl ⟨rfl, Bnew (Bnew (B0 _) _) _⟩

set_option maxHeartbeats 1600000 in
theorem r7At_out (t p s v : Int) (h : 0 ≤ v) (h1 : lW t p s ≤ v) (w : World) :
    Calls Try.prog 41 #[.agg #[.int .i64 t, .int .i64 p, .int .i64 s], .int .i64 v] w fun z w' => z = .returned (.agg #[.int .i64 0, .int .i64 0, .int .i64 0]) ∧ Below w.heap.size w w' := by
  obtain ⟨y, hy⟩ : ∃ y, lC t p s = y := ⟨_, rfl⟩
  obtain ⟨u, hu⟩ : ∃ u, lW t p s = u := ⟨_, rfl⟩
  have hb := lay_bounds t p s
  have hw := words_bounds t p s
  rw [hy] at hb
  rw [hu] at hw
  have y0 : 0 ≤ y := by omega
  have y1 : y ≤ 6238 := by omega
  have u0 : 0 ≤ u := by omega
  have u1 : u ≤ 8296 := by omega
  have HY := hidp hy
  have HU := hidp hu
  rw [hu] at h1
  clear hb hw hy hu
  have z0 := Held.new2 w (.cells #[.int .i64 t, .int .i64 p, .int .i64 s] 23) 31 #[.int .i64 0, .int .i64 0, .int .i64 0]
  have c0 := (Held.new w 23 #[.int .i64 t, .int .i64 p, .int .i64 s]).alloc (.cells #[.int .i64 0, .int .i64 0, .int .i64 0] 31)
  go_enter Try.func41, Try.ntmps41
  go_wp2_with fail
  refine (r7Words_c t p s _).mono ?_
  rintro e w1 ⟨rfl, hb1⟩
  rw [HU.out]
  have z1 := z0.keep hb1
  have c1 := c0.keep hb1
  clear z0 c0
  obtain ⟨y0, y1, y2⟩ := c1.three
  obtain ⟨x0, x1, x2⟩ := z1.three
  have f0 := z1.thawed 0
  have f1 := z1.thawed 1
  have f2 := z1.thawed 2
  go_wp2
  obtain ⟨r0, r1, r2⟩ := (((z1.put 0 (.int .i64 0)).put 1 (.int .i64 0)).put 2 (.int .i64 0)).three
  refine bodyPost_ret (v := .agg #[.int .i64 0, .int .i64 0, .int .i64 0]) (by simp [results, Try.results41, go_sem, r0, r1, r2]) rfl ⟨rfl, ?_⟩
  exact Bput (Bput (Bput (Bgo (Bnew (Bnew (B0 _) _) _) hb1) (Nat.le_succ _) _) (Nat.le_succ _) _) (Nat.le_succ _) _

set_option maxHeartbeats 1600000 in
theorem r7At_head (t p s v : Int) (h : 0 ≤ v) (h1 : v < lW t p s) (h2 : v < 8) (w : World) :
    Calls Try.prog 41 #[.agg #[.int .i64 t, .int .i64 p, .int .i64 s], .int .i64 v] w fun z w' => z = .returned (.agg #[.int .i64 1, .int .i64 v, .int .i64 0]) ∧ Below w.heap.size w w' := by
  obtain ⟨y, hy⟩ : ∃ y, lC t p s = y := ⟨_, rfl⟩
  obtain ⟨u, hu⟩ : ∃ u, lW t p s = u := ⟨_, rfl⟩
  have hb := lay_bounds t p s
  have hw := words_bounds t p s
  rw [hy] at hb
  rw [hu] at hw
  have y0 : 0 ≤ y := by omega
  have y1 : y ≤ 6238 := by omega
  have u0 : 0 ≤ u := by omega
  have u1 : u ≤ 8296 := by omega
  have HY := hidp hy
  have HU := hidp hu
  rw [hu] at h1
  clear hb hw hy hu
  have z0 := Held.new2 w (.cells #[.int .i64 t, .int .i64 p, .int .i64 s] 23) 31 #[.int .i64 0, .int .i64 0, .int .i64 0]
  have c0 := (Held.new w 23 #[.int .i64 t, .int .i64 p, .int .i64 s]).alloc (.cells #[.int .i64 0, .int .i64 0, .int .i64 0] 31)
  go_enter Try.func41, Try.ntmps41
  go_wp2_with fail
  refine (r7Words_c t p s _).mono ?_
  rintro e w1 ⟨rfl, hb1⟩
  rw [HU.out]
  have z1 := z0.keep hb1
  have c1 := c0.keep hb1
  clear z0 c0
  obtain ⟨y0, y1, y2⟩ := c1.three
  obtain ⟨x0, x1, x2⟩ := z1.three
  have f0 := z1.thawed 0
  have f1 := z1.thawed 1
  have f2 := z1.thawed 2
  go_wp2
  obtain ⟨r0, r1, r2⟩ := (((z1.put 0 (.int .i64 1)).put 1 (.int .i64 v)).put 2 (.int .i64 0)).three
  refine bodyPost_ret (v := .agg #[.int .i64 1, .int .i64 v, .int .i64 0]) (by simp [results, Try.results41, go_sem, r0, r1, r2]) rfl ⟨rfl, ?_⟩
  exact Bput (Bput (Bput (Bgo (Bnew (Bnew (B0 _) _) _) hb1) (Nat.le_succ _) _) (Nat.le_succ _) _) (Nat.le_succ _) _

set_option maxHeartbeats 1600000 in
theorem r7At_tip (t p s v : Int) (h1 : v < lW t p s) (h2 : v = 8) (w : World) :
    Calls Try.prog 41 #[.agg #[.int .i64 t, .int .i64 p, .int .i64 s], .int .i64 v] w fun z w' => z = .returned (.agg #[.int .i64 2, .int .i64 0, .int .i64 0]) ∧ Below w.heap.size w w' := by
  obtain ⟨y, hy⟩ : ∃ y, lC t p s = y := ⟨_, rfl⟩
  obtain ⟨u, hu⟩ : ∃ u, lW t p s = u := ⟨_, rfl⟩
  have hb := lay_bounds t p s
  have hw := words_bounds t p s
  rw [hy] at hb
  rw [hu] at hw
  have y0 : 0 ≤ y := by omega
  have y1 : y ≤ 6238 := by omega
  have u0 : 0 ≤ u := by omega
  have u1 : u ≤ 8296 := by omega
  have HY := hidp hy
  have HU := hidp hu
  rw [hu] at h1
  subst h2
  clear hb hw hy hu
  have z0 := Held.new2 w (.cells #[.int .i64 t, .int .i64 p, .int .i64 s] 23) 31 #[.int .i64 0, .int .i64 0, .int .i64 0]
  have c0 := (Held.new w 23 #[.int .i64 t, .int .i64 p, .int .i64 s]).alloc (.cells #[.int .i64 0, .int .i64 0, .int .i64 0] 31)
  go_enter Try.func41, Try.ntmps41
  go_wp2_with fail
  refine (r7Words_c t p s _).mono ?_
  rintro e w1 ⟨rfl, hb1⟩
  rw [HU.out]
  have z1 := z0.keep hb1
  have c1 := c0.keep hb1
  clear z0 c0
  obtain ⟨y0, y1, y2⟩ := c1.three
  obtain ⟨x0, x1, x2⟩ := z1.three
  have f0 := z1.thawed 0
  have f1 := z1.thawed 1
  have f2 := z1.thawed 2
  go_wp2
  obtain ⟨r0, r1, r2⟩ := (((z1.put 0 (.int .i64 2)).put 1 (.int .i64 0)).put 2 (.int .i64 0)).three
  refine bodyPost_ret (v := .agg #[.int .i64 2, .int .i64 0, .int .i64 0]) (by simp [results, Try.results41, go_sem, r0, r1, r2]) rfl ⟨rfl, ?_⟩
  exact Bput (Bput (Bput (Bgo (Bnew (Bnew (B0 _) _) _) hb1) (Nat.le_succ _) _) (Nat.le_succ _) _) (Nat.le_succ _) _

set_option maxHeartbeats 1600000 in
theorem r7At_cell (t p s v : Int) (h : 16 ≤ v) (h1 : v < lW t p s) (h3 : v - 16 < lC t p s) (w : World) :
    Calls Try.prog 41 #[.agg #[.int .i64 t, .int .i64 p, .int .i64 s], .int .i64 v] w fun z w' => z = .returned (.agg #[.int .i64 3, .int .i64 (v - 16), .int .i64 0]) ∧ Below w.heap.size w w' := by
  obtain ⟨y, hy⟩ : ∃ y, lC t p s = y := ⟨_, rfl⟩
  obtain ⟨u, hu⟩ : ∃ u, lW t p s = u := ⟨_, rfl⟩
  have hb := lay_bounds t p s
  have hw := words_bounds t p s
  rw [hy] at hb
  rw [hu] at hw
  have y0 : 0 ≤ y := by omega
  have y1 : y ≤ 6238 := by omega
  have u0 : 0 ≤ u := by omega
  have u1 : u ≤ 8296 := by omega
  have HY := hidp hy
  have HU := hidp hu
  rw [hu] at h1
  rw [hy] at h3
  have n8 : (v == 8) = false := by simp; omega
  clear hb hw hy hu
  have z0 := Held.new2 w (.cells #[.int .i64 t, .int .i64 p, .int .i64 s] 23) 31 #[.int .i64 0, .int .i64 0, .int .i64 0]
  have c0 := (Held.new w 23 #[.int .i64 t, .int .i64 p, .int .i64 s]).alloc (.cells #[.int .i64 0, .int .i64 0, .int .i64 0] 31)
  go_enter Try.func41, Try.ntmps41
  go_wp2_with fail
  refine (r7Words_c t p s _).mono ?_
  rintro e w1 ⟨rfl, hb1⟩
  rw [HU.out]
  have z1 := z0.keep hb1
  have c1 := c0.keep hb1
  clear z0 c0
  obtain ⟨y0, y1, y2⟩ := c1.three
  go_wp2_with fail
  refine (r7Cells_c t p s _).mono ?_
  rintro e w2 ⟨rfl, hb2⟩
  rw [HY.out]
  have z2 := z1.keep hb2
  have c2 := c1.keep hb2
  clear z1 c1 y0 y1 y2
  obtain ⟨y0, y1, y2⟩ := c2.three
  obtain ⟨x0, x1, x2⟩ := z2.three
  have f0 := z2.thawed 0
  have f1 := z2.thawed 1
  have f2 := z2.thawed 2
  go_wp2
  obtain ⟨r0, r1, r2⟩ := (((z2.put 0 (.int .i64 3)).put 1 (.int .i64 (v - 16))).put 2 (.int .i64 0)).three
  refine bodyPost_ret (v := .agg #[.int .i64 3, .int .i64 (v - 16), .int .i64 0]) (by simp [results, Try.results41, go_sem, r0, r1, r2]) rfl ⟨rfl, ?_⟩
  exact Bput (Bput (Bput (Bgo (Bgo (Bnew (Bnew (B0 _) _) _) hb1) hb2) (Nat.le_succ _) _) (Nat.le_succ _) _) (Nat.le_succ _) _

theorem mat_more {M v : Int} {k : Nat} (h : ∀ j : Int, 0 ≤ j → j < (k : Int) → ¬ ((0 ≤ v - (M + j * 120) ∧ v - (M + j * 120) < 17) ∨ (24 ≤ v - (M + j * 120) ∧ v - (M + j * 120) < 120)))
    (h' : ¬ ((0 ≤ v - (M + (k : Int) * 120) ∧ v - (M + (k : Int) * 120) < 17) ∨ (24 ≤ v - (M + (k : Int) * 120) ∧ v - (M + (k : Int) * 120) < 120))) :
    ∀ j : Int, 0 ≤ j → j < ((k + 1 : Nat) : Int) → ¬ ((0 ≤ v - (M + j * 120) ∧ v - (M + j * 120) < 17) ∨ (24 ≤ v - (M + j * 120) ∧ v - (M + j * 120) < 120)) := by
  intro j h0 h1
  by_cases hj : j < (k : Int)
  · exact h j h0 hj
  · obtain rfl : j = (k : Int) := by omega
    exact h'

set_option maxHeartbeats 1600000 in
theorem r7At_rest1 (t p s v : Int) (k a b : Int) (hr : rightB t p s = true) (h : 9 ≤ v) (h1 : v < lW t p s) (h3 : v < 16) (he : atT t p s v = (k, a, b)) (w : World) :
    Calls Try.prog 41 #[.agg #[.int .i64 t, .int .i64 p, .int .i64 s], .int .i64 v] w fun z w' => z = .returned (.agg #[.int .i64 k, .int .i64 a, .int .i64 b]) ∧ Below w.heap.size w w' := by
  obtain ⟨y, hy⟩ : ∃ y, lC t p s = y := ⟨_, rfl⟩
  obtain ⟨u, hu⟩ : ∃ u, lW t p s = u := ⟨_, rfl⟩
  have hb := lay_bounds t p s
  have hw := words_bounds t p s
  rw [hy] at hb
  rw [hu] at hw
  have y0 : 0 ≤ y := by omega
  have y1 : y ≤ 6238 := by omega
  have u0 : 0 ≤ u := by omega
  have u1 : u ≤ 8296 := by omega
  have HY := hidp hy
  have HU := hidp hu
  rw [hu] at h1
  have HR := hidp hr
  have HE := hidp he
  have HG := hidp (show ¬ (16 ≤ v ∧ v - 16 < lC t p s) by omega)
  have hn := (rightB_iff t p s).1 hr
  have t0 : 1 ≤ t := by omega
  have t1 : t ≤ 16 := by omega
  have n8 : (v == 8) = false := by simp; omega
  clear hr he hn
  clear hb hw hy hu
  have z0 := Held.new2 w (.cells #[.int .i64 t, .int .i64 p, .int .i64 s] 23) 31 #[.int .i64 0, .int .i64 0, .int .i64 0]
  have c0 := (Held.new w 23 #[.int .i64 t, .int .i64 p, .int .i64 s]).alloc (.cells #[.int .i64 0, .int .i64 0, .int .i64 0] 31)
  go_enter Try.func41, Try.ntmps41
  go_wp2_with fail
  refine (r7Words_c t p s _).mono ?_
  rintro e w1 ⟨rfl, hb1⟩
  rw [HU.out]
  have z1 := z0.keep hb1
  have c1 := c0.keep hb1
  clear z0 c0
  obtain ⟨y0, y1, y2⟩ := c1.three
  have HB := hidp (show Below w.heap.size w w1 from Bgo (Bnew (Bnew (B0 _) _) _) hb1)
  have HZ := hidp z1
  have HCC := hidp c1
  clear z1 c1 y0 y1 y2 hb1
  go_wp2
  go_loopw [5] (fun i wr => ∃ k : Nat, (k : Int) ≤ t + 1 ∧ i = .int .i64 k ∧ (∀ j : Int, 0 ≤ j → j < (k : Int) → ¬ ((0 ≤ v - (lM t p s + j * 120) ∧ v - (lM t p s + j * 120) < 17) ∨ (24 ≤ v - (lM t p s + j * 120) ∧ v - (lM t p s + j * 120) < 120))) ∧ Below w1.heap.size w1 wr) (fun i _ => 18 - (intOf i).toNat)
  case atStart => exact ⟨0, by omega, rfl, fun j hj hj' => absurd hj' (by omega), Below.refl _ _⟩
  case round =>
    obtain ⟨j, j1, rfl, hno, hbr⟩ := hrel
    have HNO := hidp hno
    clear hno
    have zr := HZ.out.keep hbr
    have cr := HCC.out.keep hbr
    obtain ⟨x0, x1, x2⟩ := cr.three
    by_cases hlt : (j : Int) ≤ t
    · obtain ⟨m, hm⟩ : ∃ m, nthI (lM t p s) (lK t p s) 120 j = m := ⟨_, rfl⟩
      have hm1 := (maker_yes HR.out (show (0 : Int) ≤ j by omega) hlt).symm.trans hm
      have hbd := lay_bounds t p s
      have m0 : 0 ≤ m := by omega
      have m1 : m ≤ 8296 := by omega
      obtain ⟨i, hi⟩ : ∃ i, v - m = i := ⟨_, rfl⟩
      have i0 : -9000 ≤ i := by omega
      have i1 : i ≤ 9000 := by omega
      have HM := hidp hm
      have HI := hidp (show v - (lM t p s + (j : Int) * 120) = i by rw [hm1]; exact hi)
      clear hm hm1 hbd
      go_wp2_with fail
      refine (r7Maker_c t p s j _).mono ?_
      rintro e w3 ⟨rfl, hb3⟩
      rw [HM.out]
      have z3 := zr.keep hb3
      have c3 := cr.keep hb3
      have HB3 := hidp (Bgo (Bgo HB.out hbr) hb3)
      have HB4 := hidp (Bgo hbr hb3)
      clear zr cr x0 x1 x2 hbr hb3
      obtain ⟨x0, x1, x2⟩ := c3.three
      obtain ⟨v0, v1, v2⟩ := z3.three
      have f0 := z3.thawed 0
      have f1 := z3.thawed 1
      have f2 := z3.thawed 2
      by_cases d0 : i < 0
      · have n16 : (i == 16) = false := by simp; omega
        go_wp2
        go_roundw
        case rel => exact ⟨j + 1, by omega, by go_num, mat_more HNO.out (by rw [HI.out]; omega), HB4.out⟩
        case measure => simp [intOf]; omega
      · by_cases d1 : i < 16
        · have hk := at_of HR.out (by omega) hlt (by omega) (by omega) HI.out
          rw [HE.out, part_call (by omega)] at hk
          simp only [Prod.mk.injEq] at hk
          obtain ⟨rfl, rfl, rfl⟩ := hk
          go_wp2
          obtain ⟨r0, r1, r2⟩ := (((z3.put 0 (.int .i64 4)).put 1 (.int .i64 (j : Int))).put 2 (.int .i64 b)).three
          refine bodyPost_ret (v := .agg #[.int .i64 4, .int .i64 (j : Int), .int .i64 b]) (by simp [results, Try.results41, go_sem, r0, r1, r2]) rfl ⟨rfl, ?_⟩
          exact Bput (Bput (Bput (HB3.out) (Nat.le_succ _) _) (Nat.le_succ _) _) (Nat.le_succ _) _
        · exfalso; omega
    · have hk := at_none HR.out (by omega) (by rw [HU.out]; omega) HG.out (fun j' h0 h1 => HNO.out j' h0 (by omega))
      rw [HE.out] at hk
      simp only [Prod.mk.injEq] at hk
      obtain ⟨rfl, rfl, rfl⟩ := hk
      obtain ⟨v0, v1, v2⟩ := zr.three
      have f0 := zr.thawed 0
      have f1 := zr.thawed 1
      have f2 := zr.thawed 2
      go_wp2
      obtain ⟨r0, r1, r2⟩ := (((zr.put 0 (.int .i64 0)).put 1 (.int .i64 0)).put 2 (.int .i64 0)).three
      refine bodyPost_ret (v := .agg #[.int .i64 0, .int .i64 0, .int .i64 0]) (by simp [results, Try.results41, go_sem, r0, r1, r2]) rfl ⟨rfl, ?_⟩
      exact Bput (Bput (Bput (Bgo HB.out hbr) (Nat.le_succ _) _) (Nat.le_succ _) _) (Nat.le_succ _) _

set_option maxHeartbeats 1600000 in
theorem r7At_rest2 (t p s v : Int) (k a b : Int) (hr : rightB t p s = true) (h : 16 ≤ v) (h1 : v < lW t p s) (h3 : lC t p s ≤ v - 16) (he : atT t p s v = (k, a, b)) (w : World) :
    Calls Try.prog 41 #[.agg #[.int .i64 t, .int .i64 p, .int .i64 s], .int .i64 v] w fun z w' => z = .returned (.agg #[.int .i64 k, .int .i64 a, .int .i64 b]) ∧ Below w.heap.size w w' := by
  obtain ⟨y, hy⟩ : ∃ y, lC t p s = y := ⟨_, rfl⟩
  obtain ⟨u, hu⟩ : ∃ u, lW t p s = u := ⟨_, rfl⟩
  have hb := lay_bounds t p s
  have hw := words_bounds t p s
  rw [hy] at hb
  rw [hu] at hw
  have y0 : 0 ≤ y := by omega
  have y1 : y ≤ 6238 := by omega
  have u0 : 0 ≤ u := by omega
  have u1 : u ≤ 8296 := by omega
  have HY := hidp hy
  have HU := hidp hu
  rw [hu] at h1
  have HR := hidp hr
  have HE := hidp he
  have HG := hidp (show ¬ (16 ≤ v ∧ v - 16 < lC t p s) by omega)
  rw [hy] at h3
  have hn := (rightB_iff t p s).1 hr
  have t0 : 1 ≤ t := by omega
  have t1 : t ≤ 16 := by omega
  have n8 : (v == 8) = false := by simp; omega
  clear hr he hn
  clear hb hw hy hu
  have z0 := Held.new2 w (.cells #[.int .i64 t, .int .i64 p, .int .i64 s] 23) 31 #[.int .i64 0, .int .i64 0, .int .i64 0]
  have c0 := (Held.new w 23 #[.int .i64 t, .int .i64 p, .int .i64 s]).alloc (.cells #[.int .i64 0, .int .i64 0, .int .i64 0] 31)
  go_enter Try.func41, Try.ntmps41
  go_wp2_with fail
  refine (r7Words_c t p s _).mono ?_
  rintro e w1 ⟨rfl, hb1⟩
  rw [HU.out]
  have z1 := z0.keep hb1
  have c1 := c0.keep hb1
  clear z0 c0
  obtain ⟨y0, y1, y2⟩ := c1.three
  go_wp2_with fail
  refine (r7Cells_c t p s _).mono ?_
  rintro e w2 ⟨rfl, hb2⟩
  rw [HY.out]
  have z2 := z1.keep hb2
  have c2 := c1.keep hb2
  clear z1 c1 y0 y1 y2
  obtain ⟨y0, y1, y2⟩ := c2.three
  have HB := hidp (show Below w.heap.size w w2 from Bgo (Bgo (Bnew (Bnew (B0 _) _) _) hb1) hb2)
  have HZ := hidp z2
  have HCC := hidp c2
  clear z2 c2 y0 y1 y2 hb1 hb2
  go_wp2
  go_loopw [5] (fun i wr => ∃ k : Nat, (k : Int) ≤ t + 1 ∧ i = .int .i64 k ∧ (∀ j : Int, 0 ≤ j → j < (k : Int) → ¬ ((0 ≤ v - (lM t p s + j * 120) ∧ v - (lM t p s + j * 120) < 17) ∨ (24 ≤ v - (lM t p s + j * 120) ∧ v - (lM t p s + j * 120) < 120))) ∧ Below w2.heap.size w2 wr) (fun i _ => 18 - (intOf i).toNat)
  case atStart => exact ⟨0, by omega, rfl, fun j hj hj' => absurd hj' (by omega), Below.refl _ _⟩
  case round =>
    obtain ⟨j, j1, rfl, hno, hbr⟩ := hrel
    have HNO := hidp hno
    clear hno
    have zr := HZ.out.keep hbr
    have cr := HCC.out.keep hbr
    obtain ⟨x0, x1, x2⟩ := cr.three
    by_cases hlt : (j : Int) ≤ t
    · obtain ⟨m, hm⟩ : ∃ m, nthI (lM t p s) (lK t p s) 120 j = m := ⟨_, rfl⟩
      have hm1 := (maker_yes HR.out (show (0 : Int) ≤ j by omega) hlt).symm.trans hm
      have hbd := lay_bounds t p s
      have m0 : 0 ≤ m := by omega
      have m1 : m ≤ 8296 := by omega
      obtain ⟨i, hi⟩ : ∃ i, v - m = i := ⟨_, rfl⟩
      have i0 : -9000 ≤ i := by omega
      have i1 : i ≤ 9000 := by omega
      have HM := hidp hm
      have HI := hidp (show v - (lM t p s + (j : Int) * 120) = i by rw [hm1]; exact hi)
      clear hm hm1 hbd
      go_wp2_with fail
      refine (r7Maker_c t p s j _).mono ?_
      rintro e w3 ⟨rfl, hb3⟩
      rw [HM.out]
      have z3 := zr.keep hb3
      have c3 := cr.keep hb3
      have HB3 := hidp (Bgo (Bgo HB.out hbr) hb3)
      have HB4 := hidp (Bgo hbr hb3)
      clear zr cr x0 x1 x2 hbr hb3
      obtain ⟨x0, x1, x2⟩ := c3.three
      obtain ⟨v0, v1, v2⟩ := z3.three
      have f0 := z3.thawed 0
      have f1 := z3.thawed 1
      have f2 := z3.thawed 2
      by_cases d0 : i < 0
      · have n16 : (i == 16) = false := by simp; omega
        go_wp2
        go_roundw
        case rel => exact ⟨j + 1, by omega, by go_num, mat_more HNO.out (by rw [HI.out]; omega), HB4.out⟩
        case measure => simp [intOf]; omega
      · by_cases d1 : i < 16
        · have hk := at_of HR.out (by omega) hlt (by omega) (by omega) HI.out
          rw [HE.out, part_call (by omega)] at hk
          simp only [Prod.mk.injEq] at hk
          obtain ⟨rfl, rfl, rfl⟩ := hk
          go_wp2
          obtain ⟨r0, r1, r2⟩ := (((z3.put 0 (.int .i64 4)).put 1 (.int .i64 (j : Int))).put 2 (.int .i64 b)).three
          refine bodyPost_ret (v := .agg #[.int .i64 4, .int .i64 (j : Int), .int .i64 b]) (by simp [results, Try.results41, go_sem, r0, r1, r2]) rfl ⟨rfl, ?_⟩
          exact Bput (Bput (Bput (HB3.out) (Nat.le_succ _) _) (Nat.le_succ _) _) (Nat.le_succ _) _
        · by_cases d2 : i = 16
          · have hk := at_of HR.out (by omega) hlt (by omega) (by omega) HI.out
            rw [HE.out, d2, part_note] at hk
            simp only [Prod.mk.injEq] at hk
            obtain ⟨rfl, rfl, rfl⟩ := hk
            have n16 : (i == 16) = true := by simpa using d2
            clear d2
            go_wp2
            obtain ⟨r0, r1, r2⟩ := (((z3.put 0 (.int .i64 5)).put 1 (.int .i64 (j : Int))).put 2 (.int .i64 0)).three
            refine bodyPost_ret (v := .agg #[.int .i64 5, .int .i64 (j : Int), .int .i64 0]) (by simp [results, Try.results41, go_sem, r0, r1, r2]) rfl ⟨rfl, ?_⟩
            exact Bput (Bput (Bput (HB3.out) (Nat.le_succ _) _) (Nat.le_succ _) _) (Nat.le_succ _) _
          · have n16 : (i == 16) = false := by simpa using d2
            by_cases d3 : i < 24
            · go_wp2
              go_roundw
              case rel => exact ⟨j + 1, by omega, by go_num, mat_more HNO.out (by rw [HI.out]; omega), HB4.out⟩
              case measure => simp [intOf]; omega
            · by_cases d4 : i < 120
              · have hk := at_of HR.out (by omega) hlt (by omega) (by omega) HI.out
                rw [HE.out, part_log (by omega)] at hk
                simp only [Prod.mk.injEq] at hk
                obtain ⟨rfl, rfl, rfl⟩ := hk
                go_wp2
                obtain ⟨r0, r1, r2⟩ := (((z3.put 0 (.int .i64 6)).put 1 (.int .i64 (j : Int))).put 2 (.int .i64 (i - 24))).three
                refine bodyPost_ret (v := .agg #[.int .i64 6, .int .i64 (j : Int), .int .i64 (i - 24)]) (by simp [results, Try.results41, go_sem, r0, r1, r2]) rfl ⟨rfl, ?_⟩
                exact Bput (Bput (Bput (HB3.out) (Nat.le_succ _) _) (Nat.le_succ _) _) (Nat.le_succ _) _
              · go_wp2
                go_roundw
                case rel => exact ⟨j + 1, by omega, by go_num, mat_more HNO.out (by rw [HI.out]; omega), HB4.out⟩
                case measure => simp [intOf]; omega
    · have hk := at_none HR.out (by omega) (by rw [HU.out]; omega) HG.out (fun j' h0 h1 => HNO.out j' h0 (by omega))
      rw [HE.out] at hk
      simp only [Prod.mk.injEq] at hk
      obtain ⟨rfl, rfl, rfl⟩ := hk
      obtain ⟨v0, v1, v2⟩ := zr.three
      have f0 := zr.thawed 0
      have f1 := zr.thawed 1
      have f2 := zr.thawed 2
      go_wp2
      obtain ⟨r0, r1, r2⟩ := (((zr.put 0 (.int .i64 0)).put 1 (.int .i64 0)).put 2 (.int .i64 0)).three
      refine bodyPost_ret (v := .agg #[.int .i64 0, .int .i64 0, .int .i64 0]) (by simp [results, Try.results41, go_sem, r0, r1, r2]) rfl ⟨rfl, ?_⟩
      exact Bput (Bput (Bput (Bgo HB.out hbr) (Nat.le_succ _) _) (Nat.le_succ _) _) (Nat.le_succ _) _

/-- what a word is, as the document answers -/
theorem r7At_c (t p s v k a b : Int) (h : atT t p s v = (k, a, b)) (w : World) :
    Calls Try.prog 41 #[.agg #[.int .i64 t, .int .i64 p, .int .i64 s], .int .i64 v] w fun z w' => z = .returned (.agg #[.int .i64 k, .int .i64 a, .int .i64 b]) ∧ Below w.heap.size w w' := by
  by_cases c0 : v < 0
  · rw [at_out (.inl c0)] at h
    simp only [Prod.mk.injEq] at h
    obtain ⟨rfl, rfl, rfl⟩ := h
    exact r7At_low t p s v c0 w
  · by_cases c1 : lW t p s ≤ v
    · rw [at_out (.inr c1)] at h
      simp only [Prod.mk.injEq] at h
      obtain ⟨rfl, rfl, rfl⟩ := h
      exact r7At_out t p s v (by omega) c1 w
    · have hr := words_right (w := v) (t := t) (p := p) (s := s) (by omega) (by omega)
      have hf := first_far hr
      by_cases c2 : v < 8
      · rw [at_head (by omega) (by omega) c2] at h
        simp only [Prod.mk.injEq] at h
        obtain ⟨rfl, rfl, rfl⟩ := h
        exact r7At_head t p s v (by omega) (by omega) c2 w
      · by_cases c3 : v = 8
        · rw [c3, at_tip (by omega)] at h
          simp only [Prod.mk.injEq] at h
          obtain ⟨rfl, rfl, rfl⟩ := h
          exact r7At_tip t p s v (by omega) c3 w
        · by_cases c5 : v < 16
          · exact r7At_rest1 t p s v k a b hr (by omega) (by omega) c5 h w
          · by_cases c6 : v - 16 < lC t p s
            · rw [at_cell (by omega) c6] at h
              simp only [Prod.mk.injEq] at h
              obtain ⟨rfl, rfl, rfl⟩ := h
              exact r7At_cell t p s v (by omega) (by omega) c6 w
            · exact r7At_rest2 t p s v k a b hr (by omega) (by omega) (by omega) h w

end Go.Proofs.Ytiinomkppehkjaa
