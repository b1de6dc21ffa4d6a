/-
  The contract of the document's answer to what a word is (nacreref07.At).
-/
import Derived.Test.YtmjkljdnioochaaA02
import Derived.Test.YtmjkljdnioochaaA06
namespace Go.Proofs.Ytmjkljdnioochaa
open Go.ChangeShapes Go.WideShapes Go.ChangeAt Go.RowKit
set_option linter.unusedVariables false
set_option linter.unusedSimpArgs false
section
set_option maxHeartbeats 1600000 in
theorem r7At_low (t p s v : Int) (h : v < 0) (w : World) :
  Calls Try.prog 18 #[.agg #[.int .i64 t, .int .i64 p, .int .i64 s], .int .i64 v] w fun z w' => z = .returned (.agg #[.int .i64 0, .int .i64 0, .int .i64 0]) /\ Below w.heap.size w w' := by
 obtain ⟨y, hy⟩ : ∃ y, lC t p s = y := ⟨_, rfl⟩
 obtain ⟨u, hu⟩ : ∃ u, lW t p s = u := ⟨_, rfl⟩
 have hb := lay_bounds t p s
 have hw := words_bounds t p s
 rw [hy] at hb
 rw [hu] at hw
 have y0 : 0 <= y := by omega
 have y1 : y <= 6238 := by omega
 have u0 : 0 <= u := by omega
 have u1 : u <= 8296 := by omega
 have HY := hidp hy
 have HU := hidp hu
 clear hb hw hy hu
 have z0 := Held.new2 w (.cells #[.int .i64 t, .int .i64 p, .int .i64 s] 23) 50 #[.int .i64 0, .int .i64 0, .int .i64 0]
 have c0 := (Held.new w 23 #[.int .i64 t, .int .i64 p, .int .i64 s]).alloc (.cells #[.int .i64 0, .int .i64 0, .int .i64 0] 50)
 go_enter Try.func18, Try.ntmps18
 obtain ⟨x0, x1, x2⟩ := z0.three
 have f0 := z0.thawed 0
 have f1 := z0.thawed 1
 have f2 := z0.thawed 2
 go_wp2
 exact bodyPost_ret (v := .agg #[.int .i64 0, .int .i64 0, .int .i64 0]) (by simp [results, Try.results18, go_sem]) rfl ⟨rfl, Bnew (Bnew (B0 _) _) _⟩

set_option maxHeartbeats 1600000 in
theorem r7At_out (t p s v : Int) (h : 0 <= v) (h1 : lW t p s <= v) (w : World) :
  Calls Try.prog 18 #[.agg #[.int .i64 t, .int .i64 p, .int .i64 s], .int .i64 v] w fun z w' => z = .returned (.agg #[.int .i64 0, .int .i64 0, .int .i64 0]) /\ Below w.heap.size w w' := by
 obtain ⟨y, hy⟩ : ∃ y, lC t p s = y := ⟨_, rfl⟩
 obtain ⟨u, hu⟩ : ∃ u, lW t p s = u := ⟨_, rfl⟩
 have hb := lay_bounds t p s
 have hw := words_bounds t p s
 rw [hy] at hb
 rw [hu] at hw
 have y0 : 0 <= y := by omega
 have y1 : y <= 6238 := by omega
 have u0 : 0 <= u := by omega
 have u1 : u <= 8296 := by omega
 have HY := hidp hy
 have HU := hidp hu
 rw [hu] at h1
 clear hb hw hy hu
 have z0 := Held.new2 w (.cells #[.int .i64 t, .int .i64 p, .int .i64 s] 23) 50 #[.int .i64 0, .int .i64 0, .int .i64 0]
 have c0 := (Held.new w 23 #[.int .i64 t, .int .i64 p, .int .i64 s]).alloc (.cells #[.int .i64 0, .int .i64 0, .int .i64 0] 50)
 go_enter Try.func18, Try.ntmps18
 go_wp2_with fail
 refine (r7Words_c t p s _).mono ?_
 rintro e w1 ⟨rfl, hb1⟩
 rw [HU.out]
 have z1 := z0.keep hb1
 have c1 := c0.keep hb1
 clear z0 c0
 obtain ⟨y0, y1, y2⟩ := c1.three
 obtain ⟨x0, x1, x2⟩ := z1.three
 have f0 := z1.thawed 0
 have f1 := z1.thawed 1
 have f2 := z1.thawed 2
 go_wp2
 obtain ⟨r0, r1, r2⟩ := (((z1.put 0 (.int .i64 0)).put 1 (.int .i64 0)).put 2 (.int .i64 0)).three
 refine bodyPost_ret (v := .agg #[.int .i64 0, .int .i64 0, .int .i64 0]) (by simp [results, Try.results18, go_sem, r0, r1, r2]) rfl ⟨rfl, ?_⟩
 exact Bput (Bput (Bput (Bgo (Bnew (Bnew (B0 _) _) _) hb1) (Nat.le_succ _) _) (Nat.le_succ _) _) (Nat.le_succ _) _

set_option maxHeartbeats 1600000 in
theorem r7At_head (t p s v : Int) (h : 0 <= v) (h1 : v < lW t p s) (h2 : v < 8) (w : World) :
  Calls Try.prog 18 #[.agg #[.int .i64 t, .int .i64 p, .int .i64 s], .int .i64 v] w fun z w' => z = .returned (.agg #[.int .i64 1, .int .i64 v, .int .i64 0]) /\ Below w.heap.size w w' := by
 obtain ⟨y, hy⟩ : ∃ y, lC t p s = y := ⟨_, rfl⟩
 obtain ⟨u, hu⟩ : ∃ u, lW t p s = u := ⟨_, rfl⟩
 have hb := lay_bounds t p s
 have hw := words_bounds t p s
 rw [hy] at hb
 rw [hu] at hw
 have y0 : 0 <= y := by omega
 have y1 : y <= 6238 := by omega
 have u0 : 0 <= u := by omega
 have u1 : u <= 8296 := by omega
 have HY := hidp hy
 have HU := hidp hu
 rw [hu] at h1
 clear hb hw hy hu
 have z0 := Held.new2 w (.cells #[.int .i64 t, .int .i64 p, .int .i64 s] 23) 50 #[.int .i64 0, .int .i64 0, .int .i64 0]
 have c0 := (Held.new w 23 #[.int .i64 t, .int .i64 p, .int .i64 s]).alloc (.cells #[.int .i64 0, .int .i64 0, .int .i64 0] 50)
 go_enter Try.func18, Try.ntmps18
 go_wp2_with fail
 refine (r7Words_c t p s _).mono ?_
 rintro e w1 ⟨rfl, hb1⟩
 rw [HU.out]
 have z1 := z0.keep hb1
 have c1 := c0.keep hb1
 clear z0 c0
 obtain ⟨y0, y1, y2⟩ := c1.three
 obtain ⟨x0, x1, x2⟩ := z1.three
 have f0 := z1.thawed 0
 have f1 := z1.thawed 1
 have f2 := z1.thawed 2
 go_wp2
 obtain ⟨r0, r1, r2⟩ := (((z1.put 0 (.int .i64 1)).put 1 (.int .i64 v)).put 2 (.int .i64 0)).three
 refine bodyPost_ret (v := .agg #[.int .i64 1, .int .i64 v, .int .i64 0]) (by simp [results, Try.results18, go_sem, r0, r1, r2]) rfl ⟨rfl, ?_⟩
 exact Bput (Bput (Bput (Bgo (Bnew (Bnew (B0 _) _) _) hb1) (Nat.le_succ _) _) (Nat.le_succ _) _) (Nat.le_succ _) _

set_option maxHeartbeats 1600000 in
theorem r7At_tip (t p s v : Int) (h1 : v < lW t p s) (h2 : v = 8) (w : World) :
  Calls Try.prog 18 #[.agg #[.int .i64 t, .int .i64 p, .int .i64 s], .int .i64 v] w fun z w' => z = .returned (.agg #[.int .i64 2, .int .i64 0, .int .i64 0]) /\ Below w.heap.size w w' := by
 obtain ⟨y, hy⟩ : ∃ y, lC t p s = y := ⟨_, rfl⟩
 obtain ⟨u, hu⟩ : ∃ u, lW t p s = u := ⟨_, rfl⟩
 have hb := lay_bounds t p s
 have hw := words_bounds t p s
 rw [hy] at hb
 rw [hu] at hw
 have y0 : 0 <= y := by omega
 have y1 : y <= 6238 := by omega
 have u0 : 0 <= u := by omega
 have u1 : u <= 8296 := by omega
 have HY := hidp hy
 have HU := hidp hu
 rw [hu] at h1
 subst h2
 clear hb hw hy hu
 have z0 := Held.new2 w (.cells #[.int .i64 t, .int .i64 p, .int .i64 s] 23) 50 #[.int .i64 0, .int .i64 0, .int .i64 0]
 have c0 := (Held.new w 23 #[.int .i64 t, .int .i64 p, .int .i64 s]).alloc (.cells #[.int .i64 0, .int .i64 0, .int .i64 0] 50)
 go_enter Try.func18, Try.ntmps18
 go_wp2_with fail
 refine (r7Words_c t p s _).mono ?_
 rintro e w1 ⟨rfl, hb1⟩
 rw [HU.out]
 have z1 := z0.keep hb1
 have c1 := c0.keep hb1
 clear z0 c0
 obtain ⟨y0, y1, y2⟩ := c1.three
 obtain ⟨x0, x1, x2⟩ := z1.three
 have f0 := z1.thawed 0
 have f1 := z1.thawed 1
 have f2 := z1.thawed 2
 go_wp2
 obtain ⟨r0, r1, r2⟩ := (((z1.put 0 (.int .i64 2)).put 1 (.int .i64 0)).put 2 (.int .i64 0)).three
 refine bodyPost_ret (v := .agg #[.int .i64 2, .int .i64 0, .int .i64 0]) (by simp [results, Try.results18, go_sem, r0, r1, r2]) rfl ⟨rfl, ?_⟩
 exact Bput (Bput (Bput (Bgo (Bnew (Bnew (B0 _) _) _) hb1) (Nat.le_succ _) _) (Nat.le_succ _) _) (Nat.le_succ _) _

set_option maxHeartbeats 1600000 in
theorem r7At_cell (t p s v : Int) (h : 16 <= v) (h1 : v < lW t p s) (h3 : v - 16 < lC t p s) (w : World) :
  Calls Try.prog 18 #[.agg #[.int .i64 t, .int .i64 p, .int .i64 s], .int .i64 v] w fun z w' => z = .returned (.agg #[.int .i64 3, .int .i64 (v - 16), .int .i64 0]) /\ Below w.heap.size w w' := by
 obtain ⟨y, hy⟩ : ∃ y, lC t p s = y := ⟨_, rfl⟩
 obtain ⟨u, hu⟩ : ∃ u, lW t p s = u := ⟨_, rfl⟩
 have hb := lay_bounds t p s
 have hw := words_bounds t p s
 rw [hy] at hb
 rw [hu] at hw
 have y0 : 0 <= y := by omega
 have y1 : y <= 6238 := by omega
 have u0 : 0 <= u := by omega
 have u1 : u <= 8296 := by omega
 have HY := hidp hy
 have HU := hidp hu
 rw [hu] at h1
 rw [hy] at h3
 have n8 : (v == 8) = false := by simp; omega
 clear hb hw hy hu
 have z0 := Held.new2 w (.cells #[.int .i64 t, .int .i64 p, .int .i64 s] 23) 50 #[.int .i64 0, .int .i64 0, .int .i64 0]
 have c0 := (Held.new w 23 #[.int .i64 t, .int .i64 p, .int .i64 s]).alloc (.cells #[.int .i64 0, .int .i64 0, .int .i64 0] 50)
 go_enter Try.func18, Try.ntmps18
 go_wp2_with fail
 refine (r7Words_c t p s _).mono ?_
 rintro e w1 ⟨rfl, hb1⟩
 rw [HU.out]
 have z1 := z0.keep hb1
 have c1 := c0.keep hb1
 clear z0 c0
 obtain ⟨y0, y1, y2⟩ := c1.three
 go_wp2_with fail
 refine (r7Cells_c t p s _).mono ?_
 rintro e w2 ⟨rfl, hb2⟩
 rw [HY.out]
 have z2 := z1.keep hb2
 have c2 := c1.keep hb2
 clear z1 c1 y0 y1 y2
 obtain ⟨y0, y1, y2⟩ := c2.three
 obtain ⟨x0, x1, x2⟩ := z2.three
 have f0 := z2.thawed 0
 have f1 := z2.thawed 1
 have f2 := z2.thawed 2
 go_wp2
 obtain ⟨r0, r1, r2⟩ := (((z2.put 0 (.int .i64 3)).put 1 (.int .i64 (v - 16))).put 2 (.int .i64 0)).three
 refine bodyPost_ret (v := .agg #[.int .i64 3, .int .i64 (v - 16), .int .i64 0]) (by simp [results, Try.results18, go_sem, r0, r1, r2]) rfl ⟨rfl, ?_⟩
 exact Bput (Bput (Bput (Bgo (Bgo (Bnew (Bnew (B0 _) _) _) hb1) hb2) (Nat.le_succ _) _) (Nat.le_succ _) _) (Nat.le_succ _) _

theorem mat_more {M v : Int} {k : Nat} (h : ∀ j : Int, 0 <= j -> j < (k : Int) -> ¬ ((0 <= v - (M + j * 120) /\ v - (M + j * 120) < 17) \/ (24 <= v - (M + j * 120) /\ v - (M + j * 120) < 120)))
  (h' : ¬ ((0 <= v - (M + (k : Int) * 120) /\ v - (M + (k : Int) * 120) < 17) \/ (24 <= v - (M + (k : Int) * 120) /\ v - (M + (k : Int) * 120) < 120))) :
  ∀ j : Int, 0 <= j -> j < ((k + 1 : Nat) : Int) -> ¬ ((0 <= v - (M + j * 120) /\ v - (M + j * 120) < 17) \/ (24 <= v - (M + j * 120) /\ v - (M + j * 120) < 120)) := by
 intro j h0 h1
 by_cases hj : j < (k : Int)
 ·exact h j h0 hj
 ·obtain rfl : j = (k : Int) := by omega
  exact h'

set_option maxHeartbeats 1600000 in
theorem r7At_rest1 (t p s v : Int) (k a b : Int) (hr : rightB t p s = true) (h : 9 <= v) (h1 : v < lW t p s) (h3 : v < 16) (he : atT t p s v = (k, a, b)) (w : World) :
  Calls Try.prog 18 #[.agg #[.int .i64 t, .int .i64 p, .int .i64 s], .int .i64 v] w fun z w' => z = .returned (.agg #[.int .i64 k, .int .i64 a, .int .i64 b]) /\ Below w.heap.size w w' := by
 obtain ⟨y, hy⟩ : ∃ y, lC t p s = y := ⟨_, rfl⟩
 obtain ⟨u, hu⟩ : ∃ u, lW t p s = u := ⟨_, rfl⟩
 have hb := lay_bounds t p s
 have hw := words_bounds t p s
 rw [hy] at hb
 rw [hu] at hw
 have y0 : 0 <= y := by omega
 have y1 : y <= 6238 := by omega
 have u0 : 0 <= u := by omega
 have u1 : u <= 8296 := by omega
 have HY := hidp hy
 have HU := hidp hu
 rw [hu] at h1
 have HR := hidp hr
 have HE := hidp he
 have HG := hidp (show ¬ (16 <= v /\ v - 16 < lC t p s) by omega)
 have hn := (rightB_iff t p s).1 hr
 have t0 : 1 <= t := by omega
 have t1 : t <= 16 := by omega
 have n8 : (v == 8) = false := by simp; omega
 clear hr he hn
 clear hb hw hy hu
 have z0 := Held.new2 w (.cells #[.int .i64 t, .int .i64 p, .int .i64 s] 23) 50 #[.int .i64 0, .int .i64 0, .int .i64 0]
 have c0 := (Held.new w 23 #[.int .i64 t, .int .i64 p, .int .i64 s]).alloc (.cells #[.int .i64 0, .int .i64 0, .int .i64 0] 50)
 go_enter Try.func18, Try.ntmps18
 go_wp2_with fail
 refine (r7Words_c t p s _).mono ?_
 rintro e w1 ⟨rfl, hb1⟩
 rw [HU.out]
 have z1 := z0.keep hb1
 have c1 := c0.keep hb1
 clear z0 c0
 obtain ⟨y0, y1, y2⟩ := c1.three
 have HB := hidp (show Below w.heap.size w w1 from Bgo (Bnew (Bnew (B0 _) _) _) hb1)
 have HZ := hidp z1
 have HCC := hidp c1
 clear z1 c1 y0 y1 y2 hb1
 go_wp2
 go_loopw [5] (fun i wr => ∃ k : Nat, (k : Int) <= t + 1 /\ i = .int .i64 k /\ (∀ j : Int, 0 <= j -> j < (k : Int) -> ¬ ((0 <= v - (lM t p s + j * 120) /\ v - (lM t p s + j * 120) < 17) \/ (24 <= v - (lM t p s + j * 120) /\ v - (lM t p s + j * 120) < 120))) /\ Below w1.heap.size w1 wr) (fun i _ => 18 - (intOf i).toNat)
 case atStart => exact ⟨0, by omega, rfl, fun j hj hj' => absurd hj' (by omega), Below.refl _ _⟩
 case round =>
  obtain ⟨j, j1, rfl, hno, hbr⟩ := hrel
  have HNO := hidp hno
  clear hno
  have zr := HZ.out.keep hbr
  have cr := HCC.out.keep hbr
  obtain ⟨x0, x1, x2⟩ := cr.three
  by_cases hlt : (j : Int) <= t
  ·obtain ⟨m, hm⟩ : ∃ m, nthI (lM t p s) (lK t p s) 120 j = m := ⟨_, rfl⟩
   have hm1 := (maker_yes HR.out (show (0 : Int) <= j by omega) hlt).symm.trans hm
   have hbd := lay_bounds t p s
   have m0 : 0 <= m := by omega
   have m1 : m <= 8296 := by omega
   obtain ⟨i, hi⟩ : ∃ i, v - m = i := ⟨_, rfl⟩
   have i0 : -9000 <= i := by omega
   have i1 : i <= 9000 := by omega
   have HM := hidp hm
   have HI := hidp (show v - (lM t p s + (j : Int) * 120) = i by rw [hm1]; exact hi)
   clear hm hm1 hbd
   go_wp2_with fail
   refine (r7Maker_c t p s j _).mono ?_
   rintro e w3 ⟨rfl, hb3⟩
   rw [HM.out]
   have z3 := zr.keep hb3
   have c3 := cr.keep hb3
   have HB3 := hidp (Bgo (Bgo HB.out hbr) hb3)
   have HB4 := hidp (Bgo hbr hb3)
   clear zr cr x0 x1 x2 hbr hb3
   obtain ⟨x0, x1, x2⟩ := c3.three
   obtain ⟨v0, v1, v2⟩ := z3.three
   have f0 := z3.thawed 0
   have f1 := z3.thawed 1
   have f2 := z3.thawed 2
   by_cases d0 : i < 0
   ·have n16 : (i == 16) = false := by simp; omega
    go_wp2
    go_roundw
    case rel => exact ⟨j + 1, by omega, by go_num, mat_more HNO.out (by rw [HI.out]; omega), HB4.out⟩
    case measure => simp [intOf]; omega
   ·by_cases d1 : i < 16
    ·have hk := at_of HR.out (by omega) hlt (by omega) (by omega) HI.out
     rw [HE.out, part_call (by omega)] at hk
     simp only [Prod.mk.injEq] at hk
     obtain ⟨rfl, rfl, rfl⟩ := hk
     go_wp2
     obtain ⟨r0, r1, r2⟩ := (((z3.put 0 (.int .i64 4)).put 1 (.int .i64 (j : Int))).put 2 (.int .i64 b)).three
     refine bodyPost_ret (v := .agg #[.int .i64 4, .int .i64 (j : Int), .int .i64 b]) (by simp [results, Try.results18, go_sem, r0, r1, r2]) rfl ⟨rfl, ?_⟩
     exact Bput (Bput (Bput (HB3.out) (Nat.le_succ _) _) (Nat.le_succ _) _) (Nat.le_succ _) _
    ·exfalso; omega
  ·have hk := at_none HR.out (by omega) (by rw [HU.out]; omega) HG.out (fun j' h0 h1 => HNO.out j' h0 (by omega))
   rw [HE.out] at hk
   simp only [Prod.mk.injEq] at hk
   obtain ⟨rfl, rfl, rfl⟩ := hk
   obtain ⟨v0, v1, v2⟩ := zr.three
   have f0 := zr.thawed 0
   have f1 := zr.thawed 1
   have f2 := zr.thawed 2
   go_wp2
   obtain ⟨r0, r1, r2⟩ := (((zr.put 0 (.int .i64 0)).put 1 (.int .i64 0)).put 2 (.int .i64 0)).three
   refine bodyPost_ret (v := .agg #[.int .i64 0, .int .i64 0, .int .i64 0]) (by simp [results, Try.results18, go_sem, r0, r1, r2]) rfl ⟨rfl, ?_⟩
   exact Bput (Bput (Bput (Bgo HB.out hbr) (Nat.le_succ _) _) (Nat.le_succ _) _) (Nat.le_succ _) _

set_option maxHeartbeats 1600000 in
theorem r7At_rest2 (t p s v : Int) (k a b : Int) (hr : rightB t p s = true) (h : 16 <= v) (h1 : v < lW t p s) (h3 : lC t p s <= v - 16) (he : atT t p s v = (k, a, b)) (w : World) :
  Calls Try.prog 18 #[.agg #[.int .i64 t, .int .i64 p, .int .i64 s], .int .i64 v] w fun z w' => z = .returned (.agg #[.int .i64 k, .int .i64 a, .int .i64 b]) /\ Below w.heap.size w w' := by
 obtain ⟨y, hy⟩ : ∃ y, lC t p s = y := ⟨_, rfl⟩
 obtain ⟨u, hu⟩ : ∃ u, lW t p s = u := ⟨_, rfl⟩
 have hb := lay_bounds t p s
 have hw := words_bounds t p s
 rw [hy] at hb
 rw [hu] at hw
 have y0 : 0 <= y := by omega
 have y1 : y <= 6238 := by omega
 have u0 : 0 <= u := by omega
 have u1 : u <= 8296 := by omega
 have HY := hidp hy
 have HU := hidp hu
 rw [hu] at h1
 have HR := hidp hr
 have HE := hidp he
 have HG := hidp (show ¬ (16 <= v /\ v - 16 < lC t p s) by omega)
 rw [hy] at h3
 have hn := (rightB_iff t p s).1 hr
 have t0 : 1 <= t := by omega
 have t1 : t <= 16 := by omega
 have n8 : (v == 8) = false := by simp; omega
 clear hr he hn
 clear hb hw hy hu
 have z0 := Held.new2 w (.cells #[.int .i64 t, .int .i64 p, .int .i64 s] 23) 50 #[.int .i64 0, .int .i64 0, .int .i64 0]
 have c0 := (Held.new w 23 #[.int .i64 t, .int .i64 p, .int .i64 s]).alloc (.cells #[.int .i64 0, .int .i64 0, .int .i64 0] 50)
 go_enter Try.func18, Try.ntmps18
 go_wp2_with fail
 refine (r7Words_c t p s _).mono ?_
 rintro e w1 ⟨rfl, hb1⟩
 rw [HU.out]
 have z1 := z0.keep hb1
 have c1 := c0.keep hb1
 clear z0 c0
 obtain ⟨y0, y1, y2⟩ := c1.three
 go_wp2_with fail
 refine (r7Cells_c t p s _).mono ?_
 rintro e w2 ⟨rfl, hb2⟩
 rw [HY.out]
 have z2 := z1.keep hb2
 have c2 := c1.keep hb2
 clear z1 c1 y0 y1 y2
 obtain ⟨y0, y1, y2⟩ := c2.three
 have HB := hidp (show Below w.heap.size w w2 from Bgo (Bgo (Bnew (Bnew (B0 _) _) _) hb1) hb2)
 have HZ := hidp z2
 have HCC := hidp c2
 clear z2 c2 y0 y1 y2 hb1 hb2
 go_wp2
 go_loopw [5] (fun i wr => ∃ k : Nat, (k : Int) <= t + 1 /\ i = .int .i64 k /\ (∀ j : Int, 0 <= j -> j < (k : Int) -> ¬ ((0 <= v - (lM t p s + j * 120) /\ v - (lM t p s + j * 120) < 17) \/ (24 <= v - (lM t p s + j * 120) /\ v - (lM t p s + j * 120) < 120))) /\ Below w2.heap.size w2 wr) (fun i _ => 18 - (intOf i).toNat)
 case atStart => exact ⟨0, by omega, rfl, fun j hj hj' => absurd hj' (by omega), Below.refl _ _⟩
 case round =>
  obtain ⟨j, j1, rfl, hno, hbr⟩ := hrel
  have HNO := hidp hno
  clear hno
  have zr := HZ.out.keep hbr
  have cr := HCC.out.keep hbr
  obtain ⟨x0, x1, x2⟩ := cr.three
  by_cases hlt : (j : Int) <= t
  ·obtain ⟨m, hm⟩ : ∃ m, nthI (lM t p s) (lK t p s) 120 j = m := ⟨_, rfl⟩
   have hm1 := (maker_yes HR.out (show (0 : Int) <= j by omega) hlt).symm.trans hm
   have hbd := lay_bounds t p s
   have m0 : 0 <= m := by omega
   have m1 : m <= 8296 := by omega
   obtain ⟨i, hi⟩ : ∃ i, v - m = i := ⟨_, rfl⟩
   have i0 : -9000 <= i := by omega
   have i1 : i <= 9000 := by omega
   have HM := hidp hm
   have HI := hidp (show v - (lM t p s + (j : Int) * 120) = i by rw [hm1]; exact hi)
   clear hm hm1 hbd
   go_wp2_with fail
   refine (r7Maker_c t p s j _).mono ?_
   rintro e w3 ⟨rfl, hb3⟩
   rw [HM.out]
   have z3 := zr.keep hb3
   have c3 := cr.keep hb3
   have HB3 := hidp (Bgo (Bgo HB.out hbr) hb3)
   have HB4 := hidp (Bgo hbr hb3)
   clear zr cr x0 x1 x2 hbr hb3
   obtain ⟨x0, x1, x2⟩ := c3.three
   obtain ⟨v0, v1, v2⟩ := z3.three
   have f0 := z3.thawed 0
   have f1 := z3.thawed 1
   have f2 := z3.thawed 2
   by_cases d0 : i < 0
   ·have n16 : (i == 16) = false := by simp; omega
    go_wp2
    go_roundw
    case rel => exact ⟨j + 1, by omega, by go_num, mat_more HNO.out (by rw [HI.out]; omega), HB4.out⟩
    case measure => simp [intOf]; omega
   ·by_cases d1 : i < 16
    ·have hk := at_of HR.out (by omega) hlt (by omega) (by omega) HI.out
     rw [HE.out, part_call (by omega)] at hk
     simp only [Prod.mk.injEq] at hk
     obtain ⟨rfl, rfl, rfl⟩ := hk
     go_wp2
     obtain ⟨r0, r1, r2⟩ := (((z3.put 0 (.int .i64 4)).put 1 (.int .i64 (j : Int))).put 2 (.int .i64 b)).three
     refine bodyPost_ret (v := .agg #[.int .i64 4, .int .i64 (j : Int), .int .i64 b]) (by simp [results, Try.results18, go_sem, r0, r1, r2]) rfl ⟨rfl, ?_⟩
     exact Bput (Bput (Bput (HB3.out) (Nat.le_succ _) _) (Nat.le_succ _) _) (Nat.le_succ _) _
    ·by_cases d2 : i = 16
     ·have hk := at_of HR.out (by omega) hlt (by omega) (by omega) HI.out
      rw [HE.out, d2, part_note] at hk
      simp only [Prod.mk.injEq] at hk
      obtain ⟨rfl, rfl, rfl⟩ := hk
      have n16 : (i == 16) = true := by simpa using d2
      clear d2
      go_wp2
      obtain ⟨r0, r1, r2⟩ := (((z3.put 0 (.int .i64 5)).put 1 (.int .i64 (j : Int))).put 2 (.int .i64 0)).three
      refine bodyPost_ret (v := .agg #[.int .i64 5, .int .i64 (j : Int), .int .i64 0]) (by simp [results, Try.results18, go_sem, r0, r1, r2]) rfl ⟨rfl, ?_⟩
      exact Bput (Bput (Bput (HB3.out) (Nat.le_succ _) _) (Nat.le_succ _) _) (Nat.le_succ _) _
     ·have n16 : (i == 16) = false := by simpa using d2
      by_cases d3 : i < 24
      ·go_wp2
       go_roundw
       case rel => exact ⟨j + 1, by omega, by go_num, mat_more HNO.out (by rw [HI.out]; omega), HB4.out⟩
       case measure => simp [intOf]; omega
      ·by_cases d4 : i < 120
       ·have hk := at_of HR.out (by omega) hlt (by omega) (by omega) HI.out
        rw [HE.out, part_log (by omega)] at hk
        simp only [Prod.mk.injEq] at hk
        obtain ⟨rfl, rfl, rfl⟩ := hk
        go_wp2
        obtain ⟨r0, r1, r2⟩ := (((z3.put 0 (.int .i64 6)).put 1 (.int .i64 (j : Int))).put 2 (.int .i64 (i - 24))).three
        refine bodyPost_ret (v := .agg #[.int .i64 6, .int .i64 (j : Int), .int .i64 (i - 24)]) (by simp [results, Try.results18, go_sem, r0, r1, r2]) rfl ⟨rfl, ?_⟩
        exact Bput (Bput (Bput (HB3.out) (Nat.le_succ _) _) (Nat.le_succ _) _) (Nat.le_succ _) _
       ·go_wp2
        go_roundw
        case rel => exact ⟨j + 1, by omega, by go_num, mat_more HNO.out (by rw [HI.out]; omega), HB4.out⟩
        case measure => simp [intOf]; omega
  ·have hk := at_none HR.out (by omega) (by rw [HU.out]; omega) HG.out (fun j' h0 h1 => HNO.out j' h0 (by omega))
   rw [HE.out] at hk
   simp only [Prod.mk.injEq] at hk
   obtain ⟨rfl, rfl, rfl⟩ := hk
   obtain ⟨v0, v1, v2⟩ := zr.three
   have f0 := zr.thawed 0
   have f1 := zr.thawed 1
   have f2 := zr.thawed 2
   go_wp2
   obtain ⟨r0, r1, r2⟩ := (((zr.put 0 (.int .i64 0)).put 1 (.int .i64 0)).put 2 (.int .i64 0)).three
   refine bodyPost_ret (v := .agg #[.int .i64 0, .int .i64 0, .int .i64 0]) (by simp [results, Try.results18, go_sem, r0, r1, r2]) rfl ⟨rfl, ?_⟩
   exact Bput (Bput (Bput (Bgo HB.out hbr) (Nat.le_succ _) _) (Nat.le_succ _) _) (Nat.le_succ _) _

theorem r7At_c (t p s v k a b : Int) (h : atT t p s v = (k, a, b)) (w : World) :
  Calls Try.prog 18 #[.agg #[.int .i64 t, .int .i64 p, .int .i64 s], .int .i64 v] w fun z w' => z = .returned (.agg #[.int .i64 k, .int .i64 a, .int .i64 b]) /\ Below w.heap.size w w' := by
 by_cases c0 : v < 0
 ·rw [place_out (.inl c0)] at h
  simp only [Prod.mk.injEq] at h
  obtain ⟨rfl, rfl, rfl⟩ := h
  exact r7At_low t p s v c0 w
 ·by_cases c1 : lW t p s <= v
  ·rw [place_out (.inr c1)] at h
   simp only [Prod.mk.injEq] at h
   obtain ⟨rfl, rfl, rfl⟩ := h
   exact r7At_out t p s v (by omega) c1 w
  ·have hr := words_right (w := v) (t := t) (p := p) (s := s) (by omega) (by omega)
   have hf := first_far hr
   by_cases c2 : v < 8
   ·rw [at_head (by omega) (by omega) c2] at h
    simp only [Prod.mk.injEq] at h
    obtain ⟨rfl, rfl, rfl⟩ := h
    exact r7At_head t p s v (by omega) (by omega) c2 w
   ·by_cases c3 : v = 8
    ·rw [c3, at_tip (by omega)] at h
     simp only [Prod.mk.injEq] at h
     obtain ⟨rfl, rfl, rfl⟩ := h
     exact r7At_tip t p s v (by omega) c3 w
    ·by_cases c5 : v < 16
     ·exact r7At_rest1 t p s v k a b hr (by omega) (by omega) c5 h w
     ·by_cases c6 : v - 16 < lC t p s
      ·rw [at_cell (by omega) c6] at h
       simp only [Prod.mk.injEq] at h
       obtain ⟨rfl, rfl, rfl⟩ := h
       exact r7At_cell t p s v (by omega) (by omega) c6 w
      ·exact r7At_rest2 t p s v k a b hr (by omega) (by omega) (by omega) h w
end
end Go.Proofs.Ytmjkljdnioochaa

namespace Go.Proofs.Ytmjkljdnioochaa
open Go.ChangeShapes Go.WideShapes Go.ChangeAt Go.RowKit Go.Maps
set_option linter.unusedVariables false
set_option linter.unusedSimpArgs false
set_option maxRecDepth 100000
section
theorem once_kind {t p s i : Nat} (hr : rightB (t : Int) (p : Int) (s : Int) = true) (hi : i < rdW t p) (hc : ¬ (16 <= i /\ i < 16 + rdN t p)) :
  ∃ k a b : Int, atT (t : Int) (p : Int) (s : Int) (i : Int) = (k, a, b) /\ k ≠ 3 /\ (k ≠ 5 -> ∀ u, u <= t -> i ≠ rdT t p u) := by
 by_cases h : ∃ u, u <= t /\ i = rdT t p u
 ·obtain ⟨u, hu, e⟩ := h
  have hM := rdM_eq hr
  have h1 := at_of (k := (u : Int)) (i := 16) (w := (i : Int)) hr (by omega) (by omega) (by omega) (by omega) (by rw [hM, e]; unfold rdT; omega)
  exact ⟨5, u, 0, h1, by decide, fun h => absurd rfl h⟩
 ·refine ⟨(atT (t : Int) (p : Int) (s : Int) (i : Int)).1, _, _, rfl, ?_, fun _ u hu e => h ⟨u, hu, e⟩⟩
  have hC := rdN_eq hr
  unfold atT
  split
  ·show (0 : Int) ≠ 3; decide
  ·split
   ·show (1 : Int) ≠ 3; decide
   ·split
    ·show (2 : Int) ≠ 3; decide
    ·split
     ·unfold partT
      split
      ·show (4 : Int) ≠ 3; decide
      ·split
       ·show (5 : Int) ≠ 3; decide
       ·split
        ·show (6 : Int) ≠ 3; decide
        ·show (0 : Int) ≠ 3; decide
     ·split
      ·rename_i h5
       exact absurd ⟨by omega, by omega⟩ hc
      ·show (0 : Int) ≠ 3; decide
theorem RedoOnce_many (t p s : Int) (A : Option Addr) (m c : Nat) (h : 3000 < m) (W : World) : Calls Try.prog 5 #[.agg #[.int .i64 t, .int .i64 p, .int .i64 s], .slice A m c] W (Keeps W) := by
 have q1 : decide ((3000 : Int) < (m : Int)) = true := decide_eq_true (by omega)
 have q1n : decide (3000 < m) = true := decide_eq_true h
 have HC := hidp (Held.new W 23 #[.int .i64 t, .int .i64 p, .int .i64 s])
 have HB := hidp (Bnew (B0 W) (.cells #[.int .i64 t, .int .i64 p, .int .i64 s] 23))
 obtain ⟨x0, x1, x2⟩ := HC.out.three
 go_enter Try.func5, Try.ntmps5
 go_wp2_with fail
 refine (live27_c _).mono ?_
 rintro e w19 ⟨rfl, hb⟩
 replace HB := hidp (Bgo HB.out hb)
 clear hb
 go_wp2
 go_ret
 exact ⟨rfl, HB.out⟩
set_option maxHeartbeats 3200000 in
theorem RedoOnce_none (t p s : Int) (A : Option Addr) (m c n : Nat) (f : Nat -> Nat) (h : m <= 3000) (W : World)
  (HS : Hid (∀ w, WV w A m c f -> Calls Try.prog 14 #[.agg #[.int .i64 t, .int .i64 p, .int .i64 s], .slice A m c] w fun e w' => outV none n e w' /\ Below w.heap.size w w'))
  (HT : Hid (∀ w, WV w A m c f -> Calls Try.prog 15 #[.agg #[.int .i64 t, .int .i64 p, .int .i64 s], .slice A m c] w fun e w' => outW none m e w' /\ Below w.heap.size w w'))
  (hW : WV W A m c f) : Calls Try.prog 5 #[.agg #[.int .i64 t, .int .i64 p, .int .i64 s], .slice A m c] W (Keeps W) := by
 have q1 : decide ((3000 : Int) < (m : Int)) = false := decide_eq_false (by omega)
 have q1n : decide (3000 < m) = false := decide_eq_false (by omega)
 have HW := hidp (hW.below (Bnew (B0 W) (.cells #[.int .i64 t, .int .i64 p, .int .i64 s] 23)))
 clear hW
 have HC := hidp (Held.new W 23 #[.int .i64 t, .int .i64 p, .int .i64 s])
 have HB := hidp (Bnew (B0 W) (.cells #[.int .i64 t, .int .i64 p, .int .i64 s] 23))
 obtain ⟨x0, x1, x2⟩ := HC.out.three
 go_enter Try.func5, Try.ntmps5
 go_wp2_with fail
 refine (HS.out _ HW.out).mono ?_
 rintro e w1 ⟨⟨A3, c3, rfl⟩, hb⟩
 replace HC := hidp (HC.out.keep hb)
 replace HW := hidp (HW.out.below hb)
 replace HB := hidp (Bgo HB.out hb)
 clear hb
 clear x0 x1 x2
 obtain ⟨x0, x1, x2⟩ := HC.out.three
 go_wp2_with fail
 refine (HT.out _ HW.out).mono ?_
 rintro e w2 ⟨⟨A4, c4, rfl⟩, hb⟩
 replace HC := hidp (HC.out.keep hb)
 replace HW := hidp (HW.out.below hb)
 replace HB := hidp (Bgo HB.out hb)
 clear hb
 clear x0 x1 x2
 obtain ⟨x0, x1, x2⟩ := HC.out.three
 go_wp2_with fail
 refine (live27_c _).mono ?_
 rintro e w19 ⟨rfl, hb⟩
 replace HB := hidp (Bgo HB.out hb)
 clear hb
 go_wp2
 go_ret
 exact ⟨rfl, HB.out⟩
set_option maxHeartbeats 6400000 in
theorem RedoOnce_some (t p s n : Nat) (A : Option Addr) (m c : Nat) (f x : Nat -> Nat) (hm : m <= 3000) (hm0 : 0 < m) (hnm : 16 + n <= m) (hn : rdN t p = n) (hmw : m = rdW t p) (hr : rightB (t : Int) (p : Int) (s : Int) = true) (HXX : Hid (tidyR t p f = some x)) (HF64 : Hid (∀ i, f i < 2 ^ 64)) (W : World)
  (HS2 : Hid (∀ (w : World) {A : Option Addr} {c : Nat} (h : Nat -> Nat), tidyR t p h = some x -> WV w A m c h -> Calls Try.prog 14 #[.agg #[.int .i64 (t : Int), .int .i64 (p : Int), .int .i64 (s : Int)], .slice A m c] w fun e w' => outV (some x) n e w' /\ Below w.heap.size w w'))
  (HT2 : Hid (∀ (w : World) {A : Option Addr} {c : Nat} (h : Nat -> Nat), tidyR t p h = some x -> WV w A m c h -> Calls Try.prog 15 #[.agg #[.int .i64 (t : Int), .int .i64 (p : Int), .int .i64 (s : Int)], .slice A m c] w fun e w' => outW (some x) m e w' /\ Below w.heap.size w w'))
  (hW : WV W A m c f) : Calls Try.prog 5 #[.agg #[.int .i64 (t : Int), .int .i64 (p : Int), .int .i64 (s : Int)], .slice A m c] W (Keeps W) := by
 have q1 : decide ((3000 : Int) < (m : Int)) = false := decide_eq_false (by omega)
 have q1n : decide (3000 < m) = false := decide_eq_false (by omega)
 have HX64 : Hid (∀ i, x i < 2 ^ 64) := hidp (tidyR_lt HXX.out HF64.out)
 have HK : Hid (∀ i, i < m -> ¬ (16 <= i /\ i < 16 + n) -> ∃ k a b : Int, atT (t : Int) (p : Int) (s : Int) (i : Int) = (k, a, b) /\ k ≠ 3 /\ (k = 5 \/ x i = f i)) := hidp (fun i hi hc => by
  obtain ⟨k, a, b, h1, h2, h3⟩ := once_kind (i := i) hr (by omega) (by omega)
  refine ⟨k, a, b, h1, h2, ?_⟩
  by_cases e : k = 5
  ·exact .inl e
  ·exact .inr (tidyR_out HXX.out (by omega) (h3 e)))
 have HK3 : Hid (∀ i, 16 <= i -> i < 16 + n -> atT (t : Int) (p : Int) (s : Int) (i : Int) = (3, (i : Int) - 16, 0)) := hidp (fun i h1 h2 => at_cell (by omega) (by rw [rdN_eq hr, hn]; omega))
 have hfd : ∀ (x y z : Value) (w : World), (Instr.field 50 (.agg #[x, y, z]) 0).run Try.prog w = .ok x w := fun _ _ _ _ => by kernel_rfl
 have hcc : c <= 9223372036854775807 := hW.max
 have hmc : m <= c := hW.le
 have HW := hidp (hW.below (Bnew (B0 W) (.cells #[.int .i64 (t : Int), .int .i64 (p : Int), .int .i64 (s : Int)] 23)))
 clear hW hn hmw hr
 have HC := hidp (Held.new W 23 #[.int .i64 (t : Int), .int .i64 (p : Int), .int .i64 (s : Int)])
 have HB := hidp (Bnew (B0 W) (.cells #[.int .i64 (t : Int), .int .i64 (p : Int), .int .i64 (s : Int)] 23))
 obtain ⟨x0, x1, x2⟩ := HC.out.three
 go_enter Try.func5, Try.ntmps5
 go_wp2_with fail
 refine (HS2.out _ f HXX.out HW.out).mono ?_
 rintro e w1 ⟨⟨A3, c3, rfl, hsv⟩, hb⟩
 have HV1 := hidp hsv
 replace HC := hidp (HC.out.keep hb)
 replace HW := hidp (HW.out.below hb)
 replace HB := hidp (Bgo HB.out hb)
 clear hb hsv
 clear x0 x1 x2
 obtain ⟨x0, x1, x2⟩ := HC.out.three
 go_wp2_with fail
 refine (HT2.out _ f HXX.out HW.out).mono ?_
 rintro e w2 ⟨⟨A4, c4, rfl, hwv⟩, hb⟩
 have HX1 := hidp hwv
 replace HC := hidp (HC.out.keep hb)
 replace HW := hidp (HW.out.below hb)
 replace HV1 := hidp (HV1.out.below hb)
 replace HB := hidp (Bgo HB.out hb)
 clear hb hwv x0 x1 x2
 have h3c := HV1.out.le
 have h3m : c3 <= 9223372036854775807 := HV1.out.max
 have h4c := HX1.out.le
 have h4m : c4 <= 9223372036854775807 := HX1.out.max
 go_wp2_with fail
 go_loopw [9, 10] (fun u9 _ wr => ∃ j : Nat, j <= m /\ u9 = .int .i64 (j : Int) /\ Hid (Held wr W.heap.size 23 #[.int .i64 (t : Int), .int .i64 (p : Int), .int .i64 (s : Int)]) /\ Hid (SV wr A3 n c3 (valR x)) /\ Hid (WV wr A4 m c4 x) /\ Hid (WV wr A m c f) /\ Hid (Below W.heap.size W wr)) (fun u9 _ _ => m - (intOf u9).toNat)
 case atStart => exact ⟨0, by omega, rfl, HC, HV1, HX1, HW, HB⟩
 case round =>
  clear HC HV1 HX1 HW HB
  obtain ⟨j, hj, rfl, HC, HV1, HX1, HW, HB⟩ := hrel
  obtain ⟨x0, x1, x2⟩ := HC.out.three
  by_cases hlt : j < m
  ·have t1 : decide ((j : Int) < (m : Int)) = true := decide_eq_true (by omega)
   have t1n : decide (j < m) = true := decide_eq_true hlt
   have i3 : (j : Int) < (m : Int) := by omega
   by_cases hcl : 16 <= j /\ j < 16 + n
   ·have HAT := hidp (HK3.out j hcl.1 hcl.2)
    obtain ⟨q, hq⟩ : ∃ q, j = 16 + q := ⟨j - 16, by omega⟩
    obtain ⟨y, hy⟩ : ∃ y, x j = y := ⟨_, rfl⟩
    have HY64 : Hid (y < 2 ^ 64) := hidp (by rw [<- hy]; exact HX64.out j)
    have HY := hidp hy
    have HQ := hidp hq
    have i1 : IntKind.i64.wrap ((j : Int) - 16) = (q : Int) := by rw [i64_same (by omega) (by omega)]; omega
    have i4 : (q : Int) < (n : Int) := by omega
    have hqn : q < n := by omega
    clear hy hq
    go_wp2_with fail
    refine (r7At_c t p s j 3 ((j : Int) - 16) 0 HAT.out _).mono ?_
    rintro e w3 ⟨rfl, hb⟩
    replace HC := hidp (HC.out.keep hb)
    replace HW := hidp (HW.out.below hb)
    replace HV1 := hidp (HV1.out.below hb)
    replace HX1 := hidp (HX1.out.below hb)
    replace HB := hidp (Bgo HB.out hb)
    clear hb
    clear x0 x1 x2
    obtain ⟨x0, x1, x2⟩ := HC.out.three
    go_wp2_with fail
    have hb := Bdrew (B0 w3)
    replace HC := hidp (HC.out.keep hb)
    replace HW := hidp (HW.out.below hb)
    replace HV1 := hidp (HV1.out.below hb)
    replace HX1 := hidp (HX1.out.below hb)
    replace HB := hidp (Bgo HB.out hb)
    clear hb x0 x1 x2
    obtain ⟨ax, hax, _, cx⟩ := HX1.out.cell j hlt
    rw [HY.out] at cx
    obtain ⟨av, hav, _, ca⟩ := HV1.out.cell (i := q) hqn
    rw [show valR x q = y % 4294967296 by unfold valR; rw [<- HQ.out, HY.out]] at ca
    subst hax hav
    refine wp_region_held_drew (S := (fun w' => w'.cell? (ax.add j) = some (.int .u64 (y : Int)) /\ w'.cell? (av.add q) = some (.int .u32 ((y % 4294967296 : Nat) : Int)))) (by kernel_rfl) ?_ (fun hHeld => ?_)
    ·(try dsimp only)
     first | exact hHeld | exact ⟨cx, ca⟩
    refine tkz 0 ?_
    refine tkz 1 ?_
    refine tkz 2 ?_
    refine tkz 3 ?_
    refine tkz 4 ?_
    refine tkz 5 ?_
    refine tkz 6 ?_
    refine tkz 8 ?_
    refine tkz 9 ?_
    refine tkz 10 ?_
    refine tkz 11 ?_
    refine tkz 12 ?_
    refine rdz 7 fun K hK => ?_
    go_simp
    refine (RLo_c y HY64.out _).mono ?_
    rintro e w4 ⟨rfl, rfl⟩
    refine hK.out _ _ ?_ (fun hHeld => ?_)
    ·(try dsimp only)
     first | exact hHeld | exact ⟨cx, ca⟩
    clear hK K
    (try simp only [Act.put, gA, gB, gC, sA, sB, sC])
    refine tkz 13 ?_
    refine tkz 14 ?_
    refine tkz 15 ?_
    refine tkz 16 ?_
    refine tkz 17 ?_
    refine tkz 18 ?_
    refine skz 19 ?_
    refine skz 20 ?_
    refine tkz 21 ?_
    refine tkz 22 ?_
    refine skz 23 ?_
    refine skz 24 ?_
    refine skz 25 ?_
    refine skz 26 ?_
    refine skz 27 ?_
    refine skz 28 ?_
    refine skz 29 ?_
    refine skz 30 ?_
    refine skz 31 ?_
    refine tkz 32 ?_
    refine tkz 33 ?_
    refine dnz ?_
    go_wp2
    go_roundw
    case rel => exact ⟨j + 1, by omega, by go_num, HC, HV1, HX1, HW, HB⟩
    case measure => simp [intOf]; omega
   ·obtain ⟨k, a, b, hat, hk3, hk⟩ := HK.out j hlt hcl
    have HAT := hidp hat
    have t2 : ((k == 3) : Bool) = false := by simpa using hk3
    have t3 : ((k != 3) : Bool) = true := by simpa using hk3
    clear hat
    by_cases h5 : k = 5
    ·subst h5
     clear hk
     go_wp2_with fail
     refine (r7At_c t p s j 5 a b HAT.out _).mono ?_
     rintro e w3 ⟨rfl, hb⟩
     replace HC := hidp (HC.out.keep hb)
     replace HW := hidp (HW.out.below hb)
     replace HV1 := hidp (HV1.out.below hb)
     replace HX1 := hidp (HX1.out.below hb)
     replace HB := hidp (Bgo HB.out hb)
     clear hb
     clear x0 x1 x2
     obtain ⟨x0, x1, x2⟩ := HC.out.three
     go_wp2_with fail
     have hb := Bdrew (B0 w3)
     replace HC := hidp (HC.out.keep hb)
     replace HW := hidp (HW.out.below hb)
     replace HV1 := hidp (HV1.out.below hb)
     replace HX1 := hidp (HX1.out.below hb)
     replace HB := hidp (Bgo HB.out hb)
     clear hb x0 x1 x2
     refine wp_region_held_drew (S := (fun _ => True)) (by kernel_rfl) ?_ (fun hHeld => ?_)
     ·(try dsimp only)
      all_goals trivial
     refine tkz 0 ?_
     refine tkz 1 ?_
     refine tkz 2 ?_
     refine skz 3 ?_
     refine skz 4 ?_
     refine skz 5 ?_
     refine skz 6 ?_
     refine skz 7 ?_
     refine skz 8 ?_
     refine skz 9 ?_
     refine skz 10 ?_
     refine skz 11 ?_
     refine skz 12 ?_
     refine skz 13 ?_
     refine tkz 14 ?_
     refine tkz 15 ?_
     refine tkz 16 ?_
     refine tkz 17 ?_
     refine tkz 18 ?_
     refine tkz 19 ?_
     refine tkz 20 ?_
     refine tkz 21 ?_
     refine tkz 22 ?_
     refine skz 23 ?_
     refine skz 24 ?_
     refine skz 25 ?_
     refine skz 26 ?_
     refine skz 27 ?_
     refine skz 28 ?_
     refine skz 29 ?_
     refine skz 30 ?_
     refine skz 31 ?_
     refine tkz 32 ?_
     refine tkz 33 ?_
     refine dnz ?_
     go_wp2
     go_roundw
     case rel => exact ⟨j + 1, by omega, by go_num, HC, HV1, HX1, HW, HB⟩
     case measure => simp [intOf]; omega
    ·have t4 : ((k != 5) : Bool) = true := by simpa using h5
     have hxf : x j = f j := by
      rcases hk with h | h
      ·exact absurd h h5
      ·exact h
     obtain ⟨y, hy⟩ : ∃ y, x j = y := ⟨_, rfl⟩
     have HY := hidp hy
     have HYF := hidp (hxf.symm.trans hy)
     clear hy hxf hk
     go_wp2_with fail
     refine (r7At_c t p s j k a b HAT.out _).mono ?_
     rintro e w3 ⟨rfl, hb⟩
     replace HC := hidp (HC.out.keep hb)
     replace HW := hidp (HW.out.below hb)
     replace HV1 := hidp (HV1.out.below hb)
     replace HX1 := hidp (HX1.out.below hb)
     replace HB := hidp (Bgo HB.out hb)
     clear hb
     clear x0 x1 x2
     obtain ⟨x0, x1, x2⟩ := HC.out.three
     go_wp2_with fail
     have hb := Bdrew (B0 w3)
     replace HC := hidp (HC.out.keep hb)
     replace HW := hidp (HW.out.below hb)
     replace HV1 := hidp (HV1.out.below hb)
     replace HX1 := hidp (HX1.out.below hb)
     replace HB := hidp (Bgo HB.out hb)
     clear hb x0 x1 x2
     obtain ⟨ax, hax, _, cx⟩ := HX1.out.cell j hlt
     rw [HY.out] at cx
     obtain ⟨aw, haw, _, cw⟩ := HW.out.cell j hlt
     rw [HYF.out] at cw
     subst hax haw
     refine wp_region_held_drew (S := (fun w' => w'.cell? (ax.add j) = some (.int .u64 (y : Int)) /\ w'.cell? (aw.add j) = some (.int .u64 (y : Int)))) (by kernel_rfl) ?_ (fun hHeld => ?_)
     ·(try dsimp only)
      first | exact hHeld | exact ⟨cx, cw⟩
     refine tkz 0 ?_
     refine tkz 1 ?_
     refine tkz 2 ?_
     refine skz 3 ?_
     refine skz 4 ?_
     refine skz 5 ?_
     refine skz 6 ?_
     refine skz 7 ?_
     refine skz 8 ?_
     refine skz 9 ?_
     refine skz 10 ?_
     refine skz 11 ?_
     refine skz 12 ?_
     refine skz 13 ?_
     refine tkz 14 ?_
     refine tkz 15 ?_
     refine tkz 16 ?_
     refine tkz 17 ?_
     refine tkz 18 ?_
     refine tkz 19 ?_
     refine tkz 20 ?_
     refine tkz 21 ?_
     refine tkz 22 ?_
     refine tkz 23 ?_
     refine tkz 24 ?_
     refine tkz 25 ?_
     refine tkz 26 ?_
     refine tkz 27 ?_
     refine tkz 28 ?_
     refine tkz 29 ?_
     refine tkz 30 ?_
     refine tkz 31 ?_
     refine tkz 32 ?_
     refine tkz 33 ?_
     refine dnz ?_
     go_wp2
     go_roundw
     case rel => exact ⟨j + 1, by omega, by go_num, HC, HV1, HX1, HW, HB⟩
     case measure => simp [intOf]; omega
  ·have t1 : decide ((j : Int) < (m : Int)) = false := decide_eq_false (by omega)
   have t1n : decide (j < m) = false := decide_eq_false hlt
   go_wp2_with fail
   refine (HS2.out _ x (tidyR_once HXX.out) HX1.out).mono ?_
   rintro e w7 ⟨⟨A7, c7, rfl, hsv⟩, hb⟩
   have HV2 := hidp hsv
   replace HC := hidp (HC.out.keep hb)
   replace HV1 := hidp (HV1.out.below hb)
   replace HX1 := hidp (HX1.out.below hb)
   replace HB := hidp (Bgo HB.out hb)
   clear hb hsv
   clear x0 x1 x2
   obtain ⟨x0, x1, x2⟩ := HC.out.three
   go_wp2_with fail
   refine (HT2.out _ x (tidyR_once HXX.out) HX1.out).mono ?_
   rintro e w8 ⟨⟨A8, c8, rfl, hwv⟩, hb⟩
   have HX2 := hidp hwv
   replace HC := hidp (HC.out.keep hb)
   replace HV1 := hidp (HV1.out.below hb)
   replace HV2 := hidp (HV2.out.below hb)
   replace HX1 := hidp (HX1.out.below hb)
   replace HB := hidp (Bgo HB.out hb)
   clear hb hwv
   go_wp2_with fail
   refine (Vals_same ((List.range n).map (valR x)) _ _ _ HV1.out.row HV2.out.row).mono ?_
   rintro e w9 ⟨rfl, k6, rfl⟩
   have hb := Bdraw (B0 w8) k6
   replace HX1 := hidp (HX1.out.below hb)
   replace HX2 := hidp (HX2.out.below hb)
   clear hb
   go_wp2_with fail
   refine (Words_same ((List.range m).map x) m (hidp (by simp)) _ _ _ _ (by unfold maxLen; omega) _ _ _ (hidp HX1.out.reads) (hidp HX2.out.reads)).mono ?_
   rintro e w10 ⟨rfl, k7, rfl⟩
   replace HB := hidp (Bdraw HB.out (k6 + k7))
   go_wp2_with fail
   refine (live27_c _).mono ?_
   rintro e w19 ⟨rfl, hb⟩
   replace HB := hidp (Bgo HB.out hb)
   clear hb
   go_wp2
   go_ret
   exact ⟨rfl, HB.out⟩
theorem RedoOnce_calls (t p s : Int) (A : Option Addr) (c : Nat) (ws : List Nat) (hwc : ws.length <= c) (hcm : c <= maxLen) (h64 : ∀ x ∈ ws, x < 2 ^ 64) (W : World)
  (HR : Hid (Reads W W.heap.size 1 A ws.length (wordVs ws))) :
  Calls Try.prog 5 #[.agg #[.int .i64 t, .int .i64 p, .int .i64 s], .slice A ws.length c] W (Keeps W) := by
 by_cases hf : ws.length <= 3000
 ·have hW := WV.of_reads HR.out (Nat.le_refl _) h64 hwc hcm
  have hf64 : ∀ i, (fun i => ws.getD i 0) i < 2 ^ 64 := fun i => getD_64 h64 i
  cases h1 : okW t p s ws.length
  ·exact RedoOnce_none t p s A _ c 0 _ hf W (hidp (fun w _ => rdSettle_no h1)) (hidp (fun w _ => rdTidy_no h1)) hW
  ·obtain ⟨hr, hm0, hmw, _⟩ := okW_right h1
   have hri := (rightB_iff t p s).1 hr
   have e1 : ((t.toNat : Nat) : Int) = t := by omega
   have e2 : ((p.toNat : Nat) : Int) = p := by omega
   have e3 : ((s.toNat : Nat) : Int) = s := by omega
   have h1' : okW (t.toNat : Int) (p.toNat : Int) (s.toNat : Int) ws.length = true := by rw [e1, e2, e3]; exact h1
   have hr' : rightB (t.toNat : Int) (p.toNat : Int) (s.toNat : Int) = true := by rw [e1, e2, e3]; exact hr
   have hmw' : (ws.length : Int) = lW (t.toNat : Int) (p.toNat : Int) (s.toNat : Int) := by rw [e1, e2, e3]; exact hmw
   rw [rdW_eq hr'] at hmw'
   have hM := rdM_lt t.toNat p.toNat
   have hWW : rdM t.toNat p.toNat <= rdW t.toNat p.toNat := by unfold rdW; omega
   cases hX : tidyR t.toNat p.toNat (fun i => ws.getD i 0) with
   | none =>
    exact RedoOnce_none t p s A _ c _ _ hf W (hidp (fun w h => by have := rdSettle_in none hX h1' h; rw [e1, e2, e3] at this; exact this)) (hidp (fun w h => by have := rdTidy_in none hX h1' h; rw [e1, e2, e3] at this; exact this)) hW
   | some x =>
    have := RedoOnce_some t.toNat p.toNat s.toNat _ A _ c _ x hf hm0 (by omega) rfl (by omega) hr' (hidp hX) (hidp hf64) W (hidp (fun w _ _ h hx hw => rdSettle_in (some x) hx h1' hw)) (hidp (fun w _ _ h hx hw => rdTidy_in (some x) hx h1' hw)) hW
    rw [e1, e2, e3] at this
    exact this
 ·exact RedoOnce_many t p s A _ c (by omega) W
end
end Go.Proofs.Ytmjkljdnioochaa
