/-
  What the functions of package op do. Written by op/gen_prog.py.
-/
import Derived.RegionTactic
import Derived.Test.YtgfaefhkoaccbaaOpRef
namespace Go.Proofs.Ytgfaefhkoaccbaa
open Go.ChangeShapes Go.WideShapes Go.ChangeAt Go.RowKit Go.Maps
set_option linter.unusedVariables false
set_option linter.unusedSimpArgs false
set_option maxRecDepth 100000

set_option maxHeartbeats 1600000 in
theorem opRight_b (k a b : Int) (c : Bool) (hcase : ((k = 3 ∨ k = 4 ∨ k = 5) ∧ c = true) ∨ ((k = 1 ∨ k = 2 ∨ k = 6 ∨ k = 7 ∨ k = 9) ∧ b ≠ 0 ∧ c = false) ∨ ((k = 1 ∨ k = 2 ∨ k = 6 ∨ k = 7 ∨ k = 9) ∧ b = 0 ∧ c = true) ∨ (k = 8 ∧ a ≠ 0 ∧ c = false) ∨ (k = 8 ∧ a = 0 ∧ b ≠ 0 ∧ c = false) ∨ (k = 8 ∧ a = 0 ∧ b = 0 ∧ c = true) ∨ ((k < 1 ∨ 9 < k) ∧ c = false)) (w : World) :
    Calls Try.prog 8 #[.agg #[.int .i64 k, .int .i64 a, .int .i64 b]] w fun e w' => e = .returned (.bool c) ∧ Below w.heap.size w w' := by
  rcases hcase with ⟨rfl | rfl | rfl, rfl⟩ | ⟨rfl | rfl | rfl | rfl | rfl, h1, rfl⟩ | ⟨rfl | rfl | rfl | rfl | rfl, rfl, rfl⟩ | ⟨rfl, h1, rfl⟩ | ⟨rfl, rfl, h1, rfl⟩ | ⟨rfl, rfl, rfl, rfl⟩ | ⟨h, rfl⟩
  case inr.inr.inr.inr.inr.inr =>
    have q1 : (k == 1) = false := by simp; omega
    have q2 : (k == 2) = false := by simp; omega
    have q3 : (k == 3) = false := by simp; omega
    have q4 : (k == 4) = false := by simp; omega
    have q5 : (k == 5) = false := by simp; omega
    have q6 : (k == 6) = false := by simp; omega
    have q7 : (k == 7) = false := by simp; omega
    have q8 : (k == 8) = false := by simp; omega
    have q9 : (k == 9) = false := by simp; omega
    clear h
    go_enter Try.func8, Try.ntmps8
    go_wp2
    go_ret
    refine ⟨rfl, ?_⟩
    repeat (first | exact B0 _ | (with_reducible refine Bgo ?_ (by assumption)) | (with_reducible refine Bdrew ?_) | (with_reducible refine Bdraw ?_ _) | (with_reducible refine Bnew ?_ _) | (with_reducible refine Bput ?_ (by first | (simp; done) | (simp; omega)) _))
  all_goals
    go_enter Try.func8, Try.ntmps8
    go_wp2
    go_ret
    refine ⟨by first | rfl | (refine ret_bool ?_; simp; done) | (refine ret_bool ?_; simp; omega), ?_⟩
    repeat (first | exact B0 _ | (with_reducible refine Bgo ?_ (by assumption)) | (with_reducible refine Bdrew ?_) | (with_reducible refine Bdraw ?_ _) | (with_reducible refine Bnew ?_ _) | (with_reducible refine Bput ?_ (by first | (simp; done) | (simp; omega)) _))

theorem opRight_c (k a b : Int) (hk : -9223372036854775808 ≤ k ∧ k ≤ 9223372036854775807) (ha : -9223372036854775808 ≤ a ∧ a ≤ 9223372036854775807) (hb : -9223372036854775808 ≤ b ∧ b ≤ 9223372036854775807) (w : World) :
    Calls Try.prog 8 #[.agg #[.int .i64 k, .int .i64 a, .int .i64 b]] w fun e w' => e = .returned (.bool (opB k a b)) ∧ Below w.heap.size w w' := by
  refine opRight_b k a b _ ?_ w
  cases hc : opB k a b with
  | true =>
    have h := of_decide_eq_true hc
    rcases uses_cases k with ⟨_, e⟩ | ⟨_, e⟩ | ⟨_, e⟩ | ⟨_, e⟩ <;> rw [e] at h <;> simp only [and_true, reduceCtorEq, and_false, or_false, false_or] <;> omega
  | false =>
    have h := of_decide_eq_false hc
    rcases uses_cases k with ⟨_, e⟩ | ⟨_, e⟩ | ⟨_, e⟩ | ⟨_, e⟩ <;> rw [e] at h <;> simp only [and_true, reduceCtorEq, and_false, or_false, false_or] <;> omega

theorem opWords_c (k a b : Int) (hk : -9223372036854775808 ≤ k ∧ k ≤ 9223372036854775807) (ha : -9223372036854775808 ≤ a ∧ a ≤ 9223372036854775807) (hb : -9223372036854775808 ≤ b ∧ b ≤ 9223372036854775807) (w : World) :
    Calls Try.prog 10 #[.agg #[.int .i64 k, .int .i64 a, .int .i64 b]] w fun e w' => e = .returned (.agg #[.int .u64 (wdI k), .int .u64 (wdI a), .int .u64 (wdI b)]) ∧ Below w.heap.size w w' := by
  have HX := hidp (Held.new w 23 #[.int .i64 k, .int .i64 a, .int .i64 b])
  obtain ⟨x0, x1, x2⟩ := (HX.out.alloc (.cells #[.int .u64 0, .int .u64 0, .int .u64 0] 25)).three
  obtain ⟨u0, hu0⟩ : ∃ u, wdI k = u := ⟨_, rfl⟩
  obtain ⟨u1, hu1⟩ : ∃ u, wdI a = u := ⟨_, rfl⟩
  obtain ⟨u2, hu2⟩ : ∃ u, wdI b = u := ⟨_, rfl⟩
  have c0 : IntKind.u64.wrap k = u0 := hu0
  have c1 : IntKind.u64.wrap a = u1 := hu1
  have c2 : IntKind.u64.wrap b = u2 := hu2
  rw [hu0, hu1, hu2]
  clear hu0 hu1 hu2
  go_enter Try.func10, Try.ntmps10
  go_wp2
  obtain ⟨r0, r1, r2⟩ := (Held.new2 w (.cells #[.int .i64 k, .int .i64 a, .int .i64 b] 23) 25 #[.int .u64 u0, .int .u64 u1, .int .u64 u2]).three
  refine bodyPost_ret (v := .agg #[.int .u64 u0, .int .u64 u1, .int .u64 u2]) (by simp [results, Try.results10, go_sem, r0, r1, r2]) rfl ⟨rfl, Bnew (Bnew (B0 w) _) _⟩

set_option maxHeartbeats 1600000 in
theorem opOf_no (x y z : Int) (s0 s1 s2 : Int) (c0 : IntKind.i64.wrap x = s0) (c1 : IntKind.i64.wrap y = s1) (c2 : IntKind.i64.wrap z = s2) (hs0 : -9223372036854775808 ≤ s0 ∧ s0 ≤ 9223372036854775807) (hs1 : -9223372036854775808 ≤ s1 ∧ s1 ≤ 9223372036854775807) (hs2 : -9223372036854775808 ≤ s2 ∧ s2 ≤ 9223372036854775807) (hrt : opB s0 s1 s2 = false) (w : World) :
    Calls Try.prog 6 #[.agg #[.int .u64 x, .int .u64 y, .int .u64 z]] w fun e w' => e = .returned (.tuple #[.agg #[.int .i64 0, .int .i64 0, .int .i64 0], .bool false]) ∧ Below w.heap.size w w' := by
  obtain ⟨x0, x1, x2⟩ := ((Held.new w 25 #[.int .u64 x, .int .u64 y, .int .u64 z]).alloc (.cells #[.int .i64 0, .int .i64 0, .int .i64 0] 23)).three
  have HR := hidp ((Held.new2 w (.cells #[.int .u64 x, .int .u64 y, .int .u64 z] 25) 23 #[.int .i64 0, .int .i64 0, .int .i64 0]).alloc (.cells #[.int .i64 s0, .int .i64 s1, .int .i64 s2] 23))
  have HO : Hid (Held (((w.alloc (.cells #[.int .u64 x, .int .u64 y, .int .u64 z] 25)).alloc (.cells #[.int .i64 0, .int .i64 0, .int .i64 0] 23)).alloc (.cells #[.int .i64 s0, .int .i64 s1, .int .i64 s2] 23)) (w.heap.size + 1 + 1) 23 #[.int .i64 s0, .int .i64 s1, .int .i64 s2]) := hidp (by
    have h := Held.new ((w.alloc (.cells #[.int .u64 x, .int .u64 y, .int .u64 z] 25)).alloc (.cells #[.int .i64 0, .int .i64 0, .int .i64 0] 23)) 23 #[.int .i64 s0, .int .i64 s1, .int .i64 s2]
    rw [World.size_alloc, World.size_alloc] at h
    exact h)
  have HB : Hid (Below w.heap.size w (((w.alloc (.cells #[.int .u64 x, .int .u64 y, .int .u64 z] 25)).alloc (.cells #[.int .i64 0, .int .i64 0, .int .i64 0] 23)).alloc (.cells #[.int .i64 s0, .int .i64 s1, .int .i64 s2] 23))) := hidp (Bnew (Bnew (Bnew (B0 w) _) _) _)
  obtain ⟨y0, y1, y2⟩ := HO.out.three
  obtain ⟨v0, v1, v2⟩ := HR.out.three
  have HRT := hidp hrt
  clear hrt
  go_enter Try.func6, Try.ntmps6
  go_wp2_with fail
  refine (opRight_c s0 s1 s2 hs0 hs1 hs2 _).mono ?_; rintro e w1 ⟨rfl, hb⟩; rw [HRT.out]
  replace HR := hidp (HR.out.keep hb)
  replace HO := hidp (HO.out.keep hb)
  replace HB := hidp (Bgo HB.out hb)
  clear hb x0 x1 x2 y0 y1 y2 v0 v1 v2
  obtain ⟨y0, y1, y2⟩ := HO.out.three
  obtain ⟨v0, v1, v2⟩ := HR.out.three
  have f0 := HR.out.thawed 0
  have f1 := HR.out.thawed 1
  have f2 := HR.out.thawed 2
  have HF := hidp (((HR.out.put 0 (.int .i64 0)).put 1 (.int .i64 0)).put 2 (.int .i64 0))
  have HBF := hidp (((HB.out.setCell (p := ⟨w.heap.size + 1, 0, none⟩) (by simp) (.int .i64 0)).setCell (p := ⟨w.heap.size + 1, 1, none⟩) (by simp) (.int .i64 0)).setCell (p := ⟨w.heap.size + 1, 2, none⟩) (by simp) (.int .i64 0))
  obtain ⟨r0, r1, r2⟩ := HF.out.three
  go_wp2
  refine bodyPost_ret (v := .tuple #[.agg #[.int .i64 0, .int .i64 0, .int .i64 0], .bool false]) (by simp [results, Try.results6, go_sem, r0, r1, r2]) rfl ⟨rfl, HBF.out⟩

set_option maxHeartbeats 1600000 in
theorem opOf_yes (x y z : Int) (s0 s1 s2 : Int) (c0 : IntKind.i64.wrap x = s0) (c1 : IntKind.i64.wrap y = s1) (c2 : IntKind.i64.wrap z = s2) (hs0 : -9223372036854775808 ≤ s0 ∧ s0 ≤ 9223372036854775807) (hs1 : -9223372036854775808 ≤ s1 ∧ s1 ≤ 9223372036854775807) (hs2 : -9223372036854775808 ≤ s2 ∧ s2 ≤ 9223372036854775807) (hrt : opB s0 s1 s2 = true) (w : World) :
    Calls Try.prog 6 #[.agg #[.int .u64 x, .int .u64 y, .int .u64 z]] w fun e w' => e = .returned (.tuple #[.agg #[.int .i64 s0, .int .i64 s1, .int .i64 s2], .bool true]) ∧ Below w.heap.size w w' := by
  obtain ⟨x0, x1, x2⟩ := ((Held.new w 25 #[.int .u64 x, .int .u64 y, .int .u64 z]).alloc (.cells #[.int .i64 0, .int .i64 0, .int .i64 0] 23)).three
  have HR := hidp ((Held.new2 w (.cells #[.int .u64 x, .int .u64 y, .int .u64 z] 25) 23 #[.int .i64 0, .int .i64 0, .int .i64 0]).alloc (.cells #[.int .i64 s0, .int .i64 s1, .int .i64 s2] 23))
  have HO : Hid (Held (((w.alloc (.cells #[.int .u64 x, .int .u64 y, .int .u64 z] 25)).alloc (.cells #[.int .i64 0, .int .i64 0, .int .i64 0] 23)).alloc (.cells #[.int .i64 s0, .int .i64 s1, .int .i64 s2] 23)) (w.heap.size + 1 + 1) 23 #[.int .i64 s0, .int .i64 s1, .int .i64 s2]) := hidp (by
    have h := Held.new ((w.alloc (.cells #[.int .u64 x, .int .u64 y, .int .u64 z] 25)).alloc (.cells #[.int .i64 0, .int .i64 0, .int .i64 0] 23)) 23 #[.int .i64 s0, .int .i64 s1, .int .i64 s2]
    rw [World.size_alloc, World.size_alloc] at h
    exact h)
  have HB : Hid (Below w.heap.size w (((w.alloc (.cells #[.int .u64 x, .int .u64 y, .int .u64 z] 25)).alloc (.cells #[.int .i64 0, .int .i64 0, .int .i64 0] 23)).alloc (.cells #[.int .i64 s0, .int .i64 s1, .int .i64 s2] 23))) := hidp (Bnew (Bnew (Bnew (B0 w) _) _) _)
  obtain ⟨y0, y1, y2⟩ := HO.out.three
  obtain ⟨v0, v1, v2⟩ := HR.out.three
  have HRT := hidp hrt
  clear hrt
  go_enter Try.func6, Try.ntmps6
  go_wp2_with fail
  refine (opRight_c s0 s1 s2 hs0 hs1 hs2 _).mono ?_; rintro e w1 ⟨rfl, hb⟩; rw [HRT.out]
  replace HR := hidp (HR.out.keep hb)
  replace HO := hidp (HO.out.keep hb)
  replace HB := hidp (Bgo HB.out hb)
  clear hb x0 x1 x2 y0 y1 y2 v0 v1 v2
  obtain ⟨y0, y1, y2⟩ := HO.out.three
  obtain ⟨v0, v1, v2⟩ := HR.out.three
  have f0 := HR.out.thawed 0
  have f1 := HR.out.thawed 1
  have f2 := HR.out.thawed 2
  have HF := hidp (((HR.out.put 0 (.int .i64 s0)).put 1 (.int .i64 s1)).put 2 (.int .i64 s2))
  have HBF := hidp (((HB.out.setCell (p := ⟨w.heap.size + 1, 0, none⟩) (by simp) (.int .i64 s0)).setCell (p := ⟨w.heap.size + 1, 1, none⟩) (by simp) (.int .i64 s1)).setCell (p := ⟨w.heap.size + 1, 2, none⟩) (by simp) (.int .i64 s2))
  obtain ⟨r0, r1, r2⟩ := HF.out.three
  go_wp2
  refine bodyPost_ret (v := .tuple #[.agg #[.int .i64 s0, .int .i64 s1, .int .i64 s2], .bool true]) (by simp [results, Try.results6, go_sem, r0, r1, r2]) rfl ⟨rfl, HBF.out⟩

theorem of_op {x y z : Int} (hx : 0 ≤ x ∧ x < 18446744073709551616) : ofB x y z = opB (sgI x) (sgI y) (sgI z) := by
  unfold ofB
  cases h : opB (sgI x) (sgI y) (sgI z) with
  | false => rw [Bool.and_false]
  | true =>
    have h1 := opB_kind h
    rw [sgI_at x hx.1 hx.2] at h1
    rw [Bool.and_true]
    exact decide_eq_true (by split at h1 <;> omega)

theorem opOf_c (x y z : Int) (hx : 0 ≤ x ∧ x < 18446744073709551616) (hy : 0 ≤ y ∧ y < 18446744073709551616) (hz : 0 ≤ z ∧ z < 18446744073709551616) (w : World) :
    Calls Try.prog 6 #[.agg #[.int .u64 x, .int .u64 y, .int .u64 z]] w fun e w' => e = .returned (.tuple #[ofV x y z, .bool (ofB x y z)]) ∧ Below w.heap.size w w' := by
  have e := of_op (y := y) (z := z) hx
  unfold ofV
  cases hr : opB (sgI x) (sgI y) (sgI z) with
  | false =>
    rw [e, hr]
    exact opOf_no x y z _ _ _ rfl rfl rfl (sgI_lim x) (sgI_lim y) (sgI_lim z) hr w
  | true =>
    rw [e, hr]
    exact opOf_yes x y z _ _ _ rfl rfl rfl (sgI_lim x) (sgI_lim y) (sgI_lim z) hr w

theorem opFits_lo (n : Int) (h : n < 0) (w : World) :
    Calls Try.prog 17 #[.int .i64 n] w fun e w' => e = .returned (.bool false) ∧ w = w' := by
  have t0 : decide ((0 : Int) ≤ n) = false := decide_eq_false (by omega)
  go_enter Try.func17, Try.ntmps17
  go_wp2
  go_ret
  exact ⟨rfl, rfl⟩

theorem opFits_hi (n : Int) (h : 4294967295 < n) (w : World) :
    Calls Try.prog 17 #[.int .i64 n] w fun e w' => e = .returned (.bool false) ∧ w = w' := by
  have t0 : decide ((0 : Int) ≤ n) = true := decide_eq_true (by omega)
  have t1 : decide (n ≤ 4294967295) = false := decide_eq_false (by omega)
  go_enter Try.func17, Try.ntmps17
  go_wp2
  go_ret
  exact ⟨rfl, rfl⟩

theorem opFits_in (n : Int) (h : 0 ≤ n ∧ n ≤ 4294967295) (w : World) :
    Calls Try.prog 17 #[.int .i64 n] w fun e w' => e = .returned (.bool true) ∧ w = w' := by
  have t0 : decide ((0 : Int) ≤ n) = true := decide_eq_true (by omega)
  have t1 : decide (n ≤ 4294967295) = true := decide_eq_true (by omega)
  go_enter Try.func17, Try.ntmps17
  go_wp2
  go_ret
  exact ⟨rfl, rfl⟩

theorem opFits_no (n : Int) (h : n < 0 ∨ 4294967295 < n) (w : World) :
    Calls Try.prog 17 #[.int .i64 n] w fun e w' => e = .returned (.bool false) ∧ w = w' := by
  rcases h with h | h
  · exact opFits_lo n h w
  · exact opFits_hi n h w

set_option maxHeartbeats 1600000 in
theorem opVals_a (num err out aux : Int) (h : num < 0) (w : World) :
    Calls Try.prog 13 #[.int .i64 num, .agg #[.int .i64 err, .int .i64 out, .int .i64 aux]] w fun e w' => e = .returned (.tuple #[.agg #[.int .u32 0, .int .u32 0, .int .u32 0, .int .u32 0], .bool false]) ∧ Below w.heap.size w w' := by
  have t0 : decide (num < 0) = true := decide_eq_true (by omega)
  obtain ⟨x0, x1, x2⟩ := ((Held.new w 34 #[.int .i64 err, .int .i64 out, .int .i64 aux]).alloc (.cells #[.int .u32 0, .int .u32 0, .int .u32 0, .int .u32 0] 36)).three
  go_enter Try.func13, Try.ntmps13
  go_wp2
  obtain ⟨r0, r1, r2, r3⟩ := (Held.new2 w (.cells #[.int .i64 err, .int .i64 out, .int .i64 aux] 34) 36 #[.int .u32 0, .int .u32 0, .int .u32 0, .int .u32 0]).fourR
  refine bodyPost_ret (v := .tuple #[.agg #[.int .u32 0, .int .u32 0, .int .u32 0, .int .u32 0], .bool false]) (by simp [results, Try.results13, go_sem, r0, r1, r2, r3]) rfl ⟨rfl, Bnew (Bnew (B0 w) _) _⟩

set_option maxHeartbeats 1600000 in
theorem opVals_b (num err out aux : Int) (h : 2147483647 < num) (w : World) :
    Calls Try.prog 13 #[.int .i64 num, .agg #[.int .i64 err, .int .i64 out, .int .i64 aux]] w fun e w' => e = .returned (.tuple #[.agg #[.int .u32 0, .int .u32 0, .int .u32 0, .int .u32 0], .bool false]) ∧ Below w.heap.size w w' := by
  have t0 : decide (num < 0) = false := decide_eq_false (by omega)
  have t1 : decide ((2147483647 : Int) < num) = true := decide_eq_true (by omega)
  obtain ⟨x0, x1, x2⟩ := ((Held.new w 34 #[.int .i64 err, .int .i64 out, .int .i64 aux]).alloc (.cells #[.int .u32 0, .int .u32 0, .int .u32 0, .int .u32 0] 36)).three
  go_enter Try.func13, Try.ntmps13
  go_wp2
  obtain ⟨r0, r1, r2, r3⟩ := (Held.new2 w (.cells #[.int .i64 err, .int .i64 out, .int .i64 aux] 34) 36 #[.int .u32 0, .int .u32 0, .int .u32 0, .int .u32 0]).fourR
  refine bodyPost_ret (v := .tuple #[.agg #[.int .u32 0, .int .u32 0, .int .u32 0, .int .u32 0], .bool false]) (by simp [results, Try.results13, go_sem, r0, r1, r2, r3]) rfl ⟨rfl, Bnew (Bnew (B0 w) _) _⟩

set_option maxHeartbeats 1600000 in
theorem opVals_n0 (num err out aux : Int) (h : 0 ≤ num ∧ num ≤ 2147483647)  (g : err < 0 ∨ 4294967295 < err) (w : World) :
    Calls Try.prog 13 #[.int .i64 num, .agg #[.int .i64 err, .int .i64 out, .int .i64 aux]] w fun e w' => e = .returned (.tuple #[.agg #[.int .u32 0, .int .u32 0, .int .u32 0, .int .u32 0], .bool false]) ∧ Below w.heap.size w w' := by
  have t0 : decide (num < 0) = false := decide_eq_false (by omega)
  have t1 : decide ((2147483647 : Int) < num) = false := decide_eq_false (by omega)
  obtain ⟨x0, x1, x2⟩ := ((Held.new w 34 #[.int .i64 err, .int .i64 out, .int .i64 aux]).alloc (.cells #[.int .u32 0, .int .u32 0, .int .u32 0, .int .u32 0] 36)).three
  go_enter Try.func13, Try.ntmps13
  go_wp2_with fail
  refine (opFits_no err g _).mono ?_; rintro e w1 ⟨rfl, rfl⟩
  go_wp2
  obtain ⟨r0, r1, r2, r3⟩ := (Held.new2 w (.cells #[.int .i64 err, .int .i64 out, .int .i64 aux] 34) 36 #[.int .u32 0, .int .u32 0, .int .u32 0, .int .u32 0]).fourR
  refine bodyPost_ret (v := .tuple #[.agg #[.int .u32 0, .int .u32 0, .int .u32 0, .int .u32 0], .bool false]) (by simp [results, Try.results13, go_sem, r0, r1, r2, r3]) rfl ⟨rfl, Bnew (Bnew (B0 w) _) _⟩

set_option maxHeartbeats 1600000 in
theorem opVals_n1 (num err out aux : Int) (h : 0 ≤ num ∧ num ≤ 2147483647) (k0 : 0 ≤ err ∧ err ≤ 4294967295) (g : out < 0 ∨ 4294967295 < out) (w : World) :
    Calls Try.prog 13 #[.int .i64 num, .agg #[.int .i64 err, .int .i64 out, .int .i64 aux]] w fun e w' => e = .returned (.tuple #[.agg #[.int .u32 0, .int .u32 0, .int .u32 0, .int .u32 0], .bool false]) ∧ Below w.heap.size w w' := by
  have t0 : decide (num < 0) = false := decide_eq_false (by omega)
  have t1 : decide ((2147483647 : Int) < num) = false := decide_eq_false (by omega)
  obtain ⟨x0, x1, x2⟩ := ((Held.new w 34 #[.int .i64 err, .int .i64 out, .int .i64 aux]).alloc (.cells #[.int .u32 0, .int .u32 0, .int .u32 0, .int .u32 0] 36)).three
  go_enter Try.func13, Try.ntmps13
  go_wp2_with fail
  refine (opFits_in err k0 _).mono ?_; rintro e w1 ⟨rfl, rfl⟩
  go_wp2_with fail
  refine (opFits_no out g _).mono ?_; rintro e w1 ⟨rfl, rfl⟩
  go_wp2
  obtain ⟨r0, r1, r2, r3⟩ := (Held.new2 w (.cells #[.int .i64 err, .int .i64 out, .int .i64 aux] 34) 36 #[.int .u32 0, .int .u32 0, .int .u32 0, .int .u32 0]).fourR
  refine bodyPost_ret (v := .tuple #[.agg #[.int .u32 0, .int .u32 0, .int .u32 0, .int .u32 0], .bool false]) (by simp [results, Try.results13, go_sem, r0, r1, r2, r3]) rfl ⟨rfl, Bnew (Bnew (B0 w) _) _⟩

set_option maxHeartbeats 1600000 in
theorem opVals_n2 (num err out aux : Int) (h : 0 ≤ num ∧ num ≤ 2147483647) (k0 : 0 ≤ err ∧ err ≤ 4294967295) (k1 : 0 ≤ out ∧ out ≤ 4294967295) (g : aux < 0 ∨ 4294967295 < aux) (w : World) :
    Calls Try.prog 13 #[.int .i64 num, .agg #[.int .i64 err, .int .i64 out, .int .i64 aux]] w fun e w' => e = .returned (.tuple #[.agg #[.int .u32 0, .int .u32 0, .int .u32 0, .int .u32 0], .bool false]) ∧ Below w.heap.size w w' := by
  have t0 : decide (num < 0) = false := decide_eq_false (by omega)
  have t1 : decide ((2147483647 : Int) < num) = false := decide_eq_false (by omega)
  obtain ⟨x0, x1, x2⟩ := ((Held.new w 34 #[.int .i64 err, .int .i64 out, .int .i64 aux]).alloc (.cells #[.int .u32 0, .int .u32 0, .int .u32 0, .int .u32 0] 36)).three
  go_enter Try.func13, Try.ntmps13
  go_wp2_with fail
  refine (opFits_in err k0 _).mono ?_; rintro e w1 ⟨rfl, rfl⟩
  go_wp2_with fail
  refine (opFits_in out k1 _).mono ?_; rintro e w1 ⟨rfl, rfl⟩
  go_wp2_with fail
  refine (opFits_no aux g _).mono ?_; rintro e w1 ⟨rfl, rfl⟩
  go_wp2
  obtain ⟨r0, r1, r2, r3⟩ := (Held.new2 w (.cells #[.int .i64 err, .int .i64 out, .int .i64 aux] 34) 36 #[.int .u32 0, .int .u32 0, .int .u32 0, .int .u32 0]).fourR
  refine bodyPost_ret (v := .tuple #[.agg #[.int .u32 0, .int .u32 0, .int .u32 0, .int .u32 0], .bool false]) (by simp [results, Try.results13, go_sem, r0, r1, r2, r3]) rfl ⟨rfl, Bnew (Bnew (B0 w) _) _⟩

set_option maxHeartbeats 1600000 in
theorem opVals_ok (num err out aux : Int) (h : 0 ≤ num ∧ num ≤ 2147483647) (k0 : 0 ≤ err ∧ err ≤ 4294967295) (k1 : 0 ≤ out ∧ out ≤ 4294967295) (k2 : 0 ≤ aux ∧ aux ≤ 4294967295) (w : World) :
    Calls Try.prog 13 #[.int .i64 num, .agg #[.int .i64 err, .int .i64 out, .int .i64 aux]] w fun e w' => e = .returned (.tuple #[.agg #[.int .u32 num, .int .u32 err, .int .u32 out, .int .u32 aux], .bool true]) ∧ Below w.heap.size w w' := by
  have t0 : decide (num < 0) = false := decide_eq_false (by omega)
  have t1 : decide ((2147483647 : Int) < num) = false := decide_eq_false (by omega)
  have c0 : IntKind.u32.wrap num = num := u32_at (by omega)
  have c1 : IntKind.u32.wrap err = err := u32_at (by omega)
  have c2 : IntKind.u32.wrap out = out := u32_at (by omega)
  have c3 : IntKind.u32.wrap aux = aux := u32_at (by omega)
  obtain ⟨x0, x1, x2⟩ := ((Held.new w 34 #[.int .i64 err, .int .i64 out, .int .i64 aux]).alloc (.cells #[.int .u32 0, .int .u32 0, .int .u32 0, .int .u32 0] 36)).three
  go_enter Try.func13, Try.ntmps13
  go_wp2_with fail
  refine (opFits_in err k0 _).mono ?_; rintro e w1 ⟨rfl, rfl⟩
  go_wp2_with fail
  refine (opFits_in out k1 _).mono ?_; rintro e w1 ⟨rfl, rfl⟩
  go_wp2_with fail
  refine (opFits_in aux k2 _).mono ?_; rintro e w1 ⟨rfl, rfl⟩
  go_wp2
  obtain ⟨r0, r1, r2, r3⟩ := (Held.new2 w (.cells #[.int .i64 err, .int .i64 out, .int .i64 aux] 34) 36 #[.int .u32 num, .int .u32 err, .int .u32 out, .int .u32 aux]).fourR
  refine bodyPost_ret (v := .tuple #[.agg #[.int .u32 num, .int .u32 err, .int .u32 out, .int .u32 aux], .bool true]) (by simp [results, Try.results13, go_sem, r0, r1, r2, r3]) rfl ⟨rfl, Bnew (Bnew (B0 w) _) _⟩

theorem opVals_c (num err out aux : Int) (hnum : -9223372036854775808 ≤ num ∧ num ≤ 9223372036854775807) (herr : -9223372036854775808 ≤ err ∧ err ≤ 9223372036854775807) (hout : -9223372036854775808 ≤ out ∧ out ≤ 9223372036854775807) (haux : -9223372036854775808 ≤ aux ∧ aux ≤ 9223372036854775807) (w : World) :
    Calls Try.prog 13 #[.int .i64 num, .agg #[.int .i64 err, .int .i64 out, .int .i64 aux]] w fun e w' => e = .returned (.tuple #[vlV num err out aux, .bool (vlB num err out aux)]) ∧ Below w.heap.size w w' := by
  by_cases ha : num < 0
  · have e : vlB num err out aux = false := decide_eq_false (by omega)
    unfold vlV
    rw [e]
    exact opVals_a num err out aux ha w
  by_cases hb : 2147483647 < num
  · have e : vlB num err out aux = false := decide_eq_false (by omega)
    unfold vlV
    rw [e]
    exact opVals_b num err out aux hb w
  have h : 0 ≤ num ∧ num ≤ 2147483647 := ⟨by omega, by omega⟩
  by_cases g0 : err < 0 ∨ 4294967295 < err
  · have e : vlB num err out aux = false := decide_eq_false (by omega)
    unfold vlV
    rw [e]
    exact opVals_n0 num err out aux h  g0 w
  have k0 : 0 ≤ err ∧ err ≤ 4294967295 := ⟨by omega, by omega⟩
  by_cases g1 : out < 0 ∨ 4294967295 < out
  · have e : vlB num err out aux = false := decide_eq_false (by omega)
    unfold vlV
    rw [e]
    exact opVals_n1 num err out aux h k0 g1 w
  have k1 : 0 ≤ out ∧ out ≤ 4294967295 := ⟨by omega, by omega⟩
  by_cases g2 : aux < 0 ∨ 4294967295 < aux
  · have e : vlB num err out aux = false := decide_eq_false (by omega)
    unfold vlV
    rw [e]
    exact opVals_n2 num err out aux h k0 k1 g2 w
  have k2 : 0 ≤ aux ∧ aux ≤ 4294967295 := ⟨by omega, by omega⟩
  have e : vlB num err out aux = true := decide_eq_true ⟨h, k0, k1, k2⟩
  unfold vlV
  rw [e]
  exact opVals_ok num err out aux h k0 k1 k2 w

set_option maxHeartbeats 1600000 in
theorem opOfVals_c (v0 v1 v2 v3 : Int) (hv0 : 0 ≤ v0 ∧ v0 < 4294967296) (hv1 : 0 ≤ v1 ∧ v1 < 4294967296) (hv2 : 0 ≤ v2 ∧ v2 < 4294967296) (hv3 : 0 ≤ v3 ∧ v3 < 4294967296) (w : World) :
    Calls Try.prog 15 #[.agg #[.int .u32 v0, .int .u32 v1, .int .u32 v2, .int .u32 v3]] w fun e w' => e = .returned (.tuple #[.int .i64 v0, .agg #[.int .i64 v1, .int .i64 v2, .int .i64 v3]]) ∧ Below w.heap.size w w' := by
  have c0 : IntKind.i64.wrap v0 = v0 := sg_small v0 (by omega) (by omega)
  have c1 : IntKind.i64.wrap v1 = v1 := sg_small v1 (by omega) (by omega)
  have c2 : IntKind.i64.wrap v2 = v2 := sg_small v2 (by omega) (by omega)
  have c3 : IntKind.i64.wrap v3 = v3 := sg_small v3 (by omega) (by omega)
  have HX := hidp ((Held.new w 36 #[.int .u32 v0, .int .u32 v1, .int .u32 v2, .int .u32 v3]).alloc (.cells #[.int .i64 0, .int .i64 0, .int .i64 0] 34))
  have HZ := hidp (Held.new2 w (.cells #[.int .u32 v0, .int .u32 v1, .int .u32 v2, .int .u32 v3] 36) 34 #[.int .i64 0, .int .i64 0, .int .i64 0])
  obtain ⟨x0, x1, x2, x3⟩ := HX.out.fourR
  obtain ⟨z0, z1, z2⟩ := HZ.out.three
  have f0 := HZ.out.thawed 0
  have f1 := HZ.out.thawed 1
  have f2 := HZ.out.thawed 2
  go_enter Try.func15, Try.ntmps15
  go_wp2
  go_region
  go_wp2
  refine bodyPost_ret (v := .tuple #[.int .i64 v0, .agg #[.int .i64 v1, .int .i64 v2, .int .i64 v3]]) (by simp [results, Try.results15, go_sem, z0, z1, z2]) rfl ⟨rfl, ?_⟩
  repeat (first | exact B0 _ | (with_reducible refine Bgo ?_ (by assumption)) | (with_reducible refine Bdrew ?_) | (with_reducible refine Bdraw ?_ _) | (with_reducible refine Bnew ?_ _) | (with_reducible refine Bput ?_ (by first | (simp; done) | (simp; omega)) _))
end Go.Proofs.Ytgfaefhkoaccbaa
