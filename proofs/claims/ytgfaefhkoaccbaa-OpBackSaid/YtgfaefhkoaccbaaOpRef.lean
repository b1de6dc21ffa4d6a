/-
  What the document's functions of operations as words do. Written by op/gen_prog.py.
-/
import Derived.Test.YtgfaefhkoaccbaaOpMath
import Derived.Test.YtgfaefhkoaccbaaRootAsk
namespace Go.Proofs.Ytgfaefhkoaccbaa
open Go.ChangeShapes Go.WideShapes Go.ChangeAt Go.RowKit Go.Maps
set_option linter.unusedVariables false
set_option linter.unusedSimpArgs false
set_option maxRecDepth 100000

theorem r22Uses_c (k : Int) (w : World) : Calls Try.prog 16 #[.int .i64 k] w fun e w' => e = .returned (.int .i64 (usesI k)) ∧ w = w' := by
  rcases uses_cases k with ⟨rfl, e⟩ | ⟨h, e⟩ | ⟨h, e⟩ | ⟨h, e⟩
  · rw [e]
    clear e
    go_enter Try.func16, Try.ntmps16
    go_wp2
    go_ret
    exact ⟨rfl, rfl⟩
  · rcases h with rfl | rfl | rfl | rfl | rfl
    · rw [e]
      clear e
      go_enter Try.func16, Try.ntmps16
      go_wp2
      go_ret
      exact ⟨rfl, rfl⟩
    · rw [e]
      clear e
      go_enter Try.func16, Try.ntmps16
      go_wp2
      go_ret
      exact ⟨rfl, rfl⟩
    · rw [e]
      clear e
      go_enter Try.func16, Try.ntmps16
      go_wp2
      go_ret
      exact ⟨rfl, rfl⟩
    · rw [e]
      clear e
      go_enter Try.func16, Try.ntmps16
      go_wp2
      go_ret
      exact ⟨rfl, rfl⟩
    · rw [e]
      clear e
      go_enter Try.func16, Try.ntmps16
      go_wp2
      go_ret
      exact ⟨rfl, rfl⟩
  · rcases h with rfl | rfl | rfl
    · rw [e]
      clear e
      go_enter Try.func16, Try.ntmps16
      go_wp2
      go_ret
      exact ⟨rfl, rfl⟩
    · rw [e]
      clear e
      go_enter Try.func16, Try.ntmps16
      go_wp2
      go_ret
      exact ⟨rfl, rfl⟩
    · rw [e]
      clear e
      go_enter Try.func16, Try.ntmps16
      go_wp2
      go_ret
      exact ⟨rfl, rfl⟩
  · rw [e]
    clear e
    have q1 : (k == 1) = false := by simp; omega
    have q2 : (k == 2) = false := by simp; omega
    have q3 : (k == 3) = false := by simp; omega
    have q4 : (k == 4) = false := by simp; omega
    have q5 : (k == 5) = false := by simp; omega
    have q6 : (k == 6) = false := by simp; omega
    have q7 : (k == 7) = false := by simp; omega
    have q8 : (k == 8) = false := by simp; omega
    have q9 : (k == 9) = false := by simp; omega
    clear h
    go_enter Try.func16, Try.ntmps16
    go_wp2
    go_ret
    exact ⟨rfl, rfl⟩

theorem r22Right_n (k a b : Int) (hu : usesI k = -1)  (w : World) :
    Calls Try.prog 9 #[.agg #[.int .i64 k, .int .i64 a, .int .i64 b]] w fun e w' => e = .returned (.bool false) ∧ Below w.heap.size w w' := by
  have HU := hidp hu
  clear hu
  have HX := hidp (Held.new w 23 #[.int .i64 k, .int .i64 a, .int .i64 b])
  have HB := hidp (Bnew (B0 w) (.cells #[.int .i64 k, .int .i64 a, .int .i64 b] 23))
  obtain ⟨x0, x1, x2⟩ := HX.out.three
  go_enter Try.func9, Try.ntmps9
  go_wp2_with fail
  refine (r22Uses_c k _).mono ?_; rintro e w1 ⟨rfl, rfl⟩; rw [HU.out]
  go_wp2
  go_ret
  exact ⟨rfl, HB.out⟩

theorem r22Right_z0 (k a b : Int) (hu : usesI k = 0) (ha : a ≠ 0) (w : World) :
    Calls Try.prog 9 #[.agg #[.int .i64 k, .int .i64 a, .int .i64 b]] w fun e w' => e = .returned (.bool false) ∧ Below w.heap.size w w' := by
  have ta : (a == 0) = false := by simp [ha]
  clear ha
  have HU := hidp hu
  clear hu
  have HX := hidp (Held.new w 23 #[.int .i64 k, .int .i64 a, .int .i64 b])
  have HB := hidp (Bnew (B0 w) (.cells #[.int .i64 k, .int .i64 a, .int .i64 b] 23))
  obtain ⟨x0, x1, x2⟩ := HX.out.three
  go_enter Try.func9, Try.ntmps9
  go_wp2_with fail
  refine (r22Uses_c k _).mono ?_; rintro e w1 ⟨rfl, rfl⟩; rw [HU.out]
  go_wp2
  go_ret
  exact ⟨rfl, HB.out⟩

theorem r22Right_z1 (k a b : Int) (hu : usesI k = 0) (ha : a = 0) (hb : b ≠ 0) (w : World) :
    Calls Try.prog 9 #[.agg #[.int .i64 k, .int .i64 a, .int .i64 b]] w fun e w' => e = .returned (.bool false) ∧ Below w.heap.size w w' := by
  have ta : (a == 0) = true := by simp [ha]
  have tb : (b == 0) = false := by simp [hb]
  clear ha hb
  have HU := hidp hu
  clear hu
  have HX := hidp (Held.new w 23 #[.int .i64 k, .int .i64 a, .int .i64 b])
  have HB := hidp (Bnew (B0 w) (.cells #[.int .i64 k, .int .i64 a, .int .i64 b] 23))
  obtain ⟨x0, x1, x2⟩ := HX.out.three
  go_enter Try.func9, Try.ntmps9
  go_wp2_with fail
  refine (r22Uses_c k _).mono ?_; rintro e w1 ⟨rfl, rfl⟩; rw [HU.out]
  go_wp2
  go_ret
  exact ⟨rfl, HB.out⟩

theorem r22Right_z2 (k a b : Int) (hu : usesI k = 0) (ha : a = 0) (hb : b = 0) (w : World) :
    Calls Try.prog 9 #[.agg #[.int .i64 k, .int .i64 a, .int .i64 b]] w fun e w' => e = .returned (.bool true) ∧ Below w.heap.size w w' := by
  have ta : (a == 0) = true := by simp [ha]
  have tb : (b == 0) = true := by simp [hb]
  clear ha hb
  have HU := hidp hu
  clear hu
  have HX := hidp (Held.new w 23 #[.int .i64 k, .int .i64 a, .int .i64 b])
  have HB := hidp (Bnew (B0 w) (.cells #[.int .i64 k, .int .i64 a, .int .i64 b] 23))
  obtain ⟨x0, x1, x2⟩ := HX.out.three
  go_enter Try.func9, Try.ntmps9
  go_wp2_with fail
  refine (r22Uses_c k _).mono ?_; rintro e w1 ⟨rfl, rfl⟩; rw [HU.out]
  go_wp2
  go_ret
  exact ⟨rfl, HB.out⟩

theorem r22Right_o0 (k a b : Int) (hu : usesI k = 1) (hb : b ≠ 0) (w : World) :
    Calls Try.prog 9 #[.agg #[.int .i64 k, .int .i64 a, .int .i64 b]] w fun e w' => e = .returned (.bool false) ∧ Below w.heap.size w w' := by
  have tb : (b == 0) = false := by simp [hb]
  clear hb
  have HU := hidp hu
  clear hu
  have HX := hidp (Held.new w 23 #[.int .i64 k, .int .i64 a, .int .i64 b])
  have HB := hidp (Bnew (B0 w) (.cells #[.int .i64 k, .int .i64 a, .int .i64 b] 23))
  obtain ⟨x0, x1, x2⟩ := HX.out.three
  go_enter Try.func9, Try.ntmps9
  go_wp2_with fail
  refine (r22Uses_c k _).mono ?_; rintro e w1 ⟨rfl, rfl⟩; rw [HU.out]
  go_wp2
  go_ret
  exact ⟨rfl, HB.out⟩

theorem r22Right_o1 (k a b : Int) (hu : usesI k = 1) (hb : b = 0) (w : World) :
    Calls Try.prog 9 #[.agg #[.int .i64 k, .int .i64 a, .int .i64 b]] w fun e w' => e = .returned (.bool true) ∧ Below w.heap.size w w' := by
  have tb : (b == 0) = true := by simp [hb]
  clear hb
  have HU := hidp hu
  clear hu
  have HX := hidp (Held.new w 23 #[.int .i64 k, .int .i64 a, .int .i64 b])
  have HB := hidp (Bnew (B0 w) (.cells #[.int .i64 k, .int .i64 a, .int .i64 b] 23))
  obtain ⟨x0, x1, x2⟩ := HX.out.three
  go_enter Try.func9, Try.ntmps9
  go_wp2_with fail
  refine (r22Uses_c k _).mono ?_; rintro e w1 ⟨rfl, rfl⟩; rw [HU.out]
  go_wp2
  go_ret
  exact ⟨rfl, HB.out⟩

theorem r22Right_t (k a b : Int) (hu : usesI k = 2)  (w : World) :
    Calls Try.prog 9 #[.agg #[.int .i64 k, .int .i64 a, .int .i64 b]] w fun e w' => e = .returned (.bool true) ∧ Below w.heap.size w w' := by
  have HU := hidp hu
  clear hu
  have HX := hidp (Held.new w 23 #[.int .i64 k, .int .i64 a, .int .i64 b])
  have HB := hidp (Bnew (B0 w) (.cells #[.int .i64 k, .int .i64 a, .int .i64 b] 23))
  obtain ⟨x0, x1, x2⟩ := HX.out.three
  go_enter Try.func9, Try.ntmps9
  go_wp2_with fail
  refine (r22Uses_c k _).mono ?_; rintro e w1 ⟨rfl, rfl⟩; rw [HU.out]
  go_wp2
  go_ret
  exact ⟨rfl, HB.out⟩

theorem r22Right_c (k a b : Int) (hk : -9223372036854775808 ≤ k ∧ k ≤ 9223372036854775807) (ha : -9223372036854775808 ≤ a ∧ a ≤ 9223372036854775807) (hb : -9223372036854775808 ≤ b ∧ b ≤ 9223372036854775807) (w : World) :
    Calls Try.prog 9 #[.agg #[.int .i64 k, .int .i64 a, .int .i64 b]] w fun e w' => e = .returned (.bool (opB k a b)) ∧ Below w.heap.size w w' := by
  rcases uses_cases k with ⟨_, e⟩ | ⟨_, e⟩ | ⟨_, e⟩ | ⟨_, e⟩
  · by_cases h1 : a = 0
    · by_cases h2 : b = 0
      · rw [show opB k a b = true from decide_eq_true (by rw [e]; omega)]
        exact r22Right_z2 k a b e h1 h2 w
      · rw [show opB k a b = false from decide_eq_false (by rw [e]; omega)]
        exact r22Right_z1 k a b e h1 h2 w
    · rw [show opB k a b = false from decide_eq_false (by rw [e]; omega)]
      exact r22Right_z0 k a b e h1 w
  · by_cases h2 : b = 0
    · rw [show opB k a b = true from decide_eq_true (by rw [e]; omega)]
      exact r22Right_o1 k a b e h2 w
    · rw [show opB k a b = false from decide_eq_false (by rw [e]; omega)]
      exact r22Right_o0 k a b e h2 w
  · rw [show opB k a b = true from decide_eq_true (by rw [e]; omega)]
    exact r22Right_t k a b e w
  · rw [show opB k a b = false from decide_eq_false (by rw [e]; omega)]
    exact r22Right_n k a b e w

theorem r22Words_c (k a b : Int) (hk : -9223372036854775808 ≤ k ∧ k ≤ 9223372036854775807) (ha : -9223372036854775808 ≤ a ∧ a ≤ 9223372036854775807) (hb : -9223372036854775808 ≤ b ∧ b ≤ 9223372036854775807) (w : World) :
    Calls Try.prog 11 #[.agg #[.int .i64 k, .int .i64 a, .int .i64 b]] w fun e w' => e = .returned (.agg #[.int .u64 (wdI k), .int .u64 (wdI a), .int .u64 (wdI b)]) ∧ Below w.heap.size w w' := by
  have HX := hidp (Held.new w 23 #[.int .i64 k, .int .i64 a, .int .i64 b])
  have HB := hidp (Bnew (B0 w) (.cells #[.int .i64 k, .int .i64 a, .int .i64 b] 23))
  obtain ⟨x0, x1, x2⟩ := HX.out.three
  obtain ⟨u0, hu0⟩ : ∃ u, wdI k = u := ⟨_, rfl⟩
  obtain ⟨u1, hu1⟩ : ∃ u, wdI a = u := ⟨_, rfl⟩
  obtain ⟨u2, hu2⟩ : ∃ u, wdI b = u := ⟨_, rfl⟩
  have c0 : IntKind.u64.wrap k = u0 := hu0
  have c1 : IntKind.u64.wrap a = u1 := hu1
  have c2 : IntKind.u64.wrap b = u2 := hu2
  rw [hu0, hu1, hu2]
  clear hu0 hu1 hu2
  go_enter Try.func11, Try.ntmps11
  go_wp2
  obtain ⟨r0, r1, r2⟩ := ((Held.new2 w (.cells #[.int .i64 k, .int .i64 a, .int .i64 b] 23) 25 #[.int .u64 u0, .int .u64 u1, .int .u64 u2]).alloc (.cells #[.int .u64 u0, .int .u64 u1, .int .u64 u2] 25)).three
  refine bodyPost_ret (v := .agg #[.int .u64 u0, .int .u64 u1, .int .u64 u2]) (by simp [results, Try.results11, go_sem, r0, r1, r2]) rfl ⟨rfl, Bnew (Bnew (Bnew (B0 w) _) _) _⟩

set_option maxHeartbeats 1600000 in
theorem r22Of_low (x y z : Int) (h : x < 1) (w : World) :
    Calls Try.prog 7 #[.agg #[.int .u64 x, .int .u64 y, .int .u64 z]] w fun e w' => e = .returned (.tuple #[.agg #[.int .i64 0, .int .i64 0, .int .i64 0], .bool false]) ∧ Below w.heap.size w w' := by
  have t0 : decide (x < 1) = true := decide_eq_true (by omega)
  obtain ⟨x0, x1, x2⟩ := ((Held.new w 25 #[.int .u64 x, .int .u64 y, .int .u64 z]).alloc (.cells #[.int .i64 0, .int .i64 0, .int .i64 0] 23)).three
  go_enter Try.func7, Try.ntmps7
  go_wp2
  obtain ⟨r0, r1, r2⟩ := (Held.new2 w (.cells #[.int .u64 x, .int .u64 y, .int .u64 z] 25) 23 #[.int .i64 0, .int .i64 0, .int .i64 0]).three
  refine bodyPost_ret (v := .tuple #[.agg #[.int .i64 0, .int .i64 0, .int .i64 0], .bool false]) (by simp [results, Try.results7, go_sem, r0, r1, r2]) rfl ⟨rfl, Bnew (Bnew (B0 w) _) _⟩

set_option maxHeartbeats 1600000 in
theorem r22Of_high (x y z : Int) (h0 : 1 ≤ x) (h : 9 < x) (w : World) :
    Calls Try.prog 7 #[.agg #[.int .u64 x, .int .u64 y, .int .u64 z]] w fun e w' => e = .returned (.tuple #[.agg #[.int .i64 0, .int .i64 0, .int .i64 0], .bool false]) ∧ Below w.heap.size w w' := by
  have t0 : decide (x < 1) = false := decide_eq_false (by omega)
  have t1 : decide ((9 : Int) < x) = true := decide_eq_true (by omega)
  obtain ⟨x0, x1, x2⟩ := ((Held.new w 25 #[.int .u64 x, .int .u64 y, .int .u64 z]).alloc (.cells #[.int .i64 0, .int .i64 0, .int .i64 0] 23)).three
  go_enter Try.func7, Try.ntmps7
  go_wp2
  obtain ⟨r0, r1, r2⟩ := (Held.new2 w (.cells #[.int .u64 x, .int .u64 y, .int .u64 z] 25) 23 #[.int .i64 0, .int .i64 0, .int .i64 0]).three
  refine bodyPost_ret (v := .tuple #[.agg #[.int .i64 0, .int .i64 0, .int .i64 0], .bool false]) (by simp [results, Try.results7, go_sem, r0, r1, r2]) rfl ⟨rfl, Bnew (Bnew (B0 w) _) _⟩

set_option maxHeartbeats 1600000 in
theorem r22Of_no (x y z : Int) (h0 : 1 ≤ x) (h : x ≤ 9) (s0 s1 s2 : Int) (c0 : IntKind.i64.wrap x = s0) (c1 : IntKind.i64.wrap y = s1) (c2 : IntKind.i64.wrap z = s2) (hs0 : -9223372036854775808 ≤ s0 ∧ s0 ≤ 9223372036854775807) (hs1 : -9223372036854775808 ≤ s1 ∧ s1 ≤ 9223372036854775807) (hs2 : -9223372036854775808 ≤ s2 ∧ s2 ≤ 9223372036854775807) (hrt : opB s0 s1 s2 = false) (w : World) :
    Calls Try.prog 7 #[.agg #[.int .u64 x, .int .u64 y, .int .u64 z]] w fun e w' => e = .returned (.tuple #[.agg #[.int .i64 0, .int .i64 0, .int .i64 0], .bool false]) ∧ Below w.heap.size w w' := by
  have t0 : decide (x < 1) = false := decide_eq_false (by omega)
  have t1 : decide ((9 : Int) < x) = false := decide_eq_false (by omega)
  obtain ⟨x0, x1, x2⟩ := ((Held.new w 25 #[.int .u64 x, .int .u64 y, .int .u64 z]).alloc (.cells #[.int .i64 0, .int .i64 0, .int .i64 0] 23)).three
  have HR := hidp ((Held.new2 w (.cells #[.int .u64 x, .int .u64 y, .int .u64 z] 25) 23 #[.int .i64 0, .int .i64 0, .int .i64 0]).alloc (.cells #[.int .i64 s0, .int .i64 s1, .int .i64 s2] 23))
  have HO : Hid (Held (((w.alloc (.cells #[.int .u64 x, .int .u64 y, .int .u64 z] 25)).alloc (.cells #[.int .i64 0, .int .i64 0, .int .i64 0] 23)).alloc (.cells #[.int .i64 s0, .int .i64 s1, .int .i64 s2] 23)) (w.heap.size + 1 + 1) 23 #[.int .i64 s0, .int .i64 s1, .int .i64 s2]) := hidp (by
    have h := Held.new ((w.alloc (.cells #[.int .u64 x, .int .u64 y, .int .u64 z] 25)).alloc (.cells #[.int .i64 0, .int .i64 0, .int .i64 0] 23)) 23 #[.int .i64 s0, .int .i64 s1, .int .i64 s2]
    rw [World.size_alloc, World.size_alloc] at h
    exact h)
  have HB : Hid (Below w.heap.size w (((w.alloc (.cells #[.int .u64 x, .int .u64 y, .int .u64 z] 25)).alloc (.cells #[.int .i64 0, .int .i64 0, .int .i64 0] 23)).alloc (.cells #[.int .i64 s0, .int .i64 s1, .int .i64 s2] 23))) := hidp (Bnew (Bnew (Bnew (B0 w) _) _) _)
  obtain ⟨y0, y1, y2⟩ := HO.out.three
  obtain ⟨v0, v1, v2⟩ := HR.out.three
  have HRT := hidp hrt
  clear hrt
  go_enter Try.func7, Try.ntmps7
  go_wp2_with fail
  refine (r22Right_c s0 s1 s2 hs0 hs1 hs2 _).mono ?_; rintro e w1 ⟨rfl, hb⟩; rw [HRT.out]
  replace HR := hidp (HR.out.keep hb)
  replace HO := hidp (HO.out.keep hb)
  replace HB := hidp (Bgo HB.out hb)
  clear hb x0 x1 x2 y0 y1 y2 v0 v1 v2
  obtain ⟨y0, y1, y2⟩ := HO.out.three
  obtain ⟨v0, v1, v2⟩ := HR.out.three
  have f0 := HR.out.thawed 0
  have f1 := HR.out.thawed 1
  have f2 := HR.out.thawed 2
  have HF := hidp (((HR.out.put 0 (.int .i64 0)).put 1 (.int .i64 0)).put 2 (.int .i64 0))
  have HBF := hidp (((HB.out.setCell (p := ⟨w.heap.size + 1, 0, none⟩) (by simp) (.int .i64 0)).setCell (p := ⟨w.heap.size + 1, 1, none⟩) (by simp) (.int .i64 0)).setCell (p := ⟨w.heap.size + 1, 2, none⟩) (by simp) (.int .i64 0))
  obtain ⟨r0, r1, r2⟩ := HF.out.three
  go_wp2
  refine bodyPost_ret (v := .tuple #[.agg #[.int .i64 0, .int .i64 0, .int .i64 0], .bool false]) (by simp [results, Try.results7, go_sem, r0, r1, r2]) rfl ⟨rfl, HBF.out⟩

set_option maxHeartbeats 1600000 in
theorem r22Of_yes (x y z : Int) (h0 : 1 ≤ x) (h : x ≤ 9) (s0 s1 s2 : Int) (c0 : IntKind.i64.wrap x = s0) (c1 : IntKind.i64.wrap y = s1) (c2 : IntKind.i64.wrap z = s2) (hs0 : -9223372036854775808 ≤ s0 ∧ s0 ≤ 9223372036854775807) (hs1 : -9223372036854775808 ≤ s1 ∧ s1 ≤ 9223372036854775807) (hs2 : -9223372036854775808 ≤ s2 ∧ s2 ≤ 9223372036854775807) (hrt : opB s0 s1 s2 = true) (w : World) :
    Calls Try.prog 7 #[.agg #[.int .u64 x, .int .u64 y, .int .u64 z]] w fun e w' => e = .returned (.tuple #[.agg #[.int .i64 s0, .int .i64 s1, .int .i64 s2], .bool true]) ∧ Below w.heap.size w w' := by
  have t0 : decide (x < 1) = false := decide_eq_false (by omega)
  have t1 : decide ((9 : Int) < x) = false := decide_eq_false (by omega)
  obtain ⟨x0, x1, x2⟩ := ((Held.new w 25 #[.int .u64 x, .int .u64 y, .int .u64 z]).alloc (.cells #[.int .i64 0, .int .i64 0, .int .i64 0] 23)).three
  have HR := hidp ((Held.new2 w (.cells #[.int .u64 x, .int .u64 y, .int .u64 z] 25) 23 #[.int .i64 0, .int .i64 0, .int .i64 0]).alloc (.cells #[.int .i64 s0, .int .i64 s1, .int .i64 s2] 23))
  have HO : Hid (Held (((w.alloc (.cells #[.int .u64 x, .int .u64 y, .int .u64 z] 25)).alloc (.cells #[.int .i64 0, .int .i64 0, .int .i64 0] 23)).alloc (.cells #[.int .i64 s0, .int .i64 s1, .int .i64 s2] 23)) (w.heap.size + 1 + 1) 23 #[.int .i64 s0, .int .i64 s1, .int .i64 s2]) := hidp (by
    have h := Held.new ((w.alloc (.cells #[.int .u64 x, .int .u64 y, .int .u64 z] 25)).alloc (.cells #[.int .i64 0, .int .i64 0, .int .i64 0] 23)) 23 #[.int .i64 s0, .int .i64 s1, .int .i64 s2]
    rw [World.size_alloc, World.size_alloc] at h
    exact h)
  have HB : Hid (Below w.heap.size w (((w.alloc (.cells #[.int .u64 x, .int .u64 y, .int .u64 z] 25)).alloc (.cells #[.int .i64 0, .int .i64 0, .int .i64 0] 23)).alloc (.cells #[.int .i64 s0, .int .i64 s1, .int .i64 s2] 23))) := hidp (Bnew (Bnew (Bnew (B0 w) _) _) _)
  obtain ⟨y0, y1, y2⟩ := HO.out.three
  obtain ⟨v0, v1, v2⟩ := HR.out.three
  have HRT := hidp hrt
  clear hrt
  go_enter Try.func7, Try.ntmps7
  go_wp2_with fail
  refine (r22Right_c s0 s1 s2 hs0 hs1 hs2 _).mono ?_; rintro e w1 ⟨rfl, hb⟩; rw [HRT.out]
  replace HR := hidp (HR.out.keep hb)
  replace HO := hidp (HO.out.keep hb)
  replace HB := hidp (Bgo HB.out hb)
  clear hb x0 x1 x2 y0 y1 y2 v0 v1 v2
  obtain ⟨y0, y1, y2⟩ := HO.out.three
  obtain ⟨v0, v1, v2⟩ := HR.out.three
  have f0 := HR.out.thawed 0
  have f1 := HR.out.thawed 1
  have f2 := HR.out.thawed 2
  have HF := hidp (((HR.out.put 0 (.int .i64 s0)).put 1 (.int .i64 s1)).put 2 (.int .i64 s2))
  have HBF := hidp (((HB.out.setCell (p := ⟨w.heap.size + 1, 0, none⟩) (by simp) (.int .i64 s0)).setCell (p := ⟨w.heap.size + 1, 1, none⟩) (by simp) (.int .i64 s1)).setCell (p := ⟨w.heap.size + 1, 2, none⟩) (by simp) (.int .i64 s2))
  obtain ⟨r0, r1, r2⟩ := HF.out.three
  go_wp2
  refine bodyPost_ret (v := .tuple #[.agg #[.int .i64 s0, .int .i64 s1, .int .i64 s2], .bool true]) (by simp [results, Try.results7, go_sem, r0, r1, r2]) rfl ⟨rfl, HBF.out⟩

theorem r22Of_c (x y z : Int) (hx : 0 ≤ x ∧ x < 18446744073709551616) (hy : 0 ≤ y ∧ y < 18446744073709551616) (hz : 0 ≤ z ∧ z < 18446744073709551616) (w : World) :
    Calls Try.prog 7 #[.agg #[.int .u64 x, .int .u64 y, .int .u64 z]] w fun e w' => e = .returned (.tuple #[ofV x y z, .bool (ofB x y z)]) ∧ Below w.heap.size w w' := by
  by_cases h1 : x < 1
  · have e : ofB x y z = false := by unfold ofB; rw [decide_eq_false (by omega)]; rfl
    unfold ofV
    rw [e]
    exact r22Of_low x y z h1 w
  · by_cases h2 : 9 < x
    · have e : ofB x y z = false := by unfold ofB; rw [decide_eq_false (by omega)]; rfl
      unfold ofV
      rw [e]
      exact r22Of_high x y z (by omega) h2 w
    · have e : ofB x y z = opB (sgI x) (sgI y) (sgI z) := by unfold ofB; rw [decide_eq_true (by omega), Bool.true_and]
      unfold ofV
      cases hr : opB (sgI x) (sgI y) (sgI z) with
      | false =>
        rw [e, hr]
        exact r22Of_no x y z (by omega) (by omega) _ _ _ rfl rfl rfl (sgI_lim x) (sgI_lim y) (sgI_lim z) hr w
      | true =>
        rw [e, hr]
        exact r22Of_yes x y z (by omega) (by omega) _ _ _ rfl rfl rfl (sgI_lim x) (sgI_lim y) (sgI_lim z) hr w

theorem Held.fourR {w : World} {g : Nat} {t : TypeId} {c0 c1 c2 c3 : Value} (h : Held w g t #[c0, c1, c2, c3]) : w.cell? ⟨g, 0, none⟩ = some c0 ∧ w.cell? ⟨g, 1, none⟩ = some c1 ∧ w.cell? ⟨g, 2, none⟩ = some c2 ∧ w.cell? ⟨g, 3, none⟩ = some c3 := ⟨h.cell 0, h.cell 1, h.cell 2, h.cell 3⟩
theorem u32_at {x : Int} (h : 0 ≤ x ∧ x ≤ 4294967295) : IntKind.u32.wrap x = x := by
  obtain ⟨n, rfl⟩ := Int.eq_ofNat_of_zero_le h.1
  exact wrap_nat32 n (by omega)

set_option maxHeartbeats 1600000 in
theorem r22Vals_a0 (num err out aux : Int)  (h : num < 0) (w : World) :
    Calls Try.prog 14 #[.int .i64 num, .agg #[.int .i64 err, .int .i64 out, .int .i64 aux]] w fun e w' => e = .returned (.tuple #[.agg #[.int .u32 0, .int .u32 0, .int .u32 0, .int .u32 0], .bool false]) ∧ Below w.heap.size w w' := by
  have t0 : decide (num < 0) = true := decide_eq_true (by omega)
  obtain ⟨x0, x1, x2⟩ := (((Held.new w 34 #[.int .i64 err, .int .i64 out, .int .i64 aux]).alloc (.cells #[.int .u32 0, .int .u32 0, .int .u32 0, .int .u32 0] 36)).alloc (.cells #[.int .u32 0, .int .u32 0, .int .u32 0, .int .u32 0] 36)).three
  go_enter Try.func14, Try.ntmps14
  go_wp2
  obtain ⟨r0, r1, r2, r3⟩ := ((Held.new2 w (.cells #[.int .i64 err, .int .i64 out, .int .i64 aux] 34) 36 #[.int .u32 0, .int .u32 0, .int .u32 0, .int .u32 0]).alloc (.cells #[.int .u32 0, .int .u32 0, .int .u32 0, .int .u32 0] 36)).fourR
  refine bodyPost_ret (v := .tuple #[.agg #[.int .u32 0, .int .u32 0, .int .u32 0, .int .u32 0], .bool false]) (by simp [results, Try.results14, go_sem, r0, r1, r2, r3]) rfl ⟨rfl, Bnew (Bnew (Bnew (B0 w) _) _) _⟩

set_option maxHeartbeats 1600000 in
theorem r22Vals_b0 (num err out aux : Int)  (h : (2147483647 : Int) < num) (w : World) :
    Calls Try.prog 14 #[.int .i64 num, .agg #[.int .i64 err, .int .i64 out, .int .i64 aux]] w fun e w' => e = .returned (.tuple #[.agg #[.int .u32 0, .int .u32 0, .int .u32 0, .int .u32 0], .bool false]) ∧ Below w.heap.size w w' := by
  have t0 : decide (num < 0) = false := decide_eq_false (by omega)
  have t1 : decide ((2147483647 : Int) < num) = true := decide_eq_true (by omega)
  obtain ⟨x0, x1, x2⟩ := (((Held.new w 34 #[.int .i64 err, .int .i64 out, .int .i64 aux]).alloc (.cells #[.int .u32 0, .int .u32 0, .int .u32 0, .int .u32 0] 36)).alloc (.cells #[.int .u32 0, .int .u32 0, .int .u32 0, .int .u32 0] 36)).three
  go_enter Try.func14, Try.ntmps14
  go_wp2
  obtain ⟨r0, r1, r2, r3⟩ := ((Held.new2 w (.cells #[.int .i64 err, .int .i64 out, .int .i64 aux] 34) 36 #[.int .u32 0, .int .u32 0, .int .u32 0, .int .u32 0]).alloc (.cells #[.int .u32 0, .int .u32 0, .int .u32 0, .int .u32 0] 36)).fourR
  refine bodyPost_ret (v := .tuple #[.agg #[.int .u32 0, .int .u32 0, .int .u32 0, .int .u32 0], .bool false]) (by simp [results, Try.results14, go_sem, r0, r1, r2, r3]) rfl ⟨rfl, Bnew (Bnew (Bnew (B0 w) _) _) _⟩

set_option maxHeartbeats 1600000 in
theorem r22Vals_a1 (num err out aux : Int) (k0 : 0 ≤ num ∧ num ≤ 2147483647) (h : err < 0) (w : World) :
    Calls Try.prog 14 #[.int .i64 num, .agg #[.int .i64 err, .int .i64 out, .int .i64 aux]] w fun e w' => e = .returned (.tuple #[.agg #[.int .u32 0, .int .u32 0, .int .u32 0, .int .u32 0], .bool false]) ∧ Below w.heap.size w w' := by
  have t0 : decide (num < 0) = false := decide_eq_false (by omega)
  have t1 : decide ((2147483647 : Int) < num) = false := decide_eq_false (by omega)
  have t2 : decide (err < 0) = true := decide_eq_true (by omega)
  obtain ⟨x0, x1, x2⟩ := (((Held.new w 34 #[.int .i64 err, .int .i64 out, .int .i64 aux]).alloc (.cells #[.int .u32 0, .int .u32 0, .int .u32 0, .int .u32 0] 36)).alloc (.cells #[.int .u32 0, .int .u32 0, .int .u32 0, .int .u32 0] 36)).three
  go_enter Try.func14, Try.ntmps14
  go_wp2
  obtain ⟨r0, r1, r2, r3⟩ := ((Held.new2 w (.cells #[.int .i64 err, .int .i64 out, .int .i64 aux] 34) 36 #[.int .u32 0, .int .u32 0, .int .u32 0, .int .u32 0]).alloc (.cells #[.int .u32 0, .int .u32 0, .int .u32 0, .int .u32 0] 36)).fourR
  refine bodyPost_ret (v := .tuple #[.agg #[.int .u32 0, .int .u32 0, .int .u32 0, .int .u32 0], .bool false]) (by simp [results, Try.results14, go_sem, r0, r1, r2, r3]) rfl ⟨rfl, Bnew (Bnew (Bnew (B0 w) _) _) _⟩

set_option maxHeartbeats 1600000 in
theorem r22Vals_b1 (num err out aux : Int) (k0 : 0 ≤ num ∧ num ≤ 2147483647) (h : (4294967295 : Int) < err) (w : World) :
    Calls Try.prog 14 #[.int .i64 num, .agg #[.int .i64 err, .int .i64 out, .int .i64 aux]] w fun e w' => e = .returned (.tuple #[.agg #[.int .u32 0, .int .u32 0, .int .u32 0, .int .u32 0], .bool false]) ∧ Below w.heap.size w w' := by
  have t0 : decide (num < 0) = false := decide_eq_false (by omega)
  have t1 : decide ((2147483647 : Int) < num) = false := decide_eq_false (by omega)
  have t2 : decide (err < 0) = false := decide_eq_false (by omega)
  have t3 : decide ((4294967295 : Int) < err) = true := decide_eq_true (by omega)
  obtain ⟨x0, x1, x2⟩ := (((Held.new w 34 #[.int .i64 err, .int .i64 out, .int .i64 aux]).alloc (.cells #[.int .u32 0, .int .u32 0, .int .u32 0, .int .u32 0] 36)).alloc (.cells #[.int .u32 0, .int .u32 0, .int .u32 0, .int .u32 0] 36)).three
  go_enter Try.func14, Try.ntmps14
  go_wp2
  obtain ⟨r0, r1, r2, r3⟩ := ((Held.new2 w (.cells #[.int .i64 err, .int .i64 out, .int .i64 aux] 34) 36 #[.int .u32 0, .int .u32 0, .int .u32 0, .int .u32 0]).alloc (.cells #[.int .u32 0, .int .u32 0, .int .u32 0, .int .u32 0] 36)).fourR
  refine bodyPost_ret (v := .tuple #[.agg #[.int .u32 0, .int .u32 0, .int .u32 0, .int .u32 0], .bool false]) (by simp [results, Try.results14, go_sem, r0, r1, r2, r3]) rfl ⟨rfl, Bnew (Bnew (Bnew (B0 w) _) _) _⟩

set_option maxHeartbeats 1600000 in
theorem r22Vals_a2 (num err out aux : Int) (k0 : 0 ≤ num ∧ num ≤ 2147483647) (k1 : 0 ≤ err ∧ err ≤ 4294967295) (h : out < 0) (w : World) :
    Calls Try.prog 14 #[.int .i64 num, .agg #[.int .i64 err, .int .i64 out, .int .i64 aux]] w fun e w' => e = .returned (.tuple #[.agg #[.int .u32 0, .int .u32 0, .int .u32 0, .int .u32 0], .bool false]) ∧ Below w.heap.size w w' := by
  have t0 : decide (num < 0) = false := decide_eq_false (by omega)
  have t1 : decide ((2147483647 : Int) < num) = false := decide_eq_false (by omega)
  have t2 : decide (err < 0) = false := decide_eq_false (by omega)
  have t3 : decide ((4294967295 : Int) < err) = false := decide_eq_false (by omega)
  have t4 : decide (out < 0) = true := decide_eq_true (by omega)
  obtain ⟨x0, x1, x2⟩ := (((Held.new w 34 #[.int .i64 err, .int .i64 out, .int .i64 aux]).alloc (.cells #[.int .u32 0, .int .u32 0, .int .u32 0, .int .u32 0] 36)).alloc (.cells #[.int .u32 0, .int .u32 0, .int .u32 0, .int .u32 0] 36)).three
  go_enter Try.func14, Try.ntmps14
  go_wp2
  obtain ⟨r0, r1, r2, r3⟩ := ((Held.new2 w (.cells #[.int .i64 err, .int .i64 out, .int .i64 aux] 34) 36 #[.int .u32 0, .int .u32 0, .int .u32 0, .int .u32 0]).alloc (.cells #[.int .u32 0, .int .u32 0, .int .u32 0, .int .u32 0] 36)).fourR
  refine bodyPost_ret (v := .tuple #[.agg #[.int .u32 0, .int .u32 0, .int .u32 0, .int .u32 0], .bool false]) (by simp [results, Try.results14, go_sem, r0, r1, r2, r3]) rfl ⟨rfl, Bnew (Bnew (Bnew (B0 w) _) _) _⟩

set_option maxHeartbeats 1600000 in
theorem r22Vals_b2 (num err out aux : Int) (k0 : 0 ≤ num ∧ num ≤ 2147483647) (k1 : 0 ≤ err ∧ err ≤ 4294967295) (h : (4294967295 : Int) < out) (w : World) :
    Calls Try.prog 14 #[.int .i64 num, .agg #[.int .i64 err, .int .i64 out, .int .i64 aux]] w fun e w' => e = .returned (.tuple #[.agg #[.int .u32 0, .int .u32 0, .int .u32 0, .int .u32 0], .bool false]) ∧ Below w.heap.size w w' := by
  have t0 : decide (num < 0) = false := decide_eq_false (by omega)
  have t1 : decide ((2147483647 : Int) < num) = false := decide_eq_false (by omega)
  have t2 : decide (err < 0) = false := decide_eq_false (by omega)
  have t3 : decide ((4294967295 : Int) < err) = false := decide_eq_false (by omega)
  have t4 : decide (out < 0) = false := decide_eq_false (by omega)
  have t5 : decide ((4294967295 : Int) < out) = true := decide_eq_true (by omega)
  obtain ⟨x0, x1, x2⟩ := (((Held.new w 34 #[.int .i64 err, .int .i64 out, .int .i64 aux]).alloc (.cells #[.int .u32 0, .int .u32 0, .int .u32 0, .int .u32 0] 36)).alloc (.cells #[.int .u32 0, .int .u32 0, .int .u32 0, .int .u32 0] 36)).three
  go_enter Try.func14, Try.ntmps14
  go_wp2
  obtain ⟨r0, r1, r2, r3⟩ := ((Held.new2 w (.cells #[.int .i64 err, .int .i64 out, .int .i64 aux] 34) 36 #[.int .u32 0, .int .u32 0, .int .u32 0, .int .u32 0]).alloc (.cells #[.int .u32 0, .int .u32 0, .int .u32 0, .int .u32 0] 36)).fourR
  refine bodyPost_ret (v := .tuple #[.agg #[.int .u32 0, .int .u32 0, .int .u32 0, .int .u32 0], .bool false]) (by simp [results, Try.results14, go_sem, r0, r1, r2, r3]) rfl ⟨rfl, Bnew (Bnew (Bnew (B0 w) _) _) _⟩

set_option maxHeartbeats 1600000 in
theorem r22Vals_a3 (num err out aux : Int) (k0 : 0 ≤ num ∧ num ≤ 2147483647) (k1 : 0 ≤ err ∧ err ≤ 4294967295) (k2 : 0 ≤ out ∧ out ≤ 4294967295) (h : aux < 0) (w : World) :
    Calls Try.prog 14 #[.int .i64 num, .agg #[.int .i64 err, .int .i64 out, .int .i64 aux]] w fun e w' => e = .returned (.tuple #[.agg #[.int .u32 0, .int .u32 0, .int .u32 0, .int .u32 0], .bool false]) ∧ Below w.heap.size w w' := by
  have t0 : decide (num < 0) = false := decide_eq_false (by omega)
  have t1 : decide ((2147483647 : Int) < num) = false := decide_eq_false (by omega)
  have t2 : decide (err < 0) = false := decide_eq_false (by omega)
  have t3 : decide ((4294967295 : Int) < err) = false := decide_eq_false (by omega)
  have t4 : decide (out < 0) = false := decide_eq_false (by omega)
  have t5 : decide ((4294967295 : Int) < out) = false := decide_eq_false (by omega)
  have t6 : decide (aux < 0) = true := decide_eq_true (by omega)
  obtain ⟨x0, x1, x2⟩ := (((Held.new w 34 #[.int .i64 err, .int .i64 out, .int .i64 aux]).alloc (.cells #[.int .u32 0, .int .u32 0, .int .u32 0, .int .u32 0] 36)).alloc (.cells #[.int .u32 0, .int .u32 0, .int .u32 0, .int .u32 0] 36)).three
  go_enter Try.func14, Try.ntmps14
  go_wp2
  obtain ⟨r0, r1, r2, r3⟩ := ((Held.new2 w (.cells #[.int .i64 err, .int .i64 out, .int .i64 aux] 34) 36 #[.int .u32 0, .int .u32 0, .int .u32 0, .int .u32 0]).alloc (.cells #[.int .u32 0, .int .u32 0, .int .u32 0, .int .u32 0] 36)).fourR
  refine bodyPost_ret (v := .tuple #[.agg #[.int .u32 0, .int .u32 0, .int .u32 0, .int .u32 0], .bool false]) (by simp [results, Try.results14, go_sem, r0, r1, r2, r3]) rfl ⟨rfl, Bnew (Bnew (Bnew (B0 w) _) _) _⟩

set_option maxHeartbeats 1600000 in
theorem r22Vals_b3 (num err out aux : Int) (k0 : 0 ≤ num ∧ num ≤ 2147483647) (k1 : 0 ≤ err ∧ err ≤ 4294967295) (k2 : 0 ≤ out ∧ out ≤ 4294967295) (h : (4294967295 : Int) < aux) (w : World) :
    Calls Try.prog 14 #[.int .i64 num, .agg #[.int .i64 err, .int .i64 out, .int .i64 aux]] w fun e w' => e = .returned (.tuple #[.agg #[.int .u32 0, .int .u32 0, .int .u32 0, .int .u32 0], .bool false]) ∧ Below w.heap.size w w' := by
  have t0 : decide (num < 0) = false := decide_eq_false (by omega)
  have t1 : decide ((2147483647 : Int) < num) = false := decide_eq_false (by omega)
  have t2 : decide (err < 0) = false := decide_eq_false (by omega)
  have t3 : decide ((4294967295 : Int) < err) = false := decide_eq_false (by omega)
  have t4 : decide (out < 0) = false := decide_eq_false (by omega)
  have t5 : decide ((4294967295 : Int) < out) = false := decide_eq_false (by omega)
  have t6 : decide (aux < 0) = false := decide_eq_false (by omega)
  have t7 : decide ((4294967295 : Int) < aux) = true := decide_eq_true (by omega)
  obtain ⟨x0, x1, x2⟩ := (((Held.new w 34 #[.int .i64 err, .int .i64 out, .int .i64 aux]).alloc (.cells #[.int .u32 0, .int .u32 0, .int .u32 0, .int .u32 0] 36)).alloc (.cells #[.int .u32 0, .int .u32 0, .int .u32 0, .int .u32 0] 36)).three
  go_enter Try.func14, Try.ntmps14
  go_wp2
  obtain ⟨r0, r1, r2, r3⟩ := ((Held.new2 w (.cells #[.int .i64 err, .int .i64 out, .int .i64 aux] 34) 36 #[.int .u32 0, .int .u32 0, .int .u32 0, .int .u32 0]).alloc (.cells #[.int .u32 0, .int .u32 0, .int .u32 0, .int .u32 0] 36)).fourR
  refine bodyPost_ret (v := .tuple #[.agg #[.int .u32 0, .int .u32 0, .int .u32 0, .int .u32 0], .bool false]) (by simp [results, Try.results14, go_sem, r0, r1, r2, r3]) rfl ⟨rfl, Bnew (Bnew (Bnew (B0 w) _) _) _⟩

set_option maxHeartbeats 1600000 in
theorem r22Vals_ok (num err out aux : Int) (k0 : 0 ≤ num ∧ num ≤ 2147483647) (k1 : 0 ≤ err ∧ err ≤ 4294967295) (k2 : 0 ≤ out ∧ out ≤ 4294967295) (k3 : 0 ≤ aux ∧ aux ≤ 4294967295) (w : World) :
    Calls Try.prog 14 #[.int .i64 num, .agg #[.int .i64 err, .int .i64 out, .int .i64 aux]] w fun e w' => e = .returned (.tuple #[.agg #[.int .u32 num, .int .u32 err, .int .u32 out, .int .u32 aux], .bool true]) ∧ Below w.heap.size w w' := by
  have t0 : decide (num < 0) = false := decide_eq_false (by omega)
  have t1 : decide ((2147483647 : Int) < num) = false := decide_eq_false (by omega)
  have t2 : decide (err < 0) = false := decide_eq_false (by omega)
  have t3 : decide ((4294967295 : Int) < err) = false := decide_eq_false (by omega)
  have t4 : decide (out < 0) = false := decide_eq_false (by omega)
  have t5 : decide ((4294967295 : Int) < out) = false := decide_eq_false (by omega)
  have t6 : decide (aux < 0) = false := decide_eq_false (by omega)
  have t7 : decide ((4294967295 : Int) < aux) = false := decide_eq_false (by omega)
  have c0 : IntKind.u32.wrap num = num := u32_at (by omega)
  have c1 : IntKind.u32.wrap err = err := u32_at (by omega)
  have c2 : IntKind.u32.wrap out = out := u32_at (by omega)
  have c3 : IntKind.u32.wrap aux = aux := u32_at (by omega)
  obtain ⟨x0, x1, x2⟩ := (((Held.new w 34 #[.int .i64 err, .int .i64 out, .int .i64 aux]).alloc (.cells #[.int .u32 0, .int .u32 0, .int .u32 0, .int .u32 0] 36)).alloc (.cells #[.int .u32 0, .int .u32 0, .int .u32 0, .int .u32 0] 36)).three
  go_enter Try.func14, Try.ntmps14
  go_wp2
  obtain ⟨r0, r1, r2, r3⟩ := ((Held.new2 w (.cells #[.int .i64 err, .int .i64 out, .int .i64 aux] 34) 36 #[.int .u32 num, .int .u32 err, .int .u32 out, .int .u32 aux]).alloc (.cells #[.int .u32 num, .int .u32 err, .int .u32 out, .int .u32 aux] 36)).fourR
  refine bodyPost_ret (v := .tuple #[.agg #[.int .u32 num, .int .u32 err, .int .u32 out, .int .u32 aux], .bool true]) (by simp [results, Try.results14, go_sem, r0, r1, r2, r3]) rfl ⟨rfl, Bnew (Bnew (Bnew (B0 w) _) _) _⟩

theorem r22Vals_c (num err out aux : Int) (hnum : -9223372036854775808 ≤ num ∧ num ≤ 9223372036854775807) (herr : -9223372036854775808 ≤ err ∧ err ≤ 9223372036854775807) (hout : -9223372036854775808 ≤ out ∧ out ≤ 9223372036854775807) (haux : -9223372036854775808 ≤ aux ∧ aux ≤ 9223372036854775807) (w : World) :
    Calls Try.prog 14 #[.int .i64 num, .agg #[.int .i64 err, .int .i64 out, .int .i64 aux]] w fun e w' => e = .returned (.tuple #[vlV num err out aux, .bool (vlB num err out aux)]) ∧ Below w.heap.size w w' := by
  by_cases a0 : num < 0
  · have e : vlB num err out aux = false := decide_eq_false (by omega)
    unfold vlV
    rw [e]
    exact r22Vals_a0 num err out aux  a0 w
  by_cases b0 : (2147483647 : Int) < num
  · have e : vlB num err out aux = false := decide_eq_false (by omega)
    unfold vlV
    rw [e]
    exact r22Vals_b0 num err out aux  b0 w
  have k0 : 0 ≤ num ∧ num ≤ 2147483647 := ⟨by omega, by omega⟩
  by_cases a1 : err < 0
  · have e : vlB num err out aux = false := decide_eq_false (by omega)
    unfold vlV
    rw [e]
    exact r22Vals_a1 num err out aux k0 a1 w
  by_cases b1 : (4294967295 : Int) < err
  · have e : vlB num err out aux = false := decide_eq_false (by omega)
    unfold vlV
    rw [e]
    exact r22Vals_b1 num err out aux k0 b1 w
  have k1 : 0 ≤ err ∧ err ≤ 4294967295 := ⟨by omega, by omega⟩
  by_cases a2 : out < 0
  · have e : vlB num err out aux = false := decide_eq_false (by omega)
    unfold vlV
    rw [e]
    exact r22Vals_a2 num err out aux k0 k1 a2 w
  by_cases b2 : (4294967295 : Int) < out
  · have e : vlB num err out aux = false := decide_eq_false (by omega)
    unfold vlV
    rw [e]
    exact r22Vals_b2 num err out aux k0 k1 b2 w
  have k2 : 0 ≤ out ∧ out ≤ 4294967295 := ⟨by omega, by omega⟩
  by_cases a3 : aux < 0
  · have e : vlB num err out aux = false := decide_eq_false (by omega)
    unfold vlV
    rw [e]
    exact r22Vals_a3 num err out aux k0 k1 k2 a3 w
  by_cases b3 : (4294967295 : Int) < aux
  · have e : vlB num err out aux = false := decide_eq_false (by omega)
    unfold vlV
    rw [e]
    exact r22Vals_b3 num err out aux k0 k1 k2 b3 w
  have k3 : 0 ≤ aux ∧ aux ≤ 4294967295 := ⟨by omega, by omega⟩
  have e : vlB num err out aux = true := decide_eq_true ⟨k0, k1, k2, k3⟩
  unfold vlV
  rw [e]
  exact r22Vals_ok num err out aux k0 k1 k2 k3 w
end Go.Proofs.Ytgfaefhkoaccbaa
