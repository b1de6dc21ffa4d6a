/-
  Contracts of the document's answers to place (nacreref07).
-/
import Derived.Test.YtiinomkppehkjaaPlaceAt
import Derived.Deep.RegionHeld3
import Derived.IntWalk
import Derived.KernelRfl
namespace Go.Proofs.Ytiinomkppehkjaa
open Go.ChangeShapes Go.WideShapes Go.ChangeAt Go.RowKit
set_option linter.unusedVariables false
set_option linter.unusedSimpArgs false

theorem w64 {x : Int} (h : -9223372036854775808 ≤ x) (h' : x ≤ 9223372036854775807) : IntKind.i64.wrap x = x := by
  simp only [IntKind.wrap, IntKind.bits, IntKind.signed]; simp; omega

theorem r7Bin_c (k : Int) (w : World) :
    Calls Try.prog 8 #[.int .i64 k] w fun z w' => z = .returned (.int .i64 (nthI 2 11 1 k)) ∧ w = w' := by
  by_cases c0 : k < 0
  · have HN := hidp (nth_off (f := 2) (n := 11) (e := 1) (.inr (.inl c0)))
    go_enter Try.func8, Try.ntmps8
    go_wp2
    go_ret
    exact ⟨by rw [HN.out]; rfl, rfl⟩
  · by_cases c1 : 11 ≤ k
    · have HN := hidp (nth_off (f := 2) (n := 11) (e := 1) (.inr (.inr c1)))
      go_enter Try.func8, Try.ntmps8
      go_wp2
      go_ret
      exact ⟨by rw [HN.out]; rfl, rfl⟩
    · have HN := hidp (show nthI 2 11 1 k = 2 + k by rw [nth_on (by omega) (by omega) (by omega)]; omega)
      go_enter Try.func8, Try.ntmps8
      go_wp2
      go_ret
      exact ⟨by rw [HN.out]; rfl, rfl⟩

theorem r7Rack_c (k : Int) (w : World) :
    Calls Try.prog 10 #[.int .i64 k] w fun z w' => z = .returned (.int .i64 (nthI 13 9 1 k)) ∧ w = w' := by
  by_cases c0 : k < 0
  · have HN := hidp (nth_off (f := 13) (n := 9) (e := 1) (.inr (.inl c0)))
    go_enter Try.func10, Try.ntmps10
    go_wp2
    go_ret
    exact ⟨by rw [HN.out]; rfl, rfl⟩
  · by_cases c1 : 9 ≤ k
    · have HN := hidp (nth_off (f := 13) (n := 9) (e := 1) (.inr (.inr c1)))
      go_enter Try.func10, Try.ntmps10
      go_wp2
      go_ret
      exact ⟨by rw [HN.out]; rfl, rfl⟩
    · have HN := hidp (show nthI 13 9 1 k = 13 + k by rw [nth_on (by omega) (by omega) (by omega)]; omega)
      go_enter Try.func10, Try.ntmps10
      go_wp2
      go_ret
      exact ⟨by rw [HN.out]; rfl, rfl⟩

theorem r7Root_c (k : Int) (w : World) :
    Calls Try.prog 12 #[.int .i64 k] w fun z w' => z = .returned (.int .i64 (nthI 22 8 1 k)) ∧ w = w' := by
  by_cases c0 : k < 0
  · have HN := hidp (nth_off (f := 22) (n := 8) (e := 1) (.inr (.inl c0)))
    go_enter Try.func12, Try.ntmps12
    go_wp2
    go_ret
    exact ⟨by rw [HN.out]; rfl, rfl⟩
  · by_cases c1 : 8 ≤ k
    · have HN := hidp (nth_off (f := 22) (n := 8) (e := 1) (.inr (.inr c1)))
      go_enter Try.func12, Try.ntmps12
      go_wp2
      go_ret
      exact ⟨by rw [HN.out]; rfl, rfl⟩
    · have HN := hidp (show nthI 22 8 1 k = 22 + k by rw [nth_on (by omega) (by omega) (by omega)]; omega)
      go_enter Try.func12, Try.ntmps12
      go_wp2
      go_ret
      exact ⟨by rw [HN.out]; rfl, rfl⟩

theorem r7Cells_c (t p s : Int) (w : World) :
    Calls Try.prog 16 #[.agg #[.int .i64 t, .int .i64 p, .int .i64 s]] w fun z w' => z = .returned (.int .i64 (lC t p s)) ∧ Below w.heap.size w w' := by
  have hc := Held.new w 23 #[.int .i64 t, .int .i64 p, .int .i64 s]
  cases hr : rightB t p s
  · have HR := hidp hr
    have HN := hidp (lay_no hr).hC
    clear hr
    go_enter Try.func16, Try.ntmps16
    go_wp2_with fail
    refine (r4Right_c t p s _).mono ?_
    rintro e w1 ⟨rfl, hb1⟩
    rw [HR.out]
    have hc1 := hc.keep hb1
    obtain ⟨x0, x1, x2⟩ := hc1.three
    go_wp2
    go_ret
    exact ⟨by rw [HN.out]; rfl, Bgo (Bnew (B0 _) _) hb1⟩
  · have HR := hidp hr
    have HN := hidp (lay_yes hr).hC
    have hn := (rightB_iff t p s).1 hr
    have t0 : 1 ≤ t := by omega
    have t1 : t ≤ 16 := by omega
    have p0 : 4 ≤ p := by omega
    have p1 : p ≤ 1024 := by omega
    clear hn
    clear hr
    go_enter Try.func16, Try.ntmps16
    go_wp2_with fail
    refine (r4Right_c t p s _).mono ?_
    rintro e w1 ⟨rfl, hb1⟩
    rw [HR.out]
    have hc1 := hc.keep hb1
    obtain ⟨x0, x1, x2⟩ := hc1.three
    go_wp2
    go_ret
    exact ⟨by rw [HN.out]; rfl, Bgo (Bnew (B0 _) _) hb1⟩

theorem r7First_c (t p s m : Int) (hr : rightB t p s = true) (hm : lM t p s = m) (w : World) :
    Calls Try.prog 48 #[.agg #[.int .i64 t, .int .i64 p, .int .i64 s]] w fun z w' => z = .returned (.int .i64 m) ∧ Below w.heap.size w w' := by
  obtain ⟨f1, f2, f3, f4, f5, f6⟩ := first_far hr
  have hb := lay_bounds t p s
  rw [hm] at f1 f2 f3 f5 hb
  obtain ⟨y, hy⟩ : ∃ y, lC t p s = y := ⟨_, rfl⟩
  rw [hy] at f2 f3 f4 hb
  have y1 : y ≤ 6238 := by omega
  have HY := hidp hy
  clear hb hm hy hr f6
  go_enter Try.func48, Try.ntmps48
  go_wp2_with fail
  refine (r7Cells_c t p s _).mono ?_
  rintro e w1 ⟨rfl, hb1⟩
  rw [HY.out]
  have HB := hidp hb1
  clear hb1
  go_wp2
  go_loopw [3] (fun i wr => ∃ n : Int, i = .int .i64 n ∧ 16 + y ≤ n ∧ n ≤ m ∧ wr = w1) (fun i _ => (m - intOf i).toNat)
  case atStart => exact ⟨16 + y, rfl, by omega, by omega, rfl⟩
  case round =>
    obtain ⟨n, rfl, n0, n1, rfl⟩ := hrel
    by_cases he : n % 8 = 0
    · obtain rfl : n = m := by omega
      have g : n.tmod 8 = 0 := by rw [Int.tmod_eq_emod_of_nonneg (by omega)]; exact he
      go_wp2
      go_ret
      exact ⟨by first | rfl | trivial, Bgo (Bnew (B0 _) _) HB.out⟩
    · have g : (n % 8 == 0) = false := by simpa using he
      go_wp2
      refine ⟨⟨n + 1, rfl, by omega, by omega, trivial⟩, ?_⟩
      simp [intOf]
      omega

set_option maxHeartbeats 1600000 in
theorem r7Words_c (t p s : Int) (w : World) :
    Calls Try.prog 31 #[.agg #[.int .i64 t, .int .i64 p, .int .i64 s]] w fun z w' => z = .returned (.int .i64 (lW t p s)) ∧ Below w.heap.size w w' := by
  have hc := Held.new w 23 #[.int .i64 t, .int .i64 p, .int .i64 s]
  cases hr : rightB t p s
  · have HR := hidp hr
    have HN := hidp (show lW t p s = 0 by unfold lW; rw [(lay_no hr).hM, (lay_no hr).hK]; rfl)
    clear hr
    go_enter Try.func31, Try.ntmps31
    go_wp2_with fail
    refine (r4Right_c t p s _).mono ?_
    rintro e w1 ⟨rfl, hb1⟩
    rw [HR.out]
    have hc1 := hc.keep hb1
    obtain ⟨x0, x1, x2⟩ := hc1.three
    go_wp2
    go_ret
    exact ⟨by rw [HN.out]; rfl, Bgo (Bnew (B0 _) _) hb1⟩
  · have HR := hidp hr
    obtain ⟨m, hm⟩ : ∃ m, lM t p s = m := ⟨_, rfl⟩
    have hb := (lay_bounds t p s)
    rw [hm] at hb
    have m0 : 0 ≤ m := by omega
    have m1 : m ≤ 6256 := by omega
    have HN := hidp (show lW t p s = m + 120 * (t + 1) by unfold lW; rw [hm, (lay_yes hr).hK]; omega)
    have HM := hidp hm
    have hn := (rightB_iff t p s).1 hr
    have t0 : 1 ≤ t := by omega
    have t1 : t ≤ 16 := by omega
    have p0 : 4 ≤ p := by omega
    have p1 : p ≤ 1024 := by omega
    clear hn
    clear hr hb hm
    go_enter Try.func31, Try.ntmps31
    go_wp2_with fail
    refine (r4Right_c t p s _).mono ?_
    rintro e w1 ⟨rfl, hb1⟩
    rw [HR.out]
    have hc1 := hc.keep hb1
    obtain ⟨x0, x1, x2⟩ := hc1.three
    go_wp2_with fail
    go_region_held3 (fun w' => w'.cell? ⟨w.heap.size, 0, none⟩ = some (.int .i64 t) ∧ w'.cell? ⟨w.heap.size, 1, none⟩ = some (.int .i64 p) ∧ w'.cell? ⟨w.heap.size, 2, none⟩ = some (.int .i64 s))
      (first | exact ⟨x0, x1, x2⟩ | go_keep | exact ⟨hst _ _ (by assumption), hst _ _ (by assumption), hst _ _ (by assumption)⟩)
      (first
        | (go_at_call 48; refine (r7First_c t p s m HR.out HM.out _).mono ?_; rintro e w' ⟨rfl, hbl⟩; have hst := cells_stay hbl))
    go_wp2
    go_ret
    have W1 := w64 (x := t + 1) (by omega) (by omega)
    have W2 := w64 (x := 120 * (t + 1)) (by omega) (by omega)
    have W3 := w64 (x := m + 120 * (t + 1)) (by omega) (by omega)
    refine ⟨by rw [HN.out]; exact ret_int (by rw [W1, W2, W3]), ?_⟩
    repeat (first | exact B0 _ | (with_reducible refine Bgo ?_ (by assumption)) | (with_reducible refine Bdrew ?_) | (with_reducible refine Bdraw ?_ _) | (with_reducible refine Bnew ?_ _) | (with_reducible refine Bput ?_ (by first | (simp; done) | (simp; omega)) _))

set_option maxHeartbeats 1600000 in
theorem r7Done_c (t p s q f : Int) (w : World) :
    Calls Try.prog 14 #[.agg #[.int .i64 t, .int .i64 p, .int .i64 s], .int .i64 q, .int .i64 f] w fun z w' => z = .returned (.int .i64 (doneI t p s q f)) ∧ Below w.heap.size w w' := by
  have hc := Held.new w 23 #[.int .i64 t, .int .i64 p, .int .i64 s]
  cases hr : rightB t p s
  · have HR := hidp hr
    have HN := hidp (show doneI t p s q f = -1 from done_no (by intro h; rw [h.1] at hr; cases hr))
    clear hr
    go_enter Try.func14, Try.ntmps14
    go_wp2_with fail
    refine (r4Right_c t p s _).mono ?_
    rintro e w1 ⟨rfl, hb1⟩
    rw [HR.out]
    have hc1 := hc.keep hb1
    obtain ⟨x0, x1, x2⟩ := hc1.three
    go_wp2
    go_ret
    refine ⟨by rw [HN.out]; rfl, ?_⟩
    repeat (first | exact B0 _ | (with_reducible refine Bgo ?_ (by assumption)) | (with_reducible refine Bdrew ?_) | (with_reducible refine Bdraw ?_ _) | (with_reducible refine Bnew ?_ _) | (with_reducible refine Bput ?_ (by first | (simp; done) | (simp; omega)) _))
  · have HR := hidp hr
    have hn := (rightB_iff t p s).1 hr
    have t0 : 1 ≤ t := by omega
    have t1 : t ≤ 16 := by omega
    have p0 : 4 ≤ p := by omega
    have p1 : p ≤ 1024 := by omega
    clear hn
    by_cases c0 : q < 0
    · clear hr
      have HN := hidp (show doneI t p s q f = -1 from done_no (by intro h; omega))
      go_enter Try.func14, Try.ntmps14
      go_wp2_with fail
      refine (r4Right_c t p s _).mono ?_
      rintro e w1 ⟨rfl, hb1⟩
      rw [HR.out]
      have hc1 := hc.keep hb1
      obtain ⟨x0, x1, x2⟩ := hc1.three
      go_wp2
      go_ret
      refine ⟨by rw [HN.out]; rfl, ?_⟩
      repeat (first | exact B0 _ | (with_reducible refine Bgo ?_ (by assumption)) | (with_reducible refine Bdrew ?_) | (with_reducible refine Bdraw ?_ _) | (with_reducible refine Bnew ?_ _) | (with_reducible refine Bput ?_ (by first | (simp; done) | (simp; omega)) _))
    · skip
      by_cases c1 : t ≤ q
      · clear hr
        have HN := hidp (show doneI t p s q f = -1 from done_no (by intro h; omega))
        go_enter Try.func14, Try.ntmps14
        go_wp2_with fail
        refine (r4Right_c t p s _).mono ?_
        rintro e w1 ⟨rfl, hb1⟩
        rw [HR.out]
        have hc1 := hc.keep hb1
        obtain ⟨x0, x1, x2⟩ := hc1.three
        go_wp2
        go_ret
        refine ⟨by rw [HN.out]; rfl, ?_⟩
        repeat (first | exact B0 _ | (with_reducible refine Bgo ?_ (by assumption)) | (with_reducible refine Bdrew ?_) | (with_reducible refine Bdraw ?_ _) | (with_reducible refine Bnew ?_ _) | (with_reducible refine Bput ?_ (by first | (simp; done) | (simp; omega)) _))
      · skip
        by_cases c2 : f < 0
        · clear hr
          have HN := hidp (show doneI t p s q f = -1 from done_no (by intro h; omega))
          go_enter Try.func14, Try.ntmps14
          go_wp2_with fail
          refine (r4Right_c t p s _).mono ?_
          rintro e w1 ⟨rfl, hb1⟩
          rw [HR.out]
          have hc1 := hc.keep hb1
          obtain ⟨x0, x1, x2⟩ := hc1.three
          go_wp2
          go_ret
          refine ⟨by rw [HN.out]; rfl, ?_⟩
          repeat (first | exact B0 _ | (with_reducible refine Bgo ?_ (by assumption)) | (with_reducible refine Bdrew ?_) | (with_reducible refine Bdraw ?_ _) | (with_reducible refine Bnew ?_ _) | (with_reducible refine Bput ?_ (by first | (simp; done) | (simp; omega)) _))
        · skip
          by_cases c3 : 4 ≤ f
          · clear hr
            have HN := hidp (show doneI t p s q f = -1 from done_no (by intro h; omega))
            go_enter Try.func14, Try.ntmps14
            go_wp2_with fail
            refine (r4Right_c t p s _).mono ?_
            rintro e w1 ⟨rfl, hb1⟩
            rw [HR.out]
            have hc1 := hc.keep hb1
            obtain ⟨x0, x1, x2⟩ := hc1.three
            go_wp2
            go_ret
            refine ⟨by rw [HN.out]; rfl, ?_⟩
            repeat (first | exact B0 _ | (with_reducible refine Bgo ?_ (by assumption)) | (with_reducible refine Bdrew ?_) | (with_reducible refine Bdraw ?_ _) | (with_reducible refine Bnew ?_ _) | (with_reducible refine Bput ?_ (by first | (simp; done) | (simp; omega)) _))
          · skip
            have HN := hidp (show doneI t p s q f = 30 + 4 * q + f from done_yes hr (by omega) (by omega) (by omega) (by omega))
            clear hr
            go_enter Try.func14, Try.ntmps14
            go_wp2_with fail
            refine (r4Right_c t p s _).mono ?_
            rintro e w1 ⟨rfl, hb1⟩
            rw [HR.out]
            have hc1 := hc.keep hb1
            obtain ⟨x0, x1, x2⟩ := hc1.three
            go_wp2
            go_ret
            refine ⟨by rw [HN.out]; rfl, ?_⟩
            repeat (first | exact B0 _ | (with_reducible refine Bgo ?_ (by assumption)) | (with_reducible refine Bdrew ?_) | (with_reducible refine Bdraw ?_ _) | (with_reducible refine Bnew ?_ _) | (with_reducible refine Bput ?_ (by first | (simp; done) | (simp; omega)) _))

set_option maxHeartbeats 1600000 in
theorem r7Page_c (t p s q b : Int) (b0 : 0 ≤ b) (b1 : b < 6) (w : World) :
    Calls Try.prog 46 #[.agg #[.int .i64 t, .int .i64 p, .int .i64 s], .int .i64 q, .int .i64 b] w fun z w' => z = .returned (.int .i64 (pageI t p s q b)) ∧ Below w.heap.size w w' := by
  have hc := Held.new w 23 #[.int .i64 t, .int .i64 p, .int .i64 s]
  cases hr : rightB t p s
  · have HR := hidp hr
    have HN := hidp (show pageI t p s q b = -1 from pcell_no (by intro h; rw [h.1] at hr; cases hr))
    clear hr
    go_enter Try.func46, Try.ntmps46
    go_wp2_with fail
    refine (r4Right_c t p s _).mono ?_
    rintro e w1 ⟨rfl, hb1⟩
    rw [HR.out]
    have hc1 := hc.keep hb1
    obtain ⟨x0, x1, x2⟩ := hc1.three
    go_wp2
    go_ret
    refine ⟨by rw [HN.out]; rfl, ?_⟩
    repeat (first | exact B0 _ | (with_reducible refine Bgo ?_ (by assumption)) | (with_reducible refine Bdrew ?_) | (with_reducible refine Bdraw ?_ _) | (with_reducible refine Bnew ?_ _) | (with_reducible refine Bput ?_ (by first | (simp; done) | (simp; omega)) _))
  · have HR := hidp hr
    have hn := (rightB_iff t p s).1 hr
    have t0 : 1 ≤ t := by omega
    have t1 : t ≤ 16 := by omega
    have p0 : 4 ≤ p := by omega
    have p1 : p ≤ 1024 := by omega
    clear hn
    by_cases c0 : q < 0
    · clear hr
      have HN := hidp (show pageI t p s q b = -1 from pcell_no (by intro h; omega))
      go_enter Try.func46, Try.ntmps46
      go_wp2_with fail
      refine (r4Right_c t p s _).mono ?_
      rintro e w1 ⟨rfl, hb1⟩
      rw [HR.out]
      have hc1 := hc.keep hb1
      obtain ⟨x0, x1, x2⟩ := hc1.three
      go_wp2
      go_ret
      refine ⟨by rw [HN.out]; rfl, ?_⟩
      repeat (first | exact B0 _ | (with_reducible refine Bgo ?_ (by assumption)) | (with_reducible refine Bdrew ?_) | (with_reducible refine Bdraw ?_ _) | (with_reducible refine Bnew ?_ _) | (with_reducible refine Bput ?_ (by first | (simp; done) | (simp; omega)) _))
    · skip
      by_cases c1 : p ≤ q
      · clear hr
        have HN := hidp (show pageI t p s q b = -1 from pcell_no (by intro h; omega))
        go_enter Try.func46, Try.ntmps46
        go_wp2_with fail
        refine (r4Right_c t p s _).mono ?_
        rintro e w1 ⟨rfl, hb1⟩
        rw [HR.out]
        have hc1 := hc.keep hb1
        obtain ⟨x0, x1, x2⟩ := hc1.three
        go_wp2
        go_ret
        refine ⟨by rw [HN.out]; rfl, ?_⟩
        repeat (first | exact B0 _ | (with_reducible refine Bgo ?_ (by assumption)) | (with_reducible refine Bdrew ?_) | (with_reducible refine Bdraw ?_ _) | (with_reducible refine Bnew ?_ _) | (with_reducible refine Bput ?_ (by first | (simp; done) | (simp; omega)) _))
      · skip
        have HN := hidp (show pageI t p s q b = 30 + 4 * t + 6 * q + b from pcell_yes hr (by omega) (by omega) b0 b1)
        clear hr
        go_enter Try.func46, Try.ntmps46
        go_wp2_with fail
        refine (r4Right_c t p s _).mono ?_
        rintro e w1 ⟨rfl, hb1⟩
        rw [HR.out]
        have hc1 := hc.keep hb1
        obtain ⟨x0, x1, x2⟩ := hc1.three
        go_wp2
        go_ret
        refine ⟨by rw [HN.out]; rfl, ?_⟩
        repeat (first | exact B0 _ | (with_reducible refine Bgo ?_ (by assumption)) | (with_reducible refine Bdrew ?_) | (with_reducible refine Bdraw ?_ _) | (with_reducible refine Bnew ?_ _) | (with_reducible refine Bput ?_ (by first | (simp; done) | (simp; omega)) _))

theorem r7Info_c (t p s q : Int) (w : World) :
    Calls Try.prog 18 #[.agg #[.int .i64 t, .int .i64 p, .int .i64 s], .int .i64 q] w fun z w' => z = .returned (.int .i64 (pageI t p s q 0)) ∧ Below w.heap.size w w' := by
  go_enter Try.func18, Try.ntmps18
  go_wp2_with fail
  refine (r7Page_c t p s q 0 (by omega) (by omega) _).mono ?_
  rintro e w1 ⟨rfl, hb1⟩
  go_wp2
  go_ret
  exact ⟨by first | rfl | trivial, Bgo (Bnew (B0 _) _) hb1⟩

theorem r7Foot_c (t p s q : Int) (w : World) :
    Calls Try.prog 20 #[.agg #[.int .i64 t, .int .i64 p, .int .i64 s], .int .i64 q] w fun z w' => z = .returned (.int .i64 (pageI t p s q 1)) ∧ Below w.heap.size w w' := by
  go_enter Try.func20, Try.ntmps20
  go_wp2_with fail
  refine (r7Page_c t p s q 1 (by omega) (by omega) _).mono ?_
  rintro e w1 ⟨rfl, hb1⟩
  go_wp2
  go_ret
  exact ⟨by first | rfl | trivial, Bgo (Bnew (B0 _) _) hb1⟩

theorem r7Next_c (t p s q : Int) (w : World) :
    Calls Try.prog 22 #[.agg #[.int .i64 t, .int .i64 p, .int .i64 s], .int .i64 q] w fun z w' => z = .returned (.int .i64 (pageI t p s q 2)) ∧ Below w.heap.size w w' := by
  go_enter Try.func22, Try.ntmps22
  go_wp2_with fail
  refine (r7Page_c t p s q 2 (by omega) (by omega) _).mono ?_
  rintro e w1 ⟨rfl, hb1⟩
  go_wp2
  go_ret
  exact ⟨by first | rfl | trivial, Bgo (Bnew (B0 _) _) hb1⟩

theorem r7Prev_c (t p s q : Int) (w : World) :
    Calls Try.prog 24 #[.agg #[.int .i64 t, .int .i64 p, .int .i64 s], .int .i64 q] w fun z w' => z = .returned (.int .i64 (pageI t p s q 3)) ∧ Below w.heap.size w w' := by
  go_enter Try.func24, Try.ntmps24
  go_wp2_with fail
  refine (r7Page_c t p s q 3 (by omega) (by omega) _).mono ?_
  rintro e w1 ⟨rfl, hb1⟩
  go_wp2
  go_ret
  exact ⟨by first | rfl | trivial, Bgo (Bnew (B0 _) _) hb1⟩

theorem r7Slots_c (t p s q : Int) (w : World) :
    Calls Try.prog 26 #[.agg #[.int .i64 t, .int .i64 p, .int .i64 s], .int .i64 q] w fun z w' => z = .returned (.int .i64 (pageI t p s q 4)) ∧ Below w.heap.size w w' := by
  go_enter Try.func26, Try.ntmps26
  go_wp2_with fail
  refine (r7Page_c t p s q 4 (by omega) (by omega) _).mono ?_
  rintro e w1 ⟨rfl, hb1⟩
  go_wp2
  go_ret
  exact ⟨by first | rfl | trivial, Bgo (Bnew (B0 _) _) hb1⟩

theorem r7Taken_c (t p s q : Int) (w : World) :
    Calls Try.prog 28 #[.agg #[.int .i64 t, .int .i64 p, .int .i64 s], .int .i64 q] w fun z w' => z = .returned (.int .i64 (pageI t p s q 5)) ∧ Below w.heap.size w w' := by
  go_enter Try.func28, Try.ntmps28
  go_wp2_with fail
  refine (r7Page_c t p s q 5 (by omega) (by omega) _).mono ?_
  rintro e w1 ⟨rfl, hb1⟩
  go_wp2
  go_ret
  exact ⟨by first | rfl | trivial, Bgo (Bnew (B0 _) _) hb1⟩

theorem r7Word_c (t p s i : Int) (w : World) :
    Calls Try.prog 33 #[.agg #[.int .i64 t, .int .i64 p, .int .i64 s], .int .i64 i] w fun z w' => z = .returned (.int .i64 (wordI t p s i)) ∧ Below w.heap.size w w' := by
  obtain ⟨y, hy⟩ : ∃ y, lC t p s = y := ⟨_, rfl⟩
  have hb := (lay_bounds t p s)
  rw [hy] at hb
  have y0 : 0 ≤ y := by omega
  have y1 : y ≤ 6238 := by omega
  have HY := hidp hy
  have HW := hidp (show wordI t p s i = nthI 16 y 1 i by unfold wordI; rw [hy])
  clear hb hy
  by_cases c0 : i < 0
  · have HN := hidp (HW.out.trans (nth_off (.inr (.inl c0))))
    go_enter Try.func33, Try.ntmps33
    go_wp2
    go_ret
    exact ⟨by rw [HN.out]; rfl, Bnew (B0 _) _⟩
  · by_cases c1 : y ≤ i
    · have HN := hidp (HW.out.trans (nth_off (.inr (.inr c1))))
      go_enter Try.func33, Try.ntmps33
      go_wp2_with fail
      refine (r7Cells_c t p s _).mono ?_
      rintro e w1 ⟨rfl, hb1⟩
      rw [HY.out]
      go_wp2
      go_ret
      exact ⟨by rw [HN.out]; rfl, Bgo (Bnew (B0 _) _) hb1⟩
    · have HN := hidp (HW.out.trans (show nthI 16 y 1 i = 16 + i by rw [nth_on (by omega) (by omega) (by omega)]; omega))
      go_enter Try.func33, Try.ntmps33
      go_wp2_with fail
      refine (r7Cells_c t p s _).mono ?_
      rintro e w1 ⟨rfl, hb1⟩
      rw [HY.out]
      go_wp2
      go_ret
      exact ⟨by rw [HN.out]; rfl, Bgo (Bnew (B0 _) _) hb1⟩

set_option maxHeartbeats 1600000 in
theorem r7Maker_c (t p s i : Int) (w : World) :
    Calls Try.prog 50 #[.agg #[.int .i64 t, .int .i64 p, .int .i64 s], .int .i64 i] w fun z w' => z = .returned (.int .i64 (nthI (lM t p s) (lK t p s) 120 i)) ∧ Below w.heap.size w w' := by
  have hc := Held.new w 23 #[.int .i64 t, .int .i64 p, .int .i64 s]
  cases hr : rightB t p s
  · have HR := hidp hr
    have HN := hidp (show nthI (lM t p s) (lK t p s) 120 i = -1 from maker_no (by intro h; rw [h.1] at hr; cases hr))
    clear hr
    go_enter Try.func50, Try.ntmps50
    go_wp2_with fail
    refine (r4Right_c t p s _).mono ?_
    rintro e w1 ⟨rfl, hb1⟩
    rw [HR.out]
    have hc1 := hc.keep hb1
    obtain ⟨x0, x1, x2⟩ := hc1.three
    go_wp2
    go_ret
    refine ⟨by rw [HN.out]; rfl, ?_⟩
    repeat (first | exact B0 _ | (with_reducible refine Bgo ?_ (by assumption)) | (with_reducible refine Bdrew ?_) | (with_reducible refine Bdraw ?_ _) | (with_reducible refine Bnew ?_ _) | (with_reducible refine Bput ?_ (by first | (simp; done) | (simp; omega)) _))
  · have HR := hidp hr
    have hn := (rightB_iff t p s).1 hr
    have t0 : 1 ≤ t := by omega
    have t1 : t ≤ 16 := by omega
    have p0 : 4 ≤ p := by omega
    have p1 : p ≤ 1024 := by omega
    clear hn
    by_cases c0 : i < 0
    · clear hr
      have HN := hidp (show nthI (lM t p s) (lK t p s) 120 i = -1 from maker_no (by intro h; omega))
      go_enter Try.func50, Try.ntmps50
      go_wp2_with fail
      refine (r4Right_c t p s _).mono ?_
      rintro e w1 ⟨rfl, hb1⟩
      rw [HR.out]
      have hc1 := hc.keep hb1
      obtain ⟨x0, x1, x2⟩ := hc1.three
      go_wp2
      go_ret
      refine ⟨by rw [HN.out]; rfl, ?_⟩
      repeat (first | exact B0 _ | (with_reducible refine Bgo ?_ (by assumption)) | (with_reducible refine Bdrew ?_) | (with_reducible refine Bdraw ?_ _) | (with_reducible refine Bnew ?_ _) | (with_reducible refine Bput ?_ (by first | (simp; done) | (simp; omega)) _))
    · skip
      by_cases c1 : t < i
      · clear hr
        have HN := hidp (show nthI (lM t p s) (lK t p s) 120 i = -1 from maker_no (by intro h; omega))
        go_enter Try.func50, Try.ntmps50
        go_wp2_with fail
        refine (r4Right_c t p s _).mono ?_
        rintro e w1 ⟨rfl, hb1⟩
        rw [HR.out]
        have hc1 := hc.keep hb1
        obtain ⟨x0, x1, x2⟩ := hc1.three
        go_wp2
        go_ret
        refine ⟨by rw [HN.out]; rfl, ?_⟩
        repeat (first | exact B0 _ | (with_reducible refine Bgo ?_ (by assumption)) | (with_reducible refine Bdrew ?_) | (with_reducible refine Bdraw ?_ _) | (with_reducible refine Bnew ?_ _) | (with_reducible refine Bput ?_ (by first | (simp; done) | (simp; omega)) _))
      · skip
        obtain ⟨m, hm⟩ : ∃ m, lM t p s = m := ⟨_, rfl⟩
        have HM := hidp hm
        have hb := (lay_bounds t p s)
        rw [hm] at hb
        have m0 : 0 ≤ m := by omega
        have m1 : m ≤ 6256 := by omega
        clear hb
        have HN := hidp (show nthI (lM t p s) (lK t p s) 120 i = m + 120 * i from (maker_yes hr (by omega) (by omega)).trans (by rw [hm]; omega))
        clear hr
        go_enter Try.func50, Try.ntmps50
        go_wp2_with fail
        refine (r4Right_c t p s _).mono ?_
        rintro e w1 ⟨rfl, hb1⟩
        rw [HR.out]
        have hc1 := hc.keep hb1
        obtain ⟨x0, x1, x2⟩ := hc1.three
        go_wp2_with fail
        refine (r7First_c t p s m HR.out HM.out _).mono ?_
        rintro e w2 ⟨rfl, hb2⟩
        go_wp2
        go_ret
        refine ⟨by rw [HN.out]; rfl, ?_⟩
        repeat (first | exact B0 _ | (with_reducible refine Bgo ?_ (by assumption)) | (with_reducible refine Bdrew ?_) | (with_reducible refine Bdraw ?_ _) | (with_reducible refine Bnew ?_ _) | (with_reducible refine Bput ?_ (by first | (simp; done) | (simp; omega)) _))

theorem r7Call_c (t p s i b : Int) (w : World) :
    Calls Try.prog 35 #[.agg #[.int .i64 t, .int .i64 p, .int .i64 s], .int .i64 i, .int .i64 b] w fun z w' => z = .returned (.int .i64 (callI t p s i b)) ∧ Below w.heap.size w w' := by
  obtain ⟨y, hy⟩ : ∃ y, nthI (lM t p s) (lK t p s) 120 i = y := ⟨_, rfl⟩
  have hM : y = -1 ∨ (rightB t p s = true ∧ 0 ≤ i ∧ i ≤ t ∧ y = lM t p s + i * 120) := by
    by_cases h : rightB t p s = true ∧ 0 ≤ i ∧ i ≤ t
    · right; exact ⟨h.1, h.2.1, h.2.2, by rw [← hy, maker_yes h.1 h.2.1 h.2.2]⟩
    · left; rw [← hy, maker_no h]
  have HY := hidp hy
  rcases hM with rfl | ⟨hr, i0, i1, h1⟩
  · have HN := hidp (show callI t p s i b = -1 by unfold callI makerI; rw [hy, nth_off (f := -1) (.inl rfl), nth_off (.inl rfl)])
    clear hy
    go_enter Try.func35, Try.ntmps35
    go_wp2_with fail
    refine (r7Maker_c t p s i _).mono ?_
    rintro e w1 ⟨rfl, hb1⟩
    rw [HY.out]
    go_wp2
    go_ret
    exact ⟨by rw [HN.out]; rfl, Bgo (Bnew (B0 _) _) hb1⟩
  · have hb := lay_bounds t p s
    have hn := (rightB_iff t p s).1 hr
    have y0 : 0 ≤ y := by omega
    have y1 : y ≤ 20000 := by omega
    by_cases c0 : b = 0
    · subst c0
      have HN := hidp (show callI t p s i 0 = y by rw [call_yes hr i0 i1 (by omega) (by omega)]; omega)
      clear hy hb hn hr h1
      go_enter Try.func35, Try.ntmps35
      go_wp2_with fail
      refine (r7Maker_c t p s i _).mono ?_
      rintro e w1 ⟨rfl, hb1⟩
      rw [HY.out]
      go_wp2
      go_ret
      exact ⟨by rw [HN.out]; exact ret_int (by simp), Bgo (Bnew (B0 _) _) hb1⟩
    · by_cases c1 : b = 1
      · subst c1
        have HN := hidp (show callI t p s i 1 = y + 8 by rw [call_yes hr i0 i1 (by omega) (by omega)]; omega)
        clear hy hb hn hr h1
        go_enter Try.func35, Try.ntmps35
        go_wp2_with fail
        refine (r7Maker_c t p s i _).mono ?_
        rintro e w1 ⟨rfl, hb1⟩
        rw [HY.out]
        go_wp2
        go_ret
        exact ⟨by rw [HN.out]; exact ret_int (by simp), Bgo (Bnew (B0 _) _) hb1⟩
      · have HN := hidp (show callI t p s i b = -1 from call_no (by omega))
        have q0 : (b != 0) = true := by simpa using c0
        have q1 : (b != 1) = true := by simpa using c1
        clear hy hb hn hr h1
        go_enter Try.func35, Try.ntmps35
        go_wp2_with fail
        refine (r7Maker_c t p s i _).mono ?_
        rintro e w1 ⟨rfl, hb1⟩
        rw [HY.out]
        go_wp2
        go_ret
        exact ⟨by rw [HN.out]; rfl, Bgo (Bnew (B0 _) _) hb1⟩

theorem r7Note_c (t p s i : Int) (w : World) :
    Calls Try.prog 37 #[.agg #[.int .i64 t, .int .i64 p, .int .i64 s], .int .i64 i] w fun z w' => z = .returned (.int .i64 (noteI t p s i)) ∧ Below w.heap.size w w' := by
  obtain ⟨y, hy⟩ : ∃ y, nthI (lM t p s) (lK t p s) 120 i = y := ⟨_, rfl⟩
  have HY := hidp hy
  by_cases h : rightB t p s = true ∧ 0 ≤ i ∧ i ≤ t
  · obtain ⟨hr, i0, i1⟩ := h
    have h1 := maker_yes hr i0 i1
    have hb := lay_bounds t p s
    have hn := (rightB_iff t p s).1 hr
    rw [hy] at h1
    have y0 : 0 ≤ y := by omega
    have y1 : y ≤ 20000 := by omega
    have HN := hidp (show noteI t p s i = y + 16 by unfold noteI; rw [makerI_yes hr i0 i1 (by omega) (by omega)]; omega)
    clear hy hb hn hr h1
    go_enter Try.func37, Try.ntmps37
    go_wp2_with fail
    refine (r7Maker_c t p s i _).mono ?_
    rintro e w1 ⟨rfl, hb1⟩
    rw [HY.out]
    go_wp2
    go_ret
    exact ⟨by rw [HN.out]; rfl, Bgo (Bnew (B0 _) _) hb1⟩
  · have hn := maker_no h
    rw [hy] at hn
    subst hn
    have HN := hidp (show noteI t p s i = -1 from makerI_no h)
    clear hy h
    go_enter Try.func37, Try.ntmps37
    go_wp2_with fail
    refine (r7Maker_c t p s i _).mono ?_
    rintro e w1 ⟨rfl, hb1⟩
    rw [HY.out]
    go_wp2
    go_ret
    exact ⟨by rw [HN.out]; rfl, Bgo (Bnew (B0 _) _) hb1⟩
theorem r7Log_c (t p s i j : Int) (w : World) :
    Calls Try.prog 39 #[.agg #[.int .i64 t, .int .i64 p, .int .i64 s], .int .i64 i, .int .i64 j] w fun z w' => z = .returned (.int .i64 (logI t p s i j)) ∧ Below w.heap.size w w' := by
  obtain ⟨y, hy⟩ : ∃ y, nthI (lM t p s) (lK t p s) 120 i = y := ⟨_, rfl⟩
  have HY := hidp hy
  by_cases h : rightB t p s = true ∧ 0 ≤ i ∧ i ≤ t
  · obtain ⟨hr, i0, i1⟩ := h
    have h1 := maker_yes hr i0 i1
    have hb := lay_bounds t p s
    have hn := (rightB_iff t p s).1 hr
    rw [hy] at h1
    have y0 : 0 ≤ y := by omega
    have y1 : y ≤ 20000 := by omega
    by_cases c0 : j < 0
    · have HN := hidp (show logI t p s i j = -1 from log_no (by omega))
      clear hy hb hn hr h1
      go_enter Try.func39, Try.ntmps39
      go_wp2_with fail
      refine (r7Maker_c t p s i _).mono ?_
      rintro e w1 ⟨rfl, hb1⟩
      rw [HY.out]
      go_wp2
      go_ret
      exact ⟨by rw [HN.out]; rfl, Bgo (Bnew (B0 _) _) hb1⟩
    · by_cases c1 : 95 < j
      · have HN := hidp (show logI t p s i j = -1 from log_no (by omega))
        clear hy hb hn hr h1
        go_enter Try.func39, Try.ntmps39
        go_wp2_with fail
        refine (r7Maker_c t p s i _).mono ?_
        rintro e w1 ⟨rfl, hb1⟩
        rw [HY.out]
        go_wp2
        go_ret
        exact ⟨by rw [HN.out]; rfl, Bgo (Bnew (B0 _) _) hb1⟩
      · have HN := hidp (show logI t p s i j = y + 24 + j by rw [log_yes hr i0 i1 (by omega) (by omega)]; omega)
        clear hy hb hn hr h1
        go_enter Try.func39, Try.ntmps39
        go_wp2_with fail
        refine (r7Maker_c t p s i _).mono ?_
        rintro e w1 ⟨rfl, hb1⟩
        rw [HY.out]
        go_wp2
        go_ret
        exact ⟨by rw [HN.out]; rfl, Bgo (Bnew (B0 _) _) hb1⟩
  · have hn := maker_no h
    rw [hy] at hn
    subst hn
    have HN := hidp (show logI t p s i j = -1 from log_no (fun h' => h ⟨h'.1, h'.2.1, h'.2.2.1⟩))
    clear hy h
    go_enter Try.func39, Try.ntmps39
    go_wp2_with fail
    refine (r7Maker_c t p s i _).mono ?_
    rintro e w1 ⟨rfl, hb1⟩
    rw [HY.out]
    go_wp2
    go_ret
    exact ⟨by rw [HN.out]; rfl, Bgo (Bnew (B0 _) _) hb1⟩

end Go.Proofs.Ytiinomkppehkjaa
