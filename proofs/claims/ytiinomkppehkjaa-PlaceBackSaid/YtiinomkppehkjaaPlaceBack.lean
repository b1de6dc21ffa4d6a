/-
  The calls of PlaceBack.
-/
import Derived.Test.YtiinomkppehkjaaPlaceLaws
namespace Go.Proofs.Ytiinomkppehkjaa
open Go.ChangeShapes Go.WideShapes Go.ChangeAt Go.RowKit
set_option linter.unusedVariables false
set_option linter.unusedSimpArgs false

/-! each thing's word is it -/
theorem back_word (t p s i : Int) : wordI t p s i = -1 ∨ (0 ≤ wordI t p s i ∧ wordI t p s i < lW t p s ∧ wordI t p s i ≤ 8296 ∧ atT t p s (wordI t p s i) = (3, i, 0)) := by
  have hb := lay_bounds t p s
  have hw := words_bounds t p s
  by_cases h : i < 0 ∨ lC t p s ≤ i
  · left; unfold wordI; exact nth_off (.inr h)
  · right
    have e : wordI t p s i = 16 + i := by unfold wordI; rw [nth_on (by omega) (by omega) (by omega)]; omega
    have hr : rightB t p s = true := by
      cases hr : rightB t p s
      · have := (lay_no hr).hC; omega
      · rfl
    have hf := first_far hr
    have hn := (rightB_iff t p s).1 hr
    have ha := at_cell (t := t) (p := p) (s := s) (w := 16 + i) (by omega) (by omega)
    rw [show 16 + i - 16 = i by omega] at ha
    rw [e]
    exact ⟨by omega, by omega, by omega, ha⟩
theorem back_log (t p s m i : Int) : logI t p s m i = -1 ∨ (0 ≤ logI t p s m i ∧ logI t p s m i < lW t p s ∧ logI t p s m i ≤ 8296 ∧ atT t p s (logI t p s m i) = (6, m, i)) := by
  have hw := words_bounds t p s
  by_cases h : rightB t p s = true ∧ 0 ≤ m ∧ m ≤ t ∧ 0 ≤ i ∧ i < 96
  · right
    obtain ⟨hr, h0, h1, h2, h3⟩ := h
    have hf := first_far hr
    have e := log_yes hr h0 h1 h2 h3
    have ha := at_of (w := logI t p s m i) (i := 24 + i) hr h0 h1 (by omega) (by omega) (by omega)
    rw [part_log (by omega), show 24 + i - 24 = i by omega] at ha
    exact ⟨by omega, by omega, by omega, ha⟩
  · exact .inl (log_no h)
theorem back_call (t p s m i : Int) : callI t p s m i = -1 ∨ (0 ≤ callI t p s m i ∧ callI t p s m i < lW t p s ∧ callI t p s m i ≤ 8296 ∧ callI t p s m i % 8 = 0 ∧ 0 ≤ i ∧ i ≤ 1 ∧ atT t p s (callI t p s m i) = (4, m, 8 * i)) := by
  have hw := words_bounds t p s
  by_cases h : rightB t p s = true ∧ 0 ≤ m ∧ m ≤ t ∧ 0 ≤ i ∧ i < 2
  · right
    obtain ⟨hr, h0, h1, h2, h3⟩ := h
    have hf := first_far hr
    have e := call_yes hr h0 h1 h2 h3
    have ha := at_of (w := callI t p s m i) (i := 8 * i) hr h0 h1 (by omega) (by omega) (by omega)
    rw [part_call (by omega)] at ha
    exact ⟨by omega, by omega, by omega, by omega, by omega, by omega, ha⟩
  · exact .inl (call_no h)
theorem back_note (t p s m : Int) : noteI t p s m = -1 ∨ (0 ≤ noteI t p s m ∧ noteI t p s m < lW t p s ∧ noteI t p s m ≤ 8296 ∧ noteI t p s m % 8 = 0 ∧ atT t p s (noteI t p s m) = (5, m, 0)) := by
  have hw := words_bounds t p s
  by_cases h : rightB t p s = true ∧ 0 ≤ m ∧ m ≤ t
  · right
    obtain ⟨hr, h0, h1⟩ := h
    have hf := first_far hr
    have e : noteI t p s m = lM t p s + m * 120 + 16 := makerI_yes hr h0 h1 (by omega) (by omega)
    have ha := at_of (w := noteI t p s m) (i := 16) hr h0 h1 (by omega) (by omega) (by omega)
    rw [part_note] at ha
    exact ⟨by omega, by omega, by omega, by omega, ha⟩
  · exact .inl (makerI_no h)

set_option maxHeartbeats 16000000 in
theorem PlaceBack_calls (t p s m i : Int) (w : World) : Calls Try.prog 5 #[.agg #[.int .i64 t, .int .i64 p, .int .i64 s], .int .i64 m, .int .i64 i] w (Keeps w) := by
  have hc := (Held.new w 23 #[.int .i64 t, .int .i64 p, .int .i64 s]).three
  obtain ⟨n, hn⟩ : ∃ n, lW t p s = n := ⟨_, rfl⟩
  have XY := hidp (back_word t p s i)
  have XZ := hidp (back_log t p s m i)
  have XC := hidp (back_call t p s m i)
  have XO := hidp (back_note t p s m)
  rw [hn] at XY XZ XC XO
  obtain ⟨y, hy⟩ : ∃ y, wordI t p s i = y := ⟨_, rfl⟩
  obtain ⟨z, hz⟩ : ∃ z, logI t p s m i = z := ⟨_, rfl⟩
  obtain ⟨c, hc'⟩ : ∃ c, callI t p s m i = c := ⟨_, rfl⟩
  obtain ⟨o, ho⟩ : ∃ o, noteI t p s m = o := ⟨_, rfl⟩
  rw [hy] at XY
  rw [hz] at XZ
  rw [hc'] at XC
  rw [ho] at XO
  have HN := hidp hn
  have HY := hidp hy
  have HZ := hidp hz
  have HC := hidp hc'
  have HO := hidp ho
  clear hn hy hz hc' ho
  go_enter Try.func5, Try.ntmps5
  go_wp2_with fail
  go_region_held3 (fun w' => w'.cell? ⟨w.heap.size, 0, none⟩ = some (.int .i64 t) ∧ w'.cell? ⟨w.heap.size, 1, none⟩ = some (.int .i64 p) ∧ w'.cell? ⟨w.heap.size, 2, none⟩ = some (.int .i64 s))
    (first | exact hc | go_keep | exact ⟨hst _ _ (by assumption), hst _ _ (by assumption), hst _ _ (by assumption)⟩)
    (first
      | (go_at_call 30; refine (plWords_c t p s _).mono ?_; rintro e w' ⟨rfl, hbl⟩; rw [HN.out]; have hst := cells_stay hbl)
      | (go_at_call 32; refine (plWord_c t p s i _).mono ?_; rintro e w' ⟨rfl, hbl⟩; rw [HY.out]; have hst := cells_stay hbl))
  rename_i hH
  obtain ⟨x0, x1, x2⟩ := hH
  clear hc
  rcases XY.out with hy | hy
  · subst hy
    go_wp2_with fail
    refine (plLog_c t p s m i _).mono ?_
    rintro e v1 ⟨rfl, hb1⟩
    have s1 := cells_stay hb1
    replace x0 := s1 _ _ x0
    replace x1 := s1 _ _ x1
    replace x2 := s1 _ _ x2
    clear s1
    rw [HZ.out]
    rcases XZ.out with hz | hz
    · subst hz
      go_wp2_with fail
      refine (plCall_c t p s m i _).mono ?_
      rintro e v2 ⟨rfl, hb2⟩
      have s2 := cells_stay hb2
      replace x0 := s2 _ _ x0
      replace x1 := s2 _ _ x1
      replace x2 := s2 _ _ x2
      clear s2
      rw [HC.out]
      rcases XC.out with hc | hc
      · subst hc
        go_wp2_with fail
        refine (plNote_c t p s m _).mono ?_
        rintro e v3 ⟨rfl, hb3⟩
        have s3 := cells_stay hb3
        replace x0 := s3 _ _ x0
        replace x1 := s3 _ _ x1
        replace x2 := s3 _ _ x2
        clear s3
        rw [HO.out]
        rcases XO.out with ho | ho
        · subst ho
          go_wp2_with fail
          refine (live_c _).mono ?_
          rintro e v4 ⟨rfl, hb4⟩
          have s4 := cells_stay hb4
          replace x0 := s4 _ _ x0
          replace x1 := s4 _ _ x1
          replace x2 := s4 _ _ x2
          clear s4
          go_wp2
          go_ret
          refine ⟨by first | rfl | trivial, ?_⟩
          repeat (first | exact B0 _ | (with_reducible refine Bgo ?_ (by assumption)) | (with_reducible refine Bdrew ?_) | (with_reducible refine Bdraw ?_ _) | (with_reducible refine Bnew ?_ _))
        · obtain ⟨g0, g1, g2, g3, ga⟩ := ho
          have GA := hidp ga
          clear ga
          have g6 : o.tmod 8 = 0 := by rw [Int.tmod_eq_emod_of_nonneg (by omega)]; exact g3
          go_wp2_with fail
          refine (plAt_c t p s o _ _ _ GA.out _).mono ?_
          rintro e v5 ⟨rfl, hb5⟩
          have s5 := cells_stay hb5
          replace x0 := s5 _ _ x0
          replace x1 := s5 _ _ x1
          replace x2 := s5 _ _ x2
          clear s5
          go_wp2_with fail
          refine (live_c _).mono ?_
          rintro e v6 ⟨rfl, hb6⟩
          have s6 := cells_stay hb6
          replace x0 := s6 _ _ x0
          replace x1 := s6 _ _ x1
          replace x2 := s6 _ _ x2
          clear s6
          go_wp2
          go_ret
          refine ⟨by first | rfl | trivial, ?_⟩
          repeat (first | exact B0 _ | (with_reducible refine Bgo ?_ (by assumption)) | (with_reducible refine Bdrew ?_) | (with_reducible refine Bdraw ?_ _) | (with_reducible refine Bnew ?_ _))
      · obtain ⟨g0, g1, g2, g3, g4, g5, ga⟩ := hc
        have GA := hidp ga
        clear ga
        have g6 : c.tmod 8 = 0 := by rw [Int.tmod_eq_emod_of_nonneg (by omega)]; exact g3
        go_wp2_with fail
        refine (plAt_c t p s c _ _ _ GA.out _).mono ?_
        rintro e v7 ⟨rfl, hb7⟩
        have s7 := cells_stay hb7
        replace x0 := s7 _ _ x0
        replace x1 := s7 _ _ x1
        replace x2 := s7 _ _ x2
        clear s7
        go_wp2_with fail
        refine (plNote_c t p s m _).mono ?_
        rintro e v8 ⟨rfl, hb8⟩
        have s8 := cells_stay hb8
        replace x0 := s8 _ _ x0
        replace x1 := s8 _ _ x1
        replace x2 := s8 _ _ x2
        clear s8
        rw [HO.out]
        rcases XO.out with ho | ho
        · subst ho
          go_wp2_with fail
          refine (live_c _).mono ?_
          rintro e v9 ⟨rfl, hb9⟩
          have s9 := cells_stay hb9
          replace x0 := s9 _ _ x0
          replace x1 := s9 _ _ x1
          replace x2 := s9 _ _ x2
          clear s9
          go_wp2
          go_ret
          refine ⟨by first | rfl | trivial, ?_⟩
          repeat (first | exact B0 _ | (with_reducible refine Bgo ?_ (by assumption)) | (with_reducible refine Bdrew ?_) | (with_reducible refine Bdraw ?_ _) | (with_reducible refine Bnew ?_ _))
        · obtain ⟨g0, g1, g2, g3, ga⟩ := ho
          have GA := hidp ga
          clear ga
          have g6 : o.tmod 8 = 0 := by rw [Int.tmod_eq_emod_of_nonneg (by omega)]; exact g3
          go_wp2_with fail
          refine (plAt_c t p s o _ _ _ GA.out _).mono ?_
          rintro e v10 ⟨rfl, hb10⟩
          have s10 := cells_stay hb10
          replace x0 := s10 _ _ x0
          replace x1 := s10 _ _ x1
          replace x2 := s10 _ _ x2
          clear s10
          go_wp2_with fail
          refine (live_c _).mono ?_
          rintro e v11 ⟨rfl, hb11⟩
          have s11 := cells_stay hb11
          replace x0 := s11 _ _ x0
          replace x1 := s11 _ _ x1
          replace x2 := s11 _ _ x2
          clear s11
          go_wp2
          go_ret
          refine ⟨by first | rfl | trivial, ?_⟩
          repeat (first | exact B0 _ | (with_reducible refine Bgo ?_ (by assumption)) | (with_reducible refine Bdrew ?_) | (with_reducible refine Bdraw ?_ _) | (with_reducible refine Bnew ?_ _))
    · obtain ⟨g0, g1, g2, ga⟩ := hz
      have GA := hidp ga
      clear ga
      go_wp2_with fail
      refine (plAt_c t p s z _ _ _ GA.out _).mono ?_
      rintro e v12 ⟨rfl, hb12⟩
      have s12 := cells_stay hb12
      replace x0 := s12 _ _ x0
      replace x1 := s12 _ _ x1
      replace x2 := s12 _ _ x2
      clear s12
      go_wp2_with fail
      refine (plCall_c t p s m i _).mono ?_
      rintro e v13 ⟨rfl, hb13⟩
      have s13 := cells_stay hb13
      replace x0 := s13 _ _ x0
      replace x1 := s13 _ _ x1
      replace x2 := s13 _ _ x2
      clear s13
      rw [HC.out]
      rcases XC.out with hc | hc
      · subst hc
        go_wp2_with fail
        refine (plNote_c t p s m _).mono ?_
        rintro e v14 ⟨rfl, hb14⟩
        have s14 := cells_stay hb14
        replace x0 := s14 _ _ x0
        replace x1 := s14 _ _ x1
        replace x2 := s14 _ _ x2
        clear s14
        rw [HO.out]
        rcases XO.out with ho | ho
        · subst ho
          go_wp2_with fail
          refine (live_c _).mono ?_
          rintro e v15 ⟨rfl, hb15⟩
          have s15 := cells_stay hb15
          replace x0 := s15 _ _ x0
          replace x1 := s15 _ _ x1
          replace x2 := s15 _ _ x2
          clear s15
          go_wp2
          go_ret
          refine ⟨by first | rfl | trivial, ?_⟩
          repeat (first | exact B0 _ | (with_reducible refine Bgo ?_ (by assumption)) | (with_reducible refine Bdrew ?_) | (with_reducible refine Bdraw ?_ _) | (with_reducible refine Bnew ?_ _))
        · obtain ⟨g0, g1, g2, g3, ga⟩ := ho
          have GA := hidp ga
          clear ga
          have g6 : o.tmod 8 = 0 := by rw [Int.tmod_eq_emod_of_nonneg (by omega)]; exact g3
          go_wp2_with fail
          refine (plAt_c t p s o _ _ _ GA.out _).mono ?_
          rintro e v16 ⟨rfl, hb16⟩
          have s16 := cells_stay hb16
          replace x0 := s16 _ _ x0
          replace x1 := s16 _ _ x1
          replace x2 := s16 _ _ x2
          clear s16
          go_wp2_with fail
          refine (live_c _).mono ?_
          rintro e v17 ⟨rfl, hb17⟩
          have s17 := cells_stay hb17
          replace x0 := s17 _ _ x0
          replace x1 := s17 _ _ x1
          replace x2 := s17 _ _ x2
          clear s17
          go_wp2
          go_ret
          refine ⟨by first | rfl | trivial, ?_⟩
          repeat (first | exact B0 _ | (with_reducible refine Bgo ?_ (by assumption)) | (with_reducible refine Bdrew ?_) | (with_reducible refine Bdraw ?_ _) | (with_reducible refine Bnew ?_ _))
      · obtain ⟨g0, g1, g2, g3, g4, g5, ga⟩ := hc
        have GA := hidp ga
        clear ga
        have g6 : c.tmod 8 = 0 := by rw [Int.tmod_eq_emod_of_nonneg (by omega)]; exact g3
        go_wp2_with fail
        refine (plAt_c t p s c _ _ _ GA.out _).mono ?_
        rintro e v18 ⟨rfl, hb18⟩
        have s18 := cells_stay hb18
        replace x0 := s18 _ _ x0
        replace x1 := s18 _ _ x1
        replace x2 := s18 _ _ x2
        clear s18
        go_wp2_with fail
        refine (plNote_c t p s m _).mono ?_
        rintro e v19 ⟨rfl, hb19⟩
        have s19 := cells_stay hb19
        replace x0 := s19 _ _ x0
        replace x1 := s19 _ _ x1
        replace x2 := s19 _ _ x2
        clear s19
        rw [HO.out]
        rcases XO.out with ho | ho
        · subst ho
          go_wp2_with fail
          refine (live_c _).mono ?_
          rintro e v20 ⟨rfl, hb20⟩
          have s20 := cells_stay hb20
          replace x0 := s20 _ _ x0
          replace x1 := s20 _ _ x1
          replace x2 := s20 _ _ x2
          clear s20
          go_wp2
          go_ret
          refine ⟨by first | rfl | trivial, ?_⟩
          repeat (first | exact B0 _ | (with_reducible refine Bgo ?_ (by assumption)) | (with_reducible refine Bdrew ?_) | (with_reducible refine Bdraw ?_ _) | (with_reducible refine Bnew ?_ _))
        · obtain ⟨g0, g1, g2, g3, ga⟩ := ho
          have GA := hidp ga
          clear ga
          have g6 : o.tmod 8 = 0 := by rw [Int.tmod_eq_emod_of_nonneg (by omega)]; exact g3
          go_wp2_with fail
          refine (plAt_c t p s o _ _ _ GA.out _).mono ?_
          rintro e v21 ⟨rfl, hb21⟩
          have s21 := cells_stay hb21
          replace x0 := s21 _ _ x0
          replace x1 := s21 _ _ x1
          replace x2 := s21 _ _ x2
          clear s21
          go_wp2_with fail
          refine (live_c _).mono ?_
          rintro e v22 ⟨rfl, hb22⟩
          have s22 := cells_stay hb22
          replace x0 := s22 _ _ x0
          replace x1 := s22 _ _ x1
          replace x2 := s22 _ _ x2
          clear s22
          go_wp2
          go_ret
          refine ⟨by first | rfl | trivial, ?_⟩
          repeat (first | exact B0 _ | (with_reducible refine Bgo ?_ (by assumption)) | (with_reducible refine Bdrew ?_) | (with_reducible refine Bdraw ?_ _) | (with_reducible refine Bnew ?_ _))
  · obtain ⟨g0, g1, g2, ga⟩ := hy
    have GA := hidp ga
    clear ga
    go_wp2_with fail
    refine (plAt_c t p s y _ _ _ GA.out _).mono ?_
    rintro e v23 ⟨rfl, hb23⟩
    have s23 := cells_stay hb23
    replace x0 := s23 _ _ x0
    replace x1 := s23 _ _ x1
    replace x2 := s23 _ _ x2
    clear s23
    go_wp2_with fail
    refine (plLog_c t p s m i _).mono ?_
    rintro e v24 ⟨rfl, hb24⟩
    have s24 := cells_stay hb24
    replace x0 := s24 _ _ x0
    replace x1 := s24 _ _ x1
    replace x2 := s24 _ _ x2
    clear s24
    rw [HZ.out]
    rcases XZ.out with hz | hz
    · subst hz
      go_wp2_with fail
      refine (plCall_c t p s m i _).mono ?_
      rintro e v25 ⟨rfl, hb25⟩
      have s25 := cells_stay hb25
      replace x0 := s25 _ _ x0
      replace x1 := s25 _ _ x1
      replace x2 := s25 _ _ x2
      clear s25
      rw [HC.out]
      rcases XC.out with hc | hc
      · subst hc
        go_wp2_with fail
        refine (plNote_c t p s m _).mono ?_
        rintro e v26 ⟨rfl, hb26⟩
        have s26 := cells_stay hb26
        replace x0 := s26 _ _ x0
        replace x1 := s26 _ _ x1
        replace x2 := s26 _ _ x2
        clear s26
        rw [HO.out]
        rcases XO.out with ho | ho
        · subst ho
          go_wp2_with fail
          refine (live_c _).mono ?_
          rintro e v27 ⟨rfl, hb27⟩
          have s27 := cells_stay hb27
          replace x0 := s27 _ _ x0
          replace x1 := s27 _ _ x1
          replace x2 := s27 _ _ x2
          clear s27
          go_wp2
          go_ret
          refine ⟨by first | rfl | trivial, ?_⟩
          repeat (first | exact B0 _ | (with_reducible refine Bgo ?_ (by assumption)) | (with_reducible refine Bdrew ?_) | (with_reducible refine Bdraw ?_ _) | (with_reducible refine Bnew ?_ _))
        · obtain ⟨g0, g1, g2, g3, ga⟩ := ho
          have GA := hidp ga
          clear ga
          have g6 : o.tmod 8 = 0 := by rw [Int.tmod_eq_emod_of_nonneg (by omega)]; exact g3
          go_wp2_with fail
          refine (plAt_c t p s o _ _ _ GA.out _).mono ?_
          rintro e v28 ⟨rfl, hb28⟩
          have s28 := cells_stay hb28
          replace x0 := s28 _ _ x0
          replace x1 := s28 _ _ x1
          replace x2 := s28 _ _ x2
          clear s28
          go_wp2_with fail
          refine (live_c _).mono ?_
          rintro e v29 ⟨rfl, hb29⟩
          have s29 := cells_stay hb29
          replace x0 := s29 _ _ x0
          replace x1 := s29 _ _ x1
          replace x2 := s29 _ _ x2
          clear s29
          go_wp2
          go_ret
          refine ⟨by first | rfl | trivial, ?_⟩
          repeat (first | exact B0 _ | (with_reducible refine Bgo ?_ (by assumption)) | (with_reducible refine Bdrew ?_) | (with_reducible refine Bdraw ?_ _) | (with_reducible refine Bnew ?_ _))
      · obtain ⟨g0, g1, g2, g3, g4, g5, ga⟩ := hc
        have GA := hidp ga
        clear ga
        have g6 : c.tmod 8 = 0 := by rw [Int.tmod_eq_emod_of_nonneg (by omega)]; exact g3
        go_wp2_with fail
        refine (plAt_c t p s c _ _ _ GA.out _).mono ?_
        rintro e v30 ⟨rfl, hb30⟩
        have s30 := cells_stay hb30
        replace x0 := s30 _ _ x0
        replace x1 := s30 _ _ x1
        replace x2 := s30 _ _ x2
        clear s30
        go_wp2_with fail
        refine (plNote_c t p s m _).mono ?_
        rintro e v31 ⟨rfl, hb31⟩
        have s31 := cells_stay hb31
        replace x0 := s31 _ _ x0
        replace x1 := s31 _ _ x1
        replace x2 := s31 _ _ x2
        clear s31
        rw [HO.out]
        rcases XO.out with ho | ho
        · subst ho
          go_wp2_with fail
          refine (live_c _).mono ?_
          rintro e v32 ⟨rfl, hb32⟩
          have s32 := cells_stay hb32
          replace x0 := s32 _ _ x0
          replace x1 := s32 _ _ x1
          replace x2 := s32 _ _ x2
          clear s32
          go_wp2
          go_ret
          refine ⟨by first | rfl | trivial, ?_⟩
          repeat (first | exact B0 _ | (with_reducible refine Bgo ?_ (by assumption)) | (with_reducible refine Bdrew ?_) | (with_reducible refine Bdraw ?_ _) | (with_reducible refine Bnew ?_ _))
        · obtain ⟨g0, g1, g2, g3, ga⟩ := ho
          have GA := hidp ga
          clear ga
          have g6 : o.tmod 8 = 0 := by rw [Int.tmod_eq_emod_of_nonneg (by omega)]; exact g3
          go_wp2_with fail
          refine (plAt_c t p s o _ _ _ GA.out _).mono ?_
          rintro e v33 ⟨rfl, hb33⟩
          have s33 := cells_stay hb33
          replace x0 := s33 _ _ x0
          replace x1 := s33 _ _ x1
          replace x2 := s33 _ _ x2
          clear s33
          go_wp2_with fail
          refine (live_c _).mono ?_
          rintro e v34 ⟨rfl, hb34⟩
          have s34 := cells_stay hb34
          replace x0 := s34 _ _ x0
          replace x1 := s34 _ _ x1
          replace x2 := s34 _ _ x2
          clear s34
          go_wp2
          go_ret
          refine ⟨by first | rfl | trivial, ?_⟩
          repeat (first | exact B0 _ | (with_reducible refine Bgo ?_ (by assumption)) | (with_reducible refine Bdrew ?_) | (with_reducible refine Bdraw ?_ _) | (with_reducible refine Bnew ?_ _))
    · obtain ⟨g0, g1, g2, ga⟩ := hz
      have GA := hidp ga
      clear ga
      go_wp2_with fail
      refine (plAt_c t p s z _ _ _ GA.out _).mono ?_
      rintro e v35 ⟨rfl, hb35⟩
      have s35 := cells_stay hb35
      replace x0 := s35 _ _ x0
      replace x1 := s35 _ _ x1
      replace x2 := s35 _ _ x2
      clear s35
      go_wp2_with fail
      refine (plCall_c t p s m i _).mono ?_
      rintro e v36 ⟨rfl, hb36⟩
      have s36 := cells_stay hb36
      replace x0 := s36 _ _ x0
      replace x1 := s36 _ _ x1
      replace x2 := s36 _ _ x2
      clear s36
      rw [HC.out]
      rcases XC.out with hc | hc
      · subst hc
        go_wp2_with fail
        refine (plNote_c t p s m _).mono ?_
        rintro e v37 ⟨rfl, hb37⟩
        have s37 := cells_stay hb37
        replace x0 := s37 _ _ x0
        replace x1 := s37 _ _ x1
        replace x2 := s37 _ _ x2
        clear s37
        rw [HO.out]
        rcases XO.out with ho | ho
        · subst ho
          go_wp2_with fail
          refine (live_c _).mono ?_
          rintro e v38 ⟨rfl, hb38⟩
          have s38 := cells_stay hb38
          replace x0 := s38 _ _ x0
          replace x1 := s38 _ _ x1
          replace x2 := s38 _ _ x2
          clear s38
          go_wp2
          go_ret
          refine ⟨by first | rfl | trivial, ?_⟩
          repeat (first | exact B0 _ | (with_reducible refine Bgo ?_ (by assumption)) | (with_reducible refine Bdrew ?_) | (with_reducible refine Bdraw ?_ _) | (with_reducible refine Bnew ?_ _))
        · obtain ⟨g0, g1, g2, g3, ga⟩ := ho
          have GA := hidp ga
          clear ga
          have g6 : o.tmod 8 = 0 := by rw [Int.tmod_eq_emod_of_nonneg (by omega)]; exact g3
          go_wp2_with fail
          refine (plAt_c t p s o _ _ _ GA.out _).mono ?_
          rintro e v39 ⟨rfl, hb39⟩
          have s39 := cells_stay hb39
          replace x0 := s39 _ _ x0
          replace x1 := s39 _ _ x1
          replace x2 := s39 _ _ x2
          clear s39
          go_wp2_with fail
          refine (live_c _).mono ?_
          rintro e v40 ⟨rfl, hb40⟩
          have s40 := cells_stay hb40
          replace x0 := s40 _ _ x0
          replace x1 := s40 _ _ x1
          replace x2 := s40 _ _ x2
          clear s40
          go_wp2
          go_ret
          refine ⟨by first | rfl | trivial, ?_⟩
          repeat (first | exact B0 _ | (with_reducible refine Bgo ?_ (by assumption)) | (with_reducible refine Bdrew ?_) | (with_reducible refine Bdraw ?_ _) | (with_reducible refine Bnew ?_ _))
      · obtain ⟨g0, g1, g2, g3, g4, g5, ga⟩ := hc
        have GA := hidp ga
        clear ga
        have g6 : c.tmod 8 = 0 := by rw [Int.tmod_eq_emod_of_nonneg (by omega)]; exact g3
        go_wp2_with fail
        refine (plAt_c t p s c _ _ _ GA.out _).mono ?_
        rintro e v41 ⟨rfl, hb41⟩
        have s41 := cells_stay hb41
        replace x0 := s41 _ _ x0
        replace x1 := s41 _ _ x1
        replace x2 := s41 _ _ x2
        clear s41
        go_wp2_with fail
        refine (plNote_c t p s m _).mono ?_
        rintro e v42 ⟨rfl, hb42⟩
        have s42 := cells_stay hb42
        replace x0 := s42 _ _ x0
        replace x1 := s42 _ _ x1
        replace x2 := s42 _ _ x2
        clear s42
        rw [HO.out]
        rcases XO.out with ho | ho
        · subst ho
          go_wp2_with fail
          refine (live_c _).mono ?_
          rintro e v43 ⟨rfl, hb43⟩
          have s43 := cells_stay hb43
          replace x0 := s43 _ _ x0
          replace x1 := s43 _ _ x1
          replace x2 := s43 _ _ x2
          clear s43
          go_wp2
          go_ret
          refine ⟨by first | rfl | trivial, ?_⟩
          repeat (first | exact B0 _ | (with_reducible refine Bgo ?_ (by assumption)) | (with_reducible refine Bdrew ?_) | (with_reducible refine Bdraw ?_ _) | (with_reducible refine Bnew ?_ _))
        · obtain ⟨g0, g1, g2, g3, ga⟩ := ho
          have GA := hidp ga
          clear ga
          have g6 : o.tmod 8 = 0 := by rw [Int.tmod_eq_emod_of_nonneg (by omega)]; exact g3
          go_wp2_with fail
          refine (plAt_c t p s o _ _ _ GA.out _).mono ?_
          rintro e v44 ⟨rfl, hb44⟩
          have s44 := cells_stay hb44
          replace x0 := s44 _ _ x0
          replace x1 := s44 _ _ x1
          replace x2 := s44 _ _ x2
          clear s44
          go_wp2_with fail
          refine (live_c _).mono ?_
          rintro e v45 ⟨rfl, hb45⟩
          have s45 := cells_stay hb45
          replace x0 := s45 _ _ x0
          replace x1 := s45 _ _ x1
          replace x2 := s45 _ _ x2
          clear s45
          go_wp2
          go_ret
          refine ⟨by first | rfl | trivial, ?_⟩
          repeat (first | exact B0 _ | (with_reducible refine Bgo ?_ (by assumption)) | (with_reducible refine Bdrew ?_) | (with_reducible refine Bdraw ?_ _) | (with_reducible refine Bnew ?_ _))

end Go.Proofs.Ytiinomkppehkjaa
