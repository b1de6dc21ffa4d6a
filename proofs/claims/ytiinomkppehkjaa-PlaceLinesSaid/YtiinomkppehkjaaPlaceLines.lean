/-
  The calls of PlaceLines.
-/
import Derived.Test.YtiinomkppehkjaaPlaceLaws
import Derived.Deep.RegionWith
import Derived.Deep.CutRange
namespace Go.Proofs.Ytiinomkppehkjaa
open Go.ChangeShapes Go.WideShapes Go.ChangeAt Go.RowKit
set_option linter.unusedVariables false
set_option linter.unusedSimpArgs false

/-! lines -/
theorem part_is (q r : Int) : (4 ≤ (partT q r).1 ∧ (partT q r).2.1 = q) ∨ (partT q r).1 = 0 := by
  unfold partT
  split
  · left; simp
  · split
    · left; simp
    · split
      · left; simp
      · right; rfl
theorem at_big {t p s w : Int} (h : 4 ≤ (atT t p s w).1) : lM t p s ≤ w ∧ w < lW t p s ∧ 0 ≤ w := by
  unfold atT at h
  split at h
  · simp at h
  · split at h
    · simp at h
    · split at h
      · simp at h
      · split at h
        · omega
        · split at h
          · simp at h
          · simp at h
theorem at_line {t p s w v : Int} (h0 : 0 ≤ w) (h1 : 0 ≤ v) (h : w / 8 = v / 8) (hk : 4 ≤ (atT t p s w).1) : (4 ≤ (atT t p s v).1 ∧ (atT t p s v).2.1 = (atT t p s w).2.1) ∨ (atT t p s v).1 = 0 := by
  obtain ⟨a1, a2, a3⟩ := at_big hk
  have hb := lay_bounds t p s
  have hw := words_bounds t p s
  have e1 := at_maker a2 a1
  have e2 := at_maker (t := t) (p := p) (s := s) (w := v) (by omega) (by omega)
  have eq : (v - lM t p s) / 120 = (w - lM t p s) / 120 := by omega
  rw [eq] at e2
  rw [e1] at hk
  rw [e1, e2]
  rcases part_is ((w - lM t p s) / 120) ((w - lM t p s) % 120) with h2 | h2
  · rcases part_is ((w - lM t p s) / 120) ((v - lM t p s) % 120) with h3 | h3
    · left; exact ⟨h3.1, h3.2.trans h2.2.symm⟩
    · right; exact h3
  · omega
theorem at_kind (t p s w : Int) : 0 ≤ (atT t p s w).1 := by
  unfold atT
  repeat' split
  all_goals first | (simp; done) | (rcases part_is ((w - lM t p s) / 120) ((w - lM t p s) % 120) with h | h <;> omega)
/-- how two words of one line are to one another -/
theorem at_two {t p s w v k a b k' a' b' : Int} (h0 : 0 ≤ w) (h1 : 0 ≤ v) (h : w / 8 = v / 8) (e : atT t p s w = (k, a, b)) (e' : atT t p s v = (k', a', b')) :
    (4 ≤ k ∧ 4 ≤ k' ∧ a = a') ∨ (4 ≤ k ∧ k' = 0) ∨ (k = 0 ∧ 4 ≤ k') ∨ (k < 4 ∧ k' < 4) := by
  by_cases c : 4 ≤ k
  · have := at_line h0 h1 h (by rw [e]; exact c)
    rw [e, e'] at this
    rcases this with h2 | h2
    · left; exact ⟨c, h2.1, h2.2.symm⟩
    · right; left; exact ⟨c, h2⟩
  · by_cases c' : 4 ≤ k'
    · have := at_line h1 h0 h.symm (by rw [e']; exact c')
      rw [e, e'] at this
      rcases this with h2 | h2
      · omega
      · right; right; left; exact ⟨h2, c'⟩
    · right; right; right; omega

def atK (t p s v : Int) : Int := (atT t p s v).1
def atA (t p s v : Int) : Int := (atT t p s v).2.1
def atB (t p s v : Int) : Int := (atT t p s v).2.2
theorem plAt_k (t p s v : Int) (w : World) :
    Calls Try.prog 40 #[.agg #[.int .i64 t, .int .i64 p, .int .i64 s], .int .i64 v] w fun z w' => z = .returned (.agg #[.int .i64 (atK t p s v), .int .i64 (atA t p s v), .int .i64 (atB t p s v)]) ∧ Below w.heap.size w w' :=
  plAt_c t p s v _ _ _ rfl w

theorem PlaceLines_1 (t p s x y : Int) (h : x < 0) (w : World) : Calls Try.prog 6 #[.agg #[.int .i64 t, .int .i64 p, .int .i64 s], .int .i64 x, .int .i64 y] w (Keeps w) := by
  obtain ⟨n, hn⟩ : ∃ n, lW t p s = n := ⟨_, rfl⟩
  have hw := words_bounds t p s
  rw [hn] at hw
  have n0 : 0 ≤ n := by omega
  have n1 : n ≤ 8296 := by omega
  have g : n.tmod 8 = 0 := by rw [Int.tmod_eq_emod_of_nonneg (by omega)]; omega
  have HN := hidp hn
  clear hw hn
  go_enter Try.func6, Try.ntmps6
  go_wp2_with fail
  refine (plWords_c t p s _).mono ?_
  rintro e v1 ⟨rfl, hb1⟩
  rw [HN.out]
  go_wp2_with fail
  refine (live_c _).mono ?_
  rintro e v2 ⟨rfl, hb2⟩
  go_wp2
  go_ret
  exact ⟨by first | rfl | trivial, Bgo (Bgo (Bnew (B0 _) _) hb1) hb2⟩
theorem PlaceLines_2 (t p s x y : Int) (h : 0 ≤ x) (h1 : y < 0) (w : World) : Calls Try.prog 6 #[.agg #[.int .i64 t, .int .i64 p, .int .i64 s], .int .i64 x, .int .i64 y] w (Keeps w) := by
  obtain ⟨n, hn⟩ : ∃ n, lW t p s = n := ⟨_, rfl⟩
  have hw := words_bounds t p s
  rw [hn] at hw
  have n0 : 0 ≤ n := by omega
  have n1 : n ≤ 8296 := by omega
  have g : n.tmod 8 = 0 := by rw [Int.tmod_eq_emod_of_nonneg (by omega)]; omega
  have HN := hidp hn
  clear hw hn
  go_enter Try.func6, Try.ntmps6
  go_wp2_with fail
  refine (plWords_c t p s _).mono ?_
  rintro e v1 ⟨rfl, hb1⟩
  rw [HN.out]
  go_wp2_with fail
  refine (live_c _).mono ?_
  rintro e v2 ⟨rfl, hb2⟩
  go_wp2
  go_ret
  exact ⟨by first | rfl | trivial, Bgo (Bgo (Bnew (B0 _) _) hb1) hb2⟩
theorem PlaceLines_3 (t p s : Int) (x y d e : Nat) (hx : x ≤ 9223372036854775807) (hy : y ≤ 9223372036854775807) (hd : x / 8 = d) (he : y / 8 = e) (h : ¬ d = e) (w : World) : Calls Try.prog 6 #[.agg #[.int .i64 t, .int .i64 p, .int .i64 s], .int .i64 (x : Int), .int .i64 (y : Int)] w (Keeps w) := by
  have q1 : (x : Int) / 8 = d := by omega
  have q2 : (y : Int) / 8 = e := by omega
  have q3 : ((d : Int) != (e : Int)) = true := by simp; omega
  have q4 : ((d : Int) == (e : Int)) = false := by simp; omega
  have q5 : (d == e) = false := by simp; omega
  have d1 : d ≤ 1152921504606846975 := by omega
  have e1 : e ≤ 1152921504606846975 := by omega
  have q6 : ((x : Int) / 8 == (y : Int) / 8) = false := by simp; omega
  clear hd he
  obtain ⟨n, hn⟩ : ∃ n, lW t p s = n := ⟨_, rfl⟩
  have hw := words_bounds t p s
  rw [hn] at hw
  have n0 : 0 ≤ n := by omega
  have n1 : n ≤ 8296 := by omega
  have g : n.tmod 8 = 0 := by rw [Int.tmod_eq_emod_of_nonneg (by omega)]; omega
  have HN := hidp hn
  clear hw hn
  go_enter Try.func6, Try.ntmps6
  go_wp2_with fail
  refine (plWords_c t p s _).mono ?_
  rintro e v1 ⟨rfl, hb1⟩
  rw [HN.out]
  go_wp2_with fail
  refine (live_c _).mono ?_
  rintro e v2 ⟨rfl, hb2⟩
  go_wp2
  go_ret
  exact ⟨by first | rfl | trivial, Bgo (Bgo (Bnew (B0 _) _) hb1) hb2⟩

set_option maxHeartbeats 8000000 in
theorem PlaceLines_4 (t p s : Int) (x y d : Nat) (hd : x / 8 = d) (he : y / 8 = d) (w : World) : Calls Try.prog 6 #[.agg #[.int .i64 t, .int .i64 p, .int .i64 s], .int .i64 (x : Int), .int .i64 (y : Int)] w (Keeps w) := by
  have q1 : (x : Int) / 8 = d := by omega
  have q2 : (y : Int) / 8 = d := by omega
  have h2 := at_two (t := t) (p := p) (s := s) (w := x) (v := y) (by omega) (by omega) (by omega) rfl rfl
  obtain ⟨k, e1⟩ : ∃ k, atK t p s x = k := ⟨_, rfl⟩
  obtain ⟨a, e2⟩ : ∃ k, atA t p s x = k := ⟨_, rfl⟩
  obtain ⟨b, e3⟩ : ∃ k, atB t p s x = k := ⟨_, rfl⟩
  obtain ⟨k', e4⟩ : ∃ k, atK t p s y = k := ⟨_, rfl⟩
  obtain ⟨a', e5⟩ : ∃ k, atA t p s y = k := ⟨_, rfl⟩
  obtain ⟨b', e6⟩ : ∃ k, atB t p s y = k := ⟨_, rfl⟩
  have H2 : Hid ((4 ≤ k ∧ 4 ≤ k' ∧ a = a') ∨ (4 ≤ k ∧ k' = 0) ∨ (k = 0 ∧ 4 ≤ k') ∨ (k < 4 ∧ k' < 4)) := by
    rw [← e1, ← e2, ← e4, ← e5]
    exact h2
  have E1 := hidp e1
  have E2 := hidp e2
  have E3 := hidp e3
  have E4 := hidp e4
  have E5 := hidp e5
  have E6 := hidp e6
  have hc := (Held.new w 23 #[.int .i64 t, .int .i64 p, .int .i64 s]).three
  clear hd he e1 e2 e3 e4 e5 e6 h2
  go_enter Try.func6, Try.ntmps6
  go_upto_region 3 with fail
  go_cut [7, 8] from 29 to 34 (fun u7 u8 wx => ∃ g1 g2 : Nat, u7 = .pointer (some ⟨g1, 0, none⟩) ∧ u8 = .pointer (some ⟨g2, 0, none⟩) ∧ Held wx g1 31 #[.int .i64 k, .int .i64 a, .int .i64 b] ∧ Held wx g2 31 #[.int .i64 k', .int .i64 a', .int .i64 b'] ∧ Below w.heap.size w wx)
  case first =>
    refine wp_region_held_drew (S := (fun w' => w'.cell? ⟨w.heap.size, 0, none⟩ = some (.int .i64 t) ∧ w'.cell? ⟨w.heap.size, 1, none⟩ = some (.int .i64 p) ∧ w'.cell? ⟨w.heap.size, 2, none⟩ = some (.int .i64 s))) (by kernel_rfl) hc (fun hHeld => ?_)
    refine wpAnyH_take (i := 0) (oi := _) (v := ?_) rfl (by kernel_rfl) (by kernel_rfl) (by kernel_rfl) (fun _ _ _ h => h) (Or.inl ⟨by rfl, ?_⟩) hHeld ?_
    rotate_left
    · intro w hSw; (try dsimp only at hSw); go_simp; (try with_reducible rfl)
    (try simp only [Act.put, List.getElem_toArray, List.getElem_cons_zero, List.getElem_cons_succ, List.setIfInBounds_toArray, List.set_cons_zero, List.set_cons_succ])
    refine wpAnyH_take (i := 1) (oi := _) (v := ?_) rfl (by kernel_rfl) (by kernel_rfl) (by kernel_rfl) (fun _ _ _ h => h) (Or.inl ⟨by rfl, ?_⟩) hHeld ?_
    rotate_left
    · intro w hSw; (try dsimp only at hSw); go_simp; (try with_reducible rfl)
    (try simp only [Act.put, List.getElem_toArray, List.getElem_cons_zero, List.getElem_cons_succ, List.setIfInBounds_toArray, List.set_cons_zero, List.set_cons_succ])
    refine wpAnyH_take (i := 3) (oi := _) (v := ?_) rfl (by kernel_rfl) (by kernel_rfl) (by kernel_rfl) (fun _ _ _ h => h) (Or.inl ⟨by rfl, ?_⟩) hHeld ?_
    rotate_left
    · intro w hSw; (try dsimp only at hSw); go_simp; (try with_reducible rfl)
    (try simp only [Act.put, List.getElem_toArray, List.getElem_cons_zero, List.getElem_cons_succ, List.setIfInBounds_toArray, List.set_cons_zero, List.set_cons_succ])
    refine wpAnyH_take (i := 4) (oi := _) (v := ?_) rfl (by kernel_rfl) (by kernel_rfl) (by kernel_rfl) (fun _ _ _ h => h) (Or.inl ⟨by rfl, ?_⟩) hHeld ?_
    rotate_left
    · intro w hSw; (try dsimp only at hSw); go_simp; (try with_reducible rfl)
    (try simp only [Act.put, List.getElem_toArray, List.getElem_cons_zero, List.getElem_cons_succ, List.setIfInBounds_toArray, List.set_cons_zero, List.set_cons_succ])
    have x0 := (Held.new w 23 #[.int .i64 t, .int .i64 p, .int .i64 s]).drewN 1
    have b0 := Bdraw (Bnew (B0 w) (.cells #[.int .i64 t, .int .i64 p, .int .i64 s] 23)) 1
    replace x0 : Held (w.alloc (.cells #[.int .i64 t, .int .i64 p, .int .i64 s] 23)).drew w.heap.size 23 #[.int .i64 t, .int .i64 p, .int .i64 s] := x0
    replace b0 : Below w.heap.size w (w.alloc (.cells #[.int .i64 t, .int .i64 p, .int .i64 s] 23)).drew := b0
    generalize (w.alloc (.cells #[.int .i64 t, .int .i64 p, .int .i64 s] 23)).drew = q0 at hHeld x0 b0 ⊢
    refine wpAnyH_ready (rs := [2, 6, 7]) (by kernel_rfl) (by simp) ?_
    refine AllReadyH.cons (o := _) rfl (fun K hK => ?_) (AllReadyH.cons (o := _) rfl (fun K hK => ?_) (AllReadyH.cons (o := _) rfl (fun K hK => ?_) AllReadyH.nil))
    · skip
      go_simp
      refine (plAt_k _ _ _ _ _).mono ?_
      rintro e q1 ⟨rfl, l1⟩
      rw [E1.out, E2.out, E3.out]
      have x1 := x0.keep l1
      have b1 := Bgo b0 l1
      refine hK.out _ _ ?_ (fun hHeld => ?_)
      · exact x1.three
      clear hK K
      (try simp only [Act.put, List.getElem_toArray, List.getElem_cons_zero, List.getElem_cons_succ, List.setIfInBounds_toArray, List.set_cons_zero, List.set_cons_succ])
      refine wpAnyH_ready (rs := [5, 6, 7]) (by kernel_rfl) (by simp) ?_
      refine AllReadyH.cons (o := _) rfl (fun K hK => ?_) (AllReadyH.cons (o := _) rfl (fun K hK => ?_) (AllReadyH.cons (o := _) rfl (fun K hK => ?_) AllReadyH.nil))
      · skip
        go_simp
        refine (plAt_k _ _ _ _ _).mono ?_
        rintro e q2 ⟨rfl, l2⟩
        rw [E4.out, E5.out, E6.out]
        have x2 := x1.keep l2
        have b2 := Bgo b1 l2
        refine hK.out _ _ ?_ (fun hHeld => ?_)
        · exact x2.three
        clear hK K
        (try simp only [Act.put, List.getElem_toArray, List.getElem_cons_zero, List.getElem_cons_succ, List.setIfInBounds_toArray, List.set_cons_zero, List.set_cons_succ])
        refine wpAnyH_ready (rs := [6, 7]) (by kernel_rfl) (by simp) ?_
        refine AllReadyH.cons (o := _) rfl (fun K hK => ?_) (AllReadyH.cons (o := _) rfl (fun K hK => ?_) AllReadyH.nil)
        · skip
          go_simp
          have x3 := x2.alloc (.cells #[.int .i64 0, .int .i64 0, .int .i64 0] 31)
          have b3 := Bnew b2 (.cells #[.int .i64 0, .int .i64 0, .int .i64 0] 31)
          have h7_3 := Held.new q2 31 #[.int .i64 0, .int .i64 0, .int .i64 0]
          have lth7_3 := x2.lt
          generalize (q2.alloc (.cells #[.int .i64 0, .int .i64 0, .int .i64 0] 31)) = q3 at x3 b3 h7_3 ⊢
          refine hK.out _ _ ?_ (fun hHeld => ?_)
          · exact x3.three
          clear hK K
          (try simp only [Act.put, List.getElem_toArray, List.getElem_cons_zero, List.getElem_cons_succ, List.setIfInBounds_toArray, List.set_cons_zero, List.set_cons_succ])
          refine wpAnyH_ready (rs := [7]) (by kernel_rfl) (by simp) ?_
          refine AllReadyH.cons (o := _) rfl (fun K hK => ?_) AllReadyH.nil
          · skip
            go_simp
            have x4 := x3.alloc (.cells #[.int .i64 0, .int .i64 0, .int .i64 0] 31)
            have b4 := Bnew b3 (.cells #[.int .i64 0, .int .i64 0, .int .i64 0] 31)
            have h8_4 := Held.new q3 31 #[.int .i64 0, .int .i64 0, .int .i64 0]
            have lth8_4 := x3.lt
            have h7_4 := h7_3.alloc (.cells #[.int .i64 0, .int .i64 0, .int .i64 0] 31)
            have ne_4 := Nat.ne_of_lt h7_3.lt
            generalize (q3.alloc (.cells #[.int .i64 0, .int .i64 0, .int .i64 0] 31)) = q4 at x4 b4 h8_4 h7_4 ⊢
            refine hK.out _ _ ?_ (fun hHeld => ?_)
            · exact x4.three
            clear hK K
            (try simp only [Act.put, List.getElem_toArray, List.getElem_cons_zero, List.getElem_cons_succ, List.setIfInBounds_toArray, List.set_cons_zero, List.set_cons_succ])
            refine wpAnyH_ready (rs := [8]) (by kernel_rfl) (by simp) ?_
            refine AllReadyH.cons (o := _) rfl (fun K hK => ?_) AllReadyH.nil
            · skip
              obtain ⟨z0, z1, z2⟩ := h7_4.three
              have f0 := h7_4.thawed 0
              have f1 := h7_4.thawed 1
              have f2 := h7_4.thawed 2
              go_simp
              have h7_5 := ((h7_4.put 0 (.int .i64 k)).put 1 (.int .i64 a)).put 2 (.int .i64 b)
              have x5 := ((x4.far (p := ⟨_, 0, none⟩) (Nat.ne_of_lt lth7_3) (.int .i64 k)).far (p := ⟨_, 1, none⟩) (Nat.ne_of_lt lth7_3) (.int .i64 a)).far (p := ⟨_, 2, none⟩) (Nat.ne_of_lt lth7_3) (.int .i64 b)
              have h8_5 := ((h8_4.far (p := ⟨_, 0, none⟩) (Ne.symm ne_4) (.int .i64 k)).far (p := ⟨_, 1, none⟩) (Ne.symm ne_4) (.int .i64 a)).far (p := ⟨_, 2, none⟩) (Ne.symm ne_4) (.int .i64 b)
              have b5 := Bput (p := ⟨_, 2, none⟩) (Bput (p := ⟨_, 1, none⟩) (Bput (p := ⟨_, 0, none⟩) b4 (Nat.le_of_lt lth7_3) (.int .i64 k)) (Nat.le_of_lt lth7_3) (.int .i64 a)) (Nat.le_of_lt lth7_3) (.int .i64 b)
              clear z0 z1 z2 f0 f1 f2
              generalize ((((q4).setCell ⟨q2.heap.size, 0, none⟩ (.int .i64 k)).setCell ⟨q2.heap.size, 1, none⟩ (.int .i64 a)).setCell ⟨q2.heap.size, 2, none⟩ (.int .i64 b)) = q5 at x5 b5 h7_5 h8_5 ⊢
              refine hK.out _ _ ?_ (fun hHeld => ?_)
              · exact x5.three
              clear hK K
              (try simp only [Act.put, List.getElem_toArray, List.getElem_cons_zero, List.getElem_cons_succ, List.setIfInBounds_toArray, List.set_cons_zero, List.set_cons_succ])
              refine wpAnyH_ready (rs := [9]) (by kernel_rfl) (by simp) ?_
              refine AllReadyH.cons (o := _) rfl (fun K hK => ?_) AllReadyH.nil
              · skip
                obtain ⟨z0, z1, z2⟩ := h8_5.three
                have f0 := h8_5.thawed 0
                have f1 := h8_5.thawed 1
                have f2 := h8_5.thawed 2
                go_simp
                have h8_6 := ((h8_5.put 0 (.int .i64 k')).put 1 (.int .i64 a')).put 2 (.int .i64 b')
                have x6 := ((x5.far (p := ⟨_, 0, none⟩) (Nat.ne_of_lt lth8_4) (.int .i64 k')).far (p := ⟨_, 1, none⟩) (Nat.ne_of_lt lth8_4) (.int .i64 a')).far (p := ⟨_, 2, none⟩) (Nat.ne_of_lt lth8_4) (.int .i64 b')
                have h7_6 := ((h7_5.far (p := ⟨_, 0, none⟩) ne_4 (.int .i64 k')).far (p := ⟨_, 1, none⟩) ne_4 (.int .i64 a')).far (p := ⟨_, 2, none⟩) ne_4 (.int .i64 b')
                have b6 := Bput (p := ⟨_, 2, none⟩) (Bput (p := ⟨_, 1, none⟩) (Bput (p := ⟨_, 0, none⟩) b5 (Nat.le_of_lt lth8_4) (.int .i64 k')) (Nat.le_of_lt lth8_4) (.int .i64 a')) (Nat.le_of_lt lth8_4) (.int .i64 b')
                clear z0 z1 z2 f0 f1 f2
                generalize ((((q5).setCell ⟨q3.heap.size, 0, none⟩ (.int .i64 k')).setCell ⟨q3.heap.size, 1, none⟩ (.int .i64 a')).setCell ⟨q3.heap.size, 2, none⟩ (.int .i64 b')) = q6 at x6 b6 h8_6 h7_6 ⊢
                refine hK.out _ _ ?_ (fun hHeld => ?_)
                · exact x6.three
                clear hK K
                (try simp only [Act.put, List.getElem_toArray, List.getElem_cons_zero, List.getElem_cons_succ, List.setIfInBounds_toArray, List.set_cons_zero, List.set_cons_succ])
                refine wpAnyH_done (by kernel_rfl) ?_ _
                go_wp2_with fail
                go_meet
                case rel => exact ⟨_, _, rfl, rfl, h7_6, h8_6, b6⟩
        · skip
          go_simp
          have x7 := x2.alloc (.cells #[.int .i64 0, .int .i64 0, .int .i64 0] 31)
          have b7 := Bnew b2 (.cells #[.int .i64 0, .int .i64 0, .int .i64 0] 31)
          have h8_7 := Held.new q2 31 #[.int .i64 0, .int .i64 0, .int .i64 0]
          have lth8_7 := x2.lt
          generalize (q2.alloc (.cells #[.int .i64 0, .int .i64 0, .int .i64 0] 31)) = q7 at x7 b7 h8_7 ⊢
          refine hK.out _ _ ?_ (fun hHeld => ?_)
          · exact x7.three
          clear hK K
          (try simp only [Act.put, List.getElem_toArray, List.getElem_cons_zero, List.getElem_cons_succ, List.setIfInBounds_toArray, List.set_cons_zero, List.set_cons_succ])
          refine wpAnyH_ready (rs := [6]) (by kernel_rfl) (by simp) ?_
          refine AllReadyH.cons (o := _) rfl (fun K hK => ?_) AllReadyH.nil
          · skip
            go_simp
            have x8 := x7.alloc (.cells #[.int .i64 0, .int .i64 0, .int .i64 0] 31)
            have b8 := Bnew b7 (.cells #[.int .i64 0, .int .i64 0, .int .i64 0] 31)
            have h7_8 := Held.new q7 31 #[.int .i64 0, .int .i64 0, .int .i64 0]
            have lth7_8 := x7.lt
            have h8_8 := h8_7.alloc (.cells #[.int .i64 0, .int .i64 0, .int .i64 0] 31)
            have ne_8 := Nat.ne_of_lt h8_7.lt
            generalize (q7.alloc (.cells #[.int .i64 0, .int .i64 0, .int .i64 0] 31)) = q8 at x8 b8 h7_8 h8_8 ⊢
            refine hK.out _ _ ?_ (fun hHeld => ?_)
            · exact x8.three
            clear hK K
            (try simp only [Act.put, List.getElem_toArray, List.getElem_cons_zero, List.getElem_cons_succ, List.setIfInBounds_toArray, List.set_cons_zero, List.set_cons_succ])
            refine wpAnyH_ready (rs := [8]) (by kernel_rfl) (by simp) ?_
            refine AllReadyH.cons (o := _) rfl (fun K hK => ?_) AllReadyH.nil
            · skip
              obtain ⟨z0, z1, z2⟩ := h7_8.three
              have f0 := h7_8.thawed 0
              have f1 := h7_8.thawed 1
              have f2 := h7_8.thawed 2
              go_simp
              have h7_9 := ((h7_8.put 0 (.int .i64 k)).put 1 (.int .i64 a)).put 2 (.int .i64 b)
              have x9 := ((x8.far (p := ⟨_, 0, none⟩) (Nat.ne_of_lt lth7_8) (.int .i64 k)).far (p := ⟨_, 1, none⟩) (Nat.ne_of_lt lth7_8) (.int .i64 a)).far (p := ⟨_, 2, none⟩) (Nat.ne_of_lt lth7_8) (.int .i64 b)
              have h8_9 := ((h8_8.far (p := ⟨_, 0, none⟩) ne_8 (.int .i64 k)).far (p := ⟨_, 1, none⟩) ne_8 (.int .i64 a)).far (p := ⟨_, 2, none⟩) ne_8 (.int .i64 b)
              have b9 := Bput (p := ⟨_, 2, none⟩) (Bput (p := ⟨_, 1, none⟩) (Bput (p := ⟨_, 0, none⟩) b8 (Nat.le_of_lt lth7_8) (.int .i64 k)) (Nat.le_of_lt lth7_8) (.int .i64 a)) (Nat.le_of_lt lth7_8) (.int .i64 b)
              clear z0 z1 z2 f0 f1 f2
              generalize ((((q8).setCell ⟨q7.heap.size, 0, none⟩ (.int .i64 k)).setCell ⟨q7.heap.size, 1, none⟩ (.int .i64 a)).setCell ⟨q7.heap.size, 2, none⟩ (.int .i64 b)) = q9 at x9 b9 h7_9 h8_9 ⊢
              refine hK.out _ _ ?_ (fun hHeld => ?_)
              · exact x9.three
              clear hK K
              (try simp only [Act.put, List.getElem_toArray, List.getElem_cons_zero, List.getElem_cons_succ, List.setIfInBounds_toArray, List.set_cons_zero, List.set_cons_succ])
              refine wpAnyH_ready (rs := [9]) (by kernel_rfl) (by simp) ?_
              refine AllReadyH.cons (o := _) rfl (fun K hK => ?_) AllReadyH.nil
              · skip
                obtain ⟨z0, z1, z2⟩ := h8_9.three
                have f0 := h8_9.thawed 0
                have f1 := h8_9.thawed 1
                have f2 := h8_9.thawed 2
                go_simp
                have h8_10 := ((h8_9.put 0 (.int .i64 k')).put 1 (.int .i64 a')).put 2 (.int .i64 b')
                have x10 := ((x9.far (p := ⟨_, 0, none⟩) (Nat.ne_of_lt lth8_7) (.int .i64 k')).far (p := ⟨_, 1, none⟩) (Nat.ne_of_lt lth8_7) (.int .i64 a')).far (p := ⟨_, 2, none⟩) (Nat.ne_of_lt lth8_7) (.int .i64 b')
                have h7_10 := ((h7_9.far (p := ⟨_, 0, none⟩) (Ne.symm ne_8) (.int .i64 k')).far (p := ⟨_, 1, none⟩) (Ne.symm ne_8) (.int .i64 a')).far (p := ⟨_, 2, none⟩) (Ne.symm ne_8) (.int .i64 b')
                have b10 := Bput (p := ⟨_, 2, none⟩) (Bput (p := ⟨_, 1, none⟩) (Bput (p := ⟨_, 0, none⟩) b9 (Nat.le_of_lt lth8_7) (.int .i64 k')) (Nat.le_of_lt lth8_7) (.int .i64 a')) (Nat.le_of_lt lth8_7) (.int .i64 b')
                clear z0 z1 z2 f0 f1 f2
                generalize ((((q9).setCell ⟨q2.heap.size, 0, none⟩ (.int .i64 k')).setCell ⟨q2.heap.size, 1, none⟩ (.int .i64 a')).setCell ⟨q2.heap.size, 2, none⟩ (.int .i64 b')) = q10 at x10 b10 h8_10 h7_10 ⊢
                refine hK.out _ _ ?_ (fun hHeld => ?_)
                · exact x10.three
                clear hK K
                (try simp only [Act.put, List.getElem_toArray, List.getElem_cons_zero, List.getElem_cons_succ, List.setIfInBounds_toArray, List.set_cons_zero, List.set_cons_succ])
                refine wpAnyH_done (by kernel_rfl) ?_ _
                go_wp2_with fail
                go_meet
                case rel => exact ⟨_, _, rfl, rfl, h7_10, h8_10, b10⟩
      · skip
        go_simp
        have x11 := x1.alloc (.cells #[.int .i64 0, .int .i64 0, .int .i64 0] 31)
        have b11 := Bnew b1 (.cells #[.int .i64 0, .int .i64 0, .int .i64 0] 31)
        have h7_11 := Held.new q1 31 #[.int .i64 0, .int .i64 0, .int .i64 0]
        have lth7_11 := x1.lt
        generalize (q1.alloc (.cells #[.int .i64 0, .int .i64 0, .int .i64 0] 31)) = q11 at x11 b11 h7_11 ⊢
        refine hK.out _ _ ?_ (fun hHeld => ?_)
        · exact x11.three
        clear hK K
        (try simp only [Act.put, List.getElem_toArray, List.getElem_cons_zero, List.getElem_cons_succ, List.setIfInBounds_toArray, List.set_cons_zero, List.set_cons_succ])
        refine wpAnyH_ready (rs := [5, 7]) (by kernel_rfl) (by simp) ?_
        refine AllReadyH.cons (o := _) rfl (fun K hK => ?_) (AllReadyH.cons (o := _) rfl (fun K hK => ?_) AllReadyH.nil)
        · skip
          go_simp
          refine (plAt_k _ _ _ _ _).mono ?_
          rintro e q12 ⟨rfl, l12⟩
          rw [E4.out, E5.out, E6.out]
          have x12 := x11.keep l12
          have b12 := Bgo b11 l12
          have h7_12 := h7_11.keep l12
          refine hK.out _ _ ?_ (fun hHeld => ?_)
          · exact x12.three
          clear hK K
          (try simp only [Act.put, List.getElem_toArray, List.getElem_cons_zero, List.getElem_cons_succ, List.setIfInBounds_toArray, List.set_cons_zero, List.set_cons_succ])
          refine wpAnyH_ready (rs := [7]) (by kernel_rfl) (by simp) ?_
          refine AllReadyH.cons (o := _) rfl (fun K hK => ?_) AllReadyH.nil
          · skip
            go_simp
            have x13 := x12.alloc (.cells #[.int .i64 0, .int .i64 0, .int .i64 0] 31)
            have b13 := Bnew b12 (.cells #[.int .i64 0, .int .i64 0, .int .i64 0] 31)
            have h8_13 := Held.new q12 31 #[.int .i64 0, .int .i64 0, .int .i64 0]
            have lth8_13 := x12.lt
            have h7_13 := h7_12.alloc (.cells #[.int .i64 0, .int .i64 0, .int .i64 0] 31)
            have ne_13 := Nat.ne_of_lt h7_12.lt
            generalize (q12.alloc (.cells #[.int .i64 0, .int .i64 0, .int .i64 0] 31)) = q13 at x13 b13 h8_13 h7_13 ⊢
            refine hK.out _ _ ?_ (fun hHeld => ?_)
            · exact x13.three
            clear hK K
            (try simp only [Act.put, List.getElem_toArray, List.getElem_cons_zero, List.getElem_cons_succ, List.setIfInBounds_toArray, List.set_cons_zero, List.set_cons_succ])
            refine wpAnyH_ready (rs := [8]) (by kernel_rfl) (by simp) ?_
            refine AllReadyH.cons (o := _) rfl (fun K hK => ?_) AllReadyH.nil
            · skip
              obtain ⟨z0, z1, z2⟩ := h7_13.three
              have f0 := h7_13.thawed 0
              have f1 := h7_13.thawed 1
              have f2 := h7_13.thawed 2
              go_simp
              have h7_14 := ((h7_13.put 0 (.int .i64 k)).put 1 (.int .i64 a)).put 2 (.int .i64 b)
              have x14 := ((x13.far (p := ⟨_, 0, none⟩) (Nat.ne_of_lt lth7_11) (.int .i64 k)).far (p := ⟨_, 1, none⟩) (Nat.ne_of_lt lth7_11) (.int .i64 a)).far (p := ⟨_, 2, none⟩) (Nat.ne_of_lt lth7_11) (.int .i64 b)
              have h8_14 := ((h8_13.far (p := ⟨_, 0, none⟩) (Ne.symm ne_13) (.int .i64 k)).far (p := ⟨_, 1, none⟩) (Ne.symm ne_13) (.int .i64 a)).far (p := ⟨_, 2, none⟩) (Ne.symm ne_13) (.int .i64 b)
              have b14 := Bput (p := ⟨_, 2, none⟩) (Bput (p := ⟨_, 1, none⟩) (Bput (p := ⟨_, 0, none⟩) b13 (Nat.le_of_lt lth7_11) (.int .i64 k)) (Nat.le_of_lt lth7_11) (.int .i64 a)) (Nat.le_of_lt lth7_11) (.int .i64 b)
              clear z0 z1 z2 f0 f1 f2
              generalize ((((q13).setCell ⟨q1.heap.size, 0, none⟩ (.int .i64 k)).setCell ⟨q1.heap.size, 1, none⟩ (.int .i64 a)).setCell ⟨q1.heap.size, 2, none⟩ (.int .i64 b)) = q14 at x14 b14 h7_14 h8_14 ⊢
              refine hK.out _ _ ?_ (fun hHeld => ?_)
              · exact x14.three
              clear hK K
              (try simp only [Act.put, List.getElem_toArray, List.getElem_cons_zero, List.getElem_cons_succ, List.setIfInBounds_toArray, List.set_cons_zero, List.set_cons_succ])
              refine wpAnyH_ready (rs := [9]) (by kernel_rfl) (by simp) ?_
              refine AllReadyH.cons (o := _) rfl (fun K hK => ?_) AllReadyH.nil
              · skip
                obtain ⟨z0, z1, z2⟩ := h8_14.three
                have f0 := h8_14.thawed 0
                have f1 := h8_14.thawed 1
                have f2 := h8_14.thawed 2
                go_simp
                have h8_15 := ((h8_14.put 0 (.int .i64 k')).put 1 (.int .i64 a')).put 2 (.int .i64 b')
                have x15 := ((x14.far (p := ⟨_, 0, none⟩) (Nat.ne_of_lt lth8_13) (.int .i64 k')).far (p := ⟨_, 1, none⟩) (Nat.ne_of_lt lth8_13) (.int .i64 a')).far (p := ⟨_, 2, none⟩) (Nat.ne_of_lt lth8_13) (.int .i64 b')
                have h7_15 := ((h7_14.far (p := ⟨_, 0, none⟩) ne_13 (.int .i64 k')).far (p := ⟨_, 1, none⟩) ne_13 (.int .i64 a')).far (p := ⟨_, 2, none⟩) ne_13 (.int .i64 b')
                have b15 := Bput (p := ⟨_, 2, none⟩) (Bput (p := ⟨_, 1, none⟩) (Bput (p := ⟨_, 0, none⟩) b14 (Nat.le_of_lt lth8_13) (.int .i64 k')) (Nat.le_of_lt lth8_13) (.int .i64 a')) (Nat.le_of_lt lth8_13) (.int .i64 b')
                clear z0 z1 z2 f0 f1 f2
                generalize ((((q14).setCell ⟨q12.heap.size, 0, none⟩ (.int .i64 k')).setCell ⟨q12.heap.size, 1, none⟩ (.int .i64 a')).setCell ⟨q12.heap.size, 2, none⟩ (.int .i64 b')) = q15 at x15 b15 h8_15 h7_15 ⊢
                refine hK.out _ _ ?_ (fun hHeld => ?_)
                · exact x15.three
                clear hK K
                (try simp only [Act.put, List.getElem_toArray, List.getElem_cons_zero, List.getElem_cons_succ, List.setIfInBounds_toArray, List.set_cons_zero, List.set_cons_succ])
                refine wpAnyH_done (by kernel_rfl) ?_ _
                go_wp2_with fail
                go_meet
                case rel => exact ⟨_, _, rfl, rfl, h7_15, h8_15, b15⟩
        · skip
          go_simp
          have x16 := x11.alloc (.cells #[.int .i64 0, .int .i64 0, .int .i64 0] 31)
          have b16 := Bnew b11 (.cells #[.int .i64 0, .int .i64 0, .int .i64 0] 31)
          have h8_16 := Held.new q11 31 #[.int .i64 0, .int .i64 0, .int .i64 0]
          have lth8_16 := x11.lt
          have h7_16 := h7_11.alloc (.cells #[.int .i64 0, .int .i64 0, .int .i64 0] 31)
          have ne_16 := Nat.ne_of_lt h7_11.lt
          generalize (q11.alloc (.cells #[.int .i64 0, .int .i64 0, .int .i64 0] 31)) = q16 at x16 b16 h8_16 h7_16 ⊢
          refine hK.out _ _ ?_ (fun hHeld => ?_)
          · exact x16.three
          clear hK K
          (try simp only [Act.put, List.getElem_toArray, List.getElem_cons_zero, List.getElem_cons_succ, List.setIfInBounds_toArray, List.set_cons_zero, List.set_cons_succ])
          refine wpAnyH_ready (rs := [5]) (by kernel_rfl) (by simp) ?_
          refine AllReadyH.cons (o := _) rfl (fun K hK => ?_) AllReadyH.nil
          · skip
            go_simp
            refine (plAt_k _ _ _ _ _).mono ?_
            rintro e q17 ⟨rfl, l17⟩
            rw [E4.out, E5.out, E6.out]
            have x17 := x16.keep l17
            have b17 := Bgo b16 l17
            have h7_17 := h7_16.keep l17
            have h8_17 := h8_16.keep l17
            refine hK.out _ _ ?_ (fun hHeld => ?_)
            · exact x17.three
            clear hK K
            (try simp only [Act.put, List.getElem_toArray, List.getElem_cons_zero, List.getElem_cons_succ, List.setIfInBounds_toArray, List.set_cons_zero, List.set_cons_succ])
            refine wpAnyH_ready (rs := [8]) (by kernel_rfl) (by simp) ?_
            refine AllReadyH.cons (o := _) rfl (fun K hK => ?_) AllReadyH.nil
            · skip
              obtain ⟨z0, z1, z2⟩ := h7_17.three
              have f0 := h7_17.thawed 0
              have f1 := h7_17.thawed 1
              have f2 := h7_17.thawed 2
              go_simp
              have h7_18 := ((h7_17.put 0 (.int .i64 k)).put 1 (.int .i64 a)).put 2 (.int .i64 b)
              have x18 := ((x17.far (p := ⟨_, 0, none⟩) (Nat.ne_of_lt lth7_11) (.int .i64 k)).far (p := ⟨_, 1, none⟩) (Nat.ne_of_lt lth7_11) (.int .i64 a)).far (p := ⟨_, 2, none⟩) (Nat.ne_of_lt lth7_11) (.int .i64 b)
              have h8_18 := ((h8_17.far (p := ⟨_, 0, none⟩) (Ne.symm ne_16) (.int .i64 k)).far (p := ⟨_, 1, none⟩) (Ne.symm ne_16) (.int .i64 a)).far (p := ⟨_, 2, none⟩) (Ne.symm ne_16) (.int .i64 b)
              have b18 := Bput (p := ⟨_, 2, none⟩) (Bput (p := ⟨_, 1, none⟩) (Bput (p := ⟨_, 0, none⟩) b17 (Nat.le_of_lt lth7_11) (.int .i64 k)) (Nat.le_of_lt lth7_11) (.int .i64 a)) (Nat.le_of_lt lth7_11) (.int .i64 b)
              clear z0 z1 z2 f0 f1 f2
              generalize ((((q17).setCell ⟨q1.heap.size, 0, none⟩ (.int .i64 k)).setCell ⟨q1.heap.size, 1, none⟩ (.int .i64 a)).setCell ⟨q1.heap.size, 2, none⟩ (.int .i64 b)) = q18 at x18 b18 h7_18 h8_18 ⊢
              refine hK.out _ _ ?_ (fun hHeld => ?_)
              · exact x18.three
              clear hK K
              (try simp only [Act.put, List.getElem_toArray, List.getElem_cons_zero, List.getElem_cons_succ, List.setIfInBounds_toArray, List.set_cons_zero, List.set_cons_succ])
              refine wpAnyH_ready (rs := [9]) (by kernel_rfl) (by simp) ?_
              refine AllReadyH.cons (o := _) rfl (fun K hK => ?_) AllReadyH.nil
              · skip
                obtain ⟨z0, z1, z2⟩ := h8_18.three
                have f0 := h8_18.thawed 0
                have f1 := h8_18.thawed 1
                have f2 := h8_18.thawed 2
                go_simp
                have h8_19 := ((h8_18.put 0 (.int .i64 k')).put 1 (.int .i64 a')).put 2 (.int .i64 b')
                have x19 := ((x18.far (p := ⟨_, 0, none⟩) (Nat.ne_of_lt lth8_16) (.int .i64 k')).far (p := ⟨_, 1, none⟩) (Nat.ne_of_lt lth8_16) (.int .i64 a')).far (p := ⟨_, 2, none⟩) (Nat.ne_of_lt lth8_16) (.int .i64 b')
                have h7_19 := ((h7_18.far (p := ⟨_, 0, none⟩) ne_16 (.int .i64 k')).far (p := ⟨_, 1, none⟩) ne_16 (.int .i64 a')).far (p := ⟨_, 2, none⟩) ne_16 (.int .i64 b')
                have b19 := Bput (p := ⟨_, 2, none⟩) (Bput (p := ⟨_, 1, none⟩) (Bput (p := ⟨_, 0, none⟩) b18 (Nat.le_of_lt lth8_16) (.int .i64 k')) (Nat.le_of_lt lth8_16) (.int .i64 a')) (Nat.le_of_lt lth8_16) (.int .i64 b')
                clear z0 z1 z2 f0 f1 f2
                generalize ((((q18).setCell ⟨q11.heap.size, 0, none⟩ (.int .i64 k')).setCell ⟨q11.heap.size, 1, none⟩ (.int .i64 a')).setCell ⟨q11.heap.size, 2, none⟩ (.int .i64 b')) = q19 at x19 b19 h8_19 h7_19 ⊢
                refine hK.out _ _ ?_ (fun hHeld => ?_)
                · exact x19.three
                clear hK K
                (try simp only [Act.put, List.getElem_toArray, List.getElem_cons_zero, List.getElem_cons_succ, List.setIfInBounds_toArray, List.set_cons_zero, List.set_cons_succ])
                refine wpAnyH_done (by kernel_rfl) ?_ _
                go_wp2_with fail
                go_meet
                case rel => exact ⟨_, _, rfl, rfl, h7_19, h8_19, b19⟩
      · skip
        go_simp
        have x20 := x1.alloc (.cells #[.int .i64 0, .int .i64 0, .int .i64 0] 31)
        have b20 := Bnew b1 (.cells #[.int .i64 0, .int .i64 0, .int .i64 0] 31)
        have h8_20 := Held.new q1 31 #[.int .i64 0, .int .i64 0, .int .i64 0]
        have lth8_20 := x1.lt
        generalize (q1.alloc (.cells #[.int .i64 0, .int .i64 0, .int .i64 0] 31)) = q20 at x20 b20 h8_20 ⊢
        refine hK.out _ _ ?_ (fun hHeld => ?_)
        · exact x20.three
        clear hK K
        (try simp only [Act.put, List.getElem_toArray, List.getElem_cons_zero, List.getElem_cons_succ, List.setIfInBounds_toArray, List.set_cons_zero, List.set_cons_succ])
        refine wpAnyH_ready (rs := [5, 6]) (by kernel_rfl) (by simp) ?_
        refine AllReadyH.cons (o := _) rfl (fun K hK => ?_) (AllReadyH.cons (o := _) rfl (fun K hK => ?_) AllReadyH.nil)
        · skip
          go_simp
          refine (plAt_k _ _ _ _ _).mono ?_
          rintro e q21 ⟨rfl, l21⟩
          rw [E4.out, E5.out, E6.out]
          have x21 := x20.keep l21
          have b21 := Bgo b20 l21
          have h8_21 := h8_20.keep l21
          refine hK.out _ _ ?_ (fun hHeld => ?_)
          · exact x21.three
          clear hK K
          (try simp only [Act.put, List.getElem_toArray, List.getElem_cons_zero, List.getElem_cons_succ, List.setIfInBounds_toArray, List.set_cons_zero, List.set_cons_succ])
          refine wpAnyH_ready (rs := [6]) (by kernel_rfl) (by simp) ?_
          refine AllReadyH.cons (o := _) rfl (fun K hK => ?_) AllReadyH.nil
          · skip
            go_simp
            have x22 := x21.alloc (.cells #[.int .i64 0, .int .i64 0, .int .i64 0] 31)
            have b22 := Bnew b21 (.cells #[.int .i64 0, .int .i64 0, .int .i64 0] 31)
            have h7_22 := Held.new q21 31 #[.int .i64 0, .int .i64 0, .int .i64 0]
            have lth7_22 := x21.lt
            have h8_22 := h8_21.alloc (.cells #[.int .i64 0, .int .i64 0, .int .i64 0] 31)
            have ne_22 := Nat.ne_of_lt h8_21.lt
            generalize (q21.alloc (.cells #[.int .i64 0, .int .i64 0, .int .i64 0] 31)) = q22 at x22 b22 h7_22 h8_22 ⊢
            refine hK.out _ _ ?_ (fun hHeld => ?_)
            · exact x22.three
            clear hK K
            (try simp only [Act.put, List.getElem_toArray, List.getElem_cons_zero, List.getElem_cons_succ, List.setIfInBounds_toArray, List.set_cons_zero, List.set_cons_succ])
            refine wpAnyH_ready (rs := [8]) (by kernel_rfl) (by simp) ?_
            refine AllReadyH.cons (o := _) rfl (fun K hK => ?_) AllReadyH.nil
            · skip
              obtain ⟨z0, z1, z2⟩ := h7_22.three
              have f0 := h7_22.thawed 0
              have f1 := h7_22.thawed 1
              have f2 := h7_22.thawed 2
              go_simp
              have h7_23 := ((h7_22.put 0 (.int .i64 k)).put 1 (.int .i64 a)).put 2 (.int .i64 b)
              have x23 := ((x22.far (p := ⟨_, 0, none⟩) (Nat.ne_of_lt lth7_22) (.int .i64 k)).far (p := ⟨_, 1, none⟩) (Nat.ne_of_lt lth7_22) (.int .i64 a)).far (p := ⟨_, 2, none⟩) (Nat.ne_of_lt lth7_22) (.int .i64 b)
              have h8_23 := ((h8_22.far (p := ⟨_, 0, none⟩) ne_22 (.int .i64 k)).far (p := ⟨_, 1, none⟩) ne_22 (.int .i64 a)).far (p := ⟨_, 2, none⟩) ne_22 (.int .i64 b)
              have b23 := Bput (p := ⟨_, 2, none⟩) (Bput (p := ⟨_, 1, none⟩) (Bput (p := ⟨_, 0, none⟩) b22 (Nat.le_of_lt lth7_22) (.int .i64 k)) (Nat.le_of_lt lth7_22) (.int .i64 a)) (Nat.le_of_lt lth7_22) (.int .i64 b)
              clear z0 z1 z2 f0 f1 f2
              generalize ((((q22).setCell ⟨q21.heap.size, 0, none⟩ (.int .i64 k)).setCell ⟨q21.heap.size, 1, none⟩ (.int .i64 a)).setCell ⟨q21.heap.size, 2, none⟩ (.int .i64 b)) = q23 at x23 b23 h7_23 h8_23 ⊢
              refine hK.out _ _ ?_ (fun hHeld => ?_)
              · exact x23.three
              clear hK K
              (try simp only [Act.put, List.getElem_toArray, List.getElem_cons_zero, List.getElem_cons_succ, List.setIfInBounds_toArray, List.set_cons_zero, List.set_cons_succ])
              refine wpAnyH_ready (rs := [9]) (by kernel_rfl) (by simp) ?_
              refine AllReadyH.cons (o := _) rfl (fun K hK => ?_) AllReadyH.nil
              · skip
                obtain ⟨z0, z1, z2⟩ := h8_23.three
                have f0 := h8_23.thawed 0
                have f1 := h8_23.thawed 1
                have f2 := h8_23.thawed 2
                go_simp
                have h8_24 := ((h8_23.put 0 (.int .i64 k')).put 1 (.int .i64 a')).put 2 (.int .i64 b')
                have x24 := ((x23.far (p := ⟨_, 0, none⟩) (Nat.ne_of_lt lth8_20) (.int .i64 k')).far (p := ⟨_, 1, none⟩) (Nat.ne_of_lt lth8_20) (.int .i64 a')).far (p := ⟨_, 2, none⟩) (Nat.ne_of_lt lth8_20) (.int .i64 b')
                have h7_24 := ((h7_23.far (p := ⟨_, 0, none⟩) (Ne.symm ne_22) (.int .i64 k')).far (p := ⟨_, 1, none⟩) (Ne.symm ne_22) (.int .i64 a')).far (p := ⟨_, 2, none⟩) (Ne.symm ne_22) (.int .i64 b')
                have b24 := Bput (p := ⟨_, 2, none⟩) (Bput (p := ⟨_, 1, none⟩) (Bput (p := ⟨_, 0, none⟩) b23 (Nat.le_of_lt lth8_20) (.int .i64 k')) (Nat.le_of_lt lth8_20) (.int .i64 a')) (Nat.le_of_lt lth8_20) (.int .i64 b')
                clear z0 z1 z2 f0 f1 f2
                generalize ((((q23).setCell ⟨q1.heap.size, 0, none⟩ (.int .i64 k')).setCell ⟨q1.heap.size, 1, none⟩ (.int .i64 a')).setCell ⟨q1.heap.size, 2, none⟩ (.int .i64 b')) = q24 at x24 b24 h8_24 h7_24 ⊢
                refine hK.out _ _ ?_ (fun hHeld => ?_)
                · exact x24.three
                clear hK K
                (try simp only [Act.put, List.getElem_toArray, List.getElem_cons_zero, List.getElem_cons_succ, List.setIfInBounds_toArray, List.set_cons_zero, List.set_cons_succ])
                refine wpAnyH_done (by kernel_rfl) ?_ _
                go_wp2_with fail
                go_meet
                case rel => exact ⟨_, _, rfl, rfl, h7_24, h8_24, b24⟩
        · skip
          go_simp
          have x25 := x20.alloc (.cells #[.int .i64 0, .int .i64 0, .int .i64 0] 31)
          have b25 := Bnew b20 (.cells #[.int .i64 0, .int .i64 0, .int .i64 0] 31)
          have h7_25 := Held.new q20 31 #[.int .i64 0, .int .i64 0, .int .i64 0]
          have lth7_25 := x20.lt
          have h8_25 := h8_20.alloc (.cells #[.int .i64 0, .int .i64 0, .int .i64 0] 31)
          have ne_25 := Nat.ne_of_lt h8_20.lt
          generalize (q20.alloc (.cells #[.int .i64 0, .int .i64 0, .int .i64 0] 31)) = q25 at x25 b25 h7_25 h8_25 ⊢
          refine hK.out _ _ ?_ (fun hHeld => ?_)
          · exact x25.three
          clear hK K
          (try simp only [Act.put, List.getElem_toArray, List.getElem_cons_zero, List.getElem_cons_succ, List.setIfInBounds_toArray, List.set_cons_zero, List.set_cons_succ])
          refine wpAnyH_ready (rs := [5]) (by kernel_rfl) (by simp) ?_
          refine AllReadyH.cons (o := _) rfl (fun K hK => ?_) AllReadyH.nil
          · skip
            go_simp
            refine (plAt_k _ _ _ _ _).mono ?_
            rintro e q26 ⟨rfl, l26⟩
            rw [E4.out, E5.out, E6.out]
            have x26 := x25.keep l26
            have b26 := Bgo b25 l26
            have h7_26 := h7_25.keep l26
            have h8_26 := h8_25.keep l26
            refine hK.out _ _ ?_ (fun hHeld => ?_)
            · exact x26.three
            clear hK K
            (try simp only [Act.put, List.getElem_toArray, List.getElem_cons_zero, List.getElem_cons_succ, List.setIfInBounds_toArray, List.set_cons_zero, List.set_cons_succ])
            refine wpAnyH_ready (rs := [8]) (by kernel_rfl) (by simp) ?_
            refine AllReadyH.cons (o := _) rfl (fun K hK => ?_) AllReadyH.nil
            · skip
              obtain ⟨z0, z1, z2⟩ := h7_26.three
              have f0 := h7_26.thawed 0
              have f1 := h7_26.thawed 1
              have f2 := h7_26.thawed 2
              go_simp
              have h7_27 := ((h7_26.put 0 (.int .i64 k)).put 1 (.int .i64 a)).put 2 (.int .i64 b)
              have x27 := ((x26.far (p := ⟨_, 0, none⟩) (Nat.ne_of_lt lth7_25) (.int .i64 k)).far (p := ⟨_, 1, none⟩) (Nat.ne_of_lt lth7_25) (.int .i64 a)).far (p := ⟨_, 2, none⟩) (Nat.ne_of_lt lth7_25) (.int .i64 b)
              have h8_27 := ((h8_26.far (p := ⟨_, 0, none⟩) ne_25 (.int .i64 k)).far (p := ⟨_, 1, none⟩) ne_25 (.int .i64 a)).far (p := ⟨_, 2, none⟩) ne_25 (.int .i64 b)
              have b27 := Bput (p := ⟨_, 2, none⟩) (Bput (p := ⟨_, 1, none⟩) (Bput (p := ⟨_, 0, none⟩) b26 (Nat.le_of_lt lth7_25) (.int .i64 k)) (Nat.le_of_lt lth7_25) (.int .i64 a)) (Nat.le_of_lt lth7_25) (.int .i64 b)
              clear z0 z1 z2 f0 f1 f2
              generalize ((((q26).setCell ⟨q20.heap.size, 0, none⟩ (.int .i64 k)).setCell ⟨q20.heap.size, 1, none⟩ (.int .i64 a)).setCell ⟨q20.heap.size, 2, none⟩ (.int .i64 b)) = q27 at x27 b27 h7_27 h8_27 ⊢
              refine hK.out _ _ ?_ (fun hHeld => ?_)
              · exact x27.three
              clear hK K
              (try simp only [Act.put, List.getElem_toArray, List.getElem_cons_zero, List.getElem_cons_succ, List.setIfInBounds_toArray, List.set_cons_zero, List.set_cons_succ])
              refine wpAnyH_ready (rs := [9]) (by kernel_rfl) (by simp) ?_
              refine AllReadyH.cons (o := _) rfl (fun K hK => ?_) AllReadyH.nil
              · skip
                obtain ⟨z0, z1, z2⟩ := h8_27.three
                have f0 := h8_27.thawed 0
                have f1 := h8_27.thawed 1
                have f2 := h8_27.thawed 2
                go_simp
                have h8_28 := ((h8_27.put 0 (.int .i64 k')).put 1 (.int .i64 a')).put 2 (.int .i64 b')
                have x28 := ((x27.far (p := ⟨_, 0, none⟩) (Nat.ne_of_lt lth8_20) (.int .i64 k')).far (p := ⟨_, 1, none⟩) (Nat.ne_of_lt lth8_20) (.int .i64 a')).far (p := ⟨_, 2, none⟩) (Nat.ne_of_lt lth8_20) (.int .i64 b')
                have h7_28 := ((h7_27.far (p := ⟨_, 0, none⟩) (Ne.symm ne_25) (.int .i64 k')).far (p := ⟨_, 1, none⟩) (Ne.symm ne_25) (.int .i64 a')).far (p := ⟨_, 2, none⟩) (Ne.symm ne_25) (.int .i64 b')
                have b28 := Bput (p := ⟨_, 2, none⟩) (Bput (p := ⟨_, 1, none⟩) (Bput (p := ⟨_, 0, none⟩) b27 (Nat.le_of_lt lth8_20) (.int .i64 k')) (Nat.le_of_lt lth8_20) (.int .i64 a')) (Nat.le_of_lt lth8_20) (.int .i64 b')
                clear z0 z1 z2 f0 f1 f2
                generalize ((((q27).setCell ⟨q1.heap.size, 0, none⟩ (.int .i64 k')).setCell ⟨q1.heap.size, 1, none⟩ (.int .i64 a')).setCell ⟨q1.heap.size, 2, none⟩ (.int .i64 b')) = q28 at x28 b28 h8_28 h7_28 ⊢
                refine hK.out _ _ ?_ (fun hHeld => ?_)
                · exact x28.three
                clear hK K
                (try simp only [Act.put, List.getElem_toArray, List.getElem_cons_zero, List.getElem_cons_succ, List.setIfInBounds_toArray, List.set_cons_zero, List.set_cons_succ])
                refine wpAnyH_done (by kernel_rfl) ?_ _
                go_wp2_with fail
                go_meet
                case rel => exact ⟨_, _, rfl, rfl, h7_28, h8_28, b28⟩
    · skip
      go_simp
      have x29 := x0.alloc (.cells #[.int .i64 0, .int .i64 0, .int .i64 0] 31)
      have b29 := Bnew b0 (.cells #[.int .i64 0, .int .i64 0, .int .i64 0] 31)
      have h7_29 := Held.new q0 31 #[.int .i64 0, .int .i64 0, .int .i64 0]
      have lth7_29 := x0.lt
      generalize (q0.alloc (.cells #[.int .i64 0, .int .i64 0, .int .i64 0] 31)) = q29 at x29 b29 h7_29 ⊢
      refine hK.out _ _ ?_ (fun hHeld => ?_)
      · exact x29.three
      clear hK K
      (try simp only [Act.put, List.getElem_toArray, List.getElem_cons_zero, List.getElem_cons_succ, List.setIfInBounds_toArray, List.set_cons_zero, List.set_cons_succ])
      refine wpAnyH_ready (rs := [2, 7]) (by kernel_rfl) (by simp) ?_
      refine AllReadyH.cons (o := _) rfl (fun K hK => ?_) (AllReadyH.cons (o := _) rfl (fun K hK => ?_) AllReadyH.nil)
      · skip
        go_simp
        refine (plAt_k _ _ _ _ _).mono ?_
        rintro e q30 ⟨rfl, l30⟩
        rw [E1.out, E2.out, E3.out]
        have x30 := x29.keep l30
        have b30 := Bgo b29 l30
        have h7_30 := h7_29.keep l30
        refine hK.out _ _ ?_ (fun hHeld => ?_)
        · exact x30.three
        clear hK K
        (try simp only [Act.put, List.getElem_toArray, List.getElem_cons_zero, List.getElem_cons_succ, List.setIfInBounds_toArray, List.set_cons_zero, List.set_cons_succ])
        refine wpAnyH_ready (rs := [5, 7]) (by kernel_rfl) (by simp) ?_
        refine AllReadyH.cons (o := _) rfl (fun K hK => ?_) (AllReadyH.cons (o := _) rfl (fun K hK => ?_) AllReadyH.nil)
        · skip
          go_simp
          refine (plAt_k _ _ _ _ _).mono ?_
          rintro e q31 ⟨rfl, l31⟩
          rw [E4.out, E5.out, E6.out]
          have x31 := x30.keep l31
          have b31 := Bgo b30 l31
          have h7_31 := h7_30.keep l31
          refine hK.out _ _ ?_ (fun hHeld => ?_)
          · exact x31.three
          clear hK K
          (try simp only [Act.put, List.getElem_toArray, List.getElem_cons_zero, List.getElem_cons_succ, List.setIfInBounds_toArray, List.set_cons_zero, List.set_cons_succ])
          refine wpAnyH_ready (rs := [7]) (by kernel_rfl) (by simp) ?_
          refine AllReadyH.cons (o := _) rfl (fun K hK => ?_) AllReadyH.nil
          · skip
            go_simp
            have x32 := x31.alloc (.cells #[.int .i64 0, .int .i64 0, .int .i64 0] 31)
            have b32 := Bnew b31 (.cells #[.int .i64 0, .int .i64 0, .int .i64 0] 31)
            have h8_32 := Held.new q31 31 #[.int .i64 0, .int .i64 0, .int .i64 0]
            have lth8_32 := x31.lt
            have h7_32 := h7_31.alloc (.cells #[.int .i64 0, .int .i64 0, .int .i64 0] 31)
            have ne_32 := Nat.ne_of_lt h7_31.lt
            generalize (q31.alloc (.cells #[.int .i64 0, .int .i64 0, .int .i64 0] 31)) = q32 at x32 b32 h8_32 h7_32 ⊢
            refine hK.out _ _ ?_ (fun hHeld => ?_)
            · exact x32.three
            clear hK K
            (try simp only [Act.put, List.getElem_toArray, List.getElem_cons_zero, List.getElem_cons_succ, List.setIfInBounds_toArray, List.set_cons_zero, List.set_cons_succ])
            refine wpAnyH_ready (rs := [8]) (by kernel_rfl) (by simp) ?_
            refine AllReadyH.cons (o := _) rfl (fun K hK => ?_) AllReadyH.nil
            · skip
              obtain ⟨z0, z1, z2⟩ := h7_32.three
              have f0 := h7_32.thawed 0
              have f1 := h7_32.thawed 1
              have f2 := h7_32.thawed 2
              go_simp
              have h7_33 := ((h7_32.put 0 (.int .i64 k)).put 1 (.int .i64 a)).put 2 (.int .i64 b)
              have x33 := ((x32.far (p := ⟨_, 0, none⟩) (Nat.ne_of_lt lth7_29) (.int .i64 k)).far (p := ⟨_, 1, none⟩) (Nat.ne_of_lt lth7_29) (.int .i64 a)).far (p := ⟨_, 2, none⟩) (Nat.ne_of_lt lth7_29) (.int .i64 b)
              have h8_33 := ((h8_32.far (p := ⟨_, 0, none⟩) (Ne.symm ne_32) (.int .i64 k)).far (p := ⟨_, 1, none⟩) (Ne.symm ne_32) (.int .i64 a)).far (p := ⟨_, 2, none⟩) (Ne.symm ne_32) (.int .i64 b)
              have b33 := Bput (p := ⟨_, 2, none⟩) (Bput (p := ⟨_, 1, none⟩) (Bput (p := ⟨_, 0, none⟩) b32 (Nat.le_of_lt lth7_29) (.int .i64 k)) (Nat.le_of_lt lth7_29) (.int .i64 a)) (Nat.le_of_lt lth7_29) (.int .i64 b)
              clear z0 z1 z2 f0 f1 f2
              generalize ((((q32).setCell ⟨q0.heap.size, 0, none⟩ (.int .i64 k)).setCell ⟨q0.heap.size, 1, none⟩ (.int .i64 a)).setCell ⟨q0.heap.size, 2, none⟩ (.int .i64 b)) = q33 at x33 b33 h7_33 h8_33 ⊢
              refine hK.out _ _ ?_ (fun hHeld => ?_)
              · exact x33.three
              clear hK K
              (try simp only [Act.put, List.getElem_toArray, List.getElem_cons_zero, List.getElem_cons_succ, List.setIfInBounds_toArray, List.set_cons_zero, List.set_cons_succ])
              refine wpAnyH_ready (rs := [9]) (by kernel_rfl) (by simp) ?_
              refine AllReadyH.cons (o := _) rfl (fun K hK => ?_) AllReadyH.nil
              · skip
                obtain ⟨z0, z1, z2⟩ := h8_33.three
                have f0 := h8_33.thawed 0
                have f1 := h8_33.thawed 1
                have f2 := h8_33.thawed 2
                go_simp
                have h8_34 := ((h8_33.put 0 (.int .i64 k')).put 1 (.int .i64 a')).put 2 (.int .i64 b')
                have x34 := ((x33.far (p := ⟨_, 0, none⟩) (Nat.ne_of_lt lth8_32) (.int .i64 k')).far (p := ⟨_, 1, none⟩) (Nat.ne_of_lt lth8_32) (.int .i64 a')).far (p := ⟨_, 2, none⟩) (Nat.ne_of_lt lth8_32) (.int .i64 b')
                have h7_34 := ((h7_33.far (p := ⟨_, 0, none⟩) ne_32 (.int .i64 k')).far (p := ⟨_, 1, none⟩) ne_32 (.int .i64 a')).far (p := ⟨_, 2, none⟩) ne_32 (.int .i64 b')
                have b34 := Bput (p := ⟨_, 2, none⟩) (Bput (p := ⟨_, 1, none⟩) (Bput (p := ⟨_, 0, none⟩) b33 (Nat.le_of_lt lth8_32) (.int .i64 k')) (Nat.le_of_lt lth8_32) (.int .i64 a')) (Nat.le_of_lt lth8_32) (.int .i64 b')
                clear z0 z1 z2 f0 f1 f2
                generalize ((((q33).setCell ⟨q31.heap.size, 0, none⟩ (.int .i64 k')).setCell ⟨q31.heap.size, 1, none⟩ (.int .i64 a')).setCell ⟨q31.heap.size, 2, none⟩ (.int .i64 b')) = q34 at x34 b34 h8_34 h7_34 ⊢
                refine hK.out _ _ ?_ (fun hHeld => ?_)
                · exact x34.three
                clear hK K
                (try simp only [Act.put, List.getElem_toArray, List.getElem_cons_zero, List.getElem_cons_succ, List.setIfInBounds_toArray, List.set_cons_zero, List.set_cons_succ])
                refine wpAnyH_done (by kernel_rfl) ?_ _
                go_wp2_with fail
                go_meet
                case rel => exact ⟨_, _, rfl, rfl, h7_34, h8_34, b34⟩
        · skip
          go_simp
          have x35 := x30.alloc (.cells #[.int .i64 0, .int .i64 0, .int .i64 0] 31)
          have b35 := Bnew b30 (.cells #[.int .i64 0, .int .i64 0, .int .i64 0] 31)
          have h8_35 := Held.new q30 31 #[.int .i64 0, .int .i64 0, .int .i64 0]
          have lth8_35 := x30.lt
          have h7_35 := h7_30.alloc (.cells #[.int .i64 0, .int .i64 0, .int .i64 0] 31)
          have ne_35 := Nat.ne_of_lt h7_30.lt
          generalize (q30.alloc (.cells #[.int .i64 0, .int .i64 0, .int .i64 0] 31)) = q35 at x35 b35 h8_35 h7_35 ⊢
          refine hK.out _ _ ?_ (fun hHeld => ?_)
          · exact x35.three
          clear hK K
          (try simp only [Act.put, List.getElem_toArray, List.getElem_cons_zero, List.getElem_cons_succ, List.setIfInBounds_toArray, List.set_cons_zero, List.set_cons_succ])
          refine wpAnyH_ready (rs := [5]) (by kernel_rfl) (by simp) ?_
          refine AllReadyH.cons (o := _) rfl (fun K hK => ?_) AllReadyH.nil
          · skip
            go_simp
            refine (plAt_k _ _ _ _ _).mono ?_
            rintro e q36 ⟨rfl, l36⟩
            rw [E4.out, E5.out, E6.out]
            have x36 := x35.keep l36
            have b36 := Bgo b35 l36
            have h7_36 := h7_35.keep l36
            have h8_36 := h8_35.keep l36
            refine hK.out _ _ ?_ (fun hHeld => ?_)
            · exact x36.three
            clear hK K
            (try simp only [Act.put, List.getElem_toArray, List.getElem_cons_zero, List.getElem_cons_succ, List.setIfInBounds_toArray, List.set_cons_zero, List.set_cons_succ])
            refine wpAnyH_ready (rs := [8]) (by kernel_rfl) (by simp) ?_
            refine AllReadyH.cons (o := _) rfl (fun K hK => ?_) AllReadyH.nil
            · skip
              obtain ⟨z0, z1, z2⟩ := h7_36.three
              have f0 := h7_36.thawed 0
              have f1 := h7_36.thawed 1
              have f2 := h7_36.thawed 2
              go_simp
              have h7_37 := ((h7_36.put 0 (.int .i64 k)).put 1 (.int .i64 a)).put 2 (.int .i64 b)
              have x37 := ((x36.far (p := ⟨_, 0, none⟩) (Nat.ne_of_lt lth7_29) (.int .i64 k)).far (p := ⟨_, 1, none⟩) (Nat.ne_of_lt lth7_29) (.int .i64 a)).far (p := ⟨_, 2, none⟩) (Nat.ne_of_lt lth7_29) (.int .i64 b)
              have h8_37 := ((h8_36.far (p := ⟨_, 0, none⟩) (Ne.symm ne_35) (.int .i64 k)).far (p := ⟨_, 1, none⟩) (Ne.symm ne_35) (.int .i64 a)).far (p := ⟨_, 2, none⟩) (Ne.symm ne_35) (.int .i64 b)
              have b37 := Bput (p := ⟨_, 2, none⟩) (Bput (p := ⟨_, 1, none⟩) (Bput (p := ⟨_, 0, none⟩) b36 (Nat.le_of_lt lth7_29) (.int .i64 k)) (Nat.le_of_lt lth7_29) (.int .i64 a)) (Nat.le_of_lt lth7_29) (.int .i64 b)
              clear z0 z1 z2 f0 f1 f2
              generalize ((((q36).setCell ⟨q0.heap.size, 0, none⟩ (.int .i64 k)).setCell ⟨q0.heap.size, 1, none⟩ (.int .i64 a)).setCell ⟨q0.heap.size, 2, none⟩ (.int .i64 b)) = q37 at x37 b37 h7_37 h8_37 ⊢
              refine hK.out _ _ ?_ (fun hHeld => ?_)
              · exact x37.three
              clear hK K
              (try simp only [Act.put, List.getElem_toArray, List.getElem_cons_zero, List.getElem_cons_succ, List.setIfInBounds_toArray, List.set_cons_zero, List.set_cons_succ])
              refine wpAnyH_ready (rs := [9]) (by kernel_rfl) (by simp) ?_
              refine AllReadyH.cons (o := _) rfl (fun K hK => ?_) AllReadyH.nil
              · skip
                obtain ⟨z0, z1, z2⟩ := h8_37.three
                have f0 := h8_37.thawed 0
                have f1 := h8_37.thawed 1
                have f2 := h8_37.thawed 2
                go_simp
                have h8_38 := ((h8_37.put 0 (.int .i64 k')).put 1 (.int .i64 a')).put 2 (.int .i64 b')
                have x38 := ((x37.far (p := ⟨_, 0, none⟩) (Nat.ne_of_lt lth8_35) (.int .i64 k')).far (p := ⟨_, 1, none⟩) (Nat.ne_of_lt lth8_35) (.int .i64 a')).far (p := ⟨_, 2, none⟩) (Nat.ne_of_lt lth8_35) (.int .i64 b')
                have h7_38 := ((h7_37.far (p := ⟨_, 0, none⟩) ne_35 (.int .i64 k')).far (p := ⟨_, 1, none⟩) ne_35 (.int .i64 a')).far (p := ⟨_, 2, none⟩) ne_35 (.int .i64 b')
                have b38 := Bput (p := ⟨_, 2, none⟩) (Bput (p := ⟨_, 1, none⟩) (Bput (p := ⟨_, 0, none⟩) b37 (Nat.le_of_lt lth8_35) (.int .i64 k')) (Nat.le_of_lt lth8_35) (.int .i64 a')) (Nat.le_of_lt lth8_35) (.int .i64 b')
                clear z0 z1 z2 f0 f1 f2
                generalize ((((q37).setCell ⟨q30.heap.size, 0, none⟩ (.int .i64 k')).setCell ⟨q30.heap.size, 1, none⟩ (.int .i64 a')).setCell ⟨q30.heap.size, 2, none⟩ (.int .i64 b')) = q38 at x38 b38 h8_38 h7_38 ⊢
                refine hK.out _ _ ?_ (fun hHeld => ?_)
                · exact x38.three
                clear hK K
                (try simp only [Act.put, List.getElem_toArray, List.getElem_cons_zero, List.getElem_cons_succ, List.setIfInBounds_toArray, List.set_cons_zero, List.set_cons_succ])
                refine wpAnyH_done (by kernel_rfl) ?_ _
                go_wp2_with fail
                go_meet
                case rel => exact ⟨_, _, rfl, rfl, h7_38, h8_38, b38⟩
      · skip
        go_simp
        have x39 := x29.alloc (.cells #[.int .i64 0, .int .i64 0, .int .i64 0] 31)
        have b39 := Bnew b29 (.cells #[.int .i64 0, .int .i64 0, .int .i64 0] 31)
        have h8_39 := Held.new q29 31 #[.int .i64 0, .int .i64 0, .int .i64 0]
        have lth8_39 := x29.lt
        have h7_39 := h7_29.alloc (.cells #[.int .i64 0, .int .i64 0, .int .i64 0] 31)
        have ne_39 := Nat.ne_of_lt h7_29.lt
        generalize (q29.alloc (.cells #[.int .i64 0, .int .i64 0, .int .i64 0] 31)) = q39 at x39 b39 h8_39 h7_39 ⊢
        refine hK.out _ _ ?_ (fun hHeld => ?_)
        · exact x39.three
        clear hK K
        (try simp only [Act.put, List.getElem_toArray, List.getElem_cons_zero, List.getElem_cons_succ, List.setIfInBounds_toArray, List.set_cons_zero, List.set_cons_succ])
        refine wpAnyH_ready (rs := [2]) (by kernel_rfl) (by simp) ?_
        refine AllReadyH.cons (o := _) rfl (fun K hK => ?_) AllReadyH.nil
        · skip
          go_simp
          refine (plAt_k _ _ _ _ _).mono ?_
          rintro e q40 ⟨rfl, l40⟩
          rw [E1.out, E2.out, E3.out]
          have x40 := x39.keep l40
          have b40 := Bgo b39 l40
          have h7_40 := h7_39.keep l40
          have h8_40 := h8_39.keep l40
          refine hK.out _ _ ?_ (fun hHeld => ?_)
          · exact x40.three
          clear hK K
          (try simp only [Act.put, List.getElem_toArray, List.getElem_cons_zero, List.getElem_cons_succ, List.setIfInBounds_toArray, List.set_cons_zero, List.set_cons_succ])
          refine wpAnyH_ready (rs := [5]) (by kernel_rfl) (by simp) ?_
          refine AllReadyH.cons (o := _) rfl (fun K hK => ?_) AllReadyH.nil
          · skip
            go_simp
            refine (plAt_k _ _ _ _ _).mono ?_
            rintro e q41 ⟨rfl, l41⟩
            rw [E4.out, E5.out, E6.out]
            have x41 := x40.keep l41
            have b41 := Bgo b40 l41
            have h7_41 := h7_40.keep l41
            have h8_41 := h8_40.keep l41
            refine hK.out _ _ ?_ (fun hHeld => ?_)
            · exact x41.three
            clear hK K
            (try simp only [Act.put, List.getElem_toArray, List.getElem_cons_zero, List.getElem_cons_succ, List.setIfInBounds_toArray, List.set_cons_zero, List.set_cons_succ])
            refine wpAnyH_ready (rs := [8]) (by kernel_rfl) (by simp) ?_
            refine AllReadyH.cons (o := _) rfl (fun K hK => ?_) AllReadyH.nil
            · skip
              obtain ⟨z0, z1, z2⟩ := h7_41.three
              have f0 := h7_41.thawed 0
              have f1 := h7_41.thawed 1
              have f2 := h7_41.thawed 2
              go_simp
              have h7_42 := ((h7_41.put 0 (.int .i64 k)).put 1 (.int .i64 a)).put 2 (.int .i64 b)
              have x42 := ((x41.far (p := ⟨_, 0, none⟩) (Nat.ne_of_lt lth7_29) (.int .i64 k)).far (p := ⟨_, 1, none⟩) (Nat.ne_of_lt lth7_29) (.int .i64 a)).far (p := ⟨_, 2, none⟩) (Nat.ne_of_lt lth7_29) (.int .i64 b)
              have h8_42 := ((h8_41.far (p := ⟨_, 0, none⟩) (Ne.symm ne_39) (.int .i64 k)).far (p := ⟨_, 1, none⟩) (Ne.symm ne_39) (.int .i64 a)).far (p := ⟨_, 2, none⟩) (Ne.symm ne_39) (.int .i64 b)
              have b42 := Bput (p := ⟨_, 2, none⟩) (Bput (p := ⟨_, 1, none⟩) (Bput (p := ⟨_, 0, none⟩) b41 (Nat.le_of_lt lth7_29) (.int .i64 k)) (Nat.le_of_lt lth7_29) (.int .i64 a)) (Nat.le_of_lt lth7_29) (.int .i64 b)
              clear z0 z1 z2 f0 f1 f2
              generalize ((((q41).setCell ⟨q0.heap.size, 0, none⟩ (.int .i64 k)).setCell ⟨q0.heap.size, 1, none⟩ (.int .i64 a)).setCell ⟨q0.heap.size, 2, none⟩ (.int .i64 b)) = q42 at x42 b42 h7_42 h8_42 ⊢
              refine hK.out _ _ ?_ (fun hHeld => ?_)
              · exact x42.three
              clear hK K
              (try simp only [Act.put, List.getElem_toArray, List.getElem_cons_zero, List.getElem_cons_succ, List.setIfInBounds_toArray, List.set_cons_zero, List.set_cons_succ])
              refine wpAnyH_ready (rs := [9]) (by kernel_rfl) (by simp) ?_
              refine AllReadyH.cons (o := _) rfl (fun K hK => ?_) AllReadyH.nil
              · skip
                obtain ⟨z0, z1, z2⟩ := h8_42.three
                have f0 := h8_42.thawed 0
                have f1 := h8_42.thawed 1
                have f2 := h8_42.thawed 2
                go_simp
                have h8_43 := ((h8_42.put 0 (.int .i64 k')).put 1 (.int .i64 a')).put 2 (.int .i64 b')
                have x43 := ((x42.far (p := ⟨_, 0, none⟩) (Nat.ne_of_lt lth8_39) (.int .i64 k')).far (p := ⟨_, 1, none⟩) (Nat.ne_of_lt lth8_39) (.int .i64 a')).far (p := ⟨_, 2, none⟩) (Nat.ne_of_lt lth8_39) (.int .i64 b')
                have h7_43 := ((h7_42.far (p := ⟨_, 0, none⟩) ne_39 (.int .i64 k')).far (p := ⟨_, 1, none⟩) ne_39 (.int .i64 a')).far (p := ⟨_, 2, none⟩) ne_39 (.int .i64 b')
                have b43 := Bput (p := ⟨_, 2, none⟩) (Bput (p := ⟨_, 1, none⟩) (Bput (p := ⟨_, 0, none⟩) b42 (Nat.le_of_lt lth8_39) (.int .i64 k')) (Nat.le_of_lt lth8_39) (.int .i64 a')) (Nat.le_of_lt lth8_39) (.int .i64 b')
                clear z0 z1 z2 f0 f1 f2
                generalize ((((q42).setCell ⟨q29.heap.size, 0, none⟩ (.int .i64 k')).setCell ⟨q29.heap.size, 1, none⟩ (.int .i64 a')).setCell ⟨q29.heap.size, 2, none⟩ (.int .i64 b')) = q43 at x43 b43 h8_43 h7_43 ⊢
                refine hK.out _ _ ?_ (fun hHeld => ?_)
                · exact x43.three
                clear hK K
                (try simp only [Act.put, List.getElem_toArray, List.getElem_cons_zero, List.getElem_cons_succ, List.setIfInBounds_toArray, List.set_cons_zero, List.set_cons_succ])
                refine wpAnyH_done (by kernel_rfl) ?_ _
                go_wp2_with fail
                go_meet
                case rel => exact ⟨_, _, rfl, rfl, h7_43, h8_43, b43⟩
    · skip
      go_simp
      have x44 := x0.alloc (.cells #[.int .i64 0, .int .i64 0, .int .i64 0] 31)
      have b44 := Bnew b0 (.cells #[.int .i64 0, .int .i64 0, .int .i64 0] 31)
      have h8_44 := Held.new q0 31 #[.int .i64 0, .int .i64 0, .int .i64 0]
      have lth8_44 := x0.lt
      generalize (q0.alloc (.cells #[.int .i64 0, .int .i64 0, .int .i64 0] 31)) = q44 at x44 b44 h8_44 ⊢
      refine hK.out _ _ ?_ (fun hHeld => ?_)
      · exact x44.three
      clear hK K
      (try simp only [Act.put, List.getElem_toArray, List.getElem_cons_zero, List.getElem_cons_succ, List.setIfInBounds_toArray, List.set_cons_zero, List.set_cons_succ])
      refine wpAnyH_ready (rs := [2, 6]) (by kernel_rfl) (by simp) ?_
      refine AllReadyH.cons (o := _) rfl (fun K hK => ?_) (AllReadyH.cons (o := _) rfl (fun K hK => ?_) AllReadyH.nil)
      · skip
        go_simp
        refine (plAt_k _ _ _ _ _).mono ?_
        rintro e q45 ⟨rfl, l45⟩
        rw [E1.out, E2.out, E3.out]
        have x45 := x44.keep l45
        have b45 := Bgo b44 l45
        have h8_45 := h8_44.keep l45
        refine hK.out _ _ ?_ (fun hHeld => ?_)
        · exact x45.three
        clear hK K
        (try simp only [Act.put, List.getElem_toArray, List.getElem_cons_zero, List.getElem_cons_succ, List.setIfInBounds_toArray, List.set_cons_zero, List.set_cons_succ])
        refine wpAnyH_ready (rs := [5, 6]) (by kernel_rfl) (by simp) ?_
        refine AllReadyH.cons (o := _) rfl (fun K hK => ?_) (AllReadyH.cons (o := _) rfl (fun K hK => ?_) AllReadyH.nil)
        · skip
          go_simp
          refine (plAt_k _ _ _ _ _).mono ?_
          rintro e q46 ⟨rfl, l46⟩
          rw [E4.out, E5.out, E6.out]
          have x46 := x45.keep l46
          have b46 := Bgo b45 l46
          have h8_46 := h8_45.keep l46
          refine hK.out _ _ ?_ (fun hHeld => ?_)
          · exact x46.three
          clear hK K
          (try simp only [Act.put, List.getElem_toArray, List.getElem_cons_zero, List.getElem_cons_succ, List.setIfInBounds_toArray, List.set_cons_zero, List.set_cons_succ])
          refine wpAnyH_ready (rs := [6]) (by kernel_rfl) (by simp) ?_
          refine AllReadyH.cons (o := _) rfl (fun K hK => ?_) AllReadyH.nil
          · skip
            go_simp
            have x47 := x46.alloc (.cells #[.int .i64 0, .int .i64 0, .int .i64 0] 31)
            have b47 := Bnew b46 (.cells #[.int .i64 0, .int .i64 0, .int .i64 0] 31)
            have h7_47 := Held.new q46 31 #[.int .i64 0, .int .i64 0, .int .i64 0]
            have lth7_47 := x46.lt
            have h8_47 := h8_46.alloc (.cells #[.int .i64 0, .int .i64 0, .int .i64 0] 31)
            have ne_47 := Nat.ne_of_lt h8_46.lt
            generalize (q46.alloc (.cells #[.int .i64 0, .int .i64 0, .int .i64 0] 31)) = q47 at x47 b47 h7_47 h8_47 ⊢
            refine hK.out _ _ ?_ (fun hHeld => ?_)
            · exact x47.three
            clear hK K
            (try simp only [Act.put, List.getElem_toArray, List.getElem_cons_zero, List.getElem_cons_succ, List.setIfInBounds_toArray, List.set_cons_zero, List.set_cons_succ])
            refine wpAnyH_ready (rs := [8]) (by kernel_rfl) (by simp) ?_
            refine AllReadyH.cons (o := _) rfl (fun K hK => ?_) AllReadyH.nil
            · skip
              obtain ⟨z0, z1, z2⟩ := h7_47.three
              have f0 := h7_47.thawed 0
              have f1 := h7_47.thawed 1
              have f2 := h7_47.thawed 2
              go_simp
              have h7_48 := ((h7_47.put 0 (.int .i64 k)).put 1 (.int .i64 a)).put 2 (.int .i64 b)
              have x48 := ((x47.far (p := ⟨_, 0, none⟩) (Nat.ne_of_lt lth7_47) (.int .i64 k)).far (p := ⟨_, 1, none⟩) (Nat.ne_of_lt lth7_47) (.int .i64 a)).far (p := ⟨_, 2, none⟩) (Nat.ne_of_lt lth7_47) (.int .i64 b)
              have h8_48 := ((h8_47.far (p := ⟨_, 0, none⟩) ne_47 (.int .i64 k)).far (p := ⟨_, 1, none⟩) ne_47 (.int .i64 a)).far (p := ⟨_, 2, none⟩) ne_47 (.int .i64 b)
              have b48 := Bput (p := ⟨_, 2, none⟩) (Bput (p := ⟨_, 1, none⟩) (Bput (p := ⟨_, 0, none⟩) b47 (Nat.le_of_lt lth7_47) (.int .i64 k)) (Nat.le_of_lt lth7_47) (.int .i64 a)) (Nat.le_of_lt lth7_47) (.int .i64 b)
              clear z0 z1 z2 f0 f1 f2
              generalize ((((q47).setCell ⟨q46.heap.size, 0, none⟩ (.int .i64 k)).setCell ⟨q46.heap.size, 1, none⟩ (.int .i64 a)).setCell ⟨q46.heap.size, 2, none⟩ (.int .i64 b)) = q48 at x48 b48 h7_48 h8_48 ⊢
              refine hK.out _ _ ?_ (fun hHeld => ?_)
              · exact x48.three
              clear hK K
              (try simp only [Act.put, List.getElem_toArray, List.getElem_cons_zero, List.getElem_cons_succ, List.setIfInBounds_toArray, List.set_cons_zero, List.set_cons_succ])
              refine wpAnyH_ready (rs := [9]) (by kernel_rfl) (by simp) ?_
              refine AllReadyH.cons (o := _) rfl (fun K hK => ?_) AllReadyH.nil
              · skip
                obtain ⟨z0, z1, z2⟩ := h8_48.three
                have f0 := h8_48.thawed 0
                have f1 := h8_48.thawed 1
                have f2 := h8_48.thawed 2
                go_simp
                have h8_49 := ((h8_48.put 0 (.int .i64 k')).put 1 (.int .i64 a')).put 2 (.int .i64 b')
                have x49 := ((x48.far (p := ⟨_, 0, none⟩) (Nat.ne_of_lt lth8_44) (.int .i64 k')).far (p := ⟨_, 1, none⟩) (Nat.ne_of_lt lth8_44) (.int .i64 a')).far (p := ⟨_, 2, none⟩) (Nat.ne_of_lt lth8_44) (.int .i64 b')
                have h7_49 := ((h7_48.far (p := ⟨_, 0, none⟩) (Ne.symm ne_47) (.int .i64 k')).far (p := ⟨_, 1, none⟩) (Ne.symm ne_47) (.int .i64 a')).far (p := ⟨_, 2, none⟩) (Ne.symm ne_47) (.int .i64 b')
                have b49 := Bput (p := ⟨_, 2, none⟩) (Bput (p := ⟨_, 1, none⟩) (Bput (p := ⟨_, 0, none⟩) b48 (Nat.le_of_lt lth8_44) (.int .i64 k')) (Nat.le_of_lt lth8_44) (.int .i64 a')) (Nat.le_of_lt lth8_44) (.int .i64 b')
                clear z0 z1 z2 f0 f1 f2
                generalize ((((q48).setCell ⟨q0.heap.size, 0, none⟩ (.int .i64 k')).setCell ⟨q0.heap.size, 1, none⟩ (.int .i64 a')).setCell ⟨q0.heap.size, 2, none⟩ (.int .i64 b')) = q49 at x49 b49 h8_49 h7_49 ⊢
                refine hK.out _ _ ?_ (fun hHeld => ?_)
                · exact x49.three
                clear hK K
                (try simp only [Act.put, List.getElem_toArray, List.getElem_cons_zero, List.getElem_cons_succ, List.setIfInBounds_toArray, List.set_cons_zero, List.set_cons_succ])
                refine wpAnyH_done (by kernel_rfl) ?_ _
                go_wp2_with fail
                go_meet
                case rel => exact ⟨_, _, rfl, rfl, h7_49, h8_49, b49⟩
        · skip
          go_simp
          have x50 := x45.alloc (.cells #[.int .i64 0, .int .i64 0, .int .i64 0] 31)
          have b50 := Bnew b45 (.cells #[.int .i64 0, .int .i64 0, .int .i64 0] 31)
          have h7_50 := Held.new q45 31 #[.int .i64 0, .int .i64 0, .int .i64 0]
          have lth7_50 := x45.lt
          have h8_50 := h8_45.alloc (.cells #[.int .i64 0, .int .i64 0, .int .i64 0] 31)
          have ne_50 := Nat.ne_of_lt h8_45.lt
          generalize (q45.alloc (.cells #[.int .i64 0, .int .i64 0, .int .i64 0] 31)) = q50 at x50 b50 h7_50 h8_50 ⊢
          refine hK.out _ _ ?_ (fun hHeld => ?_)
          · exact x50.three
          clear hK K
          (try simp only [Act.put, List.getElem_toArray, List.getElem_cons_zero, List.getElem_cons_succ, List.setIfInBounds_toArray, List.set_cons_zero, List.set_cons_succ])
          refine wpAnyH_ready (rs := [5]) (by kernel_rfl) (by simp) ?_
          refine AllReadyH.cons (o := _) rfl (fun K hK => ?_) AllReadyH.nil
          · skip
            go_simp
            refine (plAt_k _ _ _ _ _).mono ?_
            rintro e q51 ⟨rfl, l51⟩
            rw [E4.out, E5.out, E6.out]
            have x51 := x50.keep l51
            have b51 := Bgo b50 l51
            have h7_51 := h7_50.keep l51
            have h8_51 := h8_50.keep l51
            refine hK.out _ _ ?_ (fun hHeld => ?_)
            · exact x51.three
            clear hK K
            (try simp only [Act.put, List.getElem_toArray, List.getElem_cons_zero, List.getElem_cons_succ, List.setIfInBounds_toArray, List.set_cons_zero, List.set_cons_succ])
            refine wpAnyH_ready (rs := [8]) (by kernel_rfl) (by simp) ?_
            refine AllReadyH.cons (o := _) rfl (fun K hK => ?_) AllReadyH.nil
            · skip
              obtain ⟨z0, z1, z2⟩ := h7_51.three
              have f0 := h7_51.thawed 0
              have f1 := h7_51.thawed 1
              have f2 := h7_51.thawed 2
              go_simp
              have h7_52 := ((h7_51.put 0 (.int .i64 k)).put 1 (.int .i64 a)).put 2 (.int .i64 b)
              have x52 := ((x51.far (p := ⟨_, 0, none⟩) (Nat.ne_of_lt lth7_50) (.int .i64 k)).far (p := ⟨_, 1, none⟩) (Nat.ne_of_lt lth7_50) (.int .i64 a)).far (p := ⟨_, 2, none⟩) (Nat.ne_of_lt lth7_50) (.int .i64 b)
              have h8_52 := ((h8_51.far (p := ⟨_, 0, none⟩) ne_50 (.int .i64 k)).far (p := ⟨_, 1, none⟩) ne_50 (.int .i64 a)).far (p := ⟨_, 2, none⟩) ne_50 (.int .i64 b)
              have b52 := Bput (p := ⟨_, 2, none⟩) (Bput (p := ⟨_, 1, none⟩) (Bput (p := ⟨_, 0, none⟩) b51 (Nat.le_of_lt lth7_50) (.int .i64 k)) (Nat.le_of_lt lth7_50) (.int .i64 a)) (Nat.le_of_lt lth7_50) (.int .i64 b)
              clear z0 z1 z2 f0 f1 f2
              generalize ((((q51).setCell ⟨q45.heap.size, 0, none⟩ (.int .i64 k)).setCell ⟨q45.heap.size, 1, none⟩ (.int .i64 a)).setCell ⟨q45.heap.size, 2, none⟩ (.int .i64 b)) = q52 at x52 b52 h7_52 h8_52 ⊢
              refine hK.out _ _ ?_ (fun hHeld => ?_)
              · exact x52.three
              clear hK K
              (try simp only [Act.put, List.getElem_toArray, List.getElem_cons_zero, List.getElem_cons_succ, List.setIfInBounds_toArray, List.set_cons_zero, List.set_cons_succ])
              refine wpAnyH_ready (rs := [9]) (by kernel_rfl) (by simp) ?_
              refine AllReadyH.cons (o := _) rfl (fun K hK => ?_) AllReadyH.nil
              · skip
                obtain ⟨z0, z1, z2⟩ := h8_52.three
                have f0 := h8_52.thawed 0
                have f1 := h8_52.thawed 1
                have f2 := h8_52.thawed 2
                go_simp
                have h8_53 := ((h8_52.put 0 (.int .i64 k')).put 1 (.int .i64 a')).put 2 (.int .i64 b')
                have x53 := ((x52.far (p := ⟨_, 0, none⟩) (Nat.ne_of_lt lth8_44) (.int .i64 k')).far (p := ⟨_, 1, none⟩) (Nat.ne_of_lt lth8_44) (.int .i64 a')).far (p := ⟨_, 2, none⟩) (Nat.ne_of_lt lth8_44) (.int .i64 b')
                have h7_53 := ((h7_52.far (p := ⟨_, 0, none⟩) (Ne.symm ne_50) (.int .i64 k')).far (p := ⟨_, 1, none⟩) (Ne.symm ne_50) (.int .i64 a')).far (p := ⟨_, 2, none⟩) (Ne.symm ne_50) (.int .i64 b')
                have b53 := Bput (p := ⟨_, 2, none⟩) (Bput (p := ⟨_, 1, none⟩) (Bput (p := ⟨_, 0, none⟩) b52 (Nat.le_of_lt lth8_44) (.int .i64 k')) (Nat.le_of_lt lth8_44) (.int .i64 a')) (Nat.le_of_lt lth8_44) (.int .i64 b')
                clear z0 z1 z2 f0 f1 f2
                generalize ((((q52).setCell ⟨q0.heap.size, 0, none⟩ (.int .i64 k')).setCell ⟨q0.heap.size, 1, none⟩ (.int .i64 a')).setCell ⟨q0.heap.size, 2, none⟩ (.int .i64 b')) = q53 at x53 b53 h8_53 h7_53 ⊢
                refine hK.out _ _ ?_ (fun hHeld => ?_)
                · exact x53.three
                clear hK K
                (try simp only [Act.put, List.getElem_toArray, List.getElem_cons_zero, List.getElem_cons_succ, List.setIfInBounds_toArray, List.set_cons_zero, List.set_cons_succ])
                refine wpAnyH_done (by kernel_rfl) ?_ _
                go_wp2_with fail
                go_meet
                case rel => exact ⟨_, _, rfl, rfl, h7_53, h8_53, b53⟩
      · skip
        go_simp
        have x54 := x44.alloc (.cells #[.int .i64 0, .int .i64 0, .int .i64 0] 31)
        have b54 := Bnew b44 (.cells #[.int .i64 0, .int .i64 0, .int .i64 0] 31)
        have h7_54 := Held.new q44 31 #[.int .i64 0, .int .i64 0, .int .i64 0]
        have lth7_54 := x44.lt
        have h8_54 := h8_44.alloc (.cells #[.int .i64 0, .int .i64 0, .int .i64 0] 31)
        have ne_54 := Nat.ne_of_lt h8_44.lt
        generalize (q44.alloc (.cells #[.int .i64 0, .int .i64 0, .int .i64 0] 31)) = q54 at x54 b54 h7_54 h8_54 ⊢
        refine hK.out _ _ ?_ (fun hHeld => ?_)
        · exact x54.three
        clear hK K
        (try simp only [Act.put, List.getElem_toArray, List.getElem_cons_zero, List.getElem_cons_succ, List.setIfInBounds_toArray, List.set_cons_zero, List.set_cons_succ])
        refine wpAnyH_ready (rs := [2]) (by kernel_rfl) (by simp) ?_
        refine AllReadyH.cons (o := _) rfl (fun K hK => ?_) AllReadyH.nil
        · skip
          go_simp
          refine (plAt_k _ _ _ _ _).mono ?_
          rintro e q55 ⟨rfl, l55⟩
          rw [E1.out, E2.out, E3.out]
          have x55 := x54.keep l55
          have b55 := Bgo b54 l55
          have h7_55 := h7_54.keep l55
          have h8_55 := h8_54.keep l55
          refine hK.out _ _ ?_ (fun hHeld => ?_)
          · exact x55.three
          clear hK K
          (try simp only [Act.put, List.getElem_toArray, List.getElem_cons_zero, List.getElem_cons_succ, List.setIfInBounds_toArray, List.set_cons_zero, List.set_cons_succ])
          refine wpAnyH_ready (rs := [5]) (by kernel_rfl) (by simp) ?_
          refine AllReadyH.cons (o := _) rfl (fun K hK => ?_) AllReadyH.nil
          · skip
            go_simp
            refine (plAt_k _ _ _ _ _).mono ?_
            rintro e q56 ⟨rfl, l56⟩
            rw [E4.out, E5.out, E6.out]
            have x56 := x55.keep l56
            have b56 := Bgo b55 l56
            have h7_56 := h7_55.keep l56
            have h8_56 := h8_55.keep l56
            refine hK.out _ _ ?_ (fun hHeld => ?_)
            · exact x56.three
            clear hK K
            (try simp only [Act.put, List.getElem_toArray, List.getElem_cons_zero, List.getElem_cons_succ, List.setIfInBounds_toArray, List.set_cons_zero, List.set_cons_succ])
            refine wpAnyH_ready (rs := [8]) (by kernel_rfl) (by simp) ?_
            refine AllReadyH.cons (o := _) rfl (fun K hK => ?_) AllReadyH.nil
            · skip
              obtain ⟨z0, z1, z2⟩ := h7_56.three
              have f0 := h7_56.thawed 0
              have f1 := h7_56.thawed 1
              have f2 := h7_56.thawed 2
              go_simp
              have h7_57 := ((h7_56.put 0 (.int .i64 k)).put 1 (.int .i64 a)).put 2 (.int .i64 b)
              have x57 := ((x56.far (p := ⟨_, 0, none⟩) (Nat.ne_of_lt lth7_54) (.int .i64 k)).far (p := ⟨_, 1, none⟩) (Nat.ne_of_lt lth7_54) (.int .i64 a)).far (p := ⟨_, 2, none⟩) (Nat.ne_of_lt lth7_54) (.int .i64 b)
              have h8_57 := ((h8_56.far (p := ⟨_, 0, none⟩) ne_54 (.int .i64 k)).far (p := ⟨_, 1, none⟩) ne_54 (.int .i64 a)).far (p := ⟨_, 2, none⟩) ne_54 (.int .i64 b)
              have b57 := Bput (p := ⟨_, 2, none⟩) (Bput (p := ⟨_, 1, none⟩) (Bput (p := ⟨_, 0, none⟩) b56 (Nat.le_of_lt lth7_54) (.int .i64 k)) (Nat.le_of_lt lth7_54) (.int .i64 a)) (Nat.le_of_lt lth7_54) (.int .i64 b)
              clear z0 z1 z2 f0 f1 f2
              generalize ((((q56).setCell ⟨q44.heap.size, 0, none⟩ (.int .i64 k)).setCell ⟨q44.heap.size, 1, none⟩ (.int .i64 a)).setCell ⟨q44.heap.size, 2, none⟩ (.int .i64 b)) = q57 at x57 b57 h7_57 h8_57 ⊢
              refine hK.out _ _ ?_ (fun hHeld => ?_)
              · exact x57.three
              clear hK K
              (try simp only [Act.put, List.getElem_toArray, List.getElem_cons_zero, List.getElem_cons_succ, List.setIfInBounds_toArray, List.set_cons_zero, List.set_cons_succ])
              refine wpAnyH_ready (rs := [9]) (by kernel_rfl) (by simp) ?_
              refine AllReadyH.cons (o := _) rfl (fun K hK => ?_) AllReadyH.nil
              · skip
                obtain ⟨z0, z1, z2⟩ := h8_57.three
                have f0 := h8_57.thawed 0
                have f1 := h8_57.thawed 1
                have f2 := h8_57.thawed 2
                go_simp
                have h8_58 := ((h8_57.put 0 (.int .i64 k')).put 1 (.int .i64 a')).put 2 (.int .i64 b')
                have x58 := ((x57.far (p := ⟨_, 0, none⟩) (Nat.ne_of_lt lth8_44) (.int .i64 k')).far (p := ⟨_, 1, none⟩) (Nat.ne_of_lt lth8_44) (.int .i64 a')).far (p := ⟨_, 2, none⟩) (Nat.ne_of_lt lth8_44) (.int .i64 b')
                have h7_58 := ((h7_57.far (p := ⟨_, 0, none⟩) (Ne.symm ne_54) (.int .i64 k')).far (p := ⟨_, 1, none⟩) (Ne.symm ne_54) (.int .i64 a')).far (p := ⟨_, 2, none⟩) (Ne.symm ne_54) (.int .i64 b')
                have b58 := Bput (p := ⟨_, 2, none⟩) (Bput (p := ⟨_, 1, none⟩) (Bput (p := ⟨_, 0, none⟩) b57 (Nat.le_of_lt lth8_44) (.int .i64 k')) (Nat.le_of_lt lth8_44) (.int .i64 a')) (Nat.le_of_lt lth8_44) (.int .i64 b')
                clear z0 z1 z2 f0 f1 f2
                generalize ((((q57).setCell ⟨q0.heap.size, 0, none⟩ (.int .i64 k')).setCell ⟨q0.heap.size, 1, none⟩ (.int .i64 a')).setCell ⟨q0.heap.size, 2, none⟩ (.int .i64 b')) = q58 at x58 b58 h8_58 h7_58 ⊢
                refine hK.out _ _ ?_ (fun hHeld => ?_)
                · exact x58.three
                clear hK K
                (try simp only [Act.put, List.getElem_toArray, List.getElem_cons_zero, List.getElem_cons_succ, List.setIfInBounds_toArray, List.set_cons_zero, List.set_cons_succ])
                refine wpAnyH_done (by kernel_rfl) ?_ _
                go_wp2_with fail
                go_meet
                case rel => exact ⟨_, _, rfl, rfl, h7_58, h8_58, b58⟩
  case rest =>
    obtain ⟨g1, g2, rfl, rfl, h7, h8, hb⟩ := hcut
    obtain ⟨x0, x1, x2⟩ := h7.three
    obtain ⟨y0, y1, y2⟩ := h8.three
    rcases H2.out with ⟨r1, r2, rfl⟩ | ⟨r1, rfl⟩ | ⟨rfl, r2⟩ | ⟨r1, r2⟩
    all_goals
      go_wp2_with fail
      refine (live_c _).mono ?_
      rintro e v2 ⟨rfl, hb2⟩
      go_wp2
      go_ret
      exact ⟨by first | rfl | trivial, Bgo hb hb2⟩

theorem PlaceLines_calls (t p s x y : Int) (hx : x ≤ 9223372036854775807) (hy : y ≤ 9223372036854775807) (w : World) : Calls Try.prog 6 #[.agg #[.int .i64 t, .int .i64 p, .int .i64 s], .int .i64 x, .int .i64 y] w (Keeps w) := by
  by_cases c0 : x < 0
  · exact PlaceLines_1 t p s x y c0 w
  · by_cases c1 : y < 0
    · exact PlaceLines_2 t p s x y (by omega) c1 w
    · obtain ⟨a, rfl⟩ : ∃ a : Nat, x = a := ⟨x.toNat, by omega⟩
      obtain ⟨b, rfl⟩ : ∃ b : Nat, y = b := ⟨y.toNat, by omega⟩
      by_cases c2 : a / 8 = b / 8
      · exact PlaceLines_4 t p s a b _ c2 rfl w
      · exact PlaceLines_3 t p s a b _ _ (by omega) (by omega) rfl rfl c2 w

end Go.Proofs.Ytiinomkppehkjaa
