/-
  The law NvmKeeps: the walk.
-/
import Derived.Test.YtobeapibiebpaaaNvmLive
import Derived.Test.YtobeapibiebpaaaWords
namespace Go.Proofs.Ytobeapibiebpaaa
open Go.ChangeShapes Go.WideShapes Go.ChangeAt Go.RowKit Go.Maps
set_option linter.unusedVariables false
set_option linter.unusedSimpArgs false

/-- in how many of the first k places two rows are unlike -/
def diffN (f g : Nat → Nat) : Nat → Nat
  | 0 => 0
  | k + 1 => diffN f g k + if f k = g k then 0 else 1
theorem diffN_same (f : Nat → Nat) : ∀ k, diffN f f k = 0
  | 0 => rfl
  | k + 1 => by simp [diffN, diffN_same f k]
theorem diffN_le (f g : Nat → Nat) : ∀ k, diffN f g k ≤ k
  | 0 => Nat.le_refl _
  | k + 1 => by
    have := diffN_le f g k
    unfold diffN
    split <;> omega
theorem diffN_upd (f : Nat → Nat) (i v : Nat) : ∀ k, diffN f (updF f i v) k ≤ if i < k then 1 else 0
  | 0 => by simp [diffN]
  | k + 1 => by
    have h := diffN_upd f i v k
    unfold diffN
    by_cases e : k = i
    · subst e
      rw [if_neg (by omega)] at h
      rw [show (if k < k + 1 then 1 else 0) = 1 from if_pos (by omega)]
      split <;> omega
    · rw [updF_other _ _ e, if_pos rfl]
      have : (i < k + 1) ↔ (i < k) := by omega
      simp only [this]
      exact h
theorem differ_c (g h n cg ch : Nat) (f f' : Nat → Nat) (hn : n ≤ 65536) (hf : ∀ i, f i < 2 ^ 64) (hf' : ∀ i, f' i < 2 ^ 64) (w : World) (hg : RowF w g 30 n cg (wordF f)) (hh : RowF w h 30 n ch (wordF f')) :
    Calls Try.prog 19 #[.slice (some ⟨g, 0, none⟩) n cg, .slice (some ⟨h, 0, none⟩) n ch] w fun e w' => e = .returned (.int .i64 ((diffN f f' n : Nat) : Int)) ∧ ∃ m, w' = w.drewN m := by
  have HG := hidp hg
  have HH := hidp hh
  have h1 := hg.le
  have h2 := hh.le
  have h3 := hg.max
  have h4 := hh.max
  unfold maxLen at h3 h4
  clear hg hh hf hf'
  go_enter Try.func19, Try.ntmps19
  go_wp2
  go_loopw [5, 6] (fun c i wr => ∃ k j : Nat, k ≤ n ∧ c = .int .i64 ((diffN f f' k : Nat) : Int) ∧ i = .int .i64 k ∧ wr = w.drewN j) (fun _ i _ => n - (intOf i).toNat)
  case atStart => exact ⟨0, 0, by omega, rfl, rfl, rfl⟩
  case round =>
    obtain ⟨k, j, hk, rfl, rfl, rfl⟩ := hrel
    by_cases hlt : k < n
    · have c1 : w.cell? ⟨g, k, none⟩ = some (wordF f k) := HG.out.cell hlt
      have c2 : w.cell? ⟨h, k, none⟩ = some (wordF f' k) := HH.out.cell hlt
      unfold wordF at c1 c2
      have hd := diffN_le f f' k
      by_cases he : f k = f' k
      · have HE : Hid (diffN f f' (k + 1) = diffN f f' k) := hidp (by simp [diffN, he])
        rw [← he] at c2
        generalize f k = x at *
        clear he
        go_wp2
        go_quiet (fail)
        go_wp2
        go_roundw
        case rel => exact ⟨k + 1, _, by omega, by rw [HE.out], by go_num, rfl⟩
        case measure => simp [intOf]; omega
      · have HE : Hid (diffN f f' (k + 1) = diffN f f' k + 1) := hidp (by simp [diffN, he])
        generalize f k = x at *
        generalize f' k = y at *
        have t0 : ((x : Int) != y) = true := by simp; omega
        have t1 : ((x : Int) == y) = false := by simp; omega
        have t2 : (x == y) = false := by simp; omega
        clear he
        go_wp2
        go_quiet (fail)
        go_wp2
        go_roundw
        case rel => exact ⟨k + 1, _, by omega, by rw [HE.out]; go_num, by go_num, rfl⟩
        case measure => simp [intOf]; omega
    · obtain rfl : k = n := by omega
      go_wp2
      go_ret
      exact ⟨rfl, j, rfl⟩

/-- the words that came in, as a function of the place -/
def wsF (ws : List Nat) : Nat → Nat := fun i => ws.getD i 0
theorem wsF_lt {ws : List Nat} (h : ∀ x ∈ ws, x < 2 ^ 64) (i : Nat) : wsF ws i < 2 ^ 64 := getD_lt (by omega) h i
theorem New_ws (A : Option Addr) (c : Nat) (ws : List Nat) (h8 : 8 ≤ ws.length) (hmx : ws.length ≤ 65536) (hmod : ws.length % 8 = 0) (hw : ∀ x ∈ ws, x < 2 ^ 64) (w : World) (HR : Reads w w.heap.size 1 A ws.length (wordVs ws)) :
    Calls Try.prog 9 #[.slice A ws.length c] w fun e w' =>
      ∃ o : Geo, o.n = ws.length ∧ e = .returned (.pointer (some ⟨o.b, 0, none⟩)) ∧ IsMem w' o 0 (newS (wsF ws)) ∧ w.heap.size ≤ o.b ∧ w.heap.size ≤ o.g ∧ w.heap.size ≤ o.h ∧ w.heap.size ≤ o.m ∧ Below w.heap.size w w' := by
  obtain ⟨ad, rfl, hb, hc⟩ := HR.2 (by omega)
  refine New_yes ad ws.length c (wsF ws) h8 hmx hmod (wsF_lt hw) w hb (fun j hj => hc j _ ?_)
  rw [wordVs_at ws j hj]
  rfl
/-- the blocks of a memory are new ones -/
structure Geo.New (o : Geo) (B : Nat) : Prop where
  b : B ≤ o.b
  g : B ≤ o.g
  h : B ≤ o.h
  m : B ≤ o.m
theorem Geo.New.F {o : Geo} {B : Nat} (h : o.New B) : ∀ i, o.F i → B ≤ i := fun i hi => by
  have := h.g
  have := h.h
  have := h.m
  rcases hi with rfl | rfl | rfl <;> assumption

theorem rowReads {w : World} {g n c : Nat} {f : Nat → Nat} (h : RowF w g 30 n c (wordF f)) : Hid (Reads w w.heap.size 1 (some ⟨g, 0, none⟩) n (wordVs (wordL f n))) := hidp (by
  rw [← wordL_vs]
  exact h.reads h.lt)
theorem WordsRow_c (g h n cg ch : Nat) (f : Nat → Nat) (hn : n ≤ 65536) (w : World) (hg : RowF w g 30 n cg (wordF f)) (hh : RowF w h 30 n ch (wordF f)) :
    Calls Try.prog 13 #[.slice (some ⟨g, 0, none⟩) n cg, .slice (some ⟨h, 0, none⟩) n ch] w fun e w' => e = .returned (.bool true) ∧ ∃ m, w' = w.drewN m :=
  Words_same (wordL f n) n (hidp (wordL_len f n)) _ _ cg ch (by unfold maxLen; omega) w _ _ (rowReads hg) (rowReads hh)

theorem step_K {n : Nat} {s : Mst} {a : ActV} (h5 : a.d ≠ 5) (h6 : a.d ≠ 6) : (stepS n s a).K = s.K := by
  unfold stepS
  rw [if_neg h5, if_neg h6]
  split
  · unfold storeS; split <;> rfl
  split
  · unfold swapS; split
    · unfold storeS; split <;> rfl
    · rfl
  split
  · unfold flushS; split <;> rfl
  split <;> rfl
theorem step_W {n : Nat} {s : Mst} {a : ActV} (h2 : a.d ≠ 2) (h3 : a.d ≠ 3) (h7 : a.d ≠ 7) : (stepS n s a).W = s.W := by
  unfold stepS
  rw [if_neg h2, if_neg h3, if_neg h7]
  split
  · unfold flushS; split <;> rfl
  split
  · rfl
  split
  · unfold evictS; split <;> rfl
  · rfl
theorem store_diff (n : Nat) (s : Mst) (q : Int) (v : Nat) : diffN s.W (storeS n s q v).W n ≤ 1 := by
  unfold storeS
  split
  · have := diffN_upd s.W q.toNat v n
    show diffN s.W (updF s.W q.toNat v) n ≤ 1
    split at this <;> omega
  · rw [diffN_same]; omega
theorem step_diff {n : Nat} {s : Mst} {a : ActV} (h : a.d = 2 ∨ a.d = 3) : diffN s.W (stepS n s a).W n ≤ 1 := by
  unfold stepS
  rcases h with h | h
  · rw [if_pos h]; exact store_diff _ _ _ _
  · rw [if_neg (by omega), if_pos h]
    unfold swapS
    split
    · exact store_diff _ _ _ _
    · rw [diffN_same]; omega
theorem step_7 {n : Nat} {s : Mst} {a : ActV} (h : a.d = 7) : stepS n s a = newS s.K := by
  unfold stepS
  rw [if_neg (by omega), if_neg (by omega), if_neg (by omega), if_neg (by omega), if_neg (by omega), if_pos h]
theorem pendL_none (n : Nat) (who : Int) : pendL n (fun _ _ => false) who = [] := by
  unfold pendL
  rw [List.filter_eq_nil_iff]
  simp

set_option maxRecDepth 100000 in
set_option maxHeartbeats 3200000 in
theorem NvmKeeps_calls (A B : Option Addr) (c d : Nat) (ws : List Nat) (l : List ActV) (hcd : l.length ≤ d) (hdm : d ≤ maxLen) (hw : ∀ x ∈ ws, x < 2 ^ 64) (hl : ∀ a ∈ l, a.Ok) (W : World) (HR : Hid (Reads W W.heap.size 1 A ws.length (wordVs ws))) (HA : Hid (ActsAt W B l)) :
    Calls Try.prog 4 #[.slice A ws.length c, .slice B l.length d] W (Keeps W) := by
  obtain ⟨n, hn⟩ : ∃ n, ws.length = n := ⟨_, rfl⟩
  obtain ⟨m, hm⟩ : ∃ m, l.length = m := ⟨_, rfl⟩
  have HNN := hidp hn
  have HMM := hidp hm
  have HWS := hidp hw
  have HLL := hidp hl
  clear hw hl
  rw [hn] at HR ⊢
  rw [hm] at hcd ⊢
  clear hn hm
  by_cases hfew : n ≤ 64 ∧ m ≤ 200
  · by_cases h0 : n = 0
    · subst h0
      go_enter Try.func4, Try.ntmps4
      go_wp2_with fail
      refine (few_c A B 0 c m d _).mono ?_
      rintro e w1 ⟨rfl, rfl⟩
      rw [decide_eq_true hfew]
      go_wp2_with fail
      refine (live_c _).mono ?_
      rintro e w3 ⟨rfl, hb3⟩
      go_wp2
      go_ret
      exact ⟨rfl, hb3⟩
    · by_cases hmod : n % 8 = 0
      · obtain ⟨t1, t2, t3, t4⟩ := mod8 hmod
        have t5 : ((n : Int) == 0) = false := by simp; omega
        have t6 : (n == 0) = false := by simp; omega
        go_enter Try.func4, Try.ntmps4
        go_wp2_with fail
        refine (few_c A B n c m d _).mono ?_
        rintro e w1 ⟨rfl, rfl⟩
        rw [decide_eq_true hfew]
        go_wp2_with fail
        have hnew := New_ws A c ws (by have := HNN.out; omega) (by have := HNN.out; omega) (by have := HNN.out; omega) HWS.out w1 (by have := HR.out; rw [HNN.out]; exact this)
        rw [HNN.out] at hnew
        refine hnew.mono ?_
        rintro e w2 ⟨o, hon, rfl, hI, ob, og, oh, om, hB⟩
        subst hon
        have HO : Hid (o.New w1.heap.size) := hidp ⟨ob, og, oh, om⟩
        have HI := hidp hI
        have HB := hidp hB
        clear hnew hI ob og oh om hB
        go_wp2_with fail
        go_loopw [6] (fun i wr => ∃ (k : Nat) (s : Mst), k ≤ m ∧ i = .int .i64 k ∧ Hid (IsMem wr o k s) ∧ Hid (Below w1.heap.size w1 wr)) (fun i _ => m - (intOf i).toNat)
        case atStart => exact ⟨0, _, by omega, rfl, HI, HB⟩
        case round =>
          obtain ⟨k, s, hk, rfl, HI1, HB1⟩ := hrel
          by_cases hlt : k < m
          · obtain ⟨a, ha⟩ : ∃ a, l[k]? = some a := ⟨_, List.getElem?_eq_getElem (by rw [HMM.out]; exact hlt)⟩
            have HAO := hidp (HLL.out a (List.mem_of_getElem? ha))
            obtain ⟨ad, rfl, _, _⟩ := HA.out k a ha
            have HI1W : Hid (∀ i, s.W i < 2 ^ 64) := hidp HI1.out.w64
            go_wp2_with fail
            refine (Words_m o k s _ HI1.out).mono ?_
            rintro e w3 ⟨g3, c3, rfl, hg3, hr3, hb3⟩
            have HR3 := hidp hr3
            have HB3 := hidp hb3
            have HI3 := hidp (HI1.out.keep hb3)
            have HN3 : Hid (¬ o.F g3) := hidp (fun hf => by have := HI1.out.Flt _ hf; omega)
            clear hg3 hr3 hb3
            go_wp2_with fail
            refine (Kept_m o k s _ HI3.out).mono ?_
            rintro e w4 ⟨g4, c4, rfl, hg4, hr4, hb4⟩
            have HR4 := hidp hr4
            have HB4 := hidp hb4
            have HI4 := hidp (HI3.out.keep hb4)
            have HN4 : Hid (¬ o.F g4) := hidp (fun hf => by have := HI3.out.Flt _ hf; omega)
            clear hg4 hr4 hb4
            obtain ⟨x0, x1, x2, x3, x4, x5⟩ := (HA.out.below (Bgo (Bgo HB1.out HB3.out) HB4.out)).cells ha
            go_wp2_with fail
            refine (Do_m o k s a HAO.out (by omega) _ HI4.out).mono ?_
            rintro e w5 ⟨rfl, hI5, hT5⟩
            have HI5 := hidp hI5
            have HT5 := hidp hT5
            have HB5 := hidp (hT5.below (Bgo (Bgo HB1.out HB3.out) HB4.out) HO.out.F)
            clear hI5 hT5 x0 x1 x2 x3 x4 x5
            go_wp2_with fail
            refine (Words_m o _ _ _ HI5.out).mono ?_
            rintro e w6 ⟨g6, c6, rfl, hg6, hr6, hb6⟩
            have HR6 := hidp hr6
            have HB6 := hidp hb6
            have HI6 := hidp (HI5.out.keep hb6)
            clear hg6 hr6 hb6
            go_wp2_with fail
            refine (Kept_m o _ _ _ HI6.out).mono ?_
            rintro e w7 ⟨g7, c7, rfl, hg7, hr7, hb7⟩
            have HR7 := hidp hr7
            have HB7 := hidp hb7
            have HI7 := hidp (HI6.out.keep hb7)
            have HBW := hidp (Bgo (Bgo HB5.out HB6.out) hb7)
            clear hg7 hr7 hb7
            obtain ⟨x0, x1, x2, x3, x4, x5⟩ := (HA.out.below HBW.out).cells ha
            have R3 := hidp (((((HR3.out.keep HB4.out).turns HT5.out HN3.out).keep HB6.out).keep HB7.out))
            have R4 := hidp ((((HR4.out.turns HT5.out HN4.out).keep HB6.out).keep HB7.out))
            have R6 := hidp (HR6.out.keep HB7.out)
            have R7 := HR7
            clear HR3 HR4 HR6 HR7 HN3 HN4 HB3 HB4 HB5 HB6 HB7 HT5 HI3 HI4 HI5 HI6 HB1 HI1
            have hnx := HI7.out.nmax
            clear x2 x3 x4 x5
            by_cases d5 : a.d = 5
            · have HW := hidp (step_W (n := o.n) (s := s) (a := a) (by omega) (by omega) (by omega))
              rw [d5] at x0
              rw [HW.out] at R6
              clear d5
              go_wp2_with fail
              refine (differ_c g3 g6 o.n c3 c6 s.W s.W hnx HI1W.out HI1W.out _ (R3.out.keep (by repeat (first | with_reducible exact B0 _ | refine Bdraw ?_ _ | refine Bdrew ?_))) (R6.out.keep (by repeat (first | with_reducible exact B0 _ | refine Bdraw ?_ _ | refine Bdrew ?_)))).mono ?_
              rintro e w9 ⟨rfl, j9, rfl⟩
              rw [diffN_same]
              go_wp2_with fail
              refine (differ_c g3 g6 o.n c3 c6 s.W s.W hnx HI1W.out HI1W.out _ (R3.out.keep (by repeat (first | with_reducible exact B0 _ | refine Bdraw ?_ _ | refine Bdrew ?_))) (R6.out.keep (by repeat (first | with_reducible exact B0 _ | refine Bdraw ?_ _ | refine Bdrew ?_)))).mono ?_
              rintro e w10 ⟨rfl, j10, rfl⟩
              rw [diffN_same]
              clear x0 x1
              go_wp2
              go_roundw
              case rel => exact ⟨k + 1, _, by omega, by go_num, hidp (HI7.out.keep (by repeat (first | with_reducible exact B0 _ | refine Bdraw ?_ _ | refine Bdrew ?_))), hidp (Bgo HBW.out (by repeat (first | with_reducible exact B0 _ | refine Bdraw ?_ _ | refine Bdrew ?_)))⟩
              case measure => simp [intOf]; omega
            by_cases d6 : a.d = 6
            · have HW := hidp (step_W (n := o.n) (s := s) (a := a) (by omega) (by omega) (by omega))
              rw [d6] at x0
              rw [HW.out] at R6
              clear d6
              go_wp2_with fail
              refine (differ_c g3 g6 o.n c3 c6 s.W s.W hnx HI1W.out HI1W.out _ (R3.out.keep (by repeat (first | with_reducible exact B0 _ | refine Bdraw ?_ _ | refine Bdrew ?_))) (R6.out.keep (by repeat (first | with_reducible exact B0 _ | refine Bdraw ?_ _ | refine Bdrew ?_)))).mono ?_
              rintro e w9 ⟨rfl, j9, rfl⟩
              rw [diffN_same]
              go_wp2_with fail
              refine (differ_c g3 g6 o.n c3 c6 s.W s.W hnx HI1W.out HI1W.out _ (R3.out.keep (by repeat (first | with_reducible exact B0 _ | refine Bdraw ?_ _ | refine Bdrew ?_))) (R6.out.keep (by repeat (first | with_reducible exact B0 _ | refine Bdraw ?_ _ | refine Bdrew ?_)))).mono ?_
              rintro e w10 ⟨rfl, j10, rfl⟩
              rw [diffN_same]
              clear x0 x1
              go_wp2
              go_roundw
              case rel => exact ⟨k + 1, _, by omega, by go_num, hidp (HI7.out.keep (by repeat (first | with_reducible exact B0 _ | refine Bdraw ?_ _ | refine Bdrew ?_))), hidp (Bgo HBW.out (by repeat (first | with_reducible exact B0 _ | refine Bdraw ?_ _ | refine Bdrew ?_)))⟩
              case measure => simp [intOf]; omega
            by_cases d7 : a.d = 7
            · have HS := hidp (step_7 (n := o.n) (s := s) (a := a) d7)
              rw [HS.out] at R6 R7 HI7
              rw [d7] at x0
              clear d7 d5 d6
              go_wp2_with fail
              refine (WordsRow_c g4 g7 o.n c4 c7 s.K hnx _ (R4.out.keep (by repeat (first | with_reducible exact B0 _ | refine Bdraw ?_ _ | refine Bdrew ?_))) (R7.out.keep (by repeat (first | with_reducible exact B0 _ | refine Bdraw ?_ _ | refine Bdrew ?_)))).mono ?_
              rintro e w8 ⟨rfl, j8, rfl⟩
              go_wp2_with fail
              refine (WordsRow_c g6 g4 o.n c6 c4 s.K hnx _ (R6.out.keep (by repeat (first | with_reducible exact B0 _ | refine Bdraw ?_ _ | refine Bdrew ?_))) (R4.out.keep (by repeat (first | with_reducible exact B0 _ | refine Bdraw ?_ _ | refine Bdrew ?_)))).mono ?_
              rintro e w9 ⟨rfl, j9, rfl⟩
              go_wp2_with fail
              refine (Pending_m o (k + 1) (newS s.K) a.who HAO.out.who (by omega) _ (HI7.out.keep (by repeat (first | with_reducible exact B0 _ | refine Bdraw ?_ _ | refine Bdrew ?_)))).mono ?_
              rintro e w10 ⟨v, rfl, hown, hb10⟩
              rw [show (newS s.K).P = fun _ _ => false from rfl, pendL_none] at hown
              obtain ⟨A', c', rfl⟩ := own_slice hown
              have HB10 := hidp hb10
              clear hown hb10 x0 x1
              go_wp2
              go_roundw
              case rel => exact ⟨k + 1, _, by omega, by go_num, hidp (((HI7.out.keep (by repeat (first | with_reducible exact B0 _ | refine Bdraw ?_ _ | refine Bdrew ?_)))).keep HB10.out), hidp (Bgo (Bgo HBW.out (by repeat (first | with_reducible exact B0 _ | refine Bdraw ?_ _ | refine Bdrew ?_))) HB10.out)⟩
              case measure => simp [intOf]; omega
            have HK := hidp (step_K (n := o.n) (s := s) (a := a) d5 d6)
            rw [HK.out] at R7
            have u5 : (a.d != 5) = true := by simp [d5]
            have v5 : (a.d == 5) = false := by simp [d5]
            have u6 : (a.d != 6) = true := by simp [d6]
            have v6 : (a.d == 6) = false := by simp [d6]
            have v7 : (a.d == 7) = false := by simp [d7]
            by_cases d2 : a.d = 2
            · have HD := hidp (step_diff (n := o.n) (s := s) (a := a) (.inl d2))
              have HW6 := hidp HI7.out.w64
              rw [d2] at x0
              clear u5 v5 u6 v6 v7 d5 d6 d7 d2
              go_wp2_with fail
              refine (WordsRow_c g4 g7 o.n c4 c7 s.K hnx _ (R4.out.keep (by repeat (first | with_reducible exact B0 _ | refine Bdraw ?_ _ | refine Bdrew ?_))) (R7.out.keep (by repeat (first | with_reducible exact B0 _ | refine Bdraw ?_ _ | refine Bdrew ?_)))).mono ?_
              rintro e w8 ⟨rfl, j8, rfl⟩
              go_wp2_with fail
              refine (differ_c g3 g6 o.n c3 c6 s.W (stepS o.n s a).W hnx HI1W.out HW6.out _ (R3.out.keep (by repeat (first | with_reducible exact B0 _ | refine Bdraw ?_ _ | refine Bdrew ?_))) (R6.out.keep (by repeat (first | with_reducible exact B0 _ | refine Bdraw ?_ _ | refine Bdrew ?_)))).mono ?_
              rintro e w9 ⟨rfl, j9, rfl⟩
              have hdf := HD.out
              clear HD
              generalize diffN s.W (stepS o.n s a).W o.n = z at *
              have tz : decide ((1 : Int) < z) = false := decide_eq_false (by omega)
              clear x1
              go_wp2
              go_roundw
              case rel => exact ⟨k + 1, _, by omega, by go_num, hidp (HI7.out.keep (by repeat (first | with_reducible exact B0 _ | refine Bdraw ?_ _ | refine Bdrew ?_))), hidp (Bgo HBW.out (by repeat (first | with_reducible exact B0 _ | refine Bdraw ?_ _ | refine Bdrew ?_)))⟩
              case measure => simp [intOf]; omega
            by_cases d3 : a.d = 3
            · have HD := hidp (step_diff (n := o.n) (s := s) (a := a) (.inr d3))
              have HW6 := hidp HI7.out.w64
              rw [d3] at x0
              clear u5 v5 u6 v6 v7 d5 d6 d7 d3 d2
              go_wp2_with fail
              refine (WordsRow_c g4 g7 o.n c4 c7 s.K hnx _ (R4.out.keep (by repeat (first | with_reducible exact B0 _ | refine Bdraw ?_ _ | refine Bdrew ?_))) (R7.out.keep (by repeat (first | with_reducible exact B0 _ | refine Bdraw ?_ _ | refine Bdrew ?_)))).mono ?_
              rintro e w8 ⟨rfl, j8, rfl⟩
              go_wp2_with fail
              refine (differ_c g3 g6 o.n c3 c6 s.W (stepS o.n s a).W hnx HI1W.out HW6.out _ (R3.out.keep (by repeat (first | with_reducible exact B0 _ | refine Bdraw ?_ _ | refine Bdrew ?_))) (R6.out.keep (by repeat (first | with_reducible exact B0 _ | refine Bdraw ?_ _ | refine Bdrew ?_)))).mono ?_
              rintro e w9 ⟨rfl, j9, rfl⟩
              have hdf := HD.out
              clear HD
              generalize diffN s.W (stepS o.n s a).W o.n = z at *
              have tz : decide ((1 : Int) < z) = false := decide_eq_false (by omega)
              clear x1
              go_wp2
              go_roundw
              case rel => exact ⟨k + 1, _, by omega, by go_num, hidp (HI7.out.keep (by repeat (first | with_reducible exact B0 _ | refine Bdraw ?_ _ | refine Bdrew ?_))), hidp (Bgo HBW.out (by repeat (first | with_reducible exact B0 _ | refine Bdraw ?_ _ | refine Bdrew ?_)))⟩
              case measure => simp [intOf]; omega
            have u2 : (a.d != 2) = true := by simp [d2]
            have v2 : (a.d == 2) = false := by simp [d2]
            have u3 : (a.d != 3) = true := by simp [d3]
            have v3 : (a.d == 3) = false := by simp [d3]
            have HW := hidp (step_W (n := o.n) (s := s) (a := a) d2 d3 d7)
            rw [HW.out] at R6
            clear d2 d3 d5 d6 d7
            go_wp2_with fail
            refine (WordsRow_c g4 g7 o.n c4 c7 s.K hnx _ (R4.out.keep (by repeat (first | with_reducible exact B0 _ | refine Bdraw ?_ _ | refine Bdrew ?_))) (R7.out.keep (by repeat (first | with_reducible exact B0 _ | refine Bdraw ?_ _ | refine Bdrew ?_)))).mono ?_
            rintro e w8 ⟨rfl, j8, rfl⟩
            go_wp2_with fail
            refine (differ_c g3 g6 o.n c3 c6 s.W s.W hnx HI1W.out HI1W.out _ (R3.out.keep (by repeat (first | with_reducible exact B0 _ | refine Bdraw ?_ _ | refine Bdrew ?_))) (R6.out.keep (by repeat (first | with_reducible exact B0 _ | refine Bdraw ?_ _ | refine Bdrew ?_)))).mono ?_
            rintro e w9 ⟨rfl, j9, rfl⟩
            rw [diffN_same]
            go_wp2_with fail
            refine (differ_c g3 g6 o.n c3 c6 s.W s.W hnx HI1W.out HI1W.out _ (R3.out.keep (by repeat (first | with_reducible exact B0 _ | refine Bdraw ?_ _ | refine Bdrew ?_))) (R6.out.keep (by repeat (first | with_reducible exact B0 _ | refine Bdraw ?_ _ | refine Bdrew ?_)))).mono ?_
            rintro e w10 ⟨rfl, j10, rfl⟩
            rw [diffN_same]
            clear x0 x1
            go_wp2
            go_roundw
            case rel => exact ⟨k + 1, _, by omega, by go_num, hidp (HI7.out.keep (by repeat (first | with_reducible exact B0 _ | refine Bdraw ?_ _ | refine Bdrew ?_))), hidp (Bgo HBW.out (by repeat (first | with_reducible exact B0 _ | refine Bdraw ?_ _ | refine Bdrew ?_)))⟩
            case measure => simp [intOf]; omega
          · obtain rfl : k = m := by omega
            go_wp2_with fail
            refine (live_c _).mono ?_
            rintro e w3 ⟨rfl, hb3⟩
            go_wp2
            go_ret
            exact ⟨rfl, Bgo HB1.out hb3⟩
      · obtain ⟨t1, t2, t3, t4⟩ := mod8_no hmod
        have t5 : ((n : Int) == 0) = false := by simp; omega
        have t6 : (n == 0) = false := by simp; omega
        go_enter Try.func4, Try.ntmps4
        go_wp2_with fail
        refine (few_c A B n c m d _).mono ?_
        rintro e w1 ⟨rfl, rfl⟩
        rw [decide_eq_true hfew]
        go_wp2_with fail
        refine (live_c _).mono ?_
        rintro e w3 ⟨rfl, hb3⟩
        go_wp2
        go_ret
        exact ⟨rfl, hb3⟩
  · go_enter Try.func4, Try.ntmps4
    go_wp2_with fail
    refine (few_c A B n c m d _).mono ?_
    rintro e w1 ⟨rfl, rfl⟩
    rw [decide_eq_false hfew]
    go_wp2_with fail
    refine (live_c _).mono ?_
    rintro e w3 ⟨rfl, hb3⟩
    go_wp2
    go_ret
    exact ⟨rfl, hb3⟩
end Go.Proofs.Ytobeapibiebpaaa
