/-
  The calls of HeadBack.
-/
import Derived.Test.YtdhpjlbcldcfjaaHeadLaws
import Derived.Test.YtdhpjlbcldcfjaaAppend
namespace Go.Proofs.Ytdhpjlbcldcfjaa
open Go.ChangeShapes Go.WideShapes Go.ChangeAt Go.RowKit
set_option linter.unusedVariables false
set_option linter.unusedSimpArgs false

theorem wordVs_app (xs ys : List Nat) : wordVs xs ++ wordVs ys = wordVs (xs ++ ys) := by unfold wordVs; rw [List.map_append]
theorem confOf_word {t p s : Int} (hr : rightB t p s = true) : confOf (wordN t p s) = (t, p, s, true) := by
  have h := (rightB_iff t p s).1 hr
  have hw := word_yes hr
  have h1 : ((wordN t p s % 65536 : Nat) : Int) = t := by rw [hw]; omega
  have h2 : ((wordN t p s / 65536 % 65536 : Nat) : Int) = p := by rw [hw]; omega
  have h3 : ((wordN t p s / 4294967296 : Nat) : Int) = s := by rw [hw]; omega
  have hr2 : rightB (wordN t p s % 65536 : Nat) (wordN t p s / 65536 % 65536 : Nat) (wordN t p s / 4294967296 : Nat) = true := by rw [h1, h2, h3]; exact hr
  rw [confOf_yes hr2, h1, h2, h3]
theorem decL_head {t p s : Int} (hr : rightB t p s = true) (ws : List Nat) : decL (headL t p s ++ ws) = (t, p, s, 0) := by
  have h2 : (headL t p s ++ ws).getD 2 0 = wordN t p s := rfl
  have h8 : (headL t p s ++ ws).take 8 = headL t p s := List.take_left' (headL_len t p s)
  unfold decL
  rw [h2, confOf_word hr, if_pos ⟨by rw [List.length_append, headL_len]; omega, rfl, h8⟩]
theorem decL_zero {ws : List Nat} {a b d : Int} (h : decL ws = (a, b, d, 0)) : 8 ≤ ws.length ∧ ws.take 8 = headL a b d ∧ rightB a b d = true := by
  unfold decL at h
  split at h
  · rename_i hc
    obtain ⟨h1, h2, h3⟩ := hc
    simp only [Prod.mk.injEq] at h
    obtain ⟨rfl, rfl, rfl, _⟩ := h
    refine ⟨h1, h3, ?_⟩
    refine confOf_right (x := ws.getD 2 0) ?_
    rw [← h2]
  · simp only [Prod.mk.injEq] at h
    omega
theorem decL_nine {ws : List Nat} {a b d k : Int} (h : decL ws = (a, b, d, k)) (hk : k ≠ 0) : a = 0 ∧ b = 0 ∧ d = 0 ∧ k = 9 := by
  unfold decL at h
  split at h
  · simp only [Prod.mk.injEq] at h; omega
  · simp only [Prod.mk.injEq] at h; omega
theorem own_form {w : World} {base : Nat} {e : TypeId} {size n : Nat} {v : Value} {xs : List Value} (h : w.ownsRow base e size v n xs) (hn : 0 < n) : ∃ g cap, v = .slice (some ⟨g, 0, none⟩) n cap ∧ base ≤ g ∧ g < w.heap.size ∧ n ≤ cap ∧ cap ≤ maxLen := by
  have hl := h.lt
  rcases h.2 with ⟨_, h0⟩ | ⟨g, cap, cur, rfl, hb, hg, hnc, hcm, _⟩
  · omega
  · exact ⟨g, cap, rfl, (hl g rfl).1, (hl g rfl).2, hnc, hcm⟩

set_option maxHeartbeats 3200000 in
theorem HeadBack_a (t p s a b d : Int) (ad : Addr) (c n : Nat) (ws : List Nat) (HN : Hid (ws.length = n)) (hc : n ≤ c) (hm : c ≤ maxLen) (hreach : n * 8 ≤ 140737488351232) (H64 : Hid (∀ x ∈ ws, x < 2 ^ 64)) (w : World) (HR : Hid (Reads w w.heap.size 1 (some ad) n (wordVs ws)))
    (hr : rightB t p s = true) (h8 : 8 ≤ n) (HD : Hid (decL ws = (a, b, d, 0))) (HE2 : Hid (encL a b d = ws.take 8)) :
    Calls Try.prog 5 #[.agg #[.int .i64 t, .int .i64 p, .int .i64 s], .slice (some ad) n c] w (Keeps w) := by
  have HE := hidp (encL_yes hr)
  obtain ⟨i0, hi, hz0, hz1, hz2⟩ := info_parts wordInfo
  have hc0 := Held.new w 23 #[.int .i64 t, .int .i64 p, .int .i64 s]
  have hmx := hm
  unfold maxLen at hm
  go_enter Try.func5, Try.ntmps5
  go_wp2_with fail
  refine (hdEncode_c t p s _).mono ?_
  rintro e w1 ⟨u, rfl, hown, hb1⟩
  rw [HE.out, headL_len] at hown
  obtain ⟨g, cap, rfl, hg1, hg2, hcp1, hcp2⟩ := own_form hown (by omega)
  have HO := hidp hown
  clear hown
  have HRA := hidp ((HR.out.alloc (Nat.le_refl _) (.cells #[.int .i64 t, .int .i64 p, .int .i64 s] 23)).below (hb1.mono (by simp)))
  go_wp2_with
    (at_builtin
     refine wpList_append_own _ rfl _ _ 25 rfl _ 39 i0 (.int .u64 0) 1 8 Try.underlying25 hi hz0 hz1 hz2 rfl (by decide) _ _ _ rfl HO.out ad n c (wordVs ws) rfl ?c1 ?c2 ?c3 ?c4 ?c5 ?c6 ?_
     case c1 => exact HRA.out.1
     case c2 =>
       intro j u hu
       by_cases h0 : 0 < n
       · obtain ⟨ad', e, _, h⟩ := HRA.out.2 h0
         injection e with e
         subst e
         exact h j u hu
       · have h1 : wordVs ws = [] := List.eq_nil_of_length_eq_zero (by rw [wordVs_len]; have := HN.out; omega)
         rw [h1] at hu
         simp at hu
     case c3 => intro u hu; unfold wordVs at hu; obtain ⟨z, _, rfl⟩ := List.mem_map.1 hu; rfl
     case c4 => unfold maxLen; omega
     case c5 => omega
     case c6 => exact hb1.size
     intro v1 w2 hown1 hgrow _)
  rw [wordVs_app] at hown1
  obtain ⟨g2, cap2, rfl, hg3, hg4, hcp3, hcp4⟩ := own_form hown1 (by omega)
  have HR2 := hidp (Reads.of_own hown1)
  have hb2 : Below w.heap.size w w2 := (Bgo (Bnew (B0 _) _) hb1).grown hgrow (by have := hb1.size; simp at this; omega) (fun j hj => by have := (HO.out.lt j hj).1; simp at this; omega)
  have HC2 : Hid (Held w2 w.heap.size 23 #[.int .i64 t, .int .i64 p, .int .i64 s]) := hidp ((hgrow.block w.heap.size (by have := hb1.size; simp at this; omega) (by intro e; have := (HO.out.lt _ e.symm).1; simp at this; omega)).trans (hc0.keep hb1))
  clear hgrow hown1
  have HDH := hidp (decL_head hr ws)
  have HLen : Hid ((headL t p s ++ ws).length = 8 + n) := hidp (by rw [List.length_append, headL_len, HN.out])
  have HW64 : Hid (∀ x ∈ headL t p s ++ ws, x < 2 ^ 64) := hidp (fun x hx => (List.mem_append.1 hx).elim (headL_lt t p s x) (H64.out x))
  go_wp2_with fail
  refine (hdDecode_c (some ⟨g2, 0, none⟩) cap2 (8 + n) (headL t p s ++ ws) HLen hcp3 hcp4 HW64 _ HR2 t p s 0 HDH).mono ?_
  rintro e w3 ⟨rfl, hb3⟩
  have hcc : Held w3 w.heap.size 23 #[.int .i64 t, .int .i64 p, .int .i64 s] := HC2.out.keep hb3
  have hcc3 := (hcc.alloc (.cells #[.int .i64 t, .int .i64 p, .int .i64 s] 23)).three
  have hdd3 := (Held.new w3 23 #[.int .i64 t, .int .i64 p, .int .i64 s]).three
  go_wp2_with fail
  refine (num_c 0 (by omega) (by omega) _).mono ?_
  rintro e w3' ⟨rfl, rfl⟩
  have hbw := Bnew (Bgo hb2 hb3) (.cells #[.int .i64 t, .int .i64 p, .int .i64 s] 23)
  go_wp2_with fail
  have HRM := hidp ((HR.out.below hbw).more hbw.size)
  refine (hdDecode_c (some ad) c n ws HN hc hmx H64 _ HRM a b d 0 HD).mono ?_
  rintro e w4 ⟨rfl, hb4⟩
  have hd4 := (Held.new w4 23 #[.int .i64 a, .int .i64 b, .int .i64 d]).three
  go_wp2_with fail
  refine (num_c 0 (by omega) (by omega) _).mono ?_
  rintro e w5 ⟨rfl, rfl⟩
  have hbn := Bnew (Bgo hbw hb4) (.cells #[.int .i64 a, .int .i64 b, .int .i64 d] 23)
  have HT := hidp (wordVs_take ws 8 ▸ (HR.out.below hbn).take (k := 8) h8)
  have HT8 : Hid ((ws.take 8).length = 8) := hidp (by rw [List.length_take]; have := HN.out; omega)
  have hn8 : (8 : Int) ≤ (n : Int) := by omega
  have hc8 : (8 : Int) ≤ (c : Int) := by omega
  have hc8' : 8 ≤ c := by omega
  go_wp2_with fail
  go_region_held3 (fun w' => w'.cell? ⟨w4.heap.size, 0, none⟩ = some (.int .i64 a) ∧ w'.cell? ⟨w4.heap.size, 1, none⟩ = some (.int .i64 b) ∧ w'.cell? ⟨w4.heap.size, 2, none⟩ = some (.int .i64 d))
    (first | exact hd4 | go_keep | exact ⟨hst _ _ (by assumption), hst _ _ (by assumption), hst _ _ (by assumption)⟩)
    (first
      | (go_at_call 8; refine (hdEncode_c a b d _).mono ?_; rintro e w6 ⟨u, rfl, hown, hb6⟩; rw [HE2.out, HT8.out] at hown; obtain ⟨A1, c1, rfl⟩ := own_slice hown; have HR1 := hidp (Reads.of_own hown); have HT2 := hidp ((HT.out.drewN 1).below (hb6.mono (by have := hbn.size; simp at this; simp; omega))); clear hown; have hst := cells_stay hb6)
      | (go_at_call 7; refine (Words_same (ws.take 8) 8 HT8 _ _ _ _ (by unfold maxLen; omega) _ _ _ HR1 HT2).mono ?_; rintro e w7 ⟨rfl, n7, rfl⟩; clear hst; have hst : ∀ (p : Addr) (u : Value), w6.cell? p = some u → (w6.drewN n7).cell? p = some u := fun _ _ h => h)
      | (go_at_call 10; refine (live_c _).mono ?_; rintro e w8 ⟨rfl, hb8⟩; clear hst; have hst := cells_stay hb8))
  go_wp2
  go_ret
  refine ⟨rfl, ?_⟩
  repeat (first | exact B0 _ | (with_reducible refine Bgo ?_ (by assumption)) | (with_reducible refine Bdrew ?_) | (with_reducible refine Bdraw ?_ _) | (with_reducible refine Bnew ?_ _))

set_option maxHeartbeats 3200000 in
theorem HeadBack_b (t p s a b d : Int) (ad : Addr) (c n : Nat) (ws : List Nat) (HN : Hid (ws.length = n)) (hc : n ≤ c) (hm : c ≤ maxLen) (hreach : n * 8 ≤ 140737488351232) (H64 : Hid (∀ x ∈ ws, x < 2 ^ 64)) (w : World) (HR : Hid (Reads w w.heap.size 1 (some ad) n (wordVs ws)))
    (hr : rightB t p s = true) (HD : Hid (decL ws = (0, 0, 0, 9))) :
    Calls Try.prog 5 #[.agg #[.int .i64 t, .int .i64 p, .int .i64 s], .slice (some ad) n c] w (Keeps w) := by
  have HE := hidp (encL_yes hr)
  obtain ⟨i0, hi, hz0, hz1, hz2⟩ := info_parts wordInfo
  have hc0 := Held.new w 23 #[.int .i64 t, .int .i64 p, .int .i64 s]
  have hmx := hm
  unfold maxLen at hm
  go_enter Try.func5, Try.ntmps5
  go_wp2_with fail
  refine (hdEncode_c t p s _).mono ?_
  rintro e w1 ⟨u, rfl, hown, hb1⟩
  rw [HE.out, headL_len] at hown
  obtain ⟨g, cap, rfl, hg1, hg2, hcp1, hcp2⟩ := own_form hown (by omega)
  have HO := hidp hown
  clear hown
  have HRA := hidp ((HR.out.alloc (Nat.le_refl _) (.cells #[.int .i64 t, .int .i64 p, .int .i64 s] 23)).below (hb1.mono (by simp)))
  go_wp2_with
    (at_builtin
     refine wpList_append_own _ rfl _ _ 25 rfl _ 39 i0 (.int .u64 0) 1 8 Try.underlying25 hi hz0 hz1 hz2 rfl (by decide) _ _ _ rfl HO.out ad n c (wordVs ws) rfl ?c1 ?c2 ?c3 ?c4 ?c5 ?c6 ?_
     case c1 => exact HRA.out.1
     case c2 =>
       intro j u hu
       by_cases h0 : 0 < n
       · obtain ⟨ad', e, _, h⟩ := HRA.out.2 h0
         injection e with e
         subst e
         exact h j u hu
       · have h1 : wordVs ws = [] := List.eq_nil_of_length_eq_zero (by rw [wordVs_len]; have := HN.out; omega)
         rw [h1] at hu
         simp at hu
     case c3 => intro u hu; unfold wordVs at hu; obtain ⟨z, _, rfl⟩ := List.mem_map.1 hu; rfl
     case c4 => unfold maxLen; omega
     case c5 => omega
     case c6 => exact hb1.size
     intro v1 w2 hown1 hgrow _)
  rw [wordVs_app] at hown1
  obtain ⟨g2, cap2, rfl, hg3, hg4, hcp3, hcp4⟩ := own_form hown1 (by omega)
  have HR2 := hidp (Reads.of_own hown1)
  have hb2 : Below w.heap.size w w2 := (Bgo (Bnew (B0 _) _) hb1).grown hgrow (by have := hb1.size; simp at this; omega) (fun j hj => by have := (HO.out.lt j hj).1; simp at this; omega)
  have HC2 : Hid (Held w2 w.heap.size 23 #[.int .i64 t, .int .i64 p, .int .i64 s]) := hidp ((hgrow.block w.heap.size (by have := hb1.size; simp at this; omega) (by intro e; have := (HO.out.lt _ e.symm).1; simp at this; omega)).trans (hc0.keep hb1))
  clear hgrow hown1
  have HDH := hidp (decL_head hr ws)
  have HLen : Hid ((headL t p s ++ ws).length = 8 + n) := hidp (by rw [List.length_append, headL_len, HN.out])
  have HW64 : Hid (∀ x ∈ headL t p s ++ ws, x < 2 ^ 64) := hidp (fun x hx => (List.mem_append.1 hx).elim (headL_lt t p s x) (H64.out x))
  go_wp2_with fail
  refine (hdDecode_c (some ⟨g2, 0, none⟩) cap2 (8 + n) (headL t p s ++ ws) HLen hcp3 hcp4 HW64 _ HR2 t p s 0 HDH).mono ?_
  rintro e w3 ⟨rfl, hb3⟩
  have hcc : Held w3 w.heap.size 23 #[.int .i64 t, .int .i64 p, .int .i64 s] := HC2.out.keep hb3
  have hcc3 := (hcc.alloc (.cells #[.int .i64 t, .int .i64 p, .int .i64 s] 23)).three
  have hdd3 := (Held.new w3 23 #[.int .i64 t, .int .i64 p, .int .i64 s]).three
  go_wp2_with fail
  refine (num_c 0 (by omega) (by omega) _).mono ?_
  rintro e w3' ⟨rfl, rfl⟩
  have hbw := Bnew (Bgo hb2 hb3) (.cells #[.int .i64 t, .int .i64 p, .int .i64 s] 23)
  go_wp2_with fail
  have HRM := hidp ((HR.out.below hbw).more hbw.size)
  refine (hdDecode_c (some ad) c n ws HN hc hmx H64 _ HRM 0 0 0 9 HD).mono ?_
  rintro e w4 ⟨rfl, hb4⟩
  have hd4 := (Held.new w4 23 #[.int .i64 0, .int .i64 0, .int .i64 0]).three
  go_wp2_with fail
  refine (num_c 9 (by omega) (by omega) _).mono ?_
  rintro e w5 ⟨rfl, rfl⟩
  go_wp2_with fail
  refine (live_c _).mono ?_
  rintro e w8 ⟨rfl, hb8⟩
  go_wp2
  go_ret
  refine ⟨rfl, ?_⟩
  repeat (first | exact B0 _ | (with_reducible refine Bgo ?_ (by assumption)) | (with_reducible refine Bdrew ?_) | (with_reducible refine Bdraw ?_ _) | (with_reducible refine Bnew ?_ _))

set_option maxHeartbeats 3200000 in
theorem HeadBack_n (t p s a b d : Int) (c n : Nat) (ws : List Nat) (HN : Hid (ws.length = n)) (hc : n ≤ c) (hm : c ≤ maxLen) (hreach : n * 8 ≤ 140737488351232) (H64 : Hid (∀ x ∈ ws, x < 2 ^ 64)) (w : World) (HR : Hid (Reads w w.heap.size 1 none n (wordVs ws)))
    (hr : rightB t p s = true) (HD : Hid (decL ws = (0, 0, 0, 9))) (hn0 : n = 0) :
    Calls Try.prog 5 #[.agg #[.int .i64 t, .int .i64 p, .int .i64 s], .slice none n c] w (Keeps w) := by
  have HE := hidp (encL_yes hr)
  obtain ⟨i0, hi, hz0, hz1, hz2⟩ := info_parts wordInfo
  have hc0 := Held.new w 23 #[.int .i64 t, .int .i64 p, .int .i64 s]
  have hmx := hm
  unfold maxLen at hm
  go_enter Try.func5, Try.ntmps5
  go_wp2_with fail
  refine (hdEncode_c t p s _).mono ?_
  rintro e w1 ⟨u, rfl, hown, hb1⟩
  rw [HE.out, headL_len] at hown
  obtain ⟨g, cap, rfl, hg1, hg2, hcp1, hcp2⟩ := own_form hown (by omega)
  have HO := hidp hown
  clear hown
  subst hn0
  go_wp2_with
    (at_builtin
     refine wpList_append_none rfl _ _ 25 rfl 39 i0 Try.underlying25 hi _ 8 cap c hcp1 rfl rfl ?_)
  have HW0 : ws = [] := List.eq_nil_of_length_eq_zero HN.out
  subst HW0
  have HR2 : Hid (Reads w1 w1.heap.size 1 (some ⟨g, 0, none⟩) (8 + 0) (wordVs (headL t p s ++ []))) := hidp (by rw [List.append_nil]; exact Reads.of_own HO.out)
  have hb2 : Below w.heap.size w w1 := Bgo (Bnew (B0 _) _) hb1
  have HC2 : Hid (Held w1 w.heap.size 23 #[.int .i64 t, .int .i64 p, .int .i64 s]) := hidp (hc0.keep hb1)
  have HDH := hidp (decL_head hr [])
  have HLen : Hid ((headL t p s ++ []).length = 8 + 0) := hidp (by rw [List.length_append, headL_len, HN.out])
  have HW64 : Hid (∀ x ∈ headL t p s ++ [], x < 2 ^ 64) := hidp (fun x hx => (List.mem_append.1 hx).elim (headL_lt t p s x) (H64.out x))
  go_wp2_with fail
  refine (hdDecode_c (some ⟨g, 0, none⟩) cap (8 + 0) (headL t p s ++ []) HLen hcp1 hcp2 HW64 _ HR2 t p s 0 HDH).mono ?_
  rintro e w3 ⟨rfl, hb3⟩
  have hcc : Held w3 w.heap.size 23 #[.int .i64 t, .int .i64 p, .int .i64 s] := HC2.out.keep hb3
  have hcc3 := (hcc.alloc (.cells #[.int .i64 t, .int .i64 p, .int .i64 s] 23)).three
  have hdd3 := (Held.new w3 23 #[.int .i64 t, .int .i64 p, .int .i64 s]).three
  go_wp2_with fail
  refine (num_c 0 (by omega) (by omega) _).mono ?_
  rintro e w3' ⟨rfl, rfl⟩
  have hbw := Bnew (Bgo hb2 hb3) (.cells #[.int .i64 t, .int .i64 p, .int .i64 s] 23)
  go_wp2_with fail
  have HRM := hidp ((HR.out.below hbw).more hbw.size)
  refine (hdDecode_c none c 0 [] HN hc hmx H64 _ HRM 0 0 0 9 HD).mono ?_
  rintro e w4 ⟨rfl, hb4⟩
  have hd4 := (Held.new w4 23 #[.int .i64 0, .int .i64 0, .int .i64 0]).three
  go_wp2_with fail
  refine (num_c 9 (by omega) (by omega) _).mono ?_
  rintro e w5 ⟨rfl, rfl⟩
  go_wp2_with fail
  refine (live_c _).mono ?_
  rintro e w8 ⟨rfl, hb8⟩
  go_wp2
  go_ret
  refine ⟨rfl, ?_⟩
  repeat (first | exact B0 _ | (with_reducible refine Bgo ?_ (by assumption)) | (with_reducible refine Bdrew ?_) | (with_reducible refine Bdraw ?_ _) | (with_reducible refine Bnew ?_ _))

set_option maxHeartbeats 3200000 in
theorem HeadBack_d (t p s a b d : Int) (ad : Addr) (c n : Nat) (ws : List Nat) (HN : Hid (ws.length = n)) (hc : n ≤ c) (hm : c ≤ maxLen) (hreach : n * 8 ≤ 140737488351232) (H64 : Hid (∀ x ∈ ws, x < 2 ^ 64)) (w : World) (HR : Hid (Reads w w.heap.size 1 (some ad) n (wordVs ws)))
    (hr : rightB t p s = false) (h8 : 8 ≤ n) (HD : Hid (decL ws = (a, b, d, 0))) (HE2 : Hid (encL a b d = ws.take 8)) :
    Calls Try.prog 5 #[.agg #[.int .i64 t, .int .i64 p, .int .i64 s], .slice (some ad) n c] w (Keeps w) := by
  have HE := hidp (encL_no hr)
  obtain ⟨i0, hi, hz0, hz1, hz2⟩ := info_parts wordInfo
  have hc0 := Held.new w 23 #[.int .i64 t, .int .i64 p, .int .i64 s]
  have hmx := hm
  unfold maxLen at hm
  go_enter Try.func5, Try.ntmps5
  go_wp2_with fail
  refine (hdEncode_c t p s _).mono ?_
  rintro e w1 ⟨u, rfl, hown, hb1⟩
  rw [HE.out] at hown
  obtain ⟨A1, c1, rfl⟩ := own_slice hown
  simp only [List.length_nil] at *
  have hbw : Below w.heap.size w w1 := Bgo (Bnew (B0 _) _) hb1
  go_wp2_with fail
  have HRM := hidp ((HR.out.below hbw).more hbw.size)
  refine (hdDecode_c (some ad) c n ws HN hc hmx H64 _ HRM a b d 0 HD).mono ?_
  rintro e w4 ⟨rfl, hb4⟩
  have hd4 := (Held.new w4 23 #[.int .i64 a, .int .i64 b, .int .i64 d]).three
  go_wp2_with fail
  refine (num_c 0 (by omega) (by omega) _).mono ?_
  rintro e w5 ⟨rfl, rfl⟩
  have hbn := Bnew (Bgo hbw hb4) (.cells #[.int .i64 a, .int .i64 b, .int .i64 d] 23)
  have HT := hidp (wordVs_take ws 8 ▸ (HR.out.below hbn).take (k := 8) h8)
  have HT8 : Hid ((ws.take 8).length = 8) := hidp (by rw [List.length_take]; have := HN.out; omega)
  have hn8 : (8 : Int) ≤ (n : Int) := by omega
  have hc8 : (8 : Int) ≤ (c : Int) := by omega
  have hc8' : 8 ≤ c := by omega
  go_wp2_with fail
  go_region_held3 (fun w' => w'.cell? ⟨w4.heap.size, 0, none⟩ = some (.int .i64 a) ∧ w'.cell? ⟨w4.heap.size, 1, none⟩ = some (.int .i64 b) ∧ w'.cell? ⟨w4.heap.size, 2, none⟩ = some (.int .i64 d))
    (first | exact hd4 | go_keep | exact ⟨hst _ _ (by assumption), hst _ _ (by assumption), hst _ _ (by assumption)⟩)
    (first
      | (go_at_call 8; refine (hdEncode_c a b d _).mono ?_; rintro e w6 ⟨u, rfl, hown, hb6⟩; rw [HE2.out, HT8.out] at hown; obtain ⟨A1, c1, rfl⟩ := own_slice hown; have HR1 := hidp (Reads.of_own hown); have HT2 := hidp ((HT.out.drewN 1).below (hb6.mono (by have := hbn.size; simp at this; simp; omega))); clear hown; have hst := cells_stay hb6)
      | (go_at_call 7; refine (Words_same (ws.take 8) 8 HT8 _ _ _ _ (by unfold maxLen; omega) _ _ _ HR1 HT2).mono ?_; rintro e w7 ⟨rfl, n7, rfl⟩; clear hst; have hst : ∀ (p : Addr) (u : Value), w6.cell? p = some u → (w6.drewN n7).cell? p = some u := fun _ _ h => h)
      | (go_at_call 10; refine (live_c _).mono ?_; rintro e w8 ⟨rfl, hb8⟩; clear hst; have hst := cells_stay hb8))
  go_wp2
  go_ret
  refine ⟨rfl, ?_⟩
  repeat (first | exact B0 _ | (with_reducible refine Bgo ?_ (by assumption)) | (with_reducible refine Bdrew ?_) | (with_reducible refine Bdraw ?_ _) | (with_reducible refine Bnew ?_ _))

set_option maxHeartbeats 3200000 in
theorem HeadBack_e (t p s a b d : Int) (A : Option Addr) (c n : Nat) (ws : List Nat) (HN : Hid (ws.length = n)) (hc : n ≤ c) (hm : c ≤ maxLen) (hreach : n * 8 ≤ 140737488351232) (H64 : Hid (∀ x ∈ ws, x < 2 ^ 64)) (w : World) (HR : Hid (Reads w w.heap.size 1 A n (wordVs ws)))
    (hr : rightB t p s = false) (HD : Hid (decL ws = (0, 0, 0, 9))) :
    Calls Try.prog 5 #[.agg #[.int .i64 t, .int .i64 p, .int .i64 s], .slice A n c] w (Keeps w) := by
  have HE := hidp (encL_no hr)
  obtain ⟨i0, hi, hz0, hz1, hz2⟩ := info_parts wordInfo
  have hc0 := Held.new w 23 #[.int .i64 t, .int .i64 p, .int .i64 s]
  have hmx := hm
  unfold maxLen at hm
  go_enter Try.func5, Try.ntmps5
  go_wp2_with fail
  refine (hdEncode_c t p s _).mono ?_
  rintro e w1 ⟨u, rfl, hown, hb1⟩
  rw [HE.out] at hown
  obtain ⟨A1, c1, rfl⟩ := own_slice hown
  simp only [List.length_nil] at *
  have hbw : Below w.heap.size w w1 := Bgo (Bnew (B0 _) _) hb1
  go_wp2_with fail
  have HRM := hidp ((HR.out.below hbw).more hbw.size)
  refine (hdDecode_c A c n ws HN hc hmx H64 _ HRM 0 0 0 9 HD).mono ?_
  rintro e w4 ⟨rfl, hb4⟩
  have hd4 := (Held.new w4 23 #[.int .i64 0, .int .i64 0, .int .i64 0]).three
  go_wp2_with fail
  refine (num_c 9 (by omega) (by omega) _).mono ?_
  rintro e w5 ⟨rfl, rfl⟩
  go_wp2_with fail
  refine (live_c _).mono ?_
  rintro e w8 ⟨rfl, hb8⟩
  go_wp2
  go_ret
  refine ⟨rfl, ?_⟩
  repeat (first | exact B0 _ | (with_reducible refine Bgo ?_ (by assumption)) | (with_reducible refine Bdrew ?_) | (with_reducible refine Bdraw ?_ _) | (with_reducible refine Bnew ?_ _))

theorem HeadBack_calls (t p s : Int) (A : Option Addr) (c n : Nat) (ws : List Nat) (HN : Hid (ws.length = n)) (hc : n ≤ c) (hm : c ≤ maxLen) (hreach : n * 8 ≤ 140737488351232) (H64 : Hid (∀ x ∈ ws, x < 2 ^ 64)) (w : World) (HR : Hid (Reads w w.heap.size 1 A n (wordVs ws))) :
    Calls Try.prog 5 #[.agg #[.int .i64 t, .int .i64 p, .int .i64 s], .slice A n c] w (Keeps w) := by
  obtain ⟨a, b, d, k, hd⟩ : ∃ a b d k, decL ws = (a, b, d, k) := ⟨_, _, _, _, rfl⟩
  by_cases hk : k = 0
  · subst hk
    obtain ⟨h8, hT, hrd⟩ := decL_zero hd
    have h8' : 8 ≤ n := by have := HN.out; omega
    obtain ⟨ad, rfl, _⟩ := HR.out.2 (by omega)
    have HE2 := hidp ((encL_yes hrd).trans hT.symm)
    cases hr : rightB t p s
    · exact HeadBack_d t p s a b d ad c n ws HN hc hm hreach H64 w HR hr h8' (hidp hd) HE2
    · exact HeadBack_a t p s a b d ad c n ws HN hc hm hreach H64 w HR hr h8' (hidp hd) HE2
  · obtain ⟨rfl, rfl, rfl, rfl⟩ := decL_nine hd hk
    cases A
    · have h0 : n = 0 := by
        rcases Nat.eq_zero_or_pos n with h | h
        · exact h
        · obtain ⟨_, h, _⟩ := HR.out.2 h; cases h
      cases hr : rightB t p s
      · exact HeadBack_e t p s 0 0 0 none c n ws HN hc hm hreach H64 w HR hr (hidp hd)
      · exact HeadBack_n t p s 0 0 0 c n ws HN hc hm hreach H64 w HR hr (hidp hd) h0
    · cases hr : rightB t p s
      · exact HeadBack_e t p s 0 0 0 _ c n ws HN hc hm hreach H64 w HR hr (hidp hd)
      · exact HeadBack_b t p s 0 0 0 _ c n ws HN hc hm hreach H64 w HR hr (hidp hd)

end Go.Proofs.Ytdhpjlbcldcfjaa
