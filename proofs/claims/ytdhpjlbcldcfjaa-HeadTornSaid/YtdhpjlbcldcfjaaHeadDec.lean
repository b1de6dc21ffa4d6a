/-
  Contracts of head.Decode and of the document's answer to it.
-/
import Derived.Test.YtdhpjlbcldcfjaaHeadMap
namespace Go.Proofs.Ytdhpjlbcldcfjaa
open Go.ChangeShapes Go.WideShapes Go.ChangeAt Go.RowKit Go.Maps
set_option linter.unusedVariables false
set_option linter.unusedSimpArgs false

theorem confOf_right {x : Nat} {t p s : Int} (h : confOf x = (t, p, s, true)) : rightB t p s = true := by
  cases hr : rightB (x % 65536 : Nat) (x / 65536 % 65536 : Nat) (x / 4294967296 : Nat)
  · rw [confOf_no hr] at h
    simp at h
  · rw [confOf_yes hr] at h
    simp only [Prod.mk.injEq] at h
    obtain ⟨rfl, rfl, rfl, _⟩ := h
    exact hr

set_option maxHeartbeats 3200000 in
theorem hdDecode_c (A : Option Addr) (c n : Nat) (ws : List Nat) (HN : Hid (ws.length = n)) (hc : n ≤ c) (hm : c ≤ maxLen) (H64 : Hid (∀ x ∈ ws, x < 2 ^ 64)) (w : World) (HR : Hid (Reads w w.heap.size 1 A n (wordVs ws))) (a b d k : Int) (HD : Hid (decL ws = (a, b, d, k))) :
    Calls Try.prog 11 #[.slice A n c] w fun e w' => e = .returned (.tuple #[.agg #[.int .i64 a, .int .i64 b, .int .i64 d], .int .i64 k]) ∧ Below w.heap.size w w' := by
  unfold maxLen at hm
  have hrs := Held.new w 23 #[.int .i64 0, .int .i64 0, .int .i64 0]
  by_cases hl : n < 8
  · obtain ⟨rfl, rfl, rfl, rfl⟩ : a = 0 ∧ b = 0 ∧ d = 0 ∧ k = 9 := by
      have := HD.out
      unfold decL at this
      rw [if_neg (by have := HN.out; omega)] at this
      simp only [Prod.mk.injEq] at this
      omega
    go_enter Try.func11, Try.ntmps11
    obtain ⟨k0, k1, k2⟩ := hrs.three
    have f0 := hrs.thawed 0
    have f1 := hrs.thawed 1
    have f2 := hrs.thawed 2
    go_wp2
    obtain ⟨z0, z1, z2⟩ := (((hrs.put 0 (.int .i64 0)).put 1 (.int .i64 0)).put 2 (.int .i64 0)).three
    refine bodyPost_ret (v := .tuple #[.agg #[.int .i64 0, .int .i64 0, .int .i64 0], .int .i64 9]) (by first | (simp [results, Try.results11, go_sem, k0, k1, k2]; done) | (simp [results, Try.results11, go_sem, z0, z1, z2]; done)) rfl ⟨rfl, ?_⟩
    (repeat (first | exact B0 _ | (with_reducible refine Below.setCell ?_ (by first | (simp; done) | (simp; omega)) _) | (with_reducible refine Bgo ?_ (by assumption)) | (with_reducible refine Bdrew ?_) | (with_reducible refine below_draws ?_ _) | (with_reducible refine Bnew ?_ _)))
  · obtain ⟨ad, rfl, hadb, hcell⟩ := words_at HN.out HR.out (show 2 < n by omega)
    have hcell : w.cell? ⟨ad.block, ad.off + 2, none⟩ = some (.int .u64 ((ws.getD 2 0 : Nat) : Int)) := by simpa [Addr.add] using hcell
    have hx64 := getD_lt (by omega) H64.out 2
    have hc8 : (8 : Int) ≤ (c : Int) := by omega
    have hc8' : 8 ≤ c := by omega
    have HD1 := HD.out
    unfold decL at HD1
    obtain ⟨t, p, s, y, hco⟩ : ∃ t p s y, confOf (ws.getD 2 0) = (t, p, s, y) := ⟨_, _, _, _, rfl⟩
    rw [hco] at HD1
    simp only at HD1
    have HC := hidp hco
    have H8 : Hid (8 ≤ ws.length) := hidp (by have := HN.out; omega)
    have HT := hidp (HR.out.take (k := 8) (by omega))
    have HT8 : Hid ((ws.take 8).length = 8) := hidp (by rw [List.length_take]; have := H8.out; omega)
    have HT64 : Hid (∀ x ∈ ws.take 8, x < 2 ^ 64) := hidp (fun x hx => H64.out x (List.mem_of_mem_take hx))
    cases y
    · obtain ⟨rfl, rfl, rfl, rfl⟩ : a = 0 ∧ b = 0 ∧ d = 0 ∧ k = 9 := by
        rw [if_neg (by simp)] at HD1
        simp only [Prod.mk.injEq] at HD1
        omega
      clear HD1 hco
      generalize ws.getD 2 0 = x at *
      go_enter Try.func11, Try.ntmps11
      go_wp2_with fail
      refine (cfOf_c x t p s false hx64 HC.out _).mono ?_
      rintro e w1 ⟨rfl, hb1⟩
      have hz := hb1.size
      simp only [World.size_alloc] at hz
      have hk := (hrs.keep hb1).alloc (.cells #[.int .i64 t, .int .i64 p, .int .i64 s] 23)
      have hc3 := (Held.new w1 23 #[.int .i64 t, .int .i64 p, .int .i64 s]).three
      go_wp2_with fail
      refine wp_region_held_drew (S := (fun w' => w'.cell? ⟨w1.heap.size, 0, none⟩ = some (.int .i64 t) ∧ w'.cell? ⟨w1.heap.size, 1, none⟩ = some (.int .i64 p) ∧ w'.cell? ⟨w1.heap.size, 2, none⟩ = some (.int .i64 s))) (by kernel_rfl) ?_ (fun hHeld => ?_)
      · (try dsimp only)
        (first | exact hc3 | go_keep | exact ⟨hst _ _ (by assumption), hst _ _ (by assumption), hst _ _ (by assumption)⟩)
      refine wpAnyH_take (i := 0) (oi := _) (v := ?_) rfl (by kernel_rfl) (by kernel_rfl) (by kernel_rfl) (fun _ _ _ h => h) (Or.inl ⟨by rfl, ?_⟩) (by assumption) ?_
      rotate_left
      · intro w hSw; (try dsimp only at hSw); go_simp; (try with_reducible rfl)
      (try simp only [Act.put, List.getElem_toArray, List.getElem_cons_zero, List.getElem_cons_succ, List.setIfInBounds_toArray, List.set_cons_zero, List.set_cons_succ])
      refine wpAnyH_take (i := 1) (oi := _) (v := ?_) rfl (by kernel_rfl) (by kernel_rfl) (by kernel_rfl) (fun _ _ _ h => h) (Or.inl ⟨by rfl, ?_⟩) (by assumption) ?_
      rotate_left
      · intro w hSw; (try dsimp only at hSw); go_simp; (try with_reducible rfl)
      (try simp only [Act.put, List.getElem_toArray, List.getElem_cons_zero, List.getElem_cons_succ, List.setIfInBounds_toArray, List.set_cons_zero, List.set_cons_succ])
      refine wpAnyH_take (i := 2) (oi := _) (v := ?_) rfl (by kernel_rfl) (by kernel_rfl) (by kernel_rfl) (fun _ _ _ h => h) (Or.inl ⟨by rfl, ?_⟩) (by assumption) ?_
      rotate_left
      · intro w hSw; (try dsimp only at hSw); go_simp; (try with_reducible rfl)
      (try simp only [Act.put, List.getElem_toArray, List.getElem_cons_zero, List.getElem_cons_succ, List.setIfInBounds_toArray, List.set_cons_zero, List.set_cons_succ])
      refine wpAnyH_take (i := 3) (oi := _) (v := undef) rfl (by kernel_rfl) (by kernel_rfl) (by kernel_rfl) (fun _ _ _ h => h) (Or.inr ⟨by rfl, rfl⟩) (by assumption) ?_
      (try simp only [Act.put, List.getElem_toArray, List.getElem_cons_zero, List.getElem_cons_succ, List.setIfInBounds_toArray, List.set_cons_zero, List.set_cons_succ])
      refine wpAnyH_take (i := 4) (oi := _) (v := undef) rfl (by kernel_rfl) (by kernel_rfl) (by kernel_rfl) (fun _ _ _ h => h) (Or.inr ⟨by rfl, rfl⟩) (by assumption) ?_
      (try simp only [Act.put, List.getElem_toArray, List.getElem_cons_zero, List.getElem_cons_succ, List.setIfInBounds_toArray, List.set_cons_zero, List.set_cons_succ])
      refine wpAnyH_take (i := 5) (oi := _) (v := undef) rfl (by kernel_rfl) (by kernel_rfl) (by kernel_rfl) (fun _ _ _ h => h) (Or.inr ⟨by rfl, rfl⟩) (by assumption) ?_
      (try simp only [Act.put, List.getElem_toArray, List.getElem_cons_zero, List.getElem_cons_succ, List.setIfInBounds_toArray, List.set_cons_zero, List.set_cons_succ])
      refine wpAnyH_take (i := 6) (oi := _) (v := undef) rfl (by kernel_rfl) (by kernel_rfl) (by kernel_rfl) (fun _ _ _ h => h) (Or.inr ⟨by rfl, rfl⟩) (by assumption) ?_
      (try simp only [Act.put, List.getElem_toArray, List.getElem_cons_zero, List.getElem_cons_succ, List.setIfInBounds_toArray, List.set_cons_zero, List.set_cons_succ])
      refine wpAnyH_take (i := 7) (oi := _) (v := undef) rfl (by kernel_rfl) (by kernel_rfl) (by kernel_rfl) (fun _ _ _ h => h) (Or.inr ⟨by rfl, rfl⟩) (by assumption) ?_
      (try simp only [Act.put, List.getElem_toArray, List.getElem_cons_zero, List.getElem_cons_succ, List.setIfInBounds_toArray, List.set_cons_zero, List.set_cons_succ])
      refine wpAnyH_take (i := 8) (oi := _) (v := ?_) rfl (by kernel_rfl) (by kernel_rfl) (by kernel_rfl) (fun _ _ _ h => h) (Or.inl ⟨by rfl, ?_⟩) (by assumption) ?_
      rotate_left
      · intro w hSw; (try dsimp only at hSw); go_simp; (try with_reducible rfl)
      (try simp only [Act.put, List.getElem_toArray, List.getElem_cons_zero, List.getElem_cons_succ, List.setIfInBounds_toArray, List.set_cons_zero, List.set_cons_succ])
      refine wpAnyH_done (by kernel_rfl) ?_ _
      obtain ⟨k0, k1, k2⟩ := hk.three
      have f0 := hk.thawed 0
      have f1 := hk.thawed 1
      have f2 := hk.thawed 2
      go_wp2
      obtain ⟨z0, z1, z2⟩ := (((hk.put 0 (.int .i64 0)).put 1 (.int .i64 0)).put 2 (.int .i64 0)).three
      refine bodyPost_ret (v := .tuple #[.agg #[.int .i64 0, .int .i64 0, .int .i64 0], .int .i64 9]) (by first | (simp [results, Try.results11, go_sem, k0, k1, k2]; done) | (simp [results, Try.results11, go_sem, z0, z1, z2]; done)) rfl ⟨rfl, ?_⟩
      (repeat (first | exact B0 _ | (with_reducible refine Below.setCell ?_ (by first | (simp; done) | (simp; omega)) _) | (with_reducible refine Bgo ?_ (by assumption)) | (with_reducible refine Bdrew ?_) | (with_reducible refine below_draws ?_ _) | (with_reducible refine Bnew ?_ _)))
    · have HG := hidp (confOf_right hco)
      obtain ⟨h, hh⟩ : ∃ h : Bool, decide (ws.take 8 = headL t p s) = h := ⟨_, rfl⟩
      have HH := hidp hh
      cases h
      · obtain ⟨rfl, rfl, rfl, rfl⟩ : a = 0 ∧ b = 0 ∧ d = 0 ∧ k = 9 := by
          rw [if_neg (fun h => of_decide_eq_false hh (h.2.2))] at HD1
          simp only [Prod.mk.injEq] at HD1
          omega
        clear HD1 hco hh
        generalize ws.getD 2 0 = x at *
        go_enter Try.func11, Try.ntmps11
        go_wp2_with fail
        refine (cfOf_c x t p s true hx64 HC.out _).mono ?_
        rintro e w1 ⟨rfl, hb1⟩
        have hz := hb1.size
        simp only [World.size_alloc] at hz
        have hk := (hrs.keep hb1).alloc (.cells #[.int .i64 t, .int .i64 p, .int .i64 s] 23)
        have HRT : Hid (Reads (w1.alloc (.cells #[.int .i64 t, .int .i64 p, .int .i64 s] 23)).drew (w1.alloc (.cells #[.int .i64 t, .int .i64 p, .int .i64 s] 23)).drew.heap.size 1 (some ad) 8 (wordVs (ws.take 8))) :=
          hidp (by
            have h1 := (HT.out.alloc (Nat.le_refl _) (.cells #[.int .i64 0, .int .i64 0, .int .i64 0] 23))
            rw [wordVs_take] at h1
            have h2 := h1.below (hb1.mono (by simp))
            have h3 := h2.alloc (by omega) (.cells #[.int .i64 t, .int .i64 p, .int .i64 s] 23)
            exact (h3.drewN 1).more (by simp; omega))
        have hc3 := (Held.new w1 23 #[.int .i64 t, .int .i64 p, .int .i64 s]).three
        go_wp2_with fail
        go_region_held3 (fun w' => w'.cell? ⟨w1.heap.size, 0, none⟩ = some (.int .i64 t) ∧ w'.cell? ⟨w1.heap.size, 1, none⟩ = some (.int .i64 p) ∧ w'.cell? ⟨w1.heap.size, 2, none⟩ = some (.int .i64 s))
          (first | exact hc3 | go_keep | exact ⟨hst _ _ (by assumption), hst _ _ (by assumption), hst _ _ (by assumption)⟩)
          (first
            | (go_at_call 21; refine (isHead_c (some ad) _ (ws.take 8) t p s HG.out HT8.out HT64.out _ HRT.out).mono ?_; rintro e w2 ⟨rfl, hb2⟩; rw [HH.out]; have hst := cells_stay hb2))
        have hk2 := (hk.drewN 1).keep hb2
        have hz2 := hb2.size
        simp at hz2
        rename_i hH3
        obtain ⟨c30, c31, c32⟩ := hH3
        obtain ⟨k0, k1, k2⟩ := hk2.three
        have f0 := hk2.thawed 0
        have f1 := hk2.thawed 1
        have f2 := hk2.thawed 2
        go_wp2
        obtain ⟨z0, z1, z2⟩ := (((hk2.put 0 (.int .i64 0)).put 1 (.int .i64 0)).put 2 (.int .i64 0)).three
        refine bodyPost_ret (v := .tuple #[.agg #[.int .i64 0, .int .i64 0, .int .i64 0], .int .i64 9]) (by first | (simp [results, Try.results11, go_sem, k0, k1, k2]; done) | (simp [results, Try.results11, go_sem, z0, z1, z2]; done)) rfl ⟨rfl, ?_⟩
        (repeat (first | exact B0 _ | (with_reducible refine Below.setCell ?_ (by first | (simp; done) | (simp; omega)) _) | (with_reducible refine Bgo ?_ (by assumption)) | (with_reducible refine Bdrew ?_) | (with_reducible refine below_draws ?_ _) | (with_reducible refine Bnew ?_ _)))
      · obtain ⟨rfl, rfl, rfl, rfl⟩ : a = t ∧ b = p ∧ d = s ∧ k = 0 := by
          rw [if_pos ⟨H8.out, rfl, (fun h => h) (of_decide_eq_true hh)⟩] at HD1
          simp only [Prod.mk.injEq] at HD1
          omega
        clear HD1 hco hh
        generalize ws.getD 2 0 = x at *
        go_enter Try.func11, Try.ntmps11
        go_wp2_with fail
        refine (cfOf_c x a b d true hx64 HC.out _).mono ?_
        rintro e w1 ⟨rfl, hb1⟩
        have hz := hb1.size
        simp only [World.size_alloc] at hz
        have hk := (hrs.keep hb1).alloc (.cells #[.int .i64 a, .int .i64 b, .int .i64 d] 23)
        have HRT : Hid (Reads (w1.alloc (.cells #[.int .i64 a, .int .i64 b, .int .i64 d] 23)).drew (w1.alloc (.cells #[.int .i64 a, .int .i64 b, .int .i64 d] 23)).drew.heap.size 1 (some ad) 8 (wordVs (ws.take 8))) :=
          hidp (by
            have h1 := (HT.out.alloc (Nat.le_refl _) (.cells #[.int .i64 0, .int .i64 0, .int .i64 0] 23))
            rw [wordVs_take] at h1
            have h2 := h1.below (hb1.mono (by simp))
            have h3 := h2.alloc (by omega) (.cells #[.int .i64 a, .int .i64 b, .int .i64 d] 23)
            exact (h3.drewN 1).more (by simp; omega))
        have hc3 := (Held.new w1 23 #[.int .i64 a, .int .i64 b, .int .i64 d]).three
        go_wp2_with fail
        go_region_held3 (fun w' => w'.cell? ⟨w1.heap.size, 0, none⟩ = some (.int .i64 a) ∧ w'.cell? ⟨w1.heap.size, 1, none⟩ = some (.int .i64 b) ∧ w'.cell? ⟨w1.heap.size, 2, none⟩ = some (.int .i64 d))
          (first | exact hc3 | go_keep | exact ⟨hst _ _ (by assumption), hst _ _ (by assumption), hst _ _ (by assumption)⟩)
          (first
            | (go_at_call 21; refine (isHead_c (some ad) _ (ws.take 8) a b d HG.out HT8.out HT64.out _ HRT.out).mono ?_; rintro e w2 ⟨rfl, hb2⟩; rw [HH.out]; have hst := cells_stay hb2))
        have hk2 := (hk.drewN 1).keep hb2
        have hz2 := hb2.size
        simp at hz2
        rename_i hH3
        obtain ⟨c30, c31, c32⟩ := hH3
        obtain ⟨k0, k1, k2⟩ := hk2.three
        have f0 := hk2.thawed 0
        have f1 := hk2.thawed 1
        have f2 := hk2.thawed 2
        go_wp2
        obtain ⟨z0, z1, z2⟩ := (((hk2.put 0 (.int .i64 a)).put 1 (.int .i64 b)).put 2 (.int .i64 d)).three
        refine bodyPost_ret (v := .tuple #[.agg #[.int .i64 a, .int .i64 b, .int .i64 d], .int .i64 0]) (by first | (simp [results, Try.results11, go_sem, k0, k1, k2]; done) | (simp [results, Try.results11, go_sem, z0, z1, z2]; done)) rfl ⟨rfl, ?_⟩
        (repeat (first | exact B0 _ | (with_reducible refine Below.setCell ?_ (by first | (simp; done) | (simp; omega)) _) | (with_reducible refine Bgo ?_ (by assumption)) | (with_reducible refine Bdrew ?_) | (with_reducible refine below_draws ?_ _) | (with_reducible refine Bnew ?_ _)))

set_option maxHeartbeats 3200000 in
theorem r8Decode_c (A : Option Addr) (c n : Nat) (ws : List Nat) (HN : Hid (ws.length = n)) (hc : n ≤ c) (hm : c ≤ maxLen) (H64 : Hid (∀ x ∈ ws, x < 2 ^ 64)) (w : World) (HR : Hid (Reads w w.heap.size 1 A n (wordVs ws))) (a b d k : Int) (HD : Hid (decL ws = (a, b, d, k))) :
    Calls Try.prog 12 #[.slice A n c] w fun e w' => e = .returned (.tuple #[.agg #[.int .i64 a, .int .i64 b, .int .i64 d], .int .i64 k]) ∧ Below w.heap.size w w' := by
  unfold maxLen at hm
  have hrs := Held.new w 23 #[.int .i64 0, .int .i64 0, .int .i64 0]
  by_cases hl : n < 8
  · obtain ⟨rfl, rfl, rfl, rfl⟩ : a = 0 ∧ b = 0 ∧ d = 0 ∧ k = 9 := by
      have := HD.out
      unfold decL at this
      rw [if_neg (by have := HN.out; omega)] at this
      simp only [Prod.mk.injEq] at this
      omega
    go_enter Try.func12, Try.ntmps12
    obtain ⟨k0, k1, k2⟩ := hrs.three
    have f0 := hrs.thawed 0
    have f1 := hrs.thawed 1
    have f2 := hrs.thawed 2
    go_wp2
    obtain ⟨z0, z1, z2⟩ := (((hrs.put 0 (.int .i64 0)).put 1 (.int .i64 0)).put 2 (.int .i64 0)).three
    refine bodyPost_ret (v := .tuple #[.agg #[.int .i64 0, .int .i64 0, .int .i64 0], .int .i64 9]) (by first | (simp [results, Try.results12, go_sem, k0, k1, k2]; done) | (simp [results, Try.results12, go_sem, z0, z1, z2]; done)) rfl ⟨rfl, ?_⟩
    (repeat (first | exact B0 _ | (with_reducible refine Below.setCell ?_ (by first | (simp; done) | (simp; omega)) _) | (with_reducible refine Bgo ?_ (by assumption)) | (with_reducible refine Bdrew ?_) | (with_reducible refine below_draws ?_ _) | (with_reducible refine Bnew ?_ _)))
  · obtain ⟨ad, rfl, hadb, hcell⟩ := words_at HN.out HR.out (show 2 < n by omega)
    have hcell : w.cell? ⟨ad.block, ad.off + 2, none⟩ = some (.int .u64 ((ws.getD 2 0 : Nat) : Int)) := by simpa [Addr.add] using hcell
    have hx64 := getD_lt (by omega) H64.out 2
    have hc8 : (8 : Int) ≤ (c : Int) := by omega
    have hc8' : 8 ≤ c := by omega
    have HD1 := HD.out
    unfold decL at HD1
    obtain ⟨t, p, s, y, hco⟩ : ∃ t p s y, confOf (ws.getD 2 0) = (t, p, s, y) := ⟨_, _, _, _, rfl⟩
    rw [hco] at HD1
    simp only at HD1
    have HC := hidp hco
    have H8 : Hid (8 ≤ ws.length) := hidp (by have := HN.out; omega)
    have HT := hidp (HR.out.take (k := 8) (by omega))
    have HT8 : Hid ((ws.take 8).length = 8) := hidp (by rw [List.length_take]; have := H8.out; omega)
    have HT64 : Hid (∀ x ∈ ws.take 8, x < 2 ^ 64) := hidp (fun x hx => H64.out x (List.mem_of_mem_take hx))
    cases y
    · obtain ⟨rfl, rfl, rfl, rfl⟩ : a = 0 ∧ b = 0 ∧ d = 0 ∧ k = 9 := by
        rw [if_neg (by simp)] at HD1
        simp only [Prod.mk.injEq] at HD1
        omega
      clear HD1 hco
      generalize ws.getD 2 0 = x at *
      go_enter Try.func12, Try.ntmps12
      go_wp2_with fail
      refine (r4Of_c x t p s false hx64 HC.out _).mono ?_
      rintro e w1 ⟨rfl, hb1⟩
      have hz := hb1.size
      simp only [World.size_alloc] at hz
      have hk := (hrs.keep hb1).alloc (.cells #[.int .i64 t, .int .i64 p, .int .i64 s] 23)
      have hc3 := (Held.new w1 23 #[.int .i64 t, .int .i64 p, .int .i64 s]).three
      go_wp2_with fail
      refine wp_region_held_drew (S := (fun w' => w'.cell? ⟨w1.heap.size, 0, none⟩ = some (.int .i64 t) ∧ w'.cell? ⟨w1.heap.size, 1, none⟩ = some (.int .i64 p) ∧ w'.cell? ⟨w1.heap.size, 2, none⟩ = some (.int .i64 s))) (by kernel_rfl) ?_ (fun hHeld => ?_)
      · (try dsimp only)
        (first | exact hc3 | go_keep | exact ⟨hst _ _ (by assumption), hst _ _ (by assumption), hst _ _ (by assumption)⟩)
      refine wpAnyH_take (i := 0) (oi := _) (v := ?_) rfl (by kernel_rfl) (by kernel_rfl) (by kernel_rfl) (fun _ _ _ h => h) (Or.inl ⟨by rfl, ?_⟩) (by assumption) ?_
      rotate_left
      · intro w hSw; (try dsimp only at hSw); go_simp; (try with_reducible rfl)
      (try simp only [Act.put, List.getElem_toArray, List.getElem_cons_zero, List.getElem_cons_succ, List.setIfInBounds_toArray, List.set_cons_zero, List.set_cons_succ])
      refine wpAnyH_take (i := 1) (oi := _) (v := ?_) rfl (by kernel_rfl) (by kernel_rfl) (by kernel_rfl) (fun _ _ _ h => h) (Or.inl ⟨by rfl, ?_⟩) (by assumption) ?_
      rotate_left
      · intro w hSw; (try dsimp only at hSw); go_simp; (try with_reducible rfl)
      (try simp only [Act.put, List.getElem_toArray, List.getElem_cons_zero, List.getElem_cons_succ, List.setIfInBounds_toArray, List.set_cons_zero, List.set_cons_succ])
      refine wpAnyH_take (i := 2) (oi := _) (v := ?_) rfl (by kernel_rfl) (by kernel_rfl) (by kernel_rfl) (fun _ _ _ h => h) (Or.inl ⟨by rfl, ?_⟩) (by assumption) ?_
      rotate_left
      · intro w hSw; (try dsimp only at hSw); go_simp; (try with_reducible rfl)
      (try simp only [Act.put, List.getElem_toArray, List.getElem_cons_zero, List.getElem_cons_succ, List.setIfInBounds_toArray, List.set_cons_zero, List.set_cons_succ])
      refine wpAnyH_take (i := 3) (oi := _) (v := undef) rfl (by kernel_rfl) (by kernel_rfl) (by kernel_rfl) (fun _ _ _ h => h) (Or.inr ⟨by rfl, rfl⟩) (by assumption) ?_
      (try simp only [Act.put, List.getElem_toArray, List.getElem_cons_zero, List.getElem_cons_succ, List.setIfInBounds_toArray, List.set_cons_zero, List.set_cons_succ])
      refine wpAnyH_take (i := 4) (oi := _) (v := undef) rfl (by kernel_rfl) (by kernel_rfl) (by kernel_rfl) (fun _ _ _ h => h) (Or.inr ⟨by rfl, rfl⟩) (by assumption) ?_
      (try simp only [Act.put, List.getElem_toArray, List.getElem_cons_zero, List.getElem_cons_succ, List.setIfInBounds_toArray, List.set_cons_zero, List.set_cons_succ])
      refine wpAnyH_take (i := 5) (oi := _) (v := undef) rfl (by kernel_rfl) (by kernel_rfl) (by kernel_rfl) (fun _ _ _ h => h) (Or.inr ⟨by rfl, rfl⟩) (by assumption) ?_
      (try simp only [Act.put, List.getElem_toArray, List.getElem_cons_zero, List.getElem_cons_succ, List.setIfInBounds_toArray, List.set_cons_zero, List.set_cons_succ])
      refine wpAnyH_take (i := 6) (oi := _) (v := undef) rfl (by kernel_rfl) (by kernel_rfl) (by kernel_rfl) (fun _ _ _ h => h) (Or.inr ⟨by rfl, rfl⟩) (by assumption) ?_
      (try simp only [Act.put, List.getElem_toArray, List.getElem_cons_zero, List.getElem_cons_succ, List.setIfInBounds_toArray, List.set_cons_zero, List.set_cons_succ])
      refine wpAnyH_take (i := 7) (oi := _) (v := undef) rfl (by kernel_rfl) (by kernel_rfl) (by kernel_rfl) (fun _ _ _ h => h) (Or.inr ⟨by rfl, rfl⟩) (by assumption) ?_
      (try simp only [Act.put, List.getElem_toArray, List.getElem_cons_zero, List.getElem_cons_succ, List.setIfInBounds_toArray, List.set_cons_zero, List.set_cons_succ])
      refine wpAnyH_take (i := 8) (oi := _) (v := undef) rfl (by kernel_rfl) (by kernel_rfl) (by kernel_rfl) (fun _ _ _ h => h) (Or.inr ⟨by rfl, rfl⟩) (by assumption) ?_
      (try simp only [Act.put, List.getElem_toArray, List.getElem_cons_zero, List.getElem_cons_succ, List.setIfInBounds_toArray, List.set_cons_zero, List.set_cons_succ])
      refine wpAnyH_take (i := 9) (oi := _) (v := ?_) rfl (by kernel_rfl) (by kernel_rfl) (by kernel_rfl) (fun _ _ _ h => h) (Or.inl ⟨by rfl, ?_⟩) (by assumption) ?_
      rotate_left
      · intro w hSw; (try dsimp only at hSw); go_simp; (try with_reducible rfl)
      (try simp only [Act.put, List.getElem_toArray, List.getElem_cons_zero, List.getElem_cons_succ, List.setIfInBounds_toArray, List.set_cons_zero, List.set_cons_succ])
      refine wpAnyH_done (by kernel_rfl) ?_ _
      obtain ⟨k0, k1, k2⟩ := hk.three
      have f0 := hk.thawed 0
      have f1 := hk.thawed 1
      have f2 := hk.thawed 2
      go_wp2
      obtain ⟨z0, z1, z2⟩ := (((hk.put 0 (.int .i64 0)).put 1 (.int .i64 0)).put 2 (.int .i64 0)).three
      refine bodyPost_ret (v := .tuple #[.agg #[.int .i64 0, .int .i64 0, .int .i64 0], .int .i64 9]) (by first | (simp [results, Try.results12, go_sem, k0, k1, k2]; done) | (simp [results, Try.results12, go_sem, z0, z1, z2]; done)) rfl ⟨rfl, ?_⟩
      (repeat (first | exact B0 _ | (with_reducible refine Below.setCell ?_ (by first | (simp; done) | (simp; omega)) _) | (with_reducible refine Bgo ?_ (by assumption)) | (with_reducible refine Bdrew ?_) | (with_reducible refine below_draws ?_ _) | (with_reducible refine Bnew ?_ _)))
    · have HG := hidp (confOf_right hco)
      obtain ⟨h, hh⟩ : ∃ h : Bool, decide (headL t p s = ws.take 8) = h := ⟨_, rfl⟩
      have HH := hidp hh
      cases h
      · obtain ⟨rfl, rfl, rfl, rfl⟩ : a = 0 ∧ b = 0 ∧ d = 0 ∧ k = 9 := by
          rw [if_neg (fun h => of_decide_eq_false hh (h.2.2.symm))] at HD1
          simp only [Prod.mk.injEq] at HD1
          omega
        clear HD1 hco hh
        generalize ws.getD 2 0 = x at *
        go_enter Try.func12, Try.ntmps12
        go_wp2_with fail
        refine (r4Of_c x t p s true hx64 HC.out _).mono ?_
        rintro e w1 ⟨rfl, hb1⟩
        have hz := hb1.size
        simp only [World.size_alloc] at hz
        have hk := (hrs.keep hb1).alloc (.cells #[.int .i64 t, .int .i64 p, .int .i64 s] 23)
        have HRT : Hid (Reads (w1.alloc (.cells #[.int .i64 t, .int .i64 p, .int .i64 s] 23)).drew (w1.alloc (.cells #[.int .i64 t, .int .i64 p, .int .i64 s] 23)).drew.heap.size 1 (some ad) 8 (wordVs (ws.take 8))) :=
          hidp (by
            have h1 := (HT.out.alloc (Nat.le_refl _) (.cells #[.int .i64 0, .int .i64 0, .int .i64 0] 23))
            rw [wordVs_take] at h1
            have h2 := h1.below (hb1.mono (by simp))
            have h3 := h2.alloc (by omega) (.cells #[.int .i64 t, .int .i64 p, .int .i64 s] 23)
            exact (h3.drewN 1).more (by simp; omega))
        have hc3 := (Held.new w1 23 #[.int .i64 t, .int .i64 p, .int .i64 s]).three
        have HE := hidp (encL_yes HG.out)
        go_wp2_with fail
        go_region_held3 (fun w' => w'.cell? ⟨w1.heap.size, 0, none⟩ = some (.int .i64 t) ∧ w'.cell? ⟨w1.heap.size, 1, none⟩ = some (.int .i64 p) ∧ w'.cell? ⟨w1.heap.size, 2, none⟩ = some (.int .i64 s))
          (first | exact hc3 | go_keep | exact ⟨hst _ _ (by assumption), hst _ _ (by assumption), hst _ _ (by assumption)⟩)
          (first
            | (go_at_call 9; refine (r8Encode_c t p s _).mono ?_; rintro e w2 ⟨u, rfl, hown, hb2⟩; rw [HE.out, headL_len] at hown; obtain ⟨g, cap, rfl, hg1, hg2⟩ := hown.form (by omega); have hst := cells_stay hb2)
            | (go_at_call 7; refine (Words_c (headL t p s) (ws.take 8) 8 8 (hidp (headL_len t p s)) HT8 _ _ _ _ (by unfold maxLen; omega) (by unfold maxLen; omega) _ _ _ (hidp (Reads.of_own hown)) (hidp (HRT.out.below hb2))).mono ?_; rintro e w3 ⟨rfl, n3, rfl⟩; rw [HH.out]; clear hst; have hst : ∀ (p : Addr) (u : Value), w2.cell? p = some u → (w2.drewN n3).cell? p = some u := fun _ _ h => h))
        have hk2 := ((hk.drewN 1).keep hb2).drewN n3
        have hz2 := hb2.size
        simp at hz2
        rename_i hH3
        obtain ⟨c30, c31, c32⟩ := hH3
        obtain ⟨k0, k1, k2⟩ := hk2.three
        have f0 := hk2.thawed 0
        have f1 := hk2.thawed 1
        have f2 := hk2.thawed 2
        go_wp2
        obtain ⟨z0, z1, z2⟩ := (((hk2.put 0 (.int .i64 0)).put 1 (.int .i64 0)).put 2 (.int .i64 0)).three
        refine bodyPost_ret (v := .tuple #[.agg #[.int .i64 0, .int .i64 0, .int .i64 0], .int .i64 9]) (by first | (simp [results, Try.results12, go_sem, k0, k1, k2]; done) | (simp [results, Try.results12, go_sem, z0, z1, z2]; done)) rfl ⟨rfl, ?_⟩
        (repeat (first | exact B0 _ | (with_reducible refine Below.setCell ?_ (by first | (simp; done) | (simp; omega)) _) | (with_reducible refine Bgo ?_ (by assumption)) | (with_reducible refine Bdrew ?_) | (with_reducible refine below_draws ?_ _) | (with_reducible refine Bnew ?_ _)))
      · obtain ⟨rfl, rfl, rfl, rfl⟩ : a = t ∧ b = p ∧ d = s ∧ k = 0 := by
          rw [if_pos ⟨H8.out, rfl, (fun h => h.symm) (of_decide_eq_true hh)⟩] at HD1
          simp only [Prod.mk.injEq] at HD1
          omega
        clear HD1 hco hh
        generalize ws.getD 2 0 = x at *
        go_enter Try.func12, Try.ntmps12
        go_wp2_with fail
        refine (r4Of_c x a b d true hx64 HC.out _).mono ?_
        rintro e w1 ⟨rfl, hb1⟩
        have hz := hb1.size
        simp only [World.size_alloc] at hz
        have hk := (hrs.keep hb1).alloc (.cells #[.int .i64 a, .int .i64 b, .int .i64 d] 23)
        have HRT : Hid (Reads (w1.alloc (.cells #[.int .i64 a, .int .i64 b, .int .i64 d] 23)).drew (w1.alloc (.cells #[.int .i64 a, .int .i64 b, .int .i64 d] 23)).drew.heap.size 1 (some ad) 8 (wordVs (ws.take 8))) :=
          hidp (by
            have h1 := (HT.out.alloc (Nat.le_refl _) (.cells #[.int .i64 0, .int .i64 0, .int .i64 0] 23))
            rw [wordVs_take] at h1
            have h2 := h1.below (hb1.mono (by simp))
            have h3 := h2.alloc (by omega) (.cells #[.int .i64 a, .int .i64 b, .int .i64 d] 23)
            exact (h3.drewN 1).more (by simp; omega))
        have hc3 := (Held.new w1 23 #[.int .i64 a, .int .i64 b, .int .i64 d]).three
        have HE := hidp (encL_yes HG.out)
        go_wp2_with fail
        go_region_held3 (fun w' => w'.cell? ⟨w1.heap.size, 0, none⟩ = some (.int .i64 a) ∧ w'.cell? ⟨w1.heap.size, 1, none⟩ = some (.int .i64 b) ∧ w'.cell? ⟨w1.heap.size, 2, none⟩ = some (.int .i64 d))
          (first | exact hc3 | go_keep | exact ⟨hst _ _ (by assumption), hst _ _ (by assumption), hst _ _ (by assumption)⟩)
          (first
            | (go_at_call 9; refine (r8Encode_c a b d _).mono ?_; rintro e w2 ⟨u, rfl, hown, hb2⟩; rw [HE.out, headL_len] at hown; obtain ⟨g, cap, rfl, hg1, hg2⟩ := hown.form (by omega); have hst := cells_stay hb2)
            | (go_at_call 7; refine (Words_c (headL a b d) (ws.take 8) 8 8 (hidp (headL_len a b d)) HT8 _ _ _ _ (by unfold maxLen; omega) (by unfold maxLen; omega) _ _ _ (hidp (Reads.of_own hown)) (hidp (HRT.out.below hb2))).mono ?_; rintro e w3 ⟨rfl, n3, rfl⟩; rw [HH.out]; clear hst; have hst : ∀ (p : Addr) (u : Value), w2.cell? p = some u → (w2.drewN n3).cell? p = some u := fun _ _ h => h))
        have hk2 := ((hk.drewN 1).keep hb2).drewN n3
        have hz2 := hb2.size
        simp at hz2
        rename_i hH3
        obtain ⟨c30, c31, c32⟩ := hH3
        obtain ⟨k0, k1, k2⟩ := hk2.three
        have f0 := hk2.thawed 0
        have f1 := hk2.thawed 1
        have f2 := hk2.thawed 2
        go_wp2
        obtain ⟨z0, z1, z2⟩ := (((hk2.put 0 (.int .i64 a)).put 1 (.int .i64 b)).put 2 (.int .i64 d)).three
        refine bodyPost_ret (v := .tuple #[.agg #[.int .i64 a, .int .i64 b, .int .i64 d], .int .i64 0]) (by first | (simp [results, Try.results12, go_sem, k0, k1, k2]; done) | (simp [results, Try.results12, go_sem, z0, z1, z2]; done)) rfl ⟨rfl, ?_⟩
        (repeat (first | exact B0 _ | (with_reducible refine Below.setCell ?_ (by first | (simp; done) | (simp; omega)) _) | (with_reducible refine Bgo ?_ (by assumption)) | (with_reducible refine Bdrew ?_) | (with_reducible refine below_draws ?_ _) | (with_reducible refine Bnew ?_ _)))

end Go.Proofs.Ytdhpjlbcldcfjaa
