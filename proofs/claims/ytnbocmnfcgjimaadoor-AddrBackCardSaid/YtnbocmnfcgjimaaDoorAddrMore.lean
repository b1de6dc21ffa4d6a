/-
  Contracts of addr's pages, slots and numbers of pages.
-/
import Derived.Test.YtnbocmnfcgjimaaDoorAddr
import Derived.BigQuiet
namespace Go.Proofs.YtnbocmnfcgjimaaDoor
open Go.ChangeShapes Go.WideShapes Go.ChangeAt Go.RowKit
set_option linter.unusedVariables false
set_option linter.unusedSimpArgs false

set_option maxHeartbeats 1600000 in
theorem adPage_c (t p s a : Int) (h0 : -9223372036854775808 ≤ a) (h1 : a ≤ 9223372036854775807) (w : World) :
    Calls Tryd.prog 9 #[.agg #[.int .i64 t, .int .i64 p, .int .i64 s], .int .i64 a] w fun e w' => e = .returned (.tuple #[.int .i64 (spotP t p s a), .int .i64 (spotO t p s a), .bool (spotB t p s a)]) ∧ Below w.heap.size w w' := by
  go_enter Tryd.func9, Tryd.ntmps9
  go_wp2_with fail
  refine (adSpotOf_c t p s a h0 h1 _).mono ?_
  rintro e w1 ⟨rfl, hb1⟩
  go_wp2
  go_region
  all_goals
    go_wp2
    refine bodyPost_ret (v := .tuple #[.int .i64 (spotP t p s a), .int .i64 (spotO t p s a), .bool (spotB t p s a)]) (by simp [results, Tryd.results9, go_sem]) rfl ⟨rfl, ?_⟩
    repeat (first | exact B0 _ | (with_reducible refine Bgo ?_ (by assumption)) | (with_reducible refine Bdrew ?_) | (with_reducible refine Bdraw ?_ _) | (with_reducible refine Bnew ?_ _) | (with_reducible refine Bput ?_ (by first | (simp; done) | (simp; omega)) _))

set_option maxHeartbeats 3200000 in
theorem adSlot_c (t p s k o : Int) (hk0 : -9223372036854775808 ≤ k) (hk1 : k ≤ 9223372036854775807) (ho0 : -9223372036854775808 ≤ o) (ho1 : o ≤ 9223372036854775807) (w : World) (hT : SlotsLaid w) :
    Calls Tryd.prog 14 #[.agg #[.int .i64 t, .int .i64 p, .int .i64 s], .int .i64 k, .int .i64 o] w fun e w' => e = .returned (.tuple #[.int .i64 (slotR t p s k o), .bool (slotB t p s k o)]) ∧ Below w.heap.size w w' := by
  have HT := hidp hT
  have hc := Held.new w 23 #[.int .i64 t, .int .i64 p, .int .i64 s]
  clear hT
  obtain ⟨z, hz⟩ : ∃ z, sizeN s k = z := ⟨_, rfl⟩
  obtain ⟨n, hn⟩ : ∃ n, slotI k = n := ⟨_, rfl⟩
  have hz2 := hz ▸ sizeN_le s k
  have hn2 := hn ▸ slotI_le k
  have hE : slotB t p s k o = (rightB t p s && decide (0 < z ∧ 0 ≤ o ∧ o % (z : Int) = 0 ∧ o / (z : Int) < (n : Int))) := by unfold slotB; rw [hz, hn]
  have HZ := hidp hz
  have HN := hidp hn
  cases hr : rightB t p s
  · have HK := hidp (check_no hr)
    have hB : slotB t p s k o = false := by rw [hE, hr]; rfl
    have HR := hidp (slotR_no hB)
    have HB := hidp hB
    clear hz hn hE hr hB
    go_enter Tryd.func14, Tryd.ntmps14
    go_wp2_with fail
    refine (clSize_c s k hk0 hk1 _ (HT.out.alloc _)).mono ?_
    rintro e w1 ⟨rfl, hb1⟩
    rw [HZ.out]
    have hc1 := hc.keep hb1
    have HT1 := hidp ((HT.out.alloc _).below hb1)
    have c3 := hc1.three
    go_wp2_with fail
    refine (cfCheck_c t p s _).mono ?_
    rintro e w2 ⟨rfl, hb2⟩
    rw [HK.out]
    go_wp2
    go_ret2
    refine ⟨by rw [HR.out, HB.out]; rfl, ?_⟩
    repeat (first | exact B0 _ | (with_reducible refine Bgo ?_ (by assumption)) | (with_reducible refine Bdrew ?_) | (with_reducible refine Bdraw ?_ _) | (with_reducible refine Bnew ?_ _) | (with_reducible refine Bput ?_ (by first | (simp; done) | (simp; omega)) _))
  · have HK := hidp (check_yes hr)
    rw [hr, Bool.true_and] at hE
    clear hr
    by_cases c1 : z = 0
    · have hB : slotB t p s k o = false := by rw [hE, decide_eq_false_iff_not]; omega
      have HR := hidp (slotR_no hB)
      have HB := hidp hB
      subst c1
      clear hz hn hE hB
      go_enter Tryd.func14, Tryd.ntmps14
      go_wp2_with fail
      refine (clSize_c s k hk0 hk1 _ (HT.out.alloc _)).mono ?_
      rintro e w1 ⟨rfl, hb1⟩
      rw [HZ.out]
      have hc1 := hc.keep hb1
      have HT1 := hidp ((HT.out.alloc _).below hb1)
      have c3 := hc1.three
      go_wp2_with fail
      refine (cfCheck_c t p s _).mono ?_
      rintro e w2 ⟨rfl, hb2⟩
      rw [HK.out]
      go_wp2
      go_ret2
      refine ⟨by rw [HR.out, HB.out]; rfl, ?_⟩
      repeat (first | exact B0 _ | (with_reducible refine Bgo ?_ (by assumption)) | (with_reducible refine Bdrew ?_) | (with_reducible refine Bdraw ?_ _) | (with_reducible refine Bnew ?_ _) | (with_reducible refine Bput ?_ (by first | (simp; done) | (simp; omega)) _))
    · have z1 : ((z : Int) == 0) = false := by simpa using c1
      by_cases c2 : o < 0
      · have hB : slotB t p s k o = false := by rw [hE, decide_eq_false_iff_not]; omega
        have HR := hidp (slotR_no hB)
        have HB := hidp hB
        clear hz hn hE hB
        go_enter Tryd.func14, Tryd.ntmps14
        go_wp2_with fail
        refine (clSize_c s k hk0 hk1 _ (HT.out.alloc _)).mono ?_
        rintro e w1 ⟨rfl, hb1⟩
        rw [HZ.out]
        have hc1 := hc.keep hb1
        have HT1 := hidp ((HT.out.alloc _).below hb1)
        have c3 := hc1.three
        go_wp2_with fail
        refine (cfCheck_c t p s _).mono ?_
        rintro e w2 ⟨rfl, hb2⟩
        rw [HK.out]
        go_wp2
        go_ret2
        refine ⟨by rw [HR.out, HB.out]; rfl, ?_⟩
        repeat (first | exact B0 _ | (with_reducible refine Bgo ?_ (by assumption)) | (with_reducible refine Bdrew ?_) | (with_reducible refine Bdraw ?_ _) | (with_reducible refine Bnew ?_ _) | (with_reducible refine Bput ?_ (by first | (simp; done) | (simp; omega)) _))
      · have q1 : o.tdiv (z : Int) = o / (z : Int) := Int.tdiv_eq_ediv_of_nonneg (by omega)
        have q2 : o.tmod (z : Int) = o % (z : Int) := Int.tmod_eq_emod_of_nonneg (by omega)
        have m0 := Int.emod_nonneg o (show (z : Int) ≠ 0 by omega)
        have m1 := Int.emod_lt_of_pos o (show (0 : Int) < z by omega)
        have d0 := Int.ediv_nonneg (a := o) (b := (z : Int)) (by omega) (by omega)
        have d1 : o / (z : Int) ≤ o := Int.ediv_le_self _ (by omega)
        have hRR : slotB t p s k o = true → slotR t p s k o = o / (z : Int) := fun h => by unfold slotR; rw [if_pos h, hz]
        obtain ⟨d, hd⟩ : ∃ d, o / (z : Int) = d := ⟨_, rfl⟩
        obtain ⟨m, hm⟩ : ∃ m, o % (z : Int) = m := ⟨_, rfl⟩
        rw [hd] at q1 d0 d1 hE hRR
        rw [hm] at q2 m0 m1 hE
        by_cases c3 : m = 0
        · have m3 : (m != 0) = false := by simpa using c3
          by_cases c4 : d < (n : Int)
          · have hB : slotB t p s k o = true := by rw [hE, decide_eq_true_iff]; omega
            have HR := hidp (hRR hB)
            have HB := hidp hB
            clear hz hn hE hB hRR hd hm
            go_enter Tryd.func14, Tryd.ntmps14
            go_wp2_with fail
            refine (clSize_c s k hk0 hk1 _ (HT.out.alloc _)).mono ?_
            rintro e w1 ⟨rfl, hb1⟩
            rw [HZ.out]
            have hc1 := hc.keep hb1
            have HT1 := hidp ((HT.out.alloc _).below hb1)
            have c3 := hc1.three
            go_wp2_with fail
            refine (cfCheck_c t p s _).mono ?_
            rintro e w2 ⟨rfl, hb2⟩
            rw [HK.out]
            have HT2 := hidp (HT1.out.below hb2)
            go_wp2_with fail
            refine (clSlots_c k hk0 hk1 _ HT2.out).mono ?_
            rintro e w3 ⟨rfl, rfl⟩
            rw [HN.out]
            go_wp2
            go_ret2
            refine ⟨by rw [HR.out, HB.out]; rfl, ?_⟩
            repeat (first | exact B0 _ | (with_reducible refine Bgo ?_ (by assumption)) | (with_reducible refine Bdrew ?_) | (with_reducible refine Bdraw ?_ _) | (with_reducible refine Bnew ?_ _) | (with_reducible refine Bput ?_ (by first | (simp; done) | (simp; omega)) _))
          · have hB : slotB t p s k o = false := by rw [hE, decide_eq_false_iff_not]; omega
            have HR := hidp (slotR_no hB)
            have HB := hidp hB
            clear hz hn hE hB hRR hd hm
            go_enter Tryd.func14, Tryd.ntmps14
            go_wp2_with fail
            refine (clSize_c s k hk0 hk1 _ (HT.out.alloc _)).mono ?_
            rintro e w1 ⟨rfl, hb1⟩
            rw [HZ.out]
            have hc1 := hc.keep hb1
            have HT1 := hidp ((HT.out.alloc _).below hb1)
            have c3 := hc1.three
            go_wp2_with fail
            refine (cfCheck_c t p s _).mono ?_
            rintro e w2 ⟨rfl, hb2⟩
            rw [HK.out]
            have HT2 := hidp (HT1.out.below hb2)
            go_wp2_with fail
            refine (clSlots_c k hk0 hk1 _ HT2.out).mono ?_
            rintro e w3 ⟨rfl, rfl⟩
            rw [HN.out]
            go_wp2
            go_ret2
            refine ⟨by rw [HR.out, HB.out]; rfl, ?_⟩
            repeat (first | exact B0 _ | (with_reducible refine Bgo ?_ (by assumption)) | (with_reducible refine Bdrew ?_) | (with_reducible refine Bdraw ?_ _) | (with_reducible refine Bnew ?_ _) | (with_reducible refine Bput ?_ (by first | (simp; done) | (simp; omega)) _))
        · have m3 : (m != 0) = true := by simpa using c3
          have hB : slotB t p s k o = false := by rw [hE, decide_eq_false_iff_not]; omega
          have HR := hidp (slotR_no hB)
          have HB := hidp hB
          clear hz hn hE hB hRR hd hm
          go_enter Tryd.func14, Tryd.ntmps14
          go_wp2_with fail
          refine (clSize_c s k hk0 hk1 _ (HT.out.alloc _)).mono ?_
          rintro e w1 ⟨rfl, hb1⟩
          rw [HZ.out]
          have hc1 := hc.keep hb1
          have HT1 := hidp ((HT.out.alloc _).below hb1)
          have c3 := hc1.three
          go_wp2_with fail
          refine (cfCheck_c t p s _).mono ?_
          rintro e w2 ⟨rfl, hb2⟩
          rw [HK.out]
          go_wp2
          go_ret2
          refine ⟨by rw [HR.out, HB.out]; rfl, ?_⟩
          repeat (first | exact B0 _ | (with_reducible refine Bgo ?_ (by assumption)) | (with_reducible refine Bdrew ?_) | (with_reducible refine Bdraw ?_ _) | (with_reducible refine Bnew ?_ _) | (with_reducible refine Bput ?_ (by first | (simp; done) | (simp; omega)) _))

set_option maxHeartbeats 3200000 in
theorem adAt_c (t p s k i j : Int) (hk0 : -9223372036854775808 ≤ k) (hk1 : k ≤ 9223372036854775807) (w : World) (hT : SlotsLaid w) :
    Calls Tryd.prog 12 #[.agg #[.int .i64 t, .int .i64 p, .int .i64 s], .int .i64 k, .int .i64 i, .int .i64 j] w fun e w' => e = .returned (.tuple #[.int .i64 (atI t p s k i j), .bool (atB t p s k i j)]) ∧ Below w.heap.size w w' := by
  have HT := hidp hT
  have hc := Held.new w 23 #[.int .i64 t, .int .i64 p, .int .i64 s]
  clear hT
  obtain ⟨n, hn⟩ : ∃ n, slotI k = n := ⟨_, rfl⟩
  have hn2 := hn ▸ slotI_le k
  have HN := hidp hn
  by_cases c1 : j < 0
  · have HB := hidp (at_out (t := t) (p := p) (s := s) (k := k) (i := i) (j := j) (by omega))
    clear hn
    go_enter Tryd.func12, Tryd.ntmps12
    go_wp2
    go_ret2
    refine ⟨by rw [HB.out.1, HB.out.2]; rfl, ?_⟩
    repeat (first | exact B0 _ | (with_reducible refine Bgo ?_ (by assumption)) | (with_reducible refine Bdrew ?_) | (with_reducible refine Bdraw ?_ _) | (with_reducible refine Bnew ?_ _) | (with_reducible refine Bput ?_ (by first | (simp; done) | (simp; omega)) _))
  · by_cases c2 : j < (n : Int)
    · obtain ⟨z, hz⟩ : ∃ z, sizeN s k = z := ⟨_, rfl⟩
      have hz2 := hz ▸ sizeN_le s k
      have h3 : j * (z : Int) ≤ 32 * 1048576 := Int.mul_le_mul (by omega) (by omega) (by omega) (by omega)
      have h4 : 0 ≤ j * (z : Int) := Int.mul_nonneg (by omega) (by omega)
      have hA := at_in (t := t) (p := p) (s := s) (k := k) (i := i) (j := j) (by omega)
      rw [hz] at hA
      obtain ⟨y, hy⟩ : ∃ y, j * (z : Int) = y := ⟨_, rfl⟩
      rw [hy] at h3 h4 hA
      have HA := hidp hA
      have HY := hidp hy
      have HZ := hidp hz
      have HWR := hidp (i64_same (x := y) (by omega) (by omega))
      clear hz hy hA hn
      go_enter Tryd.func12, Tryd.ntmps12
      go_wp2_with fail
      refine (clSlots_c k hk0 hk1 _ (HT.out.alloc _)).mono ?_
      rintro e w1 ⟨rfl, rfl⟩
      rw [HN.out]
      have HT1 := hidp (HT.out.alloc (.cells #[.int .i64 t, .int .i64 p, .int .i64 s] 23))
      have c3 := hc.three
      go_wp2_with fail
      go_region_held3 (fun w' => w'.cell? ⟨w.heap.size, 0, none⟩ = some (.int .i64 t) ∧ w'.cell? ⟨w.heap.size, 1, none⟩ = some (.int .i64 p) ∧ w'.cell? ⟨w.heap.size, 2, none⟩ = some (.int .i64 s))
        (first | exact ⟨c3.1, c3.2.1, c3.2.2⟩ | go_keep | exact ⟨hst _ _ (by assumption), hst _ _ (by assumption), hst _ _ (by assumption)⟩)
        (first
          | (go_at_call 25; refine (clSize_c s k hk0 hk1 _ (HT1.out.drewN _)).mono ?_; rintro e w' ⟨rfl, hbl⟩; rw [HZ.out]; have hst := cells_stay hbl)
          | (go_at_call 7; rw [HY.out, HWR.out]; refine (adOf_c t p s i y _).mono ?_; rintro e w'' ⟨rfl, hbl2⟩; have hst := cells_stay hbl2))
      go_wp2
      go_ret2
      refine ⟨by rw [HA.out.1, HA.out.2]; rfl, ?_⟩
      repeat (first | exact B0 _ | (with_reducible refine Bgo ?_ (by assumption)) | (with_reducible refine Bdrew ?_) | (with_reducible refine Bdraw ?_ _) | (with_reducible refine Bnew ?_ _) | (with_reducible refine Bput ?_ (by first | (simp; done) | (simp; omega)) _))
    · have HB := hidp (at_out (t := t) (p := p) (s := s) (k := k) (i := i) (j := j) (by omega))
      clear hn
      go_enter Tryd.func12, Tryd.ntmps12
      go_wp2_with fail
      refine (clSlots_c k hk0 hk1 _ (HT.out.alloc _)).mono ?_
      rintro e w1 ⟨rfl, rfl⟩
      rw [HN.out]
      go_wp2
      go_ret2
      refine ⟨by rw [HB.out.1, HB.out.2]; rfl, ?_⟩
      repeat (first | exact B0 _ | (with_reducible refine Bgo ?_ (by assumption)) | (with_reducible refine Bdrew ?_) | (with_reducible refine Bdraw ?_ _) | (with_reducible refine Bnew ?_ _) | (with_reducible refine Bput ?_ (by first | (simp; done) | (simp; omega)) _))

set_option maxHeartbeats 1600000 in
theorem adPages_c (t p s n : Int) (h0 : -9223372036854775808 ≤ n) (h1 : n ≤ 9223372036854775807) (w : World) :
    Calls Tryd.prog 16 #[.agg #[.int .i64 t, .int .i64 p, .int .i64 s], .int .i64 n] w fun e w' => e = .returned (.tuple #[.int .i64 (needI t p s n), .bool (needB t p s n)]) ∧ Below w.heap.size w w' := by
  have hc := Held.new w 23 #[.int .i64 t, .int .i64 p, .int .i64 s]
  obtain ⟨b, hb⟩ : ∃ b, bytesN t p s = b := ⟨_, rfl⟩
  have b2 := hb ▸ bytes_le t p s
  have hE : needB t p s n = decide (1 ≤ n ∧ n ≤ (b : Int)) := by unfold needB; rw [hb]
  have HB := hidp hb
  by_cases c1 : n < 1
  · have hN : needB t p s n = false := by rw [hE, decide_eq_false_iff_not]; omega
    have HN := hidp hN
    have HZ := hidp (need_no hN)
    clear hb hE hN
    go_enter Tryd.func16, Tryd.ntmps16
    go_wp2
    go_ret2
    refine ⟨by rw [HN.out, HZ.out]; rfl, ?_⟩
    repeat (first | exact B0 _ | (with_reducible refine Bgo ?_ (by assumption)) | (with_reducible refine Bdrew ?_) | (with_reducible refine Bdraw ?_ _) | (with_reducible refine Bnew ?_ _) | (with_reducible refine Bput ?_ (by first | (simp; done) | (simp; omega)) _))
  · by_cases c2 : n ≤ (b : Int)
    · have hN : needB t p s n = true := by rw [hE, decide_eq_true_iff]; omega
      obtain ⟨g, hg, g1, g2⟩ := bytes_pos hb (by omega)
      have hI : needI t p s n = (n + g - 1) / (g : Int) := by unfold needI; rw [if_pos hN, hg]
      have q1 : (n + g - 1).tdiv (g : Int) = (n + g - 1) / (g : Int) := Int.tdiv_eq_ediv_of_nonneg (by omega)
      have d0 := Int.ediv_nonneg (a := n + g - 1) (b := (g : Int)) (by omega) (by omega)
      have d1 : (n + g - 1) / (g : Int) ≤ n + g - 1 := Int.ediv_le_self _ (by omega)
      obtain ⟨d, hd⟩ : ∃ d, (n + g - 1) / (g : Int) = d := ⟨_, rfl⟩
      rw [hd] at q1 d0 d1 hI
      have HN := hidp hN
      have HI := hidp hI
      have HG := hidp hg
      have g3 : ¬ g = 0 := by omega
      have g4 : ((g : Int) == 0) = false := by simp; omega
      clear hb hE hN hI hg hd
      go_enter Tryd.func16, Tryd.ntmps16
      go_wp2_with fail
      refine (cfBytes_c t p s _).mono ?_
      rintro e w1 ⟨rfl, hb1⟩
      rw [HB.out]
      have c3 := (hc.keep hb1).three
      go_wp2_with fail
      refine (cfPage_c t p s _).mono ?_
      rintro e w2 ⟨rfl, hb2⟩
      rw [HG.out]
      go_wp2
      go_ret2
      refine ⟨by rw [HN.out, HI.out]; rfl, ?_⟩
      repeat (first | exact B0 _ | (with_reducible refine Bgo ?_ (by assumption)) | (with_reducible refine Bdrew ?_) | (with_reducible refine Bdraw ?_ _) | (with_reducible refine Bnew ?_ _) | (with_reducible refine Bput ?_ (by first | (simp; done) | (simp; omega)) _))
    · have hN : needB t p s n = false := by rw [hE, decide_eq_false_iff_not]; omega
      have HN := hidp hN
      have HZ := hidp (need_no hN)
      clear hb hE hN
      go_enter Tryd.func16, Tryd.ntmps16
      go_wp2_with fail
      refine (cfBytes_c t p s _).mono ?_
      rintro e w1 ⟨rfl, hb1⟩
      rw [HB.out]
      go_wp2
      go_ret2
      refine ⟨by rw [HN.out, HZ.out]; rfl, ?_⟩
      repeat (first | exact B0 _ | (with_reducible refine Bgo ?_ (by assumption)) | (with_reducible refine Bdrew ?_) | (with_reducible refine Bdraw ?_ _) | (with_reducible refine Bnew ?_ _) | (with_reducible refine Bput ?_ (by first | (simp; done) | (simp; omega)) _))

end Go.Proofs.YtnbocmnfcgjimaaDoor
