/-
  Contracts of addr's pages, slots and numbers of pages.
-/
import Derived.Test.YtbaofpdjfoaiiaaDoorAddr
import Derived.BigQuiet
namespace Go.Proofs.YtbaofpdjfoaiiaaDoor
open Go.ChangeShapes Go.WideShapes Go.ChangeAt Go.RowKit
set_option linter.unusedVariables false
set_option linter.unusedSimpArgs false

set_option maxHeartbeats 1600000 in
theorem adPage_c (t p s a : Int) (h0 : -9223372036854775808 ≤ a) (h1 : a ≤ 9223372036854775807) (w : World) :
    Calls Tryd.prog 65 #[.agg #[.int .i64 t, .int .i64 p, .int .i64 s], .int .i64 a] w fun e w' => e = .returned (.tuple #[.int .i64 (spotP t p s a), .int .i64 (spotO t p s a), .bool (spotB t p s a)]) ∧ Below w.heap.size w w' := by
  go_enter Tryd.func65, Tryd.ntmps65
  go_wp2_with fail
  refine (adSpotOf_c t p s a h0 h1 _).mono ?_
  rintro e w1 ⟨rfl, hb1⟩
  go_wp2
  go_region
  all_goals
    go_wp2
    refine bodyPost_ret (v := .tuple #[.int .i64 (spotP t p s a), .int .i64 (spotO t p s a), .bool (spotB t p s a)]) (by simp [results, Tryd.results65, go_sem]) rfl ⟨rfl, ?_⟩
    repeat (first | exact B0 _ | (with_reducible refine Bgo ?_ (by assumption)) | (with_reducible refine Bdrew ?_) | (with_reducible refine Bdraw ?_ _) | (with_reducible refine Bnew ?_ _) | (with_reducible refine Bput ?_ (by first | (simp; done) | (simp; omega)) _))

set_option maxHeartbeats 3200000 in
theorem adSlot_c (t p s k o : Int) (hk0 : -9223372036854775808 ≤ k) (hk1 : k ≤ 9223372036854775807) (ho0 : -9223372036854775808 ≤ o) (ho1 : o ≤ 9223372036854775807) (w : World) (hT : SlotsLaid w) :
    Calls Tryd.prog 66 #[.agg #[.int .i64 t, .int .i64 p, .int .i64 s], .int .i64 k, .int .i64 o] w fun e w' => e = .returned (.tuple #[.int .i64 (slotR t p s k o), .bool (slotB t p s k o)]) ∧ Below w.heap.size w w' := by
  have HT := hidp hT
  have hc := Held.new w 23 #[.int .i64 t, .int .i64 p, .int .i64 s]
  clear hT
  obtain ⟨z, hz⟩ : ∃ z, sizeN s k = z := ⟨_, rfl⟩
  obtain ⟨n, hn⟩ : ∃ n, slotI k = n := ⟨_, rfl⟩
  have hz2 := hz ▸ sizeN_le s k
  have hn2 := hn ▸ slotI_le k
  have hE : slotB t p s k o = (rightB t p s && decide (0 < z ∧ 0 ≤ o ∧ o % (z : Int) = 0 ∧ o / (z : Int) < (n : Int))) := by unfold slotB; rw [hz, hn]
  have HZ := hidp hz
  have HN := hidp hn
  cases hr : rightB t p s
  · have HK := hidp (check_no hr)
    have hB : slotB t p s k o = false := by rw [hE, hr]; rfl
    have HR := hidp (slotR_no hB)
    have HB := hidp hB
    clear hz hn hE hr hB
    go_enter Tryd.func66, Tryd.ntmps66
    go_wp2_with fail
    refine (clSize_c s k hk0 hk1 _ (HT.out.alloc _)).mono ?_
    rintro e w1 ⟨rfl, hb1⟩
    rw [HZ.out]
    have hc1 := hc.keep hb1
    have HT1 := hidp ((HT.out.alloc _).below hb1)
    have c3 := hc1.three
    go_wp2_with fail
    refine (cfCheck_c t p s _).mono ?_
    rintro e w2 ⟨rfl, hb2⟩
    rw [HK.out]
    go_wp2
    go_ret2
    refine ⟨by rw [HR.out, HB.out]; rfl, ?_⟩
    repeat (first | exact B0 _ | (with_reducible refine Bgo ?_ (by assumption)) | (with_reducible refine Bdrew ?_) | (with_reducible refine Bdraw ?_ _) | (with_reducible refine Bnew ?_ _) | (with_reducible refine Bput ?_ (by first | (simp; done) | (simp; omega)) _))
  · have HK := hidp (check_yes hr)
    rw [hr, Bool.true_and] at hE
    clear hr
    by_cases c1 : z = 0
    · have hB : slotB t p s k o = false := by rw [hE, decide_eq_false_iff_not]; omega
      have HR := hidp (slotR_no hB)
      have HB := hidp hB
      subst c1
      clear hz hn hE hB
      go_enter Tryd.func66, Tryd.ntmps66
      go_wp2_with fail
      refine (clSize_c s k hk0 hk1 _ (HT.out.alloc _)).mono ?_
      rintro e w1 ⟨rfl, hb1⟩
      rw [HZ.out]
      have hc1 := hc.keep hb1
      have HT1 := hidp ((HT.out.alloc _).below hb1)
      have c3 := hc1.three
      go_wp2_with fail
      refine (cfCheck_c t p s _).mono ?_
      rintro e w2 ⟨rfl, hb2⟩
      rw [HK.out]
      go_wp2
      go_ret2
      refine ⟨by rw [HR.out, HB.out]; rfl, ?_⟩
      repeat (first | exact B0 _ | (with_reducible refine Bgo ?_ (by assumption)) | (with_reducible refine Bdrew ?_) | (with_reducible refine Bdraw ?_ _) | (with_reducible refine Bnew ?_ _) | (with_reducible refine Bput ?_ (by first | (simp; done) | (simp; omega)) _))
    · have z1 : ((z : Int) == 0) = false := by simpa using c1
      by_cases c2 : o < 0
      · have hB : slotB t p s k o = false := by rw [hE, decide_eq_false_iff_not]; omega
        have HR := hidp (slotR_no hB)
        have HB := hidp hB
        clear hz hn hE hB
        go_enter Tryd.func66, Tryd.ntmps66
        go_wp2_with fail
        refine (clSize_c s k hk0 hk1 _ (HT.out.alloc _)).mono ?_
        rintro e w1 ⟨rfl, hb1⟩
        rw [HZ.out]
        have hc1 := hc.keep hb1
        have HT1 := hidp ((HT.out.alloc _).below hb1)
        have c3 := hc1.three
        go_wp2_with fail
        refine (cfCheck_c t p s _).mono ?_
        rintro e w2 ⟨rfl, hb2⟩
        rw [HK.out]
        go_wp2
        go_ret2
        refine ⟨by rw [HR.out, HB.out]; rfl, ?_⟩
        repeat (first | exact B0 _ | (with_reducible refine Bgo ?_ (by assumption)) | (with_reducible refine Bdrew ?_) | (with_reducible refine Bdraw ?_ _) | (with_reducible refine Bnew ?_ _) | (with_reducible refine Bput ?_ (by first | (simp; done) | (simp; omega)) _))
      · have q1 : o.tdiv (z : Int) = o / (z : Int) := Int.tdiv_eq_ediv_of_nonneg (by omega)
        have q2 : o.tmod (z : Int) = o % (z : Int) := Int.tmod_eq_emod_of_nonneg (by omega)
        have m0 := Int.emod_nonneg o (show (z : Int) ≠ 0 by omega)
        have m1 := Int.emod_lt_of_pos o (show (0 : Int) < z by omega)
        have d0 := Int.ediv_nonneg (a := o) (b := (z : Int)) (by omega) (by omega)
        have d1 : o / (z : Int) ≤ o := Int.ediv_le_self _ (by omega)
        have hRR : slotB t p s k o = true → slotR t p s k o = o / (z : Int) := fun h => by unfold slotR; rw [if_pos h, hz]
        obtain ⟨d, hd⟩ : ∃ d, o / (z : Int) = d := ⟨_, rfl⟩
        obtain ⟨m, hm⟩ : ∃ m, o % (z : Int) = m := ⟨_, rfl⟩
        rw [hd] at q1 d0 d1 hE hRR
        rw [hm] at q2 m0 m1 hE
        by_cases c3 : m = 0
        · have m3 : (m != 0) = false := by simpa using c3
          by_cases c4 : d < (n : Int)
          · have hB : slotB t p s k o = true := by rw [hE, decide_eq_true_iff]; omega
            have HR := hidp (hRR hB)
            have HB := hidp hB
            clear hz hn hE hB hRR hd hm
            go_enter Tryd.func66, Tryd.ntmps66
            go_wp2_with fail
            refine (clSize_c s k hk0 hk1 _ (HT.out.alloc _)).mono ?_
            rintro e w1 ⟨rfl, hb1⟩
            rw [HZ.out]
            have hc1 := hc.keep hb1
            have HT1 := hidp ((HT.out.alloc _).below hb1)
            have c3 := hc1.three
            go_wp2_with fail
            refine (cfCheck_c t p s _).mono ?_
            rintro e w2 ⟨rfl, hb2⟩
            rw [HK.out]
            have HT2 := hidp (HT1.out.below hb2)
            go_wp2_with fail
            refine (clSlots_c k hk0 hk1 _ HT2.out).mono ?_
            rintro e w3 ⟨rfl, rfl⟩
            rw [HN.out]
            go_wp2
            go_ret2
            refine ⟨by rw [HR.out, HB.out]; rfl, ?_⟩
            repeat (first | exact B0 _ | (with_reducible refine Bgo ?_ (by assumption)) | (with_reducible refine Bdrew ?_) | (with_reducible refine Bdraw ?_ _) | (with_reducible refine Bnew ?_ _) | (with_reducible refine Bput ?_ (by first | (simp; done) | (simp; omega)) _))
          · have hB : slotB t p s k o = false := by rw [hE, decide_eq_false_iff_not]; omega
            have HR := hidp (slotR_no hB)
            have HB := hidp hB
            clear hz hn hE hB hRR hd hm
            go_enter Tryd.func66, Tryd.ntmps66
            go_wp2_with fail
            refine (clSize_c s k hk0 hk1 _ (HT.out.alloc _)).mono ?_
            rintro e w1 ⟨rfl, hb1⟩
            rw [HZ.out]
            have hc1 := hc.keep hb1
            have HT1 := hidp ((HT.out.alloc _).below hb1)
            have c3 := hc1.three
            go_wp2_with fail
            refine (cfCheck_c t p s _).mono ?_
            rintro e w2 ⟨rfl, hb2⟩
            rw [HK.out]
            have HT2 := hidp (HT1.out.below hb2)
            go_wp2_with fail
            refine (clSlots_c k hk0 hk1 _ HT2.out).mono ?_
            rintro e w3 ⟨rfl, rfl⟩
            rw [HN.out]
            go_wp2
            go_ret2
            refine ⟨by rw [HR.out, HB.out]; rfl, ?_⟩
            repeat (first | exact B0 _ | (with_reducible refine Bgo ?_ (by assumption)) | (with_reducible refine Bdrew ?_) | (with_reducible refine Bdraw ?_ _) | (with_reducible refine Bnew ?_ _) | (with_reducible refine Bput ?_ (by first | (simp; done) | (simp; omega)) _))
        · have m3 : (m != 0) = true := by simpa using c3
          have hB : slotB t p s k o = false := by rw [hE, decide_eq_false_iff_not]; omega
          have HR := hidp (slotR_no hB)
          have HB := hidp hB
          clear hz hn hE hB hRR hd hm
          go_enter Tryd.func66, Tryd.ntmps66
          go_wp2_with fail
          refine (clSize_c s k hk0 hk1 _ (HT.out.alloc _)).mono ?_
          rintro e w1 ⟨rfl, hb1⟩
          rw [HZ.out]
          have hc1 := hc.keep hb1
          have HT1 := hidp ((HT.out.alloc _).below hb1)
          have c3 := hc1.three
          go_wp2_with fail
          refine (cfCheck_c t p s _).mono ?_
          rintro e w2 ⟨rfl, hb2⟩
          rw [HK.out]
          go_wp2
          go_ret2
          refine ⟨by rw [HR.out, HB.out]; rfl, ?_⟩
          repeat (first | exact B0 _ | (with_reducible refine Bgo ?_ (by assumption)) | (with_reducible refine Bdrew ?_) | (with_reducible refine Bdraw ?_ _) | (with_reducible refine Bnew ?_ _) | (with_reducible refine Bput ?_ (by first | (simp; done) | (simp; omega)) _))

end Go.Proofs.YtbaofpdjfoaiiaaDoor
