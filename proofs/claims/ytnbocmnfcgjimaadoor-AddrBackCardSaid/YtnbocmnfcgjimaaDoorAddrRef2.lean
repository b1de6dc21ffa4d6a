/-
  Contracts of the document's answers to addr (nacreref06): slots, and how many pages.
-/
import Derived.Test.YtnbocmnfcgjimaaDoorAddrRef
namespace Go.Proofs.YtnbocmnfcgjimaaDoor
open Go.ChangeShapes Go.WideShapes Go.ChangeAt Go.RowKit
set_option linter.unusedVariables false
set_option linter.unusedSimpArgs false

set_option maxHeartbeats 3200000 in
theorem r6Slot_c (t p s k o : Int) (hk0 : -9223372036854775808 ≤ k) (hk1 : k ≤ 9223372036854775807) (w : World) :
    Calls Tryd.prog 15 #[.agg #[.int .i64 t, .int .i64 p, .int .i64 s], .int .i64 k, .int .i64 o] w fun e w' => e = .returned (.tuple #[.int .i64 (slotR t p s k o), .bool (slotB t p s k o)]) ∧ Below w.heap.size w w' := by
  have hc := Held.new w 23 #[.int .i64 t, .int .i64 p, .int .i64 s]
  cases hr : rightB t p s
  · have HR := hidp hr
    have hB : slotB t p s k o = false := by unfold slotB; rw [hr]; rfl
    have HZ := hidp (slotR_no hB)
    have HB := hidp hB
    clear hr hB
    go_enter Tryd.func15, Tryd.ntmps15
    go_wp2_with fail
    refine (r4Right_c t p s _).mono ?_
    rintro e w1 ⟨rfl, hb1⟩
    rw [HR.out]
    go_wp2
    go_ret2
    refine ⟨by rw [HZ.out, HB.out]; rfl, ?_⟩
    repeat (first | exact B0 _ | (with_reducible refine Bgo ?_ (by assumption)) | (with_reducible refine Bdrew ?_) | (with_reducible refine Bdraw ?_ _) | (with_reducible refine Bnew ?_ _) | (with_reducible refine Bput ?_ (by first | (simp; done) | (simp; omega)) _))
  · obtain ⟨z, hz⟩ : ∃ z, sizeN s k = z := ⟨_, rfl⟩
    obtain ⟨n, hn⟩ : ∃ n, slotI k = n := ⟨_, rfl⟩
    have hz2 := hz ▸ sizeN_le s k
    have hn2 := hn ▸ slotI_le k
    have HR := hidp hr
    have HZ := hidp hz
    have HN := hidp hn
    have HAT := hidp (fun (i : Nat) (hi : i < n) (h : o = (i : Int) * (z : Int)) => slot_at (k := k) (o := o) hr i (hn ▸ hi) (hz ▸ h))
    have HNO := hidp (fun (h : ∀ i : Nat, i < n → o ≠ (i : Int) * (z : Int)) => slot_none (t := t) (p := p) (s := s) (k := k) (o := o) (fun i hi => hz ▸ h i (hn ▸ hi)))
    clear hr hz hn
    go_enter Tryd.func15, Tryd.ntmps15
    go_wp2_with fail
    refine (r4Right_c t p s _).mono ?_
    rintro e w1 ⟨rfl, hb1⟩
    rw [HR.out]
    have hc1 := hc.keep hb1
    go_wp2_with fail
    have HC := hidp hc1
    have HBL : Hid (Below w.heap.size w w1) := hidp (Bgo (Bnew (B0 _) _) hb1)
    clear hc hc1 hb1
    go_loopw [8] (fun i wr => ∃ j : Nat, j ≤ n ∧ i = .int .i64 j ∧ (∀ l : Nat, l < j → o ≠ (l : Int) * (z : Int)) ∧ Held wr w.heap.size 23 #[.int .i64 t, .int .i64 p, .int .i64 s] ∧ Below w.heap.size w wr) (fun i _ => 32 - (intOf i).toNat)
    case atStart => exact ⟨0, by omega, rfl, fun l hl => absurd hl (by omega), HC.out, HBL.out⟩
    case round =>
      obtain ⟨j, hj, rfl, hall, hh, hb⟩ := hrel
      have HA := hidp hall
      have HH := hidp hh
      have HB := hidp hb
      clear hall hh hb
      by_cases hlt : j < n
      · have h3 : (j : Int) * (z : Int) ≤ 32 * 1048576 := Int.mul_le_mul (by omega) (by omega) (by omega) (by omega)
        have h4 : 0 ≤ (j : Int) * (z : Int) := Int.mul_nonneg (by omega) (by omega)
        obtain ⟨y, hy⟩ : ∃ y, (j : Int) * (z : Int) = y := ⟨_, rfl⟩
        rw [hy] at h3 h4
        have HY := hidp hy
        by_cases hoy : o = y
        · subst hoy
          have HR2 := hidp (HAT.out j hlt HY.out.symm)
          go_wp2_with fail
          refine (r5Slots_c k hk0 hk1 _).mono ?_
          rintro e w2 ⟨rfl, rfl⟩
          rw [HN.out]
          obtain ⟨x0, x1, x2⟩ := HH.out.three
          go_wp2_with fail
          refine (r5Size_c s k hk0 hk1 _).mono ?_
          rintro e w3 ⟨rfl, hb3⟩
          rw [HZ.out]
          go_wp2
          go_ret2
          refine ⟨by rw [HR2.out.1, HR2.out.2]; rfl, Bgo HB.out hb3⟩
        · have t1 : (o == y) = false := by simpa using hoy
          go_wp2_with fail
          refine (r5Slots_c k hk0 hk1 _).mono ?_
          rintro e w2 ⟨rfl, rfl⟩
          rw [HN.out]
          obtain ⟨x0, x1, x2⟩ := HH.out.three
          go_wp2_with fail
          refine (r5Size_c s k hk0 hk1 _).mono ?_
          rintro e w3 ⟨rfl, hb3⟩
          rw [HZ.out]
          go_wp2
          go_roundw
          case rel =>
            refine ⟨j + 1, by omega, by go_num, fun l hl => ?_, HH.out.keep hb3, Bgo HB.out hb3⟩
            rcases Nat.lt_or_ge l j with h | h
            · exact HA.out l h
            · obtain rfl : l = j := by omega
              rw [HY.out]; exact hoy
          case measure => simp [intOf]; omega
      · obtain rfl : j = n := by omega
        have HB2 := hidp (HNO.out HA.out)
        have HZ2 := hidp (slotR_no HB2.out)
        go_wp2_with fail
        refine (r5Slots_c k hk0 hk1 _).mono ?_
        rintro e w2 ⟨rfl, rfl⟩
        rw [HN.out]
        go_wp2
        go_ret2
        exact ⟨by rw [HZ2.out, HB2.out]; rfl, HB.out⟩

set_option maxHeartbeats 1600000 in
theorem r6At_c (t p s k i j : Int) (hk0 : -9223372036854775808 ≤ k) (hk1 : k ≤ 9223372036854775807) (w : World) :
    Calls Tryd.prog 13 #[.agg #[.int .i64 t, .int .i64 p, .int .i64 s], .int .i64 k, .int .i64 i, .int .i64 j] w fun e w' => e = .returned (.tuple #[.int .i64 (atI t p s k i j), .bool (atB t p s k i j)]) ∧ Below w.heap.size w w' := by
  have hc := Held.new w 23 #[.int .i64 t, .int .i64 p, .int .i64 s]
  obtain ⟨n, hn⟩ : ∃ n, slotI k = n := ⟨_, rfl⟩
  have hn2 := hn ▸ slotI_le k
  have HN := hidp hn
  by_cases c1 : j < 0
  · have HB := hidp (at_out (t := t) (p := p) (s := s) (k := k) (i := i) (j := j) (by omega))
    clear hn
    go_enter Tryd.func13, Tryd.ntmps13
    go_wp2
    go_ret2
    refine ⟨by rw [HB.out.1, HB.out.2]; rfl, ?_⟩
    repeat (first | exact B0 _ | (with_reducible refine Bgo ?_ (by assumption)) | (with_reducible refine Bdrew ?_) | (with_reducible refine Bdraw ?_ _) | (with_reducible refine Bnew ?_ _) | (with_reducible refine Bput ?_ (by first | (simp; done) | (simp; omega)) _))
  · by_cases c2 : j < (n : Int)
    · obtain ⟨z, hz⟩ : ∃ z, sizeN s k = z := ⟨_, rfl⟩
      have hz2 := hz ▸ sizeN_le s k
      have h3 : j * (z : Int) ≤ 32 * 1048576 := Int.mul_le_mul (by omega) (by omega) (by omega) (by omega)
      have h4 : 0 ≤ j * (z : Int) := Int.mul_nonneg (by omega) (by omega)
      have hA := at_in (t := t) (p := p) (s := s) (k := k) (i := i) (j := j) (by omega)
      rw [hz] at hA
      obtain ⟨y, hy⟩ : ∃ y, j * (z : Int) = y := ⟨_, rfl⟩
      rw [hy] at h3 h4 hA
      have HA := hidp hA
      have HY := hidp hy
      have HZ := hidp hz
      have HWR := hidp (i64_same (x := y) (by omega) (by omega))
      clear hz hy hA hn
      go_enter Tryd.func13, Tryd.ntmps13
      go_wp2_with fail
      refine (r5Slots_c k hk0 hk1 _).mono ?_
      rintro e w1 ⟨rfl, rfl⟩
      rw [HN.out]
      have c3 := hc.three
      go_wp2_with fail
      go_region_held3 (fun w' => w'.cell? ⟨w.heap.size, 0, none⟩ = some (.int .i64 t) ∧ w'.cell? ⟨w.heap.size, 1, none⟩ = some (.int .i64 p) ∧ w'.cell? ⟨w.heap.size, 2, none⟩ = some (.int .i64 s))
        (first | exact ⟨c3.1, c3.2.1, c3.2.2⟩ | go_keep | exact ⟨hst _ _ (by assumption), hst _ _ (by assumption), hst _ _ (by assumption)⟩)
        (first
          | (go_at_call 27; refine (r5Size_c s k hk0 hk1 _).mono ?_; rintro e w' ⟨rfl, hbl⟩; rw [HZ.out]; have hst := cells_stay hbl)
          | (go_at_call 8; rw [HY.out, HWR.out]; refine (r6Of_c t p s i y _).mono ?_; rintro e w'' ⟨rfl, hbl2⟩; have hst := cells_stay hbl2))
      go_wp2
      go_ret2
      refine ⟨by rw [HA.out.1, HA.out.2]; rfl, ?_⟩
      repeat (first | exact B0 _ | (with_reducible refine Bgo ?_ (by assumption)) | (with_reducible refine Bdrew ?_) | (with_reducible refine Bdraw ?_ _) | (with_reducible refine Bnew ?_ _) | (with_reducible refine Bput ?_ (by first | (simp; done) | (simp; omega)) _))
    · have HB := hidp (at_out (t := t) (p := p) (s := s) (k := k) (i := i) (j := j) (by omega))
      clear hn
      go_enter Tryd.func13, Tryd.ntmps13
      go_wp2_with fail
      refine (r5Slots_c k hk0 hk1 _).mono ?_
      rintro e w1 ⟨rfl, rfl⟩
      rw [HN.out]
      go_wp2
      go_ret2
      refine ⟨by rw [HB.out.1, HB.out.2]; rfl, ?_⟩
      repeat (first | exact B0 _ | (with_reducible refine Bgo ?_ (by assumption)) | (with_reducible refine Bdrew ?_) | (with_reducible refine Bdraw ?_ _) | (with_reducible refine Bnew ?_ _) | (with_reducible refine Bput ?_ (by first | (simp; done) | (simp; omega)) _))

set_option maxHeartbeats 3200000 in
theorem r6Pages_c (t p s n : Int) (h0 : -9223372036854775808 ≤ n) (h1 : n ≤ 9223372036854775807) (w : World) :
    Calls Tryd.prog 17 #[.agg #[.int .i64 t, .int .i64 p, .int .i64 s], .int .i64 n] w fun e w' => e = .returned (.tuple #[.int .i64 (needI t p s n), .bool (needB t p s n)]) ∧ Below w.heap.size w w' := by
  have hc := Held.new w 23 #[.int .i64 t, .int .i64 p, .int .i64 s]
  cases hr : rightB t p s
  · have HR := hidp hr
    have hB : needB t p s n = false := by
      cases hb : needB t p s n
      · rfl
      · rw [need_right hb] at hr; cases hr
    have HI := hidp (need_no hB)
    have HB := hidp hB
    clear hr hB
    go_enter Tryd.func17, Tryd.ntmps17
    go_wp2_with fail
    refine (r4Right_c t p s _).mono ?_
    rintro e w1 ⟨rfl, hb1⟩
    rw [HR.out]
    have hc1 := hc.keep hb1
    obtain ⟨x0, x1, x2⟩ := hc1.three

    go_wp2
    go_ret2
    refine ⟨by rw [HI.out, HB.out]; rfl, ?_⟩
    repeat (first | exact B0 _ | (with_reducible refine Bgo ?_ (by assumption)) | (with_reducible refine Bdrew ?_) | (with_reducible refine Bdraw ?_ _) | (with_reducible refine Bnew ?_ _) | (with_reducible refine Bput ?_ (by first | (simp; done) | (simp; omega)) _))
  · have HR := hidp hr
    obtain ⟨b, hb⟩ : ∃ b, bytesN t p s = b := ⟨_, rfl⟩
    have b2 := hb ▸ bytes_le t p s
    have hE : needB t p s n = decide (1 ≤ n ∧ n ≤ (b : Int)) := by unfold needB; rw [hb]
    have HBY := hidp hb
    by_cases c1 : n < 1
    · have hB : needB t p s n = false := by rw [hE, decide_eq_false_iff_not]; omega
      have HI := hidp (need_no hB)
      have HB := hidp hB
      clear hr hb hE hB
      go_enter Tryd.func17, Tryd.ntmps17
      go_wp2_with fail
      refine (r4Right_c t p s _).mono ?_
      rintro e w1 ⟨rfl, hb1⟩
      rw [HR.out]
      have hc1 := hc.keep hb1
      obtain ⟨x0, x1, x2⟩ := hc1.three

      go_wp2
      go_ret2
      refine ⟨by rw [HI.out, HB.out]; rfl, ?_⟩
      repeat (first | exact B0 _ | (with_reducible refine Bgo ?_ (by assumption)) | (with_reducible refine Bdrew ?_) | (with_reducible refine Bdraw ?_ _) | (with_reducible refine Bnew ?_ _) | (with_reducible refine Bput ?_ (by first | (simp; done) | (simp; omega)) _))
    · by_cases c2 : n ≤ (b : Int)
      · have hB : needB t p s n = true := by rw [hE, decide_eq_true_iff]; omega
        obtain ⟨g, hg, g1, g2⟩ := bytes_pos hb (by omega)
        have hI : needI t p s n = n / (g : Int) + (if n % (g : Int) > 0 then 1 else 0) := by unfold needI; rw [if_pos hB, hg, need_cut (by omega)]
        have q1 : n.tdiv (g : Int) = n / (g : Int) := Int.tdiv_eq_ediv_of_nonneg (by omega)
        have q2 : n.tmod (g : Int) = n % (g : Int) := Int.tmod_eq_emod_of_nonneg (by omega)
        have d0 := Int.ediv_nonneg (a := n) (b := (g : Int)) (by omega) (by omega)
        have d1 : n / (g : Int) ≤ n := Int.ediv_le_self _ (by omega)
        have m0 := Int.emod_nonneg n (show (g : Int) ≠ 0 by omega)
        have m1 := Int.emod_lt_of_pos n (show (0 : Int) < g by omega)
        obtain ⟨d, hd⟩ : ∃ d, n / (g : Int) = d := ⟨_, rfl⟩
        obtain ⟨m, hm⟩ : ∃ m, n % (g : Int) = m := ⟨_, rfl⟩
        rw [hd] at q1 d0 d1 hI
        rw [hm] at q2 m0 m1 hI
        have HB := hidp hB
        have HG := hidp hg
        have g3 : ¬ g = 0 := by omega
        have g4 : ((g : Int) == 0) = false := by simp; omega
        by_cases hmm : 0 < m
        · rw [if_pos hmm] at hI
          have HI := hidp hI
          clear hr hb hE hB hI hg hd hm
          go_enter Tryd.func17, Tryd.ntmps17
          go_wp2_with fail
          refine (r4Right_c t p s _).mono ?_
          rintro e w1 ⟨rfl, hb1⟩
          rw [HR.out]
          have hc1 := hc.keep hb1
          obtain ⟨x0, x1, x2⟩ := hc1.three
          go_wp2_with fail
          refine (r4Bytes_c t p s _).mono ?_
          rintro e w2 ⟨rfl, hb2⟩
          rw [HBY.out]
          clear x0 x1 x2
          have hc2 := hc1.keep hb2
          obtain ⟨x0, x1, x2⟩ := hc2.three
          go_wp2_with fail
          refine (r4Page_c t p s _).mono ?_
          rintro e w3 ⟨rfl, hb3⟩
          rw [HG.out]
          clear x0 x1 x2
          obtain ⟨x0, x1, x2⟩ := (hc2.keep hb3).three
          go_wp2_with fail
          refine (r4Page_c t p s _).mono ?_
          rintro e w4 ⟨rfl, hb4⟩
          rw [HG.out]
          go_wp2
          go_ret2
          refine ⟨by rw [HI.out, HB.out]; rfl, ?_⟩
          repeat (first | exact B0 _ | (with_reducible refine Bgo ?_ (by assumption)) | (with_reducible refine Bdrew ?_) | (with_reducible refine Bdraw ?_ _) | (with_reducible refine Bnew ?_ _) | (with_reducible refine Bput ?_ (by first | (simp; done) | (simp; omega)) _))
        · rw [if_neg hmm, Int.add_zero] at hI
          obtain rfl : m = 0 := by omega
          have HI := hidp hI
          clear hr hb hE hB hI hg hd hm
          go_enter Tryd.func17, Tryd.ntmps17
          go_wp2_with fail
          refine (r4Right_c t p s _).mono ?_
          rintro e w1 ⟨rfl, hb1⟩
          rw [HR.out]
          have hc1 := hc.keep hb1
          obtain ⟨x0, x1, x2⟩ := hc1.three
          go_wp2_with fail
          refine (r4Bytes_c t p s _).mono ?_
          rintro e w2 ⟨rfl, hb2⟩
          rw [HBY.out]
          clear x0 x1 x2
          have hc2 := hc1.keep hb2
          obtain ⟨x0, x1, x2⟩ := hc2.three
          go_wp2_with fail
          refine (r4Page_c t p s _).mono ?_
          rintro e w3 ⟨rfl, hb3⟩
          rw [HG.out]
          clear x0 x1 x2
          obtain ⟨x0, x1, x2⟩ := (hc2.keep hb3).three
          go_wp2_with fail
          refine (r4Page_c t p s _).mono ?_
          rintro e w4 ⟨rfl, hb4⟩
          rw [HG.out]
          go_wp2
          go_ret2
          refine ⟨by rw [HI.out, HB.out]; rfl, ?_⟩
          repeat (first | exact B0 _ | (with_reducible refine Bgo ?_ (by assumption)) | (with_reducible refine Bdrew ?_) | (with_reducible refine Bdraw ?_ _) | (with_reducible refine Bnew ?_ _) | (with_reducible refine Bput ?_ (by first | (simp; done) | (simp; omega)) _))
      · have hB : needB t p s n = false := by rw [hE, decide_eq_false_iff_not]; omega
        have HI := hidp (need_no hB)
        have HB := hidp hB
        clear hr hb hE hB
        go_enter Tryd.func17, Tryd.ntmps17
        go_wp2_with fail
        refine (r4Right_c t p s _).mono ?_
        rintro e w1 ⟨rfl, hb1⟩
        rw [HR.out]
        have hc1 := hc.keep hb1
        obtain ⟨x0, x1, x2⟩ := hc1.three
        go_wp2_with fail
        refine (r4Bytes_c t p s _).mono ?_
        rintro e w2 ⟨rfl, hb2⟩
        rw [HBY.out]
        go_wp2
        go_ret2
        refine ⟨by rw [HI.out, HB.out]; rfl, ?_⟩
        repeat (first | exact B0 _ | (with_reducible refine Bgo ?_ (by assumption)) | (with_reducible refine Bdrew ?_) | (with_reducible refine Bdraw ?_ _) | (with_reducible refine Bnew ?_ _) | (with_reducible refine Bput ?_ (by first | (simp; done) | (simp; omega)) _))

end Go.Proofs.YtnbocmnfcgjimaaDoor
