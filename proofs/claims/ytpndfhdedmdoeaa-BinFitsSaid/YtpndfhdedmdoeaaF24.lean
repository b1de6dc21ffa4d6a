/-
  Contracts of the document's answers to addr (nacreref06).
-/
import Derived.Test.YtpndfhdedmdoeaaF11
namespace Go.Proofs.Ytpndfhdedmdoeaa
open Go.ChangeShapes Go.WideShapes Go.ChangeAt Go.RowKit
set_option linter.unusedVariables false
set_option linter.unusedSimpArgs false

theorem addr_not {t p s i o : Int} (h : ¬ (rightB t p s = true ∧ (0 ≤ i ∧ i < p) ∧ 0 ≤ o ∧ o < (pageN t p s : Int))) : addrB t p s i o = false := by
  cases hb : addrB t p s i o
  · rfl
  · exact absurd (addr_parts hb) h
theorem spot_not {t p s a : Int} (h : ¬ ((pageN t p s : Int) ≤ a ∧ a - pageN t p s < (bytesN t p s : Int))) : spotB t p s a = false := by unfold spotB; rw [decide_eq_false_iff_not]; exact h

set_option maxHeartbeats 3200000 in
theorem r6Of_c (t p s i o : Int) (w : World) :
    Calls Try.prog 123 #[.agg #[.int .i64 t, .int .i64 p, .int .i64 s], .int .i64 i, .int .i64 o] w fun e w' => e = .returned (.tuple #[.int .i64 (addrI t p s i o), .bool (addrB t p s i o)]) ∧ Below w.heap.size w w' := by
  have hc := Held.new w 23 #[.int .i64 t, .int .i64 p, .int .i64 s]
  cases hr : rightB t p s
  · have HR := hidp hr
    have hB : addrB t p s i o = false := by unfold addrB; rw [hr]; rfl
    have HA := hidp (addrI_no hB)
    have HB := hidp hB
    clear hr hB
    go_enter Try.func123, Try.ntmps123
    go_wp2_with fail
    refine (r4Right_c t p s _).mono ?_
    rintro e w1 ⟨rfl, hb1⟩
    rw [HR.out]
    have hc1 := hc.keep hb1
    obtain ⟨x0, x1, x2⟩ := hc1.three
    go_wp2
    go_ret2
    refine ⟨by rw [HA.out, HB.out]; rfl, ?_⟩
    repeat (first | exact B0 _ | (with_reducible refine Bgo ?_ (by assumption)) | (with_reducible refine Bdrew ?_) | (with_reducible refine Bdraw ?_ _) | (with_reducible refine Bnew ?_ _) | (with_reducible refine Bput ?_ (by first | (simp; done) | (simp; omega)) _))
  · have HR := hidp hr
    obtain ⟨g, q, hg, rfl, hb, q1, q2, g1, g2, -, -, -, qg⟩ := right_nums hr
    by_cases c1 : i < 0
    · have hB := addr_not (t := t) (p := (q : Int)) (s := s) (i := i) (o := o) (by omega)
      have HA := hidp (addrI_no hB)
      have HB := hidp hB
      clear hr hg hb hB
      go_enter Try.func123, Try.ntmps123
      go_wp2_with fail
      refine (r4Right_c t q s _).mono ?_
      rintro e w1 ⟨rfl, hb1⟩
      rw [HR.out]
      have hc1 := hc.keep hb1
      obtain ⟨x0, x1, x2⟩ := hc1.three
      go_wp2
      go_ret2
      refine ⟨by rw [HA.out, HB.out]; rfl, ?_⟩
      repeat (first | exact B0 _ | (with_reducible refine Bgo ?_ (by assumption)) | (with_reducible refine Bdrew ?_) | (with_reducible refine Bdraw ?_ _) | (with_reducible refine Bnew ?_ _) | (with_reducible refine Bput ?_ (by first | (simp; done) | (simp; omega)) _))
    · by_cases c2 : (q : Int) ≤ i
      · have hB := addr_not (t := t) (p := (q : Int)) (s := s) (i := i) (o := o) (by omega)
        have HA := hidp (addrI_no hB)
        have HB := hidp hB
        clear hr hg hb hB
        go_enter Try.func123, Try.ntmps123
        go_wp2_with fail
        refine (r4Right_c t q s _).mono ?_
        rintro e w1 ⟨rfl, hb1⟩
        rw [HR.out]
        have hc1 := hc.keep hb1
        obtain ⟨x0, x1, x2⟩ := hc1.three
        go_wp2
        go_ret2
        refine ⟨by rw [HA.out, HB.out]; rfl, ?_⟩
        repeat (first | exact B0 _ | (with_reducible refine Bgo ?_ (by assumption)) | (with_reducible refine Bdrew ?_) | (with_reducible refine Bdraw ?_ _) | (with_reducible refine Bnew ?_ _) | (with_reducible refine Bput ?_ (by first | (simp; done) | (simp; omega)) _))
      · by_cases c3 : o < 0
        · have hB := addr_not (t := t) (p := (q : Int)) (s := s) (i := i) (o := o) (by omega)
          have HA := hidp (addrI_no hB)
          have HB := hidp hB
          clear hr hg hb hB
          go_enter Try.func123, Try.ntmps123
          go_wp2_with fail
          refine (r4Right_c t q s _).mono ?_
          rintro e w1 ⟨rfl, hb1⟩
          rw [HR.out]
          have hc1 := hc.keep hb1
          obtain ⟨x0, x1, x2⟩ := hc1.three
          go_wp2
          go_ret2
          refine ⟨by rw [HA.out, HB.out]; rfl, ?_⟩
          repeat (first | exact B0 _ | (with_reducible refine Bgo ?_ (by assumption)) | (with_reducible refine Bdrew ?_) | (with_reducible refine Bdraw ?_ _) | (with_reducible refine Bnew ?_ _) | (with_reducible refine Bput ?_ (by first | (simp; done) | (simp; omega)) _))
        · by_cases c4 : (g : Int) ≤ o
          · have hB := addr_not (t := t) (p := (q : Int)) (s := s) (i := i) (o := o) (by rw [hg]; omega)
            have HA := hidp (addrI_no hB)
            have HB := hidp hB
            have HG := hidp hg
            clear hr hg hb hB
            go_enter Try.func123, Try.ntmps123
            go_wp2_with fail
            refine (r4Right_c t q s _).mono ?_
            rintro e w1 ⟨rfl, hb1⟩
            rw [HR.out]
            have hc1 := hc.keep hb1
            obtain ⟨x0, x1, x2⟩ := hc1.three
            go_wp2_with fail
            refine (r4Page_c t q s _).mono ?_
            rintro e w2 ⟨rfl, hb2⟩
            rw [HG.out]
            clear x0 x1 x2
            obtain ⟨x0, x1, x2⟩ := (hc1.keep hb2).three
            go_wp2
            go_ret2
            refine ⟨by rw [HA.out, HB.out]; rfl, ?_⟩
            repeat (first | exact B0 _ | (with_reducible refine Bgo ?_ (by assumption)) | (with_reducible refine Bdrew ?_) | (with_reducible refine Bdraw ?_ _) | (with_reducible refine Bnew ?_ _) | (with_reducible refine Bput ?_ (by first | (simp; done) | (simp; omega)) _))
          · have hB : addrB t q s i o = true := by unfold addrB; rw [hr, hg, Bool.true_and, decide_eq_true_iff]; omega
            have hA : addrI t q s i o = (i + 1) * (g : Int) + o := by unfold addrI; rw [if_pos hB, hg]
            have hm := mul_bounds (i := i) (q := (q : Int)) (g := (g : Int)) (by omega) (by omega) (by omega)
            have hqg : ((q * g : Nat) : Int) = (q : Int) * (g : Int) := by push_cast; rfl
            rw [← hqg] at hm
            obtain ⟨y, hy⟩ : ∃ y, (i + 1) * (g : Int) = y := ⟨_, rfl⟩
            rw [hy] at hA hm
            obtain ⟨y1, y2⟩ := hm
            have y3 : y ≤ 1073741824 := by omega
            have HA := hidp hA
            have HB := hidp hB
            have HG := hidp hg
            clear hr hg hb hB hA hqg y2
            go_enter Try.func123, Try.ntmps123
            go_wp2_with fail
            refine (r4Right_c t q s _).mono ?_
            rintro e w1 ⟨rfl, hb1⟩
            rw [HR.out]
            have hc1 := hc.keep hb1
            obtain ⟨x0, x1, x2⟩ := hc1.three
            go_wp2_with fail
            refine (r4Page_c t q s _).mono ?_
            rintro e w2 ⟨rfl, hb2⟩
            rw [HG.out]
            clear x0 x1 x2
            obtain ⟨x0, x1, x2⟩ := (hc1.keep hb2).three
            go_wp2_with fail
            refine (r4Page_c t q s _).mono ?_
            rintro e w3 ⟨rfl, hb3⟩
            rw [HG.out]
            go_wp2
            go_ret2
            refine ⟨by rw [HA.out, HB.out]; rfl, ?_⟩
            repeat (first | exact B0 _ | (with_reducible refine Bgo ?_ (by assumption)) | (with_reducible refine Bdrew ?_) | (with_reducible refine Bdraw ?_ _) | (with_reducible refine Bnew ?_ _) | (with_reducible refine Bput ?_ (by first | (simp; done) | (simp; omega)) _))

/-- the page that is reckoned, of a right configuration -/
theorem page_quot {t p s a : Int} (hr : rightB t p s = true) (ha : 0 ≤ a) (ha1 : a ≤ 9223372036854775807) : ∃ (g q : Nat) (d m : Int), pageN t p s = g ∧ p = q ∧ a.tdiv (g : Int) = d ∧ a.tmod (g : Int) = m ∧ 0 ≤ d ∧ d ≤ a ∧ 0 ≤ m ∧ m < (g : Int) ∧ 1024 ≤ g ∧ g ≤ 1048576 ∧ 4 ≤ q ∧ q ≤ 1024 ∧
    spotB t p s a = decide (1 ≤ d ∧ d ≤ (q : Int)) ∧ (spotB t p s a = true → spotP t p s a = d - 1 ∧ spotO t p s a = m) := by
  obtain ⟨g, q, hg, rfl, hb, q1, q2, g1, g2, -, -, -, qg⟩ := right_nums hr
  refine ⟨g, q, a / (g : Int), a % (g : Int), hg, rfl, Int.tdiv_eq_ediv_of_nonneg (by omega), Int.tmod_eq_emod_of_nonneg (by omega), Int.ediv_nonneg (by omega) (by omega), Int.ediv_le_self _ (by omega),
    Int.emod_nonneg _ (by omega), Int.emod_lt_of_pos _ (by omega), g1, g2, q1, q2, ?_, fun h => ⟨by unfold spotP; rw [if_pos h, hg], by unfold spotO; rw [if_pos h, hg]⟩⟩
  have hqg : ((q * g : Nat) : Int) = (q : Int) * (g : Int) := by push_cast; rfl
  unfold spotB
  rw [hg, hb, hqg, decide_eq_decide]
  have e1 : 1 ≤ a / (g : Int) ↔ (g : Int) ≤ a := by rw [Int.le_ediv_iff_mul_le (by omega)]; omega
  have e2 : a / (g : Int) < (q : Int) + 1 ↔ a < ((q : Int) + 1) * g := Int.ediv_lt_iff_lt_mul (by omega)
  rw [Int.add_mul] at e2
  omega

end Go.Proofs.Ytpndfhdedmdoeaa
