/-
  Contracts of class's and nacreref05's slots and sizes.
-/
import Derived.Test.YthiobfghanlelaaYConf
import Derived.Test.YthiobfghanlelaaYMath
import Derived.Test.YthiobfghanlelaaYRow
import Derived.RegionTactic
import Derived.ChangeAlike
import Derived.BigQuiet
namespace Go.Proofs.Ythiobfghanlelaa
open Go.ChangeShapes Go.WideShapes Go.ChangeAt Go.RowKit
set_option linter.unusedVariables false
set_option linter.unusedSimpArgs false

theorem r5Slots_c (k : Int) (h0 : -9223372036854775808 ≤ k) (h1 : k ≤ 9223372036854775807) (w : World) :
    Calls Try.prog 72 #[.int .i64 k] w fun e w' => e = .returned (.int .i64 ((slotI k : Nat) : Int)) ∧ w = w' := by
  by_cases a : 0 ≤ k ∧ k < 9
  · obtain ⟨k, rfl⟩ : ∃ n : Nat, k = n := ⟨k.toNat, by omega⟩
    have hk : k < 9 := by omega
    clear a h0 h1
    match k, hk with
    | 0, _ | 1, _ | 2, _ | 3, _ | 4, _ | 5, _ | 6, _ | 7, _ | 8, _ =>
      go_enter Try.func72, Try.ntmps72
      go_wp2
      go_ret
      exact ⟨rfl, rfl⟩
  · have E := hidp (slotI_out (k := k) (by omega))
    have e0 : (k == 0) = false := by simp; omega
    have e1 : (k == 1) = false := by simp; omega
    have e2 : (k == 2) = false := by simp; omega
    have e3 : (k == 3) = false := by simp; omega
    have e4 : (k == 4) = false := by simp; omega
    have e5 : (k == 5) = false := by simp; omega
    have e6 : (k == 6) = false := by simp; omega
    have e7 : (k == 7) = false := by simp; omega
    have e8 : (k == 8) = false := by simp; omega
    go_enter Try.func72, Try.ntmps72
    go_wp2
    go_ret
    exact ⟨by rw [E.out]; rfl, rfl⟩

theorem r5Size_c (s k : Int) (h0 : -9223372036854775808 ≤ k) (h1 : k ≤ 9223372036854775807) (w : World) :
    Calls Try.prog 99 #[.int .i64 s, .int .i64 k] w fun e w' => e = .returned (.int .i64 ((sizeN s k : Nat) : Int)) ∧ Below w.heap.size w w' := by
  obtain ⟨n, hn⟩ : ∃ n, slotI k = n := ⟨_, rfl⟩
  obtain ⟨p, hp⟩ : ∃ p, pageS s = p := ⟨_, rfl⟩
  have hn1 : n ≤ 32 := hn ▸ slotI_le k
  have hp1 : p ≤ 1048576 := hp ▸ pageS_le s
  have E : sizeN s k = p / n - p / n % 16 := by unfold sizeN; rw [hn, hp]
  have HN := hidp hn
  have HP := hidp (show pageN 1 4 s = p from hp)
  have HE := hidp E
  clear hn hp E
  by_cases hz : n = 0 ∨ p = 0
  · have hE : p / n - p / n % 16 = 0 := by rcases hz with rfl | rfl <;> simp
    have HE2 := hidp (HE.out.trans hE)
    clear hE
    rcases hz with rfl | rfl
    · go_enter Try.func99, Try.ntmps99
      go_wp2_with fail
      refine (r4Page_c 1 4 s _).mono ?_
      rintro e w2 ⟨rfl, hb2⟩
      rw [HP.out]
      go_wp2_with fail
      refine (r5Slots_c k h0 h1 _).mono ?_
      rintro e w1 ⟨rfl, rfl⟩
      rw [HN.out]
      go_wp2
      go_ret
      exact ⟨by rw [HE2.out]; rfl, hb2⟩
    · have hn0 : ¬ n = 0 ∨ n = 0 := by omega
      rcases hn0 with hn0 | rfl
      all_goals
        go_enter Try.func99, Try.ntmps99
        go_wp2_with fail
        refine (r4Page_c 1 4 s _).mono ?_
        rintro e w2 ⟨rfl, hb2⟩
        rw [HP.out]
        go_wp2_with fail
        refine (r5Slots_c k h0 h1 _).mono ?_
        rintro e w1 ⟨rfl, rfl⟩
        rw [HN.out]
        go_wp2
        go_ret
        exact ⟨by rw [HE2.out]; rfl, hb2⟩
  · have hq : ((p : Int).tdiv n) = ((p / n : Nat) : Int) := by rw [Int.tdiv_eq_ediv_of_nonneg (by omega)]; norm_cast
    have hq1 : p / n ≤ 1048576 := Nat.le_trans (Nat.div_le_self _ _) hp1
    obtain ⟨q, hqq⟩ : ∃ q, p / n = q := ⟨_, rfl⟩
    rw [hqq] at hq hq1
    have HQ := hidp hqq
    have hn2 : ¬ n = 0 := by omega
    have hp2 : ¬ p = 0 := by omega
    have hn3 : ((n : Int) == 0) = false := by simpa using hn2
    have hp3 : ((p : Int) == 0) = false := by simpa using hp2
    clear hqq hz
    go_enter Try.func99, Try.ntmps99
    go_wp2_with fail
    refine (r4Page_c 1 4 s _).mono ?_
    rintro e w2 ⟨rfl, hb2⟩
    rw [HP.out]
    go_wp2_with fail
    refine (r5Slots_c k h0 h1 _).mono ?_
    rintro e w1 ⟨rfl, rfl⟩
    rw [HN.out]
    go_wp2
    go_ret
    refine ⟨?_, hb2⟩
    rw [HE.out, HQ.out]
    refine ret_int ?_
    omega

end Go.Proofs.Ythiobfghanlelaa

/-
  Contracts of addr's and nacreref06's functions.
-/
namespace Go.Proofs.Ythiobfghanlelaa
open Go.ChangeShapes Go.WideShapes Go.ChangeAt Go.RowKit
set_option linter.unusedVariables false
set_option linter.unusedSimpArgs false

theorem ret_ib {k : IntKind} {a b : Int} {c d : Bool} (h : a = b) (h2 : c = d) : Ending.returned (.tuple #[.int k a, .bool c]) = .returned (.tuple #[.int k b, .bool d]) := by rw [h, h2]
theorem ret_iib {k l : IntKind} {a b a' b' : Int} {c d : Bool} (h : a = b) (h1 : a' = b') (h2 : c = d) : Ending.returned (.tuple #[.int k a, .int l a', .bool c]) = .returned (.tuple #[.int k b, .int l b', .bool d]) := by rw [h, h1, h2]
theorem spot_eq (t p s a : Int) (g b : Nat) (hg : pageN t p s = g) (hb : bytesN t p s = b) : spotB t p s a = decide ((g : Int) ≤ a ∧ a - g < (b : Int)) := by unfold spotB; rw [hg, hb]
theorem bytes_pos {t p s : Int} {b : Nat} (hb : bytesN t p s = b) (h : 0 < b) : ∃ g : Nat, pageN t p s = g ∧ 1024 ≤ g ∧ g ≤ 1048576 := by
  cases hr : rightB t p s
  · have := bytes_no hr; omega
  · obtain ⟨g, q, hg, _, _, _, _, g1, g2, _⟩ := right_nums hr
    exact ⟨g, hg, g1, g2⟩
theorem page_le (t p s : Int) : pageN t p s ≤ 1048576 := by
  cases hr : rightB t p s
  · rw [page_no hr]; omega
  · obtain ⟨g, q, hg, _, _, _, _, g1, g2, _⟩ := right_nums hr
    omega
theorem bytes_le (t p s : Int) : bytesN t p s ≤ 1073741824 := by
  cases hr : rightB t p s
  · rw [bytes_no hr]; omega
  · obtain ⟨g, q, _, _, hb, _, _, _, _, _, _, _, h⟩ := right_nums hr
    omega

theorem addrW_range (i o : Int) (g : Nat) : -9223372036854775808 ≤ addrW i o g ∧ addrW i o g ≤ 9223372036854775807 := by
  unfold addrW
  generalize IntKind.i64.wrap (IntKind.i64.wrap (i + 1) * (g : Int)) + o = x
  simp only [IntKind.wrap, IntKind.bits, IntKind.signed]
  simp
  omega

end Go.Proofs.Ythiobfghanlelaa

/-
  Contracts of addr's pages, slots and numbers of pages.
-/
namespace Go.Proofs.Ythiobfghanlelaa
open Go.ChangeShapes Go.WideShapes Go.ChangeAt Go.RowKit
set_option linter.unusedVariables false
set_option linter.unusedSimpArgs false

end Go.Proofs.Ythiobfghanlelaa

/-
  Contracts of the document's answers to addr (nacreref06).
-/
namespace Go.Proofs.Ythiobfghanlelaa
open Go.ChangeShapes Go.WideShapes Go.ChangeAt Go.RowKit
set_option linter.unusedVariables false
set_option linter.unusedSimpArgs false

theorem addr_not {t p s i o : Int} (h : ¬ (rightB t p s = true ∧ (0 ≤ i ∧ i < p) ∧ 0 ≤ o ∧ o < (pageN t p s : Int))) : addrB t p s i o = false := by
  cases hb : addrB t p s i o
  · rfl
  · exact absurd (addr_parts hb) h
theorem spot_not {t p s a : Int} (h : ¬ ((pageN t p s : Int) ≤ a ∧ a - pageN t p s < (bytesN t p s : Int))) : spotB t p s a = false := by unfold spotB; rw [decide_eq_false_iff_not]; exact h

set_option maxHeartbeats 3200000 in
theorem r6Of_c (t p s i o : Int) (w : World) :
    Calls Try.prog 93 #[.agg #[.int .i64 t, .int .i64 p, .int .i64 s], .int .i64 i, .int .i64 o] w fun e w' => e = .returned (.tuple #[.int .i64 (addrI t p s i o), .bool (addrB t p s i o)]) ∧ Below w.heap.size w w' := by
  have hc := Held.new w 23 #[.int .i64 t, .int .i64 p, .int .i64 s]
  cases hr : rightB t p s
  · have HR := hidp hr
    have hB : addrB t p s i o = false := by unfold addrB; rw [hr]; rfl
    have HA := hidp (addrI_no hB)
    have HB := hidp hB
    clear hr hB
    go_enter Try.func93, Try.ntmps93
    go_wp2_with fail
    refine (r4Right_c t p s _).mono ?_
    rintro e w1 ⟨rfl, hb1⟩
    rw [HR.out]
    have hc1 := hc.keep hb1
    obtain ⟨x0, x1, x2⟩ := hc1.three
    go_wp2
    go_ret2
    refine ⟨by rw [HA.out, HB.out]; rfl, ?_⟩
    repeat (first | exact B0 _ | (with_reducible refine Bgo ?_ (by assumption)) | (with_reducible refine Bdrew ?_) | (with_reducible refine Bdraw ?_ _) | (with_reducible refine Bnew ?_ _) | (with_reducible refine Bput ?_ (by first | (simp; done) | (simp; omega)) _))
  · have HR := hidp hr
    obtain ⟨g, q, hg, rfl, hb, q1, q2, g1, g2, -, -, -, qg⟩ := right_nums hr
    by_cases c1 : i < 0
    · have hB := addr_not (t := t) (p := (q : Int)) (s := s) (i := i) (o := o) (by omega)
      have HA := hidp (addrI_no hB)
      have HB := hidp hB
      clear hr hg hb hB
      go_enter Try.func93, Try.ntmps93
      go_wp2_with fail
      refine (r4Right_c t q s _).mono ?_
      rintro e w1 ⟨rfl, hb1⟩
      rw [HR.out]
      have hc1 := hc.keep hb1
      obtain ⟨x0, x1, x2⟩ := hc1.three
      go_wp2
      go_ret2
      refine ⟨by rw [HA.out, HB.out]; rfl, ?_⟩
      repeat (first | exact B0 _ | (with_reducible refine Bgo ?_ (by assumption)) | (with_reducible refine Bdrew ?_) | (with_reducible refine Bdraw ?_ _) | (with_reducible refine Bnew ?_ _) | (with_reducible refine Bput ?_ (by first | (simp; done) | (simp; omega)) _))
    · by_cases c2 : (q : Int) ≤ i
      · have hB := addr_not (t := t) (p := (q : Int)) (s := s) (i := i) (o := o) (by omega)
        have HA := hidp (addrI_no hB)
        have HB := hidp hB
        clear hr hg hb hB
        go_enter Try.func93, Try.ntmps93
        go_wp2_with fail
        refine (r4Right_c t q s _).mono ?_
        rintro e w1 ⟨rfl, hb1⟩
        rw [HR.out]
        have hc1 := hc.keep hb1
        obtain ⟨x0, x1, x2⟩ := hc1.three
        go_wp2
        go_ret2
        refine ⟨by rw [HA.out, HB.out]; rfl, ?_⟩
        repeat (first | exact B0 _ | (with_reducible refine Bgo ?_ (by assumption)) | (with_reducible refine Bdrew ?_) | (with_reducible refine Bdraw ?_ _) | (with_reducible refine Bnew ?_ _) | (with_reducible refine Bput ?_ (by first | (simp; done) | (simp; omega)) _))
      · by_cases c3 : o < 0
        · have hB := addr_not (t := t) (p := (q : Int)) (s := s) (i := i) (o := o) (by omega)
          have HA := hidp (addrI_no hB)
          have HB := hidp hB
          clear hr hg hb hB
          go_enter Try.func93, Try.ntmps93
          go_wp2_with fail
          refine (r4Right_c t q s _).mono ?_
          rintro e w1 ⟨rfl, hb1⟩
          rw [HR.out]
          have hc1 := hc.keep hb1
          obtain ⟨x0, x1, x2⟩ := hc1.three
          go_wp2
          go_ret2
          refine ⟨by rw [HA.out, HB.out]; rfl, ?_⟩
          repeat (first | exact B0 _ | (with_reducible refine Bgo ?_ (by assumption)) | (with_reducible refine Bdrew ?_) | (with_reducible refine Bdraw ?_ _) | (with_reducible refine Bnew ?_ _) | (with_reducible refine Bput ?_ (by first | (simp; done) | (simp; omega)) _))
        · by_cases c4 : (g : Int) ≤ o
          · have hB := addr_not (t := t) (p := (q : Int)) (s := s) (i := i) (o := o) (by rw [hg]; omega)
            have HA := hidp (addrI_no hB)
            have HB := hidp hB
            have HG := hidp hg
            clear hr hg hb hB
            go_enter Try.func93, Try.ntmps93
            go_wp2_with fail
            refine (r4Right_c t q s _).mono ?_
            rintro e w1 ⟨rfl, hb1⟩
            rw [HR.out]
            have hc1 := hc.keep hb1
            obtain ⟨x0, x1, x2⟩ := hc1.three
            go_wp2_with fail
            refine (r4Page_c t q s _).mono ?_
            rintro e w2 ⟨rfl, hb2⟩
            rw [HG.out]
            clear x0 x1 x2
            obtain ⟨x0, x1, x2⟩ := (hc1.keep hb2).three
            go_wp2
            go_ret2
            refine ⟨by rw [HA.out, HB.out]; rfl, ?_⟩
            repeat (first | exact B0 _ | (with_reducible refine Bgo ?_ (by assumption)) | (with_reducible refine Bdrew ?_) | (with_reducible refine Bdraw ?_ _) | (with_reducible refine Bnew ?_ _) | (with_reducible refine Bput ?_ (by first | (simp; done) | (simp; omega)) _))
          · have hB : addrB t q s i o = true := by unfold addrB; rw [hr, hg, Bool.true_and, decide_eq_true_iff]; omega
            have hA : addrI t q s i o = (i + 1) * (g : Int) + o := by unfold addrI; rw [if_pos hB, hg]
            have hm := mul_bounds (i := i) (q := (q : Int)) (g := (g : Int)) (by omega) (by omega) (by omega)
            have hqg : ((q * g : Nat) : Int) = (q : Int) * (g : Int) := by push_cast; rfl
            rw [← hqg] at hm
            obtain ⟨y, hy⟩ : ∃ y, (i + 1) * (g : Int) = y := ⟨_, rfl⟩
            rw [hy] at hA hm
            obtain ⟨y1, y2⟩ := hm
            have y3 : y ≤ 1073741824 := by omega
            have HA := hidp hA
            have HB := hidp hB
            have HG := hidp hg
            clear hr hg hb hB hA hqg y2
            go_enter Try.func93, Try.ntmps93
            go_wp2_with fail
            refine (r4Right_c t q s _).mono ?_
            rintro e w1 ⟨rfl, hb1⟩
            rw [HR.out]
            have hc1 := hc.keep hb1
            obtain ⟨x0, x1, x2⟩ := hc1.three
            go_wp2_with fail
            refine (r4Page_c t q s _).mono ?_
            rintro e w2 ⟨rfl, hb2⟩
            rw [HG.out]
            clear x0 x1 x2
            obtain ⟨x0, x1, x2⟩ := (hc1.keep hb2).three
            go_wp2_with fail
            refine (r4Page_c t q s _).mono ?_
            rintro e w3 ⟨rfl, hb3⟩
            rw [HG.out]
            go_wp2
            go_ret2
            refine ⟨by rw [HA.out, HB.out]; rfl, ?_⟩
            repeat (first | exact B0 _ | (with_reducible refine Bgo ?_ (by assumption)) | (with_reducible refine Bdrew ?_) | (with_reducible refine Bdraw ?_ _) | (with_reducible refine Bnew ?_ _) | (with_reducible refine Bput ?_ (by first | (simp; done) | (simp; omega)) _))

/-- the page that is reckoned, of a right configuration -/
theorem page_quot {t p s a : Int} (hr : rightB t p s = true) (ha : 0 ≤ a) (ha1 : a ≤ 9223372036854775807) : ∃ (g q : Nat) (d m : Int), pageN t p s = g ∧ p = q ∧ a.tdiv (g : Int) = d ∧ a.tmod (g : Int) = m ∧ 0 ≤ d ∧ d ≤ a ∧ 0 ≤ m ∧ m < (g : Int) ∧ 1024 ≤ g ∧ g ≤ 1048576 ∧ 4 ≤ q ∧ q ≤ 1024 ∧
    spotB t p s a = decide (1 ≤ d ∧ d ≤ (q : Int)) ∧ (spotB t p s a = true → spotP t p s a = d - 1 ∧ spotO t p s a = m) := by
  obtain ⟨g, q, hg, rfl, hb, q1, q2, g1, g2, -, -, -, qg⟩ := right_nums hr
  refine ⟨g, q, a / (g : Int), a % (g : Int), hg, rfl, Int.tdiv_eq_ediv_of_nonneg (by omega), Int.tmod_eq_emod_of_nonneg (by omega), Int.ediv_nonneg (by omega) (by omega), Int.ediv_le_self _ (by omega),
    Int.emod_nonneg _ (by omega), Int.emod_lt_of_pos _ (by omega), g1, g2, q1, q2, ?_, fun h => ⟨by unfold spotP; rw [if_pos h, hg], by unfold spotO; rw [if_pos h, hg]⟩⟩
  have hqg : ((q * g : Nat) : Int) = (q : Int) * (g : Int) := by push_cast; rfl
  unfold spotB
  rw [hg, hb, hqg, decide_eq_decide]
  have e1 : 1 ≤ a / (g : Int) ↔ (g : Int) ≤ a := by rw [Int.le_ediv_iff_mul_le (by omega)]; omega
  have e2 : a / (g : Int) < (q : Int) + 1 ↔ a < ((q : Int) + 1) * g := Int.ediv_lt_iff_lt_mul (by omega)
  rw [Int.add_mul] at e2
  omega

end Go.Proofs.Ythiobfghanlelaa

/-
  Contracts of the document's answers to addr (nacreref06): slots, and how many pages.
-/
namespace Go.Proofs.Ythiobfghanlelaa
open Go.ChangeShapes Go.WideShapes Go.ChangeAt Go.RowKit
set_option linter.unusedVariables false
set_option linter.unusedSimpArgs false

set_option maxHeartbeats 1600000 in
theorem r6At_c (t p s k i j : Int) (hk0 : -9223372036854775808 ≤ k) (hk1 : k ≤ 9223372036854775807) (w : World) :
    Calls Try.prog 100 #[.agg #[.int .i64 t, .int .i64 p, .int .i64 s], .int .i64 k, .int .i64 i, .int .i64 j] w fun e w' => e = .returned (.tuple #[.int .i64 (atI t p s k i j), .bool (atB t p s k i j)]) ∧ Below w.heap.size w w' := by
  have hc := Held.new w 23 #[.int .i64 t, .int .i64 p, .int .i64 s]
  obtain ⟨n, hn⟩ : ∃ n, slotI k = n := ⟨_, rfl⟩
  have hn2 := hn ▸ slotI_le k
  have HN := hidp hn
  by_cases c1 : j < 0
  · have HB := hidp (at_out (t := t) (p := p) (s := s) (k := k) (i := i) (j := j) (by omega))
    clear hn
    go_enter Try.func100, Try.ntmps100
    go_wp2
    go_ret2
    refine ⟨by rw [HB.out.1, HB.out.2]; rfl, ?_⟩
    repeat (first | exact B0 _ | (with_reducible refine Bgo ?_ (by assumption)) | (with_reducible refine Bdrew ?_) | (with_reducible refine Bdraw ?_ _) | (with_reducible refine Bnew ?_ _) | (with_reducible refine Bput ?_ (by first | (simp; done) | (simp; omega)) _))
  · by_cases c2 : j < (n : Int)
    · obtain ⟨z, hz⟩ : ∃ z, sizeN s k = z := ⟨_, rfl⟩
      have hz2 := hz ▸ sizeN_le s k
      have h3 : j * (z : Int) ≤ 32 * 1048576 := Int.mul_le_mul (by omega) (by omega) (by omega) (by omega)
      have h4 : 0 ≤ j * (z : Int) := Int.mul_nonneg (by omega) (by omega)
      have hA := at_in (t := t) (p := p) (s := s) (k := k) (i := i) (j := j) (by omega)
      rw [hz] at hA
      obtain ⟨y, hy⟩ : ∃ y, j * (z : Int) = y := ⟨_, rfl⟩
      rw [hy] at h3 h4 hA
      have HA := hidp hA
      have HY := hidp hy
      have HZ := hidp hz
      have HWR := hidp (i64_same (x := y) (by omega) (by omega))
      clear hz hy hA hn
      go_enter Try.func100, Try.ntmps100
      go_wp2_with fail
      refine (r5Slots_c k hk0 hk1 _).mono ?_
      rintro e w1 ⟨rfl, rfl⟩
      rw [HN.out]
      have c3 := hc.three
      go_wp2_with fail
      go_region_held3 (fun w' => w'.cell? ⟨w.heap.size, 0, none⟩ = some (.int .i64 t) ∧ w'.cell? ⟨w.heap.size, 1, none⟩ = some (.int .i64 p) ∧ w'.cell? ⟨w.heap.size, 2, none⟩ = some (.int .i64 s))
        (first | exact ⟨c3.1, c3.2.1, c3.2.2⟩ | go_keep | exact ⟨hst _ _ (by assumption), hst _ _ (by assumption), hst _ _ (by assumption)⟩)
        (first
          | (go_at_call 99; refine (r5Size_c s k hk0 hk1 _).mono ?_; rintro e w' ⟨rfl, hbl⟩; rw [HZ.out]; have hst := cells_stay hbl)
          | (go_at_call 93; rw [HY.out, HWR.out]; refine (r6Of_c t p s i y _).mono ?_; rintro e w'' ⟨rfl, hbl2⟩; have hst := cells_stay hbl2))
      go_wp2
      go_ret2
      refine ⟨by rw [HA.out.1, HA.out.2]; rfl, ?_⟩
      repeat (first | exact B0 _ | (with_reducible refine Bgo ?_ (by assumption)) | (with_reducible refine Bdrew ?_) | (with_reducible refine Bdraw ?_ _) | (with_reducible refine Bnew ?_ _) | (with_reducible refine Bput ?_ (by first | (simp; done) | (simp; omega)) _))
    · have HB := hidp (at_out (t := t) (p := p) (s := s) (k := k) (i := i) (j := j) (by omega))
      clear hn
      go_enter Try.func100, Try.ntmps100
      go_wp2_with fail
      refine (r5Slots_c k hk0 hk1 _).mono ?_
      rintro e w1 ⟨rfl, rfl⟩
      rw [HN.out]
      go_wp2
      go_ret2
      refine ⟨by rw [HB.out.1, HB.out.2]; rfl, ?_⟩
      repeat (first | exact B0 _ | (with_reducible refine Bgo ?_ (by assumption)) | (with_reducible refine Bdrew ?_) | (with_reducible refine Bdraw ?_ _) | (with_reducible refine Bnew ?_ _) | (with_reducible refine Bput ?_ (by first | (simp; done) | (simp; omega)) _))

end Go.Proofs.Ythiobfghanlelaa
