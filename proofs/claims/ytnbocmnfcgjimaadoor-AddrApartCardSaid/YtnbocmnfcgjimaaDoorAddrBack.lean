/-
  The walk of AddrBack.
-/
import Derived.Test.YtnbocmnfcgjimaaDoorAddrLaws
namespace Go.Proofs.YtnbocmnfcgjimaaDoor
open Go.ChangeShapes Go.WideShapes Go.ChangeAt Go.RowKit
set_option linter.unusedVariables false
set_option linter.unusedSimpArgs false

theorem shl_any (m : Nat) (k : Nat) (hm : m ≤ 1024) (hk : k ≤ 20) : IntKind.i64.wrap ((m : Int) * 2 ^ k) = ((m * 2 ^ k : Nat) : Int) := by
  have hb := pow_bounds k hk
  have e : ((m : Int) * (2 : Int) ^ k) = ((m * 2 ^ k : Nat) : Int) := by norm_cast
  rw [e]
  generalize 2 ^ k = g at *
  have h1 : m * g ≤ 1024 * 1048576 := Nat.mul_le_mul (by omega) hb.2
  simp only [IntKind.wrap, IntKind.bits, IntKind.signed]
  simp
  omega


set_option maxHeartbeats 1600000 in
theorem AddrBack_yy (t p s i n : Int) (hi0 : -9223372036854775808 ≤ i) (hi1 : i ≤ 9223372036854775807) (hn0 : -9223372036854775808 ≤ n) (hn1 : n ≤ 9223372036854775807) (ha : addrB t p s i n = true) (hs : spotB t p s n = true) (w : World) (hT : SlotsLaid w) :
    Calls Tryd.prog 5 #[.agg #[.int .i64 t, .int .i64 p, .int .i64 s], .int .i64 i, .int .i64 n] w (Keeps w) := by
  have HT0 := hidp (hT.alloc (.cells #[.int .i64 t, .int .i64 p, .int .i64 s] 23))
  clear hT
  have hc0 := Held.new w 23 #[.int .i64 t, .int .i64 p, .int .i64 s]
  have c1 := hc0.three
  have hy := addr_yes ha
  obtain ⟨x, hx⟩ : ∃ x, addrI t p s i n = x := ⟨_, rfl⟩
  rw [hx] at hy
  have HY := hidp hy
  obtain ⟨-, -, -, -, y1, y2⟩ := hy
  have HX := hidp hx
  have HA := hidp ha
  clear ha hx
  obtain ⟨hsb, hsi, -, -, ⟨b1, b2⟩, b3, b4⟩ := spot_parts hs
  obtain ⟨d, hd⟩ : ∃ d, spotP t p s n = d := ⟨_, rfl⟩
  obtain ⟨o, ho⟩ : ∃ o, spotO t p s n = o := ⟨_, rfl⟩
  rw [hd, ho] at hsb hsi
  rw [hd] at b1 b2
  rw [ho] at b3 b4
  have HS := hidp hs
  have HD := hidp hd
  have HO := hidp ho
  have HSB := hidp hsb
  have HSI := hidp hsi
  clear hs hd ho hsb hsi
  go_enter Tryd.func5, Tryd.ntmps5
  go_wp2_with fail
  refine (adOf_c t p s i n _).mono ?_
  rintro e w1 ⟨rfl, hb1⟩
  rw [HX.out, HA.out]
  have HT1 := hidp (HT0.out.below hb1)
  have hc1 := hc0.keep hb1
  clear c1
  have c1 := hc1.three
  go_wp2_with fail
  refine (adPage_c t p s x (by omega) (by omega) _).mono ?_
  rintro e w2 ⟨rfl, hb2⟩
  rw [HY.out.2.2.1, HY.out.2.2.2.1, HY.out.2.1]
  have HT2 := hidp (HT1.out.below hb2)
  have hc2 := hc1.keep hb2
  clear c1
  have c1 := hc2.three
  go_wp2_with fail
  refine (adPage_c t p s n hn0 hn1 _).mono ?_
  rintro e w3 ⟨rfl, hb3⟩
  rw [HD.out, HO.out, HS.out]
  have HT3 := hidp (HT2.out.below hb3)
  have hc3 := hc2.keep hb3
  clear c1
  have c1 := hc3.three
  go_wp2_with fail
  refine (adOf_c t p s d o _).mono ?_
  rintro e w4 ⟨rfl, hb4⟩
  rw [HSI.out, HSB.out]
  have HT4 := hidp (HT3.out.below hb4)
  have hc4 := hc3.keep hb4
  clear c1
  have c1 := hc4.three
  cases hq : needB t p s n
  · have HQ := hidp hq
    have HQ2 := hidp (need_no hq)
    clear hq
    go_wp2_with fail
    refine (adPages_c t p s n hn0 hn1 _).mono ?_
    rintro e w5 ⟨rfl, hb5⟩
    rw [HQ2.out, HQ.out]
    have HT5 := hidp (HT4.out.below hb5)
    have hc5 := hc4.keep hb5
    clear c1
    have c1 := hc5.three
    go_wp2_with fail
    refine (live_c _ HT5.out).mono ?_
    rintro e wl ⟨rfl, hbl⟩
    go_wp2
    go_ret
    refine ⟨by first | rfl | simp, ?_⟩
    repeat (first | exact B0 _ | (with_reducible refine Bgo ?_ (by assumption)) | (with_reducible refine Bdrew ?_) | (with_reducible refine Bdraw ?_ _) | (with_reducible refine Bnew ?_ _) | (with_reducible refine Bput ?_ (by first | (simp; done) | (simp; omega)) _))
  · obtain ⟨g, m, hg, hm, m1, m2, l1, l2, g1, g2, gs, s1, s2, n2⟩ := need_few hq
    have HQ := hidp hq
    have HM := hidp hm
    obtain ⟨u, rfl⟩ : ∃ u : Nat, s = u := ⟨s.toNat, by omega⟩
    rw [Int.toNat_natCast] at gs
    have f1 := shl_any m u (by omega) (by omega)
    have f2 := shl_any (m - 1) u (by omega) (by omega)
    rw [show ((m - 1 : Nat) : Int) = (m : Int) - 1 by omega] at f2
    rw [← gs] at f1 f2
    have l3 : ((m * g : Nat) : Int) = (m : Int) * (g : Int) := by push_cast; rfl
    have l4 : (((m - 1) * g : Nat) : Int) = ((m : Int) - 1) * (g : Int) := by rw [show (m : Int) - 1 = ((m - 1 : Nat) : Int) by omega]; push_cast; rfl
    rw [← l3] at l1
    rw [← l4] at l2
    obtain ⟨x, hx⟩ : ∃ x, m * g = x := ⟨_, rfl⟩
    obtain ⟨y, hy⟩ : ∃ y, (m - 1) * g = y := ⟨_, rfl⟩
    rw [hx] at f1 l1
    rw [hy] at f2 l2
    have z1 := (IntWalk.i64_left _).symm.trans f1
    have z2 := (IntWalk.i64_left _).symm.trans f2
    have e1 : decide ((1024 : Int) < (m : Int)) = false := by simp; omega
    have e2 : decide ((x : Int) < n) = false := by simp; omega
    have e3 : decide (n ≤ (y : Int)) = false := by simp; omega
    clear hq hm hg gs l3 l4 hx hy f1 f2
    go_wp2_with fail
    refine (adPages_c t p (u : Int) n hn0 hn1 _).mono ?_
    rintro e w5 ⟨rfl, hb5⟩
    rw [HM.out, HQ.out]
    have HT5 := hidp (HT4.out.below hb5)
    have hc5 := hc4.keep hb5
    clear c1
    have c1 := hc5.three
    go_wp2_with fail
    refine (live_c _ HT5.out).mono ?_
    rintro e wl ⟨rfl, hbl⟩
    go_wp2
    go_ret
    refine ⟨by first | rfl | simp, ?_⟩
    repeat (first | exact B0 _ | (with_reducible refine Bgo ?_ (by assumption)) | (with_reducible refine Bdrew ?_) | (with_reducible refine Bdraw ?_ _) | (with_reducible refine Bnew ?_ _) | (with_reducible refine Bput ?_ (by first | (simp; done) | (simp; omega)) _))

set_option maxHeartbeats 1600000 in
theorem AddrBack_yn (t p s i n : Int) (hi0 : -9223372036854775808 ≤ i) (hi1 : i ≤ 9223372036854775807) (hn0 : -9223372036854775808 ≤ n) (hn1 : n ≤ 9223372036854775807) (ha : addrB t p s i n = true) (hs : spotB t p s n = false) (w : World) (hT : SlotsLaid w) :
    Calls Tryd.prog 5 #[.agg #[.int .i64 t, .int .i64 p, .int .i64 s], .int .i64 i, .int .i64 n] w (Keeps w) := by
  have HT0 := hidp (hT.alloc (.cells #[.int .i64 t, .int .i64 p, .int .i64 s] 23))
  clear hT
  have hc0 := Held.new w 23 #[.int .i64 t, .int .i64 p, .int .i64 s]
  have c1 := hc0.three
  have hy := addr_yes ha
  obtain ⟨x, hx⟩ : ∃ x, addrI t p s i n = x := ⟨_, rfl⟩
  rw [hx] at hy
  have HY := hidp hy
  obtain ⟨-, -, -, -, y1, y2⟩ := hy
  have HX := hidp hx
  have HA := hidp ha
  clear ha hx
  have HS := hidp hs
  have HD := hidp (spot_no hs).1
  have HO := hidp (spot_no hs).2
  clear hs
  go_enter Tryd.func5, Tryd.ntmps5
  go_wp2_with fail
  refine (adOf_c t p s i n _).mono ?_
  rintro e w1 ⟨rfl, hb1⟩
  rw [HX.out, HA.out]
  have HT1 := hidp (HT0.out.below hb1)
  have hc1 := hc0.keep hb1
  clear c1
  have c1 := hc1.three
  go_wp2_with fail
  refine (adPage_c t p s x (by omega) (by omega) _).mono ?_
  rintro e w2 ⟨rfl, hb2⟩
  rw [HY.out.2.2.1, HY.out.2.2.2.1, HY.out.2.1]
  have HT2 := hidp (HT1.out.below hb2)
  have hc2 := hc1.keep hb2
  clear c1
  have c1 := hc2.three
  go_wp2_with fail
  refine (adPage_c t p s n hn0 hn1 _).mono ?_
  rintro e w3 ⟨rfl, hb3⟩
  rw [HD.out, HO.out, HS.out]
  have HT3 := hidp (HT2.out.below hb3)
  have hc3 := hc2.keep hb3
  clear c1
  have c1 := hc3.three
  cases hq : needB t p s n
  · have HQ := hidp hq
    have HQ2 := hidp (need_no hq)
    clear hq
    go_wp2_with fail
    refine (adPages_c t p s n hn0 hn1 _).mono ?_
    rintro e w4 ⟨rfl, hb4⟩
    rw [HQ2.out, HQ.out]
    have HT4 := hidp (HT3.out.below hb4)
    have hc4 := hc3.keep hb4
    clear c1
    have c1 := hc4.three
    go_wp2_with fail
    refine (live_c _ HT4.out).mono ?_
    rintro e wl ⟨rfl, hbl⟩
    go_wp2
    go_ret
    refine ⟨by first | rfl | simp, ?_⟩
    repeat (first | exact B0 _ | (with_reducible refine Bgo ?_ (by assumption)) | (with_reducible refine Bdrew ?_) | (with_reducible refine Bdraw ?_ _) | (with_reducible refine Bnew ?_ _) | (with_reducible refine Bput ?_ (by first | (simp; done) | (simp; omega)) _))
  · obtain ⟨g, m, hg, hm, m1, m2, l1, l2, g1, g2, gs, s1, s2, n2⟩ := need_few hq
    have HQ := hidp hq
    have HM := hidp hm
    obtain ⟨u, rfl⟩ : ∃ u : Nat, s = u := ⟨s.toNat, by omega⟩
    rw [Int.toNat_natCast] at gs
    have f1 := shl_any m u (by omega) (by omega)
    have f2 := shl_any (m - 1) u (by omega) (by omega)
    rw [show ((m - 1 : Nat) : Int) = (m : Int) - 1 by omega] at f2
    rw [← gs] at f1 f2
    have l3 : ((m * g : Nat) : Int) = (m : Int) * (g : Int) := by push_cast; rfl
    have l4 : (((m - 1) * g : Nat) : Int) = ((m : Int) - 1) * (g : Int) := by rw [show (m : Int) - 1 = ((m - 1 : Nat) : Int) by omega]; push_cast; rfl
    rw [← l3] at l1
    rw [← l4] at l2
    obtain ⟨x, hx⟩ : ∃ x, m * g = x := ⟨_, rfl⟩
    obtain ⟨y, hy⟩ : ∃ y, (m - 1) * g = y := ⟨_, rfl⟩
    rw [hx] at f1 l1
    rw [hy] at f2 l2
    have z1 := (IntWalk.i64_left _).symm.trans f1
    have z2 := (IntWalk.i64_left _).symm.trans f2
    have e1 : decide ((1024 : Int) < (m : Int)) = false := by simp; omega
    have e2 : decide ((x : Int) < n) = false := by simp; omega
    have e3 : decide (n ≤ (y : Int)) = false := by simp; omega
    clear hq hm hg gs l3 l4 hx hy f1 f2
    go_wp2_with fail
    refine (adPages_c t p (u : Int) n hn0 hn1 _).mono ?_
    rintro e w4 ⟨rfl, hb4⟩
    rw [HM.out, HQ.out]
    have HT4 := hidp (HT3.out.below hb4)
    have hc4 := hc3.keep hb4
    clear c1
    have c1 := hc4.three
    go_wp2_with fail
    refine (live_c _ HT4.out).mono ?_
    rintro e wl ⟨rfl, hbl⟩
    go_wp2
    go_ret
    refine ⟨by first | rfl | simp, ?_⟩
    repeat (first | exact B0 _ | (with_reducible refine Bgo ?_ (by assumption)) | (with_reducible refine Bdrew ?_) | (with_reducible refine Bdraw ?_ _) | (with_reducible refine Bnew ?_ _) | (with_reducible refine Bput ?_ (by first | (simp; done) | (simp; omega)) _))

set_option maxHeartbeats 1600000 in
theorem AddrBack_ny (t p s i n : Int) (hi0 : -9223372036854775808 ≤ i) (hi1 : i ≤ 9223372036854775807) (hn0 : -9223372036854775808 ≤ n) (hn1 : n ≤ 9223372036854775807) (ha : addrB t p s i n = false) (hs : spotB t p s n = true) (w : World) (hT : SlotsLaid w) :
    Calls Tryd.prog 5 #[.agg #[.int .i64 t, .int .i64 p, .int .i64 s], .int .i64 i, .int .i64 n] w (Keeps w) := by
  have HT0 := hidp (hT.alloc (.cells #[.int .i64 t, .int .i64 p, .int .i64 s] 23))
  clear hT
  have hc0 := Held.new w 23 #[.int .i64 t, .int .i64 p, .int .i64 s]
  have c1 := hc0.three
  have HX := hidp (addrI_no ha)
  have HA := hidp ha
  clear ha
  obtain ⟨hsb, hsi, -, -, ⟨b1, b2⟩, b3, b4⟩ := spot_parts hs
  obtain ⟨d, hd⟩ : ∃ d, spotP t p s n = d := ⟨_, rfl⟩
  obtain ⟨o, ho⟩ : ∃ o, spotO t p s n = o := ⟨_, rfl⟩
  rw [hd, ho] at hsb hsi
  rw [hd] at b1 b2
  rw [ho] at b3 b4
  have HS := hidp hs
  have HD := hidp hd
  have HO := hidp ho
  have HSB := hidp hsb
  have HSI := hidp hsi
  clear hs hd ho hsb hsi
  go_enter Tryd.func5, Tryd.ntmps5
  go_wp2_with fail
  refine (adOf_c t p s i n _).mono ?_
  rintro e w1 ⟨rfl, hb1⟩
  rw [HX.out, HA.out]
  have HT1 := hidp (HT0.out.below hb1)
  have hc1 := hc0.keep hb1
  clear c1
  have c1 := hc1.three
  go_wp2_with fail
  refine (adPage_c t p s n hn0 hn1 _).mono ?_
  rintro e w2 ⟨rfl, hb2⟩
  rw [HD.out, HO.out, HS.out]
  have HT2 := hidp (HT1.out.below hb2)
  have hc2 := hc1.keep hb2
  clear c1
  have c1 := hc2.three
  go_wp2_with fail
  refine (adOf_c t p s d o _).mono ?_
  rintro e w3 ⟨rfl, hb3⟩
  rw [HSI.out, HSB.out]
  have HT3 := hidp (HT2.out.below hb3)
  have hc3 := hc2.keep hb3
  clear c1
  have c1 := hc3.three
  cases hq : needB t p s n
  · have HQ := hidp hq
    have HQ2 := hidp (need_no hq)
    clear hq
    go_wp2_with fail
    refine (adPages_c t p s n hn0 hn1 _).mono ?_
    rintro e w4 ⟨rfl, hb4⟩
    rw [HQ2.out, HQ.out]
    have HT4 := hidp (HT3.out.below hb4)
    have hc4 := hc3.keep hb4
    clear c1
    have c1 := hc4.three
    go_wp2_with fail
    refine (live_c _ HT4.out).mono ?_
    rintro e wl ⟨rfl, hbl⟩
    go_wp2
    go_ret
    refine ⟨by first | rfl | simp, ?_⟩
    repeat (first | exact B0 _ | (with_reducible refine Bgo ?_ (by assumption)) | (with_reducible refine Bdrew ?_) | (with_reducible refine Bdraw ?_ _) | (with_reducible refine Bnew ?_ _) | (with_reducible refine Bput ?_ (by first | (simp; done) | (simp; omega)) _))
  · obtain ⟨g, m, hg, hm, m1, m2, l1, l2, g1, g2, gs, s1, s2, n2⟩ := need_few hq
    have HQ := hidp hq
    have HM := hidp hm
    obtain ⟨u, rfl⟩ : ∃ u : Nat, s = u := ⟨s.toNat, by omega⟩
    rw [Int.toNat_natCast] at gs
    have f1 := shl_any m u (by omega) (by omega)
    have f2 := shl_any (m - 1) u (by omega) (by omega)
    rw [show ((m - 1 : Nat) : Int) = (m : Int) - 1 by omega] at f2
    rw [← gs] at f1 f2
    have l3 : ((m * g : Nat) : Int) = (m : Int) * (g : Int) := by push_cast; rfl
    have l4 : (((m - 1) * g : Nat) : Int) = ((m : Int) - 1) * (g : Int) := by rw [show (m : Int) - 1 = ((m - 1 : Nat) : Int) by omega]; push_cast; rfl
    rw [← l3] at l1
    rw [← l4] at l2
    obtain ⟨x, hx⟩ : ∃ x, m * g = x := ⟨_, rfl⟩
    obtain ⟨y, hy⟩ : ∃ y, (m - 1) * g = y := ⟨_, rfl⟩
    rw [hx] at f1 l1
    rw [hy] at f2 l2
    have z1 := (IntWalk.i64_left _).symm.trans f1
    have z2 := (IntWalk.i64_left _).symm.trans f2
    have e1 : decide ((1024 : Int) < (m : Int)) = false := by simp; omega
    have e2 : decide ((x : Int) < n) = false := by simp; omega
    have e3 : decide (n ≤ (y : Int)) = false := by simp; omega
    clear hq hm hg gs l3 l4 hx hy f1 f2
    go_wp2_with fail
    refine (adPages_c t p (u : Int) n hn0 hn1 _).mono ?_
    rintro e w4 ⟨rfl, hb4⟩
    rw [HM.out, HQ.out]
    have HT4 := hidp (HT3.out.below hb4)
    have hc4 := hc3.keep hb4
    clear c1
    have c1 := hc4.three
    go_wp2_with fail
    refine (live_c _ HT4.out).mono ?_
    rintro e wl ⟨rfl, hbl⟩
    go_wp2
    go_ret
    refine ⟨by first | rfl | simp, ?_⟩
    repeat (first | exact B0 _ | (with_reducible refine Bgo ?_ (by assumption)) | (with_reducible refine Bdrew ?_) | (with_reducible refine Bdraw ?_ _) | (with_reducible refine Bnew ?_ _) | (with_reducible refine Bput ?_ (by first | (simp; done) | (simp; omega)) _))

set_option maxHeartbeats 1600000 in
theorem AddrBack_nn (t p s i n : Int) (hi0 : -9223372036854775808 ≤ i) (hi1 : i ≤ 9223372036854775807) (hn0 : -9223372036854775808 ≤ n) (hn1 : n ≤ 9223372036854775807) (ha : addrB t p s i n = false) (hs : spotB t p s n = false) (w : World) (hT : SlotsLaid w) :
    Calls Tryd.prog 5 #[.agg #[.int .i64 t, .int .i64 p, .int .i64 s], .int .i64 i, .int .i64 n] w (Keeps w) := by
  have HT0 := hidp (hT.alloc (.cells #[.int .i64 t, .int .i64 p, .int .i64 s] 23))
  clear hT
  have hc0 := Held.new w 23 #[.int .i64 t, .int .i64 p, .int .i64 s]
  have c1 := hc0.three
  have HX := hidp (addrI_no ha)
  have HA := hidp ha
  clear ha
  have HS := hidp hs
  have HD := hidp (spot_no hs).1
  have HO := hidp (spot_no hs).2
  clear hs
  go_enter Tryd.func5, Tryd.ntmps5
  go_wp2_with fail
  refine (adOf_c t p s i n _).mono ?_
  rintro e w1 ⟨rfl, hb1⟩
  rw [HX.out, HA.out]
  have HT1 := hidp (HT0.out.below hb1)
  have hc1 := hc0.keep hb1
  clear c1
  have c1 := hc1.three
  go_wp2_with fail
  refine (adPage_c t p s n hn0 hn1 _).mono ?_
  rintro e w2 ⟨rfl, hb2⟩
  rw [HD.out, HO.out, HS.out]
  have HT2 := hidp (HT1.out.below hb2)
  have hc2 := hc1.keep hb2
  clear c1
  have c1 := hc2.three
  cases hq : needB t p s n
  · have HQ := hidp hq
    have HQ2 := hidp (need_no hq)
    clear hq
    go_wp2_with fail
    refine (adPages_c t p s n hn0 hn1 _).mono ?_
    rintro e w3 ⟨rfl, hb3⟩
    rw [HQ2.out, HQ.out]
    have HT3 := hidp (HT2.out.below hb3)
    have hc3 := hc2.keep hb3
    clear c1
    have c1 := hc3.three
    go_wp2_with fail
    refine (live_c _ HT3.out).mono ?_
    rintro e wl ⟨rfl, hbl⟩
    go_wp2
    go_ret
    refine ⟨by first | rfl | simp, ?_⟩
    repeat (first | exact B0 _ | (with_reducible refine Bgo ?_ (by assumption)) | (with_reducible refine Bdrew ?_) | (with_reducible refine Bdraw ?_ _) | (with_reducible refine Bnew ?_ _) | (with_reducible refine Bput ?_ (by first | (simp; done) | (simp; omega)) _))
  · obtain ⟨g, m, hg, hm, m1, m2, l1, l2, g1, g2, gs, s1, s2, n2⟩ := need_few hq
    have HQ := hidp hq
    have HM := hidp hm
    obtain ⟨u, rfl⟩ : ∃ u : Nat, s = u := ⟨s.toNat, by omega⟩
    rw [Int.toNat_natCast] at gs
    have f1 := shl_any m u (by omega) (by omega)
    have f2 := shl_any (m - 1) u (by omega) (by omega)
    rw [show ((m - 1 : Nat) : Int) = (m : Int) - 1 by omega] at f2
    rw [← gs] at f1 f2
    have l3 : ((m * g : Nat) : Int) = (m : Int) * (g : Int) := by push_cast; rfl
    have l4 : (((m - 1) * g : Nat) : Int) = ((m : Int) - 1) * (g : Int) := by rw [show (m : Int) - 1 = ((m - 1 : Nat) : Int) by omega]; push_cast; rfl
    rw [← l3] at l1
    rw [← l4] at l2
    obtain ⟨x, hx⟩ : ∃ x, m * g = x := ⟨_, rfl⟩
    obtain ⟨y, hy⟩ : ∃ y, (m - 1) * g = y := ⟨_, rfl⟩
    rw [hx] at f1 l1
    rw [hy] at f2 l2
    have z1 := (IntWalk.i64_left _).symm.trans f1
    have z2 := (IntWalk.i64_left _).symm.trans f2
    have e1 : decide ((1024 : Int) < (m : Int)) = false := by simp; omega
    have e2 : decide ((x : Int) < n) = false := by simp; omega
    have e3 : decide (n ≤ (y : Int)) = false := by simp; omega
    clear hq hm hg gs l3 l4 hx hy f1 f2
    go_wp2_with fail
    refine (adPages_c t p (u : Int) n hn0 hn1 _).mono ?_
    rintro e w3 ⟨rfl, hb3⟩
    rw [HM.out, HQ.out]
    have HT3 := hidp (HT2.out.below hb3)
    have hc3 := hc2.keep hb3
    clear c1
    have c1 := hc3.three
    go_wp2_with fail
    refine (live_c _ HT3.out).mono ?_
    rintro e wl ⟨rfl, hbl⟩
    go_wp2
    go_ret
    refine ⟨by first | rfl | simp, ?_⟩
    repeat (first | exact B0 _ | (with_reducible refine Bgo ?_ (by assumption)) | (with_reducible refine Bdrew ?_) | (with_reducible refine Bdraw ?_ _) | (with_reducible refine Bnew ?_ _) | (with_reducible refine Bput ?_ (by first | (simp; done) | (simp; omega)) _))

theorem AddrBack_calls (t p s i n : Int) (hi0 : -9223372036854775808 ≤ i) (hi1 : i ≤ 9223372036854775807) (hn0 : -9223372036854775808 ≤ n) (hn1 : n ≤ 9223372036854775807) (w : World) (hT : SlotsLaid w) :
    Calls Tryd.prog 5 #[.agg #[.int .i64 t, .int .i64 p, .int .i64 s], .int .i64 i, .int .i64 n] w (Keeps w) := by
  cases ha : addrB t p s i n <;> cases hs : spotB t p s n
  · exact AddrBack_nn t p s i n hi0 hi1 hn0 hn1 ha hs w hT
  · exact AddrBack_ny t p s i n hi0 hi1 hn0 hn1 ha hs w hT
  · exact AddrBack_yn t p s i n hi0 hi1 hn0 hn1 ha hs w hT
  · exact AddrBack_yy t p s i n hi0 hi1 hn0 hn1 ha hs w hT

end Go.Proofs.YtnbocmnfcgjimaaDoor
