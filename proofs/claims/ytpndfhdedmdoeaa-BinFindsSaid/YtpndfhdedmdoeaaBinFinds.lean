/-
  The law BinFinds: the walk. Written by bin/gen_finds.py.
-/
import Derived.Test.YtpndfhdedmdoeaaBinLive2
import Derived.Test.YtpndfhdedmdoeaaOpenVals
import Derived.Test.YtpndfhdedmdoeaaViewRef6
namespace Go.Proofs.Ytpndfhdedmdoeaa
open Go.ChangeShapes Go.WideShapes Go.ChangeAt Go.RowKit Go.Maps
set_option linter.unusedVariables false
set_option linter.unusedSimpArgs false
set_option maxRecDepth 100000

theorem BinFinds_few1 (t q s nn : Int) (A : Option Addr) (c n : Nat) (hn : 500 < n) (W : World) : Calls Try.prog 4 #[.agg #[.int .i64 t, .int .i64 q, .int .i64 s], .slice A n c, .int .i64 nn] W (Keeps W) := by
  have t0 : decide ((500 : Int) < n) = true := decide_eq_true (by omega)
  obtain ⟨x0, x1, x2⟩ := (Held.new W 23 #[.int .i64 t, .int .i64 q, .int .i64 s]).three
  go_enter Try.func4, Try.ntmps4
  go_wp2_with fail
  refine (live14_c _).mono ?_
  rintro e w2 ⟨rfl, hb⟩
  go_wp2
  go_ret
  exact ⟨rfl, Bgo (Bnew (B0 W) _) hb⟩

theorem BinFinds_few3 (t q s nn : Int) (A : Option Addr) (c n : Nat) (hn : n ≤ 500) (hq : 64 < q) (W : World) : Calls Try.prog 4 #[.agg #[.int .i64 t, .int .i64 q, .int .i64 s], .slice A n c, .int .i64 nn] W (Keeps W) := by
  have t0 : decide ((500 : Int) < n) = false := decide_eq_false (by omega)
  have t2 : decide (q ≤ (64 : Int)) = false := decide_eq_false (by omega)
  obtain ⟨x0, x1, x2⟩ := (Held.new W 23 #[.int .i64 t, .int .i64 q, .int .i64 s]).three
  go_enter Try.func4, Try.ntmps4
  go_wp2_with fail
  refine (few14_c t q s _).mono ?_
  rintro e w1 ⟨rfl, hb⟩
  rw [t2]
  have HB1 := hidp (Bgo (Bnew (B0 W) _) hb)
  clear hb
  go_wp2_with fail
  refine (live14_c _).mono ?_
  rintro e w2 ⟨rfl, hb⟩
  go_wp2
  go_ret
  exact ⟨rfl, Bgo HB1.out hb⟩

def wholeF14 (vals : List Nat) : Nat → Option Nat := fun i => vals[i]?
set_option maxHeartbeats 6400000 in
theorem BinFinds_main (t q s nn : Int) (A : Option Addr) (c n : Nat) (vals : List Nat) (HNN : Hid (vals.length = n)) (H32 : Hid (∀ x ∈ vals, x < 2 ^ 32))
    (hn : n ≤ 500) (hq : q ≤ 64) (hnc : n ≤ c) (hcm : c ≤ maxLen) (W : World) (HR : Hid (Reads W W.heap.size 1 A n (valVs vals))) :
    Calls Try.prog 4 #[.agg #[.int .i64 t, .int .i64 q, .int .i64 s], .slice A n c, .int .i64 nn] W (Keeps W) := by
  have t0 : decide ((500 : Int) < n) = false := decide_eq_false (by omega)
  have t2 : decide (q ≤ (64 : Int)) = true := decide_eq_true (by omega)
  have hcm2 : c ≤ 9223372036854775807 := hcm
  have HC0 := hidp (Held.new W 23 #[.int .i64 t, .int .i64 q, .int .i64 s])
  obtain ⟨x0, x1, x2⟩ := HC0.out.three
  go_enter Try.func4, Try.ntmps4
  go_wp2_with fail
  refine (few14_c t q s _).mono ?_
  rintro e w1 ⟨rfl, hb⟩
  rw [t2]
  have HB1 := hidp (Bgo (Bnew (B0 W) (.cells #[.int .i64 t, .int .i64 q, .int .i64 s] 23)) hb)
  have HC1 := hidp (HC0.out.keep hb)
  have HR1 : Hid (Reads w1 w1.heap.size 1 A n (valVs vals)) := hidp ((HR.out.below HB1.out).more HB1.out.size)
  clear hb HC0
  go_wp2_with fail
  refine (Whole_c A c vals n HNN.out (by omega) H32.out _ (by
    intro h0
    obtain ⟨ad, e, _, hc⟩ := HR1.out.2 h0
    exact ⟨ad, e, hc⟩)).mono ?_
  rintro e w2 ⟨b1, o1, rfl, hI, hB⟩
  have HV2 : Hid (IsView w2 w1.heap.size b1 n true o1 (wholeF14 vals) freshS) := hidp hI
  have HB2 := hidp (Bgo HB1.out hB)
  have HR2 : Hid (Reads w2 w2.heap.size 1 A n (valVs vals)) := hidp ((HR1.out.below hB).more hB.size)
  have HC2 := hidp (HC1.out.keep hB)
  have HLT : Hid (W.heap.size < w1.heap.size) := hidp HC1.out.lt
  clear hI hB HR1
  go_wp2_with fail
  refine (RWhole_c A c vals n HNN.out (by omega) hnc hcm H32.out _ HR2.out).mono ?_
  rintro e w3 ⟨b2, v2, rfl, hI, hB⟩
  have HV3 := hidp (HV2.out.keep hB)
  have HA3 : Hid (IsRefV w3 w2.heap.size b2 n true v2 (wholeF14 vals) freshS) := hidp hI
  have HB3 := hidp (Bgo HB2.out hB)
  have HC3 := hidp (HC2.out.keep hB)
  have HL2 : Hid (∀ i, o1.A b1 i → i < w2.heap.size) := hidp HV2.out.lt
  have HL1 : Hid (w1.heap.size ≤ w2.heap.size) := hidp (by have h1 := HV2.out.head.lt; have h2 := HV2.out.ge b1 (.inl (.inl (.inl rfl))); omega)
  clear hI hB HV2 HR2 HC2 HC1
  generalize hz1 : w1.heap.size = z1 at *
  generalize hz2 : w2.heap.size = z2 at *
  have HD3 : Hid (Duo W (vOb z1 b1 n true (wholeF14 vals)) (rOb z2 b2 n true (wholeF14 vals)) (o1.A b1) (OwnF b2 6 v2) (fun g => g = W.heap.size) freshS freshS w3) := hidp ⟨⟨o1, HV3.out, rfl⟩, ⟨v2, HA3.out, rfl⟩, fun i hi hj => by have := HL2.out i hi; have := HA3.out.parts.ge i hj; omega, fun g hg => by
      subst hg
      exact ⟨HC3.out.lt, fun x => by have := HV3.out.ge _ x; have := HLT.out; omega, fun x => by have := HA3.out.parts.ge _ x; have := HLT.out; have := HL1.out; omega⟩, fun i hi => by
      rcases hi with hi | hi
      · have := HV3.out.ge _ hi; have := HLT.out; omega
      · have := HA3.out.parts.ge _ hi; have := HLT.out; have := HL1.out; omega, HB3.out⟩
  clear HV3 HA3 HB3 HB2 HB1 HL2 HL1 HLT hz1 hz2 x0 x1 x2
  obtain ⟨fv, hfv⟩ : ∃ fv, foundI (findI n (wholeF14 vals) t q s nn freshS).1 = fv := ⟨_, rfl⟩
  obtain ⟨fb, hfb⟩ : ∃ fb, (findI n (wholeF14 vals) t q s nn freshS).1.isSome = fb := ⟨_, rfl⟩
  have HFV := hidp hfv
  have HFB := hidp hfb
  clear hfv hfb
  have hvv : (fv == fv) = true := by simp
  have hbb : (fb == fb) = true := by simp
  obtain ⟨x0, x1, x2⟩ := HC3.out.three
  go_wp2_with fail
  refine (bnFind_c (by omega) (by omega) nn HD3.out.at1).mono ?_
  rintro e w4 ⟨rfl, h1, _⟩
  obtain ⟨A4, h2, h3⟩ := HD3.out.left1 h1.left
  have HD4 := hidp h2
  have HC4 := hidp (h3.held rfl HC3.out)
  rw [HFV.out, HFB.out]
  clear h1 h2 h3 HD3 HC3 x0 x1 x2
  obtain ⟨x0, x1, x2⟩ := HC4.out.three
  go_wp2_with fail
  refine (r14Find_c (by omega) (by omega) nn HD4.out.at2).mono ?_
  rintro e w5 ⟨rfl, h1, _⟩
  obtain ⟨A5, h2, h3⟩ := HD4.out.left2 h1.left
  have HD := hidp h2
  rw [HFV.out, HFB.out]
  clear h1 h2 h3 HD4 HC4 x0 x1 x2 HFV HFB
  generalize (findI n (wholeF14 vals) t q s nn freshS).2 = sx at HD
  obtain ⟨o, hI, _⟩ := HD.out.i1
  obtain ⟨v, hR, _⟩ := HD.out.i2
  have HV := hidp hI
  have HAA := hidp hR
  have HB := hidp HD.out.bel
  have HL : Hid (sx.rd.length < 2 ^ 40 ∧ sx.wr.length < 2 ^ 40) := hidp (by have := hI.ok.few; omega)
  clear hI hR HD
  go_wp2_with fail
  refine (vReads_c HL.out.1 _ HV.out).mono ?_
  rintro e w90 ⟨r6, rfl, ho, hb⟩
  have HV := hidp (HV.out.keep hb)
  have HAA := hidp (HAA.out.keep hb)
  have HB := hidp (Bgo HB.out hb)
  have HR6 := hidp (rowV_nat6 ho)
  clear hb ho
  go_wp2_with fail
  refine (vWrites_c HL.out.2 _ HV.out).mono ?_
  rintro e w91 ⟨r7, rfl, ho, hb⟩
  have HV := hidp (HV.out.keep hb)
  have HAA := hidp (HAA.out.keep hb)
  have HB := hidp (Bgo HB.out hb)
  have HP7 := hidp (RowP.of_own ho)
  have HR7 := hidp (HR6.out.below hb)
  clear hb ho HR6
  go_wp2_with fail
  refine (vMissing_c _ HV.out).mono ?_
  rintro e w92 ⟨rfl, hw⟩
  subst hw
  go_wp2_with fail
  refine (Same_c HL.out.1 HL.out.2 r6 r7 _ HAA.out HR7.out HP7.out).mono ?_
  rintro e w93 ⟨rfl, hb⟩
  have HB := hidp (Bgo HB.out hb)
  clear hb HV HAA HR7 HP7
  go_wp2_with fail
  refine (live14_c _).mono ?_
  rintro e w94 ⟨rfl, hb⟩
  have HB := hidp (Bgo HB.out hb)
  clear hb
  go_wp2
  go_ret
  exact ⟨rfl, HB.out⟩

theorem BinFinds_calls (t q s nn : Int) (A : Option Addr) (c : Nat) (vals : List Nat) (hnc : vals.length ≤ c) (hcm : c ≤ maxLen) (h32 : ∀ x ∈ vals, x < 2 ^ 32)
    (W : World) (HR : Hid (Reads W W.heap.size 1 A vals.length (valVs vals))) :
    Calls Try.prog 4 #[.agg #[.int .i64 t, .int .i64 q, .int .i64 s], .slice A vals.length c, .int .i64 nn] W (Keeps W) := by
  by_cases hn : vals.length ≤ 500
  · by_cases hq : q ≤ 64
    · exact BinFinds_main t q s nn A c _ vals (hidp rfl) (hidp h32) hn hq hnc hcm W HR
    · exact BinFinds_few3 t q s nn A c _ hn (by omega) W
  · exact BinFinds_few1 t q s nn A c _ (by omega) W
end Go.Proofs.Ytpndfhdedmdoeaa
