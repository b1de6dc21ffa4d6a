/-
  The law BinFits: the walk. Written by bin/gen_fits.py.
-/
import Derived.Test.YtpndfhdedmdoeaaF10
import Derived.Test.YtpndfhdedmdoeaaF27
import Derived.Test.YtpndfhdedmdoeaaKit
import Derived.Lib.SmallJoins
namespace Go.Proofs.Ytpndfhdedmdoeaa
open Go.ChangeShapes Go.WideShapes Go.ChangeAt Go.RowKit Go.Maps
set_option linter.unusedVariables false
set_option linter.unusedSimpArgs false
set_option maxRecDepth 100000

def wholeT14 (vals : List Nat) : Nat → Option Nat := fun i => vals[i]?

set_option maxHeartbeats 3200000 in
theorem longest14_c {H : AuH} {n c : Nat} (HV : HeapV H n c) (ad : Addr) (w : World) (hv : IsVals w ad n H.V) :
    Calls Try.prog 23 #[.agg #[.int .i64 (H.t : Int), .int .i64 (H.p : Int), .int .i64 (H.s : Int)], .slice (some ad) n c] w fun e w' => e = .returned (.int .i64 (longF H H.p : Int)) ∧ Below w.heap.size w w' := by
  have HVL := hidp hv
  have HC := hidp ((Held.new w 23 #[.int .i64 (H.t : Int), .int .i64 (H.p : Int), .int .i64 (H.s : Int)]).alloc (.cells #[.int .i64 (H.t : Int), .int .i64 (H.p : Int), .int .i64 (H.s : Int), .slice (some ad) n c] 53))
  have HX := hidp (Held.new2 w (.cells #[.int .i64 (H.t : Int), .int .i64 (H.p : Int), .int .i64 (H.s : Int)] 23) 53 #[.int .i64 (H.t : Int), .int .i64 (H.p : Int), .int .i64 (H.s : Int), .slice (some ad) n c])
  have HB := hidp (Bnew (Bnew (B0 w) (.cells #[.int .i64 (H.t : Int), .int .i64 (H.p : Int), .int .i64 (H.s : Int)] 23)) (.cells #[.int .i64 (H.t : Int), .int .i64 (H.p : Int), .int .i64 (H.s : Int), .slice (some ad) n c] 53))
  obtain ⟨x0, x1, x2⟩ := HC.out.three
  obtain ⟨y0, y1, y2, y3⟩ := HX.out.four
  have hnums := HV.nums
  have hp1 := hnums.2.2.2.1
  clear hv
  go_enter Try.func23, Try.ntmps23
  go_wp2_with fail
  clear x0 x1 x2 y0 y1 y2 y3
  go_loopw [6, 7, 8] (fun u6 u7 _ wr => ∃ (k a : Nat), k ≤ H.p ∧ u7 = .int .i64 (k : Int) ∧ u6 = .int .i64 (a : Int) ∧ Hid (longF H k = a) ∧ a ≤ 1024 ∧ Hid (Held wr w.heap.size 23 #[.int .i64 (H.t : Int), .int .i64 (H.p : Int), .int .i64 (H.s : Int)]) ∧ Hid (Held wr (w.heap.size + 1) 53 #[.int .i64 (H.t : Int), .int .i64 (H.p : Int), .int .i64 (H.s : Int), .slice (some ad) n c]) ∧ Hid (Below w.heap.size w wr)) (fun _ u7 _ _ => H.p - (intOf u7).toNat)
  case atStart => exact ⟨0, 0, by omega, by go_num, by go_num, hidp rfl, by omega, HC, HX, HB⟩
  case round =>
    clear HC HX HB
    obtain ⟨k, a, hk, rfl, rfl, HA, ha, HC, HX, HB⟩ := hrel
    obtain ⟨x0, x1, x2⟩ := HC.out.three
    obtain ⟨y0, y1, y2, y3⟩ := HX.out.four
    by_cases hlt : k < H.p
    · have t0 : decide ((k : Int) < (H.p : Int)) = true := decide_eq_true (by omega)
      obtain ⟨kk, hkk⟩ : ∃ kk, H.K k = kk := ⟨_, rfl⟩
      obtain ⟨ll, hll⟩ : ∃ ll, H.ln k = ll := ⟨_, rfl⟩
      have hl1024 : kk = 1 → ll ≤ 1024 := fun e => by rw [← hll]; exact (H.ln_pos k (by omega)).2
      have HK := hidp hkk
      have HL := hidp hll
      clear hkk hll
      go_wp2_with fail
      refine (xInfo_c HV ad hlt _ (HVL.out.below HB.out)).mono ?_
      rintro e w5 ⟨rfl, hb⟩
      rw [HK.out, HL.out]
      obtain ⟨cc, hcc⟩ : ∃ cc, H.Cl k = cc := ⟨_, rfl⟩
      rw [hcc]
      clear hcc
      have HC5 := hidp ((HC.out.keep hb).alloc (.cells #[.int .i64 kk, .int .i64 (ll : Int), .int .i64 cc] 55))
      have HX5 := hidp ((HX.out.keep hb).alloc (.cells #[.int .i64 kk, .int .i64 (ll : Int), .int .i64 cc] 55))
      have HB5 := hidp (Bnew (Bgo HB.out hb) (.cells #[.int .i64 kk, .int .i64 (ll : Int), .int .i64 cc] 55))
      obtain ⟨z0, z1, z2⟩ := (Held.new w5 55 #[.int .i64 kk, .int .i64 (ll : Int), .int .i64 cc]).three
      clear hb HC HX HB x0 x1 x2 y0 y1 y2 y3
      by_cases h1 : kk = 1
      · have hl2 := hl1024 h1
        subst h1
        obtain ⟨m, hm⟩ : ∃ m, max a ll = m := ⟨_, rfl⟩
        have hmx : (if (a : Int) < (ll : Int) then (ll : Int) else (a : Int)) = (m : Int) := by split <;> omega
        have HA2 : Hid (longF H (k + 1) = m) := hidp (by unfold longF; rw [HK.out, if_pos rfl, HA.out, HL.out, hm])
        have hm2 : m ≤ 1024 := by omega
        clear hl1024 hm
        go_wp2_with fail
        go_roundw
        case rel => exact ⟨k + 1, m, by omega, by go_num, by go_num, HA2, hm2, HC5, HX5, HB5⟩
        case measure => simp [intOf]; omega
      · have t1 : (kk == 1) = false := by simpa using h1
        have HA2 : Hid (longF H (k + 1) = a) := hidp (by unfold longF; rw [HK.out, if_neg h1, HA.out])
        clear hl1024
        go_wp2_with fail
        go_roundw
        case rel => exact ⟨k + 1, a, by omega, by go_num, by go_num, HA2, ha, HC5, HX5, HB5⟩
        case measure => simp [intOf]; omega
    · have t0 : decide ((k : Int) < (H.p : Int)) = false := decide_eq_false (by omega)
      have HE : Hid (longF H H.p = a) := hidp (by rw [← HA.out]; congr 1; omega)
      go_wp2_with fail
      go_ret
      exact ⟨by rw [HE.out]; rfl, HB.out⟩

theorem BinFits_few (t q s nn : Int) (A : Option Addr) (n c m : Nat) (hq : 64 < q) (W : World)  : Calls Try.prog 5 #[.agg #[.int .i64 t, .int .i64 q, .int .i64 s], .slice A n c, .int .i64 nn] W (Keeps W) := by
  have t2 : decide (q ≤ (64 : Int)) = false := decide_eq_false (by omega)
  have HC := hidp (Held.new W 23 #[.int .i64 t, .int .i64 q, .int .i64 s])
  have HB := hidp (Bnew (B0 W) (.cells #[.int .i64 t, .int .i64 q, .int .i64 s] 23))
  obtain ⟨x0, x1, x2⟩ := HC.out.three
  go_enter Try.func5, Try.ntmps5
  go_wp2_with fail
  refine (few14_c t q s _).mono ?_
  rintro e w1 ⟨rfl, hb⟩
  rw [t2]
  replace HC := hidp (HC.out.keep hb)
  replace HB := hidp (Bgo HB.out hb)
  clear hb
  clear x0 x1 x2
  obtain ⟨x0, x1, x2⟩ := HC.out.three
  go_wp2_with fail
  refine (live14_c _).mono ?_
  rintro e w19 ⟨rfl, hb⟩
  have HBL := hidp (Bgo HB.out hb)
  clear hb
  go_wp2
  go_ret
  exact ⟨rfl, HBL.out⟩

theorem BinFits_no (t q s nn : Int) (A : Option Addr) (n c m : Nat) (hq : q ≤ 64) (W : World) (hX : Hid (XCheckIs W t q s A n c m false)) : Calls Try.prog 5 #[.agg #[.int .i64 t, .int .i64 q, .int .i64 s], .slice A n c, .int .i64 nn] W (Keeps W) := by
  have t2 : decide (q ≤ (64 : Int)) = true := decide_eq_true (by omega)
  have HC := hidp (Held.new W 23 #[.int .i64 t, .int .i64 q, .int .i64 s])
  have HB := hidp (Bnew (B0 W) (.cells #[.int .i64 t, .int .i64 q, .int .i64 s] 23))
  obtain ⟨x0, x1, x2⟩ := HC.out.three
  go_enter Try.func5, Try.ntmps5
  go_wp2_with fail
  refine (few14_c t q s _).mono ?_
  rintro e w1 ⟨rfl, hb⟩
  rw [t2]
  replace HC := hidp (HC.out.keep hb)
  replace HB := hidp (Bgo HB.out hb)
  clear hb
  clear x0 x1 x2
  obtain ⟨x0, x1, x2⟩ := HC.out.three
  go_wp2_with fail
  refine (xSound_c t q s A n c m false _ (hX.out.grown HB.out)).mono ?_
  rintro e w2 ⟨rfl, hb⟩
  replace HC := hidp (HC.out.keep hb)
  replace HB := hidp (Bgo HB.out hb)
  clear hb
  clear x0 x1 x2
  obtain ⟨x0, x1, x2⟩ := HC.out.three
  go_wp2_with fail
  refine (live14_c _).mono ?_
  rintro e w19 ⟨rfl, hb⟩
  have HBL := hidp (Bgo HB.out hb)
  clear hb
  go_wp2
  go_ret
  exact ⟨rfl, HBL.out⟩

set_option maxHeartbeats 12800000 in
theorem BinFits_main {H : AuH} (ad : Addr) (n c m : Nat) (HV : HeapV H n c) (nn : Int) (vals : List Nat) (HNN : Hid (vals.length = n)) (H32 : Hid (∀ x ∈ vals, x < 2 ^ 32)) (hVK : ∀ i, H.V i = vals.getD i 0) (hq : H.p ≤ 64) (hr : ∀ i, i < 10 → H.rule i)
    (W : World) (HR : Hid (Reads W W.heap.size 1 (some ad) n (valVs vals))) (hv : Hid (IsVals W ad n H.V)) (hX : Hid (XCheckIs W H.t H.p H.s (some ad) n c m true)) :
    Calls Try.prog 5 #[.agg #[.int .i64 (H.t : Int), .int .i64 (H.p : Int), .int .i64 (H.s : Int)], .slice (some ad) n c, .int .i64 nn] W (Keeps W) := by
  have t2 : decide ((H.p : Int) ≤ 64) = true := decide_eq_true (by omega)
  have hnb : n ≤ 6238 := by have := HV.nums; omega
  have hcm : c ≤ maxLen := HV.max
  have hcm2 : c ≤ 9223372036854775807 := hcm
  have hn40 : n < 2 ^ 40 := by omega
  have hK : ∀ i, i < n → wholeT14 vals i = some (H.V i) := fun i hi => by
    unfold wholeT14
    rw [hVK i, List.getElem?_eq_getElem (by rw [HNN.out]; exact hi)]
    simp [List.getD, List.getElem?_eq_getElem (show i < vals.length by rw [HNN.out]; exact hi)]
  have hfit := fits_heap HV hr hK nn
  obtain ⟨LF, hLF⟩ : ∃ LF, longF H H.p = LF := ⟨_, rfl⟩
  rw [hLF] at hfit
  have HLF := hidp hLF
  clear hLF
  obtain ⟨fo, hfo⟩ : ∃ fo, (findI n (wholeT14 vals) H.t H.p H.s nn freshS).1 = fo := ⟨_, rfl⟩
  obtain ⟨s1, hs1⟩ : ∃ s1, (findI n (wholeT14 vals) H.t H.p H.s nn freshS).2 = s1 := ⟨_, rfl⟩
  rw [hfo, hs1] at hfit
  have HFO := hidp hfo
  have HS1 := hidp hs1
  have HWR := hidp hfit.1
  have hfit := hidp hfit.2
  clear hfo hs1 hK hr hVK
  have HC := hidp (Held.new W 23 #[.int .i64 (H.t : Int), .int .i64 (H.p : Int), .int .i64 (H.s : Int)])
  have HB := hidp (Bnew (B0 W) (.cells #[.int .i64 (H.t : Int), .int .i64 (H.p : Int), .int .i64 (H.s : Int)] 23))
  obtain ⟨x0, x1, x2⟩ := HC.out.three
  go_enter Try.func5, Try.ntmps5
  go_wp2_with fail
  refine (few14_c H.t H.p H.s _).mono ?_
  rintro e w1 ⟨rfl, hb⟩
  rw [t2]
  replace HC := hidp (HC.out.keep hb)
  replace HB := hidp (Bgo HB.out hb)
  clear hb
  clear x0 x1 x2
  obtain ⟨x0, x1, x2⟩ := HC.out.three
  go_wp2_with fail
  refine (xSound_c H.t H.p H.s (some ad) n c m true _ (hX.out.grown HB.out)).mono ?_
  rintro e w2 ⟨rfl, hb⟩
  replace HC := hidp (HC.out.keep hb)
  replace HB := hidp (Bgo HB.out hb)
  clear hb
  clear x0 x1 x2
  obtain ⟨x0, x1, x2⟩ := HC.out.three
  have HRw : Hid (Reads w2 w2.heap.size 1 (some ad) n (valVs vals)) := hidp ((HR.out.below HB.out).more HB.out.size)
  go_wp2_with fail
  refine (Whole_c (some ad) c vals n HNN.out (by omega) H32.out _ (by
    intro h0
    obtain ⟨ad', e, _, hc⟩ := HRw.out.2 h0
    exact ⟨ad', e, hc⟩)).mono ?_
  rintro e w3 ⟨b1, o1, rfl, hI, hB⟩
  have HD := hidp (duo_made (W := W) (G := fun g => g = W.heap.size) hI HB.out.size (Bgo HB.out hB) (fun g hg => by
    have h1 := HC.out.lt
    have h3 := hB.size
    subst hg
    exact ⟨by omega, fun x => by have := hI.ge _ x; omega⟩))
  replace HC := hidp (HC.out.keep hB)
  clear hI hB HRw HB
  clear x0 x1 x2
  obtain ⟨x0, x1, x2⟩ := HC.out.three
  go_wp2_with fail
  refine (bnFind_c hn40 (by omega) nn HD.out.at1).mono ?_
  rintro e w4 ⟨rfl, h1, _⟩
  obtain ⟨A4, h2, h3⟩ := HD.out.left1 h1.left
  rw [show (fun i => vals[i]?) = wholeT14 vals from rfl] at h2 ⊢
  rw [HFO.out]
  rw [HS1.out] at h2
  replace HC := hidp (h3.held rfl HC.out)
  replace HD := hidp h2
  clear h1 h2 h3 HFO HS1
  clear x0 x1 x2
  obtain ⟨x0, x1, x2⟩ := HC.out.three
  rcases hfit.out with ⟨hfo, hno⟩ | ⟨p, hfo, hp, hk, hl, hn1, hlf⟩
  · subst hfo
    clear hfit
    by_cases hn1 : 1 ≤ nn
    · have t3 : decide ((1 : Int) ≤ nn) = true := decide_eq_true hn1
      have t4 : decide (nn ≤ (LF : Int)) = false := decide_eq_false (by have := hno hn1; omega)
      clear hno
      dsimp only [foundI, Option.isSome]
      go_wp2_with fail
      refine (longest14_c HV ad _ (hv.out.below HD.out.bel)).mono ?_
      rintro e w6 ⟨rfl, hb⟩
      rw [HLF.out]
      replace HD := hidp (HD.out.keep hb)
      replace HC := hidp (HC.out.keep hb)
      clear hb
      clear x0 x1 x2
      obtain ⟨x0, x1, x2⟩ := HC.out.three
      obtain ⟨o5, hI5, _⟩ := HD.out.i1
      have HI5 := hidp hI5
      have HB5 := hidp HD.out.bel
      clear hI5 HD
      go_wp2_with fail
      refine (vWrites_c (by rw [HWR.out]; simp) _ HI5.out).mono ?_
      rintro e w7 ⟨r7, rfl, ho, hb⟩
      rw [HWR.out] at ho
      obtain ⟨A7, c7, hr7⟩ := own_slice ho
      subst hr7
      have HB := hidp (Bgo HB5.out hb)
      replace HC := hidp (HC.out.keep hb)
      clear hb ho HI5 HB5
      clear x0 x1 x2
      obtain ⟨x0, x1, x2⟩ := HC.out.three
      go_wp2_with fail
      refine (live14_c _).mono ?_
      rintro e w19 ⟨rfl, hb⟩
      have HBL := hidp (Bgo HB.out hb)
      clear hb
      go_wp2
      go_ret
      exact ⟨rfl, HBL.out⟩
    · have t3 : decide ((1 : Int) ≤ nn) = false := decide_eq_false hn1
      clear hno
      dsimp only [foundI, Option.isSome]
      obtain ⟨o5, hI5, _⟩ := HD.out.i1
      have HI5 := hidp hI5
      have HB5 := hidp HD.out.bel
      clear hI5 HD
      go_wp2_with fail
      refine (vWrites_c (by rw [HWR.out]; simp) _ HI5.out).mono ?_
      rintro e w7 ⟨r7, rfl, ho, hb⟩
      rw [HWR.out] at ho
      obtain ⟨A7, c7, hr7⟩ := own_slice ho
      subst hr7
      have HB := hidp (Bgo HB5.out hb)
      replace HC := hidp (HC.out.keep hb)
      clear hb ho HI5 HB5
      clear x0 x1 x2
      obtain ⟨x0, x1, x2⟩ := HC.out.three
      go_wp2_with fail
      refine (live14_c _).mono ?_
      rintro e w19 ⟨rfl, hb⟩
      have HBL := hidp (Bgo HB.out hb)
      clear hb
      go_wp2
      go_ret
      exact ⟨rfl, HBL.out⟩
  · subst hfo
    clear hfit
    have t3 : decide ((1 : Int) ≤ nn) = true := decide_eq_true hn1
    have t4 : decide (nn ≤ (LF : Int)) = true := decide_eq_true hlf
    have t5 : decide ((p : Int) < 0) = false := decide_eq_false (by omega)
    have t6 : decide ((H.p : Int) ≤ (p : Int)) = false := decide_eq_false (by omega)
    obtain ⟨ll, hll⟩ : ∃ ll, H.ln p = ll := ⟨_, rfl⟩
    obtain ⟨cc, hcc⟩ : ∃ cc, H.Cl p = cc := ⟨_, rfl⟩
    rw [hll] at hl
    have t7 : decide (nn ≤ (ll : Int)) = true := decide_eq_true hl
    have HK := hidp hk
    have HL := hidp hll
    have HCC := hidp hcc
    clear hk hll hcc hl hn1 hlf
    dsimp only [foundI, Option.isSome]
    go_wp2_with fail
    refine (longest14_c HV ad _ (hv.out.below HD.out.bel)).mono ?_
    rintro e w6 ⟨rfl, hb⟩
    rw [HLF.out]
    replace HD := hidp (HD.out.keep hb)
    replace HC := hidp (HC.out.keep hb)
    clear hb
    clear x0 x1 x2
    obtain ⟨x0, x1, x2⟩ := HC.out.three
    obtain ⟨o5, hI5, _⟩ := HD.out.i1
    have HI5 := hidp hI5
    have HB5 := hidp HD.out.bel
    clear hI5 HD
    go_wp2_with fail
    refine (vWrites_c (by rw [HWR.out]; simp) _ HI5.out).mono ?_
    rintro e w7 ⟨r7, rfl, ho, hb⟩
    rw [HWR.out] at ho
    obtain ⟨A7, c7, hr7⟩ := own_slice ho
    subst hr7
    have HB := hidp (Bgo HB5.out hb)
    replace HC := hidp (HC.out.keep hb)
    clear hb ho HI5 HB5
    clear x0 x1 x2
    obtain ⟨x0, x1, x2⟩ := HC.out.three
    have HX8 := hidp (Held.new w7 53 #[.int .i64 (H.t : Int), .int .i64 (H.p : Int), .int .i64 (H.s : Int), .slice (some ad) n c])
    obtain ⟨y0, y1, y2, y3⟩ := HX8.out.four
    replace HC := hidp (HC.out.alloc (.cells #[.int .i64 (H.t : Int), .int .i64 (H.p : Int), .int .i64 (H.s : Int), .slice (some ad) n c] 53))
    replace HB := hidp (Bnew HB.out (.cells #[.int .i64 (H.t : Int), .int .i64 (H.p : Int), .int .i64 (H.s : Int), .slice (some ad) n c] 53))
    obtain ⟨v0, v1, v2⟩ := HC.out.three
    go_wp2_with fail
    refine (xInfo_c HV ad hp _ (hv.out.below HB.out)).mono ?_
    rintro e w8 ⟨rfl, hb⟩
    rw [HK.out, HL.out, HCC.out]
    replace HB := hidp (Bnew (Bgo HB.out hb) (.cells #[.int .i64 1, .int .i64 (ll : Int), .int .i64 cc] 55))
    obtain ⟨z0, z1, z2⟩ := (Held.new w8 55 #[.int .i64 1, .int .i64 (ll : Int), .int .i64 cc]).three
    clear hb HC HX8 x0 x1 x2 y0 y1 y2 y3 v0 v1 v2
    go_wp2_with fail
    refine (live14_c _).mono ?_
    rintro e w19 ⟨rfl, hb⟩
    have HBL := hidp (Bgo HB.out hb)
    clear hb
    go_wp2
    go_ret
    exact ⟨rfl, HBL.out⟩

theorem BinFits_calls (t q s nn : Int) (A : Option Addr) (c : Nat) (vals : List Nat) (hnc : vals.length ≤ c) (hcm : c ≤ maxLen) (h32 : ∀ x ∈ vals, x < 2 ^ 32) (W : World) (HR : Hid (Reads W W.heap.size 1 A vals.length (valVs vals))) :
    Calls Try.prog 5 #[.agg #[.int .i64 t, .int .i64 q, .int .i64 s], .slice A vals.length c, .int .i64 nn] W (Keeps W) := by
  by_cases hq : q ≤ 64
  · rcases heap13_or W t q s A c vals hnc hcm h32 HR.out with ⟨m, hX⟩ | ⟨H, ad, m, rfl, rfl, rfl, rfl, hV, HV, hv, hto, hX⟩
    · exact BinFits_no t q s nn A _ c m hq W (hidp hX)
    · exact BinFits_main ad _ c m HV nn vals (hidp rfl) (hidp h32) hV (by omega) (told_rules hto) W HR (hidp hv) (hidp hX)
  · exact BinFits_few t q s nn A _ c 0 (by omega) W
end Go.Proofs.Ytpndfhdedmdoeaa

/-
  How a configuration that came in is opened.
-/
namespace Go.Proofs.Ytpndfhdedmdoeaa
open Go.ChangeShapes Go.WideShapes Go.ChangeAt Go.RowKit
set_option linter.unusedVariables false
set_option linter.unusedSimpArgs false

set_option maxRecDepth 100000 in
theorem open_conf {H : Type} {enc : TypeId × Value → H} {W : World} {b base : Nat} {sp : Nat → Bool} {held : Bool} {v : Value} {d : DataW H} {p : List MemPlace}
    (hv : Value.okWide Try.prog W .any b 23 v) (h : DataW.Trod enc Try.prog W base sp held 23 v d p) :
    ∃ (t q s : Int), v = .agg #[.int .i64 t, .int .i64 q, .int .i64 s] := by
  obtain ⟨v0, v1, v2, y0, y1, y2, m, rfl, rfl, rfl, h0, h1, h2⟩ := Joins.open_agg3 Try.underlying23 (by kernel_rfl) (by kernel_rfl) hv h
  obtain ⟨a, e0, _, w0⟩ := DataW.trod_int Try.underlying3 h0
  obtain ⟨c, e1, _, w1⟩ := DataW.trod_int Try.underlying3 h1
  obtain ⟨k, e2, _, w2⟩ := DataW.trod_int Try.underlying3 h2
  simp at e0 e1 e2
  subst e0 e1 e2
  exact ⟨a, c, k, rfl⟩
end Go.Proofs.Ytpndfhdedmdoeaa
