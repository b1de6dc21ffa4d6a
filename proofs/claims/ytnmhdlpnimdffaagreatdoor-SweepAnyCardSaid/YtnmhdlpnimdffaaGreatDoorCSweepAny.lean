/-
  The law SweepAny: the walk. Written by sweep/gen_any.py.
-/
import Derived.Test.YtnmhdlpnimdffaaGreatDoorC14
import Derived.Test.YtnmhdlpnimdffaaGreatDoorC15
import Derived.Test.YtnmhdlpnimdffaaGreatDoorC02
import Derived.Deep.RegionHeld3
import Derived.Deep.CutRange
namespace Go.Proofs.YtnmhdlpnimdffaaGreatDoor
open Go.ChangeShapes Go.WideShapes Go.ChangeAt Go.RowKit Go.Maps
set_option linter.unusedVariables false
set_option linter.unusedSimpArgs false
set_option maxRecDepth 100000
section
theorem SweepAny_few (t q s : Int) (A A2 : Option Addr) (n c m m2 c2 : Nat) (hq : 64 < q) (W : World) (hT : SlotsLaid W)  : Calls Tryz.prog 5 #[.agg #[.int .i64 t, .int .i64 q, .int .i64 s], .slice A n c, .slice A2 m2 c2] W (Keeps W) := by
 have t2 : decide (q <= (64 : Int)) = false := decide_eq_false (by omega)
 have HTL := hidp hT
 clear hT
 have HC := hidp (Held.new W 23 #[.int .i64 t, .int .i64 q, .int .i64 s])
 have HB := hidp (Bnew (B0 W) (.cells #[.int .i64 t, .int .i64 q, .int .i64 s] 23))
 obtain ⟨x0, x1, x2⟩ := HC.out.three
 go_enter Tryz.func5, Tryz.ntmps5
 go_wp2_with fail
 refine (few14_c t q s _).mono ?_
 rintro e w1 ⟨rfl, hb⟩
 rw [t2]
 replace HC := hidp (HC.out.keep hb)
 replace HB := hidp (Bgo HB.out hb)
 clear hb
 clear x0 x1 x2
 obtain ⟨x0, x1, x2⟩ := HC.out.three
 go_wp2_with fail
 refine (live24_c _ (HTL.out.below HB.out)).mono ?_
 rintro e w19 ⟨rfl, hb⟩
 have HBL := hidp (Bgo HB.out hb)
 clear hb
 go_wp2
 go_ret
 exact ⟨rfl, HBL.out⟩

theorem SweepAny_no (t q s : Int) (A A2 : Option Addr) (n c m m2 c2 : Nat) (hq : q <= 64) (W : World) (hT : SlotsLaid W) (hX : Hid (XCheckIs W t q s A n c m false)) : Calls Tryz.prog 5 #[.agg #[.int .i64 t, .int .i64 q, .int .i64 s], .slice A n c, .slice A2 m2 c2] W (Keeps W) := by
 have t2 : decide (q <= (64 : Int)) = true := decide_eq_true (by omega)
 have HTL := hidp hT
 clear hT
 have HC := hidp (Held.new W 23 #[.int .i64 t, .int .i64 q, .int .i64 s])
 have HB := hidp (Bnew (B0 W) (.cells #[.int .i64 t, .int .i64 q, .int .i64 s] 23))
 obtain ⟨x0, x1, x2⟩ := HC.out.three
 go_enter Tryz.func5, Tryz.ntmps5
 go_wp2_with fail
 refine (few14_c t q s _).mono ?_
 rintro e w1 ⟨rfl, hb⟩
 rw [t2]
 replace HC := hidp (HC.out.keep hb)
 replace HB := hidp (Bgo HB.out hb)
 clear hb
 clear x0 x1 x2
 obtain ⟨x0, x1, x2⟩ := HC.out.three
 go_wp2_with fail
 refine (xSound_c t q s A n c m false _ (hX.out.grown HB.out)).mono ?_
 rintro e w2 ⟨rfl, hb⟩
 replace HC := hidp (HC.out.keep hb)
 replace HB := hidp (Bgo HB.out hb)
 clear hb
 clear x0 x1 x2
 obtain ⟨x0, x1, x2⟩ := HC.out.three
 go_wp2_with fail
 refine (live24_c _ (HTL.out.below HB.out)).mono ?_
 rintro e w19 ⟨rfl, hb⟩
 have HBL := hidp (Bgo HB.out hb)
 clear hb
 go_wp2
 go_ret
 exact ⟨rfl, HBL.out⟩

theorem SweepAny_long (t q s : Int) (A A2 : Option Addr) (n c m m2 c2 : Nat) (hq : q <= 64) (hm : 100 < m2) (W : World) (hT : SlotsLaid W) (hX : Hid (XCheckIs W t q s A n c m true)) : Calls Tryz.prog 5 #[.agg #[.int .i64 t, .int .i64 q, .int .i64 s], .slice A n c, .slice A2 m2 c2] W (Keeps W) := by
 have t2 : decide (q <= (64 : Int)) = true := decide_eq_true (by omega)
 have t3 : decide ((100 : Int) < (m2 : Int)) = true := decide_eq_true (by omega)
 have HTL := hidp hT
 clear hT
 have HC := hidp (Held.new W 23 #[.int .i64 t, .int .i64 q, .int .i64 s])
 have HB := hidp (Bnew (B0 W) (.cells #[.int .i64 t, .int .i64 q, .int .i64 s] 23))
 obtain ⟨x0, x1, x2⟩ := HC.out.three
 go_enter Tryz.func5, Tryz.ntmps5
 go_wp2_with fail
 refine (few14_c t q s _).mono ?_
 rintro e w1 ⟨rfl, hb⟩
 rw [t2]
 replace HC := hidp (HC.out.keep hb)
 replace HB := hidp (Bgo HB.out hb)
 clear hb
 clear x0 x1 x2
 obtain ⟨x0, x1, x2⟩ := HC.out.three
 go_wp2_with fail
 refine (xSound_c t q s A n c m true _ (hX.out.grown HB.out)).mono ?_
 rintro e w2 ⟨rfl, hb⟩
 replace HC := hidp (HC.out.keep hb)
 replace HB := hidp (Bgo HB.out hb)
 clear hb
 clear x0 x1 x2
 obtain ⟨x0, x1, x2⟩ := HC.out.three
 go_wp2_with fail
 refine (live24_c _ (HTL.out.below HB.out)).mono ?_
 rintro e w19 ⟨rfl, hb⟩
 have HBL := hidp (Bgo HB.out hb)
 clear hb
 go_wp2
 go_ret
 exact ⟨rfl, HBL.out⟩

theorem v0_cell {n g cp z0 : Nat} {f : Nat -> Nat} {w : World} (hn0 : 0 < n) (h0 : f 0 = z0) (hr : RowF w g 53 n cp (valF f)) : w.cell? ⟨g, 0, none⟩ = some (.int .u32 (z0 : Int)) := by
 have h1 := hr.cell hn0
 unfold valF at h1
 rw [h0] at h1
 exact h1
def wholeKA (vals : List Nat) : Nat -> Option Nat := fun i => vals[i]?
set_option maxHeartbeats 12800000 in
theorem SweepAny_main {H : AuH} (ad : Addr) (A2 : Option Addr) (n c m m2 c2 : Nat) (HV : HeapV H n c) (vals : List Nat) (HNN : Hid (vals.length = n)) (H32 : Hid (∀ x ∈ vals, x < 2 ^ 32)) (hVK : ∀ i, H.V i = vals.getD i 0) (hq : H.p <= 64) (hr : ∀ i, i < 10 -> H.rule i)
  (zs : List Int) (hzl : zs.length = m2) (hm2 : m2 <= 100) (hmc2 : m2 <= c2) (hcm2x : c2 <= maxLen) (hzb : ∀ z ∈ zs, -9223372036854775808 <= z /\ z <= 9223372036854775807)
  (W : World) (hT : SlotsLaid W) (HR : Hid (Reads W W.heap.size 1 (some ad) n (valVs vals))) (HZ : Hid (Reads W W.heap.size 1 A2 m2 (intVs .i64 zs))) (hv : Hid (IsVals W ad n H.V)) (hX : Hid (XCheckIs W H.t H.p H.s (some ad) n c m true)) :
  Calls Tryz.prog 5 #[.agg #[.int .i64 (H.t : Int), .int .i64 (H.p : Int), .int .i64 (H.s : Int)], .slice (some ad) n c, .slice A2 m2 c2] W (Keeps W) := by
 have t2 : decide ((H.p : Int) <= (64 : Int)) = true := decide_eq_true (by omega)
 have t3 : decide ((100 : Int) < (m2 : Int)) = false := decide_eq_false (by omega)
 have hnb : n <= 6238 := by have := HV.nums; omega
 have htb : H.t <= 1024 := by have := HV.nums; omega
 have hn0 : 0 < n := by have := HV.len; omega
 have hcm : c <= maxLen := HV.max
 have hcm2 : c <= 9223372036854775807 := hcm
 have hc22 : c2 <= 9223372036854775807 := hcm2x
 have hn40 : n < 2 ^ 40 := by omega
 have hq10 : (H.p : Int) <= 1024 := by omega
 have hK : ∀ i, i < n -> wholeKA vals i = some (H.V i) := fun i hi => by
  unfold wholeKA
  rw [hVK i, List.getElem?_eq_getElem (by rw [HNN.out]; exact hi)]
  simp [List.getD, List.getElem?_eq_getElem (show i < vals.length by rw [HNN.out]; exact hi)]
 have h32K : ∀ i x, wholeKA vals i = some x -> x < 2 ^ 32 := fun i x h => H32.out x (List.mem_of_getElem? h)
 obtain ⟨LL, hok⟩ := AuH.okL_of (by have := HV.nums; omega) hr
 obtain ⟨L, hL⟩ : ∃ L, blocksOf H.parts = L := ⟨_, rfl⟩
 obtain ⟨r0, hr0⟩ : ∃ r, H.V 22 = r := ⟨_, rfl⟩
 obtain ⟨r1, hr1⟩ : ∃ r, H.V 23 = r := ⟨_, rfl⟩
 obtain ⟨r2, hr2⟩ : ∃ r, H.V 24 = r := ⟨_, rfl⟩
 obtain ⟨r3, hr3⟩ : ∃ r, H.V 25 = r := ⟨_, rfl⟩
 obtain ⟨r4, hr4⟩ : ∃ r, H.V 26 = r := ⟨_, rfl⟩
 obtain ⟨r5, hr5⟩ : ∃ r, H.V 27 = r := ⟨_, rfl⟩
 obtain ⟨r6, hr6⟩ : ∃ r, H.V 28 = r := ⟨_, rfl⟩
 obtain ⟨r7, hr7⟩ : ∃ r, H.V 29 = r := ⟨_, rfl⟩
 obtain ⟨nl, hnl⟩ : ∃ nl, L.length = nl := ⟨_, rfl⟩
 have HNL := hidp hnl
 have hnlb : nl <= 60000 := by rw [<- hnl, <- hL]; exact blocks_few15 HV
 have hnlb2 : nl <= 100000 := by omega
 have HRS : Hid (H.V 22 = r0 /\ H.V 23 = r1 /\ H.V 24 = r2 /\ H.V 25 = r3 /\ H.V 26 = r4 /\ H.V 27 = r5 /\ H.V 28 = r6 /\ H.V 29 = r7 /\ blocksOf H.parts = L) := hidp ⟨hr0, hr1, hr2, hr3, hr4, hr5, hr6, hr7, hL⟩
 have HSW0 := hidp (SwTo.start HV hok hK)
 have HSTEP : Hid (∀ (z : Int) (sj : Vst), VOk n sj -> SwTo H n (wholeKA vals) 0 sj -> SwTo H n (wholeKA vals) 0 (sweepP n (wholeKA vals) H.t H.p H.s z sj).2) := hidp (fun z sj ho h => h.anyP HV ho h32K z)
 have HALL : Hid (∀ sj : Vst, SwTo H n (wholeKA vals) 0 sj -> (∀ j, j <= H.p -> VOk n (sweepTo n (wholeKA vals) H.t H.p H.s j sj).2) -> SwTo H n (wholeKA vals) H.p (sweepTo n (wholeKA vals) H.t H.p H.s H.p sj).2) := hidp (fun sj h ho => h.all HV h32K ho)
 have HNOW : Hid (∀ sj : Vst, VOk n sj -> SwTo H n (wholeKA vals) H.p sj -> ∀ (w : World) (g cp : Nat), RowF w g 53 n cp (valF (nowV (wholeKA vals) sj.wr)) -> Calls Tryz.prog 19 #[.agg #[.int .i64 (H.t : Int), .int .i64 (H.p : Int), .int .i64 (H.s : Int)], .slice (some ⟨g, 0, none⟩) n cp] w fun e w' => ∃ u, e = .returned (.tuple #[.agg #[u, .int .i64 (r0 : Int), .int .i64 (r1 : Int), .int .i64 (r2 : Int), .int .i64 (r3 : Int), .int .i64 (r4 : Int), .int .i64 (r5 : Int), .int .i64 (r6 : Int), .int .i64 (r7 : Int)], .bool true]) /\ w'.ownsRow w.heap.size 94 2 u L.length (bkVs L) /\ Below w.heap.size w w') := hidp (fun sj ho h => h.state HV ho h32K L hL r0 r1 r2 r3 r4 r5 r6 r7 hr0 hr1 hr2 hr3 hr4 hr5 hr6 hr7)
 have HFITS : Hid (∀ sj : Vst, VOk n sj -> SwTo H n (wholeKA vals) H.p sj -> ∀ (w : World) (g cp : Nat), RowF w g 53 n cp (valF (nowV (wholeKA vals) sj.wr)) -> ∀ (A2 : Option Addr) (c2 : Nat) (U : Nat -> Nat -> Sl), H.t <= c2 -> c2 <= maxLen -> PksAt w A2 H.t U (fun _ _ => []) -> Calls Tryz.prog 22 #[.agg #[.int .i64 (H.t : Int), .int .i64 (H.p : Int), .int .i64 (H.s : Int)], .slice (some ⟨g, 0, none⟩) n cp, .slice A2 H.t c2] w fun e w' => e = .returned (.bool true) /\ Below w.heap.size w w') := hidp (fun sj ho h => h.fits HV ho h32K)
 obtain ⟨z0, hz0⟩ : ∃ z, H.V 0 + emptyN H = z := ⟨_, rfl⟩
 have HVAL : Hid (∀ sj : Vst, VOk n sj -> SwTo H n (wholeKA vals) H.p sj -> nowV (wholeKA vals) sj.wr 0 = z0) := hidp (fun sj ho h => (h.val0 HV ho h32K hn0).trans hz0)
 have hmk := make_pks H.t (by omega)
 have HZB0 := hidp hzb
 have HZL := hidp hzl
 clear hr hVK hK h32K hok hL hnl hz0 hzb hzl hr0 hr1 hr2 hr3 hr4 hr5 hr6 hr7
 have HTL := hidp hT
 clear hT
 have HC := hidp (Held.new W 23 #[.int .i64 (H.t : Int), .int .i64 (H.p : Int), .int .i64 (H.s : Int)])
 have HB := hidp (Bnew (B0 W) (.cells #[.int .i64 (H.t : Int), .int .i64 (H.p : Int), .int .i64 (H.s : Int)] 23))
 obtain ⟨x0, x1, x2⟩ := HC.out.three
 go_enter Tryz.func5, Tryz.ntmps5
 go_wp2_with fail
 refine (few14_c H.t H.p H.s _).mono ?_
 rintro e w1 ⟨rfl, hb⟩
 rw [t2]
 replace HC := hidp (HC.out.keep hb)
 replace HB := hidp (Bgo HB.out hb)
 clear hb
 clear x0 x1 x2
 obtain ⟨x0, x1, x2⟩ := HC.out.three
 go_wp2_with fail
 refine (xSound_c H.t H.p H.s (some ad) n c m true _ (hX.out.grown HB.out)).mono ?_
 rintro e w2 ⟨rfl, hb⟩
 replace HC := hidp (HC.out.keep hb)
 replace HB := hidp (Bgo HB.out hb)
 clear hb
 clear x0 x1 x2
 obtain ⟨x0, x1, x2⟩ := HC.out.three
 have HR2 : Hid (Reads w2 w2.heap.size 1 (some ad) n (valVs vals)) := hidp ((HR.out.below HB.out).more HB.out.size)
 go_wp2_with fail
 refine (Whole_c (some ad) c vals n HNN.out (by omega) H32.out _ (by
  intro h0
  obtain ⟨ad', e, _, hc⟩ := HR2.out.2 h0
  exact ⟨ad', e, hc⟩)).mono ?_
 rintro e w3 ⟨b1, o1, rfl, hI, hB⟩
 have HLC : Hid (W.heap.size < w2.heap.size) := hidp HC.out.lt
 have HD := hidp (duo_made (W := W) (G := fun g => g < w2.heap.size) hI HB.out.size (Bgo HB.out hB) (fun g hg => ⟨Nat.lt_of_lt_of_le hg hB.size, fun x => by have := hI.ge _ x; omega⟩))
 replace HC := hidp (HC.out.keep hB)
 clear hI hB HR2 HB
 generalize hz1 : w2.heap.size = z1 at *
 clear hz1
 have HR3 : Hid (Reads w3 w3.heap.size 1 (some ad) n (valVs vals)) := hidp ((HR.out.below HD.out.bel).more HD.out.bel.size)
 clear x0 x1 x2
 go_wp2_with fail
 refine (Whole_c (some ad) c vals n HNN.out (by omega) H32.out _ (by
  intro h0
  obtain ⟨ad', e, _, hc⟩ := HR3.out.2 h0
  exact ⟨ad', e, hc⟩)).mono ?_
 rintro e w4 ⟨b2, o2, rfl, hI, hB⟩
 replace HD := hidp (HD.out.join hI (Nat.le_refl _) hB)
 replace HC := hidp (HC.out.keep hB)
 clear hI hB HR3
 generalize hz2 : w3.heap.size = z2 at *
 clear hz2
 rw [show (fun i => vals[i]?) = wholeKA vals from rfl] at HD
 obtain ⟨x0, x1, x2⟩ := HC.out.three
 go_wp2_with fail
 go_loopw [9] (fun u9 wr => ∃ (j : Nat) (A4 B4 : Nat -> Prop) (sj : Vst), j <= m2 /\ u9 = .int .i64 (j : Int) /\ Hid (SwTo H n (wholeKA vals) 0 sj) /\ Hid (Held wr W.heap.size 23 #[.int .i64 (H.t : Int), .int .i64 (H.p : Int), .int .i64 (H.s : Int)]) /\ Hid (Duo W (vOb z1 b1 n true (wholeKA vals)) (vOb z2 b2 n true (wholeKA vals)) A4 B4 (fun g => g < z1) sj freshS wr)) (fun u9 _ => m2 - (intOf u9).toNat)
 case atStart => exact ⟨0, _, _, _, by omega, rfl, HSW0, HC, HD⟩
 case round =>
  clear HC HD x0 x1 x2
  obtain ⟨j, A4, B4, sj, hj, rfl, HSW, HC, HD⟩ := hrel
  obtain ⟨x0, x1, x2⟩ := HC.out.three
  by_cases hlt : j < m2
  ·have t1 : decide ((j : Int) < (m2 : Int)) = true := decide_eq_true (by omega)
   have t1n : decide (j < m2) = true := decide_eq_true hlt
   obtain ⟨z, hz⟩ : ∃ z, zs[j]? = some z := ⟨_, List.getElem?_eq_getElem (by rw [HZL.out]; exact hlt)⟩
   have HZB := hidp (HZB0.out z (List.mem_of_getElem? hz))
   obtain ⟨ad2, rfl, had2, hcz⟩ := HZ.out.2 (by omega)
   have HZC : Hid (∀ w', Below W.heap.size W w' -> w'.cell? (ad2.add j) = some (.int .i64 z)) := hidp (fun w' hw => (hw.cell (by rw [block_of_add]; exact had2)).trans (hcz j _ (by unfold intVs; rw [List.getElem?_map, hz]; rfl)))
   have HOK : Hid (VOk n sj) := hidp (by obtain ⟨o, hI, _⟩ := HD.out.i1; exact hI.ok)
   have HSN := hidp (HSTEP.out z sj HOK.out HSW.out)
   clear hz had2 hcz HOK HSW x0 x1 x2
   go_wp2_with fail
   replace HC := hidp (HC.out.keep (Bdrew (B0 _)))
   replace HD := hidp (HD.out.keep (Bdrew (B0 _)))
   refine wp_region_held_drew (S := (fun w' => (w'.cell? ⟨W.heap.size, 0, none⟩ = some (.int .i64 (H.t : Int)) /\ w'.cell? ⟨W.heap.size, 1, none⟩ = some (.int .i64 (H.p : Int)) /\ w'.cell? ⟨W.heap.size, 2, none⟩ = some (.int .i64 (H.s : Int))) /\ w'.cell? (ad2.add j) = some (.int .i64 z))) (by kernel_rfl) ?_ (fun hHeld => ?_)
   ·(try dsimp only)
    first | exact ⟨HC.out.three, HZC.out _ HD.out.bel⟩ | exact hHeld
   refine tkz 0 ?_
   refine tkz 1 ?_
   refine tkz 2 ?_
   refine tkz 3 ?_
   refine tkz 4 ?_
   refine tkz 5 ?_
   refine rdz 6 fun K hK => ?_
   go_simp
   refine (swPage_c hn40 hq10 z HZB.out (HD.out.slots24 HTL.out).1 (HD.out.slots24 HTL.out).2.1 HD.out.at1).mono ?_
   rintro e w6 ⟨rfl, h1, _⟩
   obtain ⟨A5, h2, h3⟩ := HD.out.left1 h1.left
   replace HC := hidp (h3.held HLC.out HC.out)
   replace HD := hidp h2
   clear h1 h2 h3
   refine hK.out _ _ ?_ (fun hHeld => ?_)
   ·(try dsimp only)
    first | exact ⟨HC.out.three, HZC.out _ HD.out.bel⟩ | exact hHeld
   clear hK K
   (try simp only [Act.put, gA, gB, gC, sA, sB, sC])
   refine dnz ?_
   go_wp2
   go_roundw
   case rel => exact ⟨j + 1, _, _, _, by omega, by go_num, HSN, HC, HD⟩
   case measure => simp [intOf]; omega
  ·have t1 : decide ((j : Int) < (m2 : Int)) = false := decide_eq_false (by omega)
   have t1n : decide (j < m2) = false := decide_eq_false hlt
   clear HSTEP hlt hj
   go_wp2_with fail
   refine (swAll_c hn40 H.p (by omega) rfl (HD.out.slots24 HTL.out).1 (HD.out.slots24 HTL.out).2.1 HD.out.at1).mono ?_
   rintro e w5 ⟨rfl, h1, _, hvk⟩
   obtain ⟨A5, h2, h3⟩ := HD.out.left1 h1.left
   have hs1 := HALL.out sj HSW.out hvk
   have ho1 := hvk H.p (Nat.le_refl _)
   obtain ⟨n1, hn1⟩ : ∃ x, (sweepTo n (wholeKA vals) H.t H.p H.s H.p sj).1 = x := ⟨_, rfl⟩
   obtain ⟨s1, hse1⟩ : ∃ x, (sweepTo n (wholeKA vals) H.t H.p H.s H.p sj).2 = x := ⟨_, rfl⟩
   rw [hse1] at h2 hs1 ho1
   rw [hn1]
   replace HC := hidp (h3.held HLC.out HC.out)
   replace HD := hidp h2
   have HS1 := hidp hs1
   have HOK1 := hidp ho1
   clear h1 h2 h3 hvk hs1 ho1 hn1 hse1 HSW x0 x1 x2
   obtain ⟨x0, x1, x2⟩ := HC.out.three
   go_wp2_with fail
   refine (swAll_c hn40 H.p (by omega) rfl (HD.out.swap.slots24 HTL.out).1 (HD.out.swap.slots24 HTL.out).2.1 HD.out.at2).mono ?_
   rintro e w6 ⟨rfl, h1, _, hvk⟩
   obtain ⟨B5, h2, h3⟩ := HD.out.left2 h1.left
   have hs2 := HALL.out freshS HSW0.out hvk
   have ho2 := hvk H.p (Nat.le_refl _)
   obtain ⟨n2, hn2⟩ : ∃ x, (sweepTo n (wholeKA vals) H.t H.p H.s H.p freshS).1 = x := ⟨_, rfl⟩
   obtain ⟨s2, hse2⟩ : ∃ x, (sweepTo n (wholeKA vals) H.t H.p H.s H.p freshS).2 = x := ⟨_, rfl⟩
   rw [hse2] at h2 hs2 ho2
   rw [hn2]
   replace HC := hidp (h3.held HLC.out HC.out)
   replace HD := hidp h2
   have HS2 := hidp hs2
   have HOK2 := hidp ho2
   have HN1 := hidp (HNOW.out s1 HOK1.out HS1.out)
   have HN2 := hidp (HNOW.out s2 HOK2.out HS2.out)
   have HFT := hidp (HFITS.out s1 HOK1.out HS1.out)
   have HZ1 := hidp (HVAL.out s1 HOK1.out HS1.out)
   have HZ2 := hidp (HVAL.out s2 HOK2.out HS2.out)
   clear h1 h2 h3 hvk hs2 ho2 hn2 hse2 HSW0 HNOW HFITS HVAL HALL HS1 HS2 HOK1 HOK2 x0 x1 x2
   generalize A5 = A4 at *
   generalize B5 = B4 at *
   obtain ⟨x0, x1, x2⟩ := HC.out.three
   go_wp2_with fail
   go_cut [10, 11] from 53 to 58 (fun u10 u11 wx => ∃ (NA ka : Nat) (AA : Option Addr) (A4 : Nat -> Prop), u10 = .pointer (some ⟨NA, 0, none⟩) /\ u11 = .bool true /\ Held wx NA 46 #[.slice AA nl ka, .int .i64 (r0 : Int), .int .i64 (r1 : Int), .int .i64 (r2 : Int), .int .i64 (r3 : Int), .int .i64 (r4 : Int), .int .i64 (r5 : Int), .int .i64 (r6 : Int), .int .i64 (r7 : Int)] /\ wx.ownsRow 0 94 2 (.slice AA nl ka) nl (bkVs L) /\ Held wx W.heap.size 23 #[.int .i64 (H.t : Int), .int .i64 (H.p : Int), .int .i64 (H.s : Int)] /\ Duo W (vOb z1 b1 n true (wholeKA vals)) (vOb z2 b2 n true (wholeKA vals)) A4 B4 (fun g => g < z1) s1 s2 wx)
   case first =>
    replace HC := hidp HC.out.drw
    replace HD := hidp (HD.out.keep (Bdrew (B0 _)))
    refine wp_region_held_drew (S := (fun w' => w'.cell? ⟨W.heap.size, 0, none⟩ = some (.int .i64 (H.t : Int)) /\ w'.cell? ⟨W.heap.size, 1, none⟩ = some (.int .i64 (H.p : Int)) /\ w'.cell? ⟨W.heap.size, 2, none⟩ = some (.int .i64 (H.s : Int)))) (by kernel_rfl) ?_ (fun hHeld => ?_)
    ·(try dsimp only)
     first | exact HC.out.three | exact hHeld
    generalize hq0 : World.drew w6 = q0 at HC HD hHeld ⊢
    clear hq0
    refine tkz 0 ?_
    refine tkz 1 ?_
    refine wpAnyH_ready (rs := [2, 7]) (by kernel_rfl) (by simp) ?_
    refine AllReadyH.cons (o := _) rfl (fun K hK => ?_) (AllReadyH.cons (o := _) rfl (fun K hK => ?_) AllReadyH.nil)
    ·skip
     go_simp
     obtain ⟨o9, hI9, _⟩ := HD.out.i1
     refine (vVals_some hn0 (by have := hI9.ok.few; omega) _ hI9).mono ?_
     rintro e v1 ⟨g, cp, rfl, _, hrow, hb⟩
     have HRF := hidp hrow
     clear hI9 hrow
     replace HC := hidp (HC.out.keep hb)
     replace HD := hidp (HD.out.keep hb)
     clear hb
     refine hK.out _ _ ?_ (fun hHeld => ?_)
     ·(try dsimp only)
      first | exact HC.out.three | exact hHeld
     clear hK K
     (try simp only [Act.put, gA, gB, gC, sA, sB, sC])
     refine wpAnyH_ready (rs := [3, 7]) (by kernel_rfl) (by simp) ?_
     refine AllReadyH.cons (o := _) rfl (fun K hK => ?_) (AllReadyH.cons (o := _) rfl (fun K hK => ?_) AllReadyH.nil)
     ·skip
      go_simp
      refine (HN1.out _ _ _ HRF.out).mono ?_
      rintro e v2 ⟨u2, rfl, hown, hb⟩
      rw [HNL.out] at hown
      obtain ⟨AA, ka, hu2⟩ := own_slice hown
      subst hu2
      have HO2 : Hid (v2.ownsRow 0 94 2 (.slice AA nl ka) nl (bkVs L)) := hidp (own_lower hown (Nat.zero_le _))
      clear HRF hown
      replace HC := hidp (HC.out.keep hb)
      replace HD := hidp (HD.out.keep hb)
      clear hb
      refine hK.out _ _ ?_ (fun hHeld => ?_)
      ·(try dsimp only)
       first | exact HC.out.three | exact hHeld
      clear hK K
      (try simp only [Act.put, gA, gB, gC, sA, sB, sC])
      refine tkz 4 ?_
      refine tkz 5 ?_
      refine tkz 6 ?_
      refine rdz 7 fun K hK => ?_
      ·skip
       go_simp
       have hb := Bnew (B0 v2) (.cells #[.slice none 0 0, .int .i64 0, .int .i64 0, .int .i64 0, .int .i64 0, .int .i64 0, .int .i64 0, .int .i64 0, .int .i64 0] 46)
       have HN := hidp (Held.new v2 46 #[.slice none 0 0, .int .i64 0, .int .i64 0, .int .i64 0, .int .i64 0, .int .i64 0, .int .i64 0, .int .i64 0, .int .i64 0])
       have HLE := hidp HD.out.bel.size
       have HLT : Hid (W.heap.size < v2.heap.size) := hidp HC.out.lt
       have HNA : Hid (¬ A4 v2.heap.size) := hidp (fun x => by have := Ob.lt (vOb z1 b1 n true (wholeKA vals)) HD.out.i1 _ x; omega)
       have HNB : Hid (¬ B4 v2.heap.size) := hidp (fun x => by have := Ob.lt (vOb z2 b2 n true (wholeKA vals)) HD.out.i2 _ x; omega)
       replace HC := hidp (HC.out.keep hb)
       replace HO2 := hidp (own_below HO2.out hb)
       replace HD := hidp (HD.out.keep hb)
       clear hb
       generalize hn13 : v2.heap.size = NA at *
       generalize hw13 : v2.alloc (.cells #[.slice none 0 0, .int .i64 0, .int .i64 0, .int .i64 0, .int .i64 0, .int .i64 0, .int .i64 0, .int .i64 0, .int .i64 0] 46) = v3 at *
       clear hn13 hw13
       refine hK.out _ _ ?_ (fun hHeld => ?_)
       ·(try dsimp only)
        first | exact HC.out.three | exact hHeld
       clear hK K
       (try simp only [Act.put, gA, gB, gC, sA, sB, sC])
       refine rdz 8 fun K hK => ?_
       obtain ⟨z0, z1', z2, z3, z4, z5', z6, z7, z8⟩ := HN.out.nine
       obtain ⟨f0, f1, f2, f3, f4, f5, f6, f7, f8⟩ := HN.out.thawed9
       go_simp
       obtain ⟨WF, hWF⟩ : ∃ WF, wr9 (v3) NA (.slice AA nl ka) r0 r1 r2 r3 r4 r5 r6 r7 = WF := ⟨_, rfl⟩
       replace HO2 := hidp (own9 hWF (heldOwn_ne HN.out HO2.out (by decide)) HO2.out)
       replace HC := hidp (far9 hWF (by have := HLT.out; omega) HC.out)
       replace HD := hidp (duo9 hWF HNA.out HNB.out HLE.out HD.out)
       replace HN := hidp (held9 hWF HN.out)
       unfold wr9 set9 at hWF
       rw [hWF]
       clear hWF z0 z1' z2 z3 z4 z5' z6 z7 z8 f0 f1 f2 f3 f4 f5 f6 f7 f8
       refine hK.out _ _ ?_ (fun hHeld => ?_)
       ·(try dsimp only)
        first | exact HC.out.three | exact hHeld
       clear hK K
       (try simp only [Act.put, gA, gB, gC, sA, sB, sC])
       refine tkz 9 ?_
       refine dnz ?_
       go_wp2_with fail
       go_meet
       case rel => exact ⟨_, _, _, _, rfl, rfl, HN.out, HO2.out, HC.out, HD.out⟩
     ·skip
      go_simp
      have hb := Bnew (B0 v1) (.cells #[.slice none 0 0, .int .i64 0, .int .i64 0, .int .i64 0, .int .i64 0, .int .i64 0, .int .i64 0, .int .i64 0, .int .i64 0] 46)
      have HN := hidp (Held.new v1 46 #[.slice none 0 0, .int .i64 0, .int .i64 0, .int .i64 0, .int .i64 0, .int .i64 0, .int .i64 0, .int .i64 0, .int .i64 0])
      have HLE := hidp HD.out.bel.size
      have HLT : Hid (W.heap.size < v1.heap.size) := hidp HC.out.lt
      have HNA : Hid (¬ A4 v1.heap.size) := hidp (fun x => by have := Ob.lt (vOb z1 b1 n true (wholeKA vals)) HD.out.i1 _ x; omega)
      have HNB : Hid (¬ B4 v1.heap.size) := hidp (fun x => by have := Ob.lt (vOb z2 b2 n true (wholeKA vals)) HD.out.i2 _ x; omega)
      replace HC := hidp (HC.out.keep hb)
      replace HD := hidp (HD.out.keep hb)
      replace HRF := hidp (HRF.out.keep hb)
      clear hb
      generalize hn13 : v1.heap.size = NA at *
      generalize hw13 : v1.alloc (.cells #[.slice none 0 0, .int .i64 0, .int .i64 0, .int .i64 0, .int .i64 0, .int .i64 0, .int .i64 0, .int .i64 0, .int .i64 0] 46) = v4 at *
      clear hn13 hw13
      refine hK.out _ _ ?_ (fun hHeld => ?_)
      ·(try dsimp only)
       first | exact HC.out.three | exact hHeld
      clear hK K
      (try simp only [Act.put, gA, gB, gC, sA, sB, sC])
      refine rdz 3 fun K hK => ?_
      ·skip
       go_simp
       refine (HN1.out _ _ _ HRF.out).mono ?_
       rintro e v5 ⟨u2, rfl, hown, hb⟩
       rw [HNL.out] at hown
       obtain ⟨AA, ka, hu2⟩ := own_slice hown
       subst hu2
       have HO2 : Hid (v5.ownsRow 0 94 2 (.slice AA nl ka) nl (bkVs L)) := hidp (own_lower hown (Nat.zero_le _))
       clear HRF hown
       replace HC := hidp (HC.out.keep hb)
       replace HN := hidp (HN.out.keep hb)
       replace HD := hidp (HD.out.keep hb)
       clear hb
       refine hK.out _ _ ?_ (fun hHeld => ?_)
       ·(try dsimp only)
        first | exact HC.out.three | exact hHeld
       clear hK K
       (try simp only [Act.put, gA, gB, gC, sA, sB, sC])
       refine tkz 4 ?_
       refine tkz 5 ?_
       refine tkz 6 ?_
       refine rdz 8 fun K hK => ?_
       obtain ⟨z0, z1', z2, z3, z4, z5', z6, z7, z8⟩ := HN.out.nine
       obtain ⟨f0, f1, f2, f3, f4, f5, f6, f7, f8⟩ := HN.out.thawed9
       go_simp
       obtain ⟨WF, hWF⟩ : ∃ WF, wr9 (v5) NA (.slice AA nl ka) r0 r1 r2 r3 r4 r5 r6 r7 = WF := ⟨_, rfl⟩
       replace HO2 := hidp (own9 hWF (heldOwn_ne HN.out HO2.out (by decide)) HO2.out)
       replace HC := hidp (far9 hWF (by have := HLT.out; omega) HC.out)
       replace HD := hidp (duo9 hWF HNA.out HNB.out HLE.out HD.out)
       replace HN := hidp (held9 hWF HN.out)
       unfold wr9 set9 at hWF
       rw [hWF]
       clear hWF z0 z1' z2 z3 z4 z5' z6 z7 z8 f0 f1 f2 f3 f4 f5 f6 f7 f8
       refine hK.out _ _ ?_ (fun hHeld => ?_)
       ·(try dsimp only)
        first | exact HC.out.three | exact hHeld
       clear hK K
       (try simp only [Act.put, gA, gB, gC, sA, sB, sC])
       refine tkz 9 ?_
       refine dnz ?_
       go_wp2_with fail
       go_meet
       case rel => exact ⟨_, _, _, _, rfl, rfl, HN.out, HO2.out, HC.out, HD.out⟩
    ·skip
     go_simp
     have hb := Bnew (B0 q0) (.cells #[.slice none 0 0, .int .i64 0, .int .i64 0, .int .i64 0, .int .i64 0, .int .i64 0, .int .i64 0, .int .i64 0, .int .i64 0] 46)
     have HN := hidp (Held.new q0 46 #[.slice none 0 0, .int .i64 0, .int .i64 0, .int .i64 0, .int .i64 0, .int .i64 0, .int .i64 0, .int .i64 0, .int .i64 0])
     have HLE := hidp HD.out.bel.size
     have HLT : Hid (W.heap.size < q0.heap.size) := hidp HC.out.lt
     have HNA : Hid (¬ A4 q0.heap.size) := hidp (fun x => by have := Ob.lt (vOb z1 b1 n true (wholeKA vals)) HD.out.i1 _ x; omega)
     have HNB : Hid (¬ B4 q0.heap.size) := hidp (fun x => by have := Ob.lt (vOb z2 b2 n true (wholeKA vals)) HD.out.i2 _ x; omega)
     replace HC := hidp (HC.out.keep hb)
     replace HD := hidp (HD.out.keep hb)
     clear hb
     generalize hn13 : q0.heap.size = NA at *
     generalize hw13 : q0.alloc (.cells #[.slice none 0 0, .int .i64 0, .int .i64 0, .int .i64 0, .int .i64 0, .int .i64 0, .int .i64 0, .int .i64 0, .int .i64 0] 46) = v6 at *
     clear hn13 hw13
     refine hK.out _ _ ?_ (fun hHeld => ?_)
     ·(try dsimp only)
      first | exact HC.out.three | exact hHeld
     clear hK K
     (try simp only [Act.put, gA, gB, gC, sA, sB, sC])
     refine rdz 2 fun K hK => ?_
     ·skip
      go_simp
      obtain ⟨o9, hI9, _⟩ := HD.out.i1
      refine (vVals_some hn0 (by have := hI9.ok.few; omega) _ hI9).mono ?_
      rintro e v7 ⟨g, cp, rfl, _, hrow, hb⟩
      have HRF := hidp hrow
      clear hI9 hrow
      replace HC := hidp (HC.out.keep hb)
      replace HN := hidp (HN.out.keep hb)
      replace HD := hidp (HD.out.keep hb)
      clear hb
      refine hK.out _ _ ?_ (fun hHeld => ?_)
      ·(try dsimp only)
       first | exact HC.out.three | exact hHeld
      clear hK K
      (try simp only [Act.put, gA, gB, gC, sA, sB, sC])
      refine rdz 3 fun K hK => ?_
      ·skip
       go_simp
       refine (HN1.out _ _ _ HRF.out).mono ?_
       rintro e v8 ⟨u2, rfl, hown, hb⟩
       rw [HNL.out] at hown
       obtain ⟨AA, ka, hu2⟩ := own_slice hown
       subst hu2
       have HO2 : Hid (v8.ownsRow 0 94 2 (.slice AA nl ka) nl (bkVs L)) := hidp (own_lower hown (Nat.zero_le _))
       clear HRF hown
       replace HC := hidp (HC.out.keep hb)
       replace HN := hidp (HN.out.keep hb)
       replace HD := hidp (HD.out.keep hb)
       clear hb
       refine hK.out _ _ ?_ (fun hHeld => ?_)
       ·(try dsimp only)
        first | exact HC.out.three | exact hHeld
       clear hK K
       (try simp only [Act.put, gA, gB, gC, sA, sB, sC])
       refine tkz 4 ?_
       refine tkz 5 ?_
       refine tkz 6 ?_
       refine rdz 8 fun K hK => ?_
       obtain ⟨z0, z1', z2, z3, z4, z5', z6, z7, z8⟩ := HN.out.nine
       obtain ⟨f0, f1, f2, f3, f4, f5, f6, f7, f8⟩ := HN.out.thawed9
       go_simp
       obtain ⟨WF, hWF⟩ : ∃ WF, wr9 (v8) NA (.slice AA nl ka) r0 r1 r2 r3 r4 r5 r6 r7 = WF := ⟨_, rfl⟩
       replace HO2 := hidp (own9 hWF (heldOwn_ne HN.out HO2.out (by decide)) HO2.out)
       replace HC := hidp (far9 hWF (by have := HLT.out; omega) HC.out)
       replace HD := hidp (duo9 hWF HNA.out HNB.out HLE.out HD.out)
       replace HN := hidp (held9 hWF HN.out)
       unfold wr9 set9 at hWF
       rw [hWF]
       clear hWF z0 z1' z2 z3 z4 z5' z6 z7 z8 f0 f1 f2 f3 f4 f5 f6 f7 f8
       refine hK.out _ _ ?_ (fun hHeld => ?_)
       ·(try dsimp only)
        first | exact HC.out.three | exact hHeld
       clear hK K
       (try simp only [Act.put, gA, gB, gC, sA, sB, sC])
       refine tkz 9 ?_
       refine dnz ?_
       go_wp2_with fail
       go_meet
       case rel => exact ⟨_, _, _, _, rfl, rfl, HN.out, HO2.out, HC.out, HD.out⟩
   case rest =>
    obtain ⟨NA, ka, AA, A4, rfl, rfl, hN, hO2, hHC, hD⟩ := hcut
    have HSA := hidp hN
    have HOA := hidp hO2
    replace HC := hidp hHC
    replace HD := hidp hD
    clear hN hO2 hHC hD
    clear x0 x1 x2
    obtain ⟨x0, x1, x2⟩ := HC.out.three
    go_wp2_with fail
    go_cut [12, 13] from 60 to 65 (fun u12 u13 wx => ∃ (NB kb : Nat) (AB : Option Addr) (A4 : Nat -> Prop), u12 = .pointer (some ⟨NB, 0, none⟩) /\ u13 = .bool true /\ Held wx NB 46 #[.slice AB nl kb, .int .i64 (r0 : Int), .int .i64 (r1 : Int), .int .i64 (r2 : Int), .int .i64 (r3 : Int), .int .i64 (r4 : Int), .int .i64 (r5 : Int), .int .i64 (r6 : Int), .int .i64 (r7 : Int)] /\ wx.ownsRow 0 94 2 (.slice AB nl kb) nl (bkVs L) /\ Held wx W.heap.size 23 #[.int .i64 (H.t : Int), .int .i64 (H.p : Int), .int .i64 (H.s : Int)] /\ Held wx NA 46 #[.slice AA nl ka, .int .i64 (r0 : Int), .int .i64 (r1 : Int), .int .i64 (r2 : Int), .int .i64 (r3 : Int), .int .i64 (r4 : Int), .int .i64 (r5 : Int), .int .i64 (r6 : Int), .int .i64 (r7 : Int)] /\ wx.ownsRow 0 94 2 (.slice AA nl ka) nl (bkVs L) /\ Duo W (vOb z1 b1 n true (wholeKA vals)) (vOb z2 b2 n true (wholeKA vals)) A4 B4 (fun g => g < z1) s1 s2 wx)
    case first =>
     replace HC := hidp HC.out.drw
     replace HSA := hidp HSA.out.drw
     replace HOA := hidp (own_below HOA.out (Bdrew (B0 _)))
     replace HD := hidp (HD.out.keep (Bdrew (B0 _)))
     refine wp_region_held_drew (S := (fun w' => w'.cell? ⟨W.heap.size, 0, none⟩ = some (.int .i64 (H.t : Int)) /\ w'.cell? ⟨W.heap.size, 1, none⟩ = some (.int .i64 (H.p : Int)) /\ w'.cell? ⟨W.heap.size, 2, none⟩ = some (.int .i64 (H.s : Int)))) (by kernel_rfl) ?_ (fun hHeld => ?_)
     ·(try dsimp only)
      first | exact HC.out.three | exact hHeld
     generalize hq0 : World.drew wc = q0 at HC HSA HOA HD hHeld ⊢
     clear hq0
     refine tkz 0 ?_
     refine tkz 1 ?_
     refine wpAnyH_ready (rs := [2, 7]) (by kernel_rfl) (by simp) ?_
     refine AllReadyH.cons (o := _) rfl (fun K hK => ?_) (AllReadyH.cons (o := _) rfl (fun K hK => ?_) AllReadyH.nil)
     ·skip
      go_simp
      obtain ⟨o9, hI9, _⟩ := HD.out.i2
      refine (vVals_some hn0 (by have := hI9.ok.few; omega) _ hI9).mono ?_
      rintro e v1 ⟨g, cp, rfl, _, hrow, hb⟩
      have HRF := hidp hrow
      clear hI9 hrow
      replace HC := hidp (HC.out.keep hb)
      replace HSA := hidp (HSA.out.keep hb)
      replace HOA := hidp (own_below HOA.out hb)
      replace HD := hidp (HD.out.keep hb)
      clear hb
      refine hK.out _ _ ?_ (fun hHeld => ?_)
      ·(try dsimp only)
       first | exact HC.out.three | exact hHeld
      clear hK K
      (try simp only [Act.put, gA, gB, gC, sA, sB, sC])
      refine wpAnyH_ready (rs := [3, 7]) (by kernel_rfl) (by simp) ?_
      refine AllReadyH.cons (o := _) rfl (fun K hK => ?_) (AllReadyH.cons (o := _) rfl (fun K hK => ?_) AllReadyH.nil)
      ·skip
       go_simp
       refine (HN2.out _ _ _ HRF.out).mono ?_
       rintro e v2 ⟨u2, rfl, hown, hb⟩
       rw [HNL.out] at hown
       obtain ⟨AB, kb, hu2⟩ := own_slice hown
       subst hu2
       have HO2 : Hid (v2.ownsRow 0 94 2 (.slice AB nl kb) nl (bkVs L)) := hidp (own_lower hown (Nat.zero_le _))
       clear HRF hown
       replace HC := hidp (HC.out.keep hb)
       replace HSA := hidp (HSA.out.keep hb)
       replace HOA := hidp (own_below HOA.out hb)
       replace HD := hidp (HD.out.keep hb)
       clear hb
       refine hK.out _ _ ?_ (fun hHeld => ?_)
       ·(try dsimp only)
        first | exact HC.out.three | exact hHeld
       clear hK K
       (try simp only [Act.put, gA, gB, gC, sA, sB, sC])
       refine tkz 4 ?_
       refine tkz 5 ?_
       refine tkz 6 ?_
       refine rdz 7 fun K hK => ?_
       ·skip
        go_simp
        have hb := Bnew (B0 v2) (.cells #[.slice none 0 0, .int .i64 0, .int .i64 0, .int .i64 0, .int .i64 0, .int .i64 0, .int .i64 0, .int .i64 0, .int .i64 0] 46)
        have HN := hidp (Held.new v2 46 #[.slice none 0 0, .int .i64 0, .int .i64 0, .int .i64 0, .int .i64 0, .int .i64 0, .int .i64 0, .int .i64 0, .int .i64 0])
        have HLE := hidp HD.out.bel.size
        have HLT : Hid (W.heap.size < v2.heap.size /\ NA < v2.heap.size) := hidp ⟨HC.out.lt, HSA.out.lt⟩
        have HNA : Hid (¬ A4 v2.heap.size) := hidp (fun x => by have := Ob.lt (vOb z1 b1 n true (wholeKA vals)) HD.out.i1 _ x; omega)
        have HNB : Hid (¬ B4 v2.heap.size) := hidp (fun x => by have := Ob.lt (vOb z2 b2 n true (wholeKA vals)) HD.out.i2 _ x; omega)
        replace HC := hidp (HC.out.keep hb)
        replace HSA := hidp (HSA.out.keep hb)
        replace HOA := hidp (own_below HOA.out hb)
        replace HO2 := hidp (own_below HO2.out hb)
        replace HD := hidp (HD.out.keep hb)
        clear hb
        generalize hn13 : v2.heap.size = NB at *
        generalize hw13 : v2.alloc (.cells #[.slice none 0 0, .int .i64 0, .int .i64 0, .int .i64 0, .int .i64 0, .int .i64 0, .int .i64 0, .int .i64 0, .int .i64 0] 46) = v3 at *
        clear hn13 hw13
        refine hK.out _ _ ?_ (fun hHeld => ?_)
        ·(try dsimp only)
         first | exact HC.out.three | exact hHeld
        clear hK K
        (try simp only [Act.put, gA, gB, gC, sA, sB, sC])
        refine rdz 8 fun K hK => ?_
        obtain ⟨z0, z1', z2, z3, z4, z5', z6, z7, z8⟩ := HN.out.nine
        obtain ⟨f0, f1, f2, f3, f4, f5, f6, f7, f8⟩ := HN.out.thawed9
        go_simp
        obtain ⟨WF, hWF⟩ : ∃ WF, wr9 (v3) NB (.slice AB nl kb) r0 r1 r2 r3 r4 r5 r6 r7 = WF := ⟨_, rfl⟩
        replace HOA := hidp (own9 hWF (heldOwn_ne HN.out HOA.out (by decide)) HOA.out)
        replace HO2 := hidp (own9 hWF (heldOwn_ne HN.out HO2.out (by decide)) HO2.out)
        replace HC := hidp (far9 hWF (by have := HLT.out; omega) HC.out)
        replace HSA := hidp (far9 hWF (by have := HLT.out; omega) HSA.out)
        replace HD := hidp (duo9 hWF HNA.out HNB.out HLE.out HD.out)
        replace HN := hidp (held9 hWF HN.out)
        unfold wr9 set9 at hWF
        rw [hWF]
        clear hWF z0 z1' z2 z3 z4 z5' z6 z7 z8 f0 f1 f2 f3 f4 f5 f6 f7 f8
        refine hK.out _ _ ?_ (fun hHeld => ?_)
        ·(try dsimp only)
         first | exact HC.out.three | exact hHeld
        clear hK K
        (try simp only [Act.put, gA, gB, gC, sA, sB, sC])
        refine tkz 9 ?_
        refine dnz ?_
        go_wp2_with fail
        go_meet
        case rel => exact ⟨_, _, _, _, rfl, rfl, HN.out, HO2.out, HC.out, HSA.out, HOA.out, HD.out⟩
      ·skip
       go_simp
       have hb := Bnew (B0 v1) (.cells #[.slice none 0 0, .int .i64 0, .int .i64 0, .int .i64 0, .int .i64 0, .int .i64 0, .int .i64 0, .int .i64 0, .int .i64 0] 46)
       have HN := hidp (Held.new v1 46 #[.slice none 0 0, .int .i64 0, .int .i64 0, .int .i64 0, .int .i64 0, .int .i64 0, .int .i64 0, .int .i64 0, .int .i64 0])
       have HLE := hidp HD.out.bel.size
       have HLT : Hid (W.heap.size < v1.heap.size /\ NA < v1.heap.size) := hidp ⟨HC.out.lt, HSA.out.lt⟩
       have HNA : Hid (¬ A4 v1.heap.size) := hidp (fun x => by have := Ob.lt (vOb z1 b1 n true (wholeKA vals)) HD.out.i1 _ x; omega)
       have HNB : Hid (¬ B4 v1.heap.size) := hidp (fun x => by have := Ob.lt (vOb z2 b2 n true (wholeKA vals)) HD.out.i2 _ x; omega)
       replace HC := hidp (HC.out.keep hb)
       replace HSA := hidp (HSA.out.keep hb)
       replace HOA := hidp (own_below HOA.out hb)
       replace HD := hidp (HD.out.keep hb)
       replace HRF := hidp (HRF.out.keep hb)
       clear hb
       generalize hn13 : v1.heap.size = NB at *
       generalize hw13 : v1.alloc (.cells #[.slice none 0 0, .int .i64 0, .int .i64 0, .int .i64 0, .int .i64 0, .int .i64 0, .int .i64 0, .int .i64 0, .int .i64 0] 46) = v4 at *
       clear hn13 hw13
       refine hK.out _ _ ?_ (fun hHeld => ?_)
       ·(try dsimp only)
        first | exact HC.out.three | exact hHeld
       clear hK K
       (try simp only [Act.put, gA, gB, gC, sA, sB, sC])
       refine rdz 3 fun K hK => ?_
       ·skip
        go_simp
        refine (HN2.out _ _ _ HRF.out).mono ?_
        rintro e v5 ⟨u2, rfl, hown, hb⟩
        rw [HNL.out] at hown
        obtain ⟨AB, kb, hu2⟩ := own_slice hown
        subst hu2
        have HO2 : Hid (v5.ownsRow 0 94 2 (.slice AB nl kb) nl (bkVs L)) := hidp (own_lower hown (Nat.zero_le _))
        clear HRF hown
        replace HC := hidp (HC.out.keep hb)
        replace HSA := hidp (HSA.out.keep hb)
        replace HN := hidp (HN.out.keep hb)
        replace HOA := hidp (own_below HOA.out hb)
        replace HD := hidp (HD.out.keep hb)
        clear hb
        refine hK.out _ _ ?_ (fun hHeld => ?_)
        ·(try dsimp only)
         first | exact HC.out.three | exact hHeld
        clear hK K
        (try simp only [Act.put, gA, gB, gC, sA, sB, sC])
        refine tkz 4 ?_
        refine tkz 5 ?_
        refine tkz 6 ?_
        refine rdz 8 fun K hK => ?_
        obtain ⟨z0, z1', z2, z3, z4, z5', z6, z7, z8⟩ := HN.out.nine
        obtain ⟨f0, f1, f2, f3, f4, f5, f6, f7, f8⟩ := HN.out.thawed9
        go_simp
        obtain ⟨WF, hWF⟩ : ∃ WF, wr9 (v5) NB (.slice AB nl kb) r0 r1 r2 r3 r4 r5 r6 r7 = WF := ⟨_, rfl⟩
        replace HOA := hidp (own9 hWF (heldOwn_ne HN.out HOA.out (by decide)) HOA.out)
        replace HO2 := hidp (own9 hWF (heldOwn_ne HN.out HO2.out (by decide)) HO2.out)
        replace HC := hidp (far9 hWF (by have := HLT.out; omega) HC.out)
        replace HSA := hidp (far9 hWF (by have := HLT.out; omega) HSA.out)
        replace HD := hidp (duo9 hWF HNA.out HNB.out HLE.out HD.out)
        replace HN := hidp (held9 hWF HN.out)
        unfold wr9 set9 at hWF
        rw [hWF]
        clear hWF z0 z1' z2 z3 z4 z5' z6 z7 z8 f0 f1 f2 f3 f4 f5 f6 f7 f8
        refine hK.out _ _ ?_ (fun hHeld => ?_)
        ·(try dsimp only)
         first | exact HC.out.three | exact hHeld
        clear hK K
        (try simp only [Act.put, gA, gB, gC, sA, sB, sC])
        refine tkz 9 ?_
        refine dnz ?_
        go_wp2_with fail
        go_meet
        case rel => exact ⟨_, _, _, _, rfl, rfl, HN.out, HO2.out, HC.out, HSA.out, HOA.out, HD.out⟩
     ·skip
      go_simp
      have hb := Bnew (B0 q0) (.cells #[.slice none 0 0, .int .i64 0, .int .i64 0, .int .i64 0, .int .i64 0, .int .i64 0, .int .i64 0, .int .i64 0, .int .i64 0] 46)
      have HN := hidp (Held.new q0 46 #[.slice none 0 0, .int .i64 0, .int .i64 0, .int .i64 0, .int .i64 0, .int .i64 0, .int .i64 0, .int .i64 0, .int .i64 0])
      have HLE := hidp HD.out.bel.size
      have HLT : Hid (W.heap.size < q0.heap.size /\ NA < q0.heap.size) := hidp ⟨HC.out.lt, HSA.out.lt⟩
      have HNA : Hid (¬ A4 q0.heap.size) := hidp (fun x => by have := Ob.lt (vOb z1 b1 n true (wholeKA vals)) HD.out.i1 _ x; omega)
      have HNB : Hid (¬ B4 q0.heap.size) := hidp (fun x => by have := Ob.lt (vOb z2 b2 n true (wholeKA vals)) HD.out.i2 _ x; omega)
      replace HC := hidp (HC.out.keep hb)
      replace HSA := hidp (HSA.out.keep hb)
      replace HOA := hidp (own_below HOA.out hb)
      replace HD := hidp (HD.out.keep hb)
      clear hb
      generalize hn13 : q0.heap.size = NB at *
      generalize hw13 : q0.alloc (.cells #[.slice none 0 0, .int .i64 0, .int .i64 0, .int .i64 0, .int .i64 0, .int .i64 0, .int .i64 0, .int .i64 0, .int .i64 0] 46) = v6 at *
      clear hn13 hw13
      refine hK.out _ _ ?_ (fun hHeld => ?_)
      ·(try dsimp only)
       first | exact HC.out.three | exact hHeld
      clear hK K
      (try simp only [Act.put, gA, gB, gC, sA, sB, sC])
      refine rdz 2 fun K hK => ?_
      ·skip
       go_simp
       obtain ⟨o9, hI9, _⟩ := HD.out.i2
       refine (vVals_some hn0 (by have := hI9.ok.few; omega) _ hI9).mono ?_
       rintro e v7 ⟨g, cp, rfl, _, hrow, hb⟩
       have HRF := hidp hrow
       clear hI9 hrow
       replace HC := hidp (HC.out.keep hb)
       replace HSA := hidp (HSA.out.keep hb)
       replace HN := hidp (HN.out.keep hb)
       replace HOA := hidp (own_below HOA.out hb)
       replace HD := hidp (HD.out.keep hb)
       clear hb
       refine hK.out _ _ ?_ (fun hHeld => ?_)
       ·(try dsimp only)
        first | exact HC.out.three | exact hHeld
       clear hK K
       (try simp only [Act.put, gA, gB, gC, sA, sB, sC])
       refine rdz 3 fun K hK => ?_
       ·skip
        go_simp
        refine (HN2.out _ _ _ HRF.out).mono ?_
        rintro e v8 ⟨u2, rfl, hown, hb⟩
        rw [HNL.out] at hown
        obtain ⟨AB, kb, hu2⟩ := own_slice hown
        subst hu2
        have HO2 : Hid (v8.ownsRow 0 94 2 (.slice AB nl kb) nl (bkVs L)) := hidp (own_lower hown (Nat.zero_le _))
        clear HRF hown
        replace HC := hidp (HC.out.keep hb)
        replace HSA := hidp (HSA.out.keep hb)
        replace HN := hidp (HN.out.keep hb)
        replace HOA := hidp (own_below HOA.out hb)
        replace HD := hidp (HD.out.keep hb)
        clear hb
        refine hK.out _ _ ?_ (fun hHeld => ?_)
        ·(try dsimp only)
         first | exact HC.out.three | exact hHeld
        clear hK K
        (try simp only [Act.put, gA, gB, gC, sA, sB, sC])
        refine tkz 4 ?_
        refine tkz 5 ?_
        refine tkz 6 ?_
        refine rdz 8 fun K hK => ?_
        obtain ⟨z0, z1', z2, z3, z4, z5', z6, z7, z8⟩ := HN.out.nine
        obtain ⟨f0, f1, f2, f3, f4, f5, f6, f7, f8⟩ := HN.out.thawed9
        go_simp
        obtain ⟨WF, hWF⟩ : ∃ WF, wr9 (v8) NB (.slice AB nl kb) r0 r1 r2 r3 r4 r5 r6 r7 = WF := ⟨_, rfl⟩
        replace HOA := hidp (own9 hWF (heldOwn_ne HN.out HOA.out (by decide)) HOA.out)
        replace HO2 := hidp (own9 hWF (heldOwn_ne HN.out HO2.out (by decide)) HO2.out)
        replace HC := hidp (far9 hWF (by have := HLT.out; omega) HC.out)
        replace HSA := hidp (far9 hWF (by have := HLT.out; omega) HSA.out)
        replace HD := hidp (duo9 hWF HNA.out HNB.out HLE.out HD.out)
        replace HN := hidp (held9 hWF HN.out)
        unfold wr9 set9 at hWF
        rw [hWF]
        clear hWF z0 z1' z2 z3 z4 z5' z6 z7 z8 f0 f1 f2 f3 f4 f5 f6 f7 f8
        refine hK.out _ _ ?_ (fun hHeld => ?_)
        ·(try dsimp only)
         first | exact HC.out.three | exact hHeld
        clear hK K
        (try simp only [Act.put, gA, gB, gC, sA, sB, sC])
        refine tkz 9 ?_
        refine dnz ?_
        go_wp2_with fail
        go_meet
        case rel => exact ⟨_, _, _, _, rfl, rfl, HN.out, HO2.out, HC.out, HSA.out, HOA.out, HD.out⟩
    case rest =>
     obtain ⟨NB, kb, AB, A4, rfl, rfl, hN, hO2, hHC, hHSA, hHOA, hD⟩ := hcut
     have HSB := hidp hN
     have HOB := hidp hO2
     replace HC := hidp hHC
     replace HSA := hidp hHSA
     replace HOA := hidp hHOA
     replace HD := hidp hD
     clear hN hO2 hHC hHSA hHOA hD
     clear x0 x1 x2
     obtain ⟨x0, x1, x2⟩ := HC.out.three
     clear x0 x1 x2 HN1 HN2
     go_wp2_with fail
     replace HC := hidp (HC.out.keep (Bdrew (B0 _)))
     replace HSA := hidp (HSA.out.keep (Bdrew (B0 _)))
     replace HSB := hidp (HSB.out.keep (Bdrew (B0 _)))
     replace HOA := hidp (own_below HOA.out (Bdrew (B0 _)))
     replace HOB := hidp (own_below HOB.out (Bdrew (B0 _)))
     replace HD := hidp (HD.out.keep (Bdrew (B0 _)))
     refine wp_region_held_drew (S := (fun w' => (w'.cell? ⟨NA, 0, none⟩ = some (.slice AA nl ka) /\ w'.cell? ⟨NA, 1, none⟩ = some (.int .i64 (r0 : Int)) /\ w'.cell? ⟨NA, 2, none⟩ = some (.int .i64 (r1 : Int)) /\ w'.cell? ⟨NA, 3, none⟩ = some (.int .i64 (r2 : Int)) /\ w'.cell? ⟨NA, 4, none⟩ = some (.int .i64 (r3 : Int)) /\ w'.cell? ⟨NA, 5, none⟩ = some (.int .i64 (r4 : Int)) /\ w'.cell? ⟨NA, 6, none⟩ = some (.int .i64 (r5 : Int)) /\ w'.cell? ⟨NA, 7, none⟩ = some (.int .i64 (r6 : Int)) /\ w'.cell? ⟨NA, 8, none⟩ = some (.int .i64 (r7 : Int))) /\ (w'.cell? ⟨NB, 0, none⟩ = some (.slice AB nl kb) /\ w'.cell? ⟨NB, 1, none⟩ = some (.int .i64 (r0 : Int)) /\ w'.cell? ⟨NB, 2, none⟩ = some (.int .i64 (r1 : Int)) /\ w'.cell? ⟨NB, 3, none⟩ = some (.int .i64 (r2 : Int)) /\ w'.cell? ⟨NB, 4, none⟩ = some (.int .i64 (r3 : Int)) /\ w'.cell? ⟨NB, 5, none⟩ = some (.int .i64 (r4 : Int)) /\ w'.cell? ⟨NB, 6, none⟩ = some (.int .i64 (r5 : Int)) /\ w'.cell? ⟨NB, 7, none⟩ = some (.int .i64 (r6 : Int)) /\ w'.cell? ⟨NB, 8, none⟩ = some (.int .i64 (r7 : Int))) /\ (w'.cell? ⟨W.heap.size, 0, none⟩ = some (.int .i64 (H.t : Int)) /\ w'.cell? ⟨W.heap.size, 1, none⟩ = some (.int .i64 (H.p : Int)) /\ w'.cell? ⟨W.heap.size, 2, none⟩ = some (.int .i64 (H.s : Int))))) (by kernel_rfl) ?_ (fun hHeld => ?_)
     ·(try dsimp only)
      first | exact ⟨HSA.out.nine, HSB.out.nine, HC.out.three⟩ | exact hHeld
     refine tkz 0 ?_
     refine tkz 1 ?_
     refine tkz 2 ?_
     refine tkz 3 ?_
     refine tkz 4 ?_
     refine tkz 5 ?_
     refine tkz 6 ?_
     refine rdz 7 fun K hK => ?_
     go_simp
     (refine (xSame_c L L AA AB nl nl ka kb 0 0 r0 r1 r2 r3 r4 r5 r6 r7 r0 r1 r2 r3 r4 r5 r6 r7 _ HNL.out HNL.out hnlb2 hnlb2 HOA.out HOB.out true ⟨fun _ => ⟨rfl, rfl⟩, fun _ => rfl⟩).mono ?_; rintro e w21 ⟨rfl, hb⟩; replace HC := hidp (HC.out.keep hb); replace HSA := hidp (HSA.out.keep hb); replace HSB := hidp (HSB.out.keep hb); replace HD := hidp (HD.out.keep hb); clear hb)
     refine hK.out _ _ ?_ (fun hHeld => ?_)
     ·(try dsimp only)
      first | exact ⟨HSA.out.nine, HSB.out.nine, HC.out.three⟩ | exact hHeld
     clear hK K
     (try simp only [Act.put, gA, gB, gC, sA, sB, sC])
     refine tkz 8 ?_
     refine tkz 9 ?_
     refine tkz 10 ?_
     refine tkz 14 ?_
     refine rdz 11 fun K hK => ?_
     go_simp
     (obtain ⟨o9, hI9, _⟩ := HD.out.i1; refine (vVals_some hn0 (by have := hI9.ok.few; omega) _ hI9).mono ?_; rintro e w22 ⟨g1, cp1, rfl, _, hrow, hb⟩; have HRA := hidp hrow; replace HC := hidp (HC.out.keep hb); replace HSA := hidp (HSA.out.keep hb); replace HSB := hidp (HSB.out.keep hb); replace HD := hidp (HD.out.keep hb); clear hI9 hrow hb; have hcp_g1 := HRA.out.le; have hcm_g1 : cp1 <= 9223372036854775807 := HRA.out.max; have c0_g1 : w22.cell? ⟨g1, 0, none⟩ = some (.int .u32 (z0 : Int)) := v0_cell hn0 HZ1.out HRA.out)
     refine hK.out _ _ ?_ (fun hHeld => ?_)
     ·(try dsimp only)
      first | exact ⟨HSA.out.nine, HSB.out.nine, HC.out.three⟩ | exact hHeld
     clear hK K
     (try simp only [Act.put, gA, gB, gC, sA, sB, sC])
     refine tkz 12 ?_
     refine wpAnyH_ready (rs := [13, 15]) (by kernel_rfl) (by simp) ?_
     refine (AllReadyH.cons (o := _) rfl (fun K hK => ?_) (AllReadyH.cons (o := _) rfl (fun K hK => ?_) AllReadyH.nil))
     ·go_simp
      refine hK.out _ _ ?_ (fun hHeld => ?_)
      ·(try dsimp only)
       first | exact ⟨HSA.out.nine, HSB.out.nine, HC.out.three⟩ | exact hHeld
      clear hK K
      (try simp only [Act.put, gA, gB, gC, sA, sB, sC])
      refine rdz 15 fun K hK => ?_
      go_simp
      (obtain ⟨o9, hI9, _⟩ := HD.out.i2; refine (vVals_some hn0 (by have := hI9.ok.few; omega) _ hI9).mono ?_; rintro e w23 ⟨g2, cp2, rfl, _, hrow, hb⟩; have HRB := hidp hrow; replace HC := hidp (HC.out.keep hb); replace HSA := hidp (HSA.out.keep hb); replace HSB := hidp (HSB.out.keep hb); replace HD := hidp (HD.out.keep hb); replace HRA := hidp (HRA.out.keep hb); clear hI9 hrow hb; have hcp_g2 := HRB.out.le; have hcm_g2 : cp2 <= 9223372036854775807 := HRB.out.max; have c0_g2 : w23.cell? ⟨g2, 0, none⟩ = some (.int .u32 (z0 : Int)) := v0_cell hn0 HZ2.out HRB.out)
      refine hK.out _ _ ?_ (fun hHeld => ?_)
      ·(try dsimp only)
       first | exact ⟨HSA.out.nine, HSB.out.nine, HC.out.three⟩ | exact hHeld
      clear hK K
      (try simp only [Act.put, gA, gB, gC, sA, sB, sC])
      refine tkz 16 ?_
      refine rdz 17 fun K hK => ?_
      go_simp
      skip
      refine hK.out _ _ ?_ (fun hHeld => ?_)
      ·(try dsimp only)
       first | exact ⟨HSA.out.nine, HSB.out.nine, HC.out.three⟩ | exact hHeld
      clear hK K
      (try simp only [Act.put, gA, gB, gC, sA, sB, sC])
      refine tkz 18 ?_
      refine tkz 19 ?_
      refine tkz 20 ?_
      refine tkz 21 ?_
      refine tkz 22 ?_
      refine tkz 24 ?_
      refine tkz 25 ?_
      refine wpAnyH_ready (rs := [23, 26]) (by kernel_rfl) (by simp) ?_
      refine (AllReadyH.cons (o := _) rfl (fun K hK => ?_) (AllReadyH.cons (o := _) rfl (fun K hK => ?_) AllReadyH.nil))
      ·go_simp
       (obtain ⟨o9, hI9, _⟩ := HD.out.i1; refine (vVals_some hn0 (by have := hI9.ok.few; omega) _ hI9).mono ?_; rintro e w24 ⟨g3, cp3, rfl, _, hrow, hb⟩; have HRF := hidp hrow; replace HC := hidp (HC.out.keep hb); replace HSA := hidp (HSA.out.keep hb); replace HSB := hidp (HSB.out.keep hb); replace HD := hidp (HD.out.keep hb); clear hI9 hrow hb)
       refine hK.out _ _ ?_ (fun hHeld => ?_)
       ·(try dsimp only)
        first | exact ⟨HSA.out.nine, HSB.out.nine, HC.out.three⟩ | exact hHeld
       clear hK K
       (try simp only [Act.put, gA, gB, gC, sA, sB, sC])
       refine rdz 26 fun K hK => ?_
       go_simp
       (have hb := Bnew (B0 w24) (.cells (madeCells noPk (H.t * 9)) 99); have HPK : Hid (PksAt (w24.alloc (.cells (madeCells noPk (H.t * 9)) 99)) (some ⟨w24.heap.size, 0, none⟩) H.t (fun _ _ => ⟨none, 0, 0⟩) (fun _ _ => [])) := hidp (pks_made H.t w24); replace HC := hidp (HC.out.keep hb); replace HSA := hidp (HSA.out.keep hb); replace HSB := hidp (HSB.out.keep hb); replace HD := hidp (HD.out.keep hb); replace HRF := hidp (HRF.out.keep hb); clear hb; generalize hNP : w24.heap.size = NP at HPK ⊢; generalize hwp : w24.alloc (.cells (madeCells noPk (H.t * 9)) 99) = wp at *; clear hNP hwp)
       refine hK.out _ _ ?_ (fun hHeld => ?_)
       ·(try dsimp only)
        first | exact ⟨HSA.out.nine, HSB.out.nine, HC.out.three⟩ | exact hHeld
       clear hK K
       (try simp only [Act.put, gA, gB, gC, sA, sB, sC])
       refine rdz 27 fun K hK => ?_
       go_simp
       (refine (HFT.out _ _ _ HRF.out _ _ _ (Nat.le_refl _) (by unfold maxLen; omega) HPK.out).mono ?_; rintro e w62 ⟨rfl, hb⟩; replace HC := hidp (HC.out.keep hb); replace HSA := hidp (HSA.out.keep hb); replace HSB := hidp (HSB.out.keep hb); replace HD := hidp (HD.out.keep hb); clear hb HRF HPK)
       refine hK.out _ _ ?_ (fun hHeld => ?_)
       ·(try dsimp only)
        first | exact ⟨HSA.out.nine, HSB.out.nine, HC.out.three⟩ | exact hHeld
       clear hK K
       (try simp only [Act.put, gA, gB, gC, sA, sB, sC])
       refine tkz 28 ?_
       refine tkz 29 ?_
       refine rdz 30 fun K hK => ?_
       go_simp
       (refine (live24_c _ (HTL.out.below HD.out.bel)).mono ?_; rintro e w63 ⟨rfl, hb⟩; replace HC := hidp (HC.out.keep hb); replace HSA := hidp (HSA.out.keep hb); replace HSB := hidp (HSB.out.keep hb); replace HD := hidp (HD.out.keep hb); clear hb)
       refine hK.out _ _ ?_ (fun hHeld => ?_)
       ·(try dsimp only)
        first | exact ⟨HSA.out.nine, HSB.out.nine, HC.out.three⟩ | exact hHeld
       clear hK K
       (try simp only [Act.put, gA, gB, gC, sA, sB, sC])
       refine tkz 31 ?_
       refine tkz 32 ?_
       refine dnz ?_
       have HB := hidp HD.out.bel
       go_wp2
       go_ret
       exact ⟨rfl, HB.out⟩
      ·go_simp
       (have hb := Bnew (B0 w23) (.cells (madeCells noPk (H.t * 9)) 99); have HPK : Hid (PksAt (w23.alloc (.cells (madeCells noPk (H.t * 9)) 99)) (some ⟨w23.heap.size, 0, none⟩) H.t (fun _ _ => ⟨none, 0, 0⟩) (fun _ _ => [])) := hidp (pks_made H.t w23); replace HC := hidp (HC.out.keep hb); replace HSA := hidp (HSA.out.keep hb); replace HSB := hidp (HSB.out.keep hb); replace HD := hidp (HD.out.keep hb); clear hb; generalize hNP : w23.heap.size = NP at HPK ⊢; generalize hwp : w23.alloc (.cells (madeCells noPk (H.t * 9)) 99) = wp at *; clear hNP hwp)
       refine hK.out _ _ ?_ (fun hHeld => ?_)
       ·(try dsimp only)
        first | exact ⟨HSA.out.nine, HSB.out.nine, HC.out.three⟩ | exact hHeld
       clear hK K
       (try simp only [Act.put, gA, gB, gC, sA, sB, sC])
       refine rdz 23 fun K hK => ?_
       go_simp
       (obtain ⟨o9, hI9, _⟩ := HD.out.i1; refine (vVals_some hn0 (by have := hI9.ok.few; omega) _ hI9).mono ?_; rintro e w24 ⟨g3, cp3, rfl, _, hrow, hb⟩; have HRF := hidp hrow; replace HC := hidp (HC.out.keep hb); replace HSA := hidp (HSA.out.keep hb); replace HSB := hidp (HSB.out.keep hb); replace HD := hidp (HD.out.keep hb); have HBV := hidp hb; clear hI9 hrow hb; replace HPK := hidp (HPK.out.below HBV.out); clear HBV)
       refine hK.out _ _ ?_ (fun hHeld => ?_)
       ·(try dsimp only)
        first | exact ⟨HSA.out.nine, HSB.out.nine, HC.out.three⟩ | exact hHeld
       clear hK K
       (try simp only [Act.put, gA, gB, gC, sA, sB, sC])
       refine rdz 27 fun K hK => ?_
       go_simp
       (refine (HFT.out _ _ _ HRF.out _ _ _ (Nat.le_refl _) (by unfold maxLen; omega) HPK.out).mono ?_; rintro e w62 ⟨rfl, hb⟩; replace HC := hidp (HC.out.keep hb); replace HSA := hidp (HSA.out.keep hb); replace HSB := hidp (HSB.out.keep hb); replace HD := hidp (HD.out.keep hb); clear hb HRF HPK)
       refine hK.out _ _ ?_ (fun hHeld => ?_)
       ·(try dsimp only)
        first | exact ⟨HSA.out.nine, HSB.out.nine, HC.out.three⟩ | exact hHeld
       clear hK K
       (try simp only [Act.put, gA, gB, gC, sA, sB, sC])
       refine tkz 28 ?_
       refine tkz 29 ?_
       refine rdz 30 fun K hK => ?_
       go_simp
       (refine (live24_c _ (HTL.out.below HD.out.bel)).mono ?_; rintro e w63 ⟨rfl, hb⟩; replace HC := hidp (HC.out.keep hb); replace HSA := hidp (HSA.out.keep hb); replace HSB := hidp (HSB.out.keep hb); replace HD := hidp (HD.out.keep hb); clear hb)
       refine hK.out _ _ ?_ (fun hHeld => ?_)
       ·(try dsimp only)
        first | exact ⟨HSA.out.nine, HSB.out.nine, HC.out.three⟩ | exact hHeld
       clear hK K
       (try simp only [Act.put, gA, gB, gC, sA, sB, sC])
       refine tkz 31 ?_
       refine tkz 32 ?_
       refine dnz ?_
       have HB := hidp HD.out.bel
       go_wp2
       go_ret
       exact ⟨rfl, HB.out⟩
     ·go_simp
      (obtain ⟨o9, hI9, _⟩ := HD.out.i2; refine (vVals_some hn0 (by have := hI9.ok.few; omega) _ hI9).mono ?_; rintro e w23 ⟨g2, cp2, rfl, _, hrow, hb⟩; have HRB := hidp hrow; replace HC := hidp (HC.out.keep hb); replace HSA := hidp (HSA.out.keep hb); replace HSB := hidp (HSB.out.keep hb); replace HD := hidp (HD.out.keep hb); replace HRA := hidp (HRA.out.keep hb); clear hI9 hrow hb; have hcp_g2 := HRB.out.le; have hcm_g2 : cp2 <= 9223372036854775807 := HRB.out.max; have c0_g2 : w23.cell? ⟨g2, 0, none⟩ = some (.int .u32 (z0 : Int)) := v0_cell hn0 HZ2.out HRB.out; replace c0_g1 : w23.cell? ⟨g1, 0, none⟩ = some (.int .u32 (z0 : Int)) := v0_cell hn0 HZ1.out HRA.out)
      refine hK.out _ _ ?_ (fun hHeld => ?_)
      ·(try dsimp only)
       first | exact ⟨HSA.out.nine, HSB.out.nine, HC.out.three⟩ | exact hHeld
      clear hK K
      (try simp only [Act.put, gA, gB, gC, sA, sB, sC])
      refine tkz 16 ?_
      refine wpAnyH_ready (rs := [13, 17]) (by kernel_rfl) (by simp) ?_
      refine (AllReadyH.cons (o := _) rfl (fun K hK => ?_) (AllReadyH.cons (o := _) rfl (fun K hK => ?_) AllReadyH.nil))
      ·go_simp
       refine hK.out _ _ ?_ (fun hHeld => ?_)
       ·(try dsimp only)
        first | exact ⟨HSA.out.nine, HSB.out.nine, HC.out.three⟩ | exact hHeld
       clear hK K
       (try simp only [Act.put, gA, gB, gC, sA, sB, sC])
       refine rdz 17 fun K hK => ?_
       go_simp
       skip
       refine hK.out _ _ ?_ (fun hHeld => ?_)
       ·(try dsimp only)
        first | exact ⟨HSA.out.nine, HSB.out.nine, HC.out.three⟩ | exact hHeld
       clear hK K
       (try simp only [Act.put, gA, gB, gC, sA, sB, sC])
       refine tkz 18 ?_
       refine tkz 19 ?_
       refine tkz 20 ?_
       refine tkz 21 ?_
       refine tkz 22 ?_
       refine tkz 24 ?_
       refine tkz 25 ?_
       refine wpAnyH_ready (rs := [23, 26]) (by kernel_rfl) (by simp) ?_
       refine (AllReadyH.cons (o := _) rfl (fun K hK => ?_) (AllReadyH.cons (o := _) rfl (fun K hK => ?_) AllReadyH.nil))
       ·go_simp
        (obtain ⟨o9, hI9, _⟩ := HD.out.i1; refine (vVals_some hn0 (by have := hI9.ok.few; omega) _ hI9).mono ?_; rintro e w24 ⟨g3, cp3, rfl, _, hrow, hb⟩; have HRF := hidp hrow; replace HC := hidp (HC.out.keep hb); replace HSA := hidp (HSA.out.keep hb); replace HSB := hidp (HSB.out.keep hb); replace HD := hidp (HD.out.keep hb); clear hI9 hrow hb)
        refine hK.out _ _ ?_ (fun hHeld => ?_)
        ·(try dsimp only)
         first | exact ⟨HSA.out.nine, HSB.out.nine, HC.out.three⟩ | exact hHeld
        clear hK K
        (try simp only [Act.put, gA, gB, gC, sA, sB, sC])
        refine rdz 26 fun K hK => ?_
        go_simp
        (have hb := Bnew (B0 w24) (.cells (madeCells noPk (H.t * 9)) 99); have HPK : Hid (PksAt (w24.alloc (.cells (madeCells noPk (H.t * 9)) 99)) (some ⟨w24.heap.size, 0, none⟩) H.t (fun _ _ => ⟨none, 0, 0⟩) (fun _ _ => [])) := hidp (pks_made H.t w24); replace HC := hidp (HC.out.keep hb); replace HSA := hidp (HSA.out.keep hb); replace HSB := hidp (HSB.out.keep hb); replace HD := hidp (HD.out.keep hb); replace HRF := hidp (HRF.out.keep hb); clear hb; generalize hNP : w24.heap.size = NP at HPK ⊢; generalize hwp : w24.alloc (.cells (madeCells noPk (H.t * 9)) 99) = wp at *; clear hNP hwp)
        refine hK.out _ _ ?_ (fun hHeld => ?_)
        ·(try dsimp only)
         first | exact ⟨HSA.out.nine, HSB.out.nine, HC.out.three⟩ | exact hHeld
        clear hK K
        (try simp only [Act.put, gA, gB, gC, sA, sB, sC])
        refine rdz 27 fun K hK => ?_
        go_simp
        (refine (HFT.out _ _ _ HRF.out _ _ _ (Nat.le_refl _) (by unfold maxLen; omega) HPK.out).mono ?_; rintro e w62 ⟨rfl, hb⟩; replace HC := hidp (HC.out.keep hb); replace HSA := hidp (HSA.out.keep hb); replace HSB := hidp (HSB.out.keep hb); replace HD := hidp (HD.out.keep hb); clear hb HRF HPK)
        refine hK.out _ _ ?_ (fun hHeld => ?_)
        ·(try dsimp only)
         first | exact ⟨HSA.out.nine, HSB.out.nine, HC.out.three⟩ | exact hHeld
        clear hK K
        (try simp only [Act.put, gA, gB, gC, sA, sB, sC])
        refine tkz 28 ?_
        refine tkz 29 ?_
        refine rdz 30 fun K hK => ?_
        go_simp
        (refine (live24_c _ (HTL.out.below HD.out.bel)).mono ?_; rintro e w63 ⟨rfl, hb⟩; replace HC := hidp (HC.out.keep hb); replace HSA := hidp (HSA.out.keep hb); replace HSB := hidp (HSB.out.keep hb); replace HD := hidp (HD.out.keep hb); clear hb)
        refine hK.out _ _ ?_ (fun hHeld => ?_)
        ·(try dsimp only)
         first | exact ⟨HSA.out.nine, HSB.out.nine, HC.out.three⟩ | exact hHeld
        clear hK K
        (try simp only [Act.put, gA, gB, gC, sA, sB, sC])
        refine tkz 31 ?_
        refine tkz 32 ?_
        refine dnz ?_
        have HB := hidp HD.out.bel
        go_wp2
        go_ret
        exact ⟨rfl, HB.out⟩
       ·go_simp
        (have hb := Bnew (B0 w23) (.cells (madeCells noPk (H.t * 9)) 99); have HPK : Hid (PksAt (w23.alloc (.cells (madeCells noPk (H.t * 9)) 99)) (some ⟨w23.heap.size, 0, none⟩) H.t (fun _ _ => ⟨none, 0, 0⟩) (fun _ _ => [])) := hidp (pks_made H.t w23); replace HC := hidp (HC.out.keep hb); replace HSA := hidp (HSA.out.keep hb); replace HSB := hidp (HSB.out.keep hb); replace HD := hidp (HD.out.keep hb); clear hb; generalize hNP : w23.heap.size = NP at HPK ⊢; generalize hwp : w23.alloc (.cells (madeCells noPk (H.t * 9)) 99) = wp at *; clear hNP hwp)
        refine hK.out _ _ ?_ (fun hHeld => ?_)
        ·(try dsimp only)
         first | exact ⟨HSA.out.nine, HSB.out.nine, HC.out.three⟩ | exact hHeld
        clear hK K
        (try simp only [Act.put, gA, gB, gC, sA, sB, sC])
        refine rdz 23 fun K hK => ?_
        go_simp
        (obtain ⟨o9, hI9, _⟩ := HD.out.i1; refine (vVals_some hn0 (by have := hI9.ok.few; omega) _ hI9).mono ?_; rintro e w24 ⟨g3, cp3, rfl, _, hrow, hb⟩; have HRF := hidp hrow; replace HC := hidp (HC.out.keep hb); replace HSA := hidp (HSA.out.keep hb); replace HSB := hidp (HSB.out.keep hb); replace HD := hidp (HD.out.keep hb); have HBV := hidp hb; clear hI9 hrow hb; replace HPK := hidp (HPK.out.below HBV.out); clear HBV)
        refine hK.out _ _ ?_ (fun hHeld => ?_)
        ·(try dsimp only)
         first | exact ⟨HSA.out.nine, HSB.out.nine, HC.out.three⟩ | exact hHeld
        clear hK K
        (try simp only [Act.put, gA, gB, gC, sA, sB, sC])
        refine rdz 27 fun K hK => ?_
        go_simp
        (refine (HFT.out _ _ _ HRF.out _ _ _ (Nat.le_refl _) (by unfold maxLen; omega) HPK.out).mono ?_; rintro e w62 ⟨rfl, hb⟩; replace HC := hidp (HC.out.keep hb); replace HSA := hidp (HSA.out.keep hb); replace HSB := hidp (HSB.out.keep hb); replace HD := hidp (HD.out.keep hb); clear hb HRF HPK)
        refine hK.out _ _ ?_ (fun hHeld => ?_)
        ·(try dsimp only)
         first | exact ⟨HSA.out.nine, HSB.out.nine, HC.out.three⟩ | exact hHeld
        clear hK K
        (try simp only [Act.put, gA, gB, gC, sA, sB, sC])
        refine tkz 28 ?_
        refine tkz 29 ?_
        refine rdz 30 fun K hK => ?_
        go_simp
        (refine (live24_c _ (HTL.out.below HD.out.bel)).mono ?_; rintro e w63 ⟨rfl, hb⟩; replace HC := hidp (HC.out.keep hb); replace HSA := hidp (HSA.out.keep hb); replace HSB := hidp (HSB.out.keep hb); replace HD := hidp (HD.out.keep hb); clear hb)
        refine hK.out _ _ ?_ (fun hHeld => ?_)
        ·(try dsimp only)
         first | exact ⟨HSA.out.nine, HSB.out.nine, HC.out.three⟩ | exact hHeld
        clear hK K
        (try simp only [Act.put, gA, gB, gC, sA, sB, sC])
        refine tkz 31 ?_
        refine tkz 32 ?_
        refine dnz ?_
        have HB := hidp HD.out.bel
        go_wp2
        go_ret
        exact ⟨rfl, HB.out⟩
      ·go_simp
       refine hK.out _ _ ?_ (fun hHeld => ?_)
       ·(try dsimp only)
        first | exact ⟨HSA.out.nine, HSB.out.nine, HC.out.three⟩ | exact hHeld
       clear hK K
       (try simp only [Act.put, gA, gB, gC, sA, sB, sC])
       refine rdz 13 fun K hK => ?_
       go_simp
       skip
       refine hK.out _ _ ?_ (fun hHeld => ?_)
       ·(try dsimp only)
        first | exact ⟨HSA.out.nine, HSB.out.nine, HC.out.three⟩ | exact hHeld
       clear hK K
       (try simp only [Act.put, gA, gB, gC, sA, sB, sC])
       refine tkz 18 ?_
       refine tkz 19 ?_
       refine tkz 20 ?_
       refine tkz 21 ?_
       refine tkz 22 ?_
       refine tkz 24 ?_
       refine tkz 25 ?_
       refine wpAnyH_ready (rs := [23, 26]) (by kernel_rfl) (by simp) ?_
       refine (AllReadyH.cons (o := _) rfl (fun K hK => ?_) (AllReadyH.cons (o := _) rfl (fun K hK => ?_) AllReadyH.nil))
       ·go_simp
        (obtain ⟨o9, hI9, _⟩ := HD.out.i1; refine (vVals_some hn0 (by have := hI9.ok.few; omega) _ hI9).mono ?_; rintro e w24 ⟨g3, cp3, rfl, _, hrow, hb⟩; have HRF := hidp hrow; replace HC := hidp (HC.out.keep hb); replace HSA := hidp (HSA.out.keep hb); replace HSB := hidp (HSB.out.keep hb); replace HD := hidp (HD.out.keep hb); clear hI9 hrow hb)
        refine hK.out _ _ ?_ (fun hHeld => ?_)
        ·(try dsimp only)
         first | exact ⟨HSA.out.nine, HSB.out.nine, HC.out.three⟩ | exact hHeld
        clear hK K
        (try simp only [Act.put, gA, gB, gC, sA, sB, sC])
        refine rdz 26 fun K hK => ?_
        go_simp
        (have hb := Bnew (B0 w24) (.cells (madeCells noPk (H.t * 9)) 99); have HPK : Hid (PksAt (w24.alloc (.cells (madeCells noPk (H.t * 9)) 99)) (some ⟨w24.heap.size, 0, none⟩) H.t (fun _ _ => ⟨none, 0, 0⟩) (fun _ _ => [])) := hidp (pks_made H.t w24); replace HC := hidp (HC.out.keep hb); replace HSA := hidp (HSA.out.keep hb); replace HSB := hidp (HSB.out.keep hb); replace HD := hidp (HD.out.keep hb); replace HRF := hidp (HRF.out.keep hb); clear hb; generalize hNP : w24.heap.size = NP at HPK ⊢; generalize hwp : w24.alloc (.cells (madeCells noPk (H.t * 9)) 99) = wp at *; clear hNP hwp)
        refine hK.out _ _ ?_ (fun hHeld => ?_)
        ·(try dsimp only)
         first | exact ⟨HSA.out.nine, HSB.out.nine, HC.out.three⟩ | exact hHeld
        clear hK K
        (try simp only [Act.put, gA, gB, gC, sA, sB, sC])
        refine rdz 27 fun K hK => ?_
        go_simp
        (refine (HFT.out _ _ _ HRF.out _ _ _ (Nat.le_refl _) (by unfold maxLen; omega) HPK.out).mono ?_; rintro e w62 ⟨rfl, hb⟩; replace HC := hidp (HC.out.keep hb); replace HSA := hidp (HSA.out.keep hb); replace HSB := hidp (HSB.out.keep hb); replace HD := hidp (HD.out.keep hb); clear hb HRF HPK)
        refine hK.out _ _ ?_ (fun hHeld => ?_)
        ·(try dsimp only)
         first | exact ⟨HSA.out.nine, HSB.out.nine, HC.out.three⟩ | exact hHeld
        clear hK K
        (try simp only [Act.put, gA, gB, gC, sA, sB, sC])
        refine tkz 28 ?_
        refine tkz 29 ?_
        refine rdz 30 fun K hK => ?_
        go_simp
        (refine (live24_c _ (HTL.out.below HD.out.bel)).mono ?_; rintro e w63 ⟨rfl, hb⟩; replace HC := hidp (HC.out.keep hb); replace HSA := hidp (HSA.out.keep hb); replace HSB := hidp (HSB.out.keep hb); replace HD := hidp (HD.out.keep hb); clear hb)
        refine hK.out _ _ ?_ (fun hHeld => ?_)
        ·(try dsimp only)
         first | exact ⟨HSA.out.nine, HSB.out.nine, HC.out.three⟩ | exact hHeld
        clear hK K
        (try simp only [Act.put, gA, gB, gC, sA, sB, sC])
        refine tkz 31 ?_
        refine tkz 32 ?_
        refine dnz ?_
        have HB := hidp HD.out.bel
        go_wp2
        go_ret
        exact ⟨rfl, HB.out⟩
       ·go_simp
        (have hb := Bnew (B0 w23) (.cells (madeCells noPk (H.t * 9)) 99); have HPK : Hid (PksAt (w23.alloc (.cells (madeCells noPk (H.t * 9)) 99)) (some ⟨w23.heap.size, 0, none⟩) H.t (fun _ _ => ⟨none, 0, 0⟩) (fun _ _ => [])) := hidp (pks_made H.t w23); replace HC := hidp (HC.out.keep hb); replace HSA := hidp (HSA.out.keep hb); replace HSB := hidp (HSB.out.keep hb); replace HD := hidp (HD.out.keep hb); clear hb; generalize hNP : w23.heap.size = NP at HPK ⊢; generalize hwp : w23.alloc (.cells (madeCells noPk (H.t * 9)) 99) = wp at *; clear hNP hwp)
        refine hK.out _ _ ?_ (fun hHeld => ?_)
        ·(try dsimp only)
         first | exact ⟨HSA.out.nine, HSB.out.nine, HC.out.three⟩ | exact hHeld
        clear hK K
        (try simp only [Act.put, gA, gB, gC, sA, sB, sC])
        refine rdz 23 fun K hK => ?_
        go_simp
        (obtain ⟨o9, hI9, _⟩ := HD.out.i1; refine (vVals_some hn0 (by have := hI9.ok.few; omega) _ hI9).mono ?_; rintro e w24 ⟨g3, cp3, rfl, _, hrow, hb⟩; have HRF := hidp hrow; replace HC := hidp (HC.out.keep hb); replace HSA := hidp (HSA.out.keep hb); replace HSB := hidp (HSB.out.keep hb); replace HD := hidp (HD.out.keep hb); have HBV := hidp hb; clear hI9 hrow hb; replace HPK := hidp (HPK.out.below HBV.out); clear HBV)
        refine hK.out _ _ ?_ (fun hHeld => ?_)
        ·(try dsimp only)
         first | exact ⟨HSA.out.nine, HSB.out.nine, HC.out.three⟩ | exact hHeld
        clear hK K
        (try simp only [Act.put, gA, gB, gC, sA, sB, sC])
        refine rdz 27 fun K hK => ?_
        go_simp
        (refine (HFT.out _ _ _ HRF.out _ _ _ (Nat.le_refl _) (by unfold maxLen; omega) HPK.out).mono ?_; rintro e w62 ⟨rfl, hb⟩; replace HC := hidp (HC.out.keep hb); replace HSA := hidp (HSA.out.keep hb); replace HSB := hidp (HSB.out.keep hb); replace HD := hidp (HD.out.keep hb); clear hb HRF HPK)
        refine hK.out _ _ ?_ (fun hHeld => ?_)
        ·(try dsimp only)
         first | exact ⟨HSA.out.nine, HSB.out.nine, HC.out.three⟩ | exact hHeld
        clear hK K
        (try simp only [Act.put, gA, gB, gC, sA, sB, sC])
        refine tkz 28 ?_
        refine tkz 29 ?_
        refine rdz 30 fun K hK => ?_
        go_simp
        (refine (live24_c _ (HTL.out.below HD.out.bel)).mono ?_; rintro e w63 ⟨rfl, hb⟩; replace HC := hidp (HC.out.keep hb); replace HSA := hidp (HSA.out.keep hb); replace HSB := hidp (HSB.out.keep hb); replace HD := hidp (HD.out.keep hb); clear hb)
        refine hK.out _ _ ?_ (fun hHeld => ?_)
        ·(try dsimp only)
         first | exact ⟨HSA.out.nine, HSB.out.nine, HC.out.three⟩ | exact hHeld
        clear hK K
        (try simp only [Act.put, gA, gB, gC, sA, sB, sC])
        refine tkz 31 ?_
        refine tkz 32 ?_
        refine dnz ?_
        have HB := hidp HD.out.bel
        go_wp2
        go_ret
        exact ⟨rfl, HB.out⟩
theorem SweepAny_calls (t q s : Int) (A A2 : Option Addr) (c c2 : Nat) (vals : List Nat) (hnc : vals.length <= c) (hcm : c <= maxLen) (h32 : ∀ x ∈ vals, x < 2 ^ 32) (zs : List Int) (hnc2 : zs.length <= c2) (hcm2 : c2 <= maxLen) (hzb : ∀ z ∈ zs, -9223372036854775808 <= z /\ z <= 9223372036854775807) (W : World) (hT : SlotsLaid W) (HR : Hid (Reads W W.heap.size 1 A vals.length (valVs vals))) (HZ : Hid (Reads W W.heap.size 1 A2 zs.length (intVs .i64 zs))) :
  Calls Tryz.prog 5 #[.agg #[.int .i64 t, .int .i64 q, .int .i64 s], .slice A vals.length c, .slice A2 zs.length c2] W (Keeps W) := by
 by_cases hq : q <= 64
 ·rcases heap13_or W t q s A c vals hnc hcm h32 HR.out with ⟨m, hX⟩ | ⟨H, ad, m, rfl, rfl, rfl, rfl, hV, HV, hv, hto, hX⟩
  ·exact SweepAny_no t q s A A2 _ c m _ c2 hq W hT (hidp hX)
  ·by_cases hm : 100 < zs.length
   ·exact SweepAny_long _ _ _ (some ad) A2 _ c m _ c2 (by omega) hm W hT (hidp hX)
   ·exact SweepAny_main ad A2 _ c m _ c2 HV vals (hidp rfl) (hidp h32) hV (by omega) (told_rules hto) zs rfl (by omega) hnc2 hcm2 hzb W hT HR HZ (hidp hv) (hidp hX)
 ·exact SweepAny_few t q s A A2 _ c 0 _ c2 (by omega) W hT
end
end Go.Proofs.YtnmhdlpnimdffaaGreatDoor
