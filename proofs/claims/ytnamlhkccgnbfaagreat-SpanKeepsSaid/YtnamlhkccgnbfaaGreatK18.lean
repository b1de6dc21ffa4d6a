/-
  The law SpanKeeps: the walk. Written by span/gen_keeps.py.
-/
import Derived.Test.YtnamlhkccgnbfaaGreatK14
import Derived.Test.YtnamlhkccgnbfaaGreatK17
import Derived.Deep.CutRange
namespace Go.Proofs.YtnamlhkccgnbfaaGreat
open Go.ChangeShapes Go.WideShapes Go.ChangeAt Go.RowKit Go.Maps
set_option linter.unusedVariables false
set_option linter.unusedSimpArgs false
set_option maxRecDepth 100000

def wholeK15 (vals : List Nat) : Nat → Option Nat := fun i => vals[i]?
theorem SpanKeeps_few (t q s nn : Int) (A : Option Addr) (n c m : Nat) (hq : 64 < q) (W : World)  : Calls Tryz.prog 5 #[.agg #[.int .i64 t, .int .i64 q, .int .i64 s], .slice A n c, .int .i64 nn] W (Keeps W) := by
  have t2 : decide (q ≤ (64 : Int)) = false := decide_eq_false (by omega)
  have HC := hidp (Held.new W 23 #[.int .i64 t, .int .i64 q, .int .i64 s])
  have HB := hidp (Bnew (B0 W) (.cells #[.int .i64 t, .int .i64 q, .int .i64 s] 23))
  obtain ⟨x0, x1, x2⟩ := HC.out.three
  go_enter Tryz.func5, Tryz.ntmps5
  go_wp2_with fail
  refine (few14_c t q s _).mono ?_
  rintro e w1 ⟨rfl, hb⟩
  rw [t2]
  replace HC := hidp (HC.out.keep hb)
  replace HB := hidp (Bgo HB.out hb)
  clear hb
  clear x0 x1 x2
  obtain ⟨x0, x1, x2⟩ := HC.out.three

  go_wp2_with fail
  refine (live15_c _).mono ?_
  rintro e w19 ⟨rfl, hb⟩
  have HBL := hidp (Bgo HB.out hb)
  clear hb
  go_wp2
  go_ret
  exact ⟨rfl, HBL.out⟩

theorem SpanKeeps_no (t q s nn : Int) (A : Option Addr) (n c m : Nat) (hq : q ≤ 64) (W : World) (hX : Hid (XCheckIs W t q s A n c m false)) : Calls Tryz.prog 5 #[.agg #[.int .i64 t, .int .i64 q, .int .i64 s], .slice A n c, .int .i64 nn] W (Keeps W) := by
  have t2 : decide (q ≤ (64 : Int)) = true := decide_eq_true (by omega)
  have HC := hidp (Held.new W 23 #[.int .i64 t, .int .i64 q, .int .i64 s])
  have HB := hidp (Bnew (B0 W) (.cells #[.int .i64 t, .int .i64 q, .int .i64 s] 23))
  obtain ⟨x0, x1, x2⟩ := HC.out.three
  go_enter Tryz.func5, Tryz.ntmps5
  go_wp2_with fail
  refine (few14_c t q s _).mono ?_
  rintro e w1 ⟨rfl, hb⟩
  rw [t2]
  replace HC := hidp (HC.out.keep hb)
  replace HB := hidp (Bgo HB.out hb)
  clear hb
  clear x0 x1 x2
  obtain ⟨x0, x1, x2⟩ := HC.out.three
  go_wp2_with fail
  refine (xSound_c t q s A n c m false _ (hX.out.grown HB.out)).mono ?_
  rintro e w2 ⟨rfl, hb⟩
  replace HC := hidp (HC.out.keep hb)
  replace HB := hidp (Bgo HB.out hb)
  clear hb
  clear x0 x1 x2
  obtain ⟨x0, x1, x2⟩ := HC.out.three
  go_wp2_with fail
  refine (live15_c _).mono ?_
  rintro e w19 ⟨rfl, hb⟩
  have HBL := hidp (Bgo HB.out hb)
  clear hb
  go_wp2
  go_ret
  exact ⟨rfl, HBL.out⟩

set_option maxHeartbeats 6400000 in
theorem SpanKeeps_none {H : AuH} (ad : Addr) (n c m : Nat) (HV : HeapV H n c) (nn : Int) (vals : List Nat) (HNN : Hid (vals.length = n)) (H32 : Hid (∀ x ∈ vals, x < 2 ^ 32)) (hVK : ∀ i, H.V i = vals.getD i 0) (hq : H.p ≤ 64) (hr : ∀ i, i < 10 → H.rule i) (s2 : Vst) (htk : takeI n (wholeK15 vals) H.t H.p H.s nn freshS = (none, s2)) (hwr : s2.wr = [])
    (W : World) (HR : Hid (Reads W W.heap.size 1 (some ad) n (valVs vals))) (hv : Hid (IsVals W ad n H.V)) (hX : Hid (XCheckIs W H.t H.p H.s (some ad) n c m true)) :
    Calls Tryz.prog 5 #[.agg #[.int .i64 (H.t : Int), .int .i64 (H.p : Int), .int .i64 (H.s : Int)], .slice (some ad) n c, .int .i64 nn] W (Keeps W) := by
  have t2 : decide ((H.p : Int) ≤ (64 : Int)) = true := decide_eq_true (by omega)
  have hnb : n ≤ 6238 := by have := HV.nums; omega
  have hn0 : 0 < n := by have := HV.len; omega
  have hcm : c ≤ maxLen := HV.max
  have hcm2 : c ≤ 9223372036854775807 := hcm
  have hn40 : n < 2 ^ 40 := by omega
  have hq10 : (H.p : Int) ≤ 1024 := by omega
  have hK : ∀ i, i < n → wholeK15 vals i = some (H.V i) := fun i hi => by
    unfold wholeK15
    rw [hVK i, List.getElem?_eq_getElem (by rw [HNN.out]; exact hi)]
    simp [List.getD, List.getElem?_eq_getElem (show i < vals.length by rw [HNN.out]; exact hi)]
  have h32K : ∀ i x, wholeK15 vals i = some x → x < 2 ^ 32 := fun i x h => H32.out x (List.mem_of_getElem? h)
  have HTK := hidp htk
  have HWR := hidp hwr
  obtain ⟨L, hL⟩ : ∃ L, blocksOf H.parts = L := ⟨_, rfl⟩
  obtain ⟨r0, hr0⟩ : ∃ r, H.V 22 = r := ⟨_, rfl⟩
  obtain ⟨r1, hr1⟩ : ∃ r, H.V 23 = r := ⟨_, rfl⟩
  obtain ⟨r2, hr2⟩ : ∃ r, H.V 24 = r := ⟨_, rfl⟩
  obtain ⟨r3, hr3⟩ : ∃ r, H.V 25 = r := ⟨_, rfl⟩
  obtain ⟨r4, hr4⟩ : ∃ r, H.V 26 = r := ⟨_, rfl⟩
  obtain ⟨r5, hr5⟩ : ∃ r, H.V 27 = r := ⟨_, rfl⟩
  obtain ⟨r6, hr6⟩ : ∃ r, H.V 28 = r := ⟨_, rfl⟩
  obtain ⟨r7, hr7⟩ : ∃ r, H.V 29 = r := ⟨_, rfl⟩
  obtain ⟨nl, hnl⟩ : ∃ nl, L.length = nl := ⟨_, rfl⟩
  have HNL := hidp hnl
  have hnlb : nl ≤ 60000 := by rw [← hnl, ← hL]; exact blocks_few15 HV
  have hnlb2 : nl ≤ 100000 := by omega
  have HRS : Hid (H.V 22 = r0 ∧ H.V 23 = r1 ∧ H.V 24 = r2 ∧ H.V 25 = r3 ∧ H.V 26 = r4 ∧ H.V 27 = r5 ∧ H.V 28 = r6 ∧ H.V 29 = r7 ∧ blocksOf H.parts = L) := hidp ⟨hr0, hr1, hr2, hr3, hr4, hr5, hr6, hr7, hL⟩
  clear htk hwr hr hVK hK h32K hr0 hr1 hr2 hr3 hr4 hr5 hr6 hr7 hL hnl
  have HC := hidp (Held.new W 23 #[.int .i64 (H.t : Int), .int .i64 (H.p : Int), .int .i64 (H.s : Int)])
  have HB := hidp (Bnew (B0 W) (.cells #[.int .i64 (H.t : Int), .int .i64 (H.p : Int), .int .i64 (H.s : Int)] 23))
  obtain ⟨x0, x1, x2⟩ := HC.out.three
  go_enter Tryz.func5, Tryz.ntmps5
  go_wp2_with fail
  refine (few14_c H.t H.p H.s _).mono ?_
  rintro e w1 ⟨rfl, hb⟩
  rw [t2]
  replace HC := hidp (HC.out.keep hb)
  replace HB := hidp (Bgo HB.out hb)
  clear hb
  clear x0 x1 x2
  obtain ⟨x0, x1, x2⟩ := HC.out.three
  go_wp2_with fail
  refine (xSound_c H.t H.p H.s (some ad) n c m true _ (hX.out.grown HB.out)).mono ?_
  rintro e w2 ⟨rfl, hb⟩
  replace HC := hidp (HC.out.keep hb)
  replace HB := hidp (Bgo HB.out hb)
  clear hb
  clear x0 x1 x2
  obtain ⟨x0, x1, x2⟩ := HC.out.three
  go_wp2_with fail
  refine (xState_yes HV ad m _ (hv.out.below HB.out) (hX.out.grown HB.out)).mono ?_
  rintro e w3 ⟨u1, rfl, hown, hb⟩
  obtain ⟨hr0, hr1, hr2, hr3, hr4, hr5, hr6, hr7, hL⟩ := HRS.out
  rw [hr0, hr1, hr2, hr3, hr4, hr5, hr6, hr7]
  rw [hL, HNL.out] at hown
  obtain ⟨A1, k1, hu1⟩ := own_slice hown
  subst hu1
  have HO1 : Hid ((w3.alloc (.cells #[.slice A1 nl k1, .int .i64 (r0 : Int), .int .i64 (r1 : Int), .int .i64 (r2 : Int), .int .i64 (r3 : Int), .int .i64 (r4 : Int), .int .i64 (r5 : Int), .int .i64 (r6 : Int), .int .i64 (r7 : Int)] 54)).ownsRow 0 64 2 (.slice A1 nl k1) nl (bkVs L)) := hidp (own_below (own_lower hown (Nat.zero_le _)) (Bnew (B0 _) _))
  have HS := hidp (Held.new w3 54 #[.slice A1 nl k1, .int .i64 (r0 : Int), .int .i64 (r1 : Int), .int .i64 (r2 : Int), .int .i64 (r3 : Int), .int .i64 (r4 : Int), .int .i64 (r5 : Int), .int .i64 (r6 : Int), .int .i64 (r7 : Int)])
  replace HC := hidp ((HC.out.keep hb).alloc (.cells #[.slice A1 nl k1, .int .i64 (r0 : Int), .int .i64 (r1 : Int), .int .i64 (r2 : Int), .int .i64 (r3 : Int), .int .i64 (r4 : Int), .int .i64 (r5 : Int), .int .i64 (r6 : Int), .int .i64 (r7 : Int)] 54))
  replace HB := hidp (Bnew (Bgo HB.out hb) (.cells #[.slice A1 nl k1, .int .i64 (r0 : Int), .int .i64 (r1 : Int), .int .i64 (r2 : Int), .int .i64 (r3 : Int), .int .i64 (r4 : Int), .int .i64 (r5 : Int), .int .i64 (r6 : Int), .int .i64 (r7 : Int)] 54))
  clear hb hown HRS hr0 hr1 hr2 hr3 hr4 hr5 hr6 hr7 hL x0 x1 x2
  go_wp2_with fail
  generalize hN11 : w3.heap.size = NW at *
  generalize hw11 : w3.alloc (.cells #[.slice A1 nl k1, .int .i64 (r0 : Int), .int .i64 (r1 : Int), .int .i64 (r2 : Int), .int .i64 (r3 : Int), .int .i64 (r4 : Int), .int .i64 (r5 : Int), .int .i64 (r6 : Int), .int .i64 (r7 : Int)] 54) = w4 at *
  clear hN11 hw11
  have HRw : Hid (Reads w4 w4.heap.size 1 (some ad) n (valVs vals)) := hidp ((HR.out.below HB.out).more HB.out.size)
  refine (Whole_c (some ad) c vals n HNN.out (by omega) H32.out _ (by
    intro h0
    obtain ⟨ad', e, _, hc⟩ := HRw.out.2 h0
    exact ⟨ad', e, hc⟩)).mono ?_
  rintro e w5 ⟨b1, o1, rfl, hI, hB⟩
  have HZC : Hid (W.heap.size < w4.heap.size) := hidp HC.out.lt
  have HZS : Hid (NW < w4.heap.size) := hidp HS.out.lt
  have HZR : Hid (∀ g, (Value.slice A1 nl k1).ownBlock = some g → g < w4.heap.size) := hidp (fun g e => (HO1.out.lt g e).2)
  have HD := hidp (duo_made (W := W) (G := fun g => g < w4.heap.size) hI HB.out.size (Bgo HB.out hB) (fun g hg => ⟨Nat.lt_of_lt_of_le hg hB.size, fun x => by have := hI.ge _ x; omega⟩))
  replace HC := hidp (HC.out.keep hB)
  replace HS := hidp (HS.out.keep hB)
  replace HO1 := hidp (own_below HO1.out hB)
  clear hI hB HRw HB
  generalize hz1 : w4.heap.size = z1 at *
  clear hz1
  rw [show (fun i => vals[i]?) = wholeK15 vals from rfl] at HD
  obtain ⟨x0, x1, x2⟩ := HC.out.three
  go_wp2_with fail
  refine (snTake_c hn40 hq10 nn HD.out.at1).mono ?_
  rintro e w6 ⟨rfl, h1, _⟩
  obtain ⟨A4, h2, h3⟩ := HD.out.left1 h1.left
  rw [HTK.out] at h2 ⊢
  dsimp only [foundI, Option.isSome] at h2 ⊢
  replace HC := hidp (h3.held HZC.out HC.out)
  replace HS := hidp (h3.held HZS.out HS.out)
  replace HO1 := hidp (h3.own HZR.out HO1.out)
  replace HD := hidp h2
  clear h1 h2 h3 x0 x1 x2
  obtain ⟨x0, x1, x2⟩ := HC.out.three
  obtain ⟨o5, hI5, _⟩ := HD.out.i1
  have HI5 := hidp hI5
  have HB5 := hidp HD.out.bel
  clear hI5 HD
  go_wp2_with fail
  refine (vWrites_c (by rw [HWR.out]; simp) _ HI5.out).mono ?_
  rintro e w7 ⟨u7, rfl, ho, hb⟩
  rw [HWR.out] at ho
  obtain ⟨A7, c7, hu7⟩ := own_slice ho
  subst hu7
  have HB := hidp (Bgo HB5.out hb)
  clear hb ho HI5 HB5
  go_wp2_with fail
  refine (live15_c _).mono ?_
  rintro e w19 ⟨rfl, hb⟩
  have HBL := hidp (Bgo HB.out hb)
  clear hb
  go_wp2
  go_ret
  exact ⟨rfl, HBL.out⟩

set_option maxHeartbeats 6400000 in
theorem SpanKeeps_some {H : AuH} (ad : Addr) (n c m : Nat) (HV : HeapV H n c) (p mm : Nat) (vals : List Nat) (HNN : Hid (vals.length = n)) (H32 : Hid (∀ x ∈ vals, x < 2 ^ 32)) (hVK : ∀ i, H.V i = vals.getD i 0) (hq : H.p ≤ 64) (hr : ∀ i, i < 10 → H.rule i) (s1 : Vst) (hfi : findI n (wholeK15 vals) H.t H.p H.s (mm : Int) freshS = (some p, s1)) (hlk : Looked n (wholeK15 vals) freshS s1) (hp : p < H.p) (hk : H.K p = 1) (hm1 : 1 ≤ mm) (hm2 : mm ≤ H.ln p)
    (W : World) (HR : Hid (Reads W W.heap.size 1 (some ad) n (valVs vals))) (hv : Hid (IsVals W ad n H.V)) (hX : Hid (XCheckIs W H.t H.p H.s (some ad) n c m true)) :
    Calls Tryz.prog 5 #[.agg #[.int .i64 (H.t : Int), .int .i64 (H.p : Int), .int .i64 (H.s : Int)], .slice (some ad) n c, .int .i64 (mm : Int)] W (Keeps W) := by
  have t2 : decide ((H.p : Int) ≤ (64 : Int)) = true := decide_eq_true (by omega)
  have hnb : n ≤ 6238 := by have := HV.nums; omega
  have hn0 : 0 < n := by have := HV.len; omega
  have hcm : c ≤ maxLen := HV.max
  have hcm2 : c ≤ 9223372036854775807 := hcm
  have hn40 : n < 2 ^ 40 := by omega
  have hq10 : (H.p : Int) ≤ 1024 := by omega
  have hK : ∀ i, i < n → wholeK15 vals i = some (H.V i) := fun i hi => by
    unfold wholeK15
    rw [hVK i, List.getElem?_eq_getElem (by rw [HNN.out]; exact hi)]
    simp [List.getD, List.getElem?_eq_getElem (show i < vals.length by rw [HNN.out]; exact hi)]
  have h32K : ∀ i x, wholeK15 vals i = some x → x < 2 ^ 32 := fun i x h => H32.out x (List.mem_of_getElem? h)
  obtain ⟨LL, hok⟩ := AuH.okL_of (by omega) hr
  have hsp := span_at hok hp (by omega) (by omega)
  have hpm : p + mm ≤ H.p := by omega
  have hW1 := (Work.of_ok hok HV hK).looked hlk
  obtain ⟨s2, hs2⟩ : ∃ s2, takeS n (wholeK15 vals) H.t H.p H.s p mm s1 = s2 := ⟨_, rfl⟩
  have htk := takeI_some (t := H.t) (q := H.p) (s := H.s) hfi
  rw [hs2] at htk
  obtain ⟨x1, hx1⟩ : ∃ x, getV n (wholeK15 vals) s2 1 = x := ⟨_, rfl⟩
  obtain ⟨y1, hy1⟩ : ∃ y, add32 x1 1 = y := ⟨_, rfl⟩
  obtain ⟨s3, hs3⟩ : ∃ s3, putS n (getS n (wholeK15 vals) s2 1) 1 y1 = s3 := ⟨_, rfl⟩
  have T := take_took HV hok hW1 hp hk hm1 hm2
  have e3 : upS n (wholeK15 vals) (takeS n (wholeK15 vals) H.t H.p H.s p mm s1) = s3 := by rw [hs2]; unfold upS; rw [hx1, hy1]; exact hs3
  rw [e3] at T
  obtain ⟨s4, hs4⟩ : ∃ s4, releaseS n (wholeK15 vals) H.t H.p H.s p mm s3 = s4 := ⟨_, rfl⟩
  obtain ⟨x2, hx2⟩ : ∃ x, getV n (wholeK15 vals) s4 1 = x := ⟨_, rfl⟩
  obtain ⟨y2, hy2⟩ : ∃ y, sub32 x2 1 = y := ⟨_, rfl⟩
  obtain ⟨s5, hs5⟩ : ∃ s5, putS n (getS n (wholeK15 vals) s4 1) 1 y2 = s5 := ⟨_, rfl⟩
  have e5 : downS n (wholeK15 vals) (releaseS n (wholeK15 vals) H.t H.p H.s p mm s3) = s5 := by rw [hs4]; unfold downS; rw [hx2, hy2]; exact hs5
  have HY1 : Hid (y1 < 2 ^ 32) := hidp (by rw [← hy1]; exact add32_lt _ _)
  have HY2 : Hid (y2 < 2 ^ 32) := hidp (by rw [← hy2]; exact sub32_lt _ _)
  have sa1 : IntKind.u32.wrap ((x1 : Int) + 1) = (y1 : Int) := by have := wrap_add32 x1 1; rw [show IntKind.u32.wrap 1 = 1 from rfl, hy1] at this; exact this
  have sa2 : IntKind.u32.wrap ((x2 : Int) - 1) = (y2 : Int) := by have := wrap_sub32 x2 1; rw [show IntKind.u32.wrap 1 = 1 from rfl, hy2] at this; exact this
  obtain ⟨L, hL⟩ : ∃ L, blocksOf H.parts = L := ⟨_, rfl⟩
  obtain ⟨pgn, hpg⟩ : ∃ g : Nat, H.pg = g := ⟨_, rfl⟩
  obtain ⟨fa, hfa⟩ : ∃ f : Int, ((p : Int) + 1) * (pgn : Int) = f := ⟨_, rfl⟩
  obtain ⟨sz, hsz⟩ : ∃ f : Int, (mm : Int) * (pgn : Int) = f := ⟨_, rfl⟩
  obtain ⟨LB, hLB⟩ : ∃ LB, addB L (fa, sz) = LB := ⟨_, rfl⟩
  have eLB : blocksOf (nowH H n (wholeK15 vals) s3).parts = LB := by
    rw [T.added, hL, hpg, hsz, ← hLB, ← hfa, ← hpg]
    rfl
  have hpg2 : pgn = 2 ^ H.s := by rw [← hpg]; rfl
  have hsb := HV.fit.nums
  have hsr := HV.right
  obtain ⟨r0, hr0⟩ : ∃ r, H.V 22 = r := ⟨_, rfl⟩
  obtain ⟨r1, hr1⟩ : ∃ r, H.V 23 = r := ⟨_, rfl⟩
  obtain ⟨r2, hr2⟩ : ∃ r, H.V 24 = r := ⟨_, rfl⟩
  obtain ⟨r3, hr3⟩ : ∃ r, H.V 25 = r := ⟨_, rfl⟩
  obtain ⟨r4, hr4⟩ : ∃ r, H.V 26 = r := ⟨_, rfl⟩
  obtain ⟨r5, hr5⟩ : ∃ r, H.V 27 = r := ⟨_, rfl⟩
  obtain ⟨r6, hr6⟩ : ∃ r, H.V 28 = r := ⟨_, rfl⟩
  obtain ⟨r7, hr7⟩ : ∃ r, H.V 29 = r := ⟨_, rfl⟩
  have HNOW3 := hidp (fun hok3 => state_now HV (st := s3) hok3 h32K T.lists.choose_spec.2.vw T.lists.choose_spec.1.rules T.roots LB eLB r0 r1 r2 r3 r4 r5 r6 r7 hr0 hr1 hr2 hr3 hr4 hr5 hr6 hr7)
  have HNOW5 : Hid (∀ (hok3 : VOk n s3) (hok5 : VOk n s5), (∀ (w : World) (g cp : Nat), RowF w g 58 n cp (valF (nowV (wholeK15 vals) s5.wr)) → Calls Tryz.prog 25 #[.agg #[.int .i64 (H.t : Int), .int .i64 (H.p : Int), .int .i64 (H.s : Int)], .slice (some ⟨g, 0, none⟩) n cp] w fun e w' => ∃ u, e = .returned (.tuple #[.agg #[u, .int .i64 (r0 : Int), .int .i64 (r1 : Int), .int .i64 (r2 : Int), .int .i64 (r3 : Int), .int .i64 (r4 : Int), .int .i64 (r5 : Int), .int .i64 (r6 : Int), .int .i64 (r7 : Int)], .bool true]) ∧ w'.ownsRow w.heap.size 64 2 u L.length (bkVs L) ∧ Below w.heap.size w w') ∧ nowV (wholeK15 vals) s5.wr 0 = H.V 0) := hidp (fun hok3 hok5 => by
    obtain ⟨f1, f2, f3, f4, f5⟩ := T.done HV hok hp hk hm2 hok3 h32K
    rw [e5] at f1 f2 f3 f4 f5
    exact ⟨fun w g cp hrow => state_now HV hok5 h32K f5 f1 f2 L (f4.trans hL) r0 r1 r2 r3 r4 r5 r6 r7 hr0 hr1 hr2 hr3 hr4 hr5 hr6 hr7 w g cp hrow, (now_zero hn0 f5).trans f3⟩)
  have HTK := hidp htk
  have HX1 := hidp hx1
  have HS3 := hidp hs3
  have HS4 := hidp hs4
  have HX2 := hidp hx2
  have HS5 := hidp hs5
  have HAB := hidp hLB
  obtain ⟨nl, hnl⟩ : ∃ nl, L.length = nl := ⟨_, rfl⟩
  have HNL := hidp hnl
  have hnlb : nl ≤ 60000 := by rw [← hnl, ← hL]; exact blocks_few15 HV
  have hnlb2 : nl ≤ 100000 := by omega
  have HRS : Hid (H.V 22 = r0 ∧ H.V 23 = r1 ∧ H.V 24 = r2 ∧ H.V 25 = r3 ∧ H.V 26 = r4 ∧ H.V 27 = r5 ∧ H.V 28 = r6 ∧ H.V 29 = r7 ∧ blocksOf H.parts = L) := hidp ⟨hr0, hr1, hr2, hr3, hr4, hr5, hr6, hr7, hL⟩
  obtain ⟨nb, hnb⟩ : ∃ nb, LB.length = nb := ⟨_, rfl⟩
  have HNB := hidp hnb
  have hnbb : nb ≤ 100000 := by have := addB_len L (fa, sz); rw [← hnb, ← hLB]; omega
  have hnbb2 : nb < 2 ^ 40 := by omega
  have hpg3 : pgn ≤ 1048576 := page_few HV hpg2
  have hsh := shift_few HV
  have v1 : IntKind.i64.wrap ((p : Int) + 1) = (p : Int) + 1 := i64_same (by omega) (by omega)
  have hfa2 : 0 ≤ fa ∧ fa ≤ 1075838976 := by
    rw [← hfa]
    have h1 : ((p : Int) + 1) * (pgn : Int) ≤ 1026 * 1048576 := Int.mul_le_mul (by omega) (by omega) (by omega) (by omega)
    exact ⟨Int.mul_nonneg (by omega) (by omega), by omega⟩
  have hsz2 : 0 ≤ sz ∧ sz ≤ 1075838976 := by
    rw [← hsz]
    have h1 : (mm : Int) * (pgn : Int) ≤ 1026 * 1048576 := Int.mul_le_mul (by omega) (by omega) (by omega) (by omega)
    exact ⟨Int.mul_nonneg (by omega) (by omega), by omega⟩
  have epg : ((2 : Int) ^ H.s) = (pgn : Int) := by rw [hpg2]; push_cast; rfl
  have v2 : IntKind.i64.wrap (((p : Int) + 1) * 2 ^ H.s) = fa := by rw [epg, hfa]; exact i64_same (by omega) (by omega)
  have v3 : IntKind.i64.wrap ((mm : Int) * 2 ^ H.s) = sz := by rw [epg, hsz]; exact i64_same (by omega) (by omega)
  have v5 : IntKind.i64.wrap (((p : Int) + 1) * (pgn : Int)) = fa := by rw [← epg]; exact v2
  have v6 : IntKind.i64.wrap ((mm : Int) * (pgn : Int)) = sz := by rw [← epg]; exact v3
  have v4 : IntKind.i64.wrap (((H.p : Nat) : Int) - (mm : Int)) = ((H.p : Nat) : Int) - (mm : Int) := i64_same (by omega) (by omega)
  have t3 : decide ((mm : Int) < 1) = false := decide_eq_false (by omega)
  have t4 : decide ((p : Int) < 0) = false := decide_eq_false (by omega)
  have t5 : decide (((H.p : Nat) : Int) - (mm : Int) < (p : Int)) = false := decide_eq_false (by omega)
  obtain ⟨z0, hz0⟩ : ∃ z, H.V 0 = z := ⟨_, rfl⟩
  have HZ0 := hidp hz0
  have hzz : ((z0 : Int) == (z0 : Int)) = true := by simp
  have vs1 := shift_page HV hpg2
  clear epg hpg2
  clear hs2 htk hx1 hy1 hs3 hs4 hx2 hy2 hs5 e3 e5 T hok hsp hW1 hlk hfi hK hVK h32K hr hr0 hr1 hr2 hr3 hr4 hr5 hr6 hr7 hL hLB eLB hnl hnb hpg hfa hsz hz0 hsb hsr hm2 hk
  have HC := hidp (Held.new W 23 #[.int .i64 (H.t : Int), .int .i64 (H.p : Int), .int .i64 (H.s : Int)])
  have HB := hidp (Bnew (B0 W) (.cells #[.int .i64 (H.t : Int), .int .i64 (H.p : Int), .int .i64 (H.s : Int)] 23))
  obtain ⟨x0, x1, x2⟩ := HC.out.three
  go_enter Tryz.func5, Tryz.ntmps5
  go_wp2_with fail
  refine (few14_c H.t H.p H.s _).mono ?_
  rintro e w1 ⟨rfl, hb⟩
  rw [t2]
  replace HC := hidp (HC.out.keep hb)
  replace HB := hidp (Bgo HB.out hb)
  clear hb
  clear x0 x1 x2
  obtain ⟨x0, x1, x2⟩ := HC.out.three
  go_wp2_with fail
  refine (xSound_c H.t H.p H.s (some ad) n c m true _ (hX.out.grown HB.out)).mono ?_
  rintro e w2 ⟨rfl, hb⟩
  replace HC := hidp (HC.out.keep hb)
  replace HB := hidp (Bgo HB.out hb)
  clear hb
  clear x0 x1 x2
  obtain ⟨x0, x1, x2⟩ := HC.out.three
  go_wp2_with fail
  refine (xState_yes HV ad m _ (hv.out.below HB.out) (hX.out.grown HB.out)).mono ?_
  rintro e w3 ⟨u1, rfl, hown, hb⟩
  obtain ⟨hr0, hr1, hr2, hr3, hr4, hr5, hr6, hr7, hL⟩ := HRS.out
  rw [hr0, hr1, hr2, hr3, hr4, hr5, hr6, hr7]
  rw [hL, HNL.out] at hown
  obtain ⟨A1, k1, hu1⟩ := own_slice hown
  subst hu1
  have HO1 : Hid ((w3.alloc (.cells #[.slice A1 nl k1, .int .i64 (r0 : Int), .int .i64 (r1 : Int), .int .i64 (r2 : Int), .int .i64 (r3 : Int), .int .i64 (r4 : Int), .int .i64 (r5 : Int), .int .i64 (r6 : Int), .int .i64 (r7 : Int)] 54)).ownsRow 0 64 2 (.slice A1 nl k1) nl (bkVs L)) := hidp (own_below (own_lower hown (Nat.zero_le _)) (Bnew (B0 _) _))
  have HS := hidp (Held.new w3 54 #[.slice A1 nl k1, .int .i64 (r0 : Int), .int .i64 (r1 : Int), .int .i64 (r2 : Int), .int .i64 (r3 : Int), .int .i64 (r4 : Int), .int .i64 (r5 : Int), .int .i64 (r6 : Int), .int .i64 (r7 : Int)])
  replace HC := hidp ((HC.out.keep hb).alloc (.cells #[.slice A1 nl k1, .int .i64 (r0 : Int), .int .i64 (r1 : Int), .int .i64 (r2 : Int), .int .i64 (r3 : Int), .int .i64 (r4 : Int), .int .i64 (r5 : Int), .int .i64 (r6 : Int), .int .i64 (r7 : Int)] 54))
  replace HB := hidp (Bnew (Bgo HB.out hb) (.cells #[.slice A1 nl k1, .int .i64 (r0 : Int), .int .i64 (r1 : Int), .int .i64 (r2 : Int), .int .i64 (r3 : Int), .int .i64 (r4 : Int), .int .i64 (r5 : Int), .int .i64 (r6 : Int), .int .i64 (r7 : Int)] 54))
  clear hb hown HRS hr0 hr1 hr2 hr3 hr4 hr5 hr6 hr7 hL x0 x1 x2
  go_wp2_with fail
  generalize hN11 : w3.heap.size = NW at *
  generalize hw11 : w3.alloc (.cells #[.slice A1 nl k1, .int .i64 (r0 : Int), .int .i64 (r1 : Int), .int .i64 (r2 : Int), .int .i64 (r3 : Int), .int .i64 (r4 : Int), .int .i64 (r5 : Int), .int .i64 (r6 : Int), .int .i64 (r7 : Int)] 54) = w4 at *
  clear hN11 hw11
  have HRw : Hid (Reads w4 w4.heap.size 1 (some ad) n (valVs vals)) := hidp ((HR.out.below HB.out).more HB.out.size)
  refine (Whole_c (some ad) c vals n HNN.out (by omega) H32.out _ (by
    intro h0
    obtain ⟨ad', e, _, hc⟩ := HRw.out.2 h0
    exact ⟨ad', e, hc⟩)).mono ?_
  rintro e w5 ⟨b1, o1, rfl, hI, hB⟩
  have HZC : Hid (W.heap.size < w4.heap.size) := hidp HC.out.lt
  have HZS : Hid (NW < w4.heap.size) := hidp HS.out.lt
  have HZR : Hid (∀ g, (Value.slice A1 nl k1).ownBlock = some g → g < w4.heap.size) := hidp (fun g e => (HO1.out.lt g e).2)
  have HD := hidp (duo_made (W := W) (G := fun g => g < w4.heap.size) hI HB.out.size (Bgo HB.out hB) (fun g hg => ⟨Nat.lt_of_lt_of_le hg hB.size, fun x => by have := hI.ge _ x; omega⟩))
  replace HC := hidp (HC.out.keep hB)
  replace HS := hidp (HS.out.keep hB)
  replace HO1 := hidp (own_below HO1.out hB)
  clear hI hB HRw HB
  generalize hz1 : w4.heap.size = z1 at *
  clear hz1
  rw [show (fun i => vals[i]?) = wholeK15 vals from rfl] at HD
  obtain ⟨x0, x1, x2⟩ := HC.out.three
  go_wp2_with fail
  refine (snTake_c hn40 hq10 (mm : Int) HD.out.at1).mono ?_
  rintro e w6 ⟨rfl, h1, _⟩
  obtain ⟨A4, h2, h3⟩ := HD.out.left1 h1.left
  rw [HTK.out] at h2 ⊢
  dsimp only [foundI, Option.isSome] at h2 ⊢
  replace HC := hidp (h3.held HZC.out HC.out)
  replace HS := hidp (h3.held HZS.out HS.out)
  replace HO1 := hidp (h3.own HZR.out HO1.out)
  replace HD := hidp h2
  clear h1 h2 h3 x0 x1 x2
  obtain ⟨x0, x1, x2⟩ := HC.out.three
  go_wp2_with fail
  refine (vGetA hn40 1 HD.out.at1).mono ?_
  rintro e w6 ⟨rfl, h1, _⟩
  obtain ⟨A4, h2, h3⟩ := HD.out.left1 h1.left
  rw [HX1.out]
  replace HC := hidp (h3.held HZC.out HC.out)
  replace HS := hidp (h3.held HZS.out HS.out)
  replace HO1 := hidp (h3.own HZR.out HO1.out)
  replace HD := hidp h2
  clear h1 h2 h3 x0 x1 x2
  obtain ⟨x0, x1, x2⟩ := HC.out.three
  go_wp2_with fail
  refine (vPutA hn40 1 y1 HY1.out HD.out.at1).mono ?_
  rintro e w6 ⟨rfl, h1, _⟩
  obtain ⟨A4, h2, h3⟩ := HD.out.left1 h1.left
  rw [HS3.out] at h2
  replace HC := hidp (h3.held HZC.out HC.out)
  replace HS := hidp (h3.held HZS.out HS.out)
  replace HO1 := hidp (h3.own HZR.out HO1.out)
  replace HD := hidp h2
  clear h1 h2 h3 x0 x1 x2
  obtain ⟨x0, x1, x2⟩ := HC.out.three
  have HOK3 : Hid (VOk n s3) := hidp (by obtain ⟨o, hI, _⟩ := HD.out.i1; exact hI.ok)
  have HN3 := hidp (HNOW3.out HOK3.out)
  go_wp2_with fail
  go_cut [12, 13] from 71 to 77 (fun u12 u13 wx => ∃ (N13 k2 : Nat) (A2 : Option Addr) (A4 : Nat → Prop), u12 = .pointer (some ⟨N13, 0, none⟩) ∧ u13 = .bool true ∧ Held wx N13 54 #[.slice A2 nb k2, .int .i64 (r0 : Int), .int .i64 (r1 : Int), .int .i64 (r2 : Int), .int .i64 (r3 : Int), .int .i64 (r4 : Int), .int .i64 (r5 : Int), .int .i64 (r6 : Int), .int .i64 (r7 : Int)] ∧ wx.ownsRow 0 64 2 (.slice A2 nb k2) nb (bkVs LB) ∧ Held wx W.heap.size 23 #[.int .i64 (H.t : Int), .int .i64 (H.p : Int), .int .i64 (H.s : Int)] ∧ Held wx NW 54 #[.slice A1 nl k1, .int .i64 (r0 : Int), .int .i64 (r1 : Int), .int .i64 (r2 : Int), .int .i64 (r3 : Int), .int .i64 (r4 : Int), .int .i64 (r5 : Int), .int .i64 (r6 : Int), .int .i64 (r7 : Int)] ∧ wx.ownsRow 0 64 2 (.slice A1 nl k1) nl (bkVs L) ∧ Duo W (vOb z1 b1 n true (wholeK15 vals)) noOb A4 (fun _ => False) (fun g => g < z1) s3 freshS wx)
  case first =>
    replace HC := hidp HC.out.drw
    replace HS := hidp HS.out.drw
    replace HO1 := hidp (own_below HO1.out (Bdrew (B0 _)))
    replace HD := hidp (HD.out.keep (Bdrew (B0 _)))
    refine wp_region_held_drew (S := (fun w' => w'.cell? ⟨W.heap.size, 0, none⟩ = some (.int .i64 (H.t : Int)) ∧ w'.cell? ⟨W.heap.size, 1, none⟩ = some (.int .i64 (H.p : Int)) ∧ w'.cell? ⟨W.heap.size, 2, none⟩ = some (.int .i64 (H.s : Int)))) (by kernel_rfl) ?_ (fun hHeld => ?_)
    · (try dsimp only)
      first | exact HC.out.three | exact hHeld
    generalize hq0 : World.drew w6 = q0 at HC HS HO1 HD hHeld ⊢
    clear hq0
    refine tkz 0 ?_
    refine tkz 1 ?_
    refine wpAnyH_ready (rs := [2, 7]) (by kernel_rfl) (by simp) ?_
    refine AllReadyH.cons (o := _) rfl (fun K hK => ?_) (AllReadyH.cons (o := _) rfl (fun K hK => ?_) AllReadyH.nil)
    · skip
      go_simp
      obtain ⟨o9, hI9, _⟩ := HD.out.i1
      refine (vVals_some hn0 (by have := hI9.ok.few; omega) _ hI9).mono ?_
      rintro e v1 ⟨g, cp, rfl, _, hrow, hb⟩
      have HRF := hidp hrow
      clear hI9 hrow
      replace HC := hidp (HC.out.keep hb)
      replace HS := hidp (HS.out.keep hb)
      replace HO1 := hidp (own_below HO1.out hb)
      replace HD := hidp (HD.out.keep hb)
      clear hb
      refine hK.out _ _ ?_ (fun hHeld => ?_)
      · (try dsimp only)
        first | exact HC.out.three | exact hHeld
      clear hK K
      (try simp only [Act.put, gA, gB, gC, sA, sB, sC])
      refine wpAnyH_ready (rs := [3, 7]) (by kernel_rfl) (by simp) ?_
      refine AllReadyH.cons (o := _) rfl (fun K hK => ?_) (AllReadyH.cons (o := _) rfl (fun K hK => ?_) AllReadyH.nil)
      · skip
        go_simp
        refine (HN3.out _ _ _ HRF.out).mono ?_
        rintro e v2 ⟨u2, rfl, hown, hb⟩
        rw [HNB.out] at hown
        obtain ⟨A2, k2, hu2⟩ := own_slice hown
        subst hu2
        have HO2 : Hid (v2.ownsRow 0 64 2 (.slice A2 nb k2) nb (bkVs LB)) := hidp (own_lower hown (Nat.zero_le _))
        clear HRF hown
        replace HC := hidp (HC.out.keep hb)
        replace HS := hidp (HS.out.keep hb)
        replace HO1 := hidp (own_below HO1.out hb)
        replace HD := hidp (HD.out.keep hb)
        clear hb
        refine hK.out _ _ ?_ (fun hHeld => ?_)
        · (try dsimp only)
          first | exact HC.out.three | exact hHeld
        clear hK K
        (try simp only [Act.put, gA, gB, gC, sA, sB, sC])
        refine tkz 4 ?_
        refine tkz 5 ?_
        refine tkz 6 ?_
        refine wpAnyH_ready (rs := [7]) (by kernel_rfl) (by simp) ?_
        refine AllReadyH.cons (o := _) rfl (fun K hK => ?_) AllReadyH.nil
        · skip
          go_simp
          have hb := Bnew (B0 v2) (.cells #[.slice none 0 0, .int .i64 0, .int .i64 0, .int .i64 0, .int .i64 0, .int .i64 0, .int .i64 0, .int .i64 0, .int .i64 0] 54)
          have HN := hidp (Held.new v2 54 #[.slice none 0 0, .int .i64 0, .int .i64 0, .int .i64 0, .int .i64 0, .int .i64 0, .int .i64 0, .int .i64 0, .int .i64 0])
          have HLE := hidp HD.out.bel.size
          have HLT : Hid (W.heap.size < v2.heap.size ∧ NW < v2.heap.size) := hidp ⟨HC.out.lt, HS.out.lt⟩
          have HNA : Hid (¬ A4 v2.heap.size) := hidp (fun x => by have := Ob.lt (vOb z1 b1 n true (wholeK15 vals)) HD.out.i1 _ x; omega)
          replace HC := hidp (HC.out.keep hb)
          replace HS := hidp (HS.out.keep hb)
          replace HO1 := hidp (own_below HO1.out hb)
          replace HO2 := hidp (own_below HO2.out hb)
          replace HD := hidp (HD.out.keep hb)
          clear hb
          generalize hn13 : v2.heap.size = N13 at *
          generalize hw13 : v2.alloc (.cells #[.slice none 0 0, .int .i64 0, .int .i64 0, .int .i64 0, .int .i64 0, .int .i64 0, .int .i64 0, .int .i64 0, .int .i64 0] 54) = v3 at *
          clear hn13 hw13
          refine hK.out _ _ ?_ (fun hHeld => ?_)
          · (try dsimp only)
            first | exact HC.out.three | exact hHeld
          clear hK K
          (try simp only [Act.put, gA, gB, gC, sA, sB, sC])
          refine wpAnyH_ready (rs := [8]) (by kernel_rfl) (by simp) ?_
          refine AllReadyH.cons (o := _) rfl (fun K hK => ?_) AllReadyH.nil
          obtain ⟨z0, z1', z2, z3, z4, z5, z6, z7, z8⟩ := HN.out.nine
          obtain ⟨f0, f1, f2, f3, f4, f5, f6, f7, f8⟩ := HN.out.thawed9
          have hne0 := heldOwn_ne HN.out HO1.out (by decide)
          have hne1 := heldOwn_ne HN.out HO2.out (by decide)
          go_simp
          obtain ⟨WF, hWF⟩ : ∃ WF, set9 (v3) N13 (.slice A2 nb k2) (.int .i64 (r0 : Int)) (.int .i64 (r1 : Int)) (.int .i64 (r2 : Int)) (.int .i64 (r3 : Int)) (.int .i64 (r4 : Int)) (.int .i64 (r5 : Int)) (.int .i64 (r6 : Int)) (.int .i64 (r7 : Int)) = WF := ⟨_, rfl⟩
          have hN := HN.out.set9 (.slice A2 nb k2) (.int .i64 (r0 : Int)) (.int .i64 (r1 : Int)) (.int .i64 (r2 : Int)) (.int .i64 (r3 : Int)) (.int .i64 (r4 : Int)) (.int .i64 (r5 : Int)) (.int .i64 (r6 : Int)) (.int .i64 (r7 : Int))
          have hD := HD.out.set9 HNA.out (fun x => x) HLE.out (.slice A2 nb k2) (.int .i64 (r0 : Int)) (.int .i64 (r1 : Int)) (.int .i64 (r2 : Int)) (.int .i64 (r3 : Int)) (.int .i64 (r4 : Int)) (.int .i64 (r5 : Int)) (.int .i64 (r6 : Int)) (.int .i64 (r7 : Int))
          have hHC := (heap_set9 (w := v3) (g := N13) (j := W.heap.size) (by have := HLT.out; omega) (.slice A2 nb k2) (.int .i64 (r0 : Int)) (.int .i64 (r1 : Int)) (.int .i64 (r2 : Int)) (.int .i64 (r3 : Int)) (.int .i64 (r4 : Int)) (.int .i64 (r5 : Int)) (.int .i64 (r6 : Int)) (.int .i64 (r7 : Int))).trans HC.out
          have hHS := (heap_set9 (w := v3) (g := N13) (j := NW) (by have := HLT.out; omega) (.slice A2 nb k2) (.int .i64 (r0 : Int)) (.int .i64 (r1 : Int)) (.int .i64 (r2 : Int)) (.int .i64 (r3 : Int)) (.int .i64 (r4 : Int)) (.int .i64 (r5 : Int)) (.int .i64 (r6 : Int)) (.int .i64 (r7 : Int))).trans HS.out
          have hHO1 := own_set9 (g := N13) HO1.out (fun j hj e => hne0 (e ▸ hj)) (.slice A2 nb k2) (.int .i64 (r0 : Int)) (.int .i64 (r1 : Int)) (.int .i64 (r2 : Int)) (.int .i64 (r3 : Int)) (.int .i64 (r4 : Int)) (.int .i64 (r5 : Int)) (.int .i64 (r6 : Int)) (.int .i64 (r7 : Int))
          have hHO2 := own_set9 (g := N13) HO2.out (fun j hj e => hne1 (e ▸ hj)) (.slice A2 nb k2) (.int .i64 (r0 : Int)) (.int .i64 (r1 : Int)) (.int .i64 (r2 : Int)) (.int .i64 (r3 : Int)) (.int .i64 (r4 : Int)) (.int .i64 (r5 : Int)) (.int .i64 (r6 : Int)) (.int .i64 (r7 : Int))
          rw [hWF] at hN hD hHC hHS hHO1 hHO2
          unfold set9 at hWF
          rw [hWF]
          clear hWF z0 z1' z2 z3 z4 z5 z6 z7 z8 f0 f1 f2 f3 f4 f5 f6 f7 f8 hne0 hne1
          replace HC : Hid (Held WF W.heap.size 23 #[.int .i64 (H.t : Int), .int .i64 (H.p : Int), .int .i64 (H.s : Int)]) := hidp hHC
          replace HS : Hid (Held WF NW 54 #[.slice A1 nl k1, .int .i64 (r0 : Int), .int .i64 (r1 : Int), .int .i64 (r2 : Int), .int .i64 (r3 : Int), .int .i64 (r4 : Int), .int .i64 (r5 : Int), .int .i64 (r6 : Int), .int .i64 (r7 : Int)]) := hidp hHS
          replace HO1 := hidp hHO1
          replace HO2 := hidp hHO2
          replace HN : Hid (Held WF N13 54 #[.slice A2 nb k2, .int .i64 (r0 : Int), .int .i64 (r1 : Int), .int .i64 (r2 : Int), .int .i64 (r3 : Int), .int .i64 (r4 : Int), .int .i64 (r5 : Int), .int .i64 (r6 : Int), .int .i64 (r7 : Int)]) := hidp hN
          replace HD := hidp hD
          clear hN hD hHC hHS hHO1 hHO2
          refine hK.out _ _ ?_ (fun hHeld => ?_)
          · (try dsimp only)
            first | exact HC.out.three | exact hHeld
          clear hK K
          (try simp only [Act.put, gA, gB, gC, sA, sB, sC])
          refine tkz 9 ?_
          refine wpAnyH_done (by kernel_rfl) ?_ _
          go_wp2_with fail
          go_meet
          case rel => exact ⟨_, _, _, _, rfl, rfl, HN.out, HO2.out, HC.out, HS.out, HO1.out, HD.out⟩
      · skip
        go_simp
        have hb := Bnew (B0 v1) (.cells #[.slice none 0 0, .int .i64 0, .int .i64 0, .int .i64 0, .int .i64 0, .int .i64 0, .int .i64 0, .int .i64 0, .int .i64 0] 54)
        have HN := hidp (Held.new v1 54 #[.slice none 0 0, .int .i64 0, .int .i64 0, .int .i64 0, .int .i64 0, .int .i64 0, .int .i64 0, .int .i64 0, .int .i64 0])
        have HLE := hidp HD.out.bel.size
        have HLT : Hid (W.heap.size < v1.heap.size ∧ NW < v1.heap.size) := hidp ⟨HC.out.lt, HS.out.lt⟩
        have HNA : Hid (¬ A4 v1.heap.size) := hidp (fun x => by have := Ob.lt (vOb z1 b1 n true (wholeK15 vals)) HD.out.i1 _ x; omega)
        replace HC := hidp (HC.out.keep hb)
        replace HS := hidp (HS.out.keep hb)
        replace HO1 := hidp (own_below HO1.out hb)
        replace HD := hidp (HD.out.keep hb)
        replace HRF := hidp (HRF.out.keep hb)
        clear hb
        generalize hn13 : v1.heap.size = N13 at *
        generalize hw13 : v1.alloc (.cells #[.slice none 0 0, .int .i64 0, .int .i64 0, .int .i64 0, .int .i64 0, .int .i64 0, .int .i64 0, .int .i64 0, .int .i64 0] 54) = v4 at *
        clear hn13 hw13
        refine hK.out _ _ ?_ (fun hHeld => ?_)
        · (try dsimp only)
          first | exact HC.out.three | exact hHeld
        clear hK K
        (try simp only [Act.put, gA, gB, gC, sA, sB, sC])
        refine wpAnyH_ready (rs := [3]) (by kernel_rfl) (by simp) ?_
        refine AllReadyH.cons (o := _) rfl (fun K hK => ?_) AllReadyH.nil
        · skip
          go_simp
          refine (HN3.out _ _ _ HRF.out).mono ?_
          rintro e v5 ⟨u2, rfl, hown, hb⟩
          rw [HNB.out] at hown
          obtain ⟨A2, k2, hu2⟩ := own_slice hown
          subst hu2
          have HO2 : Hid (v5.ownsRow 0 64 2 (.slice A2 nb k2) nb (bkVs LB)) := hidp (own_lower hown (Nat.zero_le _))
          clear HRF hown
          replace HC := hidp (HC.out.keep hb)
          replace HS := hidp (HS.out.keep hb)
          replace HN := hidp (HN.out.keep hb)
          replace HO1 := hidp (own_below HO1.out hb)
          replace HD := hidp (HD.out.keep hb)
          clear hb
          refine hK.out _ _ ?_ (fun hHeld => ?_)
          · (try dsimp only)
            first | exact HC.out.three | exact hHeld
          clear hK K
          (try simp only [Act.put, gA, gB, gC, sA, sB, sC])
          refine tkz 4 ?_
          refine tkz 5 ?_
          refine tkz 6 ?_
          refine wpAnyH_ready (rs := [8]) (by kernel_rfl) (by simp) ?_
          refine AllReadyH.cons (o := _) rfl (fun K hK => ?_) AllReadyH.nil
          obtain ⟨z0, z1', z2, z3, z4, z5, z6, z7, z8⟩ := HN.out.nine
          obtain ⟨f0, f1, f2, f3, f4, f5, f6, f7, f8⟩ := HN.out.thawed9
          have hne0 := heldOwn_ne HN.out HO1.out (by decide)
          have hne1 := heldOwn_ne HN.out HO2.out (by decide)
          go_simp
          obtain ⟨WF, hWF⟩ : ∃ WF, set9 (v5) N13 (.slice A2 nb k2) (.int .i64 (r0 : Int)) (.int .i64 (r1 : Int)) (.int .i64 (r2 : Int)) (.int .i64 (r3 : Int)) (.int .i64 (r4 : Int)) (.int .i64 (r5 : Int)) (.int .i64 (r6 : Int)) (.int .i64 (r7 : Int)) = WF := ⟨_, rfl⟩
          have hN := HN.out.set9 (.slice A2 nb k2) (.int .i64 (r0 : Int)) (.int .i64 (r1 : Int)) (.int .i64 (r2 : Int)) (.int .i64 (r3 : Int)) (.int .i64 (r4 : Int)) (.int .i64 (r5 : Int)) (.int .i64 (r6 : Int)) (.int .i64 (r7 : Int))
          have hD := HD.out.set9 HNA.out (fun x => x) HLE.out (.slice A2 nb k2) (.int .i64 (r0 : Int)) (.int .i64 (r1 : Int)) (.int .i64 (r2 : Int)) (.int .i64 (r3 : Int)) (.int .i64 (r4 : Int)) (.int .i64 (r5 : Int)) (.int .i64 (r6 : Int)) (.int .i64 (r7 : Int))
          have hHC := (heap_set9 (w := v5) (g := N13) (j := W.heap.size) (by have := HLT.out; omega) (.slice A2 nb k2) (.int .i64 (r0 : Int)) (.int .i64 (r1 : Int)) (.int .i64 (r2 : Int)) (.int .i64 (r3 : Int)) (.int .i64 (r4 : Int)) (.int .i64 (r5 : Int)) (.int .i64 (r6 : Int)) (.int .i64 (r7 : Int))).trans HC.out
          have hHS := (heap_set9 (w := v5) (g := N13) (j := NW) (by have := HLT.out; omega) (.slice A2 nb k2) (.int .i64 (r0 : Int)) (.int .i64 (r1 : Int)) (.int .i64 (r2 : Int)) (.int .i64 (r3 : Int)) (.int .i64 (r4 : Int)) (.int .i64 (r5 : Int)) (.int .i64 (r6 : Int)) (.int .i64 (r7 : Int))).trans HS.out
          have hHO1 := own_set9 (g := N13) HO1.out (fun j hj e => hne0 (e ▸ hj)) (.slice A2 nb k2) (.int .i64 (r0 : Int)) (.int .i64 (r1 : Int)) (.int .i64 (r2 : Int)) (.int .i64 (r3 : Int)) (.int .i64 (r4 : Int)) (.int .i64 (r5 : Int)) (.int .i64 (r6 : Int)) (.int .i64 (r7 : Int))
          have hHO2 := own_set9 (g := N13) HO2.out (fun j hj e => hne1 (e ▸ hj)) (.slice A2 nb k2) (.int .i64 (r0 : Int)) (.int .i64 (r1 : Int)) (.int .i64 (r2 : Int)) (.int .i64 (r3 : Int)) (.int .i64 (r4 : Int)) (.int .i64 (r5 : Int)) (.int .i64 (r6 : Int)) (.int .i64 (r7 : Int))
          rw [hWF] at hN hD hHC hHS hHO1 hHO2
          unfold set9 at hWF
          rw [hWF]
          clear hWF z0 z1' z2 z3 z4 z5 z6 z7 z8 f0 f1 f2 f3 f4 f5 f6 f7 f8 hne0 hne1
          replace HC : Hid (Held WF W.heap.size 23 #[.int .i64 (H.t : Int), .int .i64 (H.p : Int), .int .i64 (H.s : Int)]) := hidp hHC
          replace HS : Hid (Held WF NW 54 #[.slice A1 nl k1, .int .i64 (r0 : Int), .int .i64 (r1 : Int), .int .i64 (r2 : Int), .int .i64 (r3 : Int), .int .i64 (r4 : Int), .int .i64 (r5 : Int), .int .i64 (r6 : Int), .int .i64 (r7 : Int)]) := hidp hHS
          replace HO1 := hidp hHO1
          replace HO2 := hidp hHO2
          replace HN : Hid (Held WF N13 54 #[.slice A2 nb k2, .int .i64 (r0 : Int), .int .i64 (r1 : Int), .int .i64 (r2 : Int), .int .i64 (r3 : Int), .int .i64 (r4 : Int), .int .i64 (r5 : Int), .int .i64 (r6 : Int), .int .i64 (r7 : Int)]) := hidp hN
          replace HD := hidp hD
          clear hN hD hHC hHS hHO1 hHO2
          refine hK.out _ _ ?_ (fun hHeld => ?_)
          · (try dsimp only)
            first | exact HC.out.three | exact hHeld
          clear hK K
          (try simp only [Act.put, gA, gB, gC, sA, sB, sC])
          refine tkz 9 ?_
          refine wpAnyH_done (by kernel_rfl) ?_ _
          go_wp2_with fail
          go_meet
          case rel => exact ⟨_, _, _, _, rfl, rfl, HN.out, HO2.out, HC.out, HS.out, HO1.out, HD.out⟩
    · skip
      go_simp
      have hb := Bnew (B0 q0) (.cells #[.slice none 0 0, .int .i64 0, .int .i64 0, .int .i64 0, .int .i64 0, .int .i64 0, .int .i64 0, .int .i64 0, .int .i64 0] 54)
      have HN := hidp (Held.new q0 54 #[.slice none 0 0, .int .i64 0, .int .i64 0, .int .i64 0, .int .i64 0, .int .i64 0, .int .i64 0, .int .i64 0, .int .i64 0])
      have HLE := hidp HD.out.bel.size
      have HLT : Hid (W.heap.size < q0.heap.size ∧ NW < q0.heap.size) := hidp ⟨HC.out.lt, HS.out.lt⟩
      have HNA : Hid (¬ A4 q0.heap.size) := hidp (fun x => by have := Ob.lt (vOb z1 b1 n true (wholeK15 vals)) HD.out.i1 _ x; omega)
      replace HC := hidp (HC.out.keep hb)
      replace HS := hidp (HS.out.keep hb)
      replace HO1 := hidp (own_below HO1.out hb)
      replace HD := hidp (HD.out.keep hb)
      clear hb
      generalize hn13 : q0.heap.size = N13 at *
      generalize hw13 : q0.alloc (.cells #[.slice none 0 0, .int .i64 0, .int .i64 0, .int .i64 0, .int .i64 0, .int .i64 0, .int .i64 0, .int .i64 0, .int .i64 0] 54) = v6 at *
      clear hn13 hw13
      refine hK.out _ _ ?_ (fun hHeld => ?_)
      · (try dsimp only)
        first | exact HC.out.three | exact hHeld
      clear hK K
      (try simp only [Act.put, gA, gB, gC, sA, sB, sC])
      refine wpAnyH_ready (rs := [2]) (by kernel_rfl) (by simp) ?_
      refine AllReadyH.cons (o := _) rfl (fun K hK => ?_) AllReadyH.nil
      · skip
        go_simp
        obtain ⟨o9, hI9, _⟩ := HD.out.i1
        refine (vVals_some hn0 (by have := hI9.ok.few; omega) _ hI9).mono ?_
        rintro e v7 ⟨g, cp, rfl, _, hrow, hb⟩
        have HRF := hidp hrow
        clear hI9 hrow
        replace HC := hidp (HC.out.keep hb)
        replace HS := hidp (HS.out.keep hb)
        replace HN := hidp (HN.out.keep hb)
        replace HO1 := hidp (own_below HO1.out hb)
        replace HD := hidp (HD.out.keep hb)
        clear hb
        refine hK.out _ _ ?_ (fun hHeld => ?_)
        · (try dsimp only)
          first | exact HC.out.three | exact hHeld
        clear hK K
        (try simp only [Act.put, gA, gB, gC, sA, sB, sC])
        refine wpAnyH_ready (rs := [3]) (by kernel_rfl) (by simp) ?_
        refine AllReadyH.cons (o := _) rfl (fun K hK => ?_) AllReadyH.nil
        · skip
          go_simp
          refine (HN3.out _ _ _ HRF.out).mono ?_
          rintro e v8 ⟨u2, rfl, hown, hb⟩
          rw [HNB.out] at hown
          obtain ⟨A2, k2, hu2⟩ := own_slice hown
          subst hu2
          have HO2 : Hid (v8.ownsRow 0 64 2 (.slice A2 nb k2) nb (bkVs LB)) := hidp (own_lower hown (Nat.zero_le _))
          clear HRF hown
          replace HC := hidp (HC.out.keep hb)
          replace HS := hidp (HS.out.keep hb)
          replace HN := hidp (HN.out.keep hb)
          replace HO1 := hidp (own_below HO1.out hb)
          replace HD := hidp (HD.out.keep hb)
          clear hb
          refine hK.out _ _ ?_ (fun hHeld => ?_)
          · (try dsimp only)
            first | exact HC.out.three | exact hHeld
          clear hK K
          (try simp only [Act.put, gA, gB, gC, sA, sB, sC])
          refine tkz 4 ?_
          refine tkz 5 ?_
          refine tkz 6 ?_
          refine wpAnyH_ready (rs := [8]) (by kernel_rfl) (by simp) ?_
          refine AllReadyH.cons (o := _) rfl (fun K hK => ?_) AllReadyH.nil
          obtain ⟨z0, z1', z2, z3, z4, z5, z6, z7, z8⟩ := HN.out.nine
          obtain ⟨f0, f1, f2, f3, f4, f5, f6, f7, f8⟩ := HN.out.thawed9
          have hne0 := heldOwn_ne HN.out HO1.out (by decide)
          have hne1 := heldOwn_ne HN.out HO2.out (by decide)
          go_simp
          obtain ⟨WF, hWF⟩ : ∃ WF, set9 (v8) N13 (.slice A2 nb k2) (.int .i64 (r0 : Int)) (.int .i64 (r1 : Int)) (.int .i64 (r2 : Int)) (.int .i64 (r3 : Int)) (.int .i64 (r4 : Int)) (.int .i64 (r5 : Int)) (.int .i64 (r6 : Int)) (.int .i64 (r7 : Int)) = WF := ⟨_, rfl⟩
          have hN := HN.out.set9 (.slice A2 nb k2) (.int .i64 (r0 : Int)) (.int .i64 (r1 : Int)) (.int .i64 (r2 : Int)) (.int .i64 (r3 : Int)) (.int .i64 (r4 : Int)) (.int .i64 (r5 : Int)) (.int .i64 (r6 : Int)) (.int .i64 (r7 : Int))
          have hD := HD.out.set9 HNA.out (fun x => x) HLE.out (.slice A2 nb k2) (.int .i64 (r0 : Int)) (.int .i64 (r1 : Int)) (.int .i64 (r2 : Int)) (.int .i64 (r3 : Int)) (.int .i64 (r4 : Int)) (.int .i64 (r5 : Int)) (.int .i64 (r6 : Int)) (.int .i64 (r7 : Int))
          have hHC := (heap_set9 (w := v8) (g := N13) (j := W.heap.size) (by have := HLT.out; omega) (.slice A2 nb k2) (.int .i64 (r0 : Int)) (.int .i64 (r1 : Int)) (.int .i64 (r2 : Int)) (.int .i64 (r3 : Int)) (.int .i64 (r4 : Int)) (.int .i64 (r5 : Int)) (.int .i64 (r6 : Int)) (.int .i64 (r7 : Int))).trans HC.out
          have hHS := (heap_set9 (w := v8) (g := N13) (j := NW) (by have := HLT.out; omega) (.slice A2 nb k2) (.int .i64 (r0 : Int)) (.int .i64 (r1 : Int)) (.int .i64 (r2 : Int)) (.int .i64 (r3 : Int)) (.int .i64 (r4 : Int)) (.int .i64 (r5 : Int)) (.int .i64 (r6 : Int)) (.int .i64 (r7 : Int))).trans HS.out
          have hHO1 := own_set9 (g := N13) HO1.out (fun j hj e => hne0 (e ▸ hj)) (.slice A2 nb k2) (.int .i64 (r0 : Int)) (.int .i64 (r1 : Int)) (.int .i64 (r2 : Int)) (.int .i64 (r3 : Int)) (.int .i64 (r4 : Int)) (.int .i64 (r5 : Int)) (.int .i64 (r6 : Int)) (.int .i64 (r7 : Int))
          have hHO2 := own_set9 (g := N13) HO2.out (fun j hj e => hne1 (e ▸ hj)) (.slice A2 nb k2) (.int .i64 (r0 : Int)) (.int .i64 (r1 : Int)) (.int .i64 (r2 : Int)) (.int .i64 (r3 : Int)) (.int .i64 (r4 : Int)) (.int .i64 (r5 : Int)) (.int .i64 (r6 : Int)) (.int .i64 (r7 : Int))
          rw [hWF] at hN hD hHC hHS hHO1 hHO2
          unfold set9 at hWF
          rw [hWF]
          clear hWF z0 z1' z2 z3 z4 z5 z6 z7 z8 f0 f1 f2 f3 f4 f5 f6 f7 f8 hne0 hne1
          replace HC : Hid (Held WF W.heap.size 23 #[.int .i64 (H.t : Int), .int .i64 (H.p : Int), .int .i64 (H.s : Int)]) := hidp hHC
          replace HS : Hid (Held WF NW 54 #[.slice A1 nl k1, .int .i64 (r0 : Int), .int .i64 (r1 : Int), .int .i64 (r2 : Int), .int .i64 (r3 : Int), .int .i64 (r4 : Int), .int .i64 (r5 : Int), .int .i64 (r6 : Int), .int .i64 (r7 : Int)]) := hidp hHS
          replace HO1 := hidp hHO1
          replace HO2 := hidp hHO2
          replace HN : Hid (Held WF N13 54 #[.slice A2 nb k2, .int .i64 (r0 : Int), .int .i64 (r1 : Int), .int .i64 (r2 : Int), .int .i64 (r3 : Int), .int .i64 (r4 : Int), .int .i64 (r5 : Int), .int .i64 (r6 : Int), .int .i64 (r7 : Int)]) := hidp hN
          replace HD := hidp hD
          clear hN hD hHC hHS hHO1 hHO2
          refine hK.out _ _ ?_ (fun hHeld => ?_)
          · (try dsimp only)
            first | exact HC.out.three | exact hHeld
          clear hK K
          (try simp only [Act.put, gA, gB, gC, sA, sB, sC])
          refine tkz 9 ?_
          refine wpAnyH_done (by kernel_rfl) ?_ _
          go_wp2_with fail
          go_meet
          case rel => exact ⟨_, _, _, _, rfl, rfl, HN.out, HO2.out, HC.out, HS.out, HO1.out, HD.out⟩
  case rest =>
    obtain ⟨N13, k2, A2, A4, rfl, rfl, hN, hO2, hHC, hHS, hHO1, hD⟩ := hcut
    have HNS := hidp hN
    have HO2 := hidp hO2
    replace HC := hidp hHC
    replace HS := hidp hHS
    replace HO1 := hidp hHO1
    replace HD := hidp hD
    clear hN hO2 hHC hHS hHO1 hD
    clear x0 x1 x2
    obtain ⟨x0, x1, x2⟩ := HC.out.three
    go_wp2_with fail
    go_cut [15] from 82 to 95 (fun u15 wx => ∃ (N15 k3 : Nat) (A3 : Option Addr) (A4 : Nat → Prop), u15 = .pointer (some ⟨N15, 0, none⟩) ∧ Held wx N15 54 #[.slice A3 nb k3, .int .i64 (r0 : Int), .int .i64 (r1 : Int), .int .i64 (r2 : Int), .int .i64 (r3 : Int), .int .i64 (r4 : Int), .int .i64 (r5 : Int), .int .i64 (r6 : Int), .int .i64 (r7 : Int)] ∧ wx.ownsRow 0 64 2 (.slice A3 nb k3) nb (bkVs LB) ∧ Held wx W.heap.size 23 #[.int .i64 (H.t : Int), .int .i64 (H.p : Int), .int .i64 (H.s : Int)] ∧ Held wx NW 54 #[.slice A1 nl k1, .int .i64 (r0 : Int), .int .i64 (r1 : Int), .int .i64 (r2 : Int), .int .i64 (r3 : Int), .int .i64 (r4 : Int), .int .i64 (r5 : Int), .int .i64 (r6 : Int), .int .i64 (r7 : Int)] ∧ Held wx N13 54 #[.slice A2 nb k2, .int .i64 (r0 : Int), .int .i64 (r1 : Int), .int .i64 (r2 : Int), .int .i64 (r3 : Int), .int .i64 (r4 : Int), .int .i64 (r5 : Int), .int .i64 (r6 : Int), .int .i64 (r7 : Int)] ∧ wx.ownsRow 0 64 2 (.slice A1 nl k1) nl (bkVs L) ∧ wx.ownsRow 0 64 2 (.slice A2 nb k2) nb (bkVs LB) ∧ Duo W (vOb z1 b1 n true (wholeK15 vals)) noOb A4 (fun _ => False) (fun g => g < z1) s3 freshS wx)
    case first =>
      replace HC := hidp HC.out.drw
      replace HS := hidp HS.out.drw
      replace HNS := hidp HNS.out.drw
      replace HO1 := hidp (own_below HO1.out (Bdrew (B0 _)))
      replace HO2 := hidp (own_below HO2.out (Bdrew (B0 _)))
      replace HD := hidp (HD.out.keep (Bdrew (B0 _)))
      refine wp_region_held_drew (S := (fun w' => w'.cell? ⟨NW, 0, none⟩ = some (.slice A1 nl k1) ∧ w'.cell? ⟨NW, 1, none⟩ = some (.int .i64 (r0 : Int)) ∧ w'.cell? ⟨NW, 2, none⟩ = some (.int .i64 (r1 : Int)) ∧ w'.cell? ⟨NW, 3, none⟩ = some (.int .i64 (r2 : Int)) ∧ w'.cell? ⟨NW, 4, none⟩ = some (.int .i64 (r3 : Int)) ∧ w'.cell? ⟨NW, 5, none⟩ = some (.int .i64 (r4 : Int)) ∧ w'.cell? ⟨NW, 6, none⟩ = some (.int .i64 (r5 : Int)) ∧ w'.cell? ⟨NW, 7, none⟩ = some (.int .i64 (r6 : Int)) ∧ w'.cell? ⟨NW, 8, none⟩ = some (.int .i64 (r7 : Int)))) (by kernel_rfl) ?_ (fun hHeld => ?_)
      · (try dsimp only)
        first | exact HS.out.nine | exact hHeld
      generalize hq0 : World.drew wc = q0 at HC HS HNS HO1 HO2 HD hHeld ⊢
      clear hq0
      refine tkz 0 ?_
      refine tkz 1 ?_
      refine tkz 2 ?_
      refine tkz 3 ?_
      refine tkz 4 ?_
      refine tkz 5 ?_
      refine tkz 6 ?_
      refine tkz 7 ?_
      refine tkz 8 ?_
      refine tkz 9 ?_
      refine tkz 11 ?_
      refine tkz 12 ?_
      refine wpAnyH_ready (rs := [10, 14]) (by kernel_rfl) (by simp) ?_
      refine AllReadyH.cons (o := _) rfl (fun K hK => ?_) (AllReadyH.cons (o := _) rfl (fun K hK => ?_) AllReadyH.nil)
      · skip
        go_simp
        refine (add15_c L fa sz A1 nl k1 0 _ HNL.out hnlb2 HO1.out).mono ?_
        rintro e v1 ⟨u3, rfl, hown, hb⟩
        rw [HAB.out, HNB.out] at hown
        obtain ⟨A3, k3, hu3⟩ := own_slice hown
        subst hu3
        have HO3 : Hid (v1.ownsRow 0 64 2 (.slice A3 nb k3) nb (bkVs LB)) := hidp (own_lower hown (Nat.zero_le _))
        clear hown
        replace HC := hidp (HC.out.keep hb)
        replace HS := hidp (HS.out.keep hb)
        replace HNS := hidp (HNS.out.keep hb)
        replace HO1 := hidp (own_below HO1.out hb)
        replace HO2 := hidp (own_below HO2.out hb)
        replace HD := hidp (HD.out.keep hb)
        clear hb
        refine hK.out _ _ ?_ (fun hHeld => ?_)
        · (try dsimp only)
          first | exact HS.out.nine | exact hHeld
        clear hK K
        (try simp only [Act.put, gA, gB, gC, sA, sB, sC])
        refine tkz 13 ?_
        refine wpAnyH_ready (rs := [14]) (by kernel_rfl) (by simp) ?_
        refine AllReadyH.cons (o := _) rfl (fun K hK => ?_) AllReadyH.nil
        go_simp
        have hb := Bnew (B0 v1) (.cells #[.slice none 0 0, .int .i64 0, .int .i64 0, .int .i64 0, .int .i64 0, .int .i64 0, .int .i64 0, .int .i64 0, .int .i64 0] 54)
        have HN := hidp (Held.new v1 54 #[.slice none 0 0, .int .i64 0, .int .i64 0, .int .i64 0, .int .i64 0, .int .i64 0, .int .i64 0, .int .i64 0, .int .i64 0])
        have HLE := hidp HD.out.bel.size
        have HLT : Hid (W.heap.size < v1.heap.size ∧ NW < v1.heap.size ∧ N13 < v1.heap.size) := hidp ⟨HC.out.lt, HS.out.lt, HNS.out.lt⟩
        have HNA : Hid (¬ A4 v1.heap.size) := hidp (fun x => by have := Ob.lt (vOb z1 b1 n true (wholeK15 vals)) HD.out.i1 _ x; omega)
        replace HC := hidp (HC.out.keep hb)
        replace HS := hidp (HS.out.keep hb)
        replace HNS := hidp (HNS.out.keep hb)
        replace HO1 := hidp (own_below HO1.out hb)
        replace HO2 := hidp (own_below HO2.out hb)
        replace HO3 := hidp (own_below HO3.out hb)
        replace HD := hidp (HD.out.keep hb)
        clear hb
        generalize hn13 : v1.heap.size = N15 at *
        generalize hw13 : v1.alloc (.cells #[.slice none 0 0, .int .i64 0, .int .i64 0, .int .i64 0, .int .i64 0, .int .i64 0, .int .i64 0, .int .i64 0, .int .i64 0] 54) = v2 at *
        clear hn13 hw13
        refine hK.out _ _ ?_ (fun hHeld => ?_)
        · (try dsimp only)
          first | exact HS.out.nine | exact hHeld
        clear hK K
        (try simp only [Act.put, gA, gB, gC, sA, sB, sC])
        refine wpAnyH_ready (rs := [15]) (by kernel_rfl) (by simp) ?_
        refine AllReadyH.cons (o := _) rfl (fun K hK => ?_) AllReadyH.nil
        obtain ⟨z0, z1', z2, z3, z4, z5, z6, z7, z8⟩ := HN.out.nine
        obtain ⟨f0, f1, f2, f3, f4, f5, f6, f7, f8⟩ := HN.out.thawed9
        have hne0 := heldOwn_ne HN.out HO1.out (by decide)
        have hne1 := heldOwn_ne HN.out HO2.out (by decide)
        have hne2 := heldOwn_ne HN.out HO3.out (by decide)
        go_simp
        obtain ⟨WF, hWF⟩ : ∃ WF, set9 (v2) N15 (.slice A3 nb k3) (.int .i64 (r0 : Int)) (.int .i64 (r1 : Int)) (.int .i64 (r2 : Int)) (.int .i64 (r3 : Int)) (.int .i64 (r4 : Int)) (.int .i64 (r5 : Int)) (.int .i64 (r6 : Int)) (.int .i64 (r7 : Int)) = WF := ⟨_, rfl⟩
        have hN := HN.out.set9 (.slice A3 nb k3) (.int .i64 (r0 : Int)) (.int .i64 (r1 : Int)) (.int .i64 (r2 : Int)) (.int .i64 (r3 : Int)) (.int .i64 (r4 : Int)) (.int .i64 (r5 : Int)) (.int .i64 (r6 : Int)) (.int .i64 (r7 : Int))
        have hD := HD.out.set9 HNA.out (fun x => x) HLE.out (.slice A3 nb k3) (.int .i64 (r0 : Int)) (.int .i64 (r1 : Int)) (.int .i64 (r2 : Int)) (.int .i64 (r3 : Int)) (.int .i64 (r4 : Int)) (.int .i64 (r5 : Int)) (.int .i64 (r6 : Int)) (.int .i64 (r7 : Int))
        have hHC := (heap_set9 (w := v2) (g := N15) (j := W.heap.size) (by have := HLT.out; omega) (.slice A3 nb k3) (.int .i64 (r0 : Int)) (.int .i64 (r1 : Int)) (.int .i64 (r2 : Int)) (.int .i64 (r3 : Int)) (.int .i64 (r4 : Int)) (.int .i64 (r5 : Int)) (.int .i64 (r6 : Int)) (.int .i64 (r7 : Int))).trans HC.out
        have hHS := (heap_set9 (w := v2) (g := N15) (j := NW) (by have := HLT.out; omega) (.slice A3 nb k3) (.int .i64 (r0 : Int)) (.int .i64 (r1 : Int)) (.int .i64 (r2 : Int)) (.int .i64 (r3 : Int)) (.int .i64 (r4 : Int)) (.int .i64 (r5 : Int)) (.int .i64 (r6 : Int)) (.int .i64 (r7 : Int))).trans HS.out
        have hHNS := (heap_set9 (w := v2) (g := N15) (j := N13) (by have := HLT.out; omega) (.slice A3 nb k3) (.int .i64 (r0 : Int)) (.int .i64 (r1 : Int)) (.int .i64 (r2 : Int)) (.int .i64 (r3 : Int)) (.int .i64 (r4 : Int)) (.int .i64 (r5 : Int)) (.int .i64 (r6 : Int)) (.int .i64 (r7 : Int))).trans HNS.out
        have hHO1 := own_set9 (g := N15) HO1.out (fun j hj e => hne0 (e ▸ hj)) (.slice A3 nb k3) (.int .i64 (r0 : Int)) (.int .i64 (r1 : Int)) (.int .i64 (r2 : Int)) (.int .i64 (r3 : Int)) (.int .i64 (r4 : Int)) (.int .i64 (r5 : Int)) (.int .i64 (r6 : Int)) (.int .i64 (r7 : Int))
        have hHO2 := own_set9 (g := N15) HO2.out (fun j hj e => hne1 (e ▸ hj)) (.slice A3 nb k3) (.int .i64 (r0 : Int)) (.int .i64 (r1 : Int)) (.int .i64 (r2 : Int)) (.int .i64 (r3 : Int)) (.int .i64 (r4 : Int)) (.int .i64 (r5 : Int)) (.int .i64 (r6 : Int)) (.int .i64 (r7 : Int))
        have hHO3 := own_set9 (g := N15) HO3.out (fun j hj e => hne2 (e ▸ hj)) (.slice A3 nb k3) (.int .i64 (r0 : Int)) (.int .i64 (r1 : Int)) (.int .i64 (r2 : Int)) (.int .i64 (r3 : Int)) (.int .i64 (r4 : Int)) (.int .i64 (r5 : Int)) (.int .i64 (r6 : Int)) (.int .i64 (r7 : Int))
        rw [hWF] at hN hD hHC hHS hHNS hHO1 hHO2 hHO3
        unfold set9 at hWF
        rw [hWF]
        clear hWF z0 z1' z2 z3 z4 z5 z6 z7 z8 f0 f1 f2 f3 f4 f5 f6 f7 f8 hne0 hne1 hne2
        replace HC : Hid (Held WF W.heap.size 23 #[.int .i64 (H.t : Int), .int .i64 (H.p : Int), .int .i64 (H.s : Int)]) := hidp hHC
        replace HS : Hid (Held WF NW 54 #[.slice A1 nl k1, .int .i64 (r0 : Int), .int .i64 (r1 : Int), .int .i64 (r2 : Int), .int .i64 (r3 : Int), .int .i64 (r4 : Int), .int .i64 (r5 : Int), .int .i64 (r6 : Int), .int .i64 (r7 : Int)]) := hidp hHS
        replace HNS : Hid (Held WF N13 54 #[.slice A2 nb k2, .int .i64 (r0 : Int), .int .i64 (r1 : Int), .int .i64 (r2 : Int), .int .i64 (r3 : Int), .int .i64 (r4 : Int), .int .i64 (r5 : Int), .int .i64 (r6 : Int), .int .i64 (r7 : Int)]) := hidp hHNS
        replace HO1 := hidp hHO1
        replace HO2 := hidp hHO2
        replace HO3 := hidp hHO3
        replace HN : Hid (Held WF N15 54 #[.slice A3 nb k3, .int .i64 (r0 : Int), .int .i64 (r1 : Int), .int .i64 (r2 : Int), .int .i64 (r3 : Int), .int .i64 (r4 : Int), .int .i64 (r5 : Int), .int .i64 (r6 : Int), .int .i64 (r7 : Int)]) := hidp hN
        replace HD := hidp hD
        clear hN hD hHC hHS hHNS hHO1 hHO2 hHO3
        refine hK.out _ _ ?_ (fun hHeld => ?_)
        · (try dsimp only)
          first | exact HS.out.nine | exact hHeld
        clear hK K
        (try simp only [Act.put, gA, gB, gC, sA, sB, sC])
        refine wpAnyH_done (by kernel_rfl) ?_ _
        go_wp2_with fail
        go_meet
        case rel => exact ⟨_, _, _, _, rfl, HN.out, HO3.out, HC.out, HS.out, HNS.out, HO1.out, HO2.out, HD.out⟩
      · skip
        go_simp
        have hb := Bnew (B0 q0) (.cells #[.slice none 0 0, .int .i64 0, .int .i64 0, .int .i64 0, .int .i64 0, .int .i64 0, .int .i64 0, .int .i64 0, .int .i64 0] 54)
        have HN := hidp (Held.new q0 54 #[.slice none 0 0, .int .i64 0, .int .i64 0, .int .i64 0, .int .i64 0, .int .i64 0, .int .i64 0, .int .i64 0, .int .i64 0])
        have HLE := hidp HD.out.bel.size
        have HLT : Hid (W.heap.size < q0.heap.size ∧ NW < q0.heap.size ∧ N13 < q0.heap.size) := hidp ⟨HC.out.lt, HS.out.lt, HNS.out.lt⟩
        have HNA : Hid (¬ A4 q0.heap.size) := hidp (fun x => by have := Ob.lt (vOb z1 b1 n true (wholeK15 vals)) HD.out.i1 _ x; omega)
        replace HC := hidp (HC.out.keep hb)
        replace HS := hidp (HS.out.keep hb)
        replace HNS := hidp (HNS.out.keep hb)
        replace HO1 := hidp (own_below HO1.out hb)
        replace HO2 := hidp (own_below HO2.out hb)
        replace HD := hidp (HD.out.keep hb)
        clear hb
        generalize hn13 : q0.heap.size = N15 at *
        generalize hw13 : q0.alloc (.cells #[.slice none 0 0, .int .i64 0, .int .i64 0, .int .i64 0, .int .i64 0, .int .i64 0, .int .i64 0, .int .i64 0, .int .i64 0] 54) = v3 at *
        clear hn13 hw13
        refine hK.out _ _ ?_ (fun hHeld => ?_)
        · (try dsimp only)
          first | exact HS.out.nine | exact hHeld
        clear hK K
        (try simp only [Act.put, gA, gB, gC, sA, sB, sC])
        refine wpAnyH_ready (rs := [10]) (by kernel_rfl) (by simp) ?_
        refine AllReadyH.cons (o := _) rfl (fun K hK => ?_) AllReadyH.nil
        go_simp
        refine (add15_c L fa sz A1 nl k1 0 _ HNL.out hnlb2 HO1.out).mono ?_
        rintro e v4 ⟨u3, rfl, hown, hb⟩
        rw [HAB.out, HNB.out] at hown
        obtain ⟨A3, k3, hu3⟩ := own_slice hown
        subst hu3
        have HO3 : Hid (v4.ownsRow 0 64 2 (.slice A3 nb k3) nb (bkVs LB)) := hidp (own_lower hown (Nat.zero_le _))
        clear hown
        replace HC := hidp (HC.out.keep hb)
        replace HS := hidp (HS.out.keep hb)
        replace HNS := hidp (HNS.out.keep hb)
        replace HN := hidp (HN.out.keep hb)
        replace HO1 := hidp (own_below HO1.out hb)
        replace HO2 := hidp (own_below HO2.out hb)
        replace HD := hidp (HD.out.keep hb)
        clear hb
        refine hK.out _ _ ?_ (fun hHeld => ?_)
        · (try dsimp only)
          first | exact HS.out.nine | exact hHeld
        clear hK K
        (try simp only [Act.put, gA, gB, gC, sA, sB, sC])
        refine tkz 13 ?_
        refine wpAnyH_ready (rs := [15]) (by kernel_rfl) (by simp) ?_
        refine AllReadyH.cons (o := _) rfl (fun K hK => ?_) AllReadyH.nil
        obtain ⟨z0, z1', z2, z3, z4, z5, z6, z7, z8⟩ := HN.out.nine
        obtain ⟨f0, f1, f2, f3, f4, f5, f6, f7, f8⟩ := HN.out.thawed9
        have hne0 := heldOwn_ne HN.out HO1.out (by decide)
        have hne1 := heldOwn_ne HN.out HO2.out (by decide)
        have hne2 := heldOwn_ne HN.out HO3.out (by decide)
        go_simp
        obtain ⟨WF, hWF⟩ : ∃ WF, set9 (v4) N15 (.slice A3 nb k3) (.int .i64 (r0 : Int)) (.int .i64 (r1 : Int)) (.int .i64 (r2 : Int)) (.int .i64 (r3 : Int)) (.int .i64 (r4 : Int)) (.int .i64 (r5 : Int)) (.int .i64 (r6 : Int)) (.int .i64 (r7 : Int)) = WF := ⟨_, rfl⟩
        have hN := HN.out.set9 (.slice A3 nb k3) (.int .i64 (r0 : Int)) (.int .i64 (r1 : Int)) (.int .i64 (r2 : Int)) (.int .i64 (r3 : Int)) (.int .i64 (r4 : Int)) (.int .i64 (r5 : Int)) (.int .i64 (r6 : Int)) (.int .i64 (r7 : Int))
        have hD := HD.out.set9 HNA.out (fun x => x) HLE.out (.slice A3 nb k3) (.int .i64 (r0 : Int)) (.int .i64 (r1 : Int)) (.int .i64 (r2 : Int)) (.int .i64 (r3 : Int)) (.int .i64 (r4 : Int)) (.int .i64 (r5 : Int)) (.int .i64 (r6 : Int)) (.int .i64 (r7 : Int))
        have hHC := (heap_set9 (w := v4) (g := N15) (j := W.heap.size) (by have := HLT.out; omega) (.slice A3 nb k3) (.int .i64 (r0 : Int)) (.int .i64 (r1 : Int)) (.int .i64 (r2 : Int)) (.int .i64 (r3 : Int)) (.int .i64 (r4 : Int)) (.int .i64 (r5 : Int)) (.int .i64 (r6 : Int)) (.int .i64 (r7 : Int))).trans HC.out
        have hHS := (heap_set9 (w := v4) (g := N15) (j := NW) (by have := HLT.out; omega) (.slice A3 nb k3) (.int .i64 (r0 : Int)) (.int .i64 (r1 : Int)) (.int .i64 (r2 : Int)) (.int .i64 (r3 : Int)) (.int .i64 (r4 : Int)) (.int .i64 (r5 : Int)) (.int .i64 (r6 : Int)) (.int .i64 (r7 : Int))).trans HS.out
        have hHNS := (heap_set9 (w := v4) (g := N15) (j := N13) (by have := HLT.out; omega) (.slice A3 nb k3) (.int .i64 (r0 : Int)) (.int .i64 (r1 : Int)) (.int .i64 (r2 : Int)) (.int .i64 (r3 : Int)) (.int .i64 (r4 : Int)) (.int .i64 (r5 : Int)) (.int .i64 (r6 : Int)) (.int .i64 (r7 : Int))).trans HNS.out
        have hHO1 := own_set9 (g := N15) HO1.out (fun j hj e => hne0 (e ▸ hj)) (.slice A3 nb k3) (.int .i64 (r0 : Int)) (.int .i64 (r1 : Int)) (.int .i64 (r2 : Int)) (.int .i64 (r3 : Int)) (.int .i64 (r4 : Int)) (.int .i64 (r5 : Int)) (.int .i64 (r6 : Int)) (.int .i64 (r7 : Int))
        have hHO2 := own_set9 (g := N15) HO2.out (fun j hj e => hne1 (e ▸ hj)) (.slice A3 nb k3) (.int .i64 (r0 : Int)) (.int .i64 (r1 : Int)) (.int .i64 (r2 : Int)) (.int .i64 (r3 : Int)) (.int .i64 (r4 : Int)) (.int .i64 (r5 : Int)) (.int .i64 (r6 : Int)) (.int .i64 (r7 : Int))
        have hHO3 := own_set9 (g := N15) HO3.out (fun j hj e => hne2 (e ▸ hj)) (.slice A3 nb k3) (.int .i64 (r0 : Int)) (.int .i64 (r1 : Int)) (.int .i64 (r2 : Int)) (.int .i64 (r3 : Int)) (.int .i64 (r4 : Int)) (.int .i64 (r5 : Int)) (.int .i64 (r6 : Int)) (.int .i64 (r7 : Int))
        rw [hWF] at hN hD hHC hHS hHNS hHO1 hHO2 hHO3
        unfold set9 at hWF
        rw [hWF]
        clear hWF z0 z1' z2 z3 z4 z5 z6 z7 z8 f0 f1 f2 f3 f4 f5 f6 f7 f8 hne0 hne1 hne2
        replace HC : Hid (Held WF W.heap.size 23 #[.int .i64 (H.t : Int), .int .i64 (H.p : Int), .int .i64 (H.s : Int)]) := hidp hHC
        replace HS : Hid (Held WF NW 54 #[.slice A1 nl k1, .int .i64 (r0 : Int), .int .i64 (r1 : Int), .int .i64 (r2 : Int), .int .i64 (r3 : Int), .int .i64 (r4 : Int), .int .i64 (r5 : Int), .int .i64 (r6 : Int), .int .i64 (r7 : Int)]) := hidp hHS
        replace HNS : Hid (Held WF N13 54 #[.slice A2 nb k2, .int .i64 (r0 : Int), .int .i64 (r1 : Int), .int .i64 (r2 : Int), .int .i64 (r3 : Int), .int .i64 (r4 : Int), .int .i64 (r5 : Int), .int .i64 (r6 : Int), .int .i64 (r7 : Int)]) := hidp hHNS
        replace HO1 := hidp hHO1
        replace HO2 := hidp hHO2
        replace HO3 := hidp hHO3
        replace HN : Hid (Held WF N15 54 #[.slice A3 nb k3, .int .i64 (r0 : Int), .int .i64 (r1 : Int), .int .i64 (r2 : Int), .int .i64 (r3 : Int), .int .i64 (r4 : Int), .int .i64 (r5 : Int), .int .i64 (r6 : Int), .int .i64 (r7 : Int)]) := hidp hN
        replace HD := hidp hD
        clear hN hD hHC hHS hHNS hHO1 hHO2 hHO3
        refine hK.out _ _ ?_ (fun hHeld => ?_)
        · (try dsimp only)
          first | exact HS.out.nine | exact hHeld
        clear hK K
        (try simp only [Act.put, gA, gB, gC, sA, sB, sC])
        refine wpAnyH_done (by kernel_rfl) ?_ _
        go_wp2_with fail
        go_meet
        case rel => exact ⟨_, _, _, _, rfl, HN.out, HO3.out, HC.out, HS.out, HNS.out, HO1.out, HO2.out, HD.out⟩
    case rest =>
      obtain ⟨N15, k3, A3, A4, rfl, hN, hO3, hHC, hHS, hHNS, hHO1, hHO2, hD⟩ := hcut
      have HNW := hidp hN
      have HO3 := hidp hO3
      replace HC := hidp hHC
      replace HS := hidp hHS
      replace HNS := hidp hHNS
      replace HO1 := hidp hHO1
      replace HO2 := hidp hHO2
      replace HD := hidp hD
      clear hN hO3 hHC hHS hHNS hHO1 hHO2 hD
      clear x0 x1 x2
      obtain ⟨x0, x1, x2⟩ := HC.out.three
      obtain ⟨a0, a1, a2, a3, a4, a5, a6, a7, a8⟩ := HNS.out.nine
      obtain ⟨b0, b1', b2, b3, b4, b5, b6, b7, b8⟩ := HNW.out.nine
      go_wp2_with fail
      refine (xSame_c LB LB A2 A3 nb nb k2 k3 0 0 r0 r1 r2 r3 r4 r5 r6 r7 r0 r1 r2 r3 r4 r5 r6 r7 _ HNB.out HNB.out hnbb hnbb HO2.out HO3.out true ⟨fun _ => ⟨rfl, rfl⟩, fun _ => rfl⟩).mono ?_
      rintro e w6 ⟨rfl, hb⟩
      replace HC := hidp (HC.out.keep hb)
      replace HS := hidp (HS.out.keep hb)
      replace HO1 := hidp (own_below HO1.out hb)
      replace HD := hidp (HD.out.keep hb)
      clear hb a0 a1 a2 a3 a4 a5 a6 a7 a8 b0 b1' b2 b3 b4 b5 b6 b7 b8 x0 x1 x2
      obtain ⟨x0, x1, x2⟩ := HC.out.three
      clear HNS HO2 HNW HO3
      go_wp2_with fail
      refine (snRelease_c hn40 hq10 p mm (by omega) (by omega) HD.out.at1).mono ?_
      rintro e w6 ⟨rfl, h1, _⟩
      obtain ⟨A4, h2, h3⟩ := HD.out.left1 h1.left
      rw [HS4.out] at h2
      replace HC := hidp (h3.held HZC.out HC.out)
      replace HS := hidp (h3.held HZS.out HS.out)
      replace HO1 := hidp (h3.own HZR.out HO1.out)
      replace HD := hidp h2
      clear h1 h2 h3 x0 x1 x2
      obtain ⟨x0, x1, x2⟩ := HC.out.three
      go_wp2_with fail
      refine (vGetA hn40 1 HD.out.at1).mono ?_
      rintro e w6 ⟨rfl, h1, _⟩
      obtain ⟨A4, h2, h3⟩ := HD.out.left1 h1.left
      rw [HX2.out]
      replace HC := hidp (h3.held HZC.out HC.out)
      replace HS := hidp (h3.held HZS.out HS.out)
      replace HO1 := hidp (h3.own HZR.out HO1.out)
      replace HD := hidp h2
      clear h1 h2 h3 x0 x1 x2
      obtain ⟨x0, x1, x2⟩ := HC.out.three
      go_wp2_with fail
      refine (vPutA hn40 1 y2 HY2.out HD.out.at1).mono ?_
      rintro e w6 ⟨rfl, h1, _⟩
      obtain ⟨A4, h2, h3⟩ := HD.out.left1 h1.left
      rw [HS5.out] at h2
      replace HC := hidp (h3.held HZC.out HC.out)
      replace HS := hidp (h3.held HZS.out HS.out)
      replace HO1 := hidp (h3.own HZR.out HO1.out)
      replace HD := hidp h2
      clear h1 h2 h3 x0 x1 x2
      obtain ⟨x0, x1, x2⟩ := HC.out.three
      have HOK5 : Hid (VOk n s5) := hidp (by obtain ⟨o, hI, _⟩ := HD.out.i1; exact hI.ok)
      have HN5 := hidp (HNOW5.out HOK3.out HOK5.out).1
      have HZ5 := hidp ((HNOW5.out HOK3.out HOK5.out).2.trans HZ0.out)
      go_wp2_with fail
      go_cut [16, 17] from 114 to 120 (fun u16 u17 wx => ∃ (N17 k5 : Nat) (A5 : Option Addr) (A4 : Nat → Prop), u16 = .pointer (some ⟨N17, 0, none⟩) ∧ u17 = .bool true ∧ Held wx N17 54 #[.slice A5 nl k5, .int .i64 (r0 : Int), .int .i64 (r1 : Int), .int .i64 (r2 : Int), .int .i64 (r3 : Int), .int .i64 (r4 : Int), .int .i64 (r5 : Int), .int .i64 (r6 : Int), .int .i64 (r7 : Int)] ∧ wx.ownsRow 0 64 2 (.slice A5 nl k5) nl (bkVs L) ∧ Held wx W.heap.size 23 #[.int .i64 (H.t : Int), .int .i64 (H.p : Int), .int .i64 (H.s : Int)] ∧ Held wx NW 54 #[.slice A1 nl k1, .int .i64 (r0 : Int), .int .i64 (r1 : Int), .int .i64 (r2 : Int), .int .i64 (r3 : Int), .int .i64 (r4 : Int), .int .i64 (r5 : Int), .int .i64 (r6 : Int), .int .i64 (r7 : Int)] ∧ wx.ownsRow 0 64 2 (.slice A1 nl k1) nl (bkVs L) ∧ Duo W (vOb z1 b1 n true (wholeK15 vals)) noOb A4 (fun _ => False) (fun g => g < z1) s5 freshS wx)
      case first =>
        replace HC := hidp HC.out.drw
        replace HS := hidp HS.out.drw
        replace HO1 := hidp (own_below HO1.out (Bdrew (B0 _)))
        replace HD := hidp (HD.out.keep (Bdrew (B0 _)))
        refine wp_region_held_drew (S := (fun w' => w'.cell? ⟨W.heap.size, 0, none⟩ = some (.int .i64 (H.t : Int)) ∧ w'.cell? ⟨W.heap.size, 1, none⟩ = some (.int .i64 (H.p : Int)) ∧ w'.cell? ⟨W.heap.size, 2, none⟩ = some (.int .i64 (H.s : Int)))) (by kernel_rfl) ?_ (fun hHeld => ?_)
        · (try dsimp only)
          first | exact HC.out.three | exact hHeld
        generalize hq0 : World.drew w6 = q0 at HC HS HO1 HD hHeld ⊢
        clear hq0
        refine tkz 0 ?_
        refine tkz 1 ?_
        refine wpAnyH_ready (rs := [2, 7]) (by kernel_rfl) (by simp) ?_
        refine AllReadyH.cons (o := _) rfl (fun K hK => ?_) (AllReadyH.cons (o := _) rfl (fun K hK => ?_) AllReadyH.nil)
        · skip
          go_simp
          obtain ⟨o9, hI9, _⟩ := HD.out.i1
          refine (vVals_some hn0 (by have := hI9.ok.few; omega) _ hI9).mono ?_
          rintro e v1 ⟨g, cp, rfl, _, hrow, hb⟩
          have HRF := hidp hrow
          clear hI9 hrow
          replace HC := hidp (HC.out.keep hb)
          replace HS := hidp (HS.out.keep hb)
          replace HO1 := hidp (own_below HO1.out hb)
          replace HD := hidp (HD.out.keep hb)
          clear hb
          refine hK.out _ _ ?_ (fun hHeld => ?_)
          · (try dsimp only)
            first | exact HC.out.three | exact hHeld
          clear hK K
          (try simp only [Act.put, gA, gB, gC, sA, sB, sC])
          refine wpAnyH_ready (rs := [3, 7]) (by kernel_rfl) (by simp) ?_
          refine AllReadyH.cons (o := _) rfl (fun K hK => ?_) (AllReadyH.cons (o := _) rfl (fun K hK => ?_) AllReadyH.nil)
          · skip
            go_simp
            refine (HN5.out _ _ _ HRF.out).mono ?_
            rintro e v2 ⟨u2, rfl, hown, hb⟩
            rw [HNL.out] at hown
            obtain ⟨A5, k5, hu2⟩ := own_slice hown
            subst hu2
            have HO2 : Hid (v2.ownsRow 0 64 2 (.slice A5 nl k5) nl (bkVs L)) := hidp (own_lower hown (Nat.zero_le _))
            clear HRF hown
            replace HC := hidp (HC.out.keep hb)
            replace HS := hidp (HS.out.keep hb)
            replace HO1 := hidp (own_below HO1.out hb)
            replace HD := hidp (HD.out.keep hb)
            clear hb
            refine hK.out _ _ ?_ (fun hHeld => ?_)
            · (try dsimp only)
              first | exact HC.out.three | exact hHeld
            clear hK K
            (try simp only [Act.put, gA, gB, gC, sA, sB, sC])
            refine tkz 4 ?_
            refine tkz 5 ?_
            refine tkz 6 ?_
            refine wpAnyH_ready (rs := [7]) (by kernel_rfl) (by simp) ?_
            refine AllReadyH.cons (o := _) rfl (fun K hK => ?_) AllReadyH.nil
            · skip
              go_simp
              have hb := Bnew (B0 v2) (.cells #[.slice none 0 0, .int .i64 0, .int .i64 0, .int .i64 0, .int .i64 0, .int .i64 0, .int .i64 0, .int .i64 0, .int .i64 0] 54)
              have HN := hidp (Held.new v2 54 #[.slice none 0 0, .int .i64 0, .int .i64 0, .int .i64 0, .int .i64 0, .int .i64 0, .int .i64 0, .int .i64 0, .int .i64 0])
              have HLE := hidp HD.out.bel.size
              have HLT : Hid (W.heap.size < v2.heap.size ∧ NW < v2.heap.size) := hidp ⟨HC.out.lt, HS.out.lt⟩
              have HNA : Hid (¬ A4 v2.heap.size) := hidp (fun x => by have := Ob.lt (vOb z1 b1 n true (wholeK15 vals)) HD.out.i1 _ x; omega)
              replace HC := hidp (HC.out.keep hb)
              replace HS := hidp (HS.out.keep hb)
              replace HO1 := hidp (own_below HO1.out hb)
              replace HO2 := hidp (own_below HO2.out hb)
              replace HD := hidp (HD.out.keep hb)
              clear hb
              generalize hn13 : v2.heap.size = N17 at *
              generalize hw13 : v2.alloc (.cells #[.slice none 0 0, .int .i64 0, .int .i64 0, .int .i64 0, .int .i64 0, .int .i64 0, .int .i64 0, .int .i64 0, .int .i64 0] 54) = v3 at *
              clear hn13 hw13
              refine hK.out _ _ ?_ (fun hHeld => ?_)
              · (try dsimp only)
                first | exact HC.out.three | exact hHeld
              clear hK K
              (try simp only [Act.put, gA, gB, gC, sA, sB, sC])
              refine wpAnyH_ready (rs := [8]) (by kernel_rfl) (by simp) ?_
              refine AllReadyH.cons (o := _) rfl (fun K hK => ?_) AllReadyH.nil
              obtain ⟨z0, z1', z2, z3, z4, z5, z6, z7, z8⟩ := HN.out.nine
              obtain ⟨f0, f1, f2, f3, f4, f5, f6, f7, f8⟩ := HN.out.thawed9
              have hne0 := heldOwn_ne HN.out HO1.out (by decide)
              have hne1 := heldOwn_ne HN.out HO2.out (by decide)
              go_simp
              obtain ⟨WF, hWF⟩ : ∃ WF, set9 (v3) N17 (.slice A5 nl k5) (.int .i64 (r0 : Int)) (.int .i64 (r1 : Int)) (.int .i64 (r2 : Int)) (.int .i64 (r3 : Int)) (.int .i64 (r4 : Int)) (.int .i64 (r5 : Int)) (.int .i64 (r6 : Int)) (.int .i64 (r7 : Int)) = WF := ⟨_, rfl⟩
              have hN := HN.out.set9 (.slice A5 nl k5) (.int .i64 (r0 : Int)) (.int .i64 (r1 : Int)) (.int .i64 (r2 : Int)) (.int .i64 (r3 : Int)) (.int .i64 (r4 : Int)) (.int .i64 (r5 : Int)) (.int .i64 (r6 : Int)) (.int .i64 (r7 : Int))
              have hD := HD.out.set9 HNA.out (fun x => x) HLE.out (.slice A5 nl k5) (.int .i64 (r0 : Int)) (.int .i64 (r1 : Int)) (.int .i64 (r2 : Int)) (.int .i64 (r3 : Int)) (.int .i64 (r4 : Int)) (.int .i64 (r5 : Int)) (.int .i64 (r6 : Int)) (.int .i64 (r7 : Int))
              have hHC := (heap_set9 (w := v3) (g := N17) (j := W.heap.size) (by have := HLT.out; omega) (.slice A5 nl k5) (.int .i64 (r0 : Int)) (.int .i64 (r1 : Int)) (.int .i64 (r2 : Int)) (.int .i64 (r3 : Int)) (.int .i64 (r4 : Int)) (.int .i64 (r5 : Int)) (.int .i64 (r6 : Int)) (.int .i64 (r7 : Int))).trans HC.out
              have hHS := (heap_set9 (w := v3) (g := N17) (j := NW) (by have := HLT.out; omega) (.slice A5 nl k5) (.int .i64 (r0 : Int)) (.int .i64 (r1 : Int)) (.int .i64 (r2 : Int)) (.int .i64 (r3 : Int)) (.int .i64 (r4 : Int)) (.int .i64 (r5 : Int)) (.int .i64 (r6 : Int)) (.int .i64 (r7 : Int))).trans HS.out
              have hHO1 := own_set9 (g := N17) HO1.out (fun j hj e => hne0 (e ▸ hj)) (.slice A5 nl k5) (.int .i64 (r0 : Int)) (.int .i64 (r1 : Int)) (.int .i64 (r2 : Int)) (.int .i64 (r3 : Int)) (.int .i64 (r4 : Int)) (.int .i64 (r5 : Int)) (.int .i64 (r6 : Int)) (.int .i64 (r7 : Int))
              have hHO2 := own_set9 (g := N17) HO2.out (fun j hj e => hne1 (e ▸ hj)) (.slice A5 nl k5) (.int .i64 (r0 : Int)) (.int .i64 (r1 : Int)) (.int .i64 (r2 : Int)) (.int .i64 (r3 : Int)) (.int .i64 (r4 : Int)) (.int .i64 (r5 : Int)) (.int .i64 (r6 : Int)) (.int .i64 (r7 : Int))
              rw [hWF] at hN hD hHC hHS hHO1 hHO2
              unfold set9 at hWF
              rw [hWF]
              clear hWF z0 z1' z2 z3 z4 z5 z6 z7 z8 f0 f1 f2 f3 f4 f5 f6 f7 f8 hne0 hne1
              replace HC : Hid (Held WF W.heap.size 23 #[.int .i64 (H.t : Int), .int .i64 (H.p : Int), .int .i64 (H.s : Int)]) := hidp hHC
              replace HS : Hid (Held WF NW 54 #[.slice A1 nl k1, .int .i64 (r0 : Int), .int .i64 (r1 : Int), .int .i64 (r2 : Int), .int .i64 (r3 : Int), .int .i64 (r4 : Int), .int .i64 (r5 : Int), .int .i64 (r6 : Int), .int .i64 (r7 : Int)]) := hidp hHS
              replace HO1 := hidp hHO1
              replace HO2 := hidp hHO2
              replace HN : Hid (Held WF N17 54 #[.slice A5 nl k5, .int .i64 (r0 : Int), .int .i64 (r1 : Int), .int .i64 (r2 : Int), .int .i64 (r3 : Int), .int .i64 (r4 : Int), .int .i64 (r5 : Int), .int .i64 (r6 : Int), .int .i64 (r7 : Int)]) := hidp hN
              replace HD := hidp hD
              clear hN hD hHC hHS hHO1 hHO2
              refine hK.out _ _ ?_ (fun hHeld => ?_)
              · (try dsimp only)
                first | exact HC.out.three | exact hHeld
              clear hK K
              (try simp only [Act.put, gA, gB, gC, sA, sB, sC])
              refine tkz 9 ?_
              refine wpAnyH_done (by kernel_rfl) ?_ _
              go_wp2_with fail
              go_meet
              case rel => exact ⟨_, _, _, _, rfl, rfl, HN.out, HO2.out, HC.out, HS.out, HO1.out, HD.out⟩
          · skip
            go_simp
            have hb := Bnew (B0 v1) (.cells #[.slice none 0 0, .int .i64 0, .int .i64 0, .int .i64 0, .int .i64 0, .int .i64 0, .int .i64 0, .int .i64 0, .int .i64 0] 54)
            have HN := hidp (Held.new v1 54 #[.slice none 0 0, .int .i64 0, .int .i64 0, .int .i64 0, .int .i64 0, .int .i64 0, .int .i64 0, .int .i64 0, .int .i64 0])
            have HLE := hidp HD.out.bel.size
            have HLT : Hid (W.heap.size < v1.heap.size ∧ NW < v1.heap.size) := hidp ⟨HC.out.lt, HS.out.lt⟩
            have HNA : Hid (¬ A4 v1.heap.size) := hidp (fun x => by have := Ob.lt (vOb z1 b1 n true (wholeK15 vals)) HD.out.i1 _ x; omega)
            replace HC := hidp (HC.out.keep hb)
            replace HS := hidp (HS.out.keep hb)
            replace HO1 := hidp (own_below HO1.out hb)
            replace HD := hidp (HD.out.keep hb)
            replace HRF := hidp (HRF.out.keep hb)
            clear hb
            generalize hn13 : v1.heap.size = N17 at *
            generalize hw13 : v1.alloc (.cells #[.slice none 0 0, .int .i64 0, .int .i64 0, .int .i64 0, .int .i64 0, .int .i64 0, .int .i64 0, .int .i64 0, .int .i64 0] 54) = v4 at *
            clear hn13 hw13
            refine hK.out _ _ ?_ (fun hHeld => ?_)
            · (try dsimp only)
              first | exact HC.out.three | exact hHeld
            clear hK K
            (try simp only [Act.put, gA, gB, gC, sA, sB, sC])
            refine wpAnyH_ready (rs := [3]) (by kernel_rfl) (by simp) ?_
            refine AllReadyH.cons (o := _) rfl (fun K hK => ?_) AllReadyH.nil
            · skip
              go_simp
              refine (HN5.out _ _ _ HRF.out).mono ?_
              rintro e v5 ⟨u2, rfl, hown, hb⟩
              rw [HNL.out] at hown
              obtain ⟨A5, k5, hu2⟩ := own_slice hown
              subst hu2
              have HO2 : Hid (v5.ownsRow 0 64 2 (.slice A5 nl k5) nl (bkVs L)) := hidp (own_lower hown (Nat.zero_le _))
              clear HRF hown
              replace HC := hidp (HC.out.keep hb)
              replace HS := hidp (HS.out.keep hb)
              replace HN := hidp (HN.out.keep hb)
              replace HO1 := hidp (own_below HO1.out hb)
              replace HD := hidp (HD.out.keep hb)
              clear hb
              refine hK.out _ _ ?_ (fun hHeld => ?_)
              · (try dsimp only)
                first | exact HC.out.three | exact hHeld
              clear hK K
              (try simp only [Act.put, gA, gB, gC, sA, sB, sC])
              refine tkz 4 ?_
              refine tkz 5 ?_
              refine tkz 6 ?_
              refine wpAnyH_ready (rs := [8]) (by kernel_rfl) (by simp) ?_
              refine AllReadyH.cons (o := _) rfl (fun K hK => ?_) AllReadyH.nil
              obtain ⟨z0, z1', z2, z3, z4, z5, z6, z7, z8⟩ := HN.out.nine
              obtain ⟨f0, f1, f2, f3, f4, f5, f6, f7, f8⟩ := HN.out.thawed9
              have hne0 := heldOwn_ne HN.out HO1.out (by decide)
              have hne1 := heldOwn_ne HN.out HO2.out (by decide)
              go_simp
              obtain ⟨WF, hWF⟩ : ∃ WF, set9 (v5) N17 (.slice A5 nl k5) (.int .i64 (r0 : Int)) (.int .i64 (r1 : Int)) (.int .i64 (r2 : Int)) (.int .i64 (r3 : Int)) (.int .i64 (r4 : Int)) (.int .i64 (r5 : Int)) (.int .i64 (r6 : Int)) (.int .i64 (r7 : Int)) = WF := ⟨_, rfl⟩
              have hN := HN.out.set9 (.slice A5 nl k5) (.int .i64 (r0 : Int)) (.int .i64 (r1 : Int)) (.int .i64 (r2 : Int)) (.int .i64 (r3 : Int)) (.int .i64 (r4 : Int)) (.int .i64 (r5 : Int)) (.int .i64 (r6 : Int)) (.int .i64 (r7 : Int))
              have hD := HD.out.set9 HNA.out (fun x => x) HLE.out (.slice A5 nl k5) (.int .i64 (r0 : Int)) (.int .i64 (r1 : Int)) (.int .i64 (r2 : Int)) (.int .i64 (r3 : Int)) (.int .i64 (r4 : Int)) (.int .i64 (r5 : Int)) (.int .i64 (r6 : Int)) (.int .i64 (r7 : Int))
              have hHC := (heap_set9 (w := v5) (g := N17) (j := W.heap.size) (by have := HLT.out; omega) (.slice A5 nl k5) (.int .i64 (r0 : Int)) (.int .i64 (r1 : Int)) (.int .i64 (r2 : Int)) (.int .i64 (r3 : Int)) (.int .i64 (r4 : Int)) (.int .i64 (r5 : Int)) (.int .i64 (r6 : Int)) (.int .i64 (r7 : Int))).trans HC.out
              have hHS := (heap_set9 (w := v5) (g := N17) (j := NW) (by have := HLT.out; omega) (.slice A5 nl k5) (.int .i64 (r0 : Int)) (.int .i64 (r1 : Int)) (.int .i64 (r2 : Int)) (.int .i64 (r3 : Int)) (.int .i64 (r4 : Int)) (.int .i64 (r5 : Int)) (.int .i64 (r6 : Int)) (.int .i64 (r7 : Int))).trans HS.out
              have hHO1 := own_set9 (g := N17) HO1.out (fun j hj e => hne0 (e ▸ hj)) (.slice A5 nl k5) (.int .i64 (r0 : Int)) (.int .i64 (r1 : Int)) (.int .i64 (r2 : Int)) (.int .i64 (r3 : Int)) (.int .i64 (r4 : Int)) (.int .i64 (r5 : Int)) (.int .i64 (r6 : Int)) (.int .i64 (r7 : Int))
              have hHO2 := own_set9 (g := N17) HO2.out (fun j hj e => hne1 (e ▸ hj)) (.slice A5 nl k5) (.int .i64 (r0 : Int)) (.int .i64 (r1 : Int)) (.int .i64 (r2 : Int)) (.int .i64 (r3 : Int)) (.int .i64 (r4 : Int)) (.int .i64 (r5 : Int)) (.int .i64 (r6 : Int)) (.int .i64 (r7 : Int))
              rw [hWF] at hN hD hHC hHS hHO1 hHO2
              unfold set9 at hWF
              rw [hWF]
              clear hWF z0 z1' z2 z3 z4 z5 z6 z7 z8 f0 f1 f2 f3 f4 f5 f6 f7 f8 hne0 hne1
              replace HC : Hid (Held WF W.heap.size 23 #[.int .i64 (H.t : Int), .int .i64 (H.p : Int), .int .i64 (H.s : Int)]) := hidp hHC
              replace HS : Hid (Held WF NW 54 #[.slice A1 nl k1, .int .i64 (r0 : Int), .int .i64 (r1 : Int), .int .i64 (r2 : Int), .int .i64 (r3 : Int), .int .i64 (r4 : Int), .int .i64 (r5 : Int), .int .i64 (r6 : Int), .int .i64 (r7 : Int)]) := hidp hHS
              replace HO1 := hidp hHO1
              replace HO2 := hidp hHO2
              replace HN : Hid (Held WF N17 54 #[.slice A5 nl k5, .int .i64 (r0 : Int), .int .i64 (r1 : Int), .int .i64 (r2 : Int), .int .i64 (r3 : Int), .int .i64 (r4 : Int), .int .i64 (r5 : Int), .int .i64 (r6 : Int), .int .i64 (r7 : Int)]) := hidp hN
              replace HD := hidp hD
              clear hN hD hHC hHS hHO1 hHO2
              refine hK.out _ _ ?_ (fun hHeld => ?_)
              · (try dsimp only)
                first | exact HC.out.three | exact hHeld
              clear hK K
              (try simp only [Act.put, gA, gB, gC, sA, sB, sC])
              refine tkz 9 ?_
              refine wpAnyH_done (by kernel_rfl) ?_ _
              go_wp2_with fail
              go_meet
              case rel => exact ⟨_, _, _, _, rfl, rfl, HN.out, HO2.out, HC.out, HS.out, HO1.out, HD.out⟩
        · skip
          go_simp
          have hb := Bnew (B0 q0) (.cells #[.slice none 0 0, .int .i64 0, .int .i64 0, .int .i64 0, .int .i64 0, .int .i64 0, .int .i64 0, .int .i64 0, .int .i64 0] 54)
          have HN := hidp (Held.new q0 54 #[.slice none 0 0, .int .i64 0, .int .i64 0, .int .i64 0, .int .i64 0, .int .i64 0, .int .i64 0, .int .i64 0, .int .i64 0])
          have HLE := hidp HD.out.bel.size
          have HLT : Hid (W.heap.size < q0.heap.size ∧ NW < q0.heap.size) := hidp ⟨HC.out.lt, HS.out.lt⟩
          have HNA : Hid (¬ A4 q0.heap.size) := hidp (fun x => by have := Ob.lt (vOb z1 b1 n true (wholeK15 vals)) HD.out.i1 _ x; omega)
          replace HC := hidp (HC.out.keep hb)
          replace HS := hidp (HS.out.keep hb)
          replace HO1 := hidp (own_below HO1.out hb)
          replace HD := hidp (HD.out.keep hb)
          clear hb
          generalize hn13 : q0.heap.size = N17 at *
          generalize hw13 : q0.alloc (.cells #[.slice none 0 0, .int .i64 0, .int .i64 0, .int .i64 0, .int .i64 0, .int .i64 0, .int .i64 0, .int .i64 0, .int .i64 0] 54) = v6 at *
          clear hn13 hw13
          refine hK.out _ _ ?_ (fun hHeld => ?_)
          · (try dsimp only)
            first | exact HC.out.three | exact hHeld
          clear hK K
          (try simp only [Act.put, gA, gB, gC, sA, sB, sC])
          refine wpAnyH_ready (rs := [2]) (by kernel_rfl) (by simp) ?_
          refine AllReadyH.cons (o := _) rfl (fun K hK => ?_) AllReadyH.nil
          · skip
            go_simp
            obtain ⟨o9, hI9, _⟩ := HD.out.i1
            refine (vVals_some hn0 (by have := hI9.ok.few; omega) _ hI9).mono ?_
            rintro e v7 ⟨g, cp, rfl, _, hrow, hb⟩
            have HRF := hidp hrow
            clear hI9 hrow
            replace HC := hidp (HC.out.keep hb)
            replace HS := hidp (HS.out.keep hb)
            replace HN := hidp (HN.out.keep hb)
            replace HO1 := hidp (own_below HO1.out hb)
            replace HD := hidp (HD.out.keep hb)
            clear hb
            refine hK.out _ _ ?_ (fun hHeld => ?_)
            · (try dsimp only)
              first | exact HC.out.three | exact hHeld
            clear hK K
            (try simp only [Act.put, gA, gB, gC, sA, sB, sC])
            refine wpAnyH_ready (rs := [3]) (by kernel_rfl) (by simp) ?_
            refine AllReadyH.cons (o := _) rfl (fun K hK => ?_) AllReadyH.nil
            · skip
              go_simp
              refine (HN5.out _ _ _ HRF.out).mono ?_
              rintro e v8 ⟨u2, rfl, hown, hb⟩
              rw [HNL.out] at hown
              obtain ⟨A5, k5, hu2⟩ := own_slice hown
              subst hu2
              have HO2 : Hid (v8.ownsRow 0 64 2 (.slice A5 nl k5) nl (bkVs L)) := hidp (own_lower hown (Nat.zero_le _))
              clear HRF hown
              replace HC := hidp (HC.out.keep hb)
              replace HS := hidp (HS.out.keep hb)
              replace HN := hidp (HN.out.keep hb)
              replace HO1 := hidp (own_below HO1.out hb)
              replace HD := hidp (HD.out.keep hb)
              clear hb
              refine hK.out _ _ ?_ (fun hHeld => ?_)
              · (try dsimp only)
                first | exact HC.out.three | exact hHeld
              clear hK K
              (try simp only [Act.put, gA, gB, gC, sA, sB, sC])
              refine tkz 4 ?_
              refine tkz 5 ?_
              refine tkz 6 ?_
              refine wpAnyH_ready (rs := [8]) (by kernel_rfl) (by simp) ?_
              refine AllReadyH.cons (o := _) rfl (fun K hK => ?_) AllReadyH.nil
              obtain ⟨z0, z1', z2, z3, z4, z5, z6, z7, z8⟩ := HN.out.nine
              obtain ⟨f0, f1, f2, f3, f4, f5, f6, f7, f8⟩ := HN.out.thawed9
              have hne0 := heldOwn_ne HN.out HO1.out (by decide)
              have hne1 := heldOwn_ne HN.out HO2.out (by decide)
              go_simp
              obtain ⟨WF, hWF⟩ : ∃ WF, set9 (v8) N17 (.slice A5 nl k5) (.int .i64 (r0 : Int)) (.int .i64 (r1 : Int)) (.int .i64 (r2 : Int)) (.int .i64 (r3 : Int)) (.int .i64 (r4 : Int)) (.int .i64 (r5 : Int)) (.int .i64 (r6 : Int)) (.int .i64 (r7 : Int)) = WF := ⟨_, rfl⟩
              have hN := HN.out.set9 (.slice A5 nl k5) (.int .i64 (r0 : Int)) (.int .i64 (r1 : Int)) (.int .i64 (r2 : Int)) (.int .i64 (r3 : Int)) (.int .i64 (r4 : Int)) (.int .i64 (r5 : Int)) (.int .i64 (r6 : Int)) (.int .i64 (r7 : Int))
              have hD := HD.out.set9 HNA.out (fun x => x) HLE.out (.slice A5 nl k5) (.int .i64 (r0 : Int)) (.int .i64 (r1 : Int)) (.int .i64 (r2 : Int)) (.int .i64 (r3 : Int)) (.int .i64 (r4 : Int)) (.int .i64 (r5 : Int)) (.int .i64 (r6 : Int)) (.int .i64 (r7 : Int))
              have hHC := (heap_set9 (w := v8) (g := N17) (j := W.heap.size) (by have := HLT.out; omega) (.slice A5 nl k5) (.int .i64 (r0 : Int)) (.int .i64 (r1 : Int)) (.int .i64 (r2 : Int)) (.int .i64 (r3 : Int)) (.int .i64 (r4 : Int)) (.int .i64 (r5 : Int)) (.int .i64 (r6 : Int)) (.int .i64 (r7 : Int))).trans HC.out
              have hHS := (heap_set9 (w := v8) (g := N17) (j := NW) (by have := HLT.out; omega) (.slice A5 nl k5) (.int .i64 (r0 : Int)) (.int .i64 (r1 : Int)) (.int .i64 (r2 : Int)) (.int .i64 (r3 : Int)) (.int .i64 (r4 : Int)) (.int .i64 (r5 : Int)) (.int .i64 (r6 : Int)) (.int .i64 (r7 : Int))).trans HS.out
              have hHO1 := own_set9 (g := N17) HO1.out (fun j hj e => hne0 (e ▸ hj)) (.slice A5 nl k5) (.int .i64 (r0 : Int)) (.int .i64 (r1 : Int)) (.int .i64 (r2 : Int)) (.int .i64 (r3 : Int)) (.int .i64 (r4 : Int)) (.int .i64 (r5 : Int)) (.int .i64 (r6 : Int)) (.int .i64 (r7 : Int))
              have hHO2 := own_set9 (g := N17) HO2.out (fun j hj e => hne1 (e ▸ hj)) (.slice A5 nl k5) (.int .i64 (r0 : Int)) (.int .i64 (r1 : Int)) (.int .i64 (r2 : Int)) (.int .i64 (r3 : Int)) (.int .i64 (r4 : Int)) (.int .i64 (r5 : Int)) (.int .i64 (r6 : Int)) (.int .i64 (r7 : Int))
              rw [hWF] at hN hD hHC hHS hHO1 hHO2
              unfold set9 at hWF
              rw [hWF]
              clear hWF z0 z1' z2 z3 z4 z5 z6 z7 z8 f0 f1 f2 f3 f4 f5 f6 f7 f8 hne0 hne1
              replace HC : Hid (Held WF W.heap.size 23 #[.int .i64 (H.t : Int), .int .i64 (H.p : Int), .int .i64 (H.s : Int)]) := hidp hHC
              replace HS : Hid (Held WF NW 54 #[.slice A1 nl k1, .int .i64 (r0 : Int), .int .i64 (r1 : Int), .int .i64 (r2 : Int), .int .i64 (r3 : Int), .int .i64 (r4 : Int), .int .i64 (r5 : Int), .int .i64 (r6 : Int), .int .i64 (r7 : Int)]) := hidp hHS
              replace HO1 := hidp hHO1
              replace HO2 := hidp hHO2
              replace HN : Hid (Held WF N17 54 #[.slice A5 nl k5, .int .i64 (r0 : Int), .int .i64 (r1 : Int), .int .i64 (r2 : Int), .int .i64 (r3 : Int), .int .i64 (r4 : Int), .int .i64 (r5 : Int), .int .i64 (r6 : Int), .int .i64 (r7 : Int)]) := hidp hN
              replace HD := hidp hD
              clear hN hD hHC hHS hHO1 hHO2
              refine hK.out _ _ ?_ (fun hHeld => ?_)
              · (try dsimp only)
                first | exact HC.out.three | exact hHeld
              clear hK K
              (try simp only [Act.put, gA, gB, gC, sA, sB, sC])
              refine tkz 9 ?_
              refine wpAnyH_done (by kernel_rfl) ?_ _
              go_wp2_with fail
              go_meet
              case rel => exact ⟨_, _, _, _, rfl, rfl, HN.out, HO2.out, HC.out, HS.out, HO1.out, HD.out⟩
      case rest =>
        obtain ⟨N17, k5, A5, A4, rfl, rfl, hN, hO2, hHC, hHS, hHO1, hD⟩ := hcut
        have HNS := hidp hN
        have HO2 := hidp hO2
        replace HC := hidp hHC
        replace HS := hidp hHS
        replace HO1 := hidp hHO1
        replace HD := hidp hD
        clear hN hO2 hHC hHS hHO1 hD
        clear x0 x1 x2
        obtain ⟨x0, x1, x2⟩ := HC.out.three
        have HVZ : Hid (∀ w', Below W.heap.size W w' → w'.cell? (ad.add 0) = some (.int .u32 (z0 : Int)) ∧ w'.cell? ad = some (.int .u32 (z0 : Int))) := hidp (fun w' hw => by
          have h1 := (hv.out.below hw).2 0 hn0
          rw [HZ0.out] at h1
          exact ⟨h1, by rw [add_zero15] at h1; exact h1⟩)
        go_wp2_with fail
        replace HNS := hidp HNS.out.drw
        replace HS := hidp HS.out.drw
        replace HO1 := hidp (own_below HO1.out (Bdrew (B0 _)))
        replace HO2 := hidp (own_below HO2.out (Bdrew (B0 _)))
        replace HD := hidp (HD.out.keep (Bdrew (B0 _)))
        refine wp_region_held_drew (S := (fun w' => (w'.cell? ⟨N17, 0, none⟩ = some (.slice A5 nl k5) ∧ w'.cell? ⟨N17, 1, none⟩ = some (.int .i64 (r0 : Int)) ∧ w'.cell? ⟨N17, 2, none⟩ = some (.int .i64 (r1 : Int)) ∧ w'.cell? ⟨N17, 3, none⟩ = some (.int .i64 (r2 : Int)) ∧ w'.cell? ⟨N17, 4, none⟩ = some (.int .i64 (r3 : Int)) ∧ w'.cell? ⟨N17, 5, none⟩ = some (.int .i64 (r4 : Int)) ∧ w'.cell? ⟨N17, 6, none⟩ = some (.int .i64 (r5 : Int)) ∧ w'.cell? ⟨N17, 7, none⟩ = some (.int .i64 (r6 : Int)) ∧ w'.cell? ⟨N17, 8, none⟩ = some (.int .i64 (r7 : Int))) ∧ (w'.cell? ⟨NW, 0, none⟩ = some (.slice A1 nl k1) ∧ w'.cell? ⟨NW, 1, none⟩ = some (.int .i64 (r0 : Int)) ∧ w'.cell? ⟨NW, 2, none⟩ = some (.int .i64 (r1 : Int)) ∧ w'.cell? ⟨NW, 3, none⟩ = some (.int .i64 (r2 : Int)) ∧ w'.cell? ⟨NW, 4, none⟩ = some (.int .i64 (r3 : Int)) ∧ w'.cell? ⟨NW, 5, none⟩ = some (.int .i64 (r4 : Int)) ∧ w'.cell? ⟨NW, 6, none⟩ = some (.int .i64 (r5 : Int)) ∧ w'.cell? ⟨NW, 7, none⟩ = some (.int .i64 (r6 : Int)) ∧ w'.cell? ⟨NW, 8, none⟩ = some (.int .i64 (r7 : Int))) ∧ w'.cell? (ad.add 0) = some (.int .u32 (z0 : Int)) ∧ w'.cell? ad = some (.int .u32 (z0 : Int)))) (by kernel_rfl) ?_ (fun hHeld => ?_)
        · (try dsimp only)
          first | exact ⟨HNS.out.nine, HS.out.nine, HVZ.out _ HD.out.bel⟩ | exact hHeld
        refine tkz 0 ?_
        refine tkz 1 ?_
        refine tkz 2 ?_
        refine tkz 3 ?_
        refine wpAnyH_ready (rs := [4]) (by kernel_rfl) (by simp) ?_
        refine AllReadyH.cons (o := _) rfl (fun K hK => ?_) AllReadyH.nil
        go_simp
        refine (xSame_c L L A5 A1 nl nl k5 k1 0 0 r0 r1 r2 r3 r4 r5 r6 r7 r0 r1 r2 r3 r4 r5 r6 r7 _ HNL.out HNL.out hnlb2 hnlb2 HO2.out HO1.out true ⟨fun _ => ⟨rfl, rfl⟩, fun _ => rfl⟩).mono ?_
        rintro e w21 ⟨rfl, hb⟩
        replace HNS := hidp (HNS.out.keep hb)
        replace HS := hidp (HS.out.keep hb)
        replace HD := hidp (HD.out.keep hb)
        clear hb
        refine hK.out _ _ ?_ (fun hHeld => ?_)
        · (try dsimp only)
          first | exact ⟨HNS.out.nine, HS.out.nine, HVZ.out _ HD.out.bel⟩ | exact hHeld
        clear hK K
        (try simp only [Act.put, gA, gB, gC, sA, sB, sC])
        refine tkz 5 ?_
        refine tkz 6 ?_
        refine tkz 7 ?_
        refine tkz 11 ?_
        refine tkz 12 ?_
        refine tkz 13 ?_
        refine wpAnyH_ready (rs := [8]) (by kernel_rfl) (by simp) ?_
        refine AllReadyH.cons (o := _) rfl (fun K hK => ?_) AllReadyH.nil
        go_simp
        obtain ⟨o9, hI9, _⟩ := HD.out.i1
        refine (vVals_some hn0 (by have := hI9.ok.few; omega) _ hI9).mono ?_
        rintro e w22 ⟨g, cp, rfl, _, hrow, hb⟩
        have HRF := hidp hrow
        clear hI9 hrow
        replace HNS := hidp (HNS.out.keep hb)
        replace HS := hidp (HS.out.keep hb)
        replace HD := hidp (HD.out.keep hb)
        clear hb
        have hcp := HRF.out.le
        have hcp2 : cp ≤ 9223372036854775807 := HRF.out.max
        refine hK.out _ _ ?_ (fun hHeld => ?_)
        · (try dsimp only)
          first | exact ⟨HNS.out.nine, HS.out.nine, HVZ.out _ HD.out.bel⟩ | exact hHeld
        clear hK K
        (try simp only [Act.put, gA, gB, gC, sA, sB, sC])
        refine tkz 9 ?_
        have c0 : w22.cell? ⟨g, 0, none⟩ = some (.int .u32 (z0 : Int)) := by
          have h1 := HRF.out.cell hn0
          unfold valF at h1
          rw [HZ5.out] at h1
          exact h1
        refine wpAnyH_ready (rs := [10]) (by kernel_rfl) (by simp) ?_
        refine AllReadyH.cons (o := _) rfl (fun K hK => ?_) AllReadyH.nil
        go_simp
        skip
        refine hK.out _ _ ?_ (fun hHeld => ?_)
        · (try dsimp only)
          first | exact ⟨HNS.out.nine, HS.out.nine, HVZ.out _ HD.out.bel⟩ | exact hHeld
        clear hK K
        (try simp only [Act.put, gA, gB, gC, sA, sB, sC])
        refine tkz 14 ?_
        refine tkz 15 ?_
        refine tkz 16 ?_
        refine wpAnyH_ready (rs := [17]) (by kernel_rfl) (by simp) ?_
        refine AllReadyH.cons (o := _) rfl (fun K hK => ?_) AllReadyH.nil
        go_simp
        refine (live15_c _).mono ?_
        rintro e w23 ⟨rfl, hb⟩
        replace HNS := hidp (HNS.out.keep hb)
        replace HS := hidp (HS.out.keep hb)
        replace HD := hidp (HD.out.keep hb)
        clear hb
        refine hK.out _ _ ?_ (fun hHeld => ?_)
        · (try dsimp only)
          first | exact ⟨HNS.out.nine, HS.out.nine, HVZ.out _ HD.out.bel⟩ | exact hHeld
        clear hK K
        (try simp only [Act.put, gA, gB, gC, sA, sB, sC])
        refine tkz 18 ?_
        refine tkz 19 ?_
        refine wpAnyH_done (by kernel_rfl) ?_ _
        have HB := hidp HD.out.bel
        go_wp2
        go_ret
        exact ⟨rfl, HB.out⟩

theorem SpanKeeps_calls (t q s nn : Int) (A : Option Addr) (c : Nat) (vals : List Nat) (hnc : vals.length ≤ c) (hcm : c ≤ maxLen) (h32 : ∀ x ∈ vals, x < 2 ^ 32) (W : World) (HR : Hid (Reads W W.heap.size 1 A vals.length (valVs vals))) :
    Calls Tryz.prog 5 #[.agg #[.int .i64 t, .int .i64 q, .int .i64 s], .slice A vals.length c, .int .i64 nn] W (Keeps W) := by
  by_cases hq : q ≤ 64
  · rcases heap13_or W t q s A c vals hnc hcm h32 HR.out with ⟨m, hX⟩ | ⟨H, ad, m, rfl, rfl, rfl, rfl, hV, HV, hv, hto, hX⟩
    · exact SpanKeeps_no t q s nn A _ c m hq W (hidp hX)
    · have hK : ∀ i, i < vals.length → wholeK15 vals i = some (H.V i) := fun i hi => by
        unfold wholeK15
        rw [hV i, List.getElem?_eq_getElem hi]
        simp [List.getD, List.getElem?_eq_getElem hi]
      rcases find_look HV (told_rules hto) hK nn with ⟨h1, h2⟩ | ⟨p, mm, rfl, h1, h2, h3, h4, h5, h6⟩
      · exact SpanKeeps_none ad _ c m HV nn vals (hidp rfl) (hidp h32) hV (by omega) (told_rules hto) _ (takeI_none (s1 := (findI vals.length (wholeK15 vals) H.t H.p H.s nn freshS).2) (by rw [← h1])) h2 W HR (hidp hv) (hidp hX)
      · exact SpanKeeps_some ad _ c m HV p mm vals (hidp rfl) (hidp h32) hV (by omega) (told_rules hto) _ (by rw [← h1]) h2 h3 h4 h5 h6 W HR (hidp hv) (hidp hX)
  · exact SpanKeeps_few t q s nn A _ c 0 (by omega) W
end Go.Proofs.YtnamlhkccgnbfaaGreat
