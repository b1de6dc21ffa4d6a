/-
  The law SpanJoins: the walk. Written by span/gen_joins.py.
-/
import Derived.Test.YtnamlhkccgnbfaaGreatJ18
namespace Go.Proofs.YtnamlhkccgnbfaaGreat
open Go.ChangeShapes Go.WideShapes Go.ChangeAt Go.RowKit Go.Maps
set_option linter.unusedVariables false
set_option linter.unusedSimpArgs false
set_option maxRecDepth 100000
section
set_option maxHeartbeats 12800000 in
theorem SpanJoins_release {H : AuH} (ad : Addr) (n c m p : Nat) (HV : HeapV H n c) (hp : p < H.p) (hk : H.K p = 2) (vals : List Nat) (HNN : Hid (vals.length = n)) (H32 : Hid (∀ x ∈ vals, x < 2 ^ 32)) (hVK : ∀ i, H.V i = vals.getD i 0) (hq : H.p ≤ 64) (hr : ∀ i, i < 10 → H.rule i) (xx : Int) (hx1 : ¬ (1 ≤ xx ∧ xx < (H.ln p : Int))) (hx2 : ¬ (H.ln p : Int) < xx)
    (W : World) (HR : Hid (Reads W W.heap.size 1 (some ad) n (valVs vals))) (hv : Hid (IsVals W ad n H.V)) (hX : Hid (XCheckIs W H.t H.p H.s (some ad) n c m true)) :
    Calls Tryz.prog 6 #[.agg #[.int .i64 (H.t : Int), .int .i64 (H.p : Int), .int .i64 (H.s : Int)], .slice (some ad) n c, .agg #[.int .i64 (p : Int), .int .i64 xx]] W (Keeps W) := by
  have t2 : decide ((H.p : Int) ≤ (64 : Int)) = true := decide_eq_true (by omega)
  have hnb : n ≤ 6238 := by have := HV.nums; omega
  have hn0 : 0 < n := by have := HV.len; omega
  have hcm : c ≤ maxLen := HV.max
  have hcm2 : c ≤ 9223372036854775807 := hcm
  have hn40 : n < 2 ^ 40 := by omega
  have hq10 : (H.p : Int) ≤ 1024 := by omega
  have hK : ∀ i, i < n → wholeK15 vals i = some (H.V i) := fun i hi => by
    unfold wholeK15
    rw [hVK i, List.getElem?_eq_getElem (by rw [HNN.out]; exact hi)]
    simp [List.getD, List.getElem?_eq_getElem (show i < vals.length by rw [HNN.out]; exact hi)]
  have h32K : ∀ i x, wholeK15 vals i = some x → x < 2 ^ 32 := fun i x h => H32.out x (List.mem_of_getElem? h)
  obtain ⟨LL, hok⟩ := AuH.okL_of (by omega) hr
  have hsp := span_at hok hp (by omega) (by omega)
  have hW1 := Work.of_ok hok HV hK
  obtain ⟨ll, hll⟩ : ∃ ll, H.ln p = ll := ⟨_, rfl⟩
  have hl1 : 1 ≤ ll := by rw [← hll]; exact hsp.2.1
  have hpl : p + ll ≤ H.p := by rw [← hll]; exact hsp.2.2.1
  have hpl2 : p + ll ≤ 1024 := by omega
  have hpl3 : (p : Int) + (ll : Int) ≤ (H.p : Int) := by omega
  have HLL := hidp hll
  have hvf := free_few hok (by omega)
  have hv0 := hvf.2
  obtain ⟨L, hL⟩ : ∃ L, blocksOf H.parts = L := ⟨_, rfl⟩
  obtain ⟨pgn, hpg⟩ : ∃ g : Nat, H.pg = g := ⟨_, rfl⟩
  obtain ⟨fa, hfa⟩ : ∃ f : Int, ((p : Int) + 1) * (pgn : Int) = f := ⟨_, rfl⟩
  have efa : H.first p = fa := by rw [← hfa, ← hpg]; rfl
  obtain ⟨LO, hLO⟩ : ∃ LO, offB fa L = LO := ⟨_, rfl⟩
  obtain ⟨no, hno⟩ : ∃ no, LO.length = no := ⟨_, rfl⟩
  have HOF := hidp hLO
  have HNO := hidp hno
  have hpg2 : pgn = 2 ^ H.s := by rw [← hpg]; rfl
  have hpg3 : pgn ≤ 1048576 := page_few HV hpg2
  have hsh := shift_few HV
  have v1 : IntKind.i64.wrap ((p : Int) + 1) = (p : Int) + 1 := i64_same (by omega) (by omega)
  have hfa2 : 0 ≤ fa ∧ fa ≤ 1075838976 := by
    rw [← hfa]
    have h1 : ((p : Int) + 1) * (pgn : Int) ≤ 1026 * 1048576 := Int.mul_le_mul (by omega) (by omega) (by omega) (by omega)
    exact ⟨Int.mul_nonneg (by omega) (by omega), by omega⟩
  have epg : ((2 : Int) ^ H.s) = (pgn : Int) := by rw [hpg2]; push_cast; rfl
  have v2 : IntKind.i64.wrap (((p : Int) + 1) * 2 ^ H.s) = fa := by rw [epg, hfa]; exact i64_same (by omega) (by omega)
  have v5 : IntKind.i64.wrap (((p : Int) + 1) * (pgn : Int)) = fa := by rw [← epg]; exact v2
  have vs1 := shift_page HV hpg2
  obtain ⟨r0, hr0⟩ : ∃ r, H.V 22 = r := ⟨_, rfl⟩
  obtain ⟨r1, hr1⟩ : ∃ r, H.V 23 = r := ⟨_, rfl⟩
  obtain ⟨r2, hr2⟩ : ∃ r, H.V 24 = r := ⟨_, rfl⟩
  obtain ⟨r3, hr3⟩ : ∃ r, H.V 25 = r := ⟨_, rfl⟩
  obtain ⟨r4, hr4⟩ : ∃ r, H.V 26 = r := ⟨_, rfl⟩
  obtain ⟨r5, hr5⟩ : ∃ r, H.V 27 = r := ⟨_, rfl⟩
  obtain ⟨r6, hr6⟩ : ∃ r, H.V 28 = r := ⟨_, rfl⟩
  obtain ⟨r7, hr7⟩ : ∃ r, H.V 29 = r := ⟨_, rfl⟩
  obtain ⟨nl, hnl⟩ : ∃ nl, L.length = nl := ⟨_, rfl⟩
  have HNL := hidp hnl
  have hnlb : nl ≤ 60000 := by rw [← hnl, ← hL]; exact blocks_few15 HV
  have hnlb2 : nl ≤ 100000 := by omega
  have HRS : Hid (H.V 22 = r0 ∧ H.V 23 = r1 ∧ H.V 24 = r2 ∧ H.V 25 = r3 ∧ H.V 26 = r4 ∧ H.V 27 = r5 ∧ H.V 28 = r6 ∧ H.V 29 = r7 ∧ blocksOf H.parts = L) := hidp ⟨hr0, hr1, hr2, hr3, hr4, hr5, hr6, hr7, hL⟩
  have hnob : no ≤ 100000 := by have := offB_len fa L; rw [hLO, hno, hnl] at this; omega
  obtain ⟨z0, hz0⟩ : ∃ z, H.V 0 = z := ⟨_, rfl⟩
  have HZ0 := hidp hz0
  have hz0b : z0 ≤ 1024 := by rw [← hz0]; exact hv0
  have wz0 : IntKind.i64.wrap (z0 : Int) = (z0 : Int) := i64_same (by omega) (by omega)
  rw [hll] at hx1 hx2
  obtain ⟨s4, hs4⟩ : ∃ s4, releaseS n (wholeK15 vals) H.t H.p H.s p ll freshS = s4 := ⟨_, rfl⟩
  obtain ⟨xv, hxv⟩ : ∃ x, getV n (wholeK15 vals) s4 1 = x := ⟨_, rfl⟩
  obtain ⟨yv, hyv⟩ : ∃ y, sub32 xv 1 = y := ⟨_, rfl⟩
  obtain ⟨sx, hsx⟩ : ∃ sx, putS n (getS n (wholeK15 vals) s4 1) 1 yv = sx := ⟨_, rfl⟩
  have e5 : downS n (wholeK15 vals) (releaseS n (wholeK15 vals) H.t H.p H.s p ll freshS) = sx := by rw [hs4]; unfold downS; rw [hxv, hyv]; exact hsx
  have HY1 : Hid (yv < 2 ^ 32) := hidp (by rw [← hyv]; exact sub32_lt _ _)
  have sa2 : IntKind.u32.wrap ((xv : Int) - 1) = (yv : Int) := by have := wrap_sub32 xv 1; rw [show IntKind.u32.wrap 1 = 1 from rfl, hyv] at this; exact this
  obtain ⟨z5, hz5⟩ : ∃ z, z0 + ll = z := ⟨_, rfl⟩
  have HNOWR : Hid ((∀ j, j < 8 → (H.V (22 + j) : Int) ≠ fa) → ∀ (hok : VOk n sx), (∀ (w : World) (g cp : Nat), RowF w g 58 n cp (valF (nowV (wholeK15 vals) sx.wr)) → Calls Tryz.prog 25 #[.agg #[.int .i64 (H.t : Int), .int .i64 (H.p : Int), .int .i64 (H.s : Int)], .slice (some ⟨g, 0, none⟩) n cp] w fun e w' => ∃ u, e = .returned (.tuple #[.agg #[u, .int .i64 (r0 : Int), .int .i64 (r1 : Int), .int .i64 (r2 : Int), .int .i64 (r3 : Int), .int .i64 (r4 : Int), .int .i64 (r5 : Int), .int .i64 (r6 : Int), .int .i64 (r7 : Int)], .bool true]) ∧ w'.ownsRow w.heap.size 64 2 u LO.length (bkVs LO) ∧ Below w.heap.size w w') ∧ nowV (wholeK15 vals) sx.wr 0 = z5) := hidp (fun hroot hok2 => by
    have T := release_turned HV hok hW1 hp hk hll (fun i hi => by rw [efa]; exact hroot i hi)
    rw [e5, hz0, hz5] at T
    have eLB : blocksOf (nowH H n (wholeK15 vals) sx).parts = LO := by rw [T.blocks, if_neg (by omega), efa, hL, hLO]
    exact ⟨fun w g cp hrow => state_now HV hok2 h32K T.vw T.rules T.roots LO eLB r0 r1 r2 r3 r4 r5 r6 r7 hr0 hr1 hr2 hr3 hr4 hr5 hr6 hr7 w g cp hrow, (now_zero hn0 T.vw).trans T.v0⟩)
  have HRV : Hid (∀ (v0 : Value) (i : Nat), i < 8 → ∃ rv : Nat, H.V (22 + i) = rv ∧ (#[v0, .int .i64 (r0 : Int), .int .i64 (r1 : Int), .int .i64 (r2 : Int), .int .i64 (r3 : Int), .int .i64 (r4 : Int), .int .i64 (r5 : Int), .int .i64 (r6 : Int), .int .i64 (r7 : Int)] : Array Value)[1 + i]? = some (.int .i64 (rv : Int))) := hidp (fun v0 i hi => by
    rcases (by omega : i = 0 ∨ i = 1 ∨ i = 2 ∨ i = 3 ∨ i = 4 ∨ i = 5 ∨ i = 6 ∨ i = 7) with rfl | rfl | rfl | rfl | rfl | rfl | rfl | rfl
    · exact ⟨_, hr0, rfl⟩
    · exact ⟨_, hr1, rfl⟩
    · exact ⟨_, hr2, rfl⟩
    · exact ⟨_, hr3, rfl⟩
    · exact ⟨_, hr4, rfl⟩
    · exact ⟨_, hr5, rfl⟩
    · exact ⟨_, hr6, rfl⟩
    · exact ⟨_, hr7, rfl⟩)
  have HS4 := hidp hs4
  have HX1 := hidp hxv
  have HS5 := hidp hsx
  have HNB := hidp hno
  have hnbb := hnob
  have hz5b : (z5 : Int) = (z0 : Int) + (ll : Int) := by omega
  have w1 : IntKind.i64.wrap ((z0 : Int) + (ll : Int)) = (z0 : Int) + (ll : Int) := i64_same (by omega) (by omega)
  have wz5 : IntKind.i64.wrap (z5 : Int) = (z5 : Int) := i64_same (by omega) (by omega)
  have hzz : ((z5 : Int) == (z0 : Int) + (ll : Int)) = true := by simp; omega
  clear hs4 hxv hyv hsx e5 hz5 hz5b
  clear hok hsp hW1 hll hvf hv0 hL hpg hfa efa hLO hno hpg2 epg hr0 hr1 hr2 hr3 hr4 hr5 hr6 hr7 hnl hz0 hK hVK h32K hr
  have t7 : decide ((ll : Int) < xx) = false := decide_eq_false hx2
  have HC := hidp ((Held.new W 23 #[.int .i64 (H.t : Int), .int .i64 (H.p : Int), .int .i64 (H.s : Int)]).alloc (.cells #[.int .i64 (p : Int), .int .i64 xx] 42))
  have HX := hidp (Held.new2 W (.cells #[.int .i64 (H.t : Int), .int .i64 (H.p : Int), .int .i64 (H.s : Int)] 23) 42 #[.int .i64 (p : Int), .int .i64 xx])
  have HB := hidp (Bnew (Bnew (B0 W) (.cells #[.int .i64 (H.t : Int), .int .i64 (H.p : Int), .int .i64 (H.s : Int)] 23)) (.cells #[.int .i64 (p : Int), .int .i64 xx] 42))
  obtain ⟨x0, x1, x2⟩ := HC.out.three
  obtain ⟨y0, y1⟩ := HX.out.two
  go_enter Tryz.func6, Tryz.ntmps6
  go_wp2_with fail
  refine (few14_c H.t H.p H.s _).mono ?_
  rintro e w1 ⟨rfl, hb⟩
  rw [t2]
  replace HC := hidp (HC.out.keep hb)
  replace HX := hidp (HX.out.keep hb)
  replace HB := hidp (Bgo HB.out hb)
  clear hb
  clear x0 x1 x2 y0 y1
  obtain ⟨x0, x1, x2⟩ := HC.out.three
  obtain ⟨y0, y1⟩ := HX.out.two
  go_wp2_with fail
  refine (xSound_c H.t H.p H.s (some ad) n c m true _ (hX.out.grown HB.out)).mono ?_
  rintro e w2 ⟨rfl, hb⟩
  replace HC := hidp (HC.out.keep hb)
  replace HX := hidp (HX.out.keep hb)
  replace HB := hidp (Bgo HB.out hb)
  clear hb
  clear x0 x1 x2 y0 y1
  obtain ⟨x0, x1, x2⟩ := HC.out.three
  obtain ⟨y0, y1⟩ := HX.out.two
  go_wp2_with fail
  refine (used15_c HV ad hp true (by simpa using hk) _ (hv.out.below HB.out)).mono ?_
  rintro e w2 ⟨rfl, hb⟩
  rw [HLL.out]
  replace HC := hidp (HC.out.keep hb)
  replace HX := hidp (HX.out.keep hb)
  replace HB := hidp (Bgo HB.out hb)
  clear hb x0 x1 x2 y0 y1
  obtain ⟨x0, x1, x2⟩ := HC.out.three
  obtain ⟨y0, y1⟩ := HX.out.two
  go_wp2_with fail
  refine (xState_yes HV ad m _ (hv.out.below HB.out) (hX.out.grown HB.out)).mono ?_
  rintro e w3 ⟨u1, rfl, hown, hb⟩
  obtain ⟨hr0, hr1, hr2, hr3, hr4, hr5, hr6, hr7, hL⟩ := HRS.out
  rw [hr0, hr1, hr2, hr3, hr4, hr5, hr6, hr7]
  rw [hL, HNL.out] at hown
  obtain ⟨A1, k1, hu1⟩ := own_slice hown
  subst hu1
  have HO1 : Hid ((w3.alloc (.cells #[.slice A1 nl k1, .int .i64 (r0 : Int), .int .i64 (r1 : Int), .int .i64 (r2 : Int), .int .i64 (r3 : Int), .int .i64 (r4 : Int), .int .i64 (r5 : Int), .int .i64 (r6 : Int), .int .i64 (r7 : Int)] 54)).ownsRow 0 64 2 (.slice A1 nl k1) nl (bkVs L)) := hidp (own_below (own_lower hown (Nat.zero_le _)) (Bnew (B0 _) _))
  have HS := hidp (Held.new w3 54 #[.slice A1 nl k1, .int .i64 (r0 : Int), .int .i64 (r1 : Int), .int .i64 (r2 : Int), .int .i64 (r3 : Int), .int .i64 (r4 : Int), .int .i64 (r5 : Int), .int .i64 (r6 : Int), .int .i64 (r7 : Int)])
  replace HC := hidp ((HC.out.keep hb).alloc (.cells #[.slice A1 nl k1, .int .i64 (r0 : Int), .int .i64 (r1 : Int), .int .i64 (r2 : Int), .int .i64 (r3 : Int), .int .i64 (r4 : Int), .int .i64 (r5 : Int), .int .i64 (r6 : Int), .int .i64 (r7 : Int)] 54))
  replace HX := hidp ((HX.out.keep hb).alloc (.cells #[.slice A1 nl k1, .int .i64 (r0 : Int), .int .i64 (r1 : Int), .int .i64 (r2 : Int), .int .i64 (r3 : Int), .int .i64 (r4 : Int), .int .i64 (r5 : Int), .int .i64 (r6 : Int), .int .i64 (r7 : Int)] 54))
  replace HB := hidp (Bnew (Bgo HB.out hb) (.cells #[.slice A1 nl k1, .int .i64 (r0 : Int), .int .i64 (r1 : Int), .int .i64 (r2 : Int), .int .i64 (r3 : Int), .int .i64 (r4 : Int), .int .i64 (r5 : Int), .int .i64 (r6 : Int), .int .i64 (r7 : Int)] 54))
  clear hb hown HRS hr0 hr1 hr2 hr3 hr4 hr5 hr6 hr7 hL x0 x1 x2 y0 y1
  go_wp2_with fail
  generalize hN11 : w3.heap.size = NW at *
  generalize hw11 : w3.alloc (.cells #[.slice A1 nl k1, .int .i64 (r0 : Int), .int .i64 (r1 : Int), .int .i64 (r2 : Int), .int .i64 (r3 : Int), .int .i64 (r4 : Int), .int .i64 (r5 : Int), .int .i64 (r6 : Int), .int .i64 (r7 : Int)] 54) = w4 at *
  clear hN11 hw11
  have HRw : Hid (Reads w4 w4.heap.size 1 (some ad) n (valVs vals)) := hidp ((HR.out.below HB.out).more HB.out.size)
  refine (Whole_c (some ad) c vals n HNN.out (by omega) H32.out _ (by
    intro h0
    obtain ⟨ad', e, _, hc⟩ := HRw.out.2 h0
    exact ⟨ad', e, hc⟩)).mono ?_
  rintro e w5 ⟨b1, o1, rfl, hI, hB⟩
  have HZC : Hid (W.heap.size < w4.heap.size) := hidp HC.out.lt
  have HZS : Hid (NW < w4.heap.size) := hidp HS.out.lt
  have HZR : Hid (∀ g, (Value.slice A1 nl k1).ownBlock = some g → g < w4.heap.size) := hidp (fun g e => (HO1.out.lt g e).2)
  have HZHX : Hid (_ < w4.heap.size) := hidp HX.out.lt
  have HD := hidp (duo_made (W := W) (G := fun g => g < w4.heap.size) hI HB.out.size (Bgo HB.out hB) (fun g hg => ⟨Nat.lt_of_lt_of_le hg hB.size, fun x => by have := hI.ge _ x; omega⟩))
  replace HC := hidp (HC.out.keep hB)
  replace HS := hidp (HS.out.keep hB)
  replace HX := hidp (HX.out.keep hB)
  replace HO1 := hidp (own_below HO1.out hB)
  clear hI hB HRw HB
  generalize hz1 : w4.heap.size = z1 at *
  clear hz1
  rw [show (fun i => vals[i]?) = wholeK15 vals from rfl] at HD
  obtain ⟨x0, x1, x2⟩ := HC.out.three
  obtain ⟨y0, y1⟩ := HX.out.two
  go_wp2_with fail
  go_cut [14] from 57 to 63 (fun u14 wx => ∃ (NT k6 : Nat) (A6 : Option Addr) (A4 : Nat → Prop), u14 = .pointer (some ⟨NT, 0, none⟩) ∧ Held wx NT 54 #[.slice A6 no k6, .int .i64 (r0 : Int), .int .i64 (r1 : Int), .int .i64 (r2 : Int), .int .i64 (r3 : Int), .int .i64 (r4 : Int), .int .i64 (r5 : Int), .int .i64 (r6 : Int), .int .i64 (r7 : Int)] ∧ wx.ownsRow 0 64 2 (.slice A6 no k6) no (bkVs LO) ∧ Held wx W.heap.size 23 #[.int .i64 (H.t : Int), .int .i64 (H.p : Int), .int .i64 (H.s : Int)] ∧ Held wx NW 54 #[.slice A1 nl k1, .int .i64 (r0 : Int), .int .i64 (r1 : Int), .int .i64 (r2 : Int), .int .i64 (r3 : Int), .int .i64 (r4 : Int), .int .i64 (r5 : Int), .int .i64 (r6 : Int), .int .i64 (r7 : Int)] ∧ Held wx (W.heap.size + 1) 42 #[.int .i64 (p : Int), .int .i64 xx] ∧ wx.ownsRow 0 64 2 (.slice A1 nl k1) nl (bkVs L) ∧ Duo W (vOb z1 b1 n true (wholeK15 vals)) noOb A4 (fun _ => False) (fun g => g < z1) freshS freshS wx ∧ ¬ A4 NT ∧ (∀ g, (Value.slice A6 no k6).ownBlock = some g → ¬ A4 g) ∧ W.heap.size ≤ NT ∧ (W.heap.size < NT ∧ NW < NT ∧ (W.heap.size + 1) < NT))
  case first =>
    replace HC := hidp HC.out.drw
    replace HS := hidp HS.out.drw
    replace HX := hidp HX.out.drw
    replace HO1 := hidp (own_below HO1.out (Bdrew (B0 _)))
    replace HD := hidp (HD.out.keep (Bdrew (B0 _)))
    refine wp_region_held_drew (S := (fun w' => w'.cell? ⟨NW, 0, none⟩ = some (.slice A1 nl k1) ∧ w'.cell? ⟨NW, 1, none⟩ = some (.int .i64 (r0 : Int)) ∧ w'.cell? ⟨NW, 2, none⟩ = some (.int .i64 (r1 : Int)) ∧ w'.cell? ⟨NW, 3, none⟩ = some (.int .i64 (r2 : Int)) ∧ w'.cell? ⟨NW, 4, none⟩ = some (.int .i64 (r3 : Int)) ∧ w'.cell? ⟨NW, 5, none⟩ = some (.int .i64 (r4 : Int)) ∧ w'.cell? ⟨NW, 6, none⟩ = some (.int .i64 (r5 : Int)) ∧ w'.cell? ⟨NW, 7, none⟩ = some (.int .i64 (r6 : Int)) ∧ w'.cell? ⟨NW, 8, none⟩ = some (.int .i64 (r7 : Int)))) (by kernel_rfl) ?_ (fun hHeld => ?_)
    · (try dsimp only)
      first | exact HS.out.nine | exact hHeld
    generalize hq0 : World.drew w5 = q0 at HC HS HX HO1 HD hHeld ⊢
    clear hq0
    refine tkz 0 ?_
    refine tkz 1 ?_
    refine tkz 2 ?_
    refine tkz 4 ?_
    refine tkz 5 ?_
    obtain ⟨A4, hA4⟩ : ∃ A4, A4 = o1.A b1 := ⟨_, rfl⟩
    rw [← hA4] at HD
    clear hA4
    refine wpAnyH_ready (rs := [3, 7]) (by kernel_rfl) (by simp) ?_
    refine AllReadyH.cons (o := _) rfl (fun K hK => ?_) (AllReadyH.cons (o := _) rfl (fun K hK => ?_) AllReadyH.nil)
    · skip
      go_simp
      refine (without15_c L fa A1 nl k1 0 _ HNL.out hnlb2 HO1.out).mono ?_
      rintro e v1 ⟨u3, rfl, hown, hb⟩
      rw [HOF.out, HNO.out] at hown
      obtain ⟨A6, k6, hu3⟩ := own_slice hown
      subst hu3
      have HNR : Hid (∀ g, (Value.slice A6 no k6).ownBlock = some g → ¬ A4 g) := hidp (fun g e x => by have h1 := Ob.lt (vOb z1 b1 n true (wholeK15 vals)) HD.out.i1 _ x; have h2 := (hown.lt g e).1; omega)
      have HO6 : Hid (v1.ownsRow 0 64 2 (.slice A6 no k6) no (bkVs LO)) := hidp (own_lower hown (Nat.zero_le _))
      clear hown
      replace HC := hidp (HC.out.keep hb)
      replace HS := hidp (HS.out.keep hb)
      replace HX := hidp (HX.out.keep hb)
      replace HO1 := hidp (own_below HO1.out hb)
      replace HD := hidp (HD.out.keep hb)
      clear hb
      refine hK.out _ _ ?_ (fun hHeld => ?_)
      · (try dsimp only)
        first | exact HS.out.nine | exact hHeld
      clear hK K
      (try simp only [Act.put, gA, gB, gC, sA, sB, sC])
      refine tkz 6 ?_
      refine wpAnyH_ready (rs := [7]) (by kernel_rfl) (by simp) ?_
      refine AllReadyH.cons (o := _) rfl (fun K hK => ?_) AllReadyH.nil
      go_simp
      have hb := Bnew (B0 v1) (.cells #[.slice none 0 0, .int .i64 0, .int .i64 0, .int .i64 0, .int .i64 0, .int .i64 0, .int .i64 0, .int .i64 0, .int .i64 0] 54)
      have HN := hidp (Held.new v1 54 #[.slice none 0 0, .int .i64 0, .int .i64 0, .int .i64 0, .int .i64 0, .int .i64 0, .int .i64 0, .int .i64 0, .int .i64 0])
      have HLE := hidp HD.out.bel.size
      have HLT : Hid (W.heap.size < v1.heap.size ∧ NW < v1.heap.size ∧ (W.heap.size + 1) < v1.heap.size) := hidp ⟨HC.out.lt, HS.out.lt, HX.out.lt⟩
      have HNA : Hid (¬ A4 v1.heap.size) := hidp (fun x => by have := Ob.lt (vOb z1 b1 n true (wholeK15 vals)) HD.out.i1 _ x; omega)
      replace HC := hidp (HC.out.keep hb)
      replace HS := hidp (HS.out.keep hb)
      replace HX := hidp (HX.out.keep hb)
      replace HO1 := hidp (own_below HO1.out hb)
      replace HO6 := hidp (own_below HO6.out hb)
      replace HD := hidp (HD.out.keep hb)
      clear hb
      generalize hn13 : v1.heap.size = NT at *
      generalize hw13 : v1.alloc (.cells #[.slice none 0 0, .int .i64 0, .int .i64 0, .int .i64 0, .int .i64 0, .int .i64 0, .int .i64 0, .int .i64 0, .int .i64 0] 54) = v2 at *
      clear hn13 hw13
      refine hK.out _ _ ?_ (fun hHeld => ?_)
      · (try dsimp only)
        first | exact HS.out.nine | exact hHeld
      clear hK K
      (try simp only [Act.put, gA, gB, gC, sA, sB, sC])
      refine wpAnyH_ready (rs := [8]) (by kernel_rfl) (by simp) ?_
      refine AllReadyH.cons (o := _) rfl (fun K hK => ?_) AllReadyH.nil
      obtain ⟨z0, z1', z2, z3, z4, z5', z6, z7, z8⟩ := HN.out.nine
      obtain ⟨f0, f1, f2, f3, f4, f5, f6, f7, f8⟩ := HN.out.thawed9
      go_simp
      obtain ⟨WF, hWF⟩ : ∃ WF, wr9 (v2) NT (.slice A6 no k6) r0 r1 r2 r3 r4 r5 r6 r7 = WF := ⟨_, rfl⟩
      replace HO1 := hidp (own9 hWF (heldOwn_ne HN.out HO1.out (by decide)) HO1.out)
      replace HO6 := hidp (own9 hWF (heldOwn_ne HN.out HO6.out (by decide)) HO6.out)
      replace HC := hidp (far9 hWF (by have := HLT.out; omega) HC.out)
      replace HS := hidp (far9 hWF (by have := HLT.out; omega) HS.out)
      replace HX := hidp (far9 hWF (by have := HLT.out; omega) HX.out)
      replace HD := hidp (duo9 hWF HNA.out (fun x => x) HLE.out HD.out)
      replace HN := hidp (held9 hWF HN.out)
      unfold wr9 set9 at hWF
      rw [hWF]
      clear hWF z0 z1' z2 z3 z4 z5' z6 z7 z8 f0 f1 f2 f3 f4 f5 f6 f7 f8
      refine hK.out _ _ ?_ (fun hHeld => ?_)
      · (try dsimp only)
        first | exact HS.out.nine | exact hHeld
      clear hK K
      (try simp only [Act.put, gA, gB, gC, sA, sB, sC])
      refine wpAnyH_done (by kernel_rfl) ?_ _
      go_wp2_with fail
      go_meet
      case rel => exact ⟨_, _, _, _, rfl, HN.out, HO6.out, HC.out, HS.out, HX.out, HO1.out, HD.out, HNA.out, HNR.out, HLE.out, HLT.out.1, HLT.out.2.1, HLT.out.2.2⟩
    · skip
      go_simp
      have hb := Bnew (B0 q0) (.cells #[.slice none 0 0, .int .i64 0, .int .i64 0, .int .i64 0, .int .i64 0, .int .i64 0, .int .i64 0, .int .i64 0, .int .i64 0] 54)
      have HN := hidp (Held.new q0 54 #[.slice none 0 0, .int .i64 0, .int .i64 0, .int .i64 0, .int .i64 0, .int .i64 0, .int .i64 0, .int .i64 0, .int .i64 0])
      have HLE := hidp HD.out.bel.size
      have HLT : Hid (W.heap.size < q0.heap.size ∧ NW < q0.heap.size ∧ (W.heap.size + 1) < q0.heap.size) := hidp ⟨HC.out.lt, HS.out.lt, HX.out.lt⟩
      have HNA : Hid (¬ A4 q0.heap.size) := hidp (fun x => by have := Ob.lt (vOb z1 b1 n true (wholeK15 vals)) HD.out.i1 _ x; omega)
      replace HC := hidp (HC.out.keep hb)
      replace HS := hidp (HS.out.keep hb)
      replace HX := hidp (HX.out.keep hb)
      replace HO1 := hidp (own_below HO1.out hb)
      replace HD := hidp (HD.out.keep hb)
      clear hb
      generalize hn13 : q0.heap.size = NT at *
      generalize hw13 : q0.alloc (.cells #[.slice none 0 0, .int .i64 0, .int .i64 0, .int .i64 0, .int .i64 0, .int .i64 0, .int .i64 0, .int .i64 0, .int .i64 0] 54) = v3 at *
      clear hn13 hw13
      refine hK.out _ _ ?_ (fun hHeld => ?_)
      · (try dsimp only)
        first | exact HS.out.nine | exact hHeld
      clear hK K
      (try simp only [Act.put, gA, gB, gC, sA, sB, sC])
      refine wpAnyH_ready (rs := [3]) (by kernel_rfl) (by simp) ?_
      refine AllReadyH.cons (o := _) rfl (fun K hK => ?_) AllReadyH.nil
      go_simp
      refine (without15_c L fa A1 nl k1 0 _ HNL.out hnlb2 HO1.out).mono ?_
      rintro e v4 ⟨u3, rfl, hown, hb⟩
      rw [HOF.out, HNO.out] at hown
      obtain ⟨A6, k6, hu3⟩ := own_slice hown
      subst hu3
      have HNR : Hid (∀ g, (Value.slice A6 no k6).ownBlock = some g → ¬ A4 g) := hidp (fun g e x => by have h1 := Ob.lt (vOb z1 b1 n true (wholeK15 vals)) HD.out.i1 _ x; have h2 := (hown.lt g e).1; omega)
      have HO6 : Hid (v4.ownsRow 0 64 2 (.slice A6 no k6) no (bkVs LO)) := hidp (own_lower hown (Nat.zero_le _))
      clear hown
      replace HC := hidp (HC.out.keep hb)
      replace HS := hidp (HS.out.keep hb)
      replace HX := hidp (HX.out.keep hb)
      replace HN := hidp (HN.out.keep hb)
      replace HO1 := hidp (own_below HO1.out hb)
      replace HD := hidp (HD.out.keep hb)
      clear hb
      refine hK.out _ _ ?_ (fun hHeld => ?_)
      · (try dsimp only)
        first | exact HS.out.nine | exact hHeld
      clear hK K
      (try simp only [Act.put, gA, gB, gC, sA, sB, sC])
      refine tkz 6 ?_
      refine wpAnyH_ready (rs := [8]) (by kernel_rfl) (by simp) ?_
      refine AllReadyH.cons (o := _) rfl (fun K hK => ?_) AllReadyH.nil
      obtain ⟨z0, z1', z2, z3, z4, z5', z6, z7, z8⟩ := HN.out.nine
      obtain ⟨f0, f1, f2, f3, f4, f5, f6, f7, f8⟩ := HN.out.thawed9
      go_simp
      obtain ⟨WF, hWF⟩ : ∃ WF, wr9 (v4) NT (.slice A6 no k6) r0 r1 r2 r3 r4 r5 r6 r7 = WF := ⟨_, rfl⟩
      replace HO1 := hidp (own9 hWF (heldOwn_ne HN.out HO1.out (by decide)) HO1.out)
      replace HO6 := hidp (own9 hWF (heldOwn_ne HN.out HO6.out (by decide)) HO6.out)
      replace HC := hidp (far9 hWF (by have := HLT.out; omega) HC.out)
      replace HS := hidp (far9 hWF (by have := HLT.out; omega) HS.out)
      replace HX := hidp (far9 hWF (by have := HLT.out; omega) HX.out)
      replace HD := hidp (duo9 hWF HNA.out (fun x => x) HLE.out HD.out)
      replace HN := hidp (held9 hWF HN.out)
      unfold wr9 set9 at hWF
      rw [hWF]
      clear hWF z0 z1' z2 z3 z4 z5' z6 z7 z8 f0 f1 f2 f3 f4 f5 f6 f7 f8
      refine hK.out _ _ ?_ (fun hHeld => ?_)
      · (try dsimp only)
        first | exact HS.out.nine | exact hHeld
      clear hK K
      (try simp only [Act.put, gA, gB, gC, sA, sB, sC])
      refine wpAnyH_done (by kernel_rfl) ?_ _
      go_wp2_with fail
      go_meet
      case rel => exact ⟨_, _, _, _, rfl, HN.out, HO6.out, HC.out, HS.out, HX.out, HO1.out, HD.out, HNA.out, HNR.out, HLE.out, HLT.out.1, HLT.out.2.1, HLT.out.2.2⟩
  case rest =>
    obtain ⟨NT, k6, A6, A4, rfl, hN, hO6, hHC, hHS, hHX, hHO1, hD, hna, hnr, hle, hlt1, hlt2, hlt3⟩ := hcut
    have HWT := hidp hN
    have HO6 := hidp hO6
    replace HC := hidp hHC
    replace HS := hidp hHS
    replace HX := hidp hHX
    replace HO1 := hidp hHO1
    have haG : ∀ g, (fun g => g < z1 ∨ g = NT ∨ (Value.slice A6 no k6).ownBlock = some g) g → g < wc.heap.size ∧ ¬ A4 g ∧ ¬ False := fun g hg => by
      rcases hg with hg | rfl | hg
      · exact hD.aG g hg
      · exact ⟨hN.lt, hna, fun x => x⟩
      · exact ⟨(hO6.lt g hg).2, hnr g hg, fun x => x⟩
    replace HD : Hid (Duo W (vOb z1 b1 n true (wholeK15 vals)) noOb A4 (fun _ => False) (fun g => g < z1 ∨ g = NT ∨ (Value.slice A6 no k6).ownBlock = some g) freshS freshS wc) := hidp ⟨hD.i1, hD.i2, hD.ab, haG, hD.lo, hD.bel⟩
    clear haG
    have HLE := hidp hle
    have HLT : Hid (W.heap.size < NT ∧ NW < NT ∧ (W.heap.size + 1) < NT) := hidp ⟨hlt1, hlt2, hlt3⟩
    clear hN hO6 hHC hHS hHX hHO1 hD hna hnr hle hlt1 hlt2 hlt3
    clear x0 x1 x2 y0 y1
    obtain ⟨x0, x1, x2⟩ := HC.out.three
    obtain ⟨y0, y1⟩ := HX.out.two
    by_cases c1 : 1 ≤ xx
    · have t5 : decide ((1 : Int) ≤ xx) = true := decide_eq_true c1
      have t6 : decide (xx < (ll : Int)) = false := decide_eq_false (fun h => hx1 ⟨c1, h⟩)
      go_wp2_with fail
      go_loopw [16] (fun u16 wr => ∃ (i : Nat), i ≤ 8 ∧ u16 = .int .i64 (i : Int) ∧ Hid (∀ j, j < i → (H.V (22 + j) : Int) ≠ fa) ∧ wr = wc) (fun u16 _ => 8 - (intOf u16).toNat)
      case atStart => exact ⟨0, by omega, by go_num, hidp (fun j hj => by omega), rfl⟩
      case round =>
        obtain ⟨i, hi, rfl, HRK, hwr⟩ := hrel
        subst hwr
        by_cases hlt : i < 8
        · have t9 : decide ((i : Int) < 8) = true := decide_eq_true (by omega)
          obtain ⟨rv, hrv, hrc⟩ := HRV.out (.slice A1 nl k1) i hlt
          have hci := (HS.out.cell (1 + i)).trans hrc
          by_cases he : (rv : Int) = fa
          · have te : ((rv : Int) == fa) = true := by simpa using he
            have HB := hidp HD.out.bel
            clear he hrv hrc
            go_wp2_with fail
            refine (live15_c _).mono ?_
            rintro e w19 ⟨rfl, hb⟩
            have HBL := hidp (Bgo HB.out hb)
            clear hb
            go_wp2
            go_ret
            exact ⟨rfl, HBL.out⟩
          · have te : ((rv : Int) == fa) = false := by simpa using he
            have HRK2 : Hid (∀ j, j < i + 1 → (H.V (22 + j) : Int) ≠ fa) := hidp (fun j hj => by
              rcases Nat.lt_or_ge j i with h1 | h1
              · exact HRK.out j h1
              · obtain rfl : j = i := by omega
                rw [hrv]
                exact he)
            clear he hrv hrc
            go_wp2_with fail
            go_roundw
            case rel => exact ⟨i + 1, by omega, by go_num, HRK2, by first | rfl | trivial⟩
            case measure => simp [intOf]; omega
        · have t9 : decide ((i : Int) < 8) = false := decide_eq_false (by omega)
          have HRA : Hid (∀ j, j < 8 → (H.V (22 + j) : Int) ≠ fa) := hidp (fun j hj => HRK.out j (by omega))
          go_wp2_with fail
          refine (snRelease_c hn40 hq10 p ll (by omega) (by omega) HD.out.at1).mono ?_
          rintro e w6 ⟨rfl, h1, _⟩
          obtain ⟨A4, h2, h3⟩ := HD.out.left1 h1.left
          rw [HS4.out] at h2
          replace HC := hidp (h3.held (.inl HZC.out) HC.out)
          replace HS := hidp (h3.held (.inl HZS.out) HS.out)
          replace HX := hidp (h3.held (.inl HZHX.out) HX.out)
          replace HO1 := hidp (h3.own (fun g e => .inl (HZR.out g e)) HO1.out)
          replace HWT := hidp (h3.held (.inr (.inl rfl)) HWT.out)
          replace HO6 := hidp (h3.own (fun g e => .inr (.inr e)) HO6.out)
          replace HD := hidp h2
          clear h1 h2 h3 x0 x1 x2 y0 y1
          obtain ⟨x0, x1, x2⟩ := HC.out.three
          obtain ⟨y0, y1⟩ := HX.out.two
          go_wp2_with fail
          refine (vGetA hn40 1 HD.out.at1).mono ?_
          rintro e w6 ⟨rfl, h1, _⟩
          obtain ⟨A4, h2, h3⟩ := HD.out.left1 h1.left
          rw [HX1.out]
          replace HC := hidp (h3.held (.inl HZC.out) HC.out)
          replace HS := hidp (h3.held (.inl HZS.out) HS.out)
          replace HX := hidp (h3.held (.inl HZHX.out) HX.out)
          replace HO1 := hidp (h3.own (fun g e => .inl (HZR.out g e)) HO1.out)
          replace HWT := hidp (h3.held (.inr (.inl rfl)) HWT.out)
          replace HO6 := hidp (h3.own (fun g e => .inr (.inr e)) HO6.out)
          replace HD := hidp h2
          clear h1 h2 h3 x0 x1 x2 y0 y1
          obtain ⟨x0, x1, x2⟩ := HC.out.three
          obtain ⟨y0, y1⟩ := HX.out.two
          go_wp2_with fail
          refine (vPutA hn40 1 yv HY1.out HD.out.at1).mono ?_
          rintro e w6 ⟨rfl, h1, _⟩
          obtain ⟨A4, h2, h3⟩ := HD.out.left1 h1.left
          rw [HS5.out] at h2
          replace HC := hidp (h3.held (.inl HZC.out) HC.out)
          replace HS := hidp (h3.held (.inl HZS.out) HS.out)
          replace HX := hidp (h3.held (.inl HZHX.out) HX.out)
          replace HO1 := hidp (h3.own (fun g e => .inl (HZR.out g e)) HO1.out)
          replace HWT := hidp (h3.held (.inr (.inl rfl)) HWT.out)
          replace HO6 := hidp (h3.own (fun g e => .inr (.inr e)) HO6.out)
          replace HD := hidp h2
          clear h1 h2 h3 x0 x1 x2 y0 y1
          obtain ⟨x0, x1, x2⟩ := HC.out.three
          obtain ⟨y0, y1⟩ := HX.out.two
          have HOKX : Hid (VOk n sx) := hidp (by obtain ⟨o, hI, _⟩ := HD.out.i1; exact hI.ok)
          have HN5 := hidp (HNOWR.out HRA.out HOKX.out).1
          have HZ5 := hidp (HNOWR.out HRA.out HOKX.out).2
          clear HS HX HO1 y0 y1
          go_wp2_with fail
          go_cut [17, 18] from 140 to 146 (fun u17 u18 wx => ∃ (N17 k5 : Nat) (A5 : Option Addr) (A4 : Nat → Prop), u17 = .pointer (some ⟨N17, 0, none⟩) ∧ u18 = .bool true ∧ Held wx N17 54 #[.slice A5 no k5, .int .i64 (r0 : Int), .int .i64 (r1 : Int), .int .i64 (r2 : Int), .int .i64 (r3 : Int), .int .i64 (r4 : Int), .int .i64 (r5 : Int), .int .i64 (r6 : Int), .int .i64 (r7 : Int)] ∧ wx.ownsRow 0 64 2 (.slice A5 no k5) no (bkVs LO) ∧ Held wx W.heap.size 23 #[.int .i64 (H.t : Int), .int .i64 (H.p : Int), .int .i64 (H.s : Int)] ∧ Held wx NT 54 #[.slice A6 no k6, .int .i64 (r0 : Int), .int .i64 (r1 : Int), .int .i64 (r2 : Int), .int .i64 (r3 : Int), .int .i64 (r4 : Int), .int .i64 (r5 : Int), .int .i64 (r6 : Int), .int .i64 (r7 : Int)] ∧ wx.ownsRow 0 64 2 (.slice A6 no k6) no (bkVs LO) ∧ Duo W (vOb z1 b1 n true (wholeK15 vals)) noOb A4 (fun _ => False) (fun g => g < z1 ∨ g = NT ∨ (Value.slice A6 no k6).ownBlock = some g) sx freshS wx)
          case first =>
            replace HC := hidp HC.out.drw
            replace HWT := hidp HWT.out.drw
            replace HO6 := hidp (own_below HO6.out (Bdrew (B0 _)))
            replace HD := hidp (HD.out.keep (Bdrew (B0 _)))
            refine wp_region_held_drew (S := (fun w' => w'.cell? ⟨W.heap.size, 0, none⟩ = some (.int .i64 (H.t : Int)) ∧ w'.cell? ⟨W.heap.size, 1, none⟩ = some (.int .i64 (H.p : Int)) ∧ w'.cell? ⟨W.heap.size, 2, none⟩ = some (.int .i64 (H.s : Int)))) (by kernel_rfl) ?_ (fun hHeld => ?_)
            · (try dsimp only)
              first | exact HC.out.three | exact hHeld
            generalize hq0 : World.drew w6 = q0 at HC HWT HO6 HD hHeld ⊢
            clear hq0
            refine tkz 0 ?_
            refine tkz 1 ?_
            refine wpAnyH_ready (rs := [2, 7]) (by kernel_rfl) (by simp) ?_
            refine AllReadyH.cons (o := _) rfl (fun K hK => ?_) (AllReadyH.cons (o := _) rfl (fun K hK => ?_) AllReadyH.nil)
            · skip
              go_simp
              obtain ⟨o9, hI9, _⟩ := HD.out.i1
              refine (vVals_some hn0 (by have := hI9.ok.few; omega) _ hI9).mono ?_
              rintro e v1 ⟨g, cp, rfl, _, hrow, hb⟩
              have HRF := hidp hrow
              clear hI9 hrow
              replace HC := hidp (HC.out.keep hb)
              replace HWT := hidp (HWT.out.keep hb)
              replace HO6 := hidp (own_below HO6.out hb)
              replace HD := hidp (HD.out.keep hb)
              clear hb
              refine hK.out _ _ ?_ (fun hHeld => ?_)
              · (try dsimp only)
                first | exact HC.out.three | exact hHeld
              clear hK K
              (try simp only [Act.put, gA, gB, gC, sA, sB, sC])
              refine wpAnyH_ready (rs := [3, 7]) (by kernel_rfl) (by simp) ?_
              refine AllReadyH.cons (o := _) rfl (fun K hK => ?_) (AllReadyH.cons (o := _) rfl (fun K hK => ?_) AllReadyH.nil)
              · skip
                go_simp
                refine (HN5.out _ _ _ HRF.out).mono ?_
                rintro e v2 ⟨u2, rfl, hown, hb⟩
                rw [HNB.out] at hown
                obtain ⟨A5, k5, hu2⟩ := own_slice hown
                subst hu2
                have HO2 : Hid (v2.ownsRow 0 64 2 (.slice A5 no k5) no (bkVs LO)) := hidp (own_lower hown (Nat.zero_le _))
                clear HRF hown
                replace HC := hidp (HC.out.keep hb)
                replace HWT := hidp (HWT.out.keep hb)
                replace HO6 := hidp (own_below HO6.out hb)
                replace HD := hidp (HD.out.keep hb)
                clear hb
                refine hK.out _ _ ?_ (fun hHeld => ?_)
                · (try dsimp only)
                  first | exact HC.out.three | exact hHeld
                clear hK K
                (try simp only [Act.put, gA, gB, gC, sA, sB, sC])
                refine tkz 4 ?_
                refine tkz 5 ?_
                refine tkz 6 ?_
                refine wpAnyH_ready (rs := [7]) (by kernel_rfl) (by simp) ?_
                refine AllReadyH.cons (o := _) rfl (fun K hK => ?_) AllReadyH.nil
                · skip
                  go_simp
                  have hb := Bnew (B0 v2) (.cells #[.slice none 0 0, .int .i64 0, .int .i64 0, .int .i64 0, .int .i64 0, .int .i64 0, .int .i64 0, .int .i64 0, .int .i64 0] 54)
                  have HN := hidp (Held.new v2 54 #[.slice none 0 0, .int .i64 0, .int .i64 0, .int .i64 0, .int .i64 0, .int .i64 0, .int .i64 0, .int .i64 0, .int .i64 0])
                  have HLE := hidp HD.out.bel.size
                  have HLT : Hid (W.heap.size < v2.heap.size ∧ NT < v2.heap.size) := hidp ⟨HC.out.lt, HWT.out.lt⟩
                  have HNA : Hid (¬ A4 v2.heap.size) := hidp (fun x => by have := Ob.lt (vOb z1 b1 n true (wholeK15 vals)) HD.out.i1 _ x; omega)
                  replace HC := hidp (HC.out.keep hb)
                  replace HWT := hidp (HWT.out.keep hb)
                  replace HO6 := hidp (own_below HO6.out hb)
                  replace HO2 := hidp (own_below HO2.out hb)
                  replace HD := hidp (HD.out.keep hb)
                  clear hb
                  generalize hn13 : v2.heap.size = N17 at *
                  generalize hw13 : v2.alloc (.cells #[.slice none 0 0, .int .i64 0, .int .i64 0, .int .i64 0, .int .i64 0, .int .i64 0, .int .i64 0, .int .i64 0, .int .i64 0] 54) = v3 at *
                  clear hn13 hw13
                  refine hK.out _ _ ?_ (fun hHeld => ?_)
                  · (try dsimp only)
                    first | exact HC.out.three | exact hHeld
                  clear hK K
                  (try simp only [Act.put, gA, gB, gC, sA, sB, sC])
                  refine wpAnyH_ready (rs := [8]) (by kernel_rfl) (by simp) ?_
                  refine AllReadyH.cons (o := _) rfl (fun K hK => ?_) AllReadyH.nil
                  obtain ⟨z0, z1', z2, z3, z4, z5', z6, z7, z8⟩ := HN.out.nine
                  obtain ⟨f0, f1, f2, f3, f4, f5, f6, f7, f8⟩ := HN.out.thawed9
                  go_simp
                  obtain ⟨WF, hWF⟩ : ∃ WF, wr9 (v3) N17 (.slice A5 no k5) r0 r1 r2 r3 r4 r5 r6 r7 = WF := ⟨_, rfl⟩
                  replace HO6 := hidp (own9 hWF (heldOwn_ne HN.out HO6.out (by decide)) HO6.out)
                  replace HO2 := hidp (own9 hWF (heldOwn_ne HN.out HO2.out (by decide)) HO2.out)
                  replace HC := hidp (far9 hWF (by have := HLT.out; omega) HC.out)
                  replace HWT := hidp (far9 hWF (by have := HLT.out; omega) HWT.out)
                  replace HD := hidp (duo9 hWF HNA.out (fun x => x) HLE.out HD.out)
                  replace HN := hidp (held9 hWF HN.out)
                  unfold wr9 set9 at hWF
                  rw [hWF]
                  clear hWF z0 z1' z2 z3 z4 z5' z6 z7 z8 f0 f1 f2 f3 f4 f5 f6 f7 f8
                  refine hK.out _ _ ?_ (fun hHeld => ?_)
                  · (try dsimp only)
                    first | exact HC.out.three | exact hHeld
                  clear hK K
                  (try simp only [Act.put, gA, gB, gC, sA, sB, sC])
                  refine tkz 9 ?_
                  refine wpAnyH_done (by kernel_rfl) ?_ _
                  go_wp2_with fail
                  go_meet
                  case rel => exact ⟨_, _, _, _, rfl, rfl, HN.out, HO2.out, HC.out, HWT.out, HO6.out, HD.out⟩
              · skip
                go_simp
                have hb := Bnew (B0 v1) (.cells #[.slice none 0 0, .int .i64 0, .int .i64 0, .int .i64 0, .int .i64 0, .int .i64 0, .int .i64 0, .int .i64 0, .int .i64 0] 54)
                have HN := hidp (Held.new v1 54 #[.slice none 0 0, .int .i64 0, .int .i64 0, .int .i64 0, .int .i64 0, .int .i64 0, .int .i64 0, .int .i64 0, .int .i64 0])
                have HLE := hidp HD.out.bel.size
                have HLT : Hid (W.heap.size < v1.heap.size ∧ NT < v1.heap.size) := hidp ⟨HC.out.lt, HWT.out.lt⟩
                have HNA : Hid (¬ A4 v1.heap.size) := hidp (fun x => by have := Ob.lt (vOb z1 b1 n true (wholeK15 vals)) HD.out.i1 _ x; omega)
                replace HC := hidp (HC.out.keep hb)
                replace HWT := hidp (HWT.out.keep hb)
                replace HO6 := hidp (own_below HO6.out hb)
                replace HD := hidp (HD.out.keep hb)
                replace HRF := hidp (HRF.out.keep hb)
                clear hb
                generalize hn13 : v1.heap.size = N17 at *
                generalize hw13 : v1.alloc (.cells #[.slice none 0 0, .int .i64 0, .int .i64 0, .int .i64 0, .int .i64 0, .int .i64 0, .int .i64 0, .int .i64 0, .int .i64 0] 54) = v4 at *
                clear hn13 hw13
                refine hK.out _ _ ?_ (fun hHeld => ?_)
                · (try dsimp only)
                  first | exact HC.out.three | exact hHeld
                clear hK K
                (try simp only [Act.put, gA, gB, gC, sA, sB, sC])
                refine wpAnyH_ready (rs := [3]) (by kernel_rfl) (by simp) ?_
                refine AllReadyH.cons (o := _) rfl (fun K hK => ?_) AllReadyH.nil
                · skip
                  go_simp
                  refine (HN5.out _ _ _ HRF.out).mono ?_
                  rintro e v5 ⟨u2, rfl, hown, hb⟩
                  rw [HNB.out] at hown
                  obtain ⟨A5, k5, hu2⟩ := own_slice hown
                  subst hu2
                  have HO2 : Hid (v5.ownsRow 0 64 2 (.slice A5 no k5) no (bkVs LO)) := hidp (own_lower hown (Nat.zero_le _))
                  clear HRF hown
                  replace HC := hidp (HC.out.keep hb)
                  replace HWT := hidp (HWT.out.keep hb)
                  replace HN := hidp (HN.out.keep hb)
                  replace HO6 := hidp (own_below HO6.out hb)
                  replace HD := hidp (HD.out.keep hb)
                  clear hb
                  refine hK.out _ _ ?_ (fun hHeld => ?_)
                  · (try dsimp only)
                    first | exact HC.out.three | exact hHeld
                  clear hK K
                  (try simp only [Act.put, gA, gB, gC, sA, sB, sC])
                  refine tkz 4 ?_
                  refine tkz 5 ?_
                  refine tkz 6 ?_
                  refine wpAnyH_ready (rs := [8]) (by kernel_rfl) (by simp) ?_
                  refine AllReadyH.cons (o := _) rfl (fun K hK => ?_) AllReadyH.nil
                  obtain ⟨z0, z1', z2, z3, z4, z5', z6, z7, z8⟩ := HN.out.nine
                  obtain ⟨f0, f1, f2, f3, f4, f5, f6, f7, f8⟩ := HN.out.thawed9
                  go_simp
                  obtain ⟨WF, hWF⟩ : ∃ WF, wr9 (v5) N17 (.slice A5 no k5) r0 r1 r2 r3 r4 r5 r6 r7 = WF := ⟨_, rfl⟩
                  replace HO6 := hidp (own9 hWF (heldOwn_ne HN.out HO6.out (by decide)) HO6.out)
                  replace HO2 := hidp (own9 hWF (heldOwn_ne HN.out HO2.out (by decide)) HO2.out)
                  replace HC := hidp (far9 hWF (by have := HLT.out; omega) HC.out)
                  replace HWT := hidp (far9 hWF (by have := HLT.out; omega) HWT.out)
                  replace HD := hidp (duo9 hWF HNA.out (fun x => x) HLE.out HD.out)
                  replace HN := hidp (held9 hWF HN.out)
                  unfold wr9 set9 at hWF
                  rw [hWF]
                  clear hWF z0 z1' z2 z3 z4 z5' z6 z7 z8 f0 f1 f2 f3 f4 f5 f6 f7 f8
                  refine hK.out _ _ ?_ (fun hHeld => ?_)
                  · (try dsimp only)
                    first | exact HC.out.three | exact hHeld
                  clear hK K
                  (try simp only [Act.put, gA, gB, gC, sA, sB, sC])
                  refine tkz 9 ?_
                  refine wpAnyH_done (by kernel_rfl) ?_ _
                  go_wp2_with fail
                  go_meet
                  case rel => exact ⟨_, _, _, _, rfl, rfl, HN.out, HO2.out, HC.out, HWT.out, HO6.out, HD.out⟩
            · skip
              go_simp
              have hb := Bnew (B0 q0) (.cells #[.slice none 0 0, .int .i64 0, .int .i64 0, .int .i64 0, .int .i64 0, .int .i64 0, .int .i64 0, .int .i64 0, .int .i64 0] 54)
              have HN := hidp (Held.new q0 54 #[.slice none 0 0, .int .i64 0, .int .i64 0, .int .i64 0, .int .i64 0, .int .i64 0, .int .i64 0, .int .i64 0, .int .i64 0])
              have HLE := hidp HD.out.bel.size
              have HLT : Hid (W.heap.size < q0.heap.size ∧ NT < q0.heap.size) := hidp ⟨HC.out.lt, HWT.out.lt⟩
              have HNA : Hid (¬ A4 q0.heap.size) := hidp (fun x => by have := Ob.lt (vOb z1 b1 n true (wholeK15 vals)) HD.out.i1 _ x; omega)
              replace HC := hidp (HC.out.keep hb)
              replace HWT := hidp (HWT.out.keep hb)
              replace HO6 := hidp (own_below HO6.out hb)
              replace HD := hidp (HD.out.keep hb)
              clear hb
              generalize hn13 : q0.heap.size = N17 at *
              generalize hw13 : q0.alloc (.cells #[.slice none 0 0, .int .i64 0, .int .i64 0, .int .i64 0, .int .i64 0, .int .i64 0, .int .i64 0, .int .i64 0, .int .i64 0] 54) = v6 at *
              clear hn13 hw13
              refine hK.out _ _ ?_ (fun hHeld => ?_)
              · (try dsimp only)
                first | exact HC.out.three | exact hHeld
              clear hK K
              (try simp only [Act.put, gA, gB, gC, sA, sB, sC])
              refine wpAnyH_ready (rs := [2]) (by kernel_rfl) (by simp) ?_
              refine AllReadyH.cons (o := _) rfl (fun K hK => ?_) AllReadyH.nil
              · skip
                go_simp
                obtain ⟨o9, hI9, _⟩ := HD.out.i1
                refine (vVals_some hn0 (by have := hI9.ok.few; omega) _ hI9).mono ?_
                rintro e v7 ⟨g, cp, rfl, _, hrow, hb⟩
                have HRF := hidp hrow
                clear hI9 hrow
                replace HC := hidp (HC.out.keep hb)
                replace HWT := hidp (HWT.out.keep hb)
                replace HN := hidp (HN.out.keep hb)
                replace HO6 := hidp (own_below HO6.out hb)
                replace HD := hidp (HD.out.keep hb)
                clear hb
                refine hK.out _ _ ?_ (fun hHeld => ?_)
                · (try dsimp only)
                  first | exact HC.out.three | exact hHeld
                clear hK K
                (try simp only [Act.put, gA, gB, gC, sA, sB, sC])
                refine wpAnyH_ready (rs := [3]) (by kernel_rfl) (by simp) ?_
                refine AllReadyH.cons (o := _) rfl (fun K hK => ?_) AllReadyH.nil
                · skip
                  go_simp
                  refine (HN5.out _ _ _ HRF.out).mono ?_
                  rintro e v8 ⟨u2, rfl, hown, hb⟩
                  rw [HNB.out] at hown
                  obtain ⟨A5, k5, hu2⟩ := own_slice hown
                  subst hu2
                  have HO2 : Hid (v8.ownsRow 0 64 2 (.slice A5 no k5) no (bkVs LO)) := hidp (own_lower hown (Nat.zero_le _))
                  clear HRF hown
                  replace HC := hidp (HC.out.keep hb)
                  replace HWT := hidp (HWT.out.keep hb)
                  replace HN := hidp (HN.out.keep hb)
                  replace HO6 := hidp (own_below HO6.out hb)
                  replace HD := hidp (HD.out.keep hb)
                  clear hb
                  refine hK.out _ _ ?_ (fun hHeld => ?_)
                  · (try dsimp only)
                    first | exact HC.out.three | exact hHeld
                  clear hK K
                  (try simp only [Act.put, gA, gB, gC, sA, sB, sC])
                  refine tkz 4 ?_
                  refine tkz 5 ?_
                  refine tkz 6 ?_
                  refine wpAnyH_ready (rs := [8]) (by kernel_rfl) (by simp) ?_
                  refine AllReadyH.cons (o := _) rfl (fun K hK => ?_) AllReadyH.nil
                  obtain ⟨z0, z1', z2, z3, z4, z5', z6, z7, z8⟩ := HN.out.nine
                  obtain ⟨f0, f1, f2, f3, f4, f5, f6, f7, f8⟩ := HN.out.thawed9
                  go_simp
                  obtain ⟨WF, hWF⟩ : ∃ WF, wr9 (v8) N17 (.slice A5 no k5) r0 r1 r2 r3 r4 r5 r6 r7 = WF := ⟨_, rfl⟩
                  replace HO6 := hidp (own9 hWF (heldOwn_ne HN.out HO6.out (by decide)) HO6.out)
                  replace HO2 := hidp (own9 hWF (heldOwn_ne HN.out HO2.out (by decide)) HO2.out)
                  replace HC := hidp (far9 hWF (by have := HLT.out; omega) HC.out)
                  replace HWT := hidp (far9 hWF (by have := HLT.out; omega) HWT.out)
                  replace HD := hidp (duo9 hWF HNA.out (fun x => x) HLE.out HD.out)
                  replace HN := hidp (held9 hWF HN.out)
                  unfold wr9 set9 at hWF
                  rw [hWF]
                  clear hWF z0 z1' z2 z3 z4 z5' z6 z7 z8 f0 f1 f2 f3 f4 f5 f6 f7 f8
                  refine hK.out _ _ ?_ (fun hHeld => ?_)
                  · (try dsimp only)
                    first | exact HC.out.three | exact hHeld
                  clear hK K
                  (try simp only [Act.put, gA, gB, gC, sA, sB, sC])
                  refine tkz 9 ?_
                  refine wpAnyH_done (by kernel_rfl) ?_ _
                  go_wp2_with fail
                  go_meet
                  case rel => exact ⟨_, _, _, _, rfl, rfl, HN.out, HO2.out, HC.out, HWT.out, HO6.out, HD.out⟩
          case rest =>
            obtain ⟨N17, k5, A5, A4, rfl, rfl, hN, hO2, hHC, hHWT, hHO6, hD⟩ := hcut
            have HNS := hidp hN
            have HO2 := hidp hO2
            replace HC := hidp hHC
            replace HWT := hidp hHWT
            replace HO6 := hidp hHO6
            replace HD := hidp hD
            clear hN hO2 hHC hHWT hHO6 hD
            clear x0 x1 x2
            obtain ⟨x0, x1, x2⟩ := HC.out.three
            have HVZ : Hid (∀ w', Below W.heap.size W w' → w'.cell? (ad.add 0) = some (.int .u32 (z0 : Int)) ∧ w'.cell? ad = some (.int .u32 (z0 : Int))) := hidp (fun w' hw => by
              have h1 := (hv.out.below hw).2 0 hn0
              rw [HZ0.out] at h1
              exact ⟨h1, by rw [add_zero15] at h1; exact h1⟩)
            go_wp2_with fail
            replace HNS := hidp HNS.out.drw
            replace HWT := hidp HWT.out.drw
            replace HO6 := hidp (own_below HO6.out (Bdrew (B0 _)))
            replace HO2 := hidp (own_below HO2.out (Bdrew (B0 _)))
            replace HD := hidp (HD.out.keep (Bdrew (B0 _)))
            refine wp_region_held_drew (S := (fun w' => (w'.cell? ⟨N17, 0, none⟩ = some (.slice A5 no k5) ∧ w'.cell? ⟨N17, 1, none⟩ = some (.int .i64 (r0 : Int)) ∧ w'.cell? ⟨N17, 2, none⟩ = some (.int .i64 (r1 : Int)) ∧ w'.cell? ⟨N17, 3, none⟩ = some (.int .i64 (r2 : Int)) ∧ w'.cell? ⟨N17, 4, none⟩ = some (.int .i64 (r3 : Int)) ∧ w'.cell? ⟨N17, 5, none⟩ = some (.int .i64 (r4 : Int)) ∧ w'.cell? ⟨N17, 6, none⟩ = some (.int .i64 (r5 : Int)) ∧ w'.cell? ⟨N17, 7, none⟩ = some (.int .i64 (r6 : Int)) ∧ w'.cell? ⟨N17, 8, none⟩ = some (.int .i64 (r7 : Int))) ∧ (w'.cell? ⟨NT, 0, none⟩ = some (.slice A6 no k6) ∧ w'.cell? ⟨NT, 1, none⟩ = some (.int .i64 (r0 : Int)) ∧ w'.cell? ⟨NT, 2, none⟩ = some (.int .i64 (r1 : Int)) ∧ w'.cell? ⟨NT, 3, none⟩ = some (.int .i64 (r2 : Int)) ∧ w'.cell? ⟨NT, 4, none⟩ = some (.int .i64 (r3 : Int)) ∧ w'.cell? ⟨NT, 5, none⟩ = some (.int .i64 (r4 : Int)) ∧ w'.cell? ⟨NT, 6, none⟩ = some (.int .i64 (r5 : Int)) ∧ w'.cell? ⟨NT, 7, none⟩ = some (.int .i64 (r6 : Int)) ∧ w'.cell? ⟨NT, 8, none⟩ = some (.int .i64 (r7 : Int))) ∧ w'.cell? (ad.add 0) = some (.int .u32 (z0 : Int)) ∧ w'.cell? ad = some (.int .u32 (z0 : Int)))) (by kernel_rfl) ?_ (fun hHeld => ?_)
            · (try dsimp only)
              first | exact ⟨HNS.out.nine, HWT.out.nine, HVZ.out _ HD.out.bel⟩ | exact hHeld
            refine tkz 0 ?_
            refine tkz 1 ?_
            refine tkz 2 ?_
            refine tkz 3 ?_
            refine wpAnyH_ready (rs := [4]) (by kernel_rfl) (by simp) ?_
            refine AllReadyH.cons (o := _) rfl (fun K hK => ?_) AllReadyH.nil
            go_simp
            refine (xSame_c LO LO A5 A6 no no k5 k6 0 0 r0 r1 r2 r3 r4 r5 r6 r7 r0 r1 r2 r3 r4 r5 r6 r7 _ HNB.out HNB.out hnbb hnbb HO2.out HO6.out true ⟨fun _ => ⟨rfl, rfl⟩, fun _ => rfl⟩).mono ?_
            rintro e w21 ⟨rfl, hb⟩
            replace HNS := hidp (HNS.out.keep hb)
            replace HWT := hidp (HWT.out.keep hb)
            replace HD := hidp (HD.out.keep hb)
            clear hb
            refine hK.out _ _ ?_ (fun hHeld => ?_)
            · (try dsimp only)
              first | exact ⟨HNS.out.nine, HWT.out.nine, HVZ.out _ HD.out.bel⟩ | exact hHeld
            clear hK K
            (try simp only [Act.put, gA, gB, gC, sA, sB, sC])
            refine tkz 5 ?_
            refine tkz 6 ?_
            refine tkz 7 ?_
            refine tkz 12 ?_
            refine tkz 13 ?_
            refine tkz 14 ?_
            refine tkz 15 ?_
            refine tkz 16 ?_
            refine tkz 17 ?_
            refine tkz 18 ?_
            refine tkz 19 ?_
            refine wpAnyH_ready (rs := [8]) (by kernel_rfl) (by simp) ?_
            refine AllReadyH.cons (o := _) rfl (fun K hK => ?_) AllReadyH.nil
            go_simp
            obtain ⟨o9, hI9, _⟩ := HD.out.i1
            refine (vVals_some hn0 (by have := hI9.ok.few; omega) _ hI9).mono ?_
            rintro e w22 ⟨g, cp, rfl, _, hrow, hb⟩
            have HRF := hidp hrow
            clear hI9 hrow
            replace HNS := hidp (HNS.out.keep hb)
            replace HWT := hidp (HWT.out.keep hb)
            replace HD := hidp (HD.out.keep hb)
            clear hb
            have hcp := HRF.out.le
            have hcp2 : cp ≤ 9223372036854775807 := HRF.out.max
            refine hK.out _ _ ?_ (fun hHeld => ?_)
            · (try dsimp only)
              first | exact ⟨HNS.out.nine, HWT.out.nine, HVZ.out _ HD.out.bel⟩ | exact hHeld
            clear hK K
            (try simp only [Act.put, gA, gB, gC, sA, sB, sC])
            refine tkz 9 ?_
            have c0 : w22.cell? ⟨g, 0, none⟩ = some (.int .u32 (z5 : Int)) := by
              have h1 := HRF.out.cell hn0
              unfold valF at h1
              rw [HZ5.out] at h1
              exact h1
            refine wpAnyH_ready (rs := [10]) (by kernel_rfl) (by simp) ?_
            refine AllReadyH.cons (o := _) rfl (fun K hK => ?_) AllReadyH.nil
            go_simp
            skip
            refine hK.out _ _ ?_ (fun hHeld => ?_)
            · (try dsimp only)
              first | exact ⟨HNS.out.nine, HWT.out.nine, HVZ.out _ HD.out.bel⟩ | exact hHeld
            clear hK K
            (try simp only [Act.put, gA, gB, gC, sA, sB, sC])
            refine tkz 11 ?_
            refine tkz 20 ?_
            refine tkz 21 ?_
            refine tkz 22 ?_
            refine wpAnyH_ready (rs := [23]) (by kernel_rfl) (by simp) ?_
            refine AllReadyH.cons (o := _) rfl (fun K hK => ?_) AllReadyH.nil
            go_simp
            refine (live15_c _).mono ?_
            rintro e w23 ⟨rfl, hb⟩
            replace HNS := hidp (HNS.out.keep hb)
            replace HWT := hidp (HWT.out.keep hb)
            replace HD := hidp (HD.out.keep hb)
            clear hb
            refine hK.out _ _ ?_ (fun hHeld => ?_)
            · (try dsimp only)
              first | exact ⟨HNS.out.nine, HWT.out.nine, HVZ.out _ HD.out.bel⟩ | exact hHeld
            clear hK K
            (try simp only [Act.put, gA, gB, gC, sA, sB, sC])
            refine tkz 24 ?_
            refine tkz 25 ?_
            refine wpAnyH_done (by kernel_rfl) ?_ _
            have HB := hidp HD.out.bel
            go_wp2
            go_ret
            exact ⟨rfl, HB.out⟩
    · have t5 : decide ((1 : Int) ≤ xx) = false := decide_eq_false c1
      go_wp2_with fail
      go_loopw [16] (fun u16 wr => ∃ (i : Nat), i ≤ 8 ∧ u16 = .int .i64 (i : Int) ∧ Hid (∀ j, j < i → (H.V (22 + j) : Int) ≠ fa) ∧ wr = wc) (fun u16 _ => 8 - (intOf u16).toNat)
      case atStart => exact ⟨0, by omega, by go_num, hidp (fun j hj => by omega), rfl⟩
      case round =>
        obtain ⟨i, hi, rfl, HRK, hwr⟩ := hrel
        subst hwr
        by_cases hlt : i < 8
        · have t9 : decide ((i : Int) < 8) = true := decide_eq_true (by omega)
          obtain ⟨rv, hrv, hrc⟩ := HRV.out (.slice A1 nl k1) i hlt
          have hci := (HS.out.cell (1 + i)).trans hrc
          by_cases he : (rv : Int) = fa
          · have te : ((rv : Int) == fa) = true := by simpa using he
            have HB := hidp HD.out.bel
            clear he hrv hrc
            go_wp2_with fail
            refine (live15_c _).mono ?_
            rintro e w19 ⟨rfl, hb⟩
            have HBL := hidp (Bgo HB.out hb)
            clear hb
            go_wp2
            go_ret
            exact ⟨rfl, HBL.out⟩
          · have te : ((rv : Int) == fa) = false := by simpa using he
            have HRK2 : Hid (∀ j, j < i + 1 → (H.V (22 + j) : Int) ≠ fa) := hidp (fun j hj => by
              rcases Nat.lt_or_ge j i with h1 | h1
              · exact HRK.out j h1
              · obtain rfl : j = i := by omega
                rw [hrv]
                exact he)
            clear he hrv hrc
            go_wp2_with fail
            go_roundw
            case rel => exact ⟨i + 1, by omega, by go_num, HRK2, by first | rfl | trivial⟩
            case measure => simp [intOf]; omega
        · have t9 : decide ((i : Int) < 8) = false := decide_eq_false (by omega)
          have HRA : Hid (∀ j, j < 8 → (H.V (22 + j) : Int) ≠ fa) := hidp (fun j hj => HRK.out j (by omega))
          go_wp2_with fail
          refine (snRelease_c hn40 hq10 p ll (by omega) (by omega) HD.out.at1).mono ?_
          rintro e w6 ⟨rfl, h1, _⟩
          obtain ⟨A4, h2, h3⟩ := HD.out.left1 h1.left
          rw [HS4.out] at h2
          replace HC := hidp (h3.held (.inl HZC.out) HC.out)
          replace HS := hidp (h3.held (.inl HZS.out) HS.out)
          replace HX := hidp (h3.held (.inl HZHX.out) HX.out)
          replace HO1 := hidp (h3.own (fun g e => .inl (HZR.out g e)) HO1.out)
          replace HWT := hidp (h3.held (.inr (.inl rfl)) HWT.out)
          replace HO6 := hidp (h3.own (fun g e => .inr (.inr e)) HO6.out)
          replace HD := hidp h2
          clear h1 h2 h3 x0 x1 x2 y0 y1
          obtain ⟨x0, x1, x2⟩ := HC.out.three
          obtain ⟨y0, y1⟩ := HX.out.two
          go_wp2_with fail
          refine (vGetA hn40 1 HD.out.at1).mono ?_
          rintro e w6 ⟨rfl, h1, _⟩
          obtain ⟨A4, h2, h3⟩ := HD.out.left1 h1.left
          rw [HX1.out]
          replace HC := hidp (h3.held (.inl HZC.out) HC.out)
          replace HS := hidp (h3.held (.inl HZS.out) HS.out)
          replace HX := hidp (h3.held (.inl HZHX.out) HX.out)
          replace HO1 := hidp (h3.own (fun g e => .inl (HZR.out g e)) HO1.out)
          replace HWT := hidp (h3.held (.inr (.inl rfl)) HWT.out)
          replace HO6 := hidp (h3.own (fun g e => .inr (.inr e)) HO6.out)
          replace HD := hidp h2
          clear h1 h2 h3 x0 x1 x2 y0 y1
          obtain ⟨x0, x1, x2⟩ := HC.out.three
          obtain ⟨y0, y1⟩ := HX.out.two
          go_wp2_with fail
          refine (vPutA hn40 1 yv HY1.out HD.out.at1).mono ?_
          rintro e w6 ⟨rfl, h1, _⟩
          obtain ⟨A4, h2, h3⟩ := HD.out.left1 h1.left
          rw [HS5.out] at h2
          replace HC := hidp (h3.held (.inl HZC.out) HC.out)
          replace HS := hidp (h3.held (.inl HZS.out) HS.out)
          replace HX := hidp (h3.held (.inl HZHX.out) HX.out)
          replace HO1 := hidp (h3.own (fun g e => .inl (HZR.out g e)) HO1.out)
          replace HWT := hidp (h3.held (.inr (.inl rfl)) HWT.out)
          replace HO6 := hidp (h3.own (fun g e => .inr (.inr e)) HO6.out)
          replace HD := hidp h2
          clear h1 h2 h3 x0 x1 x2 y0 y1
          obtain ⟨x0, x1, x2⟩ := HC.out.three
          obtain ⟨y0, y1⟩ := HX.out.two
          have HOKX : Hid (VOk n sx) := hidp (by obtain ⟨o, hI, _⟩ := HD.out.i1; exact hI.ok)
          have HN5 := hidp (HNOWR.out HRA.out HOKX.out).1
          have HZ5 := hidp (HNOWR.out HRA.out HOKX.out).2
          clear HS HX HO1 y0 y1
          go_wp2_with fail
          go_cut [17, 18] from 140 to 146 (fun u17 u18 wx => ∃ (N17 k5 : Nat) (A5 : Option Addr) (A4 : Nat → Prop), u17 = .pointer (some ⟨N17, 0, none⟩) ∧ u18 = .bool true ∧ Held wx N17 54 #[.slice A5 no k5, .int .i64 (r0 : Int), .int .i64 (r1 : Int), .int .i64 (r2 : Int), .int .i64 (r3 : Int), .int .i64 (r4 : Int), .int .i64 (r5 : Int), .int .i64 (r6 : Int), .int .i64 (r7 : Int)] ∧ wx.ownsRow 0 64 2 (.slice A5 no k5) no (bkVs LO) ∧ Held wx W.heap.size 23 #[.int .i64 (H.t : Int), .int .i64 (H.p : Int), .int .i64 (H.s : Int)] ∧ Held wx NT 54 #[.slice A6 no k6, .int .i64 (r0 : Int), .int .i64 (r1 : Int), .int .i64 (r2 : Int), .int .i64 (r3 : Int), .int .i64 (r4 : Int), .int .i64 (r5 : Int), .int .i64 (r6 : Int), .int .i64 (r7 : Int)] ∧ wx.ownsRow 0 64 2 (.slice A6 no k6) no (bkVs LO) ∧ Duo W (vOb z1 b1 n true (wholeK15 vals)) noOb A4 (fun _ => False) (fun g => g < z1 ∨ g = NT ∨ (Value.slice A6 no k6).ownBlock = some g) sx freshS wx)
          case first =>
            replace HC := hidp HC.out.drw
            replace HWT := hidp HWT.out.drw
            replace HO6 := hidp (own_below HO6.out (Bdrew (B0 _)))
            replace HD := hidp (HD.out.keep (Bdrew (B0 _)))
            refine wp_region_held_drew (S := (fun w' => w'.cell? ⟨W.heap.size, 0, none⟩ = some (.int .i64 (H.t : Int)) ∧ w'.cell? ⟨W.heap.size, 1, none⟩ = some (.int .i64 (H.p : Int)) ∧ w'.cell? ⟨W.heap.size, 2, none⟩ = some (.int .i64 (H.s : Int)))) (by kernel_rfl) ?_ (fun hHeld => ?_)
            · (try dsimp only)
              first | exact HC.out.three | exact hHeld
            generalize hq0 : World.drew w6 = q0 at HC HWT HO6 HD hHeld ⊢
            clear hq0
            refine tkz 0 ?_
            refine tkz 1 ?_
            refine wpAnyH_ready (rs := [2, 7]) (by kernel_rfl) (by simp) ?_
            refine AllReadyH.cons (o := _) rfl (fun K hK => ?_) (AllReadyH.cons (o := _) rfl (fun K hK => ?_) AllReadyH.nil)
            · skip
              go_simp
              obtain ⟨o9, hI9, _⟩ := HD.out.i1
              refine (vVals_some hn0 (by have := hI9.ok.few; omega) _ hI9).mono ?_
              rintro e v1 ⟨g, cp, rfl, _, hrow, hb⟩
              have HRF := hidp hrow
              clear hI9 hrow
              replace HC := hidp (HC.out.keep hb)
              replace HWT := hidp (HWT.out.keep hb)
              replace HO6 := hidp (own_below HO6.out hb)
              replace HD := hidp (HD.out.keep hb)
              clear hb
              refine hK.out _ _ ?_ (fun hHeld => ?_)
              · (try dsimp only)
                first | exact HC.out.three | exact hHeld
              clear hK K
              (try simp only [Act.put, gA, gB, gC, sA, sB, sC])
              refine wpAnyH_ready (rs := [3, 7]) (by kernel_rfl) (by simp) ?_
              refine AllReadyH.cons (o := _) rfl (fun K hK => ?_) (AllReadyH.cons (o := _) rfl (fun K hK => ?_) AllReadyH.nil)
              · skip
                go_simp
                refine (HN5.out _ _ _ HRF.out).mono ?_
                rintro e v2 ⟨u2, rfl, hown, hb⟩
                rw [HNB.out] at hown
                obtain ⟨A5, k5, hu2⟩ := own_slice hown
                subst hu2
                have HO2 : Hid (v2.ownsRow 0 64 2 (.slice A5 no k5) no (bkVs LO)) := hidp (own_lower hown (Nat.zero_le _))
                clear HRF hown
                replace HC := hidp (HC.out.keep hb)
                replace HWT := hidp (HWT.out.keep hb)
                replace HO6 := hidp (own_below HO6.out hb)
                replace HD := hidp (HD.out.keep hb)
                clear hb
                refine hK.out _ _ ?_ (fun hHeld => ?_)
                · (try dsimp only)
                  first | exact HC.out.three | exact hHeld
                clear hK K
                (try simp only [Act.put, gA, gB, gC, sA, sB, sC])
                refine tkz 4 ?_
                refine tkz 5 ?_
                refine tkz 6 ?_
                refine wpAnyH_ready (rs := [7]) (by kernel_rfl) (by simp) ?_
                refine AllReadyH.cons (o := _) rfl (fun K hK => ?_) AllReadyH.nil
                · skip
                  go_simp
                  have hb := Bnew (B0 v2) (.cells #[.slice none 0 0, .int .i64 0, .int .i64 0, .int .i64 0, .int .i64 0, .int .i64 0, .int .i64 0, .int .i64 0, .int .i64 0] 54)
                  have HN := hidp (Held.new v2 54 #[.slice none 0 0, .int .i64 0, .int .i64 0, .int .i64 0, .int .i64 0, .int .i64 0, .int .i64 0, .int .i64 0, .int .i64 0])
                  have HLE := hidp HD.out.bel.size
                  have HLT : Hid (W.heap.size < v2.heap.size ∧ NT < v2.heap.size) := hidp ⟨HC.out.lt, HWT.out.lt⟩
                  have HNA : Hid (¬ A4 v2.heap.size) := hidp (fun x => by have := Ob.lt (vOb z1 b1 n true (wholeK15 vals)) HD.out.i1 _ x; omega)
                  replace HC := hidp (HC.out.keep hb)
                  replace HWT := hidp (HWT.out.keep hb)
                  replace HO6 := hidp (own_below HO6.out hb)
                  replace HO2 := hidp (own_below HO2.out hb)
                  replace HD := hidp (HD.out.keep hb)
                  clear hb
                  generalize hn13 : v2.heap.size = N17 at *
                  generalize hw13 : v2.alloc (.cells #[.slice none 0 0, .int .i64 0, .int .i64 0, .int .i64 0, .int .i64 0, .int .i64 0, .int .i64 0, .int .i64 0, .int .i64 0] 54) = v3 at *
                  clear hn13 hw13
                  refine hK.out _ _ ?_ (fun hHeld => ?_)
                  · (try dsimp only)
                    first | exact HC.out.three | exact hHeld
                  clear hK K
                  (try simp only [Act.put, gA, gB, gC, sA, sB, sC])
                  refine wpAnyH_ready (rs := [8]) (by kernel_rfl) (by simp) ?_
                  refine AllReadyH.cons (o := _) rfl (fun K hK => ?_) AllReadyH.nil
                  obtain ⟨z0, z1', z2, z3, z4, z5', z6, z7, z8⟩ := HN.out.nine
                  obtain ⟨f0, f1, f2, f3, f4, f5, f6, f7, f8⟩ := HN.out.thawed9
                  go_simp
                  obtain ⟨WF, hWF⟩ : ∃ WF, wr9 (v3) N17 (.slice A5 no k5) r0 r1 r2 r3 r4 r5 r6 r7 = WF := ⟨_, rfl⟩
                  replace HO6 := hidp (own9 hWF (heldOwn_ne HN.out HO6.out (by decide)) HO6.out)
                  replace HO2 := hidp (own9 hWF (heldOwn_ne HN.out HO2.out (by decide)) HO2.out)
                  replace HC := hidp (far9 hWF (by have := HLT.out; omega) HC.out)
                  replace HWT := hidp (far9 hWF (by have := HLT.out; omega) HWT.out)
                  replace HD := hidp (duo9 hWF HNA.out (fun x => x) HLE.out HD.out)
                  replace HN := hidp (held9 hWF HN.out)
                  unfold wr9 set9 at hWF
                  rw [hWF]
                  clear hWF z0 z1' z2 z3 z4 z5' z6 z7 z8 f0 f1 f2 f3 f4 f5 f6 f7 f8
                  refine hK.out _ _ ?_ (fun hHeld => ?_)
                  · (try dsimp only)
                    first | exact HC.out.three | exact hHeld
                  clear hK K
                  (try simp only [Act.put, gA, gB, gC, sA, sB, sC])
                  refine tkz 9 ?_
                  refine wpAnyH_done (by kernel_rfl) ?_ _
                  go_wp2_with fail
                  go_meet
                  case rel => exact ⟨_, _, _, _, rfl, rfl, HN.out, HO2.out, HC.out, HWT.out, HO6.out, HD.out⟩
              · skip
                go_simp
                have hb := Bnew (B0 v1) (.cells #[.slice none 0 0, .int .i64 0, .int .i64 0, .int .i64 0, .int .i64 0, .int .i64 0, .int .i64 0, .int .i64 0, .int .i64 0] 54)
                have HN := hidp (Held.new v1 54 #[.slice none 0 0, .int .i64 0, .int .i64 0, .int .i64 0, .int .i64 0, .int .i64 0, .int .i64 0, .int .i64 0, .int .i64 0])
                have HLE := hidp HD.out.bel.size
                have HLT : Hid (W.heap.size < v1.heap.size ∧ NT < v1.heap.size) := hidp ⟨HC.out.lt, HWT.out.lt⟩
                have HNA : Hid (¬ A4 v1.heap.size) := hidp (fun x => by have := Ob.lt (vOb z1 b1 n true (wholeK15 vals)) HD.out.i1 _ x; omega)
                replace HC := hidp (HC.out.keep hb)
                replace HWT := hidp (HWT.out.keep hb)
                replace HO6 := hidp (own_below HO6.out hb)
                replace HD := hidp (HD.out.keep hb)
                replace HRF := hidp (HRF.out.keep hb)
                clear hb
                generalize hn13 : v1.heap.size = N17 at *
                generalize hw13 : v1.alloc (.cells #[.slice none 0 0, .int .i64 0, .int .i64 0, .int .i64 0, .int .i64 0, .int .i64 0, .int .i64 0, .int .i64 0, .int .i64 0] 54) = v4 at *
                clear hn13 hw13
                refine hK.out _ _ ?_ (fun hHeld => ?_)
                · (try dsimp only)
                  first | exact HC.out.three | exact hHeld
                clear hK K
                (try simp only [Act.put, gA, gB, gC, sA, sB, sC])
                refine wpAnyH_ready (rs := [3]) (by kernel_rfl) (by simp) ?_
                refine AllReadyH.cons (o := _) rfl (fun K hK => ?_) AllReadyH.nil
                · skip
                  go_simp
                  refine (HN5.out _ _ _ HRF.out).mono ?_
                  rintro e v5 ⟨u2, rfl, hown, hb⟩
                  rw [HNB.out] at hown
                  obtain ⟨A5, k5, hu2⟩ := own_slice hown
                  subst hu2
                  have HO2 : Hid (v5.ownsRow 0 64 2 (.slice A5 no k5) no (bkVs LO)) := hidp (own_lower hown (Nat.zero_le _))
                  clear HRF hown
                  replace HC := hidp (HC.out.keep hb)
                  replace HWT := hidp (HWT.out.keep hb)
                  replace HN := hidp (HN.out.keep hb)
                  replace HO6 := hidp (own_below HO6.out hb)
                  replace HD := hidp (HD.out.keep hb)
                  clear hb
                  refine hK.out _ _ ?_ (fun hHeld => ?_)
                  · (try dsimp only)
                    first | exact HC.out.three | exact hHeld
                  clear hK K
                  (try simp only [Act.put, gA, gB, gC, sA, sB, sC])
                  refine tkz 4 ?_
                  refine tkz 5 ?_
                  refine tkz 6 ?_
                  refine wpAnyH_ready (rs := [8]) (by kernel_rfl) (by simp) ?_
                  refine AllReadyH.cons (o := _) rfl (fun K hK => ?_) AllReadyH.nil
                  obtain ⟨z0, z1', z2, z3, z4, z5', z6, z7, z8⟩ := HN.out.nine
                  obtain ⟨f0, f1, f2, f3, f4, f5, f6, f7, f8⟩ := HN.out.thawed9
                  go_simp
                  obtain ⟨WF, hWF⟩ : ∃ WF, wr9 (v5) N17 (.slice A5 no k5) r0 r1 r2 r3 r4 r5 r6 r7 = WF := ⟨_, rfl⟩
                  replace HO6 := hidp (own9 hWF (heldOwn_ne HN.out HO6.out (by decide)) HO6.out)
                  replace HO2 := hidp (own9 hWF (heldOwn_ne HN.out HO2.out (by decide)) HO2.out)
                  replace HC := hidp (far9 hWF (by have := HLT.out; omega) HC.out)
                  replace HWT := hidp (far9 hWF (by have := HLT.out; omega) HWT.out)
                  replace HD := hidp (duo9 hWF HNA.out (fun x => x) HLE.out HD.out)
                  replace HN := hidp (held9 hWF HN.out)
                  unfold wr9 set9 at hWF
                  rw [hWF]
                  clear hWF z0 z1' z2 z3 z4 z5' z6 z7 z8 f0 f1 f2 f3 f4 f5 f6 f7 f8
                  refine hK.out _ _ ?_ (fun hHeld => ?_)
                  · (try dsimp only)
                    first | exact HC.out.three | exact hHeld
                  clear hK K
                  (try simp only [Act.put, gA, gB, gC, sA, sB, sC])
                  refine tkz 9 ?_
                  refine wpAnyH_done (by kernel_rfl) ?_ _
                  go_wp2_with fail
                  go_meet
                  case rel => exact ⟨_, _, _, _, rfl, rfl, HN.out, HO2.out, HC.out, HWT.out, HO6.out, HD.out⟩
            · skip
              go_simp
              have hb := Bnew (B0 q0) (.cells #[.slice none 0 0, .int .i64 0, .int .i64 0, .int .i64 0, .int .i64 0, .int .i64 0, .int .i64 0, .int .i64 0, .int .i64 0] 54)
              have HN := hidp (Held.new q0 54 #[.slice none 0 0, .int .i64 0, .int .i64 0, .int .i64 0, .int .i64 0, .int .i64 0, .int .i64 0, .int .i64 0, .int .i64 0])
              have HLE := hidp HD.out.bel.size
              have HLT : Hid (W.heap.size < q0.heap.size ∧ NT < q0.heap.size) := hidp ⟨HC.out.lt, HWT.out.lt⟩
              have HNA : Hid (¬ A4 q0.heap.size) := hidp (fun x => by have := Ob.lt (vOb z1 b1 n true (wholeK15 vals)) HD.out.i1 _ x; omega)
              replace HC := hidp (HC.out.keep hb)
              replace HWT := hidp (HWT.out.keep hb)
              replace HO6 := hidp (own_below HO6.out hb)
              replace HD := hidp (HD.out.keep hb)
              clear hb
              generalize hn13 : q0.heap.size = N17 at *
              generalize hw13 : q0.alloc (.cells #[.slice none 0 0, .int .i64 0, .int .i64 0, .int .i64 0, .int .i64 0, .int .i64 0, .int .i64 0, .int .i64 0, .int .i64 0] 54) = v6 at *
              clear hn13 hw13
              refine hK.out _ _ ?_ (fun hHeld => ?_)
              · (try dsimp only)
                first | exact HC.out.three | exact hHeld
              clear hK K
              (try simp only [Act.put, gA, gB, gC, sA, sB, sC])
              refine wpAnyH_ready (rs := [2]) (by kernel_rfl) (by simp) ?_
              refine AllReadyH.cons (o := _) rfl (fun K hK => ?_) AllReadyH.nil
              · skip
                go_simp
                obtain ⟨o9, hI9, _⟩ := HD.out.i1
                refine (vVals_some hn0 (by have := hI9.ok.few; omega) _ hI9).mono ?_
                rintro e v7 ⟨g, cp, rfl, _, hrow, hb⟩
                have HRF := hidp hrow
                clear hI9 hrow
                replace HC := hidp (HC.out.keep hb)
                replace HWT := hidp (HWT.out.keep hb)
                replace HN := hidp (HN.out.keep hb)
                replace HO6 := hidp (own_below HO6.out hb)
                replace HD := hidp (HD.out.keep hb)
                clear hb
                refine hK.out _ _ ?_ (fun hHeld => ?_)
                · (try dsimp only)
                  first | exact HC.out.three | exact hHeld
                clear hK K
                (try simp only [Act.put, gA, gB, gC, sA, sB, sC])
                refine wpAnyH_ready (rs := [3]) (by kernel_rfl) (by simp) ?_
                refine AllReadyH.cons (o := _) rfl (fun K hK => ?_) AllReadyH.nil
                · skip
                  go_simp
                  refine (HN5.out _ _ _ HRF.out).mono ?_
                  rintro e v8 ⟨u2, rfl, hown, hb⟩
                  rw [HNB.out] at hown
                  obtain ⟨A5, k5, hu2⟩ := own_slice hown
                  subst hu2
                  have HO2 : Hid (v8.ownsRow 0 64 2 (.slice A5 no k5) no (bkVs LO)) := hidp (own_lower hown (Nat.zero_le _))
                  clear HRF hown
                  replace HC := hidp (HC.out.keep hb)
                  replace HWT := hidp (HWT.out.keep hb)
                  replace HN := hidp (HN.out.keep hb)
                  replace HO6 := hidp (own_below HO6.out hb)
                  replace HD := hidp (HD.out.keep hb)
                  clear hb
                  refine hK.out _ _ ?_ (fun hHeld => ?_)
                  · (try dsimp only)
                    first | exact HC.out.three | exact hHeld
                  clear hK K
                  (try simp only [Act.put, gA, gB, gC, sA, sB, sC])
                  refine tkz 4 ?_
                  refine tkz 5 ?_
                  refine tkz 6 ?_
                  refine wpAnyH_ready (rs := [8]) (by kernel_rfl) (by simp) ?_
                  refine AllReadyH.cons (o := _) rfl (fun K hK => ?_) AllReadyH.nil
                  obtain ⟨z0, z1', z2, z3, z4, z5', z6, z7, z8⟩ := HN.out.nine
                  obtain ⟨f0, f1, f2, f3, f4, f5, f6, f7, f8⟩ := HN.out.thawed9
                  go_simp
                  obtain ⟨WF, hWF⟩ : ∃ WF, wr9 (v8) N17 (.slice A5 no k5) r0 r1 r2 r3 r4 r5 r6 r7 = WF := ⟨_, rfl⟩
                  replace HO6 := hidp (own9 hWF (heldOwn_ne HN.out HO6.out (by decide)) HO6.out)
                  replace HO2 := hidp (own9 hWF (heldOwn_ne HN.out HO2.out (by decide)) HO2.out)
                  replace HC := hidp (far9 hWF (by have := HLT.out; omega) HC.out)
                  replace HWT := hidp (far9 hWF (by have := HLT.out; omega) HWT.out)
                  replace HD := hidp (duo9 hWF HNA.out (fun x => x) HLE.out HD.out)
                  replace HN := hidp (held9 hWF HN.out)
                  unfold wr9 set9 at hWF
                  rw [hWF]
                  clear hWF z0 z1' z2 z3 z4 z5' z6 z7 z8 f0 f1 f2 f3 f4 f5 f6 f7 f8
                  refine hK.out _ _ ?_ (fun hHeld => ?_)
                  · (try dsimp only)
                    first | exact HC.out.three | exact hHeld
                  clear hK K
                  (try simp only [Act.put, gA, gB, gC, sA, sB, sC])
                  refine tkz 9 ?_
                  refine wpAnyH_done (by kernel_rfl) ?_ _
                  go_wp2_with fail
                  go_meet
                  case rel => exact ⟨_, _, _, _, rfl, rfl, HN.out, HO2.out, HC.out, HWT.out, HO6.out, HD.out⟩
          case rest =>
            obtain ⟨N17, k5, A5, A4, rfl, rfl, hN, hO2, hHC, hHWT, hHO6, hD⟩ := hcut
            have HNS := hidp hN
            have HO2 := hidp hO2
            replace HC := hidp hHC
            replace HWT := hidp hHWT
            replace HO6 := hidp hHO6
            replace HD := hidp hD
            clear hN hO2 hHC hHWT hHO6 hD
            clear x0 x1 x2
            obtain ⟨x0, x1, x2⟩ := HC.out.three
            have HVZ : Hid (∀ w', Below W.heap.size W w' → w'.cell? (ad.add 0) = some (.int .u32 (z0 : Int)) ∧ w'.cell? ad = some (.int .u32 (z0 : Int))) := hidp (fun w' hw => by
              have h1 := (hv.out.below hw).2 0 hn0
              rw [HZ0.out] at h1
              exact ⟨h1, by rw [add_zero15] at h1; exact h1⟩)
            go_wp2_with fail
            replace HNS := hidp HNS.out.drw
            replace HWT := hidp HWT.out.drw
            replace HO6 := hidp (own_below HO6.out (Bdrew (B0 _)))
            replace HO2 := hidp (own_below HO2.out (Bdrew (B0 _)))
            replace HD := hidp (HD.out.keep (Bdrew (B0 _)))
            refine wp_region_held_drew (S := (fun w' => (w'.cell? ⟨N17, 0, none⟩ = some (.slice A5 no k5) ∧ w'.cell? ⟨N17, 1, none⟩ = some (.int .i64 (r0 : Int)) ∧ w'.cell? ⟨N17, 2, none⟩ = some (.int .i64 (r1 : Int)) ∧ w'.cell? ⟨N17, 3, none⟩ = some (.int .i64 (r2 : Int)) ∧ w'.cell? ⟨N17, 4, none⟩ = some (.int .i64 (r3 : Int)) ∧ w'.cell? ⟨N17, 5, none⟩ = some (.int .i64 (r4 : Int)) ∧ w'.cell? ⟨N17, 6, none⟩ = some (.int .i64 (r5 : Int)) ∧ w'.cell? ⟨N17, 7, none⟩ = some (.int .i64 (r6 : Int)) ∧ w'.cell? ⟨N17, 8, none⟩ = some (.int .i64 (r7 : Int))) ∧ (w'.cell? ⟨NT, 0, none⟩ = some (.slice A6 no k6) ∧ w'.cell? ⟨NT, 1, none⟩ = some (.int .i64 (r0 : Int)) ∧ w'.cell? ⟨NT, 2, none⟩ = some (.int .i64 (r1 : Int)) ∧ w'.cell? ⟨NT, 3, none⟩ = some (.int .i64 (r2 : Int)) ∧ w'.cell? ⟨NT, 4, none⟩ = some (.int .i64 (r3 : Int)) ∧ w'.cell? ⟨NT, 5, none⟩ = some (.int .i64 (r4 : Int)) ∧ w'.cell? ⟨NT, 6, none⟩ = some (.int .i64 (r5 : Int)) ∧ w'.cell? ⟨NT, 7, none⟩ = some (.int .i64 (r6 : Int)) ∧ w'.cell? ⟨NT, 8, none⟩ = some (.int .i64 (r7 : Int))) ∧ w'.cell? (ad.add 0) = some (.int .u32 (z0 : Int)) ∧ w'.cell? ad = some (.int .u32 (z0 : Int)))) (by kernel_rfl) ?_ (fun hHeld => ?_)
            · (try dsimp only)
              first | exact ⟨HNS.out.nine, HWT.out.nine, HVZ.out _ HD.out.bel⟩ | exact hHeld
            refine tkz 0 ?_
            refine tkz 1 ?_
            refine tkz 2 ?_
            refine tkz 3 ?_
            refine wpAnyH_ready (rs := [4]) (by kernel_rfl) (by simp) ?_
            refine AllReadyH.cons (o := _) rfl (fun K hK => ?_) AllReadyH.nil
            go_simp
            refine (xSame_c LO LO A5 A6 no no k5 k6 0 0 r0 r1 r2 r3 r4 r5 r6 r7 r0 r1 r2 r3 r4 r5 r6 r7 _ HNB.out HNB.out hnbb hnbb HO2.out HO6.out true ⟨fun _ => ⟨rfl, rfl⟩, fun _ => rfl⟩).mono ?_
            rintro e w21 ⟨rfl, hb⟩
            replace HNS := hidp (HNS.out.keep hb)
            replace HWT := hidp (HWT.out.keep hb)
            replace HD := hidp (HD.out.keep hb)
            clear hb
            refine hK.out _ _ ?_ (fun hHeld => ?_)
            · (try dsimp only)
              first | exact ⟨HNS.out.nine, HWT.out.nine, HVZ.out _ HD.out.bel⟩ | exact hHeld
            clear hK K
            (try simp only [Act.put, gA, gB, gC, sA, sB, sC])
            refine tkz 5 ?_
            refine tkz 6 ?_
            refine tkz 7 ?_
            refine tkz 12 ?_
            refine tkz 13 ?_
            refine tkz 14 ?_
            refine tkz 15 ?_
            refine tkz 16 ?_
            refine tkz 17 ?_
            refine tkz 18 ?_
            refine tkz 19 ?_
            refine wpAnyH_ready (rs := [8]) (by kernel_rfl) (by simp) ?_
            refine AllReadyH.cons (o := _) rfl (fun K hK => ?_) AllReadyH.nil
            go_simp
            obtain ⟨o9, hI9, _⟩ := HD.out.i1
            refine (vVals_some hn0 (by have := hI9.ok.few; omega) _ hI9).mono ?_
            rintro e w22 ⟨g, cp, rfl, _, hrow, hb⟩
            have HRF := hidp hrow
            clear hI9 hrow
            replace HNS := hidp (HNS.out.keep hb)
            replace HWT := hidp (HWT.out.keep hb)
            replace HD := hidp (HD.out.keep hb)
            clear hb
            have hcp := HRF.out.le
            have hcp2 : cp ≤ 9223372036854775807 := HRF.out.max
            refine hK.out _ _ ?_ (fun hHeld => ?_)
            · (try dsimp only)
              first | exact ⟨HNS.out.nine, HWT.out.nine, HVZ.out _ HD.out.bel⟩ | exact hHeld
            clear hK K
            (try simp only [Act.put, gA, gB, gC, sA, sB, sC])
            refine tkz 9 ?_
            have c0 : w22.cell? ⟨g, 0, none⟩ = some (.int .u32 (z5 : Int)) := by
              have h1 := HRF.out.cell hn0
              unfold valF at h1
              rw [HZ5.out] at h1
              exact h1
            refine wpAnyH_ready (rs := [10]) (by kernel_rfl) (by simp) ?_
            refine AllReadyH.cons (o := _) rfl (fun K hK => ?_) AllReadyH.nil
            go_simp
            skip
            refine hK.out _ _ ?_ (fun hHeld => ?_)
            · (try dsimp only)
              first | exact ⟨HNS.out.nine, HWT.out.nine, HVZ.out _ HD.out.bel⟩ | exact hHeld
            clear hK K
            (try simp only [Act.put, gA, gB, gC, sA, sB, sC])
            refine tkz 11 ?_
            refine tkz 20 ?_
            refine tkz 21 ?_
            refine tkz 22 ?_
            refine wpAnyH_ready (rs := [23]) (by kernel_rfl) (by simp) ?_
            refine AllReadyH.cons (o := _) rfl (fun K hK => ?_) AllReadyH.nil
            go_simp
            refine (live15_c _).mono ?_
            rintro e w23 ⟨rfl, hb⟩
            replace HNS := hidp (HNS.out.keep hb)
            replace HWT := hidp (HWT.out.keep hb)
            replace HD := hidp (HD.out.keep hb)
            clear hb
            refine hK.out _ _ ?_ (fun hHeld => ?_)
            · (try dsimp only)
              first | exact ⟨HNS.out.nine, HWT.out.nine, HVZ.out _ HD.out.bel⟩ | exact hHeld
            clear hK K
            (try simp only [Act.put, gA, gB, gC, sA, sB, sC])
            refine tkz 24 ?_
            refine tkz 25 ?_
            refine wpAnyH_done (by kernel_rfl) ?_ _
            have HB := hidp HD.out.bel
            go_wp2
            go_ret
            exact ⟨rfl, HB.out⟩
end
end Go.Proofs.YtnamlhkccgnbfaaGreat
