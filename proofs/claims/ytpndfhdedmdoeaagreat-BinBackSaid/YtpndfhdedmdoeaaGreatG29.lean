/-
  The law BinBack: the walk. Written by bin/gen_back.py.
-/
import Derived.Test.YtpndfhdedmdoeaaGreatG10
import Derived.Test.YtpndfhdedmdoeaaGreatG27
import Derived.Test.YtpndfhdedmdoeaaGreatG28
import Derived.Deep.CutRange
import Derived.Test.YtpndfhdedmdoeaaGreatKit
import Derived.Lib.SmallJoins
namespace Go.Proofs.YtpndfhdedmdoeaaGreat
open Go.ChangeShapes Go.WideShapes Go.ChangeAt Go.RowKit Go.Maps
set_option linter.unusedVariables false
set_option linter.unusedSimpArgs false
set_option maxRecDepth 100000

def wholeB14 (vals : List Nat) : Nat → Option Nat := fun i => vals[i]?
theorem blocks_few14 {H : AuH} {n c : Nat} (HV : HeapV H n c) : (blocksOf H.parts).length ≤ 100000 := by
  have h1 := blocksOf_len H.parts
  have h2 : H.parts.length ≤ H.p * 33 := AuH.parts_len H.p
  have := HV.nums.2.2.2.1
  omega

/-- what State tells of the values behind: what it told of those ahead -/
theorem now_state {H : AuH} {n c : Nat} {K : Nat → Option Nat} (HV : HeapV H n c) (hr : ∀ i, i < 10 → H.rule i) (hK : ∀ i, i < n → K i = some (H.V i)) {p : Nat} (hp : p < H.p) (hk : H.K p = 1) {st : Vst} (hs : addS n K H.t H.p H.s p (H.ln p) (dropS n K H.t H.p H.s p freshS) = st) (hok : VOk n st) (h32 : ∀ i x, K i = some x → x < 2 ^ 32)
    (L : List (Int × Int)) (hL : blocksOf H.parts = L) (r0 r1 r2 r3 r4 r5 r6 r7 : Nat) (h0 : H.V 22 = r0) (h1 : H.V 23 = r1) (h2 : H.V 24 = r2) (h3 : H.V 25 = r3) (h4 : H.V 26 = r4) (h5 : H.V 27 = r5) (h6 : H.V 28 = r6) (h7 : H.V 29 = r7) (w : World) (g cp : Nat) (hrow : RowF w g 56 n cp (valF (nowV K st.wr))) :
    Calls Tryz.prog 12 #[.agg #[.int .i64 (H.t : Int), .int .i64 (H.p : Int), .int .i64 (H.s : Int)], .slice (some ⟨g, 0, none⟩) n cp] w (fun e w' => ∃ u, e = .returned (.tuple #[.agg #[u, .int .i64 (r0 : Int), .int .i64 (r1 : Int), .int .i64 (r2 : Int), .int .i64 (r3 : Int), .int .i64 (r4 : Int), .int .i64 (r5 : Int), .int .i64 (r6 : Int), .int .i64 (r7 : Int)], .bool true]) ∧ w'.ownsRow w.heap.size 79 2 u L.length (bkVs L) ∧ Below w.heap.size w w') := by
  obtain ⟨H', e1, e2, e3, HV', hr', hb', ho', hn'⟩ := back_yes HV hr hK hp hk hs hok h32 (cp := cp) hrow.le hrow.max
  have hv' : IsVals w ⟨g, 0, none⟩ n H'.V := ⟨hrow.lt, fun i hi => by
    have e : (⟨g, 0, none⟩ : Addr).add i = ⟨g, i, none⟩ := by
      unfold Addr.add
      by_cases hz : i = 0
      · rw [if_pos hz, hz]
      · rw [if_neg hz]; simp
    rw [e, hrow.cell hi]
    unfold valF
    rw [hn' i hi]⟩
  have hC := xCheckIs_yes HV' ⟨g, 0, none⟩ w hv' (m := 0) (b := true) (.inl ⟨rfl, rfl, hr'⟩)
  have := xState_yes HV' ⟨g, 0, none⟩ 0 w hv' hC
  rw [e1, e2, e3, hb', hL, show H'.V 22 = r0 from (ho' 0 (by omega)).trans h0, show H'.V 23 = r1 from (ho' 1 (by omega)).trans h1, show H'.V 24 = r2 from (ho' 2 (by omega)).trans h2, show H'.V 25 = r3 from (ho' 3 (by omega)).trans h3, show H'.V 26 = r4 from (ho' 4 (by omega)).trans h4, show H'.V 27 = r5 from (ho' 5 (by omega)).trans h5, show H'.V 28 = r6 from (ho' 6 (by omega)).trans h6, show H'.V 29 = r7 from (ho' 7 (by omega)).trans h7] at this
  exact this

theorem BinBack_few (t q s p : Int) (A : Option Addr) (n c m : Nat) (hq : 64 < q) (W : World)  : Calls Tryz.prog 3 #[.agg #[.int .i64 t, .int .i64 q, .int .i64 s], .slice A n c, .int .i64 p] W (Keeps W) := by
  have t2 : decide (q ≤ (64 : Int)) = false := decide_eq_false (by omega)
  have HC := hidp (Held.new W 23 #[.int .i64 t, .int .i64 q, .int .i64 s])
  have HB := hidp (Bnew (B0 W) (.cells #[.int .i64 t, .int .i64 q, .int .i64 s] 23))
  obtain ⟨x0, x1, x2⟩ := HC.out.three
  go_enter Tryz.func3, Tryz.ntmps3
  go_wp2_with fail
  refine (few14_c t q s _).mono ?_
  rintro e w1 ⟨rfl, hb⟩
  rw [t2]
  replace HC := hidp (HC.out.keep hb)
  replace HB := hidp (Bgo HB.out hb)
  clear hb
  clear x0 x1 x2
  obtain ⟨x0, x1, x2⟩ := HC.out.three

  go_wp2_with fail
  refine (live14_c _).mono ?_
  rintro e w19 ⟨rfl, hb⟩
  have HBL := hidp (Bgo HB.out hb)
  clear hb
  go_wp2
  go_ret
  exact ⟨rfl, HBL.out⟩

theorem BinBack_no (t q s p : Int) (A : Option Addr) (n c m : Nat) (hq : q ≤ 64) (W : World) (hX : Hid (XCheckIs W t q s A n c m false)) : Calls Tryz.prog 3 #[.agg #[.int .i64 t, .int .i64 q, .int .i64 s], .slice A n c, .int .i64 p] W (Keeps W) := by
  have t2 : decide (q ≤ (64 : Int)) = true := decide_eq_true (by omega)
  have HC := hidp (Held.new W 23 #[.int .i64 t, .int .i64 q, .int .i64 s])
  have HB := hidp (Bnew (B0 W) (.cells #[.int .i64 t, .int .i64 q, .int .i64 s] 23))
  obtain ⟨x0, x1, x2⟩ := HC.out.three
  go_enter Tryz.func3, Tryz.ntmps3
  go_wp2_with fail
  refine (few14_c t q s _).mono ?_
  rintro e w1 ⟨rfl, hb⟩
  rw [t2]
  replace HC := hidp (HC.out.keep hb)
  replace HB := hidp (Bgo HB.out hb)
  clear hb
  clear x0 x1 x2
  obtain ⟨x0, x1, x2⟩ := HC.out.three
  go_wp2_with fail
  refine (xSound_c t q s A n c m false _ (hX.out.grown HB.out)).mono ?_
  rintro e w2 ⟨rfl, hb⟩
  replace HC := hidp (HC.out.keep hb)
  replace HB := hidp (Bgo HB.out hb)
  clear hb
  clear x0 x1 x2
  obtain ⟨x0, x1, x2⟩ := HC.out.three
  go_wp2_with fail
  refine (live14_c _).mono ?_
  rintro e w19 ⟨rfl, hb⟩
  have HBL := hidp (Bgo HB.out hb)
  clear hb
  go_wp2
  go_ret
  exact ⟨rfl, HBL.out⟩

theorem BinBack_low (t q s p : Int) (A : Option Addr) (n c m : Nat) (hq : q ≤ 64) (hp : p < 0) (W : World) (hX : Hid (XCheckIs W t q s A n c m true)) : Calls Tryz.prog 3 #[.agg #[.int .i64 t, .int .i64 q, .int .i64 s], .slice A n c, .int .i64 p] W (Keeps W) := by
  have t2 : decide (q ≤ (64 : Int)) = true := decide_eq_true (by omega)
  have t3 : decide (p < (0 : Int)) = true := decide_eq_true hp
  have HC := hidp (Held.new W 23 #[.int .i64 t, .int .i64 q, .int .i64 s])
  have HB := hidp (Bnew (B0 W) (.cells #[.int .i64 t, .int .i64 q, .int .i64 s] 23))
  obtain ⟨x0, x1, x2⟩ := HC.out.three
  go_enter Tryz.func3, Tryz.ntmps3
  go_wp2_with fail
  refine (few14_c t q s _).mono ?_
  rintro e w1 ⟨rfl, hb⟩
  rw [t2]
  replace HC := hidp (HC.out.keep hb)
  replace HB := hidp (Bgo HB.out hb)
  clear hb
  clear x0 x1 x2
  obtain ⟨x0, x1, x2⟩ := HC.out.three
  go_wp2_with fail
  refine (xSound_c t q s A n c m true _ (hX.out.grown HB.out)).mono ?_
  rintro e w2 ⟨rfl, hb⟩
  replace HC := hidp (HC.out.keep hb)
  replace HB := hidp (Bgo HB.out hb)
  clear hb
  clear x0 x1 x2
  obtain ⟨x0, x1, x2⟩ := HC.out.three
  go_wp2_with fail
  refine (live14_c _).mono ?_
  rintro e w19 ⟨rfl, hb⟩
  have HBL := hidp (Bgo HB.out hb)
  clear hb
  go_wp2
  go_ret
  exact ⟨rfl, HBL.out⟩

theorem BinBack_high (t q s p : Int) (A : Option Addr) (n c m : Nat) (hq : q ≤ 64) (hp : 0 ≤ p) (hpq : q ≤ p) (W : World) (hX : Hid (XCheckIs W t q s A n c m true)) : Calls Tryz.prog 3 #[.agg #[.int .i64 t, .int .i64 q, .int .i64 s], .slice A n c, .int .i64 p] W (Keeps W) := by
  have t2 : decide (q ≤ (64 : Int)) = true := decide_eq_true (by omega)
  have t3 : decide (p < (0 : Int)) = false := decide_eq_false (by omega)
  have t4 : decide (q ≤ p) = true := decide_eq_true hpq
  have HC := hidp (Held.new W 23 #[.int .i64 t, .int .i64 q, .int .i64 s])
  have HB := hidp (Bnew (B0 W) (.cells #[.int .i64 t, .int .i64 q, .int .i64 s] 23))
  obtain ⟨x0, x1, x2⟩ := HC.out.three
  go_enter Tryz.func3, Tryz.ntmps3
  go_wp2_with fail
  refine (few14_c t q s _).mono ?_
  rintro e w1 ⟨rfl, hb⟩
  rw [t2]
  replace HC := hidp (HC.out.keep hb)
  replace HB := hidp (Bgo HB.out hb)
  clear hb
  clear x0 x1 x2
  obtain ⟨x0, x1, x2⟩ := HC.out.three
  go_wp2_with fail
  refine (xSound_c t q s A n c m true _ (hX.out.grown HB.out)).mono ?_
  rintro e w2 ⟨rfl, hb⟩
  replace HC := hidp (HC.out.keep hb)
  replace HB := hidp (Bgo HB.out hb)
  clear hb
  clear x0 x1 x2
  obtain ⟨x0, x1, x2⟩ := HC.out.three
  go_wp2_with fail
  refine (live14_c _).mono ?_
  rintro e w19 ⟨rfl, hb⟩
  have HBL := hidp (Bgo HB.out hb)
  clear hb
  go_wp2
  go_ret
  exact ⟨rfl, HBL.out⟩

set_option maxHeartbeats 12800000 in
theorem BinBack_main {H : AuH} (ad : Addr) (n c m p : Nat) (HV : HeapV H n c) (hp : p < H.p) (vals : List Nat) (HNN : Hid (vals.length = n)) (H32 : Hid (∀ x ∈ vals, x < 2 ^ 32)) (hVK : ∀ i, H.V i = vals.getD i 0) (hq : H.p ≤ 64) (hr : ∀ i, i < 10 → H.rule i)
    (W : World) (HR : Hid (Reads W W.heap.size 1 (some ad) n (valVs vals))) (hv : Hid (IsVals W ad n H.V)) (hX : Hid (XCheckIs W H.t H.p H.s (some ad) n c m true)) :
    Calls Tryz.prog 3 #[.agg #[.int .i64 (H.t : Int), .int .i64 (H.p : Int), .int .i64 (H.s : Int)], .slice (some ad) n c, .int .i64 (p : Int)] W (Keeps W) := by
  have t2 : decide ((H.p : Int) ≤ 64) = true := decide_eq_true (by omega)
  have t3 : decide ((p : Int) < 0) = false := decide_eq_false (by omega)
  have t4 : decide ((H.p : Int) ≤ (p : Int)) = false := decide_eq_false (by omega)
  have hnb : n ≤ 6238 := by have := HV.nums; omega
  have hn0 : 0 < n := by have := HV.len; omega
  have hcm : c ≤ maxLen := HV.max
  have hcm2 : c ≤ 9223372036854775807 := hcm
  have hn40 : n < 2 ^ 40 := by omega
  have hK : ∀ i, i < n → wholeB14 vals i = some (H.V i) := fun i hi => by
    unfold wholeB14
    rw [hVK i, List.getElem?_eq_getElem (by rw [HNN.out]; exact hi)]
    simp [List.getD, List.getElem?_eq_getElem (show i < vals.length by rw [HNN.out]; exact hi)]
  have h32K : ∀ i x, wholeB14 vals i = some x → x < 2 ^ 32 := fun i x h => H32.out x (List.mem_of_getElem? h)
  obtain ⟨kk, hkk⟩ : ∃ kk, H.K p = kk := ⟨_, rfl⟩
  obtain ⟨ll, hll⟩ : ∃ ll, H.ln p = ll := ⟨_, rfl⟩
  obtain ⟨cc, hcc⟩ : ∃ cc, H.Cl p = cc := ⟨_, rfl⟩
  obtain ⟨dv, hdv⟩ : ∃ dv, dropV n (wholeB14 vals) H.t H.p H.s (p : Int) freshS = dv := ⟨_, rfl⟩
  obtain ⟨s1, hs1⟩ : ∃ s1, dropS n (wholeB14 vals) H.t H.p H.s (p : Int) freshS = s1 := ⟨_, rfl⟩
  have HK := hidp hkk
  have HL := hidp hll
  have HCC := hidp hcc
  have HDV := hidp hdv
  have HS1 := hidp hs1
  have HNO : Hid (kk ≠ 1 → dv = 0 ∧ s1.wr = []) := hidp (fun h => by rw [← hdv, ← hs1]; exact back_no HV hK hp (by rw [hkk]; exact h))
  have HYES : Hid (kk = 1 → dv = (ll : Int) ∧ ∀ st, addS n (wholeB14 vals) H.t H.p H.s (p : Int) (ll : Int) s1 = st → VOk n st → ∀ (L : List (Int × Int)), blocksOf H.parts = L → ∀ (r0 r1 r2 r3 r4 r5 r6 r7 : Nat), H.V 22 = r0 → H.V 23 = r1 → H.V 24 = r2 → H.V 25 = r3 → H.V 26 = r4 → H.V 27 = r5 → H.V 28 = r6 → H.V 29 = r7 → ∀ (w : World) (g cp : Nat), RowF w g 56 n cp (valF (nowV (wholeB14 vals) st.wr)) → Calls Tryz.prog 12 #[.agg #[.int .i64 (H.t : Int), .int .i64 (H.p : Int), .int .i64 (H.s : Int)], .slice (some ⟨g, 0, none⟩) n cp] w (fun e w' => ∃ u, e = .returned (.tuple #[.agg #[u, .int .i64 (r0 : Int), .int .i64 (r1 : Int), .int .i64 (r2 : Int), .int .i64 (r3 : Int), .int .i64 (r4 : Int), .int .i64 (r5 : Int), .int .i64 (r6 : Int), .int .i64 (r7 : Int)], .bool true]) ∧ w'.ownsRow w.heap.size 79 2 u L.length (bkVs L) ∧ Below w.heap.size w w')) := hidp (fun h => by
    have hk1 : H.K p = 1 := by rw [hkk]; exact h
    refine ⟨?_, fun st hst hok L hL r0 r1 r2 r3 r4 r5 r6 r7 e0 e1 e2 e3 e4 e5 e6 e7 w g cp hrow => ?_⟩
    · rw [← hdv, ← hll]; exact (back_heap HV hr hK hp hk1).1
    · rw [← hs1, ← hll] at hst
      exact now_state HV hr hK hp hk1 hst hok h32K L hL r0 r1 r2 r3 r4 r5 r6 r7 e0 e1 e2 e3 e4 e5 e6 e7 w g cp hrow)
  have hl1 : ll ≤ 1024 := by
    rw [← hll]
    rcases H.K_cases p with h | h | h <;> omega
  clear hkk hll hcc hdv hs1 hK hr hVK h32K
  have HC := hidp (Held.new W 23 #[.int .i64 (H.t : Int), .int .i64 (H.p : Int), .int .i64 (H.s : Int)])
  have HB := hidp (Bnew (B0 W) (.cells #[.int .i64 (H.t : Int), .int .i64 (H.p : Int), .int .i64 (H.s : Int)] 23))
  obtain ⟨x0, x1, x2⟩ := HC.out.three
  go_enter Tryz.func3, Tryz.ntmps3
  go_wp2_with fail
  refine (few14_c H.t H.p H.s _).mono ?_
  rintro e w1 ⟨rfl, hb⟩
  rw [t2]
  replace HC := hidp (HC.out.keep hb)
  replace HB := hidp (Bgo HB.out hb)
  clear hb
  clear x0 x1 x2
  obtain ⟨x0, x1, x2⟩ := HC.out.three
  go_wp2_with fail
  refine (xSound_c H.t H.p H.s (some ad) n c m true _ (hX.out.grown HB.out)).mono ?_
  rintro e w2 ⟨rfl, hb⟩
  replace HC := hidp (HC.out.keep hb)
  replace HB := hidp (Bgo HB.out hb)
  clear hb
  clear x0 x1 x2
  obtain ⟨x0, x1, x2⟩ := HC.out.three
  have HX2 := hidp (Held.new w2 29 #[.int .i64 (H.t : Int), .int .i64 (H.p : Int), .int .i64 (H.s : Int), .slice (some ad) n c])
  obtain ⟨y0, y1, y2, y3⟩ := HX2.out.four
  replace HC := hidp (HC.out.alloc (.cells #[.int .i64 (H.t : Int), .int .i64 (H.p : Int), .int .i64 (H.s : Int), .slice (some ad) n c] 29))
  replace HB := hidp (Bnew HB.out (.cells #[.int .i64 (H.t : Int), .int .i64 (H.p : Int), .int .i64 (H.s : Int), .slice (some ad) n c] 29))
  obtain ⟨v0, v1, v2⟩ := HC.out.three
  go_wp2_with fail
  refine (xInfo_c HV ad hp _ (hv.out.below HB.out)).mono ?_
  rintro e w4 ⟨rfl, hb⟩
  rw [HK.out, HL.out, HCC.out]
  replace HC := hidp ((HC.out.keep hb).alloc (.cells #[.int .i64 kk, .int .i64 (ll : Int), .int .i64 cc] 31))
  replace HB := hidp (Bnew (Bgo HB.out hb) (.cells #[.int .i64 kk, .int .i64 (ll : Int), .int .i64 cc] 31))
  have HI := hidp (Held.new w4 31 #[.int .i64 kk, .int .i64 (ll : Int), .int .i64 cc])
  clear hb HX2 x0 x1 x2 y0 y1 y2 y3 v0 v1 v2
  obtain ⟨x0, x1, x2⟩ := HC.out.three
  obtain ⟨y0, y1, y2⟩ := HI.out.three
  go_wp2_with fail
  generalize hN8 : w4.heap.size = N8 at *
  generalize hw5 : w4.alloc (.cells #[.int .i64 kk, .int .i64 (ll : Int), .int .i64 cc] 31) = w5 at *
  clear hw5
  have HRw : Hid (Reads w5 w5.heap.size 1 (some ad) n (valVs vals)) := hidp ((HR.out.below HB.out).more HB.out.size)
  refine (Whole_c (some ad) c vals n HNN.out (by omega) H32.out _ (by
    intro h0
    obtain ⟨ad', e, _, hc⟩ := HRw.out.2 h0
    exact ⟨ad', e, hc⟩)).mono ?_
  rintro e w6 ⟨b1, o1, rfl, hI, hB⟩
  have HD := hidp (duo_made (W := W) (G := fun g => g = W.heap.size ∨ g = N8) hI HB.out.size (Bgo HB.out hB) (fun g hg => by
    have h1 := HC.out.lt
    have h2 := HI.out.lt
    have h3 := hB.size
    rcases hg with rfl | rfl
    · exact ⟨by omega, fun x => by have := hI.ge _ x; omega⟩
    · exact ⟨by omega, fun x => by have := hI.ge _ x; omega⟩))
  replace HC := hidp (HC.out.keep hB)
  replace HI := hidp (HI.out.keep hB)
  clear hI hB HRw HB x0 x1 x2 y0 y1 y2
  obtain ⟨x0, x1, x2⟩ := HC.out.three
  obtain ⟨y0, y1, y2⟩ := HI.out.three
  go_wp2_with fail
  refine (bnDrop_c hn40 (by omega) (p : Int) HD.out.at1).mono ?_
  rintro e w8 ⟨rfl, h1, _⟩
  obtain ⟨A8, h2, h3⟩ := HD.out.left1 h1.left
  rw [show (fun i => vals[i]?) = wholeB14 vals from rfl] at h2 ⊢
  rw [HDV.out]
  rw [HS1.out] at h2
  replace HC := hidp (h3.held (.inl rfl) HC.out)
  replace HI := hidp (h3.held (.inr rfl) HI.out)
  replace HD := hidp h2
  clear h1 h2 h3 HDV HS1 x0 x1 x2 y0 y1 y2
  obtain ⟨x0, x1, x2⟩ := HC.out.three
  obtain ⟨y0, y1, y2⟩ := HI.out.three
  by_cases hk1 : kk = 1
  · subst hk1
    obtain ⟨hd, hy⟩ := HYES.out rfl
    subst hd
    have HYY := hidp hy
    clear hy HYES HNO
    go_wp2_with fail
    refine (bnAdd_c hn40 (by omega) (p : Int) (ll : Int) HD.out.at1).mono ?_
    rintro e w9 ⟨rfl, h1, _⟩
    obtain ⟨A9, h2, h3⟩ := HD.out.left1 h1.left
    obtain ⟨st, hst⟩ : ∃ st, addS n (wholeB14 vals) H.t H.p H.s (p : Int) (ll : Int) s1 = st := ⟨_, rfl⟩
    rw [hst] at h2
    obtain ⟨o9, hI9, _⟩ := h2.i1
    obtain ⟨L, hL⟩ : ∃ L, blocksOf H.parts = L := ⟨_, rfl⟩
    obtain ⟨nl, hnl⟩ : ∃ nl, L.length = nl := ⟨_, rfl⟩
    have HNL := hidp hnl
    have hnlb : nl ≤ 100000 := by rw [← hnl, ← hL]; exact blocks_few14 HV
    have hnlb2 : nl < 2 ^ 40 := by omega

    obtain ⟨r0, hr0⟩ : ∃ r, H.V 22 = r := ⟨_, rfl⟩
    obtain ⟨r1, hr1⟩ : ∃ r, H.V 23 = r := ⟨_, rfl⟩
    obtain ⟨r2, hr2⟩ : ∃ r, H.V 24 = r := ⟨_, rfl⟩
    obtain ⟨r3, hr3⟩ : ∃ r, H.V 25 = r := ⟨_, rfl⟩
    obtain ⟨r4, hr4⟩ : ∃ r, H.V 26 = r := ⟨_, rfl⟩
    obtain ⟨r5, hr5⟩ : ∃ r, H.V 27 = r := ⟨_, rfl⟩
    obtain ⟨r6, hr6⟩ : ∃ r, H.V 28 = r := ⟨_, rfl⟩
    obtain ⟨r7, hr7⟩ : ∃ r, H.V 29 = r := ⟨_, rfl⟩
    have HNOW := hidp (HYY.out st hst hI9.ok L hL r0 r1 r2 r3 r4 r5 r6 r7 hr0 hr1 hr2 hr3 hr4 hr5 hr6 hr7)
    have HVW := hidp hI9
    have HLM : Hid (st.wr.length < 2 ^ 40) := hidp (by have := hI9.ok.few; omega)
    have HB := hidp h2.bel
    replace HC := hidp (h3.held (.inl rfl) HC.out)
    replace HI := hidp (h3.held (.inr rfl) HI.out)
    have HRS : Hid (H.V 22 = r0 ∧ H.V 23 = r1 ∧ H.V 24 = r2 ∧ H.V 25 = r3 ∧ H.V 26 = r4 ∧ H.V 27 = r5 ∧ H.V 28 = r6 ∧ H.V 29 = r7 ∧ blocksOf H.parts = L) := hidp ⟨hr0, hr1, hr2, hr3, hr4, hr5, hr6, hr7, hL⟩
    clear h1 h2 h3 hI9 HYY HD hst hL hnl hr0 hr1 hr2 hr3 hr4 hr5 hr6 hr7 x0 x1 x2 y0 y1 y2
    obtain ⟨x0, x1, x2⟩ := HC.out.three
    obtain ⟨y0, y1, y2⟩ := HI.out.three
    go_wp2_with fail
    refine (xState_yes HV ad m _ (hv.out.below HB.out) (hX.out.grown HB.out)).mono ?_
    rintro e w10 ⟨u1, rfl, hown, hb⟩
    obtain ⟨hr0, hr1, hr2, hr3, hr4, hr5, hr6, hr7, hL⟩ := HRS.out
    rw [hr0, hr1, hr2, hr3, hr4, hr5, hr6, hr7]
    rw [hL, HNL.out] at hown
    obtain ⟨A1, k1, hu1⟩ := own_slice hown
    subst hu1
    have HO1 : Hid ((w10.alloc (.cells #[.slice A1 nl k1, .int .i64 (r0 : Int), .int .i64 (r1 : Int), .int .i64 (r2 : Int), .int .i64 (r3 : Int), .int .i64 (r4 : Int), .int .i64 (r5 : Int), .int .i64 (r6 : Int), .int .i64 (r7 : Int)] 42)).ownsRow 0 79 2 (.slice A1 nl k1) nl (bkVs L)) := hidp (own_below (own_lower hown (Nat.zero_le _)) (Bnew (B0 _) _))
    have HS := hidp (Held.new w10 42 #[.slice A1 nl k1, .int .i64 (r0 : Int), .int .i64 (r1 : Int), .int .i64 (r2 : Int), .int .i64 (r3 : Int), .int .i64 (r4 : Int), .int .i64 (r5 : Int), .int .i64 (r6 : Int), .int .i64 (r7 : Int)])
    replace HC := hidp ((HC.out.keep hb).alloc (.cells #[.slice A1 nl k1, .int .i64 (r0 : Int), .int .i64 (r1 : Int), .int .i64 (r2 : Int), .int .i64 (r3 : Int), .int .i64 (r4 : Int), .int .i64 (r5 : Int), .int .i64 (r6 : Int), .int .i64 (r7 : Int)] 42))
    replace HI := hidp ((HI.out.keep hb).alloc (.cells #[.slice A1 nl k1, .int .i64 (r0 : Int), .int .i64 (r1 : Int), .int .i64 (r2 : Int), .int .i64 (r3 : Int), .int .i64 (r4 : Int), .int .i64 (r5 : Int), .int .i64 (r6 : Int), .int .i64 (r7 : Int)] 42))
    replace HB := hidp (Bnew (Bgo HB.out hb) (.cells #[.slice A1 nl k1, .int .i64 (r0 : Int), .int .i64 (r1 : Int), .int .i64 (r2 : Int), .int .i64 (r3 : Int), .int .i64 (r4 : Int), .int .i64 (r5 : Int), .int .i64 (r6 : Int), .int .i64 (r7 : Int)] 42))
    replace HVW := hidp ((HVW.out.keep hb).keep (Bnew (B0 _) (.cells #[.slice A1 nl k1, .int .i64 (r0 : Int), .int .i64 (r1 : Int), .int .i64 (r2 : Int), .int .i64 (r3 : Int), .int .i64 (r4 : Int), .int .i64 (r5 : Int), .int .i64 (r6 : Int), .int .i64 (r7 : Int)] 42)))
    clear hb hown HRS hr0 hr1 hr2 hr3 hr4 hr5 hr6 hr7 hL x0 x1 x2 y0 y1 y2
    go_wp2_with fail
    generalize hN11 : w10.heap.size = N11 at *
    generalize hw11 : w10.alloc (.cells #[.slice A1 nl k1, .int .i64 (r0 : Int), .int .i64 (r1 : Int), .int .i64 (r2 : Int), .int .i64 (r3 : Int), .int .i64 (r4 : Int), .int .i64 (r5 : Int), .int .i64 (r6 : Int), .int .i64 (r7 : Int)] 42) = w11 at *
    clear hN11 hw11
    go_cut [13, 14] from 72 to 78 (fun u13 u14 wx => ∃ (N13 k2 : Nat) (A2 : Option Addr), u13 = .pointer (some ⟨N13, 0, none⟩) ∧ u14 = .bool true ∧ Held wx N13 42 #[.slice A2 nl k2, .int .i64 (r0 : Int), .int .i64 (r1 : Int), .int .i64 (r2 : Int), .int .i64 (r3 : Int), .int .i64 (r4 : Int), .int .i64 (r5 : Int), .int .i64 (r6 : Int), .int .i64 (r7 : Int)] ∧ wx.ownsRow 0 79 2 (.slice A2 nl k2) nl (bkVs L) ∧ Held wx N8 31 #[.int .i64 1, .int .i64 (ll : Int), .int .i64 cc] ∧ Held wx N11 42 #[.slice A1 nl k1, .int .i64 (r0 : Int), .int .i64 (r1 : Int), .int .i64 (r2 : Int), .int .i64 (r3 : Int), .int .i64 (r4 : Int), .int .i64 (r5 : Int), .int .i64 (r6 : Int), .int .i64 (r7 : Int)] ∧ wx.ownsRow 0 79 2 (.slice A1 nl k1) nl (bkVs L) ∧ Below W.heap.size W wx)
    case first =>
      replace HC := hidp HC.out.drw
      replace HI := hidp HI.out.drw
      replace HS := hidp HS.out.drw
      replace HO1 := hidp (own_below HO1.out (Bdrew (B0 w11)))
      replace HB := hidp (Bdrew HB.out)
      replace HVW := hidp (HVW.out.keep (Bdrew (B0 w11)))
      refine wp_region_held_drew (S := (fun w' => w'.cell? ⟨W.heap.size, 0, none⟩ = some (.int .i64 (H.t : Int)) ∧ w'.cell? ⟨W.heap.size, 1, none⟩ = some (.int .i64 (H.p : Int)) ∧ w'.cell? ⟨W.heap.size, 2, none⟩ = some (.int .i64 (H.s : Int)))) (by kernel_rfl) ?_ (fun hHeld => ?_)
      · (try dsimp only)
        first | exact HC.out.three | exact hHeld
      generalize hq0 : (w11).drew = q0 at HC HI HS HO1 HB HVW hHeld ⊢
      clear hq0
      refine tkO (i := 0) (v := ?_) rfl (by kernel_rfl) (fun _ _ _ h => h) (by rfl) ?_ (by assumption) ?_
      rotate_left
      · intro w hSw; (try dsimp only at hSw); go_simp; (try with_reducible rfl)
      (try simp only [Act.put, gA, gB, gC, sA, sB, sC])
      refine tkO (i := 1) (v := ?_) rfl (by kernel_rfl) (fun _ _ _ h => h) (by rfl) ?_ (by assumption) ?_
      rotate_left
      · intro w hSw; (try dsimp only at hSw); go_simp; (try with_reducible rfl)
      (try simp only [Act.put, gA, gB, gC, sA, sB, sC])
      refine wpAnyH_ready (rs := [2, 7]) (by kernel_rfl) (by simp) ?_
      refine AllReadyH.cons (o := _) rfl (fun K hK => ?_) (AllReadyH.cons (o := _) rfl (fun K hK => ?_) AllReadyH.nil)
      · skip
        go_simp
        refine (vVals_some hn0 HLM.out _ HVW.out).mono ?_
        rintro e v1 ⟨g, cp, rfl, _, hrow, hb⟩
        have HRF := hidp hrow
        clear HVW hrow
        replace HC := hidp (HC.out.keep hb)
        replace HI := hidp (HI.out.keep hb)
        replace HS := hidp (HS.out.keep hb)
        replace HO1 := hidp (own_below HO1.out hb)
        replace HB := hidp (Bgo HB.out hb)
        clear hb
        refine hK.out _ _ ?_ (fun hHeld => ?_)
        · (try dsimp only)
          first | exact HC.out.three | exact hHeld
        clear hK K
        (try simp only [Act.put, gA, gB, gC, sA, sB, sC])
        refine wpAnyH_ready (rs := [3, 7]) (by kernel_rfl) (by simp) ?_
        refine AllReadyH.cons (o := _) rfl (fun K hK => ?_) (AllReadyH.cons (o := _) rfl (fun K hK => ?_) AllReadyH.nil)
        · skip
          go_simp
          refine (HNOW.out _ _ _ HRF.out).mono ?_
          rintro e v2 ⟨u2, rfl, hown, hb⟩
          rw [HNL.out] at hown
          obtain ⟨A2, k2, hu2⟩ := own_slice hown
          subst hu2
          have HO2 : Hid (v2.ownsRow 0 79 2 (.slice A2 nl k2) nl (bkVs L)) := hidp (own_lower hown (Nat.zero_le _))
          clear HRF hown
          replace HC := hidp (HC.out.keep hb)
          replace HI := hidp (HI.out.keep hb)
          replace HS := hidp (HS.out.keep hb)
          replace HO1 := hidp (own_below HO1.out hb)
          replace HB := hidp (Bgo HB.out hb)
          clear hb
          refine hK.out _ _ ?_ (fun hHeld => ?_)
          · (try dsimp only)
            first | exact HC.out.three | exact hHeld
          clear hK K
          (try simp only [Act.put, gA, gB, gC, sA, sB, sC])
          refine tkO (i := 4) (v := ?_) rfl (by kernel_rfl) (fun _ _ _ h => h) (by rfl) ?_ (by assumption) ?_
          rotate_left
          · intro w hSw; (try dsimp only at hSw); go_simp; (try with_reducible rfl)
          (try simp only [Act.put, gA, gB, gC, sA, sB, sC])
          refine tkO (i := 5) (v := ?_) rfl (by kernel_rfl) (fun _ _ _ h => h) (by rfl) ?_ (by assumption) ?_
          rotate_left
          · intro w hSw; (try dsimp only at hSw); go_simp; (try with_reducible rfl)
          (try simp only [Act.put, gA, gB, gC, sA, sB, sC])
          refine tkO (i := 6) (v := ?_) rfl (by kernel_rfl) (fun _ _ _ h => h) (by rfl) ?_ (by assumption) ?_
          rotate_left
          · intro w hSw; (try dsimp only at hSw); go_simp; (try with_reducible rfl)
          (try simp only [Act.put, gA, gB, gC, sA, sB, sC])
          refine wpAnyH_ready (rs := [7]) (by kernel_rfl) (by simp) ?_
          refine AllReadyH.cons (o := _) rfl (fun K hK => ?_) AllReadyH.nil
          · skip
            go_simp
            have hb := Bnew (B0 v2) (.cells #[.slice none 0 0, .int .i64 0, .int .i64 0, .int .i64 0, .int .i64 0, .int .i64 0, .int .i64 0, .int .i64 0, .int .i64 0] 42)
            have HN := hidp (Held.new v2 42 #[.slice none 0 0, .int .i64 0, .int .i64 0, .int .i64 0, .int .i64 0, .int .i64 0, .int .i64 0, .int .i64 0, .int .i64 0])
            have HLE := hidp HB.out.size
            have HLT : Hid (W.heap.size < v2.heap.size ∧ N8 < v2.heap.size ∧ N11 < v2.heap.size) := hidp ⟨HC.out.lt, HI.out.lt, HS.out.lt⟩
            replace HC := hidp (HC.out.keep hb)
            replace HI := hidp (HI.out.keep hb)
            replace HS := hidp (HS.out.keep hb)
            replace HO1 := hidp (own_below HO1.out hb)
            replace HB := hidp (Bgo HB.out hb)
            replace HO2 := hidp (own_below HO2.out hb)
            clear hb
            generalize hn13 : v2.heap.size = N13 at *
            generalize hw13 : v2.alloc (.cells #[.slice none 0 0, .int .i64 0, .int .i64 0, .int .i64 0, .int .i64 0, .int .i64 0, .int .i64 0, .int .i64 0, .int .i64 0] 42) = v3 at *
            clear hn13 hw13
            refine hK.out _ _ ?_ (fun hHeld => ?_)
            · (try dsimp only)
              first | exact HC.out.three | exact hHeld
            clear hK K
            (try simp only [Act.put, gA, gB, gC, sA, sB, sC])
            refine wpAnyH_ready (rs := [8]) (by kernel_rfl) (by simp) ?_
            refine AllReadyH.cons (o := _) rfl (fun K hK => ?_) AllReadyH.nil
            obtain ⟨z0, z1, z2, z3, z4, z5, z6, z7, z8⟩ := HN.out.nine
            obtain ⟨f0, f1, f2, f3, f4, f5, f6, f7, f8⟩ := HN.out.thawed9
            have hne1 := heldOwn_ne HN.out HO1.out (by decide)
            have hne2 := heldOwn_ne HN.out HO2.out (by decide)
            go_simp
            obtain ⟨WF, hWF⟩ : ∃ WF, set9 (v3) N13 (.slice A2 nl k2) (.int .i64 (r0 : Int)) (.int .i64 (r1 : Int)) (.int .i64 (r2 : Int)) (.int .i64 (r3 : Int)) (.int .i64 (r4 : Int)) (.int .i64 (r5 : Int)) (.int .i64 (r6 : Int)) (.int .i64 (r7 : Int)) = WF := ⟨_, rfl⟩
            have hN := HN.out.set9 (.slice A2 nl k2) (.int .i64 (r0 : Int)) (.int .i64 (r1 : Int)) (.int .i64 (r2 : Int)) (.int .i64 (r3 : Int)) (.int .i64 (r4 : Int)) (.int .i64 (r5 : Int)) (.int .i64 (r6 : Int)) (.int .i64 (r7 : Int))
            have hBF := below_set9 (g := N13) HB.out HLE.out (.slice A2 nl k2) (.int .i64 (r0 : Int)) (.int .i64 (r1 : Int)) (.int .i64 (r2 : Int)) (.int .i64 (r3 : Int)) (.int .i64 (r4 : Int)) (.int .i64 (r5 : Int)) (.int .i64 (r6 : Int)) (.int .i64 (r7 : Int))
            have hC := (heap_set9 (w := v3) (g := N13) (j := W.heap.size) (by have := HLT.out; omega) (.slice A2 nl k2) (.int .i64 (r0 : Int)) (.int .i64 (r1 : Int)) (.int .i64 (r2 : Int)) (.int .i64 (r3 : Int)) (.int .i64 (r4 : Int)) (.int .i64 (r5 : Int)) (.int .i64 (r6 : Int)) (.int .i64 (r7 : Int))).trans HC.out
            have hI := (heap_set9 (w := v3) (g := N13) (j := N8) (by have := HLT.out; omega) (.slice A2 nl k2) (.int .i64 (r0 : Int)) (.int .i64 (r1 : Int)) (.int .i64 (r2 : Int)) (.int .i64 (r3 : Int)) (.int .i64 (r4 : Int)) (.int .i64 (r5 : Int)) (.int .i64 (r6 : Int)) (.int .i64 (r7 : Int))).trans HI.out
            have hS := (heap_set9 (w := v3) (g := N13) (j := N11) (by have := HLT.out; omega) (.slice A2 nl k2) (.int .i64 (r0 : Int)) (.int .i64 (r1 : Int)) (.int .i64 (r2 : Int)) (.int .i64 (r3 : Int)) (.int .i64 (r4 : Int)) (.int .i64 (r5 : Int)) (.int .i64 (r6 : Int)) (.int .i64 (r7 : Int))).trans HS.out
            have hO1 := own_set9 (g := N13) HO1.out (fun j hj e => hne1 (e ▸ hj)) (.slice A2 nl k2) (.int .i64 (r0 : Int)) (.int .i64 (r1 : Int)) (.int .i64 (r2 : Int)) (.int .i64 (r3 : Int)) (.int .i64 (r4 : Int)) (.int .i64 (r5 : Int)) (.int .i64 (r6 : Int)) (.int .i64 (r7 : Int))
            have hO2 := own_set9 (g := N13) HO2.out (fun j hj e => hne2 (e ▸ hj)) (.slice A2 nl k2) (.int .i64 (r0 : Int)) (.int .i64 (r1 : Int)) (.int .i64 (r2 : Int)) (.int .i64 (r3 : Int)) (.int .i64 (r4 : Int)) (.int .i64 (r5 : Int)) (.int .i64 (r6 : Int)) (.int .i64 (r7 : Int))
            rw [hWF] at hN hBF hC hI hS hO1 hO2
            unfold set9 at hWF
            rw [hWF]
            clear hWF hne1 hne2 z0 z1 z2 z3 z4 z5 z6 z7 z8 f0 f1 f2 f3 f4 f5 f6 f7 f8
            replace HC : Hid (Held WF W.heap.size 23 #[.int .i64 (H.t : Int), .int .i64 (H.p : Int), .int .i64 (H.s : Int)]) := hidp hC
            replace HI : Hid (Held WF N8 31 #[.int .i64 1, .int .i64 (ll : Int), .int .i64 cc]) := hidp hI
            replace HS : Hid (Held WF N11 42 #[.slice A1 nl k1, .int .i64 (r0 : Int), .int .i64 (r1 : Int), .int .i64 (r2 : Int), .int .i64 (r3 : Int), .int .i64 (r4 : Int), .int .i64 (r5 : Int), .int .i64 (r6 : Int), .int .i64 (r7 : Int)]) := hidp hS
            replace HO1 := hidp hO1
            replace HO2 := hidp hO2
            replace HB := hidp hBF
            replace HN := hidp hN
            clear hN hBF hC hI hS hO1 hO2
            refine hK.out _ _ ?_ (fun hHeld => ?_)
            · (try dsimp only)
              first | exact HC.out.three | exact hHeld
            clear hK K
            (try simp only [Act.put, gA, gB, gC, sA, sB, sC])
            refine tkO (i := 9) (v := ?_) rfl (by kernel_rfl) (fun _ _ _ h => h) (by rfl) ?_ (by assumption) ?_
            rotate_left
            · intro w hSw; (try dsimp only at hSw); go_simp; (try with_reducible rfl)
            (try simp only [Act.put, gA, gB, gC, sA, sB, sC])
            refine wpAnyH_done (by kernel_rfl) ?_ _
            go_wp2_with fail
            go_meet
            case rel => exact ⟨_, _, _, rfl, rfl, HN.out, HO2.out, HI.out, HS.out, HO1.out, HB.out⟩
        · skip
          go_simp
          have hb := Bnew (B0 v1) (.cells #[.slice none 0 0, .int .i64 0, .int .i64 0, .int .i64 0, .int .i64 0, .int .i64 0, .int .i64 0, .int .i64 0, .int .i64 0] 42)
          have HN := hidp (Held.new v1 42 #[.slice none 0 0, .int .i64 0, .int .i64 0, .int .i64 0, .int .i64 0, .int .i64 0, .int .i64 0, .int .i64 0, .int .i64 0])
          have HLE := hidp HB.out.size
          have HLT : Hid (W.heap.size < v1.heap.size ∧ N8 < v1.heap.size ∧ N11 < v1.heap.size) := hidp ⟨HC.out.lt, HI.out.lt, HS.out.lt⟩
          replace HC := hidp (HC.out.keep hb)
          replace HI := hidp (HI.out.keep hb)
          replace HS := hidp (HS.out.keep hb)
          replace HO1 := hidp (own_below HO1.out hb)
          replace HB := hidp (Bgo HB.out hb)
          replace HRF := hidp (HRF.out.keep hb)
          clear hb
          generalize hn13 : v1.heap.size = N13 at *
          generalize hw13 : v1.alloc (.cells #[.slice none 0 0, .int .i64 0, .int .i64 0, .int .i64 0, .int .i64 0, .int .i64 0, .int .i64 0, .int .i64 0, .int .i64 0] 42) = v4 at *
          clear hn13 hw13
          refine hK.out _ _ ?_ (fun hHeld => ?_)
          · (try dsimp only)
            first | exact HC.out.three | exact hHeld
          clear hK K
          (try simp only [Act.put, gA, gB, gC, sA, sB, sC])
          refine wpAnyH_ready (rs := [3]) (by kernel_rfl) (by simp) ?_
          refine AllReadyH.cons (o := _) rfl (fun K hK => ?_) AllReadyH.nil
          · skip
            go_simp
            refine (HNOW.out _ _ _ HRF.out).mono ?_
            rintro e v5 ⟨u2, rfl, hown, hb⟩
            rw [HNL.out] at hown
            obtain ⟨A2, k2, hu2⟩ := own_slice hown
            subst hu2
            have HO2 : Hid (v5.ownsRow 0 79 2 (.slice A2 nl k2) nl (bkVs L)) := hidp (own_lower hown (Nat.zero_le _))
            clear HRF hown
            replace HC := hidp (HC.out.keep hb)
            replace HI := hidp (HI.out.keep hb)
            replace HS := hidp (HS.out.keep hb)
            replace HO1 := hidp (own_below HO1.out hb)
            replace HB := hidp (Bgo HB.out hb)
            replace HN := hidp (HN.out.keep hb)
            clear hb
            refine hK.out _ _ ?_ (fun hHeld => ?_)
            · (try dsimp only)
              first | exact HC.out.three | exact hHeld
            clear hK K
            (try simp only [Act.put, gA, gB, gC, sA, sB, sC])
            refine tkO (i := 4) (v := ?_) rfl (by kernel_rfl) (fun _ _ _ h => h) (by rfl) ?_ (by assumption) ?_
            rotate_left
            · intro w hSw; (try dsimp only at hSw); go_simp; (try with_reducible rfl)
            (try simp only [Act.put, gA, gB, gC, sA, sB, sC])
            refine tkO (i := 5) (v := ?_) rfl (by kernel_rfl) (fun _ _ _ h => h) (by rfl) ?_ (by assumption) ?_
            rotate_left
            · intro w hSw; (try dsimp only at hSw); go_simp; (try with_reducible rfl)
            (try simp only [Act.put, gA, gB, gC, sA, sB, sC])
            refine tkO (i := 6) (v := ?_) rfl (by kernel_rfl) (fun _ _ _ h => h) (by rfl) ?_ (by assumption) ?_
            rotate_left
            · intro w hSw; (try dsimp only at hSw); go_simp; (try with_reducible rfl)
            (try simp only [Act.put, gA, gB, gC, sA, sB, sC])
            refine wpAnyH_ready (rs := [8]) (by kernel_rfl) (by simp) ?_
            refine AllReadyH.cons (o := _) rfl (fun K hK => ?_) AllReadyH.nil
            obtain ⟨z0, z1, z2, z3, z4, z5, z6, z7, z8⟩ := HN.out.nine
            obtain ⟨f0, f1, f2, f3, f4, f5, f6, f7, f8⟩ := HN.out.thawed9
            have hne1 := heldOwn_ne HN.out HO1.out (by decide)
            have hne2 := heldOwn_ne HN.out HO2.out (by decide)
            go_simp
            obtain ⟨WF, hWF⟩ : ∃ WF, set9 (v5) N13 (.slice A2 nl k2) (.int .i64 (r0 : Int)) (.int .i64 (r1 : Int)) (.int .i64 (r2 : Int)) (.int .i64 (r3 : Int)) (.int .i64 (r4 : Int)) (.int .i64 (r5 : Int)) (.int .i64 (r6 : Int)) (.int .i64 (r7 : Int)) = WF := ⟨_, rfl⟩
            have hN := HN.out.set9 (.slice A2 nl k2) (.int .i64 (r0 : Int)) (.int .i64 (r1 : Int)) (.int .i64 (r2 : Int)) (.int .i64 (r3 : Int)) (.int .i64 (r4 : Int)) (.int .i64 (r5 : Int)) (.int .i64 (r6 : Int)) (.int .i64 (r7 : Int))
            have hBF := below_set9 (g := N13) HB.out HLE.out (.slice A2 nl k2) (.int .i64 (r0 : Int)) (.int .i64 (r1 : Int)) (.int .i64 (r2 : Int)) (.int .i64 (r3 : Int)) (.int .i64 (r4 : Int)) (.int .i64 (r5 : Int)) (.int .i64 (r6 : Int)) (.int .i64 (r7 : Int))
            have hC := (heap_set9 (w := v5) (g := N13) (j := W.heap.size) (by have := HLT.out; omega) (.slice A2 nl k2) (.int .i64 (r0 : Int)) (.int .i64 (r1 : Int)) (.int .i64 (r2 : Int)) (.int .i64 (r3 : Int)) (.int .i64 (r4 : Int)) (.int .i64 (r5 : Int)) (.int .i64 (r6 : Int)) (.int .i64 (r7 : Int))).trans HC.out
            have hI := (heap_set9 (w := v5) (g := N13) (j := N8) (by have := HLT.out; omega) (.slice A2 nl k2) (.int .i64 (r0 : Int)) (.int .i64 (r1 : Int)) (.int .i64 (r2 : Int)) (.int .i64 (r3 : Int)) (.int .i64 (r4 : Int)) (.int .i64 (r5 : Int)) (.int .i64 (r6 : Int)) (.int .i64 (r7 : Int))).trans HI.out
            have hS := (heap_set9 (w := v5) (g := N13) (j := N11) (by have := HLT.out; omega) (.slice A2 nl k2) (.int .i64 (r0 : Int)) (.int .i64 (r1 : Int)) (.int .i64 (r2 : Int)) (.int .i64 (r3 : Int)) (.int .i64 (r4 : Int)) (.int .i64 (r5 : Int)) (.int .i64 (r6 : Int)) (.int .i64 (r7 : Int))).trans HS.out
            have hO1 := own_set9 (g := N13) HO1.out (fun j hj e => hne1 (e ▸ hj)) (.slice A2 nl k2) (.int .i64 (r0 : Int)) (.int .i64 (r1 : Int)) (.int .i64 (r2 : Int)) (.int .i64 (r3 : Int)) (.int .i64 (r4 : Int)) (.int .i64 (r5 : Int)) (.int .i64 (r6 : Int)) (.int .i64 (r7 : Int))
            have hO2 := own_set9 (g := N13) HO2.out (fun j hj e => hne2 (e ▸ hj)) (.slice A2 nl k2) (.int .i64 (r0 : Int)) (.int .i64 (r1 : Int)) (.int .i64 (r2 : Int)) (.int .i64 (r3 : Int)) (.int .i64 (r4 : Int)) (.int .i64 (r5 : Int)) (.int .i64 (r6 : Int)) (.int .i64 (r7 : Int))
            rw [hWF] at hN hBF hC hI hS hO1 hO2
            unfold set9 at hWF
            rw [hWF]
            clear hWF hne1 hne2 z0 z1 z2 z3 z4 z5 z6 z7 z8 f0 f1 f2 f3 f4 f5 f6 f7 f8
            replace HC : Hid (Held WF W.heap.size 23 #[.int .i64 (H.t : Int), .int .i64 (H.p : Int), .int .i64 (H.s : Int)]) := hidp hC
            replace HI : Hid (Held WF N8 31 #[.int .i64 1, .int .i64 (ll : Int), .int .i64 cc]) := hidp hI
            replace HS : Hid (Held WF N11 42 #[.slice A1 nl k1, .int .i64 (r0 : Int), .int .i64 (r1 : Int), .int .i64 (r2 : Int), .int .i64 (r3 : Int), .int .i64 (r4 : Int), .int .i64 (r5 : Int), .int .i64 (r6 : Int), .int .i64 (r7 : Int)]) := hidp hS
            replace HO1 := hidp hO1
            replace HO2 := hidp hO2
            replace HB := hidp hBF
            replace HN := hidp hN
            clear hN hBF hC hI hS hO1 hO2
            refine hK.out _ _ ?_ (fun hHeld => ?_)
            · (try dsimp only)
              first | exact HC.out.three | exact hHeld
            clear hK K
            (try simp only [Act.put, gA, gB, gC, sA, sB, sC])
            refine tkO (i := 9) (v := ?_) rfl (by kernel_rfl) (fun _ _ _ h => h) (by rfl) ?_ (by assumption) ?_
            rotate_left
            · intro w hSw; (try dsimp only at hSw); go_simp; (try with_reducible rfl)
            (try simp only [Act.put, gA, gB, gC, sA, sB, sC])
            refine wpAnyH_done (by kernel_rfl) ?_ _
            go_wp2_with fail
            go_meet
            case rel => exact ⟨_, _, _, rfl, rfl, HN.out, HO2.out, HI.out, HS.out, HO1.out, HB.out⟩
      · skip
        go_simp
        have hb := Bnew (B0 q0) (.cells #[.slice none 0 0, .int .i64 0, .int .i64 0, .int .i64 0, .int .i64 0, .int .i64 0, .int .i64 0, .int .i64 0, .int .i64 0] 42)
        have HN := hidp (Held.new q0 42 #[.slice none 0 0, .int .i64 0, .int .i64 0, .int .i64 0, .int .i64 0, .int .i64 0, .int .i64 0, .int .i64 0, .int .i64 0])
        have HLE := hidp HB.out.size
        have HLT : Hid (W.heap.size < q0.heap.size ∧ N8 < q0.heap.size ∧ N11 < q0.heap.size) := hidp ⟨HC.out.lt, HI.out.lt, HS.out.lt⟩
        replace HC := hidp (HC.out.keep hb)
        replace HI := hidp (HI.out.keep hb)
        replace HS := hidp (HS.out.keep hb)
        replace HO1 := hidp (own_below HO1.out hb)
        replace HB := hidp (Bgo HB.out hb)
        replace HVW := hidp (HVW.out.keep hb)
        clear hb
        generalize hn13 : q0.heap.size = N13 at *
        generalize hw13 : q0.alloc (.cells #[.slice none 0 0, .int .i64 0, .int .i64 0, .int .i64 0, .int .i64 0, .int .i64 0, .int .i64 0, .int .i64 0, .int .i64 0] 42) = v6 at *
        clear hn13 hw13
        refine hK.out _ _ ?_ (fun hHeld => ?_)
        · (try dsimp only)
          first | exact HC.out.three | exact hHeld
        clear hK K
        (try simp only [Act.put, gA, gB, gC, sA, sB, sC])
        refine wpAnyH_ready (rs := [2]) (by kernel_rfl) (by simp) ?_
        refine AllReadyH.cons (o := _) rfl (fun K hK => ?_) AllReadyH.nil
        · skip
          go_simp
          refine (vVals_some hn0 HLM.out _ HVW.out).mono ?_
          rintro e v7 ⟨g, cp, rfl, _, hrow, hb⟩
          have HRF := hidp hrow
          clear HVW hrow
          replace HC := hidp (HC.out.keep hb)
          replace HI := hidp (HI.out.keep hb)
          replace HS := hidp (HS.out.keep hb)
          replace HO1 := hidp (own_below HO1.out hb)
          replace HB := hidp (Bgo HB.out hb)
          replace HN := hidp (HN.out.keep hb)
          clear hb
          refine hK.out _ _ ?_ (fun hHeld => ?_)
          · (try dsimp only)
            first | exact HC.out.three | exact hHeld
          clear hK K
          (try simp only [Act.put, gA, gB, gC, sA, sB, sC])
          refine wpAnyH_ready (rs := [3]) (by kernel_rfl) (by simp) ?_
          refine AllReadyH.cons (o := _) rfl (fun K hK => ?_) AllReadyH.nil
          · skip
            go_simp
            refine (HNOW.out _ _ _ HRF.out).mono ?_
            rintro e v8 ⟨u2, rfl, hown, hb⟩
            rw [HNL.out] at hown
            obtain ⟨A2, k2, hu2⟩ := own_slice hown
            subst hu2
            have HO2 : Hid (v8.ownsRow 0 79 2 (.slice A2 nl k2) nl (bkVs L)) := hidp (own_lower hown (Nat.zero_le _))
            clear HRF hown
            replace HC := hidp (HC.out.keep hb)
            replace HI := hidp (HI.out.keep hb)
            replace HS := hidp (HS.out.keep hb)
            replace HO1 := hidp (own_below HO1.out hb)
            replace HB := hidp (Bgo HB.out hb)
            replace HN := hidp (HN.out.keep hb)
            clear hb
            refine hK.out _ _ ?_ (fun hHeld => ?_)
            · (try dsimp only)
              first | exact HC.out.three | exact hHeld
            clear hK K
            (try simp only [Act.put, gA, gB, gC, sA, sB, sC])
            refine tkO (i := 4) (v := ?_) rfl (by kernel_rfl) (fun _ _ _ h => h) (by rfl) ?_ (by assumption) ?_
            rotate_left
            · intro w hSw; (try dsimp only at hSw); go_simp; (try with_reducible rfl)
            (try simp only [Act.put, gA, gB, gC, sA, sB, sC])
            refine tkO (i := 5) (v := ?_) rfl (by kernel_rfl) (fun _ _ _ h => h) (by rfl) ?_ (by assumption) ?_
            rotate_left
            · intro w hSw; (try dsimp only at hSw); go_simp; (try with_reducible rfl)
            (try simp only [Act.put, gA, gB, gC, sA, sB, sC])
            refine tkO (i := 6) (v := ?_) rfl (by kernel_rfl) (fun _ _ _ h => h) (by rfl) ?_ (by assumption) ?_
            rotate_left
            · intro w hSw; (try dsimp only at hSw); go_simp; (try with_reducible rfl)
            (try simp only [Act.put, gA, gB, gC, sA, sB, sC])
            refine wpAnyH_ready (rs := [8]) (by kernel_rfl) (by simp) ?_
            refine AllReadyH.cons (o := _) rfl (fun K hK => ?_) AllReadyH.nil
            obtain ⟨z0, z1, z2, z3, z4, z5, z6, z7, z8⟩ := HN.out.nine
            obtain ⟨f0, f1, f2, f3, f4, f5, f6, f7, f8⟩ := HN.out.thawed9
            have hne1 := heldOwn_ne HN.out HO1.out (by decide)
            have hne2 := heldOwn_ne HN.out HO2.out (by decide)
            go_simp
            obtain ⟨WF, hWF⟩ : ∃ WF, set9 (v8) N13 (.slice A2 nl k2) (.int .i64 (r0 : Int)) (.int .i64 (r1 : Int)) (.int .i64 (r2 : Int)) (.int .i64 (r3 : Int)) (.int .i64 (r4 : Int)) (.int .i64 (r5 : Int)) (.int .i64 (r6 : Int)) (.int .i64 (r7 : Int)) = WF := ⟨_, rfl⟩
            have hN := HN.out.set9 (.slice A2 nl k2) (.int .i64 (r0 : Int)) (.int .i64 (r1 : Int)) (.int .i64 (r2 : Int)) (.int .i64 (r3 : Int)) (.int .i64 (r4 : Int)) (.int .i64 (r5 : Int)) (.int .i64 (r6 : Int)) (.int .i64 (r7 : Int))
            have hBF := below_set9 (g := N13) HB.out HLE.out (.slice A2 nl k2) (.int .i64 (r0 : Int)) (.int .i64 (r1 : Int)) (.int .i64 (r2 : Int)) (.int .i64 (r3 : Int)) (.int .i64 (r4 : Int)) (.int .i64 (r5 : Int)) (.int .i64 (r6 : Int)) (.int .i64 (r7 : Int))
            have hC := (heap_set9 (w := v8) (g := N13) (j := W.heap.size) (by have := HLT.out; omega) (.slice A2 nl k2) (.int .i64 (r0 : Int)) (.int .i64 (r1 : Int)) (.int .i64 (r2 : Int)) (.int .i64 (r3 : Int)) (.int .i64 (r4 : Int)) (.int .i64 (r5 : Int)) (.int .i64 (r6 : Int)) (.int .i64 (r7 : Int))).trans HC.out
            have hI := (heap_set9 (w := v8) (g := N13) (j := N8) (by have := HLT.out; omega) (.slice A2 nl k2) (.int .i64 (r0 : Int)) (.int .i64 (r1 : Int)) (.int .i64 (r2 : Int)) (.int .i64 (r3 : Int)) (.int .i64 (r4 : Int)) (.int .i64 (r5 : Int)) (.int .i64 (r6 : Int)) (.int .i64 (r7 : Int))).trans HI.out
            have hS := (heap_set9 (w := v8) (g := N13) (j := N11) (by have := HLT.out; omega) (.slice A2 nl k2) (.int .i64 (r0 : Int)) (.int .i64 (r1 : Int)) (.int .i64 (r2 : Int)) (.int .i64 (r3 : Int)) (.int .i64 (r4 : Int)) (.int .i64 (r5 : Int)) (.int .i64 (r6 : Int)) (.int .i64 (r7 : Int))).trans HS.out
            have hO1 := own_set9 (g := N13) HO1.out (fun j hj e => hne1 (e ▸ hj)) (.slice A2 nl k2) (.int .i64 (r0 : Int)) (.int .i64 (r1 : Int)) (.int .i64 (r2 : Int)) (.int .i64 (r3 : Int)) (.int .i64 (r4 : Int)) (.int .i64 (r5 : Int)) (.int .i64 (r6 : Int)) (.int .i64 (r7 : Int))
            have hO2 := own_set9 (g := N13) HO2.out (fun j hj e => hne2 (e ▸ hj)) (.slice A2 nl k2) (.int .i64 (r0 : Int)) (.int .i64 (r1 : Int)) (.int .i64 (r2 : Int)) (.int .i64 (r3 : Int)) (.int .i64 (r4 : Int)) (.int .i64 (r5 : Int)) (.int .i64 (r6 : Int)) (.int .i64 (r7 : Int))
            rw [hWF] at hN hBF hC hI hS hO1 hO2
            unfold set9 at hWF
            rw [hWF]
            clear hWF hne1 hne2 z0 z1 z2 z3 z4 z5 z6 z7 z8 f0 f1 f2 f3 f4 f5 f6 f7 f8
            replace HC : Hid (Held WF W.heap.size 23 #[.int .i64 (H.t : Int), .int .i64 (H.p : Int), .int .i64 (H.s : Int)]) := hidp hC
            replace HI : Hid (Held WF N8 31 #[.int .i64 1, .int .i64 (ll : Int), .int .i64 cc]) := hidp hI
            replace HS : Hid (Held WF N11 42 #[.slice A1 nl k1, .int .i64 (r0 : Int), .int .i64 (r1 : Int), .int .i64 (r2 : Int), .int .i64 (r3 : Int), .int .i64 (r4 : Int), .int .i64 (r5 : Int), .int .i64 (r6 : Int), .int .i64 (r7 : Int)]) := hidp hS
            replace HO1 := hidp hO1
            replace HO2 := hidp hO2
            replace HB := hidp hBF
            replace HN := hidp hN
            clear hN hBF hC hI hS hO1 hO2
            refine hK.out _ _ ?_ (fun hHeld => ?_)
            · (try dsimp only)
              first | exact HC.out.three | exact hHeld
            clear hK K
            (try simp only [Act.put, gA, gB, gC, sA, sB, sC])
            refine tkO (i := 9) (v := ?_) rfl (by kernel_rfl) (fun _ _ _ h => h) (by rfl) ?_ (by assumption) ?_
            rotate_left
            · intro w hSw; (try dsimp only at hSw); go_simp; (try with_reducible rfl)
            (try simp only [Act.put, gA, gB, gC, sA, sB, sC])
            refine wpAnyH_done (by kernel_rfl) ?_ _
            go_wp2_with fail
            go_meet
            case rel => exact ⟨_, _, _, rfl, rfl, HN.out, HO2.out, HI.out, HS.out, HO1.out, HB.out⟩
    case rest =>
      obtain ⟨N13, k2, A2, rfl, rfl, hN, hO2, hI, hS, hO1, hB⟩ := hcut
      have hlle : ((ll : Int) == (ll : Int)) = true := by simp
      obtain ⟨a0, a1, a2, a3, a4, a5, a6, a7, a8⟩ := hN.nine
      obtain ⟨b0, b1, b2, b3, b4, b5, b6, b7, b8⟩ := hS.nine
      obtain ⟨d0, d1, d2⟩ := hI.three
      have HO1 := hidp hO1
      have HO2 := hidp hO2
      have HB := hidp hB
      clear HC HI HS HVW hN hO2 hI hS hO1 hB
      go_wp2_with fail
      refine (xSame_c L L A1 A2 nl nl k1 k2 0 0 r0 r1 r2 r3 r4 r5 r6 r7 r0 r1 r2 r3 r4 r5 r6 r7 _ HNL.out HNL.out hnlb hnlb HO1.out HO2.out true ⟨fun _ => ⟨rfl, rfl⟩, fun _ => rfl⟩).mono ?_
      rintro e w18 ⟨rfl, hb⟩
      replace HB := hidp (Bgo HB.out hb)
      clear hb a0 a1 a2 a3 a4 a5 a6 a7 a8 b0 b1 b2 b3 b4 b5 b6 b7 b8 d0 d1 d2
      go_wp2_with fail
      refine (live14_c _).mono ?_
      rintro e w19 ⟨rfl, hb⟩
      have HBL := hidp (Bgo HB.out hb)
      clear hb
      go_wp2
      go_ret
      exact ⟨rfl, HBL.out⟩
  · have t5 : (kk == 1) = false := by simpa using hk1
    have t6 : (kk != 1) = true := by simpa using hk1
    obtain ⟨hd, hw⟩ := HNO.out hk1
    subst hd
    have HWR := hidp hw
    clear hw HNO HYES
    obtain ⟨o5, hI5, _⟩ := HD.out.i1
    have HI5 := hidp hI5
    have HB5 := hidp HD.out.bel
    clear hI5 HD
    go_wp2_with fail
    refine (vWrites_c (by rw [HWR.out]; simp) _ HI5.out).mono ?_
    rintro e w7 ⟨r7, rfl, ho, hb⟩
    rw [HWR.out] at ho
    obtain ⟨A7, c7, hr7⟩ := own_slice ho
    subst hr7
    have HB := hidp (Bgo HB5.out hb)
    clear hb ho HI5 HB5 HC HI x0 x1 x2 y0 y1 y2
    go_wp2_with fail
    refine (live14_c _).mono ?_
    rintro e w19 ⟨rfl, hb⟩
    have HBL := hidp (Bgo HB.out hb)
    clear hb
    go_wp2
    go_ret
    exact ⟨rfl, HBL.out⟩

theorem BinBack_calls (t q s p : Int) (A : Option Addr) (c : Nat) (vals : List Nat) (hnc : vals.length ≤ c) (hcm : c ≤ maxLen) (h32 : ∀ x ∈ vals, x < 2 ^ 32) (W : World) (HR : Hid (Reads W W.heap.size 1 A vals.length (valVs vals))) :
    Calls Tryz.prog 3 #[.agg #[.int .i64 t, .int .i64 q, .int .i64 s], .slice A vals.length c, .int .i64 p] W (Keeps W) := by
  by_cases hq : q ≤ 64
  · rcases heap13_or W t q s A c vals hnc hcm h32 HR.out with ⟨m, hX⟩ | ⟨H, ad, m, rfl, rfl, rfl, rfl, hV, HV, hv, hto, hX⟩
    · exact BinBack_no t q s p A _ c m hq W (hidp hX)
    · rcases Int.lt_or_le p 0 with h1 | h1
      · exact BinBack_low _ _ _ p _ _ c m hq h1 W (hidp hX)
      · rcases Int.lt_or_le p H.p with h2 | h2
        · obtain ⟨k, rfl⟩ := Int.eq_ofNat_of_zero_le h1
          exact BinBack_main ad _ c m k HV (by omega) vals (hidp rfl) (hidp h32) hV (by omega) (told_all hto) W HR (hidp hv) (hidp hX)
        · exact BinBack_high _ _ _ p _ _ c m hq h1 h2 W (hidp hX)
  · exact BinBack_few t q s p A _ c 0 (by omega) W
end Go.Proofs.YtpndfhdedmdoeaaGreat

/-
  How a configuration that came in is opened.
-/
namespace Go.Proofs.YtpndfhdedmdoeaaGreat
open Go.ChangeShapes Go.WideShapes Go.ChangeAt Go.RowKit
set_option linter.unusedVariables false
set_option linter.unusedSimpArgs false

set_option maxRecDepth 100000 in
theorem open_conf {H : Type} {enc : TypeId × Value → H} {W : World} {b base : Nat} {sp : Nat → Bool} {held : Bool} {v : Value} {d : DataW H} {p : List MemPlace}
    (hv : Value.okWide Tryz.prog W .any b 23 v) (h : DataW.Trod enc Tryz.prog W base sp held 23 v d p) :
    ∃ (t q s : Int), v = .agg #[.int .i64 t, .int .i64 q, .int .i64 s] := by
  obtain ⟨v0, v1, v2, y0, y1, y2, m, rfl, rfl, rfl, h0, h1, h2⟩ := Joins.open_agg3 Tryz.underlying23 (by kernel_rfl) (by kernel_rfl) hv h
  obtain ⟨a, e0, _, w0⟩ := DataW.trod_int Tryz.underlying3 h0
  obtain ⟨c, e1, _, w1⟩ := DataW.trod_int Tryz.underlying3 h1
  obtain ⟨k, e2, _, w2⟩ := DataW.trod_int Tryz.underlying3 h2
  simp at e0 e1 e2
  subst e0 e1 e2
  exact ⟨a, c, k, rfl⟩
end Go.Proofs.YtpndfhdedmdoeaaGreat
