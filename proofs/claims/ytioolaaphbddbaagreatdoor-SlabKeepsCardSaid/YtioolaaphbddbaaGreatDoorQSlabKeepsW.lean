/-
  The law SlabKeeps: the walk. Written by slab/gen_keeps.py.
-/
import Derived.Test.YtioolaaphbddbaaGreatDoorQ18
import Derived.Test.YtioolaaphbddbaaGreatDoorQ19
import Derived.Deep.CutRange
namespace Go.Proofs.YtioolaaphbddbaaGreatDoor
open Go.ChangeShapes Go.WideShapes Go.ChangeAt Go.RowKit Go.Maps
set_option linter.unusedVariables false
set_option linter.unusedSimpArgs false
set_option maxRecDepth 100000
section
theorem SlabKeeps_few (t q s x0 x1 : Int) (A : Option Addr) (n c m : Nat) (hq : 64 < q) (W : World) (hT : SlotsLaid W)  : Calls Tryz.prog 5 #[.agg #[.int .i64 t, .int .i64 q, .int .i64 s], .slice A n c, .agg #[.int .i64 x0, .int .i64 x1]] W (Keeps W) := by
  have t2 : decide (q ≤ (64 : Int)) = false := decide_eq_false (by omega)
  have HC := hidp ((Held.new W 23 #[.int .i64 t, .int .i64 q, .int .i64 s]).alloc (.cells #[.int .i64 x0, .int .i64 x1] 25))
  have HX := hidp (Held.new2 W (.cells #[.int .i64 t, .int .i64 q, .int .i64 s] 23) 25 #[.int .i64 x0, .int .i64 x1])
  have HB := hidp (Bnew (Bnew (B0 W) (.cells #[.int .i64 t, .int .i64 q, .int .i64 s] 23)) (.cells #[.int .i64 x0, .int .i64 x1] 25))
  have HTL := hidp hT
  clear hT
  obtain ⟨x0', x1', x2'⟩ := HC.out.three
  obtain ⟨y0', y1'⟩ := HX.out.two
  go_enter Tryz.func5, Tryz.ntmps5
  go_wp2_with fail
  refine (few14_c t q s _).mono ?_
  rintro e w1 ⟨rfl, hb⟩
  rw [t2]
  replace HC := hidp (HC.out.keep hb)
  replace HX := hidp (HX.out.keep hb)
  replace HB := hidp (Bgo HB.out hb)
  clear hb
  clear x0' x1' x2' y0' y1'
  obtain ⟨x0', x1', x2'⟩ := HC.out.three
  obtain ⟨y0', y1'⟩ := HX.out.two

  
  go_wp2_with fail
  refine (live16_c _ (HTL.out.below HB.out)).mono ?_
  rintro e w19 ⟨rfl, hb⟩
  have HBL := hidp (Bgo HB.out hb)
  clear hb
  go_wp2
  go_ret
  exact ⟨rfl, HBL.out⟩

theorem SlabKeeps_no (t q s x0 x1 : Int) (A : Option Addr) (n c m : Nat) (hq : q ≤ 64) (W : World) (hT : SlotsLaid W) (hX : Hid (XCheckIs W t q s A n c m false)) : Calls Tryz.prog 5 #[.agg #[.int .i64 t, .int .i64 q, .int .i64 s], .slice A n c, .agg #[.int .i64 x0, .int .i64 x1]] W (Keeps W) := by
  have t2 : decide (q ≤ (64 : Int)) = true := decide_eq_true (by omega)
  have HC := hidp ((Held.new W 23 #[.int .i64 t, .int .i64 q, .int .i64 s]).alloc (.cells #[.int .i64 x0, .int .i64 x1] 25))
  have HX := hidp (Held.new2 W (.cells #[.int .i64 t, .int .i64 q, .int .i64 s] 23) 25 #[.int .i64 x0, .int .i64 x1])
  have HB := hidp (Bnew (Bnew (B0 W) (.cells #[.int .i64 t, .int .i64 q, .int .i64 s] 23)) (.cells #[.int .i64 x0, .int .i64 x1] 25))
  have HTL := hidp hT
  clear hT
  obtain ⟨x0', x1', x2'⟩ := HC.out.three
  obtain ⟨y0', y1'⟩ := HX.out.two
  go_enter Tryz.func5, Tryz.ntmps5
  go_wp2_with fail
  refine (few14_c t q s _).mono ?_
  rintro e w1 ⟨rfl, hb⟩
  rw [t2]
  replace HC := hidp (HC.out.keep hb)
  replace HX := hidp (HX.out.keep hb)
  replace HB := hidp (Bgo HB.out hb)
  clear hb
  clear x0' x1' x2' y0' y1'
  obtain ⟨x0', x1', x2'⟩ := HC.out.three
  obtain ⟨y0', y1'⟩ := HX.out.two
  go_wp2_with fail
  refine (xSound_c t q s A n c m false _ (hX.out.grown HB.out)).mono ?_
  rintro e w2 ⟨rfl, hb⟩
  replace HC := hidp (HC.out.keep hb)
  replace HX := hidp (HX.out.keep hb)
  replace HB := hidp (Bgo HB.out hb)
  clear hb
  clear x0' x1' x2' y0' y1'
  obtain ⟨x0', x1', x2'⟩ := HC.out.three
  obtain ⟨y0', y1'⟩ := HX.out.two
  
  go_wp2_with fail
  refine (live16_c _ (HTL.out.below HB.out)).mono ?_
  rintro e w19 ⟨rfl, hb⟩
  have HBL := hidp (Bgo HB.out hb)
  clear hb
  go_wp2
  go_ret
  exact ⟨rfl, HBL.out⟩

set_option maxHeartbeats 6400000 in
theorem SlabKeeps_none {H : AuH} (ad : Addr) (n c m : Nat) (HV : HeapV H n c) (vals : List Nat) (HNN : Hid (vals.length = n)) (H32 : Hid (∀ x ∈ vals, x < 2 ^ 32)) (hVK : ∀ i, H.V i = vals.getD i 0) (hq : H.p ≤ 64) (hr : ∀ i, i < 10 → H.rule i) (x0 x1 : Int) (hx0 : -9223372036854775808 ≤ x0 ∧ x0 ≤ 9223372036854775807) (s2 : Vst) (hpk : pickZ n (wholeK16 vals) H.t H.p H.s x0 x1 freshS = (none, s2)) (hwr : s2.wr = [])
    (W : World) (hT : SlotsLaid W) (HR : Hid (Reads W W.heap.size 1 (some ad) n (valVs vals))) (hv : Hid (IsVals W ad n H.V)) (hX : Hid (XCheckIs W H.t H.p H.s (some ad) n c m true)) :
    Calls Tryz.prog 5 #[.agg #[.int .i64 (H.t : Int), .int .i64 (H.p : Int), .int .i64 (H.s : Int)], .slice (some ad) n c, .agg #[.int .i64 x0, .int .i64 x1]] W (Keeps W) := by
  have t2 : decide ((H.p : Int) ≤ (64 : Int)) = true := decide_eq_true (by omega)
  have hnb : n ≤ 6238 := by have := HV.nums; omega
  have hn0 : 0 < n := by have := HV.len; omega
  have hcm : c ≤ maxLen := HV.max
  have hcm2 : c ≤ 9223372036854775807 := hcm
  have hn40 : n < 2 ^ 40 := by omega
  have hq10 : (H.p : Int) ≤ 1024 := by omega
  have hK : ∀ i, i < n → wholeK16 vals i = some (H.V i) := fun i hi => by
    unfold wholeK16
    rw [hVK i, List.getElem?_eq_getElem (by rw [HNN.out]; exact hi)]
    simp [List.getD, List.getElem?_eq_getElem (show i < vals.length by rw [HNN.out]; exact hi)]
  have h32K : ∀ i x, wholeK16 vals i = some x → x < 2 ^ 32 := fun i x h => H32.out x (List.mem_of_getElem? h)
  have HPK := hidp hpk
  have HWR := hidp hwr
  clear hpk hwr hr hVK hK h32K
  have HC := hidp ((Held.new W 23 #[.int .i64 (H.t : Int), .int .i64 (H.p : Int), .int .i64 (H.s : Int)]).alloc (.cells #[.int .i64 x0, .int .i64 x1] 25))
  have HX := hidp (Held.new2 W (.cells #[.int .i64 (H.t : Int), .int .i64 (H.p : Int), .int .i64 (H.s : Int)] 23) 25 #[.int .i64 x0, .int .i64 x1])
  have HB := hidp (Bnew (Bnew (B0 W) (.cells #[.int .i64 (H.t : Int), .int .i64 (H.p : Int), .int .i64 (H.s : Int)] 23)) (.cells #[.int .i64 x0, .int .i64 x1] 25))
  have HTL := hidp hT
  clear hT
  obtain ⟨x0', x1', x2'⟩ := HC.out.three
  obtain ⟨y0', y1'⟩ := HX.out.two
  go_enter Tryz.func5, Tryz.ntmps5
  go_wp2_with fail
  refine (few14_c H.t H.p H.s _).mono ?_
  rintro e w1 ⟨rfl, hb⟩
  rw [t2]
  replace HC := hidp (HC.out.keep hb)
  replace HX := hidp (HX.out.keep hb)
  replace HB := hidp (Bgo HB.out hb)
  clear hb
  clear x0' x1' x2' y0' y1'
  obtain ⟨x0', x1', x2'⟩ := HC.out.three
  obtain ⟨y0', y1'⟩ := HX.out.two
  go_wp2_with fail
  refine (xSound_c H.t H.p H.s (some ad) n c m true _ (hX.out.grown HB.out)).mono ?_
  rintro e w2 ⟨rfl, hb⟩
  replace HC := hidp (HC.out.keep hb)
  replace HX := hidp (HX.out.keep hb)
  replace HB := hidp (Bgo HB.out hb)
  clear hb
  clear x0' x1' x2' y0' y1'
  obtain ⟨x0', x1', x2'⟩ := HC.out.three
  obtain ⟨y0', y1'⟩ := HX.out.two
  go_wp2_with fail
  have HRw : Hid (Reads w2 w2.heap.size 1 (some ad) n (valVs vals)) := hidp ((HR.out.below HB.out).more HB.out.size)
  refine (Whole_c (some ad) c vals n HNN.out (by omega) H32.out _ (by
    intro h0
    obtain ⟨ad', e, _, hc⟩ := HRw.out.2 h0
    exact ⟨ad', e, hc⟩)).mono ?_
  rintro e w5 ⟨b1, o1, rfl, hI, hB⟩
  have HD := hidp (duo_made (W := W) (G := fun g => g < w2.heap.size) hI HB.out.size (Bgo HB.out hB) (fun g hg => ⟨Nat.lt_of_lt_of_le hg hB.size, fun x => by have := hI.ge _ x; omega⟩))
  have HZC : Hid (W.heap.size < w2.heap.size) := hidp HC.out.lt
  have HZX : Hid (W.heap.size + 1 < w2.heap.size) := hidp HX.out.lt
  replace HC := hidp (HC.out.keep hB)
  replace HX := hidp (HX.out.keep hB)
  clear hI hB HRw HB
  generalize hz1 : w2.heap.size = z1 at *
  clear hz1
  rw [show (fun i => vals[i]?) = wholeK16 vals from rfl] at HD
  clear x0' x1' x2' y0' y1'
  obtain ⟨x0', x1', x2'⟩ := HC.out.three
  obtain ⟨y0', y1'⟩ := HX.out.two
  go_wp2_with fail
  refine (slPick_c hn40 hq10 hx0.1 hx0.2 (HD.out.slots HTL.out).1 (HD.out.slots HTL.out).2.1 _ HD.out.at1).mono ?_
  rintro e w6 h1
  obtain ⟨u5, A4, rfl, ho, h2, h3⟩ := HD.out.pick1 h1
  rw [HPK.out] at h2 ho ⊢
  dsimp only [pickP, pickL, Option.isSome] at h2 ho ⊢
  replace HC := hidp (h3.held HZC.out HC.out)
  replace HX := hidp (h3.held HZX.out HX.out)
  replace HD := hidp (h2.less (G' := fun g => g < z1) fun g x => .inl x)
  rw [List.length_nil] at ho
  obtain ⟨A2, c2, hu2⟩ := own_slice ho
  subst hu2
  clear h1 h2 h3 ho HPK
  obtain ⟨o5, hI5, _⟩ := HD.out.i1
  have HI5 := hidp hI5
  have HB5 := hidp HD.out.bel
  clear hI5 HD
  go_wp2_with fail
  refine (vWrites_c (by rw [HWR.out]; simp) _ HI5.out).mono ?_
  rintro e w7 ⟨u7, rfl, ho, hb⟩
  rw [HWR.out] at ho
  obtain ⟨A7, c7, hu7⟩ := own_slice ho
  subst hu7
  have HB := hidp (Bgo HB5.out hb)
  clear hb ho HI5 HB5
  go_wp2_with fail
  refine (live16_c _ (HTL.out.below HB.out)).mono ?_
  rintro e w19 ⟨rfl, hb⟩
  have HBL := hidp (Bgo HB.out hb)
  clear hb
  go_wp2
  go_ret
  exact ⟨rfl, HBL.out⟩

set_option maxHeartbeats 12800000 in
theorem SlabKeeps_some {H : AuH} (ad : Addr) (n c m : Nat) (HV : HeapV H n c) (vals : List Nat) (HNN : Hid (vals.length = n)) (H32 : Hid (∀ x ∈ vals, x < 2 ^ 32)) (hVK : ∀ i, H.V i = vals.getD i 0) (hq : H.p ≤ 64) (hr : ∀ i, i < 10 → H.rule i) (x0 : Int) (k0 : 0 ≤ x0) (k8 : x0 ≤ 8) (wn : Nat) (hw1 : 1 ≤ wn) (hw4 : wn ≤ 4) (p : Nat) (l : List Nat) (s2 : Vst) (LL : Nat → List Nat) (hpk : pickZ n (wholeK16 vals) H.t H.p H.s x0 (wn : Int) freshS = (some (p, l), s2)) (hvw : VW n (wholeK16 vals) s2) (hl1 : 1 ≤ l.length) (hl2 : l.length ≤ wn) (hl3 : l.length ≤ slotI x0) (P : Picked H n (wholeK16 vals) s2 LL x0 p l)
    (W : World) (hT : SlotsLaid W) (HR : Hid (Reads W W.heap.size 1 (some ad) n (valVs vals))) (hv : Hid (IsVals W ad n H.V)) (hX : Hid (XCheckIs W H.t H.p H.s (some ad) n c m true)) :
    Calls Tryz.prog 5 #[.agg #[.int .i64 (H.t : Int), .int .i64 (H.p : Int), .int .i64 (H.s : Int)], .slice (some ad) n c, .agg #[.int .i64 x0, .int .i64 (wn : Int)]] W (Keeps W) := by
  have t2 : decide ((H.p : Int) ≤ (64 : Int)) = true := decide_eq_true (by omega)
  have hnb : n ≤ 6238 := by have := HV.nums; omega
  have hn0 : 0 < n := by have := HV.len; omega
  have hcm : c ≤ maxLen := HV.max
  have hcm2 : c ≤ 9223372036854775807 := hcm
  have hn40 : n < 2 ^ 40 := by omega
  have hq10 : (H.p : Int) ≤ 1024 := by omega
  have hK : ∀ i, i < n → wholeK16 vals i = some (H.V i) := fun i hi => by
    unfold wholeK16
    rw [hVK i, List.getElem?_eq_getElem (by rw [HNN.out]; exact hi)]
    simp [List.getD, List.getElem?_eq_getElem (show i < vals.length by rw [HNN.out]; exact hi)]
  have h32K : ∀ i x, wholeK16 vals i = some x → x < 2 ^ 32 := fun i x h => H32.out x (List.mem_of_getElem? h)
  have hx0 : -9223372036854775808 ≤ x0 ∧ x0 ≤ 9223372036854775807 := ⟨by omega, by omega⟩
  have HPK := hidp hpk
  have hpp : p < H.p := P.at_
  obtain ⟨L, hL⟩ : ∃ L, blocksOf H.parts = L := ⟨_, rfl⟩
  obtain ⟨r0, hr0⟩ : ∃ r, H.V 22 = r := ⟨_, rfl⟩
  obtain ⟨r1, hr1⟩ : ∃ r, H.V 23 = r := ⟨_, rfl⟩
  obtain ⟨r2, hr2⟩ : ∃ r, H.V 24 = r := ⟨_, rfl⟩
  obtain ⟨r3, hr3⟩ : ∃ r, H.V 25 = r := ⟨_, rfl⟩
  obtain ⟨r4, hr4⟩ : ∃ r, H.V 26 = r := ⟨_, rfl⟩
  obtain ⟨r5, hr5⟩ : ∃ r, H.V 27 = r := ⟨_, rfl⟩
  obtain ⟨r6, hr6⟩ : ∃ r, H.V 28 = r := ⟨_, rfl⟩
  obtain ⟨r7, hr7⟩ : ∃ r, H.V 29 = r := ⟨_, rfl⟩
  obtain ⟨nl, hnl⟩ : ∃ nl, L.length = nl := ⟨_, rfl⟩
  have HNL := hidp hnl
  have hnlb : nl ≤ 60000 := by rw [← hnl, ← hL]; exact blocks_few15 HV
  have hnlb2 : nl ≤ 100000 := by omega
  have HRS : Hid (H.V 22 = r0 ∧ H.V 23 = r1 ∧ H.V 24 = r2 ∧ H.V 25 = r3 ∧ H.V 26 = r4 ∧ H.V 27 = r5 ∧ H.V 28 = r6 ∧ H.V 29 = r7 ∧ blocksOf H.parts = L) := hidp ⟨hr0, hr1, hr2, hr3, hr4, hr5, hr6, hr7, hL⟩
  obtain ⟨ns, hns⟩ : ∃ ns, l.length = ns := ⟨_, rfl⟩
  obtain ⟨mm, hmm⟩ : ∃ mm, slotI x0 = mm := ⟨_, rfl⟩
  obtain ⟨kz, hkz⟩ : ∃ kz, kindN 4 H.parts = kz := ⟨_, rfl⟩
  obtain ⟨kc, hkc⟩ : ∃ kc, kindN 4 (nowH H n (wholeK16 vals) s2).parts = kc := ⟨_, rfl⟩
  obtain ⟨ll, hll⟩ : ∃ ll, (nowH H n (wholeK16 vals) s2).ln p = ll := ⟨_, rfl⟩
  rw [hns] at hl1 hl2 hl3
  rw [hmm] at hl3
  have hkk : kc = kz + ns := by rw [← hkc, ← hkz, ← hns]; exact P.more
  have hkb : kz ≤ 60000 := by
    have h1 := kindN_few H.parts 4
    have h2 : H.parts.length ≤ H.p * 33 := AuH.parts_len H.p
    omega
  have hgd : ∀ i, i < ns → l.getD i 0 ∈ l := fun i hi => by
    rw [show l.getD i 0 = l[i]'(by omega) by simp [List.getD, List.getElem?_eq_getElem (show i < l.length by omega)]]
    exact List.getElem_mem _
  have h32m : mm ≤ 32 := by rw [← hmm]; exact slotI_le x0
  have HUP : Hid (∀ i, i + 1 < ns → l.getD i 0 < l.getD (i + 1) 0) := hidp (fun i hi => by
    have := List.pairwise_iff_getElem.1 P.up i (i + 1) (by omega) (by omega) (by omega)
    simpa [List.getD, List.getElem?_eq_getElem (show i < l.length by omega), List.getElem?_eq_getElem (show i + 1 < l.length by omega)] using this)
  have HIO : Hid (∀ i, i < ns → H.idleAt p (l.getD i 0) = false ∧ l.getD i 0 < 32) := hidp (fun i hi => by
    have h1 := P.bits _ (hgd i hi)
    refine ⟨?_, by omega⟩
    unfold AuH.idleAt
    by_cases h3 : H.K p = 3
    · rw [h1.2.2.2 h3]; simp
    · rw [decide_eq_false h3]; rfl)
  have HNOW : Hid (∀ hok : VOk n s2, (∀ (w : World) (g cp : Nat), RowF w g 63 n cp (valF (nowV (wholeK16 vals) s2.wr)) → Calls Tryz.prog 23 #[.agg #[.int .i64 (H.t : Int), .int .i64 (H.p : Int), .int .i64 (H.s : Int)], .slice (some ⟨g, 0, none⟩) n cp] w fun e w' => ∃ u, e = .returned (.tuple #[.agg #[u, .int .i64 (r0 : Int), .int .i64 (r1 : Int), .int .i64 (r2 : Int), .int .i64 (r3 : Int), .int .i64 (r4 : Int), .int .i64 (r5 : Int), .int .i64 (r6 : Int), .int .i64 (r7 : Int)], .bool true]) ∧ w'.ownsRow w.heap.size 104 2 u L.length (bkVs L) ∧ Below w.heap.size w w') ∧ (∀ (w : World) (g cp : Nat), RowF w g 63 n cp (valF (nowV (wholeK16 vals) s2.wr)) → Calls Tryz.prog 26 #[.agg #[.int .i64 (H.t : Int), .int .i64 (H.p : Int), .int .i64 (H.s : Int)], .slice (some ⟨g, 0, none⟩) n cp] w fun e w' => e = .returned (.int .i64 (kc : Int)) ∧ Below w.heap.size w w') ∧ (∀ i, i < ns → (∀ (w : World) (g cp : Nat), RowF w g 63 n cp (valF (nowV (wholeK16 vals) s2.wr)) → Calls Tryz.prog 19 #[.agg #[.int .i64 (H.t : Int), .int .i64 (H.p : Int), .int .i64 (H.s : Int)], .slice (some ⟨g, 0, none⟩) n cp, .int .i64 (p : Int), .int .i64 ((l.getD i 0) : Int)] w fun e w' => e = .returned (.bool true) ∧ Below w.heap.size w w')) ∧ (∀ (w : World) (g cp : Nat), RowF w g 63 n cp (valF (nowV (wholeK16 vals) s2.wr)) → Calls Tryz.prog 27 #[.agg #[.int .i64 (H.t : Int), .int .i64 (H.p : Int), .int .i64 (H.s : Int), .slice (some ⟨g, 0, none⟩) n cp], .int .i64 (p : Int)] w fun e w' => e = .returned (.agg #[.int .i64 3, .int .i64 (ll : Int), .int .i64 x0]) ∧ Below w.heap.size w w')) := hidp (fun hok =>
    ⟨fun w g cp hrow => state_now HV (st := s2) hok h32K hvw P.ok.rules P.roots L (P.blocks.trans hL) r0 r1 r2 r3 r4 r5 r6 r7 hr0 hr1 hr2 hr3 hr4 hr5 hr6 hr7 w g cp hrow,
     fun w g cp hrow => count_now HV hok h32K hvw P.ok.rules kc hkc w g cp hrow,
     fun i hi w g cp hrow => idle_now HV hok h32K hvw hpp (by have := (P.bits _ (hgd i hi)).1; omega) true (by
       have h1 := P.bits _ (hgd i hi)
       unfold AuH.idleAt
       rw [P.kind, h1.2.1, h1.2.2.1]
       rfl) w g cp hrow,
     fun w g cp hrow => info_now HV hok h32K hvw hpp 3 x0 ll P.kind hll P.cls w g cp hrow⟩)
  have HNS' := hidp hns
  have HMM := hidp hmm
  have HKZ := hidp hkz
  have t3 : decide ((ns : Int) < 1) = false := decide_eq_false (by omega)
  have t4 : decide ((wn : Int) < (ns : Int)) = false := decide_eq_false (by omega)
  have t4n : decide (wn < ns) = false := decide_eq_false (by omega)
  have t5 : decide ((mm : Int) < (ns : Int)) = false := decide_eq_false (by omega)
  have t5n : decide (mm < ns) = false := decide_eq_false (by omega)
  have t6 : decide ((p : Int) < 0) = false := decide_eq_false (by omega)
  have t7 : decide ((H.p : Int) ≤ (p : Int)) = false := decide_eq_false (by omega)
  have t7n : decide (H.p ≤ p) = false := decide_eq_false (by omega)
  have v1 : (kz : Int) + (ns : Int) = (kc : Int) := by omega
  have v2 : IntKind.i64.wrap (kc : Int) = (kc : Int) := i64_same (by omega) (by omega)
  have t8 : ((kc : Int) != (kc : Int)) = false := by simp
  have t9 : (x0 == x0) = true := by simp
  have hfd : ∀ w : World, (Instr.field 60 (.agg #[.int .i64 3, .int .i64 (ll : Int), .int .i64 x0]) 2).run Tryz.prog w = .ok (.int .i64 x0) w := fun _ => by kernel_rfl
  clear hpk P hvw hL hr0 hr1 hr2 hr3 hr4 hr5 hr6 hr7 hnl hns hmm hkz hkc hll hkk hgd hr hVK hK h32K hl3
  have HC := hidp ((Held.new W 23 #[.int .i64 (H.t : Int), .int .i64 (H.p : Int), .int .i64 (H.s : Int)]).alloc (.cells #[.int .i64 x0, .int .i64 (wn : Int)] 25))
  have HX := hidp (Held.new2 W (.cells #[.int .i64 (H.t : Int), .int .i64 (H.p : Int), .int .i64 (H.s : Int)] 23) 25 #[.int .i64 x0, .int .i64 (wn : Int)])
  have HB := hidp (Bnew (Bnew (B0 W) (.cells #[.int .i64 (H.t : Int), .int .i64 (H.p : Int), .int .i64 (H.s : Int)] 23)) (.cells #[.int .i64 x0, .int .i64 (wn : Int)] 25))
  have HTL := hidp hT
  clear hT
  obtain ⟨x0', x1', x2'⟩ := HC.out.three
  obtain ⟨y0', y1'⟩ := HX.out.two
  go_enter Tryz.func5, Tryz.ntmps5
  go_wp2_with fail
  refine (few14_c H.t H.p H.s _).mono ?_
  rintro e w1 ⟨rfl, hb⟩
  rw [t2]
  replace HC := hidp (HC.out.keep hb)
  replace HX := hidp (HX.out.keep hb)
  replace HB := hidp (Bgo HB.out hb)
  clear hb
  clear x0' x1' x2' y0' y1'
  obtain ⟨x0', x1', x2'⟩ := HC.out.three
  obtain ⟨y0', y1'⟩ := HX.out.two
  go_wp2_with fail
  refine (xSound_c H.t H.p H.s (some ad) n c m true _ (hX.out.grown HB.out)).mono ?_
  rintro e w2 ⟨rfl, hb⟩
  replace HC := hidp (HC.out.keep hb)
  replace HX := hidp (HX.out.keep hb)
  replace HB := hidp (Bgo HB.out hb)
  clear hb
  clear x0' x1' x2' y0' y1'
  obtain ⟨x0', x1', x2'⟩ := HC.out.three
  obtain ⟨y0', y1'⟩ := HX.out.two
  go_wp2_with fail
  have HRw : Hid (Reads w2 w2.heap.size 1 (some ad) n (valVs vals)) := hidp ((HR.out.below HB.out).more HB.out.size)
  refine (Whole_c (some ad) c vals n HNN.out (by omega) H32.out _ (by
    intro h0
    obtain ⟨ad', e, _, hc⟩ := HRw.out.2 h0
    exact ⟨ad', e, hc⟩)).mono ?_
  rintro e w5 ⟨b1, o1, rfl, hI, hB⟩
  have HD := hidp (duo_made (W := W) (G := fun g => g < w2.heap.size) hI HB.out.size (Bgo HB.out hB) (fun g hg => ⟨Nat.lt_of_lt_of_le hg hB.size, fun x => by have := hI.ge _ x; omega⟩))
  have HZC : Hid (W.heap.size < w2.heap.size) := hidp HC.out.lt
  have HZX : Hid (W.heap.size + 1 < w2.heap.size) := hidp HX.out.lt
  replace HC := hidp (HC.out.keep hB)
  replace HX := hidp (HX.out.keep hB)
  clear hI hB HRw HB
  generalize hz1 : w2.heap.size = z1 at *
  clear hz1
  rw [show (fun i => vals[i]?) = wholeK16 vals from rfl] at HD
  clear x0' x1' x2' y0' y1'
  obtain ⟨x0', x1', x2'⟩ := HC.out.three
  obtain ⟨y0', y1'⟩ := HX.out.two
  go_wp2_with fail
  refine (slPick_c hn40 hq10 hx0.1 hx0.2 (HD.out.slots HTL.out).1 (HD.out.slots HTL.out).2.1 _ HD.out.at1).mono ?_
  rintro e w6 h1
  obtain ⟨u5, A4, rfl, ho, h2, h3⟩ := HD.out.pick1 h1
  rw [HPK.out] at h2 ho ⊢
  dsimp only [pickP, pickL, Option.isSome] at h2 ho ⊢
  replace HC := hidp (h3.held HZC.out HC.out)
  replace HX := hidp (h3.held HZX.out HX.out)
  replace HD := hidp (h2.less (G' := fun g => g < z1) fun g x => .inl x)
  rw [HNS'.out] at ho
  obtain ⟨g2, c2, hu2, _⟩ := ho.form (by omega)
  subst hu2
  obtain ⟨cr, hcr, hcc1, hcc2, hcells⟩ := own_held ho HNS'.out
  have HSL := hidp hcr
  have HSC := hidp hcells
  clear hcr hcells
  clear h1 h2 h3 ho HPK
  clear x0' x1' x2' y0' y1'
  obtain ⟨x0', x1', x2'⟩ := HC.out.three
  obtain ⟨y0', y1'⟩ := HX.out.two
  have HOK : Hid (VOk n s2) := hidp (by obtain ⟨o, hI, _⟩ := HD.out.i1; exact hI.ok)
  have HN2 := hidp (HNOW.out HOK.out).1
  have HCN := hidp (HNOW.out HOK.out).2.1
  have HIN := hidp (HNOW.out HOK.out).2.2.1
  have HII := hidp (HNOW.out HOK.out).2.2.2
  clear HNOW HOK
  go_wp2_with fail
  refine (r5Slots_c x0 hx0.1 hx0.2 _).mono ?_; rintro e w9 ⟨rfl, rfl⟩; rw [HMM.out]
  go_wp2_with fail
  refine (xState_yes HV ad m _ (hv.out.below HD.out.bel) (hX.out.grown HD.out.bel)).mono ?_
  rintro e w3 ⟨u1, rfl, hown, hb⟩
  obtain ⟨hr0, hr1, hr2, hr3, hr4, hr5, hr6, hr7, hL⟩ := HRS.out
  rw [hr0, hr1, hr2, hr3, hr4, hr5, hr6, hr7]
  rw [hL, HNL.out] at hown
  obtain ⟨A1, k1, hu1⟩ := own_slice hown
  subst hu1
  have HO1 : Hid ((w3.alloc (.cells #[.slice A1 nl k1, .int .i64 (r0 : Int), .int .i64 (r1 : Int), .int .i64 (r2 : Int), .int .i64 (r3 : Int), .int .i64 (r4 : Int), .int .i64 (r5 : Int), .int .i64 (r6 : Int), .int .i64 (r7 : Int)] 51)).ownsRow 0 104 2 (.slice A1 nl k1) nl (bkVs L)) := hidp (own_below (own_lower hown (Nat.zero_le _)) (Bnew (B0 _) _))
  have HS := hidp (Held.new w3 51 #[.slice A1 nl k1, .int .i64 (r0 : Int), .int .i64 (r1 : Int), .int .i64 (r2 : Int), .int .i64 (r3 : Int), .int .i64 (r4 : Int), .int .i64 (r5 : Int), .int .i64 (r6 : Int), .int .i64 (r7 : Int)])
  replace HC := hidp ((HC.out.keep hb).alloc (.cells #[.slice A1 nl k1, .int .i64 (r0 : Int), .int .i64 (r1 : Int), .int .i64 (r2 : Int), .int .i64 (r3 : Int), .int .i64 (r4 : Int), .int .i64 (r5 : Int), .int .i64 (r6 : Int), .int .i64 (r7 : Int)] 51))
  replace HX := hidp ((HX.out.keep hb).alloc (.cells #[.slice A1 nl k1, .int .i64 (r0 : Int), .int .i64 (r1 : Int), .int .i64 (r2 : Int), .int .i64 (r3 : Int), .int .i64 (r4 : Int), .int .i64 (r5 : Int), .int .i64 (r6 : Int), .int .i64 (r7 : Int)] 51))
  replace HSL := hidp ((HSL.out.keep hb).alloc (.cells #[.slice A1 nl k1, .int .i64 (r0 : Int), .int .i64 (r1 : Int), .int .i64 (r2 : Int), .int .i64 (r3 : Int), .int .i64 (r4 : Int), .int .i64 (r5 : Int), .int .i64 (r6 : Int), .int .i64 (r7 : Int)] 51))
  replace HD := hidp ((HD.out.keep hb).keep (Bnew (B0 _) (.cells #[.slice A1 nl k1, .int .i64 (r0 : Int), .int .i64 (r1 : Int), .int .i64 (r2 : Int), .int .i64 (r3 : Int), .int .i64 (r4 : Int), .int .i64 (r5 : Int), .int .i64 (r6 : Int), .int .i64 (r7 : Int)] 51)))
  clear hb hown HRS hr0 hr1 hr2 hr3 hr4 hr5 hr6 hr7 hL x0' x1' x2' y0' y1'
  obtain ⟨x0', x1', x2'⟩ := HC.out.three
  obtain ⟨y0', y1'⟩ := HX.out.two
  go_wp2_with fail
  generalize hN11 : w3.heap.size = NW at *
  generalize hw11 : w3.alloc (.cells #[.slice A1 nl k1, .int .i64 (r0 : Int), .int .i64 (r1 : Int), .int .i64 (r2 : Int), .int .i64 (r3 : Int), .int .i64 (r4 : Int), .int .i64 (r5 : Int), .int .i64 (r6 : Int), .int .i64 (r7 : Int)] 51) = w6 at *
  clear hN11 hw11
  go_wp2_with fail
  go_cut [13, 14] from 88 to 94 (fun u13 u14 wx => ∃ (N13 k2 : Nat) (A2 : Option Addr) (A4 : Nat → Prop), u13 = .pointer (some ⟨N13, 0, none⟩) ∧ u14 = .bool true ∧ Held wx N13 51 #[.slice A2 nl k2, .int .i64 (r0 : Int), .int .i64 (r1 : Int), .int .i64 (r2 : Int), .int .i64 (r3 : Int), .int .i64 (r4 : Int), .int .i64 (r5 : Int), .int .i64 (r6 : Int), .int .i64 (r7 : Int)] ∧ wx.ownsRow 0 104 2 (.slice A2 nl k2) nl (bkVs L) ∧ Held wx W.heap.size 23 #[.int .i64 (H.t : Int), .int .i64 (H.p : Int), .int .i64 (H.s : Int)] ∧ Held wx (W.heap.size + 1) 25 #[.int .i64 x0, .int .i64 (wn : Int)] ∧ Held wx g2 3 cr ∧ Held wx NW 51 #[.slice A1 nl k1, .int .i64 (r0 : Int), .int .i64 (r1 : Int), .int .i64 (r2 : Int), .int .i64 (r3 : Int), .int .i64 (r4 : Int), .int .i64 (r5 : Int), .int .i64 (r6 : Int), .int .i64 (r7 : Int)] ∧ wx.ownsRow 0 104 2 (.slice A1 nl k1) nl (bkVs L) ∧ Duo W (vOb z1 b1 n true (wholeK16 vals)) noOb A4 (fun _ => False) (fun g => g < z1) s2 freshS wx)
  case first =>
    replace HC := hidp HC.out.drw
    replace HX := hidp HX.out.drw
    replace HSL := hidp HSL.out.drw
    replace HS := hidp HS.out.drw
    replace HO1 := hidp (own_below HO1.out (Bdrew (B0 _)))
    replace HD := hidp (HD.out.keep (Bdrew (B0 _)))
    refine wp_region_held_drew (S := (fun w' => w'.cell? ⟨W.heap.size, 0, none⟩ = some (.int .i64 (H.t : Int)) ∧ w'.cell? ⟨W.heap.size, 1, none⟩ = some (.int .i64 (H.p : Int)) ∧ w'.cell? ⟨W.heap.size, 2, none⟩ = some (.int .i64 (H.s : Int)))) (by kernel_rfl) ?_ (fun hHeld => ?_)
    · (try dsimp only)
      first | exact HC.out.three | exact hHeld
    generalize hq0 : World.drew w6 = q0 at HC HX HSL HS HO1 HD hHeld ⊢
    clear hq0
    refine tkz 0 ?_
    refine tkz 1 ?_
    refine wpAnyH_ready (rs := [2, 7]) (by kernel_rfl) (by simp) ?_
    refine AllReadyH.cons (o := _) rfl (fun K hK => ?_) (AllReadyH.cons (o := _) rfl (fun K hK => ?_) AllReadyH.nil)
    · skip
      go_simp
      obtain ⟨o9, hI9, _⟩ := HD.out.i1
      refine (vVals_some hn0 (by have := hI9.ok.few; omega) _ hI9).mono ?_
      rintro e v1 ⟨g, cp, rfl, _, hrow, hb⟩
      have HRF := hidp hrow
      clear hI9 hrow
      replace HC := hidp (HC.out.keep hb)
      replace HX := hidp (HX.out.keep hb)
      replace HSL := hidp (HSL.out.keep hb)
      replace HS := hidp (HS.out.keep hb)
      replace HO1 := hidp (own_below HO1.out hb)
      replace HD := hidp (HD.out.keep hb)
      clear hb
      refine hK.out _ _ ?_ (fun hHeld => ?_)
      · (try dsimp only)
        first | exact HC.out.three | exact hHeld
      clear hK K
      (try simp only [Act.put, gA, gB, gC, sA, sB, sC])
      refine wpAnyH_ready (rs := [3, 7]) (by kernel_rfl) (by simp) ?_
      refine AllReadyH.cons (o := _) rfl (fun K hK => ?_) (AllReadyH.cons (o := _) rfl (fun K hK => ?_) AllReadyH.nil)
      · skip
        go_simp
        refine (HN2.out _ _ _ HRF.out).mono ?_
        rintro e v2 ⟨u2, rfl, hown, hb⟩
        rw [HNL.out] at hown
        obtain ⟨A2, k2, hu2⟩ := own_slice hown
        subst hu2
        have HO2 : Hid (v2.ownsRow 0 104 2 (.slice A2 nl k2) nl (bkVs L)) := hidp (own_lower hown (Nat.zero_le _))
        clear HRF hown
        replace HC := hidp (HC.out.keep hb)
        replace HX := hidp (HX.out.keep hb)
        replace HSL := hidp (HSL.out.keep hb)
        replace HS := hidp (HS.out.keep hb)
        replace HO1 := hidp (own_below HO1.out hb)
        replace HD := hidp (HD.out.keep hb)
        clear hb
        refine hK.out _ _ ?_ (fun hHeld => ?_)
        · (try dsimp only)
          first | exact HC.out.three | exact hHeld
        clear hK K
        (try simp only [Act.put, gA, gB, gC, sA, sB, sC])
        refine tkz 4 ?_
        refine tkz 5 ?_
        refine tkz 6 ?_
        refine wpAnyH_ready (rs := [7]) (by kernel_rfl) (by simp) ?_
        refine AllReadyH.cons (o := _) rfl (fun K hK => ?_) AllReadyH.nil
        · skip
          go_simp
          have hb := Bnew (B0 v2) (.cells #[.slice none 0 0, .int .i64 0, .int .i64 0, .int .i64 0, .int .i64 0, .int .i64 0, .int .i64 0, .int .i64 0, .int .i64 0] 51)
          have HN := hidp (Held.new v2 51 #[.slice none 0 0, .int .i64 0, .int .i64 0, .int .i64 0, .int .i64 0, .int .i64 0, .int .i64 0, .int .i64 0, .int .i64 0])
          have HLE := hidp HD.out.bel.size
          have HLT : Hid (W.heap.size < v2.heap.size ∧ (W.heap.size + 1) < v2.heap.size ∧ g2 < v2.heap.size ∧ NW < v2.heap.size) := hidp ⟨HC.out.lt, HX.out.lt, HSL.out.lt, HS.out.lt⟩
          have HNA : Hid (¬ A4 v2.heap.size) := hidp (fun x => by have := Ob.lt (vOb z1 b1 n true (wholeK16 vals)) HD.out.i1 _ x; omega)
          replace HC := hidp (HC.out.keep hb)
          replace HX := hidp (HX.out.keep hb)
          replace HSL := hidp (HSL.out.keep hb)
          replace HS := hidp (HS.out.keep hb)
          replace HO1 := hidp (own_below HO1.out hb)
          replace HO2 := hidp (own_below HO2.out hb)
          replace HD := hidp (HD.out.keep hb)
          clear hb
          generalize hn13 : v2.heap.size = N13 at *
          generalize hw13 : v2.alloc (.cells #[.slice none 0 0, .int .i64 0, .int .i64 0, .int .i64 0, .int .i64 0, .int .i64 0, .int .i64 0, .int .i64 0, .int .i64 0] 51) = v3 at *
          clear hn13 hw13
          refine hK.out _ _ ?_ (fun hHeld => ?_)
          · (try dsimp only)
            first | exact HC.out.three | exact hHeld
          clear hK K
          (try simp only [Act.put, gA, gB, gC, sA, sB, sC])
          refine wpAnyH_ready (rs := [8]) (by kernel_rfl) (by simp) ?_
          refine AllReadyH.cons (o := _) rfl (fun K hK => ?_) AllReadyH.nil
          obtain ⟨z0, z1', z2, z3, z4, z5', z6, z7, z8⟩ := HN.out.nine
          obtain ⟨f0, f1, f2, f3, f4, f5, f6, f7, f8⟩ := HN.out.thawed9
          go_simp
          obtain ⟨WF, hWF⟩ : ∃ WF, wr9 (v3) N13 (.slice A2 nl k2) r0 r1 r2 r3 r4 r5 r6 r7 = WF := ⟨_, rfl⟩
          replace HO1 := hidp (own9 hWF (heldOwn_ne HN.out HO1.out (by decide)) HO1.out)
          replace HO2 := hidp (own9 hWF (heldOwn_ne HN.out HO2.out (by decide)) HO2.out)
          replace HC := hidp (far9 hWF (by have := HLT.out; omega) HC.out)
          replace HX := hidp (far9 hWF (by have := HLT.out; omega) HX.out)
          replace HSL := hidp (far9 hWF (by have := HLT.out; omega) HSL.out)
          replace HS := hidp (far9 hWF (by have := HLT.out; omega) HS.out)
          replace HD := hidp (duo9 hWF HNA.out (fun x => x) HLE.out HD.out)
          replace HN := hidp (held9 hWF HN.out)
          unfold wr9 set9 at hWF
          rw [hWF]
          clear hWF z0 z1' z2 z3 z4 z5' z6 z7 z8 f0 f1 f2 f3 f4 f5 f6 f7 f8
          refine hK.out _ _ ?_ (fun hHeld => ?_)
          · (try dsimp only)
            first | exact HC.out.three | exact hHeld
          clear hK K
          (try simp only [Act.put, gA, gB, gC, sA, sB, sC])
          refine tkz 9 ?_
          refine wpAnyH_done (by kernel_rfl) ?_ _
          go_wp2_with fail
          go_meet
          case rel => exact ⟨_, _, _, _, rfl, rfl, HN.out, HO2.out, HC.out, HX.out, HSL.out, HS.out, HO1.out, HD.out⟩
      · skip
        go_simp
        have hb := Bnew (B0 v1) (.cells #[.slice none 0 0, .int .i64 0, .int .i64 0, .int .i64 0, .int .i64 0, .int .i64 0, .int .i64 0, .int .i64 0, .int .i64 0] 51)
        have HN := hidp (Held.new v1 51 #[.slice none 0 0, .int .i64 0, .int .i64 0, .int .i64 0, .int .i64 0, .int .i64 0, .int .i64 0, .int .i64 0, .int .i64 0])
        have HLE := hidp HD.out.bel.size
        have HLT : Hid (W.heap.size < v1.heap.size ∧ (W.heap.size + 1) < v1.heap.size ∧ g2 < v1.heap.size ∧ NW < v1.heap.size) := hidp ⟨HC.out.lt, HX.out.lt, HSL.out.lt, HS.out.lt⟩
        have HNA : Hid (¬ A4 v1.heap.size) := hidp (fun x => by have := Ob.lt (vOb z1 b1 n true (wholeK16 vals)) HD.out.i1 _ x; omega)
        replace HC := hidp (HC.out.keep hb)
        replace HX := hidp (HX.out.keep hb)
        replace HSL := hidp (HSL.out.keep hb)
        replace HS := hidp (HS.out.keep hb)
        replace HO1 := hidp (own_below HO1.out hb)
        replace HD := hidp (HD.out.keep hb)
        replace HRF := hidp (HRF.out.keep hb)
        clear hb
        generalize hn13 : v1.heap.size = N13 at *
        generalize hw13 : v1.alloc (.cells #[.slice none 0 0, .int .i64 0, .int .i64 0, .int .i64 0, .int .i64 0, .int .i64 0, .int .i64 0, .int .i64 0, .int .i64 0] 51) = v4 at *
        clear hn13 hw13
        refine hK.out _ _ ?_ (fun hHeld => ?_)
        · (try dsimp only)
          first | exact HC.out.three | exact hHeld
        clear hK K
        (try simp only [Act.put, gA, gB, gC, sA, sB, sC])
        refine wpAnyH_ready (rs := [3]) (by kernel_rfl) (by simp) ?_
        refine AllReadyH.cons (o := _) rfl (fun K hK => ?_) AllReadyH.nil
        · skip
          go_simp
          refine (HN2.out _ _ _ HRF.out).mono ?_
          rintro e v5 ⟨u2, rfl, hown, hb⟩
          rw [HNL.out] at hown
          obtain ⟨A2, k2, hu2⟩ := own_slice hown
          subst hu2
          have HO2 : Hid (v5.ownsRow 0 104 2 (.slice A2 nl k2) nl (bkVs L)) := hidp (own_lower hown (Nat.zero_le _))
          clear HRF hown
          replace HC := hidp (HC.out.keep hb)
          replace HX := hidp (HX.out.keep hb)
          replace HSL := hidp (HSL.out.keep hb)
          replace HS := hidp (HS.out.keep hb)
          replace HN := hidp (HN.out.keep hb)
          replace HO1 := hidp (own_below HO1.out hb)
          replace HD := hidp (HD.out.keep hb)
          clear hb
          refine hK.out _ _ ?_ (fun hHeld => ?_)
          · (try dsimp only)
            first | exact HC.out.three | exact hHeld
          clear hK K
          (try simp only [Act.put, gA, gB, gC, sA, sB, sC])
          refine tkz 4 ?_
          refine tkz 5 ?_
          refine tkz 6 ?_
          refine wpAnyH_ready (rs := [8]) (by kernel_rfl) (by simp) ?_
          refine AllReadyH.cons (o := _) rfl (fun K hK => ?_) AllReadyH.nil
          obtain ⟨z0, z1', z2, z3, z4, z5', z6, z7, z8⟩ := HN.out.nine
          obtain ⟨f0, f1, f2, f3, f4, f5, f6, f7, f8⟩ := HN.out.thawed9
          go_simp
          obtain ⟨WF, hWF⟩ : ∃ WF, wr9 (v5) N13 (.slice A2 nl k2) r0 r1 r2 r3 r4 r5 r6 r7 = WF := ⟨_, rfl⟩
          replace HO1 := hidp (own9 hWF (heldOwn_ne HN.out HO1.out (by decide)) HO1.out)
          replace HO2 := hidp (own9 hWF (heldOwn_ne HN.out HO2.out (by decide)) HO2.out)
          replace HC := hidp (far9 hWF (by have := HLT.out; omega) HC.out)
          replace HX := hidp (far9 hWF (by have := HLT.out; omega) HX.out)
          replace HSL := hidp (far9 hWF (by have := HLT.out; omega) HSL.out)
          replace HS := hidp (far9 hWF (by have := HLT.out; omega) HS.out)
          replace HD := hidp (duo9 hWF HNA.out (fun x => x) HLE.out HD.out)
          replace HN := hidp (held9 hWF HN.out)
          unfold wr9 set9 at hWF
          rw [hWF]
          clear hWF z0 z1' z2 z3 z4 z5' z6 z7 z8 f0 f1 f2 f3 f4 f5 f6 f7 f8
          refine hK.out _ _ ?_ (fun hHeld => ?_)
          · (try dsimp only)
            first | exact HC.out.three | exact hHeld
          clear hK K
          (try simp only [Act.put, gA, gB, gC, sA, sB, sC])
          refine tkz 9 ?_
          refine wpAnyH_done (by kernel_rfl) ?_ _
          go_wp2_with fail
          go_meet
          case rel => exact ⟨_, _, _, _, rfl, rfl, HN.out, HO2.out, HC.out, HX.out, HSL.out, HS.out, HO1.out, HD.out⟩
    · skip
      go_simp
      have hb := Bnew (B0 q0) (.cells #[.slice none 0 0, .int .i64 0, .int .i64 0, .int .i64 0, .int .i64 0, .int .i64 0, .int .i64 0, .int .i64 0, .int .i64 0] 51)
      have HN := hidp (Held.new q0 51 #[.slice none 0 0, .int .i64 0, .int .i64 0, .int .i64 0, .int .i64 0, .int .i64 0, .int .i64 0, .int .i64 0, .int .i64 0])
      have HLE := hidp HD.out.bel.size
      have HLT : Hid (W.heap.size < q0.heap.size ∧ (W.heap.size + 1) < q0.heap.size ∧ g2 < q0.heap.size ∧ NW < q0.heap.size) := hidp ⟨HC.out.lt, HX.out.lt, HSL.out.lt, HS.out.lt⟩
      have HNA : Hid (¬ A4 q0.heap.size) := hidp (fun x => by have := Ob.lt (vOb z1 b1 n true (wholeK16 vals)) HD.out.i1 _ x; omega)
      replace HC := hidp (HC.out.keep hb)
      replace HX := hidp (HX.out.keep hb)
      replace HSL := hidp (HSL.out.keep hb)
      replace HS := hidp (HS.out.keep hb)
      replace HO1 := hidp (own_below HO1.out hb)
      replace HD := hidp (HD.out.keep hb)
      clear hb
      generalize hn13 : q0.heap.size = N13 at *
      generalize hw13 : q0.alloc (.cells #[.slice none 0 0, .int .i64 0, .int .i64 0, .int .i64 0, .int .i64 0, .int .i64 0, .int .i64 0, .int .i64 0, .int .i64 0] 51) = v6 at *
      clear hn13 hw13
      refine hK.out _ _ ?_ (fun hHeld => ?_)
      · (try dsimp only)
        first | exact HC.out.three | exact hHeld
      clear hK K
      (try simp only [Act.put, gA, gB, gC, sA, sB, sC])
      refine wpAnyH_ready (rs := [2]) (by kernel_rfl) (by simp) ?_
      refine AllReadyH.cons (o := _) rfl (fun K hK => ?_) AllReadyH.nil
      · skip
        go_simp
        obtain ⟨o9, hI9, _⟩ := HD.out.i1
        refine (vVals_some hn0 (by have := hI9.ok.few; omega) _ hI9).mono ?_
        rintro e v7 ⟨g, cp, rfl, _, hrow, hb⟩
        have HRF := hidp hrow
        clear hI9 hrow
        replace HC := hidp (HC.out.keep hb)
        replace HX := hidp (HX.out.keep hb)
        replace HSL := hidp (HSL.out.keep hb)
        replace HS := hidp (HS.out.keep hb)
        replace HN := hidp (HN.out.keep hb)
        replace HO1 := hidp (own_below HO1.out hb)
        replace HD := hidp (HD.out.keep hb)
        clear hb
        refine hK.out _ _ ?_ (fun hHeld => ?_)
        · (try dsimp only)
          first | exact HC.out.three | exact hHeld
        clear hK K
        (try simp only [Act.put, gA, gB, gC, sA, sB, sC])
        refine wpAnyH_ready (rs := [3]) (by kernel_rfl) (by simp) ?_
        refine AllReadyH.cons (o := _) rfl (fun K hK => ?_) AllReadyH.nil
        · skip
          go_simp
          refine (HN2.out _ _ _ HRF.out).mono ?_
          rintro e v8 ⟨u2, rfl, hown, hb⟩
          rw [HNL.out] at hown
          obtain ⟨A2, k2, hu2⟩ := own_slice hown
          subst hu2
          have HO2 : Hid (v8.ownsRow 0 104 2 (.slice A2 nl k2) nl (bkVs L)) := hidp (own_lower hown (Nat.zero_le _))
          clear HRF hown
          replace HC := hidp (HC.out.keep hb)
          replace HX := hidp (HX.out.keep hb)
          replace HSL := hidp (HSL.out.keep hb)
          replace HS := hidp (HS.out.keep hb)
          replace HN := hidp (HN.out.keep hb)
          replace HO1 := hidp (own_below HO1.out hb)
          replace HD := hidp (HD.out.keep hb)
          clear hb
          refine hK.out _ _ ?_ (fun hHeld => ?_)
          · (try dsimp only)
            first | exact HC.out.three | exact hHeld
          clear hK K
          (try simp only [Act.put, gA, gB, gC, sA, sB, sC])
          refine tkz 4 ?_
          refine tkz 5 ?_
          refine tkz 6 ?_
          refine wpAnyH_ready (rs := [8]) (by kernel_rfl) (by simp) ?_
          refine AllReadyH.cons (o := _) rfl (fun K hK => ?_) AllReadyH.nil
          obtain ⟨z0, z1', z2, z3, z4, z5', z6, z7, z8⟩ := HN.out.nine
          obtain ⟨f0, f1, f2, f3, f4, f5, f6, f7, f8⟩ := HN.out.thawed9
          go_simp
          obtain ⟨WF, hWF⟩ : ∃ WF, wr9 (v8) N13 (.slice A2 nl k2) r0 r1 r2 r3 r4 r5 r6 r7 = WF := ⟨_, rfl⟩
          replace HO1 := hidp (own9 hWF (heldOwn_ne HN.out HO1.out (by decide)) HO1.out)
          replace HO2 := hidp (own9 hWF (heldOwn_ne HN.out HO2.out (by decide)) HO2.out)
          replace HC := hidp (far9 hWF (by have := HLT.out; omega) HC.out)
          replace HX := hidp (far9 hWF (by have := HLT.out; omega) HX.out)
          replace HSL := hidp (far9 hWF (by have := HLT.out; omega) HSL.out)
          replace HS := hidp (far9 hWF (by have := HLT.out; omega) HS.out)
          replace HD := hidp (duo9 hWF HNA.out (fun x => x) HLE.out HD.out)
          replace HN := hidp (held9 hWF HN.out)
          unfold wr9 set9 at hWF
          rw [hWF]
          clear hWF z0 z1' z2 z3 z4 z5' z6 z7 z8 f0 f1 f2 f3 f4 f5 f6 f7 f8
          refine hK.out _ _ ?_ (fun hHeld => ?_)
          · (try dsimp only)
            first | exact HC.out.three | exact hHeld
          clear hK K
          (try simp only [Act.put, gA, gB, gC, sA, sB, sC])
          refine tkz 9 ?_
          refine wpAnyH_done (by kernel_rfl) ?_ _
          go_wp2_with fail
          go_meet
          case rel => exact ⟨_, _, _, _, rfl, rfl, HN.out, HO2.out, HC.out, HX.out, HSL.out, HS.out, HO1.out, HD.out⟩
  case rest =>
    obtain ⟨N13, k2, A2, A4, rfl, rfl, hN, hO2, hHC, hHX, hHSL, hHS, hHO1, hD⟩ := hcut
    have HNS := hidp hN
    have HO2 := hidp hO2
    replace HC := hidp hHC
    replace HX := hidp hHX
    replace HSL := hidp hHSL
    replace HS := hidp hHS
    replace HO1 := hidp hHO1
    replace HD := hidp hD
    clear hN hO2 hHC hHX hHSL hHS hHO1 hD
    clear x0' x1' x2' y0' y1'
    obtain ⟨x0', x1', x2'⟩ := HC.out.three
    obtain ⟨y0', y1'⟩ := HX.out.two
    go_wp2_with fail
    replace HC := hidp HC.out.drw
    replace HX := hidp HX.out.drw
    replace HSL := hidp HSL.out.drw
    replace HS := hidp HS.out.drw
    replace HNS := hidp HNS.out.drw
    replace HO1 := hidp (own_below HO1.out (Bdrew (B0 _)))
    replace HO2 := hidp (own_below HO2.out (Bdrew (B0 _)))
    replace HD := hidp (HD.out.keep (Bdrew (B0 _)))
    refine wp_region_held_drew (S := (fun w' => (w'.cell? ⟨N13, 0, none⟩ = some (.slice A2 nl k2) ∧ w'.cell? ⟨N13, 1, none⟩ = some (.int .i64 (r0 : Int)) ∧ w'.cell? ⟨N13, 2, none⟩ = some (.int .i64 (r1 : Int)) ∧ w'.cell? ⟨N13, 3, none⟩ = some (.int .i64 (r2 : Int)) ∧ w'.cell? ⟨N13, 4, none⟩ = some (.int .i64 (r3 : Int)) ∧ w'.cell? ⟨N13, 5, none⟩ = some (.int .i64 (r4 : Int)) ∧ w'.cell? ⟨N13, 6, none⟩ = some (.int .i64 (r5 : Int)) ∧ w'.cell? ⟨N13, 7, none⟩ = some (.int .i64 (r6 : Int)) ∧ w'.cell? ⟨N13, 8, none⟩ = some (.int .i64 (r7 : Int))) ∧ (w'.cell? ⟨NW, 0, none⟩ = some (.slice A1 nl k1) ∧ w'.cell? ⟨NW, 1, none⟩ = some (.int .i64 (r0 : Int)) ∧ w'.cell? ⟨NW, 2, none⟩ = some (.int .i64 (r1 : Int)) ∧ w'.cell? ⟨NW, 3, none⟩ = some (.int .i64 (r2 : Int)) ∧ w'.cell? ⟨NW, 4, none⟩ = some (.int .i64 (r3 : Int)) ∧ w'.cell? ⟨NW, 5, none⟩ = some (.int .i64 (r4 : Int)) ∧ w'.cell? ⟨NW, 6, none⟩ = some (.int .i64 (r5 : Int)) ∧ w'.cell? ⟨NW, 7, none⟩ = some (.int .i64 (r6 : Int)) ∧ w'.cell? ⟨NW, 8, none⟩ = some (.int .i64 (r7 : Int))) ∧ w'.cell? ⟨W.heap.size, 0, none⟩ = some (.int .i64 (H.t : Int)) ∧ w'.cell? ⟨W.heap.size, 1, none⟩ = some (.int .i64 (H.p : Int)) ∧ w'.cell? ⟨W.heap.size, 2, none⟩ = some (.int .i64 (H.s : Int)))) (by kernel_rfl) ?_ (fun hHeld => ?_)
    · (try dsimp only)
      first | exact ⟨HNS.out.nine, HS.out.nine, HC.out.three⟩ | exact hHeld
    refine tkz 0 ?_
    refine tkz 1 ?_
    refine tkz 2 ?_
    refine tkz 3 ?_
    refine tkz 4 ?_
    refine wpAnyH_ready (rs := [5]) (by kernel_rfl) (by simp) ?_
    refine AllReadyH.cons (o := _) rfl (fun K hK => ?_) AllReadyH.nil
    go_simp
    refine (xSame_c L L A1 A2 nl nl k1 k2 0 0 r0 r1 r2 r3 r4 r5 r6 r7 r0 r1 r2 r3 r4 r5 r6 r7 _ HNL.out HNL.out hnlb2 hnlb2 HO1.out HO2.out true ⟨fun _ => ⟨rfl, rfl⟩, fun _ => rfl⟩).mono ?_
    rintro e w21 ⟨rfl, hb⟩
    replace HC := hidp (HC.out.keep hb)
    replace HX := hidp (HX.out.keep hb)
    replace HSL := hidp (HSL.out.keep hb)
    replace HS := hidp (HS.out.keep hb)
    replace HNS := hidp (HNS.out.keep hb)
    replace HD := hidp (HD.out.keep hb)
    clear hb HO1 HO2
    refine hK.out _ _ ?_ (fun hHeld => ?_)
    · (try dsimp only)
      first | exact ⟨HNS.out.nine, HS.out.nine, HC.out.three⟩ | exact hHeld
    clear hK K
    (try simp only [Act.put, gA, gB, gC, sA, sB, sC])
    refine tkz 6 ?_
    refine tkz 7 ?_
    refine tkz 8 ?_
    refine tkz 9 ?_
    refine tkz 10 ?_
    refine tkz 13 ?_
    refine tkz 14 ?_
    refine tkz 16 ?_
    refine tkz 17 ?_
    refine wpAnyH_ready (rs := [11]) (by kernel_rfl) (by simp) ?_
    refine AllReadyH.cons (o := _) rfl (fun K hK => ?_) AllReadyH.nil
    go_simp
    obtain ⟨o9, hI9, _⟩ := HD.out.i1
    refine (vVals_some hn0 (by have := hI9.ok.few; omega) _ hI9).mono ?_
    rintro e w22 ⟨g, cp, rfl, _, hrow, hb⟩
    have HRF := hidp hrow
    clear hI9 hrow
    replace HC := hidp (HC.out.keep hb)
    replace HX := hidp (HX.out.keep hb)
    replace HSL := hidp (HSL.out.keep hb)
    replace HS := hidp (HS.out.keep hb)
    replace HNS := hidp (HNS.out.keep hb)
    replace HD := hidp (HD.out.keep hb)
    clear hb
    refine hK.out _ _ ?_ (fun hHeld => ?_)
    · (try dsimp only)
      first | exact ⟨HNS.out.nine, HS.out.nine, HC.out.three⟩ | exact hHeld
    clear hK K
    (try simp only [Act.put, gA, gB, gC, sA, sB, sC])
    refine wpAnyH_ready (rs := [12]) (by kernel_rfl) (by simp) ?_
    refine AllReadyH.cons (o := _) rfl (fun K hK => ?_) AllReadyH.nil
    go_simp
    refine (HCN.out _ _ _ HRF.out).mono ?_
    rintro e w23 ⟨rfl, hb⟩
    replace HC := hidp (HC.out.keep hb)
    replace HX := hidp (HX.out.keep hb)
    replace HSL := hidp (HSL.out.keep hb)
    replace HS := hidp (HS.out.keep hb)
    replace HNS := hidp (HNS.out.keep hb)
    replace HD := hidp (HD.out.keep hb)
    clear hb HRF
    refine hK.out _ _ ?_ (fun hHeld => ?_)
    · (try dsimp only)
      first | exact ⟨HNS.out.nine, HS.out.nine, HC.out.three⟩ | exact hHeld
    clear hK K
    (try simp only [Act.put, gA, gB, gC, sA, sB, sC])
    refine wpAnyH_ready (rs := [15]) (by kernel_rfl) (by simp) ?_
    refine AllReadyH.cons (o := _) rfl (fun K hK => ?_) AllReadyH.nil
    go_simp
    refine (count16_c HV ad m _ (hv.out.below HD.out.bel) (hX.out.grown HD.out.bel)).mono ?_
    rintro e w24 ⟨rfl, hb⟩
    rw [HKZ.out]
    replace HC := hidp (HC.out.keep hb)
    replace HX := hidp (HX.out.keep hb)
    replace HSL := hidp (HSL.out.keep hb)
    replace HS := hidp (HS.out.keep hb)
    replace HNS := hidp (HNS.out.keep hb)
    replace HD := hidp (HD.out.keep hb)
    clear hb
    refine hK.out _ _ ?_ (fun hHeld => ?_)
    · (try dsimp only)
      first | exact ⟨HNS.out.nine, HS.out.nine, HC.out.three⟩ | exact hHeld
    clear hK K
    (try simp only [Act.put, gA, gB, gC, sA, sB, sC])
    refine tkz 18 ?_
    refine tkz 19 ?_
    refine tkz 20 ?_
    refine wpAnyH_done (by kernel_rfl) ?_ _
    clear x0' x1' x2' y0' y1'
    obtain ⟨x0', x1', x2'⟩ := HC.out.three
    obtain ⟨y0', y1'⟩ := HX.out.two
    clear HS HNS
    go_wp2_with fail
    go_cut [15] from 116 to 119 (fun u15 wx => ∃ (NX gy cpy : Nat) (cy : Array Value) (A4 : Nat → Prop), u15 = .pointer (some ⟨NX, 0, none⟩) ∧ RowS n cpy (valF (nowV (wholeK16 vals) s2.wr)) cy ∧ Held wx NX 58 #[.int .i64 (H.t : Int), .int .i64 (H.p : Int), .int .i64 (H.s : Int), .slice (some ⟨gy, 0, none⟩) n cpy] ∧ Held wx gy 63 cy ∧ Held wx W.heap.size 23 #[.int .i64 (H.t : Int), .int .i64 (H.p : Int), .int .i64 (H.s : Int)] ∧ Held wx (W.heap.size + 1) 25 #[.int .i64 x0, .int .i64 (wn : Int)] ∧ Held wx g2 3 cr ∧ Duo W (vOb z1 b1 n true (wholeK16 vals)) noOb A4 (fun _ => False) (fun g => g < z1) s2 freshS wx)
    case first =>
      replace HC := hidp HC.out.drw
      replace HX := hidp HX.out.drw
      replace HSL := hidp HSL.out.drw
      replace HD := hidp (HD.out.keep (Bdrew (B0 _)))
      refine wp_region_held_drew (S := (fun w' => w'.cell? ⟨W.heap.size, 0, none⟩ = some (.int .i64 (H.t : Int)) ∧ w'.cell? ⟨W.heap.size, 1, none⟩ = some (.int .i64 (H.p : Int)) ∧ w'.cell? ⟨W.heap.size, 2, none⟩ = some (.int .i64 (H.s : Int)))) (by kernel_rfl) ?_ (fun hHeld => ?_)
      · (try dsimp only)
        first | exact HC.out.three | exact hHeld
      generalize hq0 : World.drew w24 = q0 at HC HX HSL HD hHeld ⊢
      clear hq0
      refine tkz 0 ?_
      refine tkz 1 ?_
      refine wpAnyH_ready (rs := [2, 4]) (by kernel_rfl) (by simp) ?_
      refine AllReadyH.cons (o := _) rfl (fun K hK => ?_) (AllReadyH.cons (o := _) rfl (fun K hK => ?_) AllReadyH.nil)
      · skip
        go_simp
        obtain ⟨o9, hI9, _⟩ := HD.out.i1
        refine (vVals_some hn0 (by have := hI9.ok.few; omega) _ hI9).mono ?_
        rintro e v1 ⟨gy, cpy, rfl, hgy, hrow, hb⟩
        obtain ⟨cy, hy, hys⟩ := hrow.held
        have HY := hidp hy
        have HYS := hidp hys
        have hcy := hrow.le
        have hcy2 : cpy ≤ 9223372036854775807 := hrow.max
        clear hI9 hrow hy hys
        replace HC := hidp (HC.out.keep hb)
        replace HX := hidp (HX.out.keep hb)
        replace HSL := hidp (HSL.out.keep hb)
        replace HD := hidp (HD.out.keep hb)
        clear hb hgy
        refine hK.out _ _ ?_ (fun hHeld => ?_)
        · (try dsimp only)
          first | exact HC.out.three | exact hHeld
        clear hK K
        (try simp only [Act.put, gA, gB, gC, sA, sB, sC])
        refine tkz 3 ?_
        refine wpAnyH_ready (rs := [4]) (by kernel_rfl) (by simp) ?_
        refine AllReadyH.cons (o := _) rfl (fun K hK => ?_) AllReadyH.nil
        go_simp
        have hb := Bnew (B0 v1) (.cells #[.int .i64 0, .int .i64 0, .int .i64 0, .slice none 0 0] 58)
        have HN := hidp (Held.new v1 58 #[.int .i64 0, .int .i64 0, .int .i64 0, .slice none 0 0])
        have HLE := hidp HD.out.bel.size
        have HLT : Hid (W.heap.size < v1.heap.size ∧ (W.heap.size + 1) < v1.heap.size ∧ g2 < v1.heap.size) := hidp ⟨HC.out.lt, HX.out.lt, HSL.out.lt⟩
        have HNA : Hid (¬ A4 v1.heap.size) := hidp (fun x => by have := Ob.lt (vOb z1 b1 n true (wholeK16 vals)) HD.out.i1 _ x; omega)
        have HNE : Hid (gy ≠ v1.heap.size) := hidp (by have := HY.out.lt; omega)
        replace HC := hidp (HC.out.keep hb)
        replace HX := hidp (HX.out.keep hb)
        replace HSL := hidp (HSL.out.keep hb)
        replace HY := hidp (HY.out.keep hb)
        replace HD := hidp (HD.out.keep hb)
        clear hb
        generalize hn13 : v1.heap.size = NX at *
        generalize hw13 : v1.alloc (.cells #[.int .i64 0, .int .i64 0, .int .i64 0, .slice none 0 0] 58) = v2 at *
        clear hn13 hw13
        refine hK.out _ _ ?_ (fun hHeld => ?_)
        · (try dsimp only)
          first | exact HC.out.three | exact hHeld
        clear hK K
        (try simp only [Act.put, gA, gB, gC, sA, sB, sC])
        refine wpAnyH_ready (rs := [5]) (by kernel_rfl) (by simp) ?_
        refine AllReadyH.cons (o := _) rfl (fun K hK => ?_) AllReadyH.nil
        obtain ⟨z0, z1', z2, z3⟩ := HN.out.four
        have f0 := HN.out.thawed 0
        have f1 := HN.out.thawed 1
        have f2 := HN.out.thawed 2
        have f3 := HN.out.thawed 3
        go_simp
        obtain ⟨WF, hWF⟩ : ∃ WF, set4 (v2) NX (.int .i64 (H.t : Int)) (.int .i64 (H.p : Int)) (.int .i64 (H.s : Int)) (.slice (some ⟨gy, 0, none⟩) n cpy) = WF := ⟨_, rfl⟩
        replace HC := hidp (far4 hWF (by have := HLT.out; omega) HC.out)
        replace HX := hidp (far4 hWF (by have := HLT.out; omega) HX.out)
        replace HSL := hidp (far4 hWF (by have := HLT.out; omega) HSL.out)
        replace HY := hidp (far4 hWF HNE.out HY.out)
        replace HD := hidp (duo4 hWF HNA.out (fun x => x) HLE.out HD.out)
        replace HN := hidp (held4 hWF HN.out)
        unfold set4 at hWF
        rw [hWF]
        clear hWF z0 z1' z2 z3 f0 f1 f2 f3
        refine hK.out _ _ ?_ (fun hHeld => ?_)
        · (try dsimp only)
          first | exact HC.out.three | exact hHeld
        clear hK K
        (try simp only [Act.put, gA, gB, gC, sA, sB, sC])
        refine wpAnyH_done (by kernel_rfl) ?_ _
        go_wp2_with fail
        go_meet
        case rel => exact ⟨_, _, _, _, _, rfl, HYS.out, HN.out, HY.out, HC.out, HX.out, HSL.out, HD.out⟩
      · skip
        go_simp
        have hb := Bnew (B0 q0) (.cells #[.int .i64 0, .int .i64 0, .int .i64 0, .slice none 0 0] 58)
        have HN := hidp (Held.new q0 58 #[.int .i64 0, .int .i64 0, .int .i64 0, .slice none 0 0])
        have HLE := hidp HD.out.bel.size
        have HLT : Hid (W.heap.size < q0.heap.size ∧ (W.heap.size + 1) < q0.heap.size ∧ g2 < q0.heap.size) := hidp ⟨HC.out.lt, HX.out.lt, HSL.out.lt⟩
        have HNA : Hid (¬ A4 q0.heap.size) := hidp (fun x => by have := Ob.lt (vOb z1 b1 n true (wholeK16 vals)) HD.out.i1 _ x; omega)
        replace HC := hidp (HC.out.keep hb)
        replace HX := hidp (HX.out.keep hb)
        replace HSL := hidp (HSL.out.keep hb)
        replace HD := hidp (HD.out.keep hb)
        clear hb
        generalize hn13 : q0.heap.size = NX at *
        generalize hw13 : q0.alloc (.cells #[.int .i64 0, .int .i64 0, .int .i64 0, .slice none 0 0] 58) = v3 at *
        clear hn13 hw13
        refine hK.out _ _ ?_ (fun hHeld => ?_)
        · (try dsimp only)
          first | exact HC.out.three | exact hHeld
        clear hK K
        (try simp only [Act.put, gA, gB, gC, sA, sB, sC])
        refine wpAnyH_ready (rs := [2]) (by kernel_rfl) (by simp) ?_
        refine AllReadyH.cons (o := _) rfl (fun K hK => ?_) AllReadyH.nil
        go_simp
        obtain ⟨o9, hI9, _⟩ := HD.out.i1
        refine (vVals_some hn0 (by have := hI9.ok.few; omega) _ hI9).mono ?_
        rintro e v4 ⟨gy, cpy, rfl, hgy, hrow, hb⟩
        obtain ⟨cy, hy, hys⟩ := hrow.held
        have HY := hidp hy
        have HYS := hidp hys
        have hcy := hrow.le
        have hcy2 : cpy ≤ 9223372036854775807 := hrow.max
        have HNE : Hid (gy ≠ NX) := hidp (by have := HN.out.lt; omega)
        clear hI9 hrow hy hys
        replace HC := hidp (HC.out.keep hb)
        replace HX := hidp (HX.out.keep hb)
        replace HSL := hidp (HSL.out.keep hb)
        replace HN := hidp (HN.out.keep hb)
        replace HD := hidp (HD.out.keep hb)
        clear hb hgy
        refine hK.out _ _ ?_ (fun hHeld => ?_)
        · (try dsimp only)
          first | exact HC.out.three | exact hHeld
        clear hK K
        (try simp only [Act.put, gA, gB, gC, sA, sB, sC])
        refine tkz 3 ?_
        refine wpAnyH_ready (rs := [5]) (by kernel_rfl) (by simp) ?_
        refine AllReadyH.cons (o := _) rfl (fun K hK => ?_) AllReadyH.nil
        obtain ⟨z0, z1', z2, z3⟩ := HN.out.four
        have f0 := HN.out.thawed 0
        have f1 := HN.out.thawed 1
        have f2 := HN.out.thawed 2
        have f3 := HN.out.thawed 3
        go_simp
        obtain ⟨WF, hWF⟩ : ∃ WF, set4 (v4) NX (.int .i64 (H.t : Int)) (.int .i64 (H.p : Int)) (.int .i64 (H.s : Int)) (.slice (some ⟨gy, 0, none⟩) n cpy) = WF := ⟨_, rfl⟩
        replace HC := hidp (far4 hWF (by have := HLT.out; omega) HC.out)
        replace HX := hidp (far4 hWF (by have := HLT.out; omega) HX.out)
        replace HSL := hidp (far4 hWF (by have := HLT.out; omega) HSL.out)
        replace HY := hidp (far4 hWF HNE.out HY.out)
        replace HD := hidp (duo4 hWF HNA.out (fun x => x) HLE.out HD.out)
        replace HN := hidp (held4 hWF HN.out)
        unfold set4 at hWF
        rw [hWF]
        clear hWF z0 z1' z2 z3 f0 f1 f2 f3
        refine hK.out _ _ ?_ (fun hHeld => ?_)
        · (try dsimp only)
          first | exact HC.out.three | exact hHeld
        clear hK K
        (try simp only [Act.put, gA, gB, gC, sA, sB, sC])
        refine wpAnyH_done (by kernel_rfl) ?_ _
        go_wp2_with fail
        go_meet
        case rel => exact ⟨_, _, _, _, _, rfl, HYS.out, HN.out, HY.out, HC.out, HX.out, HSL.out, HD.out⟩
    case rest =>
      obtain ⟨NX, gy, cpy, cy, A4, rfl, hYS, hN, hY, hHC, hHX, hHSL, hD⟩ := hcut
      have HYS := hidp hYS
      have HXB := hidp hN
      have HY := hidp hY
      replace HC := hidp hHC
      replace HX := hidp hHX
      replace HSL := hidp hHSL
      replace HD := hidp hD
      have hcy := (hYS _ _ _ hY).le
      have hcy2 : cpy ≤ 9223372036854775807 := (hYS _ _ _ hY).max
      clear hYS hN hY hHC hHX hHSL hD
      clear x0' x1' x2' y0' y1'
      obtain ⟨x0', x1', x2'⟩ := HC.out.three
      obtain ⟨y0', y1'⟩ := HX.out.two
      go_wp2_with fail
      go_loopw [16] (fun u16 wr => ∃ i : Nat, i ≤ ns ∧ u16 = .int .i64 (i : Int) ∧ Hid (Held wr W.heap.size 23 #[.int .i64 (H.t : Int), .int .i64 (H.p : Int), .int .i64 (H.s : Int)]) ∧ Hid (Held wr (W.heap.size + 1) 25 #[.int .i64 x0, .int .i64 (wn : Int)]) ∧ Hid (Held wr g2 3 cr) ∧ Hid (Held wr NX 58 #[.int .i64 (H.t : Int), .int .i64 (H.p : Int), .int .i64 (H.s : Int), .slice (some ⟨gy, 0, none⟩) n cpy]) ∧ Hid (Held wr gy 63 cy) ∧ ∃ A4 : Nat → Prop, Hid (Duo W (vOb z1 b1 n true (wholeK16 vals)) noOb A4 (fun _ => False) (fun g => g < z1) s2 freshS wr)) (fun u16 _ => ns - (intOf u16).toNat)
      case atStart => exact ⟨0, by omega, rfl, HC, HX, HSL, HXB, HY, _, HD⟩
      case round =>
        clear HC HX HSL HXB HY HD x0' x1' x2' y0' y1'
        obtain ⟨i, hi, rfl, HC, HX, HSL, HXB, HY, A4, HD⟩ := hrel
        obtain ⟨x0', x1', x2'⟩ := HC.out.three
        obtain ⟨y0', y1'⟩ := HX.out.two
        by_cases hlt : i < ns
        · rcases Nat.eq_zero_or_pos i with rfl | hpos
          · skip
            have HID := hidp (HIN.out 0 hlt)
            have HIF := hidp (HIO.out 0 hlt).1
            have hxi := (HIO.out 0 hlt).2
            have HCI := hidp (fun (w : World) (hh : Held w g2 3 cr) => HSC.out w hh 0 hlt)
            generalize l.getD 0 0 = xi at *
            go_wp2_with fail
            replace HC := hidp HC.out.drw
            replace HX := hidp HX.out.drw
            replace HSL := hidp HSL.out.drw
            replace HXB := hidp HXB.out.drw
            replace HY := hidp HY.out.drw
            replace HD := hidp (HD.out.keep (Bdrew (B0 _)))
            refine wp_region_held_drew (S := (fun w' => (w'.cell? ⟨W.heap.size, 0, none⟩ = some (.int .i64 (H.t : Int)) ∧ w'.cell? ⟨W.heap.size, 1, none⟩ = some (.int .i64 (H.p : Int)) ∧ w'.cell? ⟨W.heap.size, 2, none⟩ = some (.int .i64 (H.s : Int))) ∧ w'.cell? ⟨g2, 0, none⟩ = some (.int .i64 (xi : Int)))) (by kernel_rfl) ?_ (fun hHeld => ?_)
            · (try dsimp only)
              first | exact ⟨HC.out.three, HCI.out _ HSL.out⟩ | exact hHeld
            refine tkz 0 ?_
            refine tkz 1 ?_
            refine tkz 3 ?_
            refine tkz 4 ?_
            refine tkz 5 ?_
            refine tkz 6 ?_
            refine tkz 7 ?_
            refine wpAnyH_ready (rs := [2]) (by kernel_rfl) (by simp) ?_
            refine AllReadyH.cons (o := _) rfl (fun K hK => ?_) AllReadyH.nil
            go_simp
            obtain ⟨o9, hI9, _⟩ := HD.out.i1
            refine (vVals_some hn0 (by have := hI9.ok.few; omega) _ hI9).mono ?_
            rintro e w31 ⟨g, cp, rfl, _, hrow, hb⟩
            have HRF := hidp hrow
            clear hI9 hrow
            replace HC := hidp (HC.out.keep hb)
            replace HX := hidp (HX.out.keep hb)
            replace HSL := hidp (HSL.out.keep hb)
            replace HXB := hidp (HXB.out.keep hb)
            replace HY := hidp (HY.out.keep hb)
            replace HD := hidp (HD.out.keep hb)
            clear hb
            refine hK.out _ _ ?_ (fun hHeld => ?_)
            · (try dsimp only)
              first | exact ⟨HC.out.three, HCI.out _ HSL.out⟩ | exact hHeld
            clear hK K
            (try simp only [Act.put, gA, gB, gC, sA, sB, sC])
            refine wpAnyH_ready (rs := [8]) (by kernel_rfl) (by simp) ?_
            refine AllReadyH.cons (o := _) rfl (fun K hK => ?_) AllReadyH.nil
            go_simp
            refine (HID.out _ _ _ HRF.out).mono ?_
            rintro e w32 ⟨rfl, hb⟩
            replace HC := hidp (HC.out.keep hb)
            replace HX := hidp (HX.out.keep hb)
            replace HSL := hidp (HSL.out.keep hb)
            replace HXB := hidp (HXB.out.keep hb)
            replace HY := hidp (HY.out.keep hb)
            replace HD := hidp (HD.out.keep hb)
            clear hb HRF
            refine hK.out _ _ ?_ (fun hHeld => ?_)
            · (try dsimp only)
              first | exact ⟨HC.out.three, HCI.out _ HSL.out⟩ | exact hHeld
            clear hK K
            (try simp only [Act.put, gA, gB, gC, sA, sB, sC])
            refine tkz 9 ?_
            refine tkz 10 ?_
            refine tkz 11 ?_
            refine tkz 12 ?_
            refine tkz 13 ?_
            refine tkz 14 ?_
            refine tkz 15 ?_
            refine tkz 16 ?_
            refine tkz 17 ?_
            refine wpAnyH_ready (rs := [18]) (by kernel_rfl) (by simp) ?_
            refine AllReadyH.cons (o := _) rfl (fun K hK => ?_) AllReadyH.nil
            go_simp
            refine (idle16_c HV ad hpp hxi _ (hv.out.below HD.out.bel)).mono ?_
            rintro e w33 ⟨rfl, hb⟩
            rw [HIF.out]
            replace HC := hidp (HC.out.keep hb)
            replace HX := hidp (HX.out.keep hb)
            replace HSL := hidp (HSL.out.keep hb)
            replace HXB := hidp (HXB.out.keep hb)
            replace HY := hidp (HY.out.keep hb)
            replace HD := hidp (HD.out.keep hb)
            clear hb
            refine hK.out _ _ ?_ (fun hHeld => ?_)
            · (try dsimp only)
              first | exact ⟨HC.out.three, HCI.out _ HSL.out⟩ | exact hHeld
            clear hK K
            (try simp only [Act.put, gA, gB, gC, sA, sB, sC])
            refine tkz 19 ?_
            refine tkz 20 ?_
            refine tkz 21 ?_
            refine tkz 22 ?_
            refine tkz 23 ?_
            refine skO (i := 24) rfl (by kernel_rfl) (fun _ _ _ h => h) (by rfl) (by assumption) ?_
            (try simp only [Act.put, gA, gB, gC, sA, sB, sC])
            refine skO (i := 25) rfl (by kernel_rfl) (fun _ _ _ h => h) (by rfl) (by assumption) ?_
            (try simp only [Act.put, gA, gB, gC, sA, sB, sC])
            refine skO (i := 26) rfl (by kernel_rfl) (fun _ _ _ h => h) (by rfl) (by assumption) ?_
            (try simp only [Act.put, gA, gB, gC, sA, sB, sC])
            refine skO (i := 27) rfl (by kernel_rfl) (fun _ _ _ h => h) (by rfl) (by assumption) ?_
            (try simp only [Act.put, gA, gB, gC, sA, sB, sC])
            refine skO (i := 28) rfl (by kernel_rfl) (fun _ _ _ h => h) (by rfl) (by assumption) ?_
            (try simp only [Act.put, gA, gB, gC, sA, sB, sC])
            refine skO (i := 29) rfl (by kernel_rfl) (fun _ _ _ h => h) (by rfl) (by assumption) ?_
            (try simp only [Act.put, gA, gB, gC, sA, sB, sC])
            refine skO (i := 30) rfl (by kernel_rfl) (fun _ _ _ h => h) (by rfl) (by assumption) ?_
            (try simp only [Act.put, gA, gB, gC, sA, sB, sC])
            refine skO (i := 31) rfl (by kernel_rfl) (fun _ _ _ h => h) (by rfl) (by assumption) ?_
            (try simp only [Act.put, gA, gB, gC, sA, sB, sC])
            refine skO (i := 32) rfl (by kernel_rfl) (fun _ _ _ h => h) (by rfl) (by assumption) ?_
            (try simp only [Act.put, gA, gB, gC, sA, sB, sC])
            refine skO (i := 33) rfl (by kernel_rfl) (fun _ _ _ h => h) (by rfl) (by assumption) ?_
            (try simp only [Act.put, gA, gB, gC, sA, sB, sC])
            refine tkz 34 ?_
            refine tkz 35 ?_
            refine wpAnyH_done (by kernel_rfl) ?_ _
            go_wp2_with fail
            go_roundw
            case rel => exact ⟨0 + 1, by omega, by go_num, HC, HX, HSL, HXB, HY, _, HD⟩
            case measure => simp [intOf]; omega
          · obtain ⟨j, hj⟩ : ∃ j, i = j + 1 := ⟨i - 1, by omega⟩
            have HID := hidp (HIN.out i hlt)
            have HIF := hidp (HIO.out i hlt).1
            have hxi := (HIO.out i hlt).2
            have HCI := hidp (fun (w : World) (hh : Held w g2 3 cr) => HSC.out w hh i hlt)
            have hlj := HUP.out j (by omega)
            rw [← hj] at hlj
            have vi : (i : Int) - 1 = (j : Int) := by omega
            have vj : IntKind.i64.wrap (j : Int) = (j : Int) := i64_same (by omega) (by omega)
            have t0i : decide ((0 : Int) < (i : Int)) = true := decide_eq_true (by omega)
            have t0n : decide (0 < i) = true := decide_eq_true (by omega)
            have hjl : j < ns := by omega
            have HCJ := hidp (fun (w : World) (hh : Held w g2 3 cr) => HSC.out w hh j (by omega))
            generalize l.getD j 0 = xj at *
            generalize l.getD i 0 = xi at *
            clear hj
            have tl : decide ((xi : Int) ≤ (xj : Int)) = false := decide_eq_false (by omega)
            have tln : decide (xi ≤ xj) = false := decide_eq_false (by omega)
            go_wp2_with fail
            replace HC := hidp HC.out.drw
            replace HX := hidp HX.out.drw
            replace HSL := hidp HSL.out.drw
            replace HXB := hidp HXB.out.drw
            replace HY := hidp HY.out.drw
            replace HD := hidp (HD.out.keep (Bdrew (B0 _)))
            refine wp_region_held_drew (S := (fun w' => (w'.cell? ⟨W.heap.size, 0, none⟩ = some (.int .i64 (H.t : Int)) ∧ w'.cell? ⟨W.heap.size, 1, none⟩ = some (.int .i64 (H.p : Int)) ∧ w'.cell? ⟨W.heap.size, 2, none⟩ = some (.int .i64 (H.s : Int))) ∧ w'.cell? ⟨g2, i, none⟩ = some (.int .i64 (xi : Int)) ∧ w'.cell? ⟨g2, j, none⟩ = some (.int .i64 (xj : Int)))) (by kernel_rfl) ?_ (fun hHeld => ?_)
            · (try dsimp only)
              first | exact ⟨HC.out.three, HCI.out _ HSL.out, HCJ.out _ HSL.out⟩ | exact hHeld
            refine tkz 0 ?_
            refine tkz 1 ?_
            refine tkz 3 ?_
            refine tkz 4 ?_
            refine tkz 5 ?_
            refine tkz 6 ?_
            refine tkz 7 ?_
            refine wpAnyH_ready (rs := [2]) (by kernel_rfl) (by simp) ?_
            refine AllReadyH.cons (o := _) rfl (fun K hK => ?_) AllReadyH.nil
            go_simp
            obtain ⟨o9, hI9, _⟩ := HD.out.i1
            refine (vVals_some hn0 (by have := hI9.ok.few; omega) _ hI9).mono ?_
            rintro e w31 ⟨g, cp, rfl, _, hrow, hb⟩
            have HRF := hidp hrow
            clear hI9 hrow
            replace HC := hidp (HC.out.keep hb)
            replace HX := hidp (HX.out.keep hb)
            replace HSL := hidp (HSL.out.keep hb)
            replace HXB := hidp (HXB.out.keep hb)
            replace HY := hidp (HY.out.keep hb)
            replace HD := hidp (HD.out.keep hb)
            clear hb
            refine hK.out _ _ ?_ (fun hHeld => ?_)
            · (try dsimp only)
              first | exact ⟨HC.out.three, HCI.out _ HSL.out, HCJ.out _ HSL.out⟩ | exact hHeld
            clear hK K
            (try simp only [Act.put, gA, gB, gC, sA, sB, sC])
            refine wpAnyH_ready (rs := [8]) (by kernel_rfl) (by simp) ?_
            refine AllReadyH.cons (o := _) rfl (fun K hK => ?_) AllReadyH.nil
            go_simp
            refine (HID.out _ _ _ HRF.out).mono ?_
            rintro e w32 ⟨rfl, hb⟩
            replace HC := hidp (HC.out.keep hb)
            replace HX := hidp (HX.out.keep hb)
            replace HSL := hidp (HSL.out.keep hb)
            replace HXB := hidp (HXB.out.keep hb)
            replace HY := hidp (HY.out.keep hb)
            replace HD := hidp (HD.out.keep hb)
            clear hb HRF
            refine hK.out _ _ ?_ (fun hHeld => ?_)
            · (try dsimp only)
              first | exact ⟨HC.out.three, HCI.out _ HSL.out, HCJ.out _ HSL.out⟩ | exact hHeld
            clear hK K
            (try simp only [Act.put, gA, gB, gC, sA, sB, sC])
            refine tkz 9 ?_
            refine tkz 10 ?_
            refine tkz 11 ?_
            refine tkz 12 ?_
            refine tkz 13 ?_
            refine tkz 14 ?_
            refine tkz 15 ?_
            refine tkz 16 ?_
            refine tkz 17 ?_
            refine wpAnyH_ready (rs := [18]) (by kernel_rfl) (by simp) ?_
            refine AllReadyH.cons (o := _) rfl (fun K hK => ?_) AllReadyH.nil
            go_simp
            refine (idle16_c HV ad hpp hxi _ (hv.out.below HD.out.bel)).mono ?_
            rintro e w33 ⟨rfl, hb⟩
            rw [HIF.out]
            replace HC := hidp (HC.out.keep hb)
            replace HX := hidp (HX.out.keep hb)
            replace HSL := hidp (HSL.out.keep hb)
            replace HXB := hidp (HXB.out.keep hb)
            replace HY := hidp (HY.out.keep hb)
            replace HD := hidp (HD.out.keep hb)
            clear hb
            refine hK.out _ _ ?_ (fun hHeld => ?_)
            · (try dsimp only)
              first | exact ⟨HC.out.three, HCI.out _ HSL.out, HCJ.out _ HSL.out⟩ | exact hHeld
            clear hK K
            (try simp only [Act.put, gA, gB, gC, sA, sB, sC])
            refine tkz 19 ?_
            refine tkz 20 ?_
            refine tkz 21 ?_
            refine tkz 22 ?_
            refine tkz 23 ?_
            refine tkz 24 ?_
            refine tkz 25 ?_
            refine tkz 26 ?_
            refine tkz 27 ?_
            refine tkz 28 ?_
            refine tkz 29 ?_
            refine tkz 30 ?_
            refine tkz 31 ?_
            refine tkz 32 ?_
            refine tkz 33 ?_
            refine tkz 34 ?_
            refine tkz 35 ?_
            refine wpAnyH_done (by kernel_rfl) ?_ _
            go_wp2_with fail
            go_roundw
            case rel => exact ⟨i + 1, by omega, by go_num, HC, HX, HSL, HXB, HY, _, HD⟩
            case measure => simp [intOf]; omega
        · obtain rfl : i = ns := by omega
          go_wp2_with fail
          replace HC := hidp HC.out.drw
          replace HX := hidp HX.out.drw
          replace HSL := hidp HSL.out.drw
          replace HXB := hidp HXB.out.drw
          replace HY := hidp HY.out.drw
          replace HD := hidp (HD.out.keep (Bdrew (B0 _)))
          refine wp_region_held_drew (S := (fun w' => (w'.cell? ⟨NX, 0, none⟩ = some (.int .i64 (H.t : Int)) ∧ w'.cell? ⟨NX, 1, none⟩ = some (.int .i64 (H.p : Int)) ∧ w'.cell? ⟨NX, 2, none⟩ = some (.int .i64 (H.s : Int)) ∧ w'.cell? ⟨NX, 3, none⟩ = some (.slice (some ⟨gy, 0, none⟩) n cpy)) ∧ w'.cell? ⟨W.heap.size + 1, 0, none⟩ = some (.int .i64 x0))) (by kernel_rfl) ?_ (fun hHeld => ?_)
          · (try dsimp only)
            first | exact ⟨HXB.out.four, HX.out.two.1⟩ | exact hHeld
          refine tkz 0 ?_
          refine tkz 1 ?_
          refine tkz 4 ?_
          refine tkz 5 ?_
          refine wpAnyH_ready (rs := [2]) (by kernel_rfl) (by simp) ?_
          refine AllReadyH.cons (o := _) rfl (fun K hK => ?_) AllReadyH.nil
          go_simp
          refine (HII.out _ _ _ (HYS.out _ _ _ HY.out)).mono ?_
          rintro e w41 ⟨rfl, hb⟩
          replace HC := hidp (HC.out.keep hb)
          replace HX := hidp (HX.out.keep hb)
          replace HSL := hidp (HSL.out.keep hb)
          replace HXB := hidp (HXB.out.keep hb)
          replace HY := hidp (HY.out.keep hb)
          replace HD := hidp (HD.out.keep hb)
          clear hb
          refine hK.out _ _ ?_ (fun hHeld => ?_)
          · (try dsimp only)
            first | exact ⟨HXB.out.four, HX.out.two.1⟩ | exact hHeld
          clear hK K
          (try simp only [Act.put, gA, gB, gC, sA, sB, sC])
          refine tkz 3 ?_
          refine tkz 6 ?_
          refine tkz 7 ?_
          refine wpAnyH_ready (rs := [8]) (by kernel_rfl) (by simp) ?_
          refine AllReadyH.cons (o := _) rfl (fun K hK => ?_) AllReadyH.nil
          go_simp
          refine (live16_c _ (HTL.out.below HD.out.bel)).mono ?_
          rintro e w42 ⟨rfl, hb⟩
          replace HC := hidp (HC.out.keep hb)
          replace HX := hidp (HX.out.keep hb)
          replace HSL := hidp (HSL.out.keep hb)
          replace HXB := hidp (HXB.out.keep hb)
          replace HY := hidp (HY.out.keep hb)
          replace HD := hidp (HD.out.keep hb)
          clear hb
          refine hK.out _ _ ?_ (fun hHeld => ?_)
          · (try dsimp only)
            first | exact ⟨HXB.out.four, HX.out.two.1⟩ | exact hHeld
          clear hK K
          (try simp only [Act.put, gA, gB, gC, sA, sB, sC])
          refine tkz 9 ?_
          refine tkz 10 ?_
          refine wpAnyH_done (by kernel_rfl) ?_ _
          have HB := hidp HD.out.bel
          go_wp2
          go_ret
          exact ⟨rfl, HB.out⟩

theorem SlabKeeps_calls (t q s x0 x1 : Int) (hx0 : -9223372036854775808 ≤ x0 ∧ x0 ≤ 9223372036854775807) (hx1 : -9223372036854775808 ≤ x1 ∧ x1 ≤ 9223372036854775807) (A : Option Addr) (c : Nat) (vals : List Nat) (hnc : vals.length ≤ c) (hcm : c ≤ maxLen) (h32 : ∀ x ∈ vals, x < 2 ^ 32) (W : World) (hT : SlotsLaid W) (HR : Hid (Reads W W.heap.size 1 A vals.length (valVs vals))) :
    Calls Tryz.prog 5 #[.agg #[.int .i64 t, .int .i64 q, .int .i64 s], .slice A vals.length c, .agg #[.int .i64 x0, .int .i64 x1]] W (Keeps W) := by
  by_cases hq : q ≤ 64
  · rcases heap13_or W t q s A c vals hnc hcm h32 HR.out with ⟨m, hX⟩ | ⟨H, ad, m, rfl, rfl, rfl, rfl, hV, HV, hv, hto, hX⟩
    · exact SlabKeeps_no t q s x0 x1 A _ c m hq W hT (hidp hX)
    · have hK : ∀ i, i < vals.length → wholeK16 vals i = some (H.V i) := fun i hi => by
        unfold wholeK16
        rw [hV i, List.getElem?_eq_getElem hi]
        simp [List.getD, List.getElem?_eq_getElem hi]
      by_cases hb : (0 ≤ x0 ∧ x0 ≤ 8) ∧ 1 ≤ x1 ∧ x1 ≤ 4
      · obtain ⟨wn, rfl⟩ := Int.eq_ofNat_of_zero_le (show 0 ≤ x1 by omega)
        obtain ⟨LL, hok⟩ := AuH.okL_of (by have := HV.nums; omega) (told_rules hto)
        rcases pick_heap HV hok (Work.of_ok hok HV hK) hb.1.1 hb.1.2 (w := wn) (by omega) with ⟨h1, h2⟩ | ⟨p, l, L2, h1, h2, h3, h4, h5, P⟩
        · exact SlabKeeps_none ad _ c m HV vals (hidp rfl) (hidp h32) hV (by omega) (told_rules hto) x0 _ hx0 (pickI vals.length (wholeK16 vals) H.t H.p H.s x0 wn freshS).2 ((pickZ_yes hb.1.1 hb.1.2 (by omega) (by omega)).trans (Prod.ext h1 rfl)) h2 W hT HR (hidp hv) (hidp hX)
        · exact SlabKeeps_some ad _ c m HV vals (hidp rfl) (hidp h32) hV (by omega) (told_rules hto) x0 hb.1.1 hb.1.2 wn (by omega) (by omega) p l _ L2 ((pickZ_yes hb.1.1 hb.1.2 (by omega) (by omega)).trans (Prod.ext h1 rfl)) h2 h3 h4 h5 P W hT HR (hidp hv) (hidp hX)
      · exact SlabKeeps_none ad _ c m HV vals (hidp rfl) (hidp h32) hV (by omega) (told_rules hto) x0 x1 hx0 freshS (pickZ_no hb) rfl W hT HR (hidp hv) (hidp hX)
  · exact SlabKeeps_few t q s x0 x1 A _ c 0 (by omega) W hT
end
end Go.Proofs.YtioolaaphbddbaaGreatDoor
