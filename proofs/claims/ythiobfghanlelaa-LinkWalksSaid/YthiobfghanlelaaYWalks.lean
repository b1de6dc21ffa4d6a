/-
  Proved: LinkWalks answers true at every input, never panics, and changes nothing that was there. Conditions: none beyond those of the given statement.
-/
import Derived.Test.YthiobfghanlelaaYIn
import Derived.Test.YthiobfghanlelaaYHeap
import Derived.Test.YthiobfghanlelaaYRow
namespace Go.Proofs.Ythiobfghanlelaa
open Go.ChangeShapes Go.WideShapes Go.ChangeAt Go.RowKit Go.Maps
set_option linter.unusedVariables false
set_option linter.unusedSimpArgs false
set_option maxRecDepth 100000

def wholeK13 (vals : List Nat) : Nat → Option Nat := fun i => vals[i]?

theorem LinkWalks_few (t q s x y : Int) (A : Option Addr) (n c m : Nat) (hq : 64 < q) (W : World)  : Calls Try.prog 5 #[.agg #[.int .i64 t, .int .i64 q, .int .i64 s], .slice A n c, .agg #[.int .i64 x, .int .i64 y]] W (Keeps W) := by
  have t2 : decide (q ≤ (64 : Int)) = false := decide_eq_false (by omega)
  have HC := hidp ((Held.new W 23 #[.int .i64 t, .int .i64 q, .int .i64 s]).alloc (.cells #[.int .i64 x, .int .i64 y] 46))
  have HX := hidp (Held.new2 W (.cells #[.int .i64 t, .int .i64 q, .int .i64 s] 23) 46 #[.int .i64 x, .int .i64 y])
  have HB := hidp (Bnew (Bnew (B0 W) (.cells #[.int .i64 t, .int .i64 q, .int .i64 s] 23)) (.cells #[.int .i64 x, .int .i64 y] 46))
  obtain ⟨x0, x1, x2⟩ := HC.out.three
  obtain ⟨y0, y1⟩ := HX.out.two
  go_enter Try.func5, Try.ntmps5
  go_wp2_with fail
  refine (few_c t q s _).mono ?_
  rintro e w1 ⟨rfl, hb⟩
  rw [t2]
  replace HC := hidp (HC.out.keep hb)
  replace HX := hidp (HX.out.keep hb)
  replace HB := hidp (Bgo HB.out hb)
  clear hb
  clear x0 x1 x2 y0 y1
  obtain ⟨x0, x1, x2⟩ := HC.out.three
  obtain ⟨y0, y1⟩ := HX.out.two
  go_wp2_with fail
  refine (live_c _).mono ?_
  rintro e w9 ⟨rfl, hb⟩
  replace HB := hidp (Bgo HB.out hb)
  clear hb
  go_wp2
  go_ret
  exact ⟨rfl, HB.out⟩

theorem LinkWalks_no (t q s x y : Int) (A : Option Addr) (n c m : Nat) (hq : q ≤ 64) (W : World) (hX : Hid (XCheckIs W t q s A n c m false)) : Calls Try.prog 5 #[.agg #[.int .i64 t, .int .i64 q, .int .i64 s], .slice A n c, .agg #[.int .i64 x, .int .i64 y]] W (Keeps W) := by
  have t2 : decide (q ≤ (64 : Int)) = true := decide_eq_true (by omega)
  have HC := hidp ((Held.new W 23 #[.int .i64 t, .int .i64 q, .int .i64 s]).alloc (.cells #[.int .i64 x, .int .i64 y] 46))
  have HX := hidp (Held.new2 W (.cells #[.int .i64 t, .int .i64 q, .int .i64 s] 23) 46 #[.int .i64 x, .int .i64 y])
  have HB := hidp (Bnew (Bnew (B0 W) (.cells #[.int .i64 t, .int .i64 q, .int .i64 s] 23)) (.cells #[.int .i64 x, .int .i64 y] 46))
  obtain ⟨x0, x1, x2⟩ := HC.out.three
  obtain ⟨y0, y1⟩ := HX.out.two
  go_enter Try.func5, Try.ntmps5
  go_wp2_with fail
  refine (few_c t q s _).mono ?_
  rintro e w1 ⟨rfl, hb⟩
  rw [t2]
  replace HC := hidp (HC.out.keep hb)
  replace HX := hidp (HX.out.keep hb)
  replace HB := hidp (Bgo HB.out hb)
  clear hb
  clear x0 x1 x2 y0 y1
  obtain ⟨x0, x1, x2⟩ := HC.out.three
  obtain ⟨y0, y1⟩ := HX.out.two
  go_wp2_with fail
  refine (xSound_c t q s A n c m false _ (hX.out.grown HB.out)).mono ?_
  rintro e w2 ⟨rfl, hb⟩
  replace HC := hidp (HC.out.keep hb)
  replace HX := hidp (HX.out.keep hb)
  replace HB := hidp (Bgo HB.out hb)
  clear hb
  clear x0 x1 x2 y0 y1
  obtain ⟨x0, x1, x2⟩ := HC.out.three
  obtain ⟨y0, y1⟩ := HX.out.two
  go_wp2_with fail
  refine (live_c _).mono ?_
  rintro e w9 ⟨rfl, hb⟩
  replace HB := hidp (Bgo HB.out hb)
  clear hb
  go_wp2
  go_ret
  exact ⟨rfl, HB.out⟩

set_option maxHeartbeats 12800000 in
theorem LinkWalks_main {H : AuH} (ad : Addr) (n c m h0 : Nat) (HV : HeapV H n c) (x y : Int) (mi : Int) (hm1 : (if x < 21 then x else 21) = mi) (hm2 : (if 2 < mi then mi else 2) = (h0 : Int)) (vals : List Nat) (HNN : Hid (vals.length = n)) (H32 : Hid (∀ x ∈ vals, x < 2 ^ 32)) (hVK : ∀ i, H.V i = vals.getD i 0) (hq : H.p ≤ 64) (hok : ∀ hd, 2 ≤ hd → hd ≤ 21 → H.ListOk hd)
    (W : World) (HR : Hid (Reads W W.heap.size 1 (some ad) n (valVs vals))) (hv : Hid (IsVals W ad n H.V)) (hX : Hid (XCheckIs W H.t H.p H.s (some ad) n c m true)) :
    Calls Try.prog 5 #[.agg #[.int .i64 (H.t : Int), .int .i64 (H.p : Int), .int .i64 (H.s : Int)], .slice (some ad) n c, .agg #[.int .i64 x, .int .i64 y]] W (Keeps W) := by
  have t2 : decide ((H.p : Int) ≤ 64) = true := decide_eq_true (by omega)
  have hnb : n ≤ 6238 := by have := HV.nums; omega
  have hcm : c ≤ maxLen := HV.max
  have hcm2 : c ≤ 9223372036854775807 := hcm
  have hn40 : n < 2 ^ 40 := by omega
  have hK : ∀ i, i < n → wholeK13 vals i = some (H.V i) := fun i hi => by
    unfold wholeK13
    rw [hVK i, List.getElem?_eq_getElem (by rw [HNN.out]; exact hi)]
    simp [List.getD, List.getElem?_eq_getElem (show i < vals.length by rw [HNN.out]; exact hi)]
  have HF : Hid (Fit H.t H.p H.s n) := hidp HV.fit
  have HHV := hidp HV
  have HOK := hidp hok
  have HLL : Hid (∀ hd l la, hd < 30 → H.Path hd l 0 la → HasL H.t H.p hd n (wholeK13 vals) freshS l) := hidp (fun hd l la hh hp => (hasL_of HV hK hh hp).1)
  have HVW : Hid (VW n (wholeK13 vals) freshS) := hidp ⟨fun i hi => ⟨_, hK i hi⟩, rfl⟩
  have hh0 : 2 ≤ h0 ∧ h0 ≤ 21 := by split at hm1 <;> split at hm2 <;> omega
  clear hK hok hVK HV
  have HC := hidp ((Held.new W 23 #[.int .i64 (H.t : Int), .int .i64 (H.p : Int), .int .i64 (H.s : Int)]).alloc (.cells #[.int .i64 x, .int .i64 y] 46))
  have HX := hidp (Held.new2 W (.cells #[.int .i64 (H.t : Int), .int .i64 (H.p : Int), .int .i64 (H.s : Int)] 23) 46 #[.int .i64 x, .int .i64 y])
  have HB := hidp (Bnew (Bnew (B0 W) (.cells #[.int .i64 (H.t : Int), .int .i64 (H.p : Int), .int .i64 (H.s : Int)] 23)) (.cells #[.int .i64 x, .int .i64 y] 46))
  obtain ⟨x0, x1, x2⟩ := HC.out.three
  obtain ⟨y0, y1⟩ := HX.out.two
  go_enter Try.func5, Try.ntmps5
  go_wp2_with fail
  refine (few_c H.t H.p H.s _).mono ?_
  rintro e w1 ⟨rfl, hb⟩
  rw [t2]
  replace HC := hidp (HC.out.keep hb)
  replace HX := hidp (HX.out.keep hb)
  replace HB := hidp (Bgo HB.out hb)
  clear hb
  clear x0 x1 x2 y0 y1
  obtain ⟨x0, x1, x2⟩ := HC.out.three
  obtain ⟨y0, y1⟩ := HX.out.two
  go_wp2_with fail
  refine (xSound_c H.t H.p H.s (some ad) n c m true _ (hX.out.grown HB.out)).mono ?_
  rintro e w2 ⟨rfl, hb⟩
  replace HC := hidp (HC.out.keep hb)
  replace HX := hidp (HX.out.keep hb)
  replace HB := hidp (Bgo HB.out hb)
  clear hb
  clear x0 x1 x2 y0 y1
  obtain ⟨x0, x1, x2⟩ := HC.out.three
  obtain ⟨y0, y1⟩ := HX.out.two
  have HRw : Hid (Reads w2 w2.heap.size 1 (some ad) n (valVs vals)) := hidp ((HR.out.below HB.out).more HB.out.size)
  go_wp2_with fail
  refine (Whole_c (some ad) c vals n HNN.out (by omega) H32.out _ (by
    intro h0
    obtain ⟨ad', e, _, hc⟩ := HRw.out.2 h0
    exact ⟨ad', e, hc⟩)).mono ?_
  rintro e w3 ⟨b1, o1, rfl, hI, hB⟩
  have HLT : Hid (W.heap.size + 1 < w2.heap.size) := hidp HX.out.lt
  have HD : Hid (Duo W (vOb w2.heap.size b1 n true (wholeK13 vals)) noOb (o1.A b1) (fun _ => False) (fun g => g = W.heap.size ∨ g = W.heap.size + 1) freshS freshS w3) := hidp (duo_made hI (by have := HLT.out; omega) (Bgo HB.out hB) (fun g hg => by
    have h1 := hI.ge
    have h2 := hB.size
    have h3 := HLT.out
    exact ⟨by omega, fun x => by have := h1 g x; omega⟩))
  replace HC := hidp (HC.out.keep hB)
  replace HX := hidp (HX.out.keep hB)
  clear hB hI HRw HB HLT
  generalize hz1 : w2.heap.size = z1 at *
  clear hz1
  have hb4 := Bnew (B0 w3) (.cells #[.int .i64 (H.t : Int), .int .i64 (H.p : Int), .int .i64 (H.s : Int), .slice (some ad) n c] 51)
  replace HD : Hid (Duo W (vOb z1 b1 n true (wholeK13 vals)) noOb (o1.A b1) (fun _ => False) (fun g => g = W.heap.size ∨ g = W.heap.size + 1 ∨ g = w3.heap.size) freshS freshS (w3.alloc (.cells #[.int .i64 (H.t : Int), .int .i64 (H.p : Int), .int .i64 (H.s : Int), .slice (some ad) n c] 51))) := hidp (HD.out.keep2 hb4 (fun g hg => by
    rcases hg with hg | hg | hg
    · exact .inl (.inl hg)
    · exact .inl (.inr hg)
    · right; subst hg; simp))
  have HC4 := hidp (HC.out.keep hb4)
  have HX4 := hidp (HX.out.keep hb4)
  have HH := hidp (Held.new w3 51 #[.int .i64 (H.t : Int), .int .i64 (H.p : Int), .int .i64 (H.s : Int), .slice (some ad) n c])
  clear hb4
  clear x0 x1 x2 y0 y1
  obtain ⟨x0, x1, x2⟩ := HC.out.three
  obtain ⟨y0, y1⟩ := HX.out.two
  go_wp2_with fail
  generalize hnx : w3.heap.size = nx at *
  generalize hw4 : w3.alloc (.cells #[.int .i64 (H.t : Int), .int .i64 (H.p : Int), .int .i64 (H.s : Int), .slice (some ad) n c] 51) = w4 at *
  clear hnx hw4 HC HX
  go_loopw [9, 10, 11] (fun u9 u10 u11 wr => ∃ (hd : Nat) (A1 : Nat → Prop) (sx : Vst), 2 ≤ hd ∧ hd ≤ 22 ∧ u9 = .int .i64 (hd : Int) ∧ Hid (VW n (wholeK13 vals) sx ∧ getV n (wholeK13 vals) sx = getV n (wholeK13 vals) freshS) ∧ Hid (Duo W (vOb z1 b1 n true (wholeK13 vals)) noOb A1 (fun _ => False) (fun g => g = W.heap.size ∨ g = W.heap.size + 1 ∨ g = nx) sx freshS wr) ∧ Hid (Held wr W.heap.size 23 #[.int .i64 (H.t : Int), .int .i64 (H.p : Int), .int .i64 (H.s : Int)]) ∧ Hid (Held wr (W.heap.size + 1) 46 #[.int .i64 x, .int .i64 y]) ∧ Hid (Held wr nx 51 #[.int .i64 (H.t : Int), .int .i64 (H.p : Int), .int .i64 (H.s : Int), .slice (some ad) n c])) (fun u _ _ _ => 22 - (intOf u).toNat)
  case atStart => exact ⟨2, _, _, by omega, by omega, rfl, hidp ⟨HVW.out, rfl⟩, HD, HC4, HX4, HH⟩
  case round =>
    clear HD HC4 HX4 HH
    obtain ⟨hd, A1, sx, hd2, hd22, rfl, HVX, HD, HC, HX, HH⟩ := hrel
    clear x0 x1 x2 y0 y1
    obtain ⟨x0, x1, x2⟩ := HC.out.three
    obtain ⟨y0, y1⟩ := HX.out.two
    obtain ⟨z0, z1', z2, z3⟩ := HH.out.four
    by_cases hlt : hd ≤ 21
    · have t5 : decide ((hd : Int) ≤ 21) = true := decide_eq_true (by omega)
      go_wp2_with fail
      have hxl := xList_c HHV.out ad hd (by omega) _ (hv.out.below HD.out.bel)
      unfold hpV at hxl
      refine hxl.mono ?_
      rintro e v1 ⟨u, bb, rfl, hb1, hb0, hb⟩
      clear hxl
      cases bb with
      | false => exact absurd (HOK.out hd (by omega) (by omega)) (hb0 rfl)
      | true =>
        obtain ⟨l, la, hp, _, ho⟩ := hb1 rfl
        have HPA := hidp hp
        have HO : Hid (v1.ownsRow _ 3 1 u l.length (ntVs l)) := hidp ho
        replace HD := hidp (HD.out.keep2 (G' := GU (fun g => g = W.heap.size ∨ g = W.heap.size + 1 ∨ g = nx) u) hb (fun g hg => by
          rcases hg with hg | hg
          · exact .inl hg
          · exact .inr (ho.lt g hg)))
        replace HC := hidp (HC.out.keep hb)
        replace HX := hidp (HX.out.keep hb)
        replace HH := hidp (HH.out.keep hb)
        clear hp ho hb hb0 hb1
        clear x0 x1 x2 y0 y1 z0 z1' z2 z3
        obtain ⟨x0, x1, x2⟩ := HC.out.three
        obtain ⟨y0, y1⟩ := HX.out.two
        obtain ⟨z0, z1', z2, z3⟩ := HH.out.four
        go_wp2_with fail
        refine (lkWalk_c hn40 (by omega) HD.out.at1).mono ?_
        intro e v2 hw
        obtain ⟨uw, Av2, rfl, ho, hd4, hs⟩ := HD.out.walk1 hw
        have HLw := HasL.walk (st := sx) (l := l) (hd := hd) (by unfold HasL; rw [HVX.out.2]; exact HLL.out hd l la (by omega) HPA.out) HF.out HVX.out.1
        rw [HLw.1] at ho
        generalize walkS n (wholeK13 vals) H.t H.p H.s hd sx = sy at hd4 HLw
        have HVY : Hid (VW n (wholeK13 vals) sy ∧ getV n (wholeK13 vals) sy = getV n (wholeK13 vals) freshS) := hidp ⟨HLw.2.1, HLw.2.2.trans HVX.out.2⟩
        have HOw := hidp ho
        replace HO := hidp (hs.own (fun g e => .inr e) HO.out)
        replace HC := hidp (hs.held (.inl (.inl rfl)) HC.out)
        replace HX := hidp (hs.held (.inl (.inr (.inl rfl))) HX.out)
        replace HH := hidp (hs.held (.inl (.inr (.inr rfl))) HH.out)
        replace HD := hidp (hd4.less (G' := (fun g => g = W.heap.size ∨ g = W.heap.size + 1 ∨ g = nx)) (fun g x => .inl (.inl x)))
        clear hw ho hd4 hs HLw
        clear x0 x1 x2 y0 y1 z0 z1' z2 z3
        obtain ⟨x0, x1, x2⟩ := HC.out.three
        obtain ⟨y0, y1⟩ := HX.out.two
        obtain ⟨z0, z1', z2, z3⟩ := HH.out.four
        go_wp2_with fail
        refine (Ints_same _ _ _ _ (rowV_nat6 HOw.out) (rowV_nat6 HO.out)).mono ?_
        rintro e v3 ⟨rfl, j, hj⟩
        have hb := Bdraw (B0 v2) j
        rw [← hj] at hb
        clear hj
        replace HC := hidp (HC.out.keep hb)
        replace HX := hidp (HX.out.keep hb)
        replace HH := hidp (HH.out.keep hb)
        replace HD := hidp (HD.out.keep hb)
        clear hb HOw HO HPA HVX
        clear x0 x1 x2 y0 y1 z0 z1' z2 z3
        obtain ⟨x0, x1, x2⟩ := HC.out.three
        obtain ⟨y0, y1⟩ := HX.out.two
        obtain ⟨z0, z1', z2, z3⟩ := HH.out.four
        go_wp2_with fail
        go_roundw
        case rel => exact ⟨hd + 1, _, _, by omega, by omega, by go_num, HVY, HD, HC, HX, HH⟩
        case measure => simp [intOf]; omega
    · have t5 : decide ((hd : Int) ≤ 21) = false := decide_eq_false (by omega)
      clear hlt hd2 hd22
      go_wp2_with fail
      have hxl := xList_c HHV.out ad h0 (by omega) _ (hv.out.below HD.out.bel)
      unfold hpV at hxl
      refine hxl.mono ?_
      rintro e v4 ⟨u, bb, rfl, hb1, hb0, hb⟩
      clear hxl
      cases bb with
      | false => exact absurd (HOK.out h0 (by omega) (by omega)) (hb0 rfl)
      | true =>
        obtain ⟨l, la, hp, _, ho⟩ := hb1 rfl
        have HPA := hidp hp
        have HO : Hid (v4.ownsRow _ 3 1 u l.length (ntVs l)) := hidp ho
        replace HD := hidp (HD.out.keep2 (G' := GU (fun g => g = W.heap.size ∨ g = W.heap.size + 1 ∨ g = nx) u) hb (fun g hg => by
          rcases hg with hg | hg
          · exact .inl hg
          · exact .inr (ho.lt g hg)))
        replace HC := hidp (HC.out.keep hb)
        replace HX := hidp (HX.out.keep hb)
        replace HH := hidp (HH.out.keep hb)
        clear hp ho hb hb0 hb1
        clear x0 x1 x2 y0 y1 z0 z1' z2 z3
        obtain ⟨x0, x1, x2⟩ := HC.out.three
        obtain ⟨y0, y1⟩ := HX.out.two
        obtain ⟨z0, z1', z2, z3⟩ := HH.out.four
        go_wp2_with fail
        refine (in_c HO.out y).mono ?_
        rintro e v5 ⟨⟨r, rfl, hr⟩, hw1⟩
        subst hw1
        rcases hr with ⟨rfl, _⟩ | ⟨l1, p, l2, hl, rfl, rfl⟩
        · have HB := hidp HD.out.bel
          go_wp2_with fail
          refine (live_c _).mono ?_
          rintro e w9 ⟨rfl, hb⟩
          replace HB := hidp (Bgo HB.out hb)
          clear hb
          go_wp2
          go_ret
          exact ⟨rfl, HB.out⟩
        · subst hl
          have HLh : Hid (HasL H.t H.p h0 n (wholeK13 vals) sx (l1 ++ p :: l2)) := hidp (by unfold HasL; rw [HVX.out.2]; exact HLL.out h0 _ la (by omega) HPA.out)
          have HPG : Hid (pgB (H.p : Int) (p : Int) = true) := hidp ((pgB_iff _ _).2 ⟨by omega, by have := HLh.out.links.1; omega⟩)
          have HOT : Hid (∀ hd l' la', 2 ≤ hd → hd ≤ 21 → hd ≠ h0 → H.Path hd l' 0 la' → HasL H.t H.p hd n (wholeK13 vals) (pullS n (wholeK13 vals) H.t H.p H.s h0 p sx) l') := hidp (fun hd l' la' h1 h2 h3 hp => by
            refine HLh.out.other (hd2 := hd) HF.out (by omega) HVX.out.1 ?_ h3 (by omega) (lists_apart hp HPA.out (HOK.out hd h1 h2) (HOK.out h0 hh0.1 hh0.2) h3)
            unfold HasL
            rw [HVX.out.2]
            exact HLL.out hd l' la' (by omega) hp)
          have HVP : Hid (VW n (wholeK13 vals) (pullS n (wholeK13 vals) H.t H.p H.s h0 p sx)) := hidp (HLh.out.pull HF.out (by omega) HVX.out.1).2
          obtain ⟨i, hi⟩ : ∃ i, l1.length = i := ⟨_, rfl⟩
          rw [hi]
          clear hi
          go_wp2_with fail
          refine (lkPull_c hn40 (by omega) (p : Int) HD.out.at1).mono ?_
          rintro e v6 ⟨rfl, h1, _⟩
          obtain ⟨Av6, h2, h3⟩ := HD.out.left1 h1.left
          rw [(pgB_nat HPG.out).2] at h2
          generalize pullS n (wholeK13 vals) H.t H.p H.s h0 p sx = s2 at h2 HOT HVP
          have HD2 := hidp (h2.less (G' := (fun g => g = W.heap.size ∨ g = W.heap.size + 1 ∨ g = nx)) (fun g x => .inl x))
          have HC2 := hidp (h3.held (.inl (.inl rfl)) HC.out)
          have HX2 := hidp (h3.held (.inl (.inr (.inl rfl))) HX.out)
          have HH2 := hidp (h3.held (.inl (.inr (.inr rfl))) HH.out)
          clear h1 h2 h3 HD HC HX HH HLh HVX HO HPG HPA
          clear x0 x1 x2 y0 y1 z0 z1' z2 z3
          obtain ⟨x0, x1, x2⟩ := HC2.out.three
          obtain ⟨y0, y1⟩ := HX2.out.two
          obtain ⟨z0, z1', z2, z3⟩ := HH2.out.four
          go_wp2_with fail
          go_loopw [14, 15, 16] (fun u14 u15 u16 wr => ∃ (hd : Nat) (A1 : Nat → Prop) (sx : Vst), 2 ≤ hd ∧ hd ≤ 22 ∧ u14 = .int .i64 (hd : Int) ∧ Hid (VW n (wholeK13 vals) sx ∧ getV n (wholeK13 vals) sx = getV n (wholeK13 vals) s2) ∧ Hid (Duo W (vOb z1 b1 n true (wholeK13 vals)) noOb A1 (fun _ => False) (fun g => g = W.heap.size ∨ g = W.heap.size + 1 ∨ g = nx) sx freshS wr) ∧ Hid (Held wr W.heap.size 23 #[.int .i64 (H.t : Int), .int .i64 (H.p : Int), .int .i64 (H.s : Int)]) ∧ Hid (Held wr (W.heap.size + 1) 46 #[.int .i64 x, .int .i64 (p : Int)]) ∧ Hid (Held wr nx 51 #[.int .i64 (H.t : Int), .int .i64 (H.p : Int), .int .i64 (H.s : Int), .slice (some ad) n c])) (fun u _ _ _ => 22 - (intOf u).toNat)
          case atStart => exact ⟨2, _, _, by omega, by omega, rfl, hidp ⟨HVP.out, rfl⟩, HD2, HC2, HX2, HH2⟩
          case round =>
            clear x0 x1 x2 y0 y1 z0 z1' z2 z3
            clear HD2 HC2 HX2 HH2
            obtain ⟨hd, A1, sx, hd2, hd22, rfl, HVX, HD, HC, HX, HH⟩ := hrel
            obtain ⟨x0, x1, x2⟩ := HC.out.three
            obtain ⟨y0, y1⟩ := HX.out.two
            obtain ⟨z0, z1', z2, z3⟩ := HH.out.four
            by_cases hlt : hd ≤ 21
            · have t5 : decide ((hd : Int) ≤ 21) = true := decide_eq_true (by omega)
              go_wp2_with fail
              have hxl := xList_c HHV.out ad hd (by omega) _ (hv.out.below HD.out.bel)
              unfold hpV at hxl
              refine hxl.mono ?_
              rintro e v8 ⟨u, bb, rfl, hb1, hb0, hb⟩
              clear hxl
              cases bb with
              | false => exact absurd (HOK.out hd (by omega) (by omega)) (hb0 rfl)
              | true =>
                obtain ⟨l, la, hp, _, ho⟩ := hb1 rfl
                have HPA := hidp hp
                have HO : Hid (v8.ownsRow _ 3 1 u l.length (ntVs l)) := hidp ho
                replace HD := hidp (HD.out.keep2 (G' := GU (fun g => g = W.heap.size ∨ g = W.heap.size + 1 ∨ g = nx) u) hb (fun g hg => by
                  rcases hg with hg | hg
                  · exact .inl hg
                  · exact .inr (ho.lt g hg)))
                replace HC := hidp (HC.out.keep hb)
                replace HX := hidp (HX.out.keep hb)
                replace HH := hidp (HH.out.keep hb)
                clear hp ho hb hb0 hb1
                clear x0 x1 x2 y0 y1 z0 z1' z2 z3
                obtain ⟨x0, x1, x2⟩ := HC.out.three
                obtain ⟨y0, y1⟩ := HX.out.two
                obtain ⟨z0, z1', z2, z3⟩ := HH.out.four
                by_cases hne : hd = h0
                · have t6 : ((hd : Int) != (h0 : Int)) = false := by simp; omega
                  replace HD := hidp (HD.out.less (G' := (fun g => g = W.heap.size ∨ g = W.heap.size + 1 ∨ g = nx)) (fun g x => .inl x))
                  have HNE := hidp hne
                  clear hne HO HPA
                  go_wp2_with fail
                  go_roundw
                  case rel => exact ⟨hd + 1, _, _, by omega, by omega, by go_num, HVX, HD, HC, HX, HH⟩
                  case measure => simp [intOf]; omega
                · have t6 : ((hd : Int) != (h0 : Int)) = true := by simp; omega
                  go_wp2_with fail
                  refine (lkWalk_c hn40 (by omega) HD.out.at1).mono ?_
                  intro e v9 hw
                  obtain ⟨uw, Av9, rfl, ho, hd4, hs⟩ := HD.out.walk1 hw
                  have HLw := HasL.walk (st := sx) (l := l) (hd := hd) (by unfold HasL; rw [HVX.out.2]; exact HOT.out hd l la (by omega) (by omega) hne HPA.out) HF.out HVX.out.1
                  rw [HLw.1] at ho
                  generalize walkS n (wholeK13 vals) H.t H.p H.s hd sx = sy at hd4 HLw
                  have HVY : Hid (VW n (wholeK13 vals) sy ∧ getV n (wholeK13 vals) sy = getV n (wholeK13 vals) s2) := hidp ⟨HLw.2.1, HLw.2.2.trans HVX.out.2⟩
                  have HOw := hidp ho
                  replace HO := hidp (hs.own (fun g e => .inr e) HO.out)
                  replace HC := hidp (hs.held (.inl (.inl rfl)) HC.out)
                  replace HX := hidp (hs.held (.inl (.inr (.inl rfl))) HX.out)
                  replace HH := hidp (hs.held (.inl (.inr (.inr rfl))) HH.out)
                  replace HD := hidp (hd4.less (G' := (fun g => g = W.heap.size ∨ g = W.heap.size + 1 ∨ g = nx)) (fun g x => .inl (.inl x)))
                  clear hw ho hd4 hs HLw
                  clear x0 x1 x2 y0 y1 z0 z1' z2 z3
                  obtain ⟨x0, x1, x2⟩ := HC.out.three
                  obtain ⟨y0, y1⟩ := HX.out.two
                  obtain ⟨z0, z1', z2, z3⟩ := HH.out.four
                  go_wp2_with fail
                  refine (Ints_same _ _ _ _ (rowV_nat6 HOw.out) (rowV_nat6 HO.out)).mono ?_
                  rintro e v10 ⟨rfl, j, hj⟩
                  have hb := Bdraw (B0 v9) j
                  rw [← hj] at hb
                  clear hj
                  replace HC := hidp (HC.out.keep hb)
                  replace HX := hidp (HX.out.keep hb)
                  replace HH := hidp (HH.out.keep hb)
                  replace HD := hidp (HD.out.keep hb)
                  clear hb HOw HO HPA HVX
                  clear x0 x1 x2 y0 y1 z0 z1' z2 z3
                  obtain ⟨x0, x1, x2⟩ := HC.out.three
                  obtain ⟨y0, y1⟩ := HX.out.two
                  obtain ⟨z0, z1', z2, z3⟩ := HH.out.four
                  go_wp2_with fail
                  go_roundw
                  case rel => exact ⟨hd + 1, _, _, by omega, by omega, by go_num, HVY, HD, HC, HX, HH⟩
                  case measure => simp [intOf]; omega
            · have t5 : decide ((hd : Int) ≤ 21) = false := decide_eq_false (by omega)
              have HB := hidp HD.out.bel
              go_wp2_with fail
              refine (live_c _).mono ?_
              rintro e w9 ⟨rfl, hb⟩
              replace HB := hidp (Bgo HB.out hb)
              clear hb
              go_wp2
              go_ret
              exact ⟨rfl, HB.out⟩

theorem LinkWalks_calls (t q s : Int) (A : Option Addr) (c : Nat) (vals : List Nat) (x y : Int) (hnc : vals.length ≤ c) (hcm : c ≤ maxLen) (h32 : ∀ x ∈ vals, x < 2 ^ 32) (W : World) (HR : Hid (Reads W W.heap.size 1 A vals.length (valVs vals))) :
    Calls Try.prog 5 #[.agg #[.int .i64 t, .int .i64 q, .int .i64 s], .slice A vals.length c, .agg #[.int .i64 x, .int .i64 y]] W (Keeps W) := by
  by_cases hq : q ≤ 64
  · rcases heap13_or W t q s A c vals hnc hcm h32 HR.out with ⟨m, hX⟩ | ⟨H, ad, m, rfl, rfl, rfl, rfl, hV, HV, hv, hto, hX⟩
    · exact LinkWalks_no t q s x y A _ c m hq W (hidp hX)
    · obtain ⟨mi, hm1⟩ : ∃ mi, (if x < 21 then x else 21) = mi := ⟨_, rfl⟩
      obtain ⟨h0, hm2⟩ : ∃ h0 : Nat, (if 2 < mi then mi else 2) = (h0 : Int) := Int.eq_ofNat_of_zero_le (by split <;> omega)
      exact LinkWalks_main ad _ c m h0 HV x y mi hm1 hm2 vals (hidp rfl) (hidp h32) hV (by omega) (fun hd h1 h2 => told_lists hto h1 h2) W HR (hidp hv) (hidp hX)
  · exact LinkWalks_few t q s x y A _ c 0 (by omega) W

end Go.Proofs.Ythiobfghanlelaa

namespace Go.Proofs.Ythiobfghanlelaa
open Go.ChangeShapes Go.WideShapes Go.ChangeAt Go.RowKit

set_option maxRecDepth 100000 in
set_option linter.unusedVariables false in
theorem LinkWalks_walk {H : Type} {enc : TypeId × Value → H} {W : World} {base : Nat} {args : Array Value} {ds : List (DataW H)} {ps : List MemPlace}
    (g : Given enc Try.prog Try.f5 W base args ds ps) : Calls Try.prog 5 args W (Keeps W) := by
  have hval := g.ok
  have hA := g.trod
  rw [Try.params5] at hA hval
  obtain ⟨v0, vs0, d0, ds0, p0, q0, hargs, rfl, rfl, h0, r0⟩ := trodAll_cons hA
  obtain ⟨v1, vs1, d1, ds1, p1, q1, rfl, rfl, rfl, h1, r1⟩ := trodAll_cons r0
  obtain ⟨v2, vs2, d2, ds2, p2, q2, rfl, rfl, rfl, h2, r2⟩ := trodAll_cons r1
  obtain ⟨rfl, rfl, rfl⟩ := trodAll_nil r2
  obtain rfl : args = #[v0, v1, v2] := by cases args; simp_all
  obtain ⟨t, p, s, rfl⟩ := open_conf (hval 0 23 v0 rfl rfl) h0
  obtain ⟨A, c, vals, rfl, hc0, hm0, h32_0, hR0⟩ := open_vals Try.underlying24 Try.underlying54 (by kernel_rfl) (hval 1 24 v1 rfl rfl) h1 (fun x hx => g.lt x (List.mem_append_right _ (List.mem_append_left _ hx)))
  obtain ⟨x, y, rfl⟩ := open_two (hval 2 46 v2 rfl rfl) h2
  exact LinkWalks_calls t p s A c vals x y hc0 hm0 h32_0 W (hidp hR0)

set_option maxRecDepth 100000 in
theorem LinkWalks_lifted (os : Os) (started : os.Started) (H : Type) (enc : TypeId × Value → H) :
    ReturnsInHanded {} Try.checked os 5 .any (Rows.linkWalksSpec.pre6 enc Try.prog Try.f5 Rows.linkWalksRow.domain false) (Rows.linkWalksSpec.post enc Try.prog Try.f5 false true false false) :=
  law_lifted (C := Try.checked) (tb := 4) (by kernel_rfl) started (by kernel_rfl) Try.func5
    (ChangeSpec.witness6 (enc := enc) (C := Try.checked) false ⟨#[], #[.agg #[.int .i64 0, .int .i64 0, .int .i64 0], .slice none 0 0, .agg #[.int .i64 0, .int .i64 0]], []⟩ 8 (by kernel_rfl) (by kernel_rfl) (by kernel_rfl) (by kernel_rfl))
    (by kernel_rfl) (by kernel_rfl) rfl (by kernel_rfl) Try.underlying4
    (fun ds h => by
      have h' : ds.length = 3 := h
      match ds, h' with
      | [_, _, _], _ => rfl)
    (fun W base args ds ps g => LinkWalks_walk g)

theorem LinkWalks_holds : Rows.LinkWalksSaid :=
  OpenClaim.holds_of_wide 5 Try.f5 rfl rfl rfl rfl rfl rfl rfl ⟨rfl, rfl, rfl, rfl, rfl⟩ rfl rfl rfl rfl rfl (by kernel_rfl) Try.func5 (by kernel_rfl)
    (of_decide_eq_true (by kernel_rfl)) (by unfold Func.isWrapper; first | (rw [if_pos (by decide +kernel)]; kernel_rfl) | (rw [if_neg (by decide +kernel)]; exact ⟨rfl, rfl⟩))
    (fun os started H enc _ => LinkWalks_lifted os started H enc)
end Go.Proofs.Ythiobfghanlelaa
