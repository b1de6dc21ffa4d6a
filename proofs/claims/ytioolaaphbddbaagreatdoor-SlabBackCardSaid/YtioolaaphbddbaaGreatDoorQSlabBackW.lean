/-
  The law SlabBack: the walk. Written by slab/gen_back.py.
-/
import Derived.Test.YtioolaaphbddbaaGreatDoorQ18
import Derived.Test.YtioolaaphbddbaaGreatDoorQ19
import Derived.Deep.CutRange
namespace Go.Proofs.YtioolaaphbddbaaGreatDoor
open Go.ChangeShapes Go.WideShapes Go.ChangeAt Go.RowKit Go.Maps
set_option linter.unusedVariables false
set_option linter.unusedSimpArgs false
set_option maxRecDepth 100000
section
theorem SlabBack_few (t q s x0 x1 : Int) (A : Option Addr) (n c m : Nat) (hq : 64 < q) (W : World) (hT : SlotsLaid W)  : Calls Tryz.prog 6 #[.agg #[.int .i64 t, .int .i64 q, .int .i64 s], .slice A n c, .agg #[.int .i64 x0, .int .i64 x1]] W (Keeps W) := by
  have t2 : decide (q ≤ (64 : Int)) = false := decide_eq_false (by omega)
  have HC := hidp ((Held.new W 23 #[.int .i64 t, .int .i64 q, .int .i64 s]).alloc (.cells #[.int .i64 x0, .int .i64 x1] 25))
  have HX := hidp (Held.new2 W (.cells #[.int .i64 t, .int .i64 q, .int .i64 s] 23) 25 #[.int .i64 x0, .int .i64 x1])
  have HB := hidp (Bnew (Bnew (B0 W) (.cells #[.int .i64 t, .int .i64 q, .int .i64 s] 23)) (.cells #[.int .i64 x0, .int .i64 x1] 25))
  have HTL := hidp hT
  clear hT
  obtain ⟨x0', x1', x2'⟩ := HC.out.three
  obtain ⟨y0', y1'⟩ := HX.out.two
  go_enter Tryz.func6, Tryz.ntmps6
  go_wp2_with fail
  refine (few14_c t q s _).mono ?_
  rintro e w1 ⟨rfl, hb⟩
  rw [t2]
  replace HC := hidp (HC.out.keep hb)
  replace HX := hidp (HX.out.keep hb)
  replace HB := hidp (Bgo HB.out hb)
  clear hb
  clear x0' x1' x2' y0' y1'
  obtain ⟨x0', x1', x2'⟩ := HC.out.three
  obtain ⟨y0', y1'⟩ := HX.out.two

  
  go_wp2_with fail
  refine (live16_c _ (HTL.out.below HB.out)).mono ?_
  rintro e w19 ⟨rfl, hb⟩
  have HBL := hidp (Bgo HB.out hb)
  clear hb
  go_wp2
  go_ret
  exact ⟨rfl, HBL.out⟩

theorem SlabBack_no (t q s x0 x1 : Int) (A : Option Addr) (n c m : Nat) (hq : q ≤ 64) (W : World) (hT : SlotsLaid W) (hX : Hid (XCheckIs W t q s A n c m false)) : Calls Tryz.prog 6 #[.agg #[.int .i64 t, .int .i64 q, .int .i64 s], .slice A n c, .agg #[.int .i64 x0, .int .i64 x1]] W (Keeps W) := by
  have t2 : decide (q ≤ (64 : Int)) = true := decide_eq_true (by omega)
  have HC := hidp ((Held.new W 23 #[.int .i64 t, .int .i64 q, .int .i64 s]).alloc (.cells #[.int .i64 x0, .int .i64 x1] 25))
  have HX := hidp (Held.new2 W (.cells #[.int .i64 t, .int .i64 q, .int .i64 s] 23) 25 #[.int .i64 x0, .int .i64 x1])
  have HB := hidp (Bnew (Bnew (B0 W) (.cells #[.int .i64 t, .int .i64 q, .int .i64 s] 23)) (.cells #[.int .i64 x0, .int .i64 x1] 25))
  have HTL := hidp hT
  clear hT
  obtain ⟨x0', x1', x2'⟩ := HC.out.three
  obtain ⟨y0', y1'⟩ := HX.out.two
  go_enter Tryz.func6, Tryz.ntmps6
  go_wp2_with fail
  refine (few14_c t q s _).mono ?_
  rintro e w1 ⟨rfl, hb⟩
  rw [t2]
  replace HC := hidp (HC.out.keep hb)
  replace HX := hidp (HX.out.keep hb)
  replace HB := hidp (Bgo HB.out hb)
  clear hb
  clear x0' x1' x2' y0' y1'
  obtain ⟨x0', x1', x2'⟩ := HC.out.three
  obtain ⟨y0', y1'⟩ := HX.out.two
  go_wp2_with fail
  refine (xSound_c t q s A n c m false _ (hX.out.grown HB.out)).mono ?_
  rintro e w2 ⟨rfl, hb⟩
  replace HC := hidp (HC.out.keep hb)
  replace HX := hidp (HX.out.keep hb)
  replace HB := hidp (Bgo HB.out hb)
  clear hb
  clear x0' x1' x2' y0' y1'
  obtain ⟨x0', x1', x2'⟩ := HC.out.three
  obtain ⟨y0', y1'⟩ := HX.out.two
  
  go_wp2_with fail
  refine (live16_c _ (HTL.out.below HB.out)).mono ?_
  rintro e w19 ⟨rfl, hb⟩
  have HBL := hidp (Bgo HB.out hb)
  clear hb
  go_wp2
  go_ret
  exact ⟨rfl, HBL.out⟩

theorem SlabBack_off (t q s x0 x1 : Int) (A : Option Addr) (n c m : Nat) (hq : q ≤ 64) (hx0 : x0 < 0 ∨ q ≤ x0 ∨ x1 < 0 ∨ 31 < x1) (W : World) (hT : SlotsLaid W) (hX : Hid (XCheckIs W t q s A n c m true)) : Calls Tryz.prog 6 #[.agg #[.int .i64 t, .int .i64 q, .int .i64 s], .slice A n c, .agg #[.int .i64 x0, .int .i64 x1]] W (Keeps W) := by
  have t2 : decide (q ≤ (64 : Int)) = true := decide_eq_true (by omega)
  have HC := hidp ((Held.new W 23 #[.int .i64 t, .int .i64 q, .int .i64 s]).alloc (.cells #[.int .i64 x0, .int .i64 x1] 25))
  have HX := hidp (Held.new2 W (.cells #[.int .i64 t, .int .i64 q, .int .i64 s] 23) 25 #[.int .i64 x0, .int .i64 x1])
  have HB := hidp (Bnew (Bnew (B0 W) (.cells #[.int .i64 t, .int .i64 q, .int .i64 s] 23)) (.cells #[.int .i64 x0, .int .i64 x1] 25))
  have HTL := hidp hT
  clear hT
  obtain ⟨x0', x1', x2'⟩ := HC.out.three
  obtain ⟨y0', y1'⟩ := HX.out.two
  go_enter Tryz.func6, Tryz.ntmps6
  go_wp2_with fail
  refine (few14_c t q s _).mono ?_
  rintro e w1 ⟨rfl, hb⟩
  rw [t2]
  replace HC := hidp (HC.out.keep hb)
  replace HX := hidp (HX.out.keep hb)
  replace HB := hidp (Bgo HB.out hb)
  clear hb
  clear x0' x1' x2' y0' y1'
  obtain ⟨x0', x1', x2'⟩ := HC.out.three
  obtain ⟨y0', y1'⟩ := HX.out.two
  go_wp2_with fail
  refine (xSound_c t q s A n c m true _ (hX.out.grown HB.out)).mono ?_
  rintro e w2 ⟨rfl, hb⟩
  replace HC := hidp (HC.out.keep hb)
  replace HX := hidp (HX.out.keep hb)
  replace HB := hidp (Bgo HB.out hb)
  clear hb
  clear x0' x1' x2' y0' y1'
  obtain ⟨x0', x1', x2'⟩ := HC.out.three
  obtain ⟨y0', y1'⟩ := HX.out.two
  go_wp2_with fail
  refine (idle16_no t q s x0 x1 A n c hx0 _).mono ?_
  rintro e w3 ⟨rfl, hb⟩
  replace HC := hidp (HC.out.keep hb)
  replace HX := hidp (HX.out.keep hb)
  replace HB := hidp (Bgo HB.out hb)
  clear hb
  clear x0' x1' x2' y0' y1'
  obtain ⟨x0', x1', x2'⟩ := HC.out.three
  obtain ⟨y0', y1'⟩ := HX.out.two
  go_wp2_with fail
  refine (live16_c _ (HTL.out.below HB.out)).mono ?_
  rintro e w19 ⟨rfl, hb⟩
  have HBL := hidp (Bgo HB.out hb)
  clear hb
  go_wp2
  go_ret
  exact ⟨rfl, HBL.out⟩

theorem SlabBack_kind {H : AuH} (ad : Addr) (n c m p i : Nat) (HV : HeapV H n c) (hq : H.p ≤ 64) (hp : p < H.p) (hi : i < 32) (hk : H.idleAt p i = false) (W : World) (hT : SlotsLaid W) (hv : Hid (IsVals W ad n H.V)) (hX : Hid (XCheckIs W H.t H.p H.s (some ad) n c m true)) : Calls Tryz.prog 6 #[.agg #[.int .i64 (H.t : Int), .int .i64 (H.p : Int), .int .i64 (H.s : Int)], .slice (some ad) n c, .agg #[.int .i64 (p : Int), .int .i64 (i : Int)]] W (Keeps W) := by
  have t2 : decide ((H.p : Int) ≤ (64 : Int)) = true := decide_eq_true (by omega)
  have HK := hidp hk
  clear hk
  have HC := hidp ((Held.new W 23 #[.int .i64 (H.t : Int), .int .i64 (H.p : Int), .int .i64 (H.s : Int)]).alloc (.cells #[.int .i64 (p : Int), .int .i64 (i : Int)] 25))
  have HX := hidp (Held.new2 W (.cells #[.int .i64 (H.t : Int), .int .i64 (H.p : Int), .int .i64 (H.s : Int)] 23) 25 #[.int .i64 (p : Int), .int .i64 (i : Int)])
  have HB := hidp (Bnew (Bnew (B0 W) (.cells #[.int .i64 (H.t : Int), .int .i64 (H.p : Int), .int .i64 (H.s : Int)] 23)) (.cells #[.int .i64 (p : Int), .int .i64 (i : Int)] 25))
  have HTL := hidp hT
  clear hT
  obtain ⟨x0', x1', x2'⟩ := HC.out.three
  obtain ⟨y0', y1'⟩ := HX.out.two
  go_enter Tryz.func6, Tryz.ntmps6
  go_wp2_with fail
  refine (few14_c H.t H.p H.s _).mono ?_
  rintro e w1 ⟨rfl, hb⟩
  rw [t2]
  replace HC := hidp (HC.out.keep hb)
  replace HX := hidp (HX.out.keep hb)
  replace HB := hidp (Bgo HB.out hb)
  clear hb
  clear x0' x1' x2' y0' y1'
  obtain ⟨x0', x1', x2'⟩ := HC.out.three
  obtain ⟨y0', y1'⟩ := HX.out.two
  go_wp2_with fail
  refine (xSound_c H.t H.p H.s (some ad) n c m true _ (hX.out.grown HB.out)).mono ?_
  rintro e w2 ⟨rfl, hb⟩
  replace HC := hidp (HC.out.keep hb)
  replace HX := hidp (HX.out.keep hb)
  replace HB := hidp (Bgo HB.out hb)
  clear hb
  clear x0' x1' x2' y0' y1'
  obtain ⟨x0', x1', x2'⟩ := HC.out.three
  obtain ⟨y0', y1'⟩ := HX.out.two
  go_wp2_with fail
  refine (idle16_c HV ad hp hi _ (hv.out.below HB.out)).mono ?_
  rintro e w3 ⟨rfl, hb⟩
  rw [HK.out]
  replace HC := hidp (HC.out.keep hb)
  replace HX := hidp (HX.out.keep hb)
  replace HB := hidp (Bgo HB.out hb)
  clear hb
  clear x0' x1' x2' y0' y1'
  obtain ⟨x0', x1', x2'⟩ := HC.out.three
  obtain ⟨y0', y1'⟩ := HX.out.two
  go_wp2_with fail
  refine (live16_c _ (HTL.out.below HB.out)).mono ?_
  rintro e w19 ⟨rfl, hb⟩
  have HBL := hidp (Bgo HB.out hb)
  clear hb
  go_wp2
  go_ret
  exact ⟨rfl, HBL.out⟩

theorem info16_now {H : AuH} {n c : Nat} {K : Nat → Option Nat} (HV : HeapV H n c) (hK : ∀ i, i < n → K i = some (H.V i)) {p : Nat} (hp : p < H.p) : infoOf n K H.t H.p H.s p freshS = infoG (H.cel p 0) := by
  have hV : VW n K freshS := ⟨fun i hi => ⟨_, hK i hi⟩, rfl⟩
  have hin : 30 + 4 * H.t + 6 * p < n := by have := HV.len; omega
  unfold infoOf
  rw [HV.fit.inf hp]
  unfold inH
  rw [hV.at_ hin]
  show infoG ((K (30 + 4 * H.t + 6 * p)).getD 0) = _
  rw [hK _ hin]
  rfl
theorem now16_at {H : AuH} {n : Nat} {K : Nat → Option Nat} {st : Vst} (hvw : VW n K st) {i : Nat} (hi : i < n) : nowV K st.wr i = (nowH H n K st).V i := by
  show _ = curV n (getV n K st) H.V i
  rw [curV_in hi, hvw.at_ hi]
  rfl

structure ZB (W : World) (H : AuH) (n z1 b1 : Nat) (K : Nat → Option Nat) (C X : Array Value) (A4 : Nat → Prop) (s2 : Vst) (fy fx fg : Bool) (NY NX gy : Nat) (cy vy vx : Array Value) (w : World) : Prop where
  hc : Held w W.heap.size 23 C
  hx : Held w (W.heap.size + 1) 25 X
  hd : Duo W (vOb z1 b1 n true K) noOb A4 (fun _ => False) (fun g => g < z1) s2 freshS w
  hn : fy = true → Held w NY 58 vy ∧ W.heap.size + 1 < NY ∧ ¬ A4 NY
  hm : fx = true → Held w NX 58 vx ∧ W.heap.size + 1 < NX ∧ ¬ A4 NX
  hy : fg = true → Held w gy 63 cy
  e1 : fy = true → fx = true → NY ≠ NX
  e2 : fg = true → fy = true → gy ≠ NY
  e3 : fg = true → fx = true → gy ≠ NX
section
variable {W w w' WF : World} {H : AuH} {n z1 b1 : Nat} {K : Nat → Option Nat} {C X : Array Value} {A4 : Nat → Prop} {s2 : Vst} {fy fx fg : Bool} {NY NX gy g : Nat} {cy vy vx : Array Value} {a0 a1 a2 a3 c0 c1 c2 c3 : Value}
theorem ZB.out_ (h : ZB W H n z1 b1 K C X A4 s2 fy fx fg NY NX gy cy vy vx w) : ¬ A4 w.heap.size := fun x => by have := Ob.lt (vOb z1 b1 n true K) h.hd.i1 _ x; omega
theorem ZB.y (h : ZB W H n z1 b1 K C X A4 s2 false fx fg NY NX gy cy vy vx w) (v : Array Value) : ZB W H n z1 b1 K C X A4 s2 true fx fg w.heap.size NX gy cy v vx (w.alloc (.cells v 58)) := by
  have hb := Bnew (B0 w) (.cells v 58)
  exact ⟨h.hc.keep hb, h.hx.keep hb, h.hd.keep hb, fun _ => ⟨Held.new w 58 v, h.hx.lt, h.out_⟩, fun e => ⟨(h.hm e).1.keep hb, (h.hm e).2⟩, fun e => (h.hy e).keep hb, fun _ e => by have := (h.hm e).1.lt; omega, fun e _ => by have := (h.hy e).lt; omega, h.e3⟩
theorem ZB.x (h : ZB W H n z1 b1 K C X A4 s2 fy false fg NY NX gy cy vy vx w) (v : Array Value) : ZB W H n z1 b1 K C X A4 s2 fy true fg NY w.heap.size gy cy vy v (w.alloc (.cells v 58)) := by
  have hb := Bnew (B0 w) (.cells v 58)
  exact ⟨h.hc.keep hb, h.hx.keep hb, h.hd.keep hb, fun e => ⟨(h.hn e).1.keep hb, (h.hn e).2⟩, fun _ => ⟨Held.new w 58 v, h.hx.lt, h.out_⟩, fun e => (h.hy e).keep hb, fun e _ => by have := (h.hn e).1.lt; omega, h.e2, fun e _ => by have := (h.hy e).lt; omega⟩
theorem ZB.row (h : ZB W H n z1 b1 K C X A4 s2 fy fx false NY NX gy cy vy vx w) (hb : Below w.heap.size w w') {cs : Array Value} (hg : w.heap.size ≤ g) (hh : Held w' g 63 cs) : ZB W H n z1 b1 K C X A4 s2 fy fx true NY NX g cs vy vx w' :=
  ⟨h.hc.keep hb, h.hx.keep hb, h.hd.keep hb, fun e => ⟨(h.hn e).1.keep hb, (h.hn e).2⟩, fun e => ⟨(h.hm e).1.keep hb, (h.hm e).2⟩, fun _ => hh, h.e1, fun _ e => by have := (h.hn e).1.lt; omega, fun _ e => by have := (h.hm e).1.lt; omega⟩
theorem ZB.put9 (h : ZB W H n z1 b1 K C X A4 s2 true true true NY NX gy cy #[c0, c1, c2, c3] vx w) (hw : set4 w NY a0 a1 a2 a3 = WF) : ZB W H n z1 b1 K C X A4 s2 true true true NY NX gy cy #[a0, a1, a2, a3] vx WF := by
  obtain ⟨k1, k2, k3⟩ := h.hn rfl
  obtain ⟨k4, k5⟩ := h.hm rfl
  have k6 := h.e1 rfl rfl
  exact ⟨far4 hw (by omega) h.hc, far4 hw (by omega) h.hx, duo4 hw k3 (fun x => x) (by omega) h.hd, fun _ => ⟨held4 hw k1, k2, k3⟩, fun _ => ⟨far4 hw (Ne.symm k6) k4, k5⟩, fun _ => far4 hw (h.e2 rfl rfl) (h.hy rfl), h.e1, h.e2, h.e3⟩
theorem ZB.put10 (h : ZB W H n z1 b1 K C X A4 s2 true true true NY NX gy cy vy #[c0, c1, c2, c3] w) (hw : set4 w NX a0 a1 a2 a3 = WF) : ZB W H n z1 b1 K C X A4 s2 true true true NY NX gy cy vy #[a0, a1, a2, a3] WF := by
  obtain ⟨k1, k2, k3⟩ := h.hm rfl
  obtain ⟨k4, k5⟩ := h.hn rfl
  have k6 := h.e1 rfl rfl
  exact ⟨far4 hw (by omega) h.hc, far4 hw (by omega) h.hx, duo4 hw k3 (fun x => x) (by omega) h.hd, fun _ => ⟨far4 hw k6 k4, k5⟩, fun _ => ⟨held4 hw k1, k2, k3⟩, fun _ => far4 hw (h.e3 rfl rfl) (h.hy rfl), h.e1, h.e2, h.e3⟩
end

set_option maxHeartbeats 25600000 in
theorem SlabBack_main {H : AuH} (ad : Addr) (n c m : Nat) (HV : HeapV H n c) (vals : List Nat) (HNN : Hid (vals.length = n)) (H32 : Hid (∀ x ∈ vals, x < 2 ^ 32)) (hVK : ∀ i, H.V i = vals.getD i 0) (hq : H.p ≤ 64) (hr : ∀ i, i < 10 → H.rule i) (p i : Nat) (hpp : p < H.p) (hi : i < 32) (hk : H.idleAt p i = true) (s2 : Vst) (LL : Nat → List Nat) (hgs : giveS n (wholeK16 vals) H.t H.p H.s p i freshS = s2) (hvw : VW n (wholeK16 vals) s2) (P : GivenBack H n (wholeK16 vals) s2 LL p i) (hf : H.V 0 ≤ 1024)
    (W : World) (hT : SlotsLaid W) (HR : Hid (Reads W W.heap.size 1 (some ad) n (valVs vals))) (hv : Hid (IsVals W ad n H.V)) (hX : Hid (XCheckIs W H.t H.p H.s (some ad) n c m true)) :
    Calls Tryz.prog 6 #[.agg #[.int .i64 (H.t : Int), .int .i64 (H.p : Int), .int .i64 (H.s : Int)], .slice (some ad) n c, .agg #[.int .i64 (p : Int), .int .i64 (i : Int)]] W (Keeps W) := by
  have t2 : decide ((H.p : Int) ≤ (64 : Int)) = true := decide_eq_true (by omega)
  have hnb : n ≤ 6238 := by have := HV.nums; omega
  have hn0 : 0 < n := by have := HV.len; omega
  have hcm : c ≤ maxLen := HV.max
  have hcm2 : c ≤ 9223372036854775807 := hcm
  have hn40 : n < 2 ^ 40 := by omega
  have hq10 : (H.p : Int) ≤ 1024 := by omega
  have hK : ∀ i, i < n → wholeK16 vals i = some (H.V i) := fun i hi => by
    unfold wholeK16
    rw [hVK i, List.getElem?_eq_getElem (by rw [HNN.out]; exact hi)]
    simp [List.getD, List.getElem?_eq_getElem (show i < vals.length by rw [HNN.out]; exact hi)]
  have h32K : ∀ i x, wholeK16 vals i = some x → x < 2 ^ 32 := fun i x h => H32.out x (List.mem_of_getElem? h)
  have HK := hidp hk
  have HGS := hidp hgs
  have HCB : Hid (0 ≤ (infoOf n (wholeK16 vals) H.t H.p H.s p freshS).2.2.1 ∧ (infoOf n (wholeK16 vals) H.t H.p H.s p freshS).2.2.1 ≤ 8) := hidp (by
    rw [info16_now HV hK hpp]
    unfold AuH.idleAt at hk
    simp only [Bool.and_eq_true, decide_eq_true_eq] at hk
    exact slab_class hk.1.1)
  obtain ⟨L, hL⟩ : ∃ L, blocksOf H.parts = L := ⟨_, rfl⟩
  obtain ⟨r0, hr0⟩ : ∃ r, H.V 22 = r := ⟨_, rfl⟩
  obtain ⟨r1, hr1⟩ : ∃ r, H.V 23 = r := ⟨_, rfl⟩
  obtain ⟨r2, hr2⟩ : ∃ r, H.V 24 = r := ⟨_, rfl⟩
  obtain ⟨r3, hr3⟩ : ∃ r, H.V 25 = r := ⟨_, rfl⟩
  obtain ⟨r4, hr4⟩ : ∃ r, H.V 26 = r := ⟨_, rfl⟩
  obtain ⟨r5, hr5⟩ : ∃ r, H.V 27 = r := ⟨_, rfl⟩
  obtain ⟨r6, hr6⟩ : ∃ r, H.V 28 = r := ⟨_, rfl⟩
  obtain ⟨r7, hr7⟩ : ∃ r, H.V 29 = r := ⟨_, rfl⟩
  obtain ⟨nl, hnl⟩ : ∃ nl, L.length = nl := ⟨_, rfl⟩
  have HNL := hidp hnl
  have hnlb : nl ≤ 60000 := by rw [← hnl, ← hL]; exact blocks_few15 HV
  have hnlb2 : nl ≤ 100000 := by omega
  have HRS : Hid (H.V 22 = r0 ∧ H.V 23 = r1 ∧ H.V 24 = r2 ∧ H.V 25 = r3 ∧ H.V 26 = r4 ∧ H.V 27 = r5 ∧ H.V 28 = r6 ∧ H.V 29 = r7 ∧ blocksOf H.parts = L) := hidp ⟨hr0, hr1, hr2, hr3, hr4, hr5, hr6, hr7, hL⟩
  obtain ⟨kz, hkz⟩ : ∃ kz, kindN 4 H.parts = kz := ⟨_, rfl⟩
  obtain ⟨kc, hkc⟩ : ∃ kc, kindN 4 (nowH H n (wholeK16 vals) s2).parts = kc := ⟨_, rfl⟩
  obtain ⟨kn, hkn⟩ : ∃ kn, (nowH H n (wholeK16 vals) s2).K p = kn := ⟨_, rfl⟩
  obtain ⟨ll, hll⟩ : ∃ ll, (nowH H n (wholeK16 vals) s2).ln p = ll := ⟨_, rfl⟩
  obtain ⟨cl, hcl⟩ : ∃ cl, (nowH H n (wholeK16 vals) s2).Cl p = cl := ⟨_, rfl⟩
  obtain ⟨tk, htk⟩ : ∃ tk, H.cel p 5 = tk := ⟨_, rfl⟩
  obtain ⟨on, hon⟩ : ∃ on, HM.onesTo tk 32 = on := ⟨_, rfl⟩
  obtain ⟨z0, hz0⟩ : ∃ z0, H.V 0 = z0 := ⟨_, rfl⟩
  obtain ⟨zf, hzf⟩ : ∃ zf, (nowH H n (wholeK16 vals) s2).V 0 = zf := ⟨_, rfl⟩
  have hk32 : tk < 2 ^ 32 := by rw [← htk]; exact HV.cel_lt hpp (by omega)
  have hkk : kc + 1 = kz := by rw [← hkc, ← hkz]; exact P.less
  have hkb : kz ≤ 60000 := by
    have h1 := kindN_few H.parts 4
    have h2 : H.parts.length ≤ H.p * 33 := AuH.parts_len H.p
    omega
  have hif : (nowH H n (wholeK16 vals) s2).idleAt p i = false := by
    unfold AuH.idleAt
    rcases P.left with ⟨_, h3, _⟩ | ⟨_, h3, _, h4⟩
    · rw [decide_eq_false h3]; rfl
    · rw [h4]; simp
  have HLF : Hid ((on = 1 ∧ kn ≠ 3 ∧ zf = z0 + 1) ∨ (on ≠ 1 ∧ kn = 3 ∧ zf = z0)) := hidp (by
    rw [← hon, ← htk, ← hkn, ← hzf, ← hz0]
    rcases P.left with ⟨a1, a2, a3⟩ | ⟨a1, a2, a3, _⟩
    · exact .inl ⟨a1, a2, a3⟩
    · exact .inr ⟨a1, a2, a3⟩)
  have HGY : Hid (∀ (w : World) (g cp : Nat) (cy : Array Value), RowS n cp (valF (nowV (wholeK16 vals) s2.wr)) cy → Held w g 63 cy → w.cell? ⟨g, 0, none⟩ = some (.int .u32 (zf : Int))) := hidp (fun w g cp cy h1 h2 => by
    have h3 := (h1 _ _ _ h2).cell hn0
    unfold valF at h3
    rw [now16_at (H := H) hvw hn0, hzf] at h3
    exact h3)
  have HVZ : Hid (∀ w', Below W.heap.size W w' → w'.cell? (ad.add 0) = some (.int .u32 (z0 : Int)) ∧ w'.cell? ad = some (.int .u32 (z0 : Int))) := hidp (fun w' hw => by
    have h1 := (hv.out.below hw).2 0 hn0
    rw [hz0] at h1
    exact ⟨h1, by rw [add_zero15] at h1; exact h1⟩)
  have HNOW : Hid (∀ hok : VOk n s2, (∀ (w : World) (g cp : Nat), RowF w g 63 n cp (valF (nowV (wholeK16 vals) s2.wr)) → Calls Tryz.prog 23 #[.agg #[.int .i64 (H.t : Int), .int .i64 (H.p : Int), .int .i64 (H.s : Int)], .slice (some ⟨g, 0, none⟩) n cp] w fun e w' => ∃ u, e = .returned (.tuple #[.agg #[u, .int .i64 (r0 : Int), .int .i64 (r1 : Int), .int .i64 (r2 : Int), .int .i64 (r3 : Int), .int .i64 (r4 : Int), .int .i64 (r5 : Int), .int .i64 (r6 : Int), .int .i64 (r7 : Int)], .bool true]) ∧ w'.ownsRow w.heap.size 104 2 u L.length (bkVs L) ∧ Below w.heap.size w w') ∧ (∀ (w : World) (g cp : Nat), RowF w g 63 n cp (valF (nowV (wholeK16 vals) s2.wr)) → Calls Tryz.prog 26 #[.agg #[.int .i64 (H.t : Int), .int .i64 (H.p : Int), .int .i64 (H.s : Int)], .slice (some ⟨g, 0, none⟩) n cp] w fun e w' => e = .returned (.int .i64 (kc : Int)) ∧ Below w.heap.size w w') ∧ (∀ (w : World) (g cp : Nat), RowF w g 63 n cp (valF (nowV (wholeK16 vals) s2.wr)) → Calls Tryz.prog 19 #[.agg #[.int .i64 (H.t : Int), .int .i64 (H.p : Int), .int .i64 (H.s : Int)], .slice (some ⟨g, 0, none⟩) n cp, .int .i64 (p : Int), .int .i64 (i : Int)] w fun e w' => e = .returned (.bool false) ∧ Below w.heap.size w w') ∧ (∀ (w : World) (g cp : Nat), RowF w g 63 n cp (valF (nowV (wholeK16 vals) s2.wr)) → Calls Tryz.prog 27 #[.agg #[.int .i64 (H.t : Int), .int .i64 (H.p : Int), .int .i64 (H.s : Int), .slice (some ⟨g, 0, none⟩) n cp], .int .i64 (p : Int)] w fun e w' => e = .returned (.agg #[.int .i64 kn, .int .i64 (ll : Int), .int .i64 cl]) ∧ Below w.heap.size w w')) := hidp (fun hok =>
    ⟨fun w g cp hrow => state_now HV (st := s2) hok h32K hvw P.ok.rules P.roots L (P.blocks.trans hL) r0 r1 r2 r3 r4 r5 r6 r7 hr0 hr1 hr2 hr3 hr4 hr5 hr6 hr7 w g cp hrow,
     fun w g cp hrow => count_now HV hok h32K hvw P.ok.rules kc hkc w g cp hrow,
     fun w g cp hrow => idle_now HV hok h32K hvw hpp hi false hif w g cp hrow,
     fun w g cp hrow => info_now HV hok h32K hvw hpp kn cl ll hkn hll hcl w g cp hrow⟩)
  have HKZ := hidp hkz
  have HTK := hidp htk
  have HON := hidp hon
  have hzb : z0 ≤ 1024 := by rw [← hz0]; exact hf
  have v1 : (kz : Int) - 1 = (kc : Int) := by omega
  have v2 : IntKind.i64.wrap (kc : Int) = (kc : Int) := i64_same (by omega) (by omega)
  have t8 : ((kc : Int) != (kc : Int)) = false := by simp
  have hfd : ∀ w : World, (Instr.field 60 (.agg #[.int .i64 kn, .int .i64 (ll : Int), .int .i64 cl]) 0).run Tryz.prog w = .ok (.int .i64 kn) w := fun _ => by kernel_rfl
  clear hgs P hvw hL hr0 hr1 hr2 hr3 hr4 hr5 hr6 hr7 hnl hkz hkc hll hcl hkn htk hon hz0 hzf hkk hif hk hr hVK hK h32K hf
  have HC := hidp ((Held.new W 23 #[.int .i64 (H.t : Int), .int .i64 (H.p : Int), .int .i64 (H.s : Int)]).alloc (.cells #[.int .i64 (p : Int), .int .i64 (i : Int)] 25))
  have HX := hidp (Held.new2 W (.cells #[.int .i64 (H.t : Int), .int .i64 (H.p : Int), .int .i64 (H.s : Int)] 23) 25 #[.int .i64 (p : Int), .int .i64 (i : Int)])
  have HB := hidp (Bnew (Bnew (B0 W) (.cells #[.int .i64 (H.t : Int), .int .i64 (H.p : Int), .int .i64 (H.s : Int)] 23)) (.cells #[.int .i64 (p : Int), .int .i64 (i : Int)] 25))
  have HTL := hidp hT
  clear hT
  obtain ⟨x0', x1', x2'⟩ := HC.out.three
  obtain ⟨y0', y1'⟩ := HX.out.two
  go_enter Tryz.func6, Tryz.ntmps6
  go_wp2_with fail
  refine (few14_c H.t H.p H.s _).mono ?_
  rintro e w1 ⟨rfl, hb⟩
  rw [t2]
  replace HC := hidp (HC.out.keep hb)
  replace HX := hidp (HX.out.keep hb)
  replace HB := hidp (Bgo HB.out hb)
  clear hb
  clear x0' x1' x2' y0' y1'
  obtain ⟨x0', x1', x2'⟩ := HC.out.three
  obtain ⟨y0', y1'⟩ := HX.out.two
  go_wp2_with fail
  refine (xSound_c H.t H.p H.s (some ad) n c m true _ (hX.out.grown HB.out)).mono ?_
  rintro e w2 ⟨rfl, hb⟩
  replace HC := hidp (HC.out.keep hb)
  replace HX := hidp (HX.out.keep hb)
  replace HB := hidp (Bgo HB.out hb)
  clear hb
  clear x0' x1' x2' y0' y1'
  obtain ⟨x0', x1', x2'⟩ := HC.out.three
  obtain ⟨y0', y1'⟩ := HX.out.two
  go_wp2_with fail
  refine (idle16_c HV ad hpp hi _ (hv.out.below HB.out)).mono ?_
  rintro e w2 ⟨rfl, hb⟩
  rw [HK.out]
  replace HC := hidp (HC.out.keep hb)
  replace HX := hidp (HX.out.keep hb)
  replace HB := hidp (Bgo HB.out hb)
  clear hb
  clear x0' x1' x2' y0' y1'
  obtain ⟨x0', x1', x2'⟩ := HC.out.three
  obtain ⟨y0', y1'⟩ := HX.out.two
  go_wp2_with fail
  have HRw : Hid (Reads w2 w2.heap.size 1 (some ad) n (valVs vals)) := hidp ((HR.out.below HB.out).more HB.out.size)
  refine (Whole_c (some ad) c vals n HNN.out (by omega) H32.out _ (by
    intro h0
    obtain ⟨ad', e, _, hc⟩ := HRw.out.2 h0
    exact ⟨ad', e, hc⟩)).mono ?_
  rintro e w5 ⟨b1, o1, rfl, hI, hB⟩
  have HD := hidp (duo_made (W := W) (G := fun g => g < w2.heap.size) hI HB.out.size (Bgo HB.out hB) (fun g hg => ⟨Nat.lt_of_lt_of_le hg hB.size, fun x => by have := hI.ge _ x; omega⟩))
  have HZC : Hid (W.heap.size < w2.heap.size) := hidp HC.out.lt
  have HZX : Hid (W.heap.size + 1 < w2.heap.size) := hidp HX.out.lt
  replace HC := hidp (HC.out.keep hB)
  replace HX := hidp (HX.out.keep hB)
  clear hI hB HRw HB
  generalize hz1 : w2.heap.size = z1 at *
  clear hz1
  rw [show (fun i => vals[i]?) = wholeK16 vals from rfl] at HD
  clear x0' x1' x2' y0' y1'
  obtain ⟨x0', x1', x2'⟩ := HC.out.three
  obtain ⟨y0', y1'⟩ := HX.out.two
  go_wp2_with fail
  refine (slGive_c hn40 hq10 p i (by omega) hi (HD.out.slots HTL.out).1 (HD.out.slots HTL.out).2.1 HCB.out.1 HCB.out.2 HD.out.at1).mono ?_
  rintro e w6 ⟨rfl, h1, _⟩
  obtain ⟨A4, h2, h3⟩ := HD.out.left1 h1.left
  rw [HGS.out] at h2
  replace HC := hidp (h3.held HZC.out HC.out)
  replace HX := hidp (h3.held HZX.out HX.out)
  replace HD := hidp h2
  clear h1 h2 h3 HGS HCB
  clear x0' x1' x2' y0' y1'
  obtain ⟨x0', x1', x2'⟩ := HC.out.three
  obtain ⟨y0', y1'⟩ := HX.out.two
  have HOK : Hid (VOk n s2) := hidp (by obtain ⟨o, hI, _⟩ := HD.out.i1; exact hI.ok)
  have HN2 := hidp (HNOW.out HOK.out).1
  have HCN := hidp (HNOW.out HOK.out).2.1
  have HID := hidp (HNOW.out HOK.out).2.2.1
  have HII := hidp (HNOW.out HOK.out).2.2.2
  clear HNOW HOK HK
  go_wp2_with fail
  refine (xState_yes HV ad m _ (hv.out.below HD.out.bel) (hX.out.grown HD.out.bel)).mono ?_
  rintro e w3 ⟨u1, rfl, hown, hb⟩
  obtain ⟨hr0, hr1, hr2, hr3, hr4, hr5, hr6, hr7, hL⟩ := HRS.out
  rw [hr0, hr1, hr2, hr3, hr4, hr5, hr6, hr7]
  rw [hL, HNL.out] at hown
  obtain ⟨A1, k1, hu1⟩ := own_slice hown
  subst hu1
  have HO1 : Hid ((w3.alloc (.cells #[.slice A1 nl k1, .int .i64 (r0 : Int), .int .i64 (r1 : Int), .int .i64 (r2 : Int), .int .i64 (r3 : Int), .int .i64 (r4 : Int), .int .i64 (r5 : Int), .int .i64 (r6 : Int), .int .i64 (r7 : Int)] 51)).ownsRow 0 104 2 (.slice A1 nl k1) nl (bkVs L)) := hidp (own_below (own_lower hown (Nat.zero_le _)) (Bnew (B0 _) _))
  have HS := hidp (Held.new w3 51 #[.slice A1 nl k1, .int .i64 (r0 : Int), .int .i64 (r1 : Int), .int .i64 (r2 : Int), .int .i64 (r3 : Int), .int .i64 (r4 : Int), .int .i64 (r5 : Int), .int .i64 (r6 : Int), .int .i64 (r7 : Int)])
  replace HC := hidp ((HC.out.keep hb).alloc (.cells #[.slice A1 nl k1, .int .i64 (r0 : Int), .int .i64 (r1 : Int), .int .i64 (r2 : Int), .int .i64 (r3 : Int), .int .i64 (r4 : Int), .int .i64 (r5 : Int), .int .i64 (r6 : Int), .int .i64 (r7 : Int)] 51))
  replace HX := hidp ((HX.out.keep hb).alloc (.cells #[.slice A1 nl k1, .int .i64 (r0 : Int), .int .i64 (r1 : Int), .int .i64 (r2 : Int), .int .i64 (r3 : Int), .int .i64 (r4 : Int), .int .i64 (r5 : Int), .int .i64 (r6 : Int), .int .i64 (r7 : Int)] 51))
  replace HD := hidp ((HD.out.keep hb).keep (Bnew (B0 _) (.cells #[.slice A1 nl k1, .int .i64 (r0 : Int), .int .i64 (r1 : Int), .int .i64 (r2 : Int), .int .i64 (r3 : Int), .int .i64 (r4 : Int), .int .i64 (r5 : Int), .int .i64 (r6 : Int), .int .i64 (r7 : Int)] 51)))
  clear hb hown HRS hr0 hr1 hr2 hr3 hr4 hr5 hr6 hr7 hL x0' x1' x2' y0' y1'
  obtain ⟨x0', x1', x2'⟩ := HC.out.three
  obtain ⟨y0', y1'⟩ := HX.out.two
  go_wp2_with fail
  generalize hN11 : w3.heap.size = NW at *
  generalize hw11 : w3.alloc (.cells #[.slice A1 nl k1, .int .i64 (r0 : Int), .int .i64 (r1 : Int), .int .i64 (r2 : Int), .int .i64 (r3 : Int), .int .i64 (r4 : Int), .int .i64 (r5 : Int), .int .i64 (r6 : Int), .int .i64 (r7 : Int)] 51) = w6 at *
  clear hN11 hw11
  go_wp2_with fail
  go_cut [10, 11] from 49 to 55 (fun u10 u11 wx => ∃ (N13 k2 : Nat) (A2 : Option Addr) (A4 : Nat → Prop), u10 = .pointer (some ⟨N13, 0, none⟩) ∧ u11 = .bool true ∧ Held wx N13 51 #[.slice A2 nl k2, .int .i64 (r0 : Int), .int .i64 (r1 : Int), .int .i64 (r2 : Int), .int .i64 (r3 : Int), .int .i64 (r4 : Int), .int .i64 (r5 : Int), .int .i64 (r6 : Int), .int .i64 (r7 : Int)] ∧ wx.ownsRow 0 104 2 (.slice A2 nl k2) nl (bkVs L) ∧ Held wx W.heap.size 23 #[.int .i64 (H.t : Int), .int .i64 (H.p : Int), .int .i64 (H.s : Int)] ∧ Held wx (W.heap.size + 1) 25 #[.int .i64 (p : Int), .int .i64 (i : Int)] ∧ Held wx NW 51 #[.slice A1 nl k1, .int .i64 (r0 : Int), .int .i64 (r1 : Int), .int .i64 (r2 : Int), .int .i64 (r3 : Int), .int .i64 (r4 : Int), .int .i64 (r5 : Int), .int .i64 (r6 : Int), .int .i64 (r7 : Int)] ∧ wx.ownsRow 0 104 2 (.slice A1 nl k1) nl (bkVs L) ∧ Duo W (vOb z1 b1 n true (wholeK16 vals)) noOb A4 (fun _ => False) (fun g => g < z1) s2 freshS wx)
  case first =>
    replace HC := hidp HC.out.drw
    replace HX := hidp HX.out.drw
    replace HS := hidp HS.out.drw
    replace HO1 := hidp (own_below HO1.out (Bdrew (B0 _)))
    replace HD := hidp (HD.out.keep (Bdrew (B0 _)))
    refine wp_region_held_drew (S := (fun w' => w'.cell? ⟨W.heap.size, 0, none⟩ = some (.int .i64 (H.t : Int)) ∧ w'.cell? ⟨W.heap.size, 1, none⟩ = some (.int .i64 (H.p : Int)) ∧ w'.cell? ⟨W.heap.size, 2, none⟩ = some (.int .i64 (H.s : Int)))) (by kernel_rfl) ?_ (fun hHeld => ?_)
    · (try dsimp only)
      first | exact HC.out.three | exact hHeld
    generalize hq0 : World.drew w6 = q0 at HC HX HS HO1 HD hHeld ⊢
    clear hq0
    refine tkz 0 ?_
    refine tkz 1 ?_
    refine wpAnyH_ready (rs := [2, 7]) (by kernel_rfl) (by simp) ?_
    refine AllReadyH.cons (o := _) rfl (fun K hK => ?_) (AllReadyH.cons (o := _) rfl (fun K hK => ?_) AllReadyH.nil)
    · skip
      go_simp
      obtain ⟨o9, hI9, _⟩ := HD.out.i1
      refine (vVals_some hn0 (by have := hI9.ok.few; omega) _ hI9).mono ?_
      rintro e v1 ⟨g, cp, rfl, _, hrow, hb⟩
      have HRF := hidp hrow
      clear hI9 hrow
      replace HC := hidp (HC.out.keep hb)
      replace HX := hidp (HX.out.keep hb)
      replace HS := hidp (HS.out.keep hb)
      replace HO1 := hidp (own_below HO1.out hb)
      replace HD := hidp (HD.out.keep hb)
      clear hb
      refine hK.out _ _ ?_ (fun hHeld => ?_)
      · (try dsimp only)
        first | exact HC.out.three | exact hHeld
      clear hK K
      (try simp only [Act.put, gA, gB, gC, sA, sB, sC])
      refine wpAnyH_ready (rs := [3, 7]) (by kernel_rfl) (by simp) ?_
      refine AllReadyH.cons (o := _) rfl (fun K hK => ?_) (AllReadyH.cons (o := _) rfl (fun K hK => ?_) AllReadyH.nil)
      · skip
        go_simp
        refine (HN2.out _ _ _ HRF.out).mono ?_
        rintro e v2 ⟨u2, rfl, hown, hb⟩
        rw [HNL.out] at hown
        obtain ⟨A2, k2, hu2⟩ := own_slice hown
        subst hu2
        have HO2 : Hid (v2.ownsRow 0 104 2 (.slice A2 nl k2) nl (bkVs L)) := hidp (own_lower hown (Nat.zero_le _))
        clear HRF hown
        replace HC := hidp (HC.out.keep hb)
        replace HX := hidp (HX.out.keep hb)
        replace HS := hidp (HS.out.keep hb)
        replace HO1 := hidp (own_below HO1.out hb)
        replace HD := hidp (HD.out.keep hb)
        clear hb
        refine hK.out _ _ ?_ (fun hHeld => ?_)
        · (try dsimp only)
          first | exact HC.out.three | exact hHeld
        clear hK K
        (try simp only [Act.put, gA, gB, gC, sA, sB, sC])
        refine tkz 4 ?_
        refine tkz 5 ?_
        refine tkz 6 ?_
        refine wpAnyH_ready (rs := [7]) (by kernel_rfl) (by simp) ?_
        refine AllReadyH.cons (o := _) rfl (fun K hK => ?_) AllReadyH.nil
        · skip
          go_simp
          have hb := Bnew (B0 v2) (.cells #[.slice none 0 0, .int .i64 0, .int .i64 0, .int .i64 0, .int .i64 0, .int .i64 0, .int .i64 0, .int .i64 0, .int .i64 0] 51)
          have HN := hidp (Held.new v2 51 #[.slice none 0 0, .int .i64 0, .int .i64 0, .int .i64 0, .int .i64 0, .int .i64 0, .int .i64 0, .int .i64 0, .int .i64 0])
          have HLE := hidp HD.out.bel.size
          have HLT : Hid (W.heap.size < v2.heap.size ∧ (W.heap.size + 1) < v2.heap.size ∧ NW < v2.heap.size) := hidp ⟨HC.out.lt, HX.out.lt, HS.out.lt⟩
          have HNA : Hid (¬ A4 v2.heap.size) := hidp (fun x => by have := Ob.lt (vOb z1 b1 n true (wholeK16 vals)) HD.out.i1 _ x; omega)
          replace HC := hidp (HC.out.keep hb)
          replace HX := hidp (HX.out.keep hb)
          replace HS := hidp (HS.out.keep hb)
          replace HO1 := hidp (own_below HO1.out hb)
          replace HO2 := hidp (own_below HO2.out hb)
          replace HD := hidp (HD.out.keep hb)
          clear hb
          generalize hn13 : v2.heap.size = N13 at *
          generalize hw13 : v2.alloc (.cells #[.slice none 0 0, .int .i64 0, .int .i64 0, .int .i64 0, .int .i64 0, .int .i64 0, .int .i64 0, .int .i64 0, .int .i64 0] 51) = v3 at *
          clear hn13 hw13
          refine hK.out _ _ ?_ (fun hHeld => ?_)
          · (try dsimp only)
            first | exact HC.out.three | exact hHeld
          clear hK K
          (try simp only [Act.put, gA, gB, gC, sA, sB, sC])
          refine wpAnyH_ready (rs := [8]) (by kernel_rfl) (by simp) ?_
          refine AllReadyH.cons (o := _) rfl (fun K hK => ?_) AllReadyH.nil
          obtain ⟨z0, z1', z2, z3, z4, z5', z6, z7, z8⟩ := HN.out.nine
          obtain ⟨f0, f1, f2, f3, f4, f5, f6, f7, f8⟩ := HN.out.thawed9
          go_simp
          obtain ⟨WF, hWF⟩ : ∃ WF, wr9 (v3) N13 (.slice A2 nl k2) r0 r1 r2 r3 r4 r5 r6 r7 = WF := ⟨_, rfl⟩
          replace HO1 := hidp (own9 hWF (heldOwn_ne HN.out HO1.out (by decide)) HO1.out)
          replace HO2 := hidp (own9 hWF (heldOwn_ne HN.out HO2.out (by decide)) HO2.out)
          replace HC := hidp (far9 hWF (by have := HLT.out; omega) HC.out)
          replace HX := hidp (far9 hWF (by have := HLT.out; omega) HX.out)
          replace HS := hidp (far9 hWF (by have := HLT.out; omega) HS.out)
          replace HD := hidp (duo9 hWF HNA.out (fun x => x) HLE.out HD.out)
          replace HN := hidp (held9 hWF HN.out)
          unfold wr9 set9 at hWF
          rw [hWF]
          clear hWF z0 z1' z2 z3 z4 z5' z6 z7 z8 f0 f1 f2 f3 f4 f5 f6 f7 f8
          refine hK.out _ _ ?_ (fun hHeld => ?_)
          · (try dsimp only)
            first | exact HC.out.three | exact hHeld
          clear hK K
          (try simp only [Act.put, gA, gB, gC, sA, sB, sC])
          refine tkz 9 ?_
          refine wpAnyH_done (by kernel_rfl) ?_ _
          go_wp2_with fail
          go_meet
          case rel => exact ⟨_, _, _, _, rfl, rfl, HN.out, HO2.out, HC.out, HX.out, HS.out, HO1.out, HD.out⟩
      · skip
        go_simp
        have hb := Bnew (B0 v1) (.cells #[.slice none 0 0, .int .i64 0, .int .i64 0, .int .i64 0, .int .i64 0, .int .i64 0, .int .i64 0, .int .i64 0, .int .i64 0] 51)
        have HN := hidp (Held.new v1 51 #[.slice none 0 0, .int .i64 0, .int .i64 0, .int .i64 0, .int .i64 0, .int .i64 0, .int .i64 0, .int .i64 0, .int .i64 0])
        have HLE := hidp HD.out.bel.size
        have HLT : Hid (W.heap.size < v1.heap.size ∧ (W.heap.size + 1) < v1.heap.size ∧ NW < v1.heap.size) := hidp ⟨HC.out.lt, HX.out.lt, HS.out.lt⟩
        have HNA : Hid (¬ A4 v1.heap.size) := hidp (fun x => by have := Ob.lt (vOb z1 b1 n true (wholeK16 vals)) HD.out.i1 _ x; omega)
        replace HC := hidp (HC.out.keep hb)
        replace HX := hidp (HX.out.keep hb)
        replace HS := hidp (HS.out.keep hb)
        replace HO1 := hidp (own_below HO1.out hb)
        replace HD := hidp (HD.out.keep hb)
        replace HRF := hidp (HRF.out.keep hb)
        clear hb
        generalize hn13 : v1.heap.size = N13 at *
        generalize hw13 : v1.alloc (.cells #[.slice none 0 0, .int .i64 0, .int .i64 0, .int .i64 0, .int .i64 0, .int .i64 0, .int .i64 0, .int .i64 0, .int .i64 0] 51) = v4 at *
        clear hn13 hw13
        refine hK.out _ _ ?_ (fun hHeld => ?_)
        · (try dsimp only)
          first | exact HC.out.three | exact hHeld
        clear hK K
        (try simp only [Act.put, gA, gB, gC, sA, sB, sC])
        refine wpAnyH_ready (rs := [3]) (by kernel_rfl) (by simp) ?_
        refine AllReadyH.cons (o := _) rfl (fun K hK => ?_) AllReadyH.nil
        · skip
          go_simp
          refine (HN2.out _ _ _ HRF.out).mono ?_
          rintro e v5 ⟨u2, rfl, hown, hb⟩
          rw [HNL.out] at hown
          obtain ⟨A2, k2, hu2⟩ := own_slice hown
          subst hu2
          have HO2 : Hid (v5.ownsRow 0 104 2 (.slice A2 nl k2) nl (bkVs L)) := hidp (own_lower hown (Nat.zero_le _))
          clear HRF hown
          replace HC := hidp (HC.out.keep hb)
          replace HX := hidp (HX.out.keep hb)
          replace HS := hidp (HS.out.keep hb)
          replace HN := hidp (HN.out.keep hb)
          replace HO1 := hidp (own_below HO1.out hb)
          replace HD := hidp (HD.out.keep hb)
          clear hb
          refine hK.out _ _ ?_ (fun hHeld => ?_)
          · (try dsimp only)
            first | exact HC.out.three | exact hHeld
          clear hK K
          (try simp only [Act.put, gA, gB, gC, sA, sB, sC])
          refine tkz 4 ?_
          refine tkz 5 ?_
          refine tkz 6 ?_
          refine wpAnyH_ready (rs := [8]) (by kernel_rfl) (by simp) ?_
          refine AllReadyH.cons (o := _) rfl (fun K hK => ?_) AllReadyH.nil
          obtain ⟨z0, z1', z2, z3, z4, z5', z6, z7, z8⟩ := HN.out.nine
          obtain ⟨f0, f1, f2, f3, f4, f5, f6, f7, f8⟩ := HN.out.thawed9
          go_simp
          obtain ⟨WF, hWF⟩ : ∃ WF, wr9 (v5) N13 (.slice A2 nl k2) r0 r1 r2 r3 r4 r5 r6 r7 = WF := ⟨_, rfl⟩
          replace HO1 := hidp (own9 hWF (heldOwn_ne HN.out HO1.out (by decide)) HO1.out)
          replace HO2 := hidp (own9 hWF (heldOwn_ne HN.out HO2.out (by decide)) HO2.out)
          replace HC := hidp (far9 hWF (by have := HLT.out; omega) HC.out)
          replace HX := hidp (far9 hWF (by have := HLT.out; omega) HX.out)
          replace HS := hidp (far9 hWF (by have := HLT.out; omega) HS.out)
          replace HD := hidp (duo9 hWF HNA.out (fun x => x) HLE.out HD.out)
          replace HN := hidp (held9 hWF HN.out)
          unfold wr9 set9 at hWF
          rw [hWF]
          clear hWF z0 z1' z2 z3 z4 z5' z6 z7 z8 f0 f1 f2 f3 f4 f5 f6 f7 f8
          refine hK.out _ _ ?_ (fun hHeld => ?_)
          · (try dsimp only)
            first | exact HC.out.three | exact hHeld
          clear hK K
          (try simp only [Act.put, gA, gB, gC, sA, sB, sC])
          refine tkz 9 ?_
          refine wpAnyH_done (by kernel_rfl) ?_ _
          go_wp2_with fail
          go_meet
          case rel => exact ⟨_, _, _, _, rfl, rfl, HN.out, HO2.out, HC.out, HX.out, HS.out, HO1.out, HD.out⟩
    · skip
      go_simp
      have hb := Bnew (B0 q0) (.cells #[.slice none 0 0, .int .i64 0, .int .i64 0, .int .i64 0, .int .i64 0, .int .i64 0, .int .i64 0, .int .i64 0, .int .i64 0] 51)
      have HN := hidp (Held.new q0 51 #[.slice none 0 0, .int .i64 0, .int .i64 0, .int .i64 0, .int .i64 0, .int .i64 0, .int .i64 0, .int .i64 0, .int .i64 0])
      have HLE := hidp HD.out.bel.size
      have HLT : Hid (W.heap.size < q0.heap.size ∧ (W.heap.size + 1) < q0.heap.size ∧ NW < q0.heap.size) := hidp ⟨HC.out.lt, HX.out.lt, HS.out.lt⟩
      have HNA : Hid (¬ A4 q0.heap.size) := hidp (fun x => by have := Ob.lt (vOb z1 b1 n true (wholeK16 vals)) HD.out.i1 _ x; omega)
      replace HC := hidp (HC.out.keep hb)
      replace HX := hidp (HX.out.keep hb)
      replace HS := hidp (HS.out.keep hb)
      replace HO1 := hidp (own_below HO1.out hb)
      replace HD := hidp (HD.out.keep hb)
      clear hb
      generalize hn13 : q0.heap.size = N13 at *
      generalize hw13 : q0.alloc (.cells #[.slice none 0 0, .int .i64 0, .int .i64 0, .int .i64 0, .int .i64 0, .int .i64 0, .int .i64 0, .int .i64 0, .int .i64 0] 51) = v6 at *
      clear hn13 hw13
      refine hK.out _ _ ?_ (fun hHeld => ?_)
      · (try dsimp only)
        first | exact HC.out.three | exact hHeld
      clear hK K
      (try simp only [Act.put, gA, gB, gC, sA, sB, sC])
      refine wpAnyH_ready (rs := [2]) (by kernel_rfl) (by simp) ?_
      refine AllReadyH.cons (o := _) rfl (fun K hK => ?_) AllReadyH.nil
      · skip
        go_simp
        obtain ⟨o9, hI9, _⟩ := HD.out.i1
        refine (vVals_some hn0 (by have := hI9.ok.few; omega) _ hI9).mono ?_
        rintro e v7 ⟨g, cp, rfl, _, hrow, hb⟩
        have HRF := hidp hrow
        clear hI9 hrow
        replace HC := hidp (HC.out.keep hb)
        replace HX := hidp (HX.out.keep hb)
        replace HS := hidp (HS.out.keep hb)
        replace HN := hidp (HN.out.keep hb)
        replace HO1 := hidp (own_below HO1.out hb)
        replace HD := hidp (HD.out.keep hb)
        clear hb
        refine hK.out _ _ ?_ (fun hHeld => ?_)
        · (try dsimp only)
          first | exact HC.out.three | exact hHeld
        clear hK K
        (try simp only [Act.put, gA, gB, gC, sA, sB, sC])
        refine wpAnyH_ready (rs := [3]) (by kernel_rfl) (by simp) ?_
        refine AllReadyH.cons (o := _) rfl (fun K hK => ?_) AllReadyH.nil
        · skip
          go_simp
          refine (HN2.out _ _ _ HRF.out).mono ?_
          rintro e v8 ⟨u2, rfl, hown, hb⟩
          rw [HNL.out] at hown
          obtain ⟨A2, k2, hu2⟩ := own_slice hown
          subst hu2
          have HO2 : Hid (v8.ownsRow 0 104 2 (.slice A2 nl k2) nl (bkVs L)) := hidp (own_lower hown (Nat.zero_le _))
          clear HRF hown
          replace HC := hidp (HC.out.keep hb)
          replace HX := hidp (HX.out.keep hb)
          replace HS := hidp (HS.out.keep hb)
          replace HN := hidp (HN.out.keep hb)
          replace HO1 := hidp (own_below HO1.out hb)
          replace HD := hidp (HD.out.keep hb)
          clear hb
          refine hK.out _ _ ?_ (fun hHeld => ?_)
          · (try dsimp only)
            first | exact HC.out.three | exact hHeld
          clear hK K
          (try simp only [Act.put, gA, gB, gC, sA, sB, sC])
          refine tkz 4 ?_
          refine tkz 5 ?_
          refine tkz 6 ?_
          refine wpAnyH_ready (rs := [8]) (by kernel_rfl) (by simp) ?_
          refine AllReadyH.cons (o := _) rfl (fun K hK => ?_) AllReadyH.nil
          obtain ⟨z0, z1', z2, z3, z4, z5', z6, z7, z8⟩ := HN.out.nine
          obtain ⟨f0, f1, f2, f3, f4, f5, f6, f7, f8⟩ := HN.out.thawed9
          go_simp
          obtain ⟨WF, hWF⟩ : ∃ WF, wr9 (v8) N13 (.slice A2 nl k2) r0 r1 r2 r3 r4 r5 r6 r7 = WF := ⟨_, rfl⟩
          replace HO1 := hidp (own9 hWF (heldOwn_ne HN.out HO1.out (by decide)) HO1.out)
          replace HO2 := hidp (own9 hWF (heldOwn_ne HN.out HO2.out (by decide)) HO2.out)
          replace HC := hidp (far9 hWF (by have := HLT.out; omega) HC.out)
          replace HX := hidp (far9 hWF (by have := HLT.out; omega) HX.out)
          replace HS := hidp (far9 hWF (by have := HLT.out; omega) HS.out)
          replace HD := hidp (duo9 hWF HNA.out (fun x => x) HLE.out HD.out)
          replace HN := hidp (held9 hWF HN.out)
          unfold wr9 set9 at hWF
          rw [hWF]
          clear hWF z0 z1' z2 z3 z4 z5' z6 z7 z8 f0 f1 f2 f3 f4 f5 f6 f7 f8
          refine hK.out _ _ ?_ (fun hHeld => ?_)
          · (try dsimp only)
            first | exact HC.out.three | exact hHeld
          clear hK K
          (try simp only [Act.put, gA, gB, gC, sA, sB, sC])
          refine tkz 9 ?_
          refine wpAnyH_done (by kernel_rfl) ?_ _
          go_wp2_with fail
          go_meet
          case rel => exact ⟨_, _, _, _, rfl, rfl, HN.out, HO2.out, HC.out, HX.out, HS.out, HO1.out, HD.out⟩
  case rest =>
    obtain ⟨N13, k2, A2, A4, rfl, rfl, hN, hO2, hHC, hHX, hHS, hHO1, hD⟩ := hcut
    have HNS := hidp hN
    have HO2 := hidp hO2
    replace HC := hidp hHC
    replace HX := hidp hHX
    replace HS := hidp hHS
    replace HO1 := hidp hHO1
    replace HD := hidp hD
    clear hN hO2 hHC hHX hHS hHO1 hD
    clear x0' x1' x2' y0' y1'
    obtain ⟨x0', x1', x2'⟩ := HC.out.three
    obtain ⟨y0', y1'⟩ := HX.out.two
    go_wp2_with fail
    replace HC := hidp HC.out.drw
    replace HX := hidp HX.out.drw
    replace HS := hidp HS.out.drw
    replace HNS := hidp HNS.out.drw
    replace HO1 := hidp (own_below HO1.out (Bdrew (B0 _)))
    replace HO2 := hidp (own_below HO2.out (Bdrew (B0 _)))
    replace HD := hidp (HD.out.keep (Bdrew (B0 _)))
    refine wp_region_held_drew (S := (fun w' => (w'.cell? ⟨N13, 0, none⟩ = some (.slice A2 nl k2) ∧ w'.cell? ⟨N13, 1, none⟩ = some (.int .i64 (r0 : Int)) ∧ w'.cell? ⟨N13, 2, none⟩ = some (.int .i64 (r1 : Int)) ∧ w'.cell? ⟨N13, 3, none⟩ = some (.int .i64 (r2 : Int)) ∧ w'.cell? ⟨N13, 4, none⟩ = some (.int .i64 (r3 : Int)) ∧ w'.cell? ⟨N13, 5, none⟩ = some (.int .i64 (r4 : Int)) ∧ w'.cell? ⟨N13, 6, none⟩ = some (.int .i64 (r5 : Int)) ∧ w'.cell? ⟨N13, 7, none⟩ = some (.int .i64 (r6 : Int)) ∧ w'.cell? ⟨N13, 8, none⟩ = some (.int .i64 (r7 : Int))) ∧ (w'.cell? ⟨NW, 0, none⟩ = some (.slice A1 nl k1) ∧ w'.cell? ⟨NW, 1, none⟩ = some (.int .i64 (r0 : Int)) ∧ w'.cell? ⟨NW, 2, none⟩ = some (.int .i64 (r1 : Int)) ∧ w'.cell? ⟨NW, 3, none⟩ = some (.int .i64 (r2 : Int)) ∧ w'.cell? ⟨NW, 4, none⟩ = some (.int .i64 (r3 : Int)) ∧ w'.cell? ⟨NW, 5, none⟩ = some (.int .i64 (r4 : Int)) ∧ w'.cell? ⟨NW, 6, none⟩ = some (.int .i64 (r5 : Int)) ∧ w'.cell? ⟨NW, 7, none⟩ = some (.int .i64 (r6 : Int)) ∧ w'.cell? ⟨NW, 8, none⟩ = some (.int .i64 (r7 : Int))) ∧ (w'.cell? ⟨W.heap.size, 0, none⟩ = some (.int .i64 (H.t : Int)) ∧ w'.cell? ⟨W.heap.size, 1, none⟩ = some (.int .i64 (H.p : Int)) ∧ w'.cell? ⟨W.heap.size, 2, none⟩ = some (.int .i64 (H.s : Int))) ∧ w'.cell? ⟨W.heap.size + 1, 0, none⟩ = some (.int .i64 (p : Int)) ∧ w'.cell? ⟨W.heap.size + 1, 1, none⟩ = some (.int .i64 (i : Int)))) (by kernel_rfl) ?_ (fun hHeld => ?_)
    · (try dsimp only)
      first | exact ⟨HNS.out.nine, HS.out.nine, HC.out.three, HX.out.two⟩ | exact hHeld
    refine tkz 0 ?_
    refine tkz 1 ?_
    refine tkz 2 ?_
    refine tkz 3 ?_
    refine tkz 4 ?_
    refine wpAnyH_ready (rs := [5]) (by kernel_rfl) (by simp) ?_
    refine AllReadyH.cons (o := _) rfl (fun K hK => ?_) AllReadyH.nil
    go_simp
    refine (xSame_c L L A1 A2 nl nl k1 k2 0 0 r0 r1 r2 r3 r4 r5 r6 r7 r0 r1 r2 r3 r4 r5 r6 r7 _ HNL.out HNL.out hnlb2 hnlb2 HO1.out HO2.out true ⟨fun _ => ⟨rfl, rfl⟩, fun _ => rfl⟩).mono ?_
    rintro e w21 ⟨rfl, hb⟩
    replace HC := hidp (HC.out.keep hb)
    replace HX := hidp (HX.out.keep hb)
    replace HS := hidp (HS.out.keep hb)
    replace HNS := hidp (HNS.out.keep hb)
    replace HD := hidp (HD.out.keep hb)
    clear hb HO1 HO2
    refine hK.out _ _ ?_ (fun hHeld => ?_)
    · (try dsimp only)
      first | exact ⟨HNS.out.nine, HS.out.nine, HC.out.three, HX.out.two⟩ | exact hHeld
    clear hK K
    (try simp only [Act.put, gA, gB, gC, sA, sB, sC])
    refine tkz 6 ?_
    refine tkz 7 ?_
    refine tkz 8 ?_
    refine tkz 9 ?_
    refine tkz 10 ?_
    refine tkz 13 ?_
    refine tkz 14 ?_
    refine wpAnyH_ready (rs := [11]) (by kernel_rfl) (by simp) ?_
    refine AllReadyH.cons (o := _) rfl (fun K hK => ?_) AllReadyH.nil
    go_simp
    obtain ⟨o9, hI9, _⟩ := HD.out.i1
    refine (vVals_some hn0 (by have := hI9.ok.few; omega) _ hI9).mono ?_
    rintro e w22 ⟨g, cp, rfl, _, hrow, hb⟩
    have HRF := hidp hrow
    clear hI9 hrow
    replace HC := hidp (HC.out.keep hb)
    replace HX := hidp (HX.out.keep hb)
    replace HS := hidp (HS.out.keep hb)
    replace HNS := hidp (HNS.out.keep hb)
    replace HD := hidp (HD.out.keep hb)
    clear hb
    refine hK.out _ _ ?_ (fun hHeld => ?_)
    · (try dsimp only)
      first | exact ⟨HNS.out.nine, HS.out.nine, HC.out.three, HX.out.two⟩ | exact hHeld
    clear hK K
    (try simp only [Act.put, gA, gB, gC, sA, sB, sC])
    refine wpAnyH_ready (rs := [12]) (by kernel_rfl) (by simp) ?_
    refine AllReadyH.cons (o := _) rfl (fun K hK => ?_) AllReadyH.nil
    go_simp
    refine (HCN.out _ _ _ HRF.out).mono ?_
    rintro e w23 ⟨rfl, hb⟩
    replace HC := hidp (HC.out.keep hb)
    replace HX := hidp (HX.out.keep hb)
    replace HS := hidp (HS.out.keep hb)
    replace HNS := hidp (HNS.out.keep hb)
    replace HD := hidp (HD.out.keep hb)
    clear hb HRF
    refine hK.out _ _ ?_ (fun hHeld => ?_)
    · (try dsimp only)
      first | exact ⟨HNS.out.nine, HS.out.nine, HC.out.three, HX.out.two⟩ | exact hHeld
    clear hK K
    (try simp only [Act.put, gA, gB, gC, sA, sB, sC])
    refine wpAnyH_ready (rs := [15]) (by kernel_rfl) (by simp) ?_
    refine AllReadyH.cons (o := _) rfl (fun K hK => ?_) AllReadyH.nil
    go_simp
    refine (count16_c HV ad m _ (hv.out.below HD.out.bel) (hX.out.grown HD.out.bel)).mono ?_
    rintro e w24 ⟨rfl, hb⟩
    rw [HKZ.out]
    replace HC := hidp (HC.out.keep hb)
    replace HX := hidp (HX.out.keep hb)
    replace HS := hidp (HS.out.keep hb)
    replace HNS := hidp (HNS.out.keep hb)
    replace HD := hidp (HD.out.keep hb)
    clear hb
    refine hK.out _ _ ?_ (fun hHeld => ?_)
    · (try dsimp only)
      first | exact ⟨HNS.out.nine, HS.out.nine, HC.out.three, HX.out.two⟩ | exact hHeld
    clear hK K
    (try simp only [Act.put, gA, gB, gC, sA, sB, sC])
    refine tkz 16 ?_
    refine tkz 17 ?_
    refine tkz 18 ?_
    refine tkz 19 ?_
    refine tkz 20 ?_
    refine tkz 21 ?_
    refine tkz 23 ?_
    refine tkz 24 ?_
    refine tkz 25 ?_
    refine tkz 26 ?_
    refine wpAnyH_ready (rs := [22]) (by kernel_rfl) (by simp) ?_
    refine AllReadyH.cons (o := _) rfl (fun K hK => ?_) AllReadyH.nil
    go_simp
    obtain ⟨o9, hI9, _⟩ := HD.out.i1
    refine (vVals_some hn0 (by have := hI9.ok.few; omega) _ hI9).mono ?_
    rintro e w25 ⟨g, cp, rfl, _, hrow, hb⟩
    have HRF := hidp hrow
    clear hI9 hrow
    replace HC := hidp (HC.out.keep hb)
    replace HX := hidp (HX.out.keep hb)
    replace HS := hidp (HS.out.keep hb)
    replace HNS := hidp (HNS.out.keep hb)
    replace HD := hidp (HD.out.keep hb)
    clear hb
    refine hK.out _ _ ?_ (fun hHeld => ?_)
    · (try dsimp only)
      first | exact ⟨HNS.out.nine, HS.out.nine, HC.out.three, HX.out.two⟩ | exact hHeld
    clear hK K
    (try simp only [Act.put, gA, gB, gC, sA, sB, sC])
    refine wpAnyH_ready (rs := [27]) (by kernel_rfl) (by simp) ?_
    refine AllReadyH.cons (o := _) rfl (fun K hK => ?_) AllReadyH.nil
    go_simp
    refine (HID.out _ _ _ HRF.out).mono ?_
    rintro e w26 ⟨rfl, hb⟩
    replace HC := hidp (HC.out.keep hb)
    replace HX := hidp (HX.out.keep hb)
    replace HS := hidp (HS.out.keep hb)
    replace HNS := hidp (HNS.out.keep hb)
    replace HD := hidp (HD.out.keep hb)
    clear hb HRF
    refine hK.out _ _ ?_ (fun hHeld => ?_)
    · (try dsimp only)
      first | exact ⟨HNS.out.nine, HS.out.nine, HC.out.three, HX.out.two⟩ | exact hHeld
    clear hK K
    (try simp only [Act.put, gA, gB, gC, sA, sB, sC])
    refine tkz 28 ?_
    refine wpAnyH_done (by kernel_rfl) ?_ _
    clear x0' x1' x2' y0' y1'
    obtain ⟨x0', x1', x2'⟩ := HC.out.three
    obtain ⟨y0', y1'⟩ := HX.out.two
    clear HS HNS
    go_wp2_with fail
    go_cut [12, 13] from 85 to 91 (fun u12 u13 wx => ∃ (NY NX gy cpy : Nat) (cy : Array Value) (A4 : Nat → Prop), u12 = .pointer (some ⟨NY, 0, none⟩) ∧ u13 = .pointer (some ⟨NX, 0, none⟩) ∧ RowS n cpy (valF (nowV (wholeK16 vals) s2.wr)) cy ∧ ZB W H n z1 b1 (wholeK16 vals) #[.int .i64 (H.t : Int), .int .i64 (H.p : Int), .int .i64 (H.s : Int)] #[.int .i64 (p : Int), .int .i64 (i : Int)] A4 s2 true true true NY NX gy cy #[.int .i64 (H.t : Int), .int .i64 (H.p : Int), .int .i64 (H.s : Int), .slice (some ad) n c] #[.int .i64 (H.t : Int), .int .i64 (H.p : Int), .int .i64 (H.s : Int), .slice (some ⟨gy, 0, none⟩) n cpy] wx)
    case first =>
      have HZ : Hid (ZB W H n z1 b1 (wholeK16 vals) #[.int .i64 (H.t : Int), .int .i64 (H.p : Int), .int .i64 (H.s : Int)] #[.int .i64 (p : Int), .int .i64 (i : Int)] A4 s2 false false false 0 0 0 #[] #[] #[] (World.drew w26)) := hidp ⟨HC.out.drw, HX.out.drw, HD.out.keep (Bdrew (B0 _)), nofun, nofun, nofun, nofun, nofun, nofun⟩
      clear HC HX HD
      refine wp_region_held_drew (S := (fun w' => w'.cell? ⟨W.heap.size, 0, none⟩ = some (.int .i64 (H.t : Int)) ∧ w'.cell? ⟨W.heap.size, 1, none⟩ = some (.int .i64 (H.p : Int)) ∧ w'.cell? ⟨W.heap.size, 2, none⟩ = some (.int .i64 (H.s : Int)))) (by kernel_rfl) ?_ (fun hHeld => ?_)
      · (try dsimp only)
        first | exact HZ.out.hc.three | exact hHeld
      generalize hq0 : World.drew w26 = q0 at HZ hHeld ⊢
      clear hq0
      refine tkz 0 ?_
      refine tkz 1 ?_
      refine tkz 2 ?_
      refine tkz 3 ?_
      refine tkz 4 ?_
      refine wpAnyH_ready (rs := [5, 7, 8]) (by kernel_rfl) (by simp) ?_
      refine AllReadyH.cons (o := _) rfl (fun K hK => ?_) (AllReadyH.cons (o := _) rfl (fun K hK => ?_) (AllReadyH.cons (o := _) rfl (fun K hK => ?_) AllReadyH.nil))
      · skip
        go_simp
        obtain ⟨o9, hI9, _⟩ := HZ.out.hd.i1
        refine (vVals_some hn0 (by have := hI9.ok.few; omega) _ hI9).mono ?_
        rintro e v1 ⟨gy, cpy, rfl, hgy, hrow, hb⟩
        obtain ⟨cy, hy, hys⟩ := hrow.held
        have HYS := hidp hys
        have hcy := hrow.le
        have hcy2 : cpy ≤ 9223372036854775807 := hrow.max
        replace HZ := hidp (HZ.out.row hb hgy hy)
        clear hI9 hrow hy hys hb hgy
        refine hK.out _ _ ?_ (fun hHeld => ?_)
        · (try dsimp only)
          first | exact HZ.out.hc.three | exact hHeld
        clear hK K
        (try simp only [Act.put, gA, gB, gC, sA, sB, sC])
        refine tkz 6 ?_
        refine wpAnyH_ready (rs := [7, 8]) (by kernel_rfl) (by simp) ?_
        refine AllReadyH.cons (o := _) rfl (fun K hK => ?_) (AllReadyH.cons (o := _) rfl (fun K hK => ?_) AllReadyH.nil)
        · skip
          go_simp
          replace HZ := hidp (HZ.out.y #[.int .i64 0, .int .i64 0, .int .i64 0, .slice none 0 0])
          generalize v1.heap.size = NY at *
          generalize v1.alloc (.cells #[.int .i64 0, .int .i64 0, .int .i64 0, .slice none 0 0] 58) = v2 at *
          refine hK.out _ _ ?_ (fun hHeld => ?_)
          · (try dsimp only)
            first | exact HZ.out.hc.three | exact hHeld
          clear hK K
          (try simp only [Act.put, gA, gB, gC, sA, sB, sC])
          refine wpAnyH_ready (rs := [8]) (by kernel_rfl) (by simp) ?_
          refine AllReadyH.cons (o := _) rfl (fun K hK => ?_) AllReadyH.nil
          go_simp
          replace HZ := hidp (HZ.out.x #[.int .i64 0, .int .i64 0, .int .i64 0, .slice none 0 0])
          generalize v2.heap.size = NX at *
          generalize v2.alloc (.cells #[.int .i64 0, .int .i64 0, .int .i64 0, .slice none 0 0] 58) = v3 at *
          refine hK.out _ _ ?_ (fun hHeld => ?_)
          · (try dsimp only)
            first | exact HZ.out.hc.three | exact hHeld
          clear hK K
          (try simp only [Act.put, gA, gB, gC, sA, sB, sC])
          refine wpAnyH_ready (rs := [9]) (by kernel_rfl) (by simp) ?_
          refine AllReadyH.cons (o := _) rfl (fun K hK => ?_) AllReadyH.nil
          have HH := (HZ.out.hn rfl).1
          obtain ⟨z0', z1', z2, z3⟩ := HH.four
          have f0 := HH.thawed 0
          have f1 := HH.thawed 1
          have f2 := HH.thawed 2
          have f3 := HH.thawed 3
          go_simp
          obtain ⟨WF, hWF⟩ : ∃ WF, set4 v3 NY (.int .i64 (H.t : Int)) (.int .i64 (H.p : Int)) (.int .i64 (H.s : Int)) (.slice (some ad) n c) = WF := ⟨_, rfl⟩
          replace HZ := hidp (HZ.out.put9 hWF)
          unfold set4 at hWF
          rw [hWF]
          clear hWF HH z0' z1' z2 z3 f0 f1 f2 f3
          refine hK.out _ _ ?_ (fun hHeld => ?_)
          · (try dsimp only)
            first | exact HZ.out.hc.three | exact hHeld
          clear hK K
          (try simp only [Act.put, gA, gB, gC, sA, sB, sC])
          generalize WF = wq at *
          refine wpAnyH_ready (rs := [10]) (by kernel_rfl) (by simp) ?_
          refine AllReadyH.cons (o := _) rfl (fun K hK => ?_) AllReadyH.nil
          have HH := (HZ.out.hm rfl).1
          obtain ⟨z0', z1', z2, z3⟩ := HH.four
          have f0 := HH.thawed 0
          have f1 := HH.thawed 1
          have f2 := HH.thawed 2
          have f3 := HH.thawed 3
          go_simp
          obtain ⟨WF, hWF⟩ : ∃ WF, set4 wq NX (.int .i64 (H.t : Int)) (.int .i64 (H.p : Int)) (.int .i64 (H.s : Int)) (.slice (some ⟨gy, 0, none⟩) n cpy) = WF := ⟨_, rfl⟩
          replace HZ := hidp (HZ.out.put10 hWF)
          unfold set4 at hWF
          rw [hWF]
          clear hWF HH z0' z1' z2 z3 f0 f1 f2 f3
          refine hK.out _ _ ?_ (fun hHeld => ?_)
          · (try dsimp only)
            first | exact HZ.out.hc.three | exact hHeld
          clear hK K
          (try simp only [Act.put, gA, gB, gC, sA, sB, sC])
          refine wpAnyH_done (by kernel_rfl) ?_ _
          go_wp2_with fail
          go_meet
          case rel => exact ⟨_, _, _, _, _, _, rfl, rfl, HYS.out, HZ.out⟩
        · skip
          go_simp
          replace HZ := hidp (HZ.out.x #[.int .i64 0, .int .i64 0, .int .i64 0, .slice none 0 0])
          generalize v1.heap.size = NX at *
          generalize v1.alloc (.cells #[.int .i64 0, .int .i64 0, .int .i64 0, .slice none 0 0] 58) = v4 at *
          refine hK.out _ _ ?_ (fun hHeld => ?_)
          · (try dsimp only)
            first | exact HZ.out.hc.three | exact hHeld
          clear hK K
          (try simp only [Act.put, gA, gB, gC, sA, sB, sC])
          refine wpAnyH_ready (rs := [7]) (by kernel_rfl) (by simp) ?_
          refine AllReadyH.cons (o := _) rfl (fun K hK => ?_) AllReadyH.nil
          go_simp
          replace HZ := hidp (HZ.out.y #[.int .i64 0, .int .i64 0, .int .i64 0, .slice none 0 0])
          generalize v4.heap.size = NY at *
          generalize v4.alloc (.cells #[.int .i64 0, .int .i64 0, .int .i64 0, .slice none 0 0] 58) = v5 at *
          refine hK.out _ _ ?_ (fun hHeld => ?_)
          · (try dsimp only)
            first | exact HZ.out.hc.three | exact hHeld
          clear hK K
          (try simp only [Act.put, gA, gB, gC, sA, sB, sC])
          refine wpAnyH_ready (rs := [9]) (by kernel_rfl) (by simp) ?_
          refine AllReadyH.cons (o := _) rfl (fun K hK => ?_) AllReadyH.nil
          have HH := (HZ.out.hn rfl).1
          obtain ⟨z0', z1', z2, z3⟩ := HH.four
          have f0 := HH.thawed 0
          have f1 := HH.thawed 1
          have f2 := HH.thawed 2
          have f3 := HH.thawed 3
          go_simp
          obtain ⟨WF, hWF⟩ : ∃ WF, set4 v5 NY (.int .i64 (H.t : Int)) (.int .i64 (H.p : Int)) (.int .i64 (H.s : Int)) (.slice (some ad) n c) = WF := ⟨_, rfl⟩
          replace HZ := hidp (HZ.out.put9 hWF)
          unfold set4 at hWF
          rw [hWF]
          clear hWF HH z0' z1' z2 z3 f0 f1 f2 f3
          refine hK.out _ _ ?_ (fun hHeld => ?_)
          · (try dsimp only)
            first | exact HZ.out.hc.three | exact hHeld
          clear hK K
          (try simp only [Act.put, gA, gB, gC, sA, sB, sC])
          generalize WF = wq at *
          refine wpAnyH_ready (rs := [10]) (by kernel_rfl) (by simp) ?_
          refine AllReadyH.cons (o := _) rfl (fun K hK => ?_) AllReadyH.nil
          have HH := (HZ.out.hm rfl).1
          obtain ⟨z0', z1', z2, z3⟩ := HH.four
          have f0 := HH.thawed 0
          have f1 := HH.thawed 1
          have f2 := HH.thawed 2
          have f3 := HH.thawed 3
          go_simp
          obtain ⟨WF, hWF⟩ : ∃ WF, set4 wq NX (.int .i64 (H.t : Int)) (.int .i64 (H.p : Int)) (.int .i64 (H.s : Int)) (.slice (some ⟨gy, 0, none⟩) n cpy) = WF := ⟨_, rfl⟩
          replace HZ := hidp (HZ.out.put10 hWF)
          unfold set4 at hWF
          rw [hWF]
          clear hWF HH z0' z1' z2 z3 f0 f1 f2 f3
          refine hK.out _ _ ?_ (fun hHeld => ?_)
          · (try dsimp only)
            first | exact HZ.out.hc.three | exact hHeld
          clear hK K
          (try simp only [Act.put, gA, gB, gC, sA, sB, sC])
          refine wpAnyH_done (by kernel_rfl) ?_ _
          go_wp2_with fail
          go_meet
          case rel => exact ⟨_, _, _, _, _, _, rfl, rfl, HYS.out, HZ.out⟩
      · skip
        go_simp
        replace HZ := hidp (HZ.out.y #[.int .i64 0, .int .i64 0, .int .i64 0, .slice none 0 0])
        generalize q0.heap.size = NY at *
        generalize q0.alloc (.cells #[.int .i64 0, .int .i64 0, .int .i64 0, .slice none 0 0] 58) = v6 at *
        refine hK.out _ _ ?_ (fun hHeld => ?_)
        · (try dsimp only)
          first | exact HZ.out.hc.three | exact hHeld
        clear hK K
        (try simp only [Act.put, gA, gB, gC, sA, sB, sC])
        refine wpAnyH_ready (rs := [5, 8]) (by kernel_rfl) (by simp) ?_
        refine AllReadyH.cons (o := _) rfl (fun K hK => ?_) (AllReadyH.cons (o := _) rfl (fun K hK => ?_) AllReadyH.nil)
        · skip
          go_simp
          obtain ⟨o9, hI9, _⟩ := HZ.out.hd.i1
          refine (vVals_some hn0 (by have := hI9.ok.few; omega) _ hI9).mono ?_
          rintro e v7 ⟨gy, cpy, rfl, hgy, hrow, hb⟩
          obtain ⟨cy, hy, hys⟩ := hrow.held
          have HYS := hidp hys
          have hcy := hrow.le
          have hcy2 : cpy ≤ 9223372036854775807 := hrow.max
          replace HZ := hidp (HZ.out.row hb hgy hy)
          clear hI9 hrow hy hys hb hgy
          refine hK.out _ _ ?_ (fun hHeld => ?_)
          · (try dsimp only)
            first | exact HZ.out.hc.three | exact hHeld
          clear hK K
          (try simp only [Act.put, gA, gB, gC, sA, sB, sC])
          refine tkz 6 ?_
          refine wpAnyH_ready (rs := [8]) (by kernel_rfl) (by simp) ?_
          refine AllReadyH.cons (o := _) rfl (fun K hK => ?_) AllReadyH.nil
          go_simp
          replace HZ := hidp (HZ.out.x #[.int .i64 0, .int .i64 0, .int .i64 0, .slice none 0 0])
          generalize v7.heap.size = NX at *
          generalize v7.alloc (.cells #[.int .i64 0, .int .i64 0, .int .i64 0, .slice none 0 0] 58) = v8 at *
          refine hK.out _ _ ?_ (fun hHeld => ?_)
          · (try dsimp only)
            first | exact HZ.out.hc.three | exact hHeld
          clear hK K
          (try simp only [Act.put, gA, gB, gC, sA, sB, sC])
          refine wpAnyH_ready (rs := [9]) (by kernel_rfl) (by simp) ?_
          refine AllReadyH.cons (o := _) rfl (fun K hK => ?_) AllReadyH.nil
          have HH := (HZ.out.hn rfl).1
          obtain ⟨z0', z1', z2, z3⟩ := HH.four
          have f0 := HH.thawed 0
          have f1 := HH.thawed 1
          have f2 := HH.thawed 2
          have f3 := HH.thawed 3
          go_simp
          obtain ⟨WF, hWF⟩ : ∃ WF, set4 v8 NY (.int .i64 (H.t : Int)) (.int .i64 (H.p : Int)) (.int .i64 (H.s : Int)) (.slice (some ad) n c) = WF := ⟨_, rfl⟩
          replace HZ := hidp (HZ.out.put9 hWF)
          unfold set4 at hWF
          rw [hWF]
          clear hWF HH z0' z1' z2 z3 f0 f1 f2 f3
          refine hK.out _ _ ?_ (fun hHeld => ?_)
          · (try dsimp only)
            first | exact HZ.out.hc.three | exact hHeld
          clear hK K
          (try simp only [Act.put, gA, gB, gC, sA, sB, sC])
          generalize WF = wq at *
          refine wpAnyH_ready (rs := [10]) (by kernel_rfl) (by simp) ?_
          refine AllReadyH.cons (o := _) rfl (fun K hK => ?_) AllReadyH.nil
          have HH := (HZ.out.hm rfl).1
          obtain ⟨z0', z1', z2, z3⟩ := HH.four
          have f0 := HH.thawed 0
          have f1 := HH.thawed 1
          have f2 := HH.thawed 2
          have f3 := HH.thawed 3
          go_simp
          obtain ⟨WF, hWF⟩ : ∃ WF, set4 wq NX (.int .i64 (H.t : Int)) (.int .i64 (H.p : Int)) (.int .i64 (H.s : Int)) (.slice (some ⟨gy, 0, none⟩) n cpy) = WF := ⟨_, rfl⟩
          replace HZ := hidp (HZ.out.put10 hWF)
          unfold set4 at hWF
          rw [hWF]
          clear hWF HH z0' z1' z2 z3 f0 f1 f2 f3
          refine hK.out _ _ ?_ (fun hHeld => ?_)
          · (try dsimp only)
            first | exact HZ.out.hc.three | exact hHeld
          clear hK K
          (try simp only [Act.put, gA, gB, gC, sA, sB, sC])
          refine wpAnyH_done (by kernel_rfl) ?_ _
          go_wp2_with fail
          go_meet
          case rel => exact ⟨_, _, _, _, _, _, rfl, rfl, HYS.out, HZ.out⟩
        · skip
          go_simp
          replace HZ := hidp (HZ.out.x #[.int .i64 0, .int .i64 0, .int .i64 0, .slice none 0 0])
          generalize v6.heap.size = NX at *
          generalize v6.alloc (.cells #[.int .i64 0, .int .i64 0, .int .i64 0, .slice none 0 0] 58) = v9 at *
          refine hK.out _ _ ?_ (fun hHeld => ?_)
          · (try dsimp only)
            first | exact HZ.out.hc.three | exact hHeld
          clear hK K
          (try simp only [Act.put, gA, gB, gC, sA, sB, sC])
          refine wpAnyH_ready (rs := [5]) (by kernel_rfl) (by simp) ?_
          refine AllReadyH.cons (o := _) rfl (fun K hK => ?_) AllReadyH.nil
          go_simp
          obtain ⟨o9, hI9, _⟩ := HZ.out.hd.i1
          refine (vVals_some hn0 (by have := hI9.ok.few; omega) _ hI9).mono ?_
          rintro e v10 ⟨gy, cpy, rfl, hgy, hrow, hb⟩
          obtain ⟨cy, hy, hys⟩ := hrow.held
          have HYS := hidp hys
          have hcy := hrow.le
          have hcy2 : cpy ≤ 9223372036854775807 := hrow.max
          replace HZ := hidp (HZ.out.row hb hgy hy)
          clear hI9 hrow hy hys hb hgy
          refine hK.out _ _ ?_ (fun hHeld => ?_)
          · (try dsimp only)
            first | exact HZ.out.hc.three | exact hHeld
          clear hK K
          (try simp only [Act.put, gA, gB, gC, sA, sB, sC])
          refine tkz 6 ?_
          refine wpAnyH_ready (rs := [9]) (by kernel_rfl) (by simp) ?_
          refine AllReadyH.cons (o := _) rfl (fun K hK => ?_) AllReadyH.nil
          have HH := (HZ.out.hn rfl).1
          obtain ⟨z0', z1', z2, z3⟩ := HH.four
          have f0 := HH.thawed 0
          have f1 := HH.thawed 1
          have f2 := HH.thawed 2
          have f3 := HH.thawed 3
          go_simp
          obtain ⟨WF, hWF⟩ : ∃ WF, set4 v10 NY (.int .i64 (H.t : Int)) (.int .i64 (H.p : Int)) (.int .i64 (H.s : Int)) (.slice (some ad) n c) = WF := ⟨_, rfl⟩
          replace HZ := hidp (HZ.out.put9 hWF)
          unfold set4 at hWF
          rw [hWF]
          clear hWF HH z0' z1' z2 z3 f0 f1 f2 f3
          refine hK.out _ _ ?_ (fun hHeld => ?_)
          · (try dsimp only)
            first | exact HZ.out.hc.three | exact hHeld
          clear hK K
          (try simp only [Act.put, gA, gB, gC, sA, sB, sC])
          generalize WF = wq at *
          refine wpAnyH_ready (rs := [10]) (by kernel_rfl) (by simp) ?_
          refine AllReadyH.cons (o := _) rfl (fun K hK => ?_) AllReadyH.nil
          have HH := (HZ.out.hm rfl).1
          obtain ⟨z0', z1', z2, z3⟩ := HH.four
          have f0 := HH.thawed 0
          have f1 := HH.thawed 1
          have f2 := HH.thawed 2
          have f3 := HH.thawed 3
          go_simp
          obtain ⟨WF, hWF⟩ : ∃ WF, set4 wq NX (.int .i64 (H.t : Int)) (.int .i64 (H.p : Int)) (.int .i64 (H.s : Int)) (.slice (some ⟨gy, 0, none⟩) n cpy) = WF := ⟨_, rfl⟩
          replace HZ := hidp (HZ.out.put10 hWF)
          unfold set4 at hWF
          rw [hWF]
          clear hWF HH z0' z1' z2 z3 f0 f1 f2 f3
          refine hK.out _ _ ?_ (fun hHeld => ?_)
          · (try dsimp only)
            first | exact HZ.out.hc.three | exact hHeld
          clear hK K
          (try simp only [Act.put, gA, gB, gC, sA, sB, sC])
          refine wpAnyH_done (by kernel_rfl) ?_ _
          go_wp2_with fail
          go_meet
          case rel => exact ⟨_, _, _, _, _, _, rfl, rfl, HYS.out, HZ.out⟩
      · skip
        go_simp
        replace HZ := hidp (HZ.out.x #[.int .i64 0, .int .i64 0, .int .i64 0, .slice none 0 0])
        generalize q0.heap.size = NX at *
        generalize q0.alloc (.cells #[.int .i64 0, .int .i64 0, .int .i64 0, .slice none 0 0] 58) = v11 at *
        refine hK.out _ _ ?_ (fun hHeld => ?_)
        · (try dsimp only)
          first | exact HZ.out.hc.three | exact hHeld
        clear hK K
        (try simp only [Act.put, gA, gB, gC, sA, sB, sC])
        refine wpAnyH_ready (rs := [5, 7]) (by kernel_rfl) (by simp) ?_
        refine AllReadyH.cons (o := _) rfl (fun K hK => ?_) (AllReadyH.cons (o := _) rfl (fun K hK => ?_) AllReadyH.nil)
        · skip
          go_simp
          obtain ⟨o9, hI9, _⟩ := HZ.out.hd.i1
          refine (vVals_some hn0 (by have := hI9.ok.few; omega) _ hI9).mono ?_
          rintro e v12 ⟨gy, cpy, rfl, hgy, hrow, hb⟩
          obtain ⟨cy, hy, hys⟩ := hrow.held
          have HYS := hidp hys
          have hcy := hrow.le
          have hcy2 : cpy ≤ 9223372036854775807 := hrow.max
          replace HZ := hidp (HZ.out.row hb hgy hy)
          clear hI9 hrow hy hys hb hgy
          refine hK.out _ _ ?_ (fun hHeld => ?_)
          · (try dsimp only)
            first | exact HZ.out.hc.three | exact hHeld
          clear hK K
          (try simp only [Act.put, gA, gB, gC, sA, sB, sC])
          refine tkz 6 ?_
          refine wpAnyH_ready (rs := [7]) (by kernel_rfl) (by simp) ?_
          refine AllReadyH.cons (o := _) rfl (fun K hK => ?_) AllReadyH.nil
          go_simp
          replace HZ := hidp (HZ.out.y #[.int .i64 0, .int .i64 0, .int .i64 0, .slice none 0 0])
          generalize v12.heap.size = NY at *
          generalize v12.alloc (.cells #[.int .i64 0, .int .i64 0, .int .i64 0, .slice none 0 0] 58) = v13 at *
          refine hK.out _ _ ?_ (fun hHeld => ?_)
          · (try dsimp only)
            first | exact HZ.out.hc.three | exact hHeld
          clear hK K
          (try simp only [Act.put, gA, gB, gC, sA, sB, sC])
          refine wpAnyH_ready (rs := [9]) (by kernel_rfl) (by simp) ?_
          refine AllReadyH.cons (o := _) rfl (fun K hK => ?_) AllReadyH.nil
          have HH := (HZ.out.hn rfl).1
          obtain ⟨z0', z1', z2, z3⟩ := HH.four
          have f0 := HH.thawed 0
          have f1 := HH.thawed 1
          have f2 := HH.thawed 2
          have f3 := HH.thawed 3
          go_simp
          obtain ⟨WF, hWF⟩ : ∃ WF, set4 v13 NY (.int .i64 (H.t : Int)) (.int .i64 (H.p : Int)) (.int .i64 (H.s : Int)) (.slice (some ad) n c) = WF := ⟨_, rfl⟩
          replace HZ := hidp (HZ.out.put9 hWF)
          unfold set4 at hWF
          rw [hWF]
          clear hWF HH z0' z1' z2 z3 f0 f1 f2 f3
          refine hK.out _ _ ?_ (fun hHeld => ?_)
          · (try dsimp only)
            first | exact HZ.out.hc.three | exact hHeld
          clear hK K
          (try simp only [Act.put, gA, gB, gC, sA, sB, sC])
          generalize WF = wq at *
          refine wpAnyH_ready (rs := [10]) (by kernel_rfl) (by simp) ?_
          refine AllReadyH.cons (o := _) rfl (fun K hK => ?_) AllReadyH.nil
          have HH := (HZ.out.hm rfl).1
          obtain ⟨z0', z1', z2, z3⟩ := HH.four
          have f0 := HH.thawed 0
          have f1 := HH.thawed 1
          have f2 := HH.thawed 2
          have f3 := HH.thawed 3
          go_simp
          obtain ⟨WF, hWF⟩ : ∃ WF, set4 wq NX (.int .i64 (H.t : Int)) (.int .i64 (H.p : Int)) (.int .i64 (H.s : Int)) (.slice (some ⟨gy, 0, none⟩) n cpy) = WF := ⟨_, rfl⟩
          replace HZ := hidp (HZ.out.put10 hWF)
          unfold set4 at hWF
          rw [hWF]
          clear hWF HH z0' z1' z2 z3 f0 f1 f2 f3
          refine hK.out _ _ ?_ (fun hHeld => ?_)
          · (try dsimp only)
            first | exact HZ.out.hc.three | exact hHeld
          clear hK K
          (try simp only [Act.put, gA, gB, gC, sA, sB, sC])
          refine wpAnyH_done (by kernel_rfl) ?_ _
          go_wp2_with fail
          go_meet
          case rel => exact ⟨_, _, _, _, _, _, rfl, rfl, HYS.out, HZ.out⟩
        · skip
          go_simp
          replace HZ := hidp (HZ.out.y #[.int .i64 0, .int .i64 0, .int .i64 0, .slice none 0 0])
          generalize v11.heap.size = NY at *
          generalize v11.alloc (.cells #[.int .i64 0, .int .i64 0, .int .i64 0, .slice none 0 0] 58) = v14 at *
          refine hK.out _ _ ?_ (fun hHeld => ?_)
          · (try dsimp only)
            first | exact HZ.out.hc.three | exact hHeld
          clear hK K
          (try simp only [Act.put, gA, gB, gC, sA, sB, sC])
          refine wpAnyH_ready (rs := [5]) (by kernel_rfl) (by simp) ?_
          refine AllReadyH.cons (o := _) rfl (fun K hK => ?_) AllReadyH.nil
          go_simp
          obtain ⟨o9, hI9, _⟩ := HZ.out.hd.i1
          refine (vVals_some hn0 (by have := hI9.ok.few; omega) _ hI9).mono ?_
          rintro e v15 ⟨gy, cpy, rfl, hgy, hrow, hb⟩
          obtain ⟨cy, hy, hys⟩ := hrow.held
          have HYS := hidp hys
          have hcy := hrow.le
          have hcy2 : cpy ≤ 9223372036854775807 := hrow.max
          replace HZ := hidp (HZ.out.row hb hgy hy)
          clear hI9 hrow hy hys hb hgy
          refine hK.out _ _ ?_ (fun hHeld => ?_)
          · (try dsimp only)
            first | exact HZ.out.hc.three | exact hHeld
          clear hK K
          (try simp only [Act.put, gA, gB, gC, sA, sB, sC])
          refine tkz 6 ?_
          refine wpAnyH_ready (rs := [9]) (by kernel_rfl) (by simp) ?_
          refine AllReadyH.cons (o := _) rfl (fun K hK => ?_) AllReadyH.nil
          have HH := (HZ.out.hn rfl).1
          obtain ⟨z0', z1', z2, z3⟩ := HH.four
          have f0 := HH.thawed 0
          have f1 := HH.thawed 1
          have f2 := HH.thawed 2
          have f3 := HH.thawed 3
          go_simp
          obtain ⟨WF, hWF⟩ : ∃ WF, set4 v15 NY (.int .i64 (H.t : Int)) (.int .i64 (H.p : Int)) (.int .i64 (H.s : Int)) (.slice (some ad) n c) = WF := ⟨_, rfl⟩
          replace HZ := hidp (HZ.out.put9 hWF)
          unfold set4 at hWF
          rw [hWF]
          clear hWF HH z0' z1' z2 z3 f0 f1 f2 f3
          refine hK.out _ _ ?_ (fun hHeld => ?_)
          · (try dsimp only)
            first | exact HZ.out.hc.three | exact hHeld
          clear hK K
          (try simp only [Act.put, gA, gB, gC, sA, sB, sC])
          generalize WF = wq at *
          refine wpAnyH_ready (rs := [10]) (by kernel_rfl) (by simp) ?_
          refine AllReadyH.cons (o := _) rfl (fun K hK => ?_) AllReadyH.nil
          have HH := (HZ.out.hm rfl).1
          obtain ⟨z0', z1', z2, z3⟩ := HH.four
          have f0 := HH.thawed 0
          have f1 := HH.thawed 1
          have f2 := HH.thawed 2
          have f3 := HH.thawed 3
          go_simp
          obtain ⟨WF, hWF⟩ : ∃ WF, set4 wq NX (.int .i64 (H.t : Int)) (.int .i64 (H.p : Int)) (.int .i64 (H.s : Int)) (.slice (some ⟨gy, 0, none⟩) n cpy) = WF := ⟨_, rfl⟩
          replace HZ := hidp (HZ.out.put10 hWF)
          unfold set4 at hWF
          rw [hWF]
          clear hWF HH z0' z1' z2 z3 f0 f1 f2 f3
          refine hK.out _ _ ?_ (fun hHeld => ?_)
          · (try dsimp only)
            first | exact HZ.out.hc.three | exact hHeld
          clear hK K
          (try simp only [Act.put, gA, gB, gC, sA, sB, sC])
          refine wpAnyH_done (by kernel_rfl) ?_ _
          go_wp2_with fail
          go_meet
          case rel => exact ⟨_, _, _, _, _, _, rfl, rfl, HYS.out, HZ.out⟩
    case rest =>
      obtain ⟨NY, NX, gy, cpy, cy, A4, rfl, rfl, hYS, hZ⟩ := hcut
      have HYS := hidp hYS
      have HYB := hidp (hZ.hn rfl).1
      have HXB := hidp (hZ.hm rfl).1
      have HY := hidp (hZ.hy rfl)
      have hcy := (hYS _ _ _ HY.out).le
      have hcy2 : cpy ≤ 9223372036854775807 := (hYS _ _ _ HY.out).max
      replace HC := hidp hZ.hc
      replace HX := hidp hZ.hx
      replace HD := hidp hZ.hd
      clear hYS hZ
      clear x0' x1' x2' y0' y1'
      obtain ⟨x0', x1', x2'⟩ := HC.out.three
      obtain ⟨y0', y1'⟩ := HX.out.two
      replace HGY := hidp (fun (w : World) (h : Held w gy 63 cy) => HGY.out w gy cpy cy HYS.out h)
      obtain ⟨yy0, yy1, yy2, yy3⟩ := HYB.out.four
      rcases HLF.out with ⟨c1, c2, c3⟩ | ⟨c1, c2, c3⟩
      · have t10 : ((on : Int) == 1) = true := by rw [beq_iff_eq]; omega
        have t10n : (on == 1) = true := by rw [beq_iff_eq]; omega
        have t11 : (kn != 3) = true := bne_iff_ne.2 c2
        have z9 : (z0 : Int) + 1 = (zf : Int) := by omega
        have z8 : IntKind.u32.wrap (zf : Int) = (zf : Int) := wrap_nat32 _ (by omega)
        have z7 : ((zf : Int) == (zf : Int)) = true := by simp
        clear c3
        clear c1 c2 HLF
        go_wp2_with fail
        refine (xTaken_c HV ad hpp _ (hv.out.below HD.out.bel)).mono ?_
        rintro e w30 ⟨rfl, hb⟩
        rw [HTK.out]
        replace HC := hidp (HC.out.keep hb)
        replace HX := hidp (HX.out.keep hb)
        replace HXB := hidp (HXB.out.keep hb)
        replace HY := hidp (HY.out.keep hb)
        replace HD := hidp (HD.out.keep hb)
        clear hb
        clear x0' x1' x2' y0' y1'
        obtain ⟨x0', x1', x2'⟩ := HC.out.three
        obtain ⟨y0', y1'⟩ := HX.out.two
        go_wp2_with fail
        refine (ROnes_c tk hk32 _).mono ?_; rintro e w31 ⟨rfl, rfl⟩; rw [HON.out]
        clear HC HYB x0' x1' x2' y0' y1'
        go_wp2_with fail
        replace HX := hidp HX.out.drw
        replace HXB := hidp HXB.out.drw
        replace HY := hidp HY.out.drw
        replace HD := hidp (HD.out.keep (Bdrew (B0 _)))
        refine wp_region_held_drew (S := (fun w' => (w'.cell? ⟨NX, 0, none⟩ = some (.int .i64 (H.t : Int)) ∧ w'.cell? ⟨NX, 1, none⟩ = some (.int .i64 (H.p : Int)) ∧ w'.cell? ⟨NX, 2, none⟩ = some (.int .i64 (H.s : Int)) ∧ w'.cell? ⟨NX, 3, none⟩ = some (.slice (some ⟨gy, 0, none⟩) n cpy)) ∧ w'.cell? ⟨W.heap.size + 1, 0, none⟩ = some (.int .i64 (p : Int)) ∧ w'.cell? ⟨gy, 0, none⟩ = some (.int .u32 (zf : Int)) ∧ w'.cell? (ad.add 0) = some (.int .u32 (z0 : Int)) ∧ w'.cell? ad = some (.int .u32 (z0 : Int)))) (by kernel_rfl) ?_ (fun hHeld => ?_)
        · (try dsimp only)
          first | exact ⟨HXB.out.four, HX.out.two.1, HGY.out _ HY.out, HVZ.out _ HD.out.bel⟩ | exact hHeld
        refine tkz 0 ?_
        refine tkz 1 ?_
        refine tkz 2 ?_
        refine wpAnyH_ready (rs := [3]) (by kernel_rfl) (by simp) ?_
        refine AllReadyH.cons (o := _) rfl (fun K hK => ?_) AllReadyH.nil
        go_simp
        refine (HII.out _ _ _ (HYS.out _ _ _ HY.out)).mono ?_
        rintro e w41 ⟨rfl, hb⟩
        replace HX := hidp (HX.out.keep hb)
        replace HXB := hidp (HXB.out.keep hb)
        replace HY := hidp (HY.out.keep hb)
        replace HD := hidp (HD.out.keep hb)
        clear hb
        refine hK.out _ _ ?_ (fun hHeld => ?_)
        · (try dsimp only)
          first | exact ⟨HXB.out.four, HX.out.two.1, HGY.out _ HY.out, HVZ.out _ HD.out.bel⟩ | exact hHeld
        clear hK K
        (try simp only [Act.put, gA, gB, gC, sA, sB, sC])
        refine tkz 4 ?_
        refine tkz 5 ?_
        refine tkz 6 ?_
        refine tkz 7 ?_
        refine tkz 8 ?_
        refine tkz 9 ?_
        refine tkz 10 ?_
        refine tkz 11 ?_
        refine tkz 12 ?_
        refine tkz 13 ?_
        refine tkz 14 ?_
        refine tkz 15 ?_
        refine tkz 16 ?_
        refine tkz 17 ?_
        refine wpAnyH_ready (rs := [18]) (by kernel_rfl) (by simp) ?_
        refine AllReadyH.cons (o := _) rfl (fun K hK => ?_) AllReadyH.nil
        go_simp
        refine (live16_c _ (HTL.out.below HD.out.bel)).mono ?_
        rintro e w42 ⟨rfl, hb⟩
        replace HX := hidp (HX.out.keep hb)
        replace HXB := hidp (HXB.out.keep hb)
        replace HY := hidp (HY.out.keep hb)
        replace HD := hidp (HD.out.keep hb)
        clear hb
        refine hK.out _ _ ?_ (fun hHeld => ?_)
        · (try dsimp only)
          first | exact ⟨HXB.out.four, HX.out.two.1, HGY.out _ HY.out, HVZ.out _ HD.out.bel⟩ | exact hHeld
        clear hK K
        (try simp only [Act.put, gA, gB, gC, sA, sB, sC])
        refine tkz 19 ?_
        refine tkz 20 ?_
        refine wpAnyH_done (by kernel_rfl) ?_ _
        have HB := hidp HD.out.bel
        go_wp2
        go_ret
        exact ⟨rfl, HB.out⟩
      · have t10 : ((on : Int) == 1) = false := by rw [beq_eq_false_iff_ne]; omega
        have t10n : (on == 1) = false := by rw [beq_eq_false_iff_ne]; omega
        have t11 : (kn == 3) = true := beq_iff_eq.2 c2
        obtain rfl : z0 = zf := c3.symm
        have z7 : ((z0 : Int) == (z0 : Int)) = true := by simp
        clear c1 c2 HLF
        go_wp2_with fail
        refine (xTaken_c HV ad hpp _ (hv.out.below HD.out.bel)).mono ?_
        rintro e w30 ⟨rfl, hb⟩
        rw [HTK.out]
        replace HC := hidp (HC.out.keep hb)
        replace HX := hidp (HX.out.keep hb)
        replace HXB := hidp (HXB.out.keep hb)
        replace HY := hidp (HY.out.keep hb)
        replace HD := hidp (HD.out.keep hb)
        clear hb
        clear x0' x1' x2' y0' y1'
        obtain ⟨x0', x1', x2'⟩ := HC.out.three
        obtain ⟨y0', y1'⟩ := HX.out.two
        go_wp2_with fail
        refine (ROnes_c tk hk32 _).mono ?_; rintro e w31 ⟨rfl, rfl⟩; rw [HON.out]
        clear HC HYB x0' x1' x2' y0' y1'
        go_wp2_with fail
        replace HX := hidp HX.out.drw
        replace HXB := hidp HXB.out.drw
        replace HY := hidp HY.out.drw
        replace HD := hidp (HD.out.keep (Bdrew (B0 _)))
        refine wp_region_held_drew (S := (fun w' => (w'.cell? ⟨NX, 0, none⟩ = some (.int .i64 (H.t : Int)) ∧ w'.cell? ⟨NX, 1, none⟩ = some (.int .i64 (H.p : Int)) ∧ w'.cell? ⟨NX, 2, none⟩ = some (.int .i64 (H.s : Int)) ∧ w'.cell? ⟨NX, 3, none⟩ = some (.slice (some ⟨gy, 0, none⟩) n cpy)) ∧ w'.cell? ⟨W.heap.size + 1, 0, none⟩ = some (.int .i64 (p : Int)) ∧ w'.cell? ⟨gy, 0, none⟩ = some (.int .u32 (z0 : Int)) ∧ w'.cell? (ad.add 0) = some (.int .u32 (z0 : Int)) ∧ w'.cell? ad = some (.int .u32 (z0 : Int)))) (by kernel_rfl) ?_ (fun hHeld => ?_)
        · (try dsimp only)
          first | exact ⟨HXB.out.four, HX.out.two.1, HGY.out _ HY.out, HVZ.out _ HD.out.bel⟩ | exact hHeld
        refine tkz 0 ?_
        refine tkz 1 ?_
        refine tkz 2 ?_
        refine wpAnyH_ready (rs := [3]) (by kernel_rfl) (by simp) ?_
        refine AllReadyH.cons (o := _) rfl (fun K hK => ?_) AllReadyH.nil
        go_simp
        refine (HII.out _ _ _ (HYS.out _ _ _ HY.out)).mono ?_
        rintro e w41 ⟨rfl, hb⟩
        replace HX := hidp (HX.out.keep hb)
        replace HXB := hidp (HXB.out.keep hb)
        replace HY := hidp (HY.out.keep hb)
        replace HD := hidp (HD.out.keep hb)
        clear hb
        refine hK.out _ _ ?_ (fun hHeld => ?_)
        · (try dsimp only)
          first | exact ⟨HXB.out.four, HX.out.two.1, HGY.out _ HY.out, HVZ.out _ HD.out.bel⟩ | exact hHeld
        clear hK K
        (try simp only [Act.put, gA, gB, gC, sA, sB, sC])
        refine tkz 4 ?_
        refine tkz 5 ?_
        refine tkz 6 ?_
        refine tkz 7 ?_
        refine tkz 8 ?_
        refine tkz 9 ?_
        refine tkz 10 ?_
        refine tkz 11 ?_
        refine tkz 12 ?_
        refine tkz 13 ?_
        refine tkz 14 ?_
        refine tkz 15 ?_
        refine tkz 16 ?_
        refine wpAnyH_ready (rs := [17]) (by kernel_rfl) (by simp) ?_
        refine AllReadyH.cons (o := _) rfl (fun K hK => ?_) AllReadyH.nil
        go_simp
        refine (live16_c _ (HTL.out.below HD.out.bel)).mono ?_
        rintro e w42 ⟨rfl, hb⟩
        replace HX := hidp (HX.out.keep hb)
        replace HXB := hidp (HXB.out.keep hb)
        replace HY := hidp (HY.out.keep hb)
        replace HD := hidp (HD.out.keep hb)
        clear hb
        refine hK.out _ _ ?_ (fun hHeld => ?_)
        · (try dsimp only)
          first | exact ⟨HXB.out.four, HX.out.two.1, HGY.out _ HY.out, HVZ.out _ HD.out.bel⟩ | exact hHeld
        clear hK K
        (try simp only [Act.put, gA, gB, gC, sA, sB, sC])
        refine tkz 18 ?_
        refine tkz 19 ?_
        refine wpAnyH_done (by kernel_rfl) ?_ _
        have HB := hidp HD.out.bel
        go_wp2
        go_ret
        exact ⟨rfl, HB.out⟩

theorem SlabBack_calls (t q s x0 x1 : Int) (hx0 : -9223372036854775808 ≤ x0 ∧ x0 ≤ 9223372036854775807) (hx1 : -9223372036854775808 ≤ x1 ∧ x1 ≤ 9223372036854775807) (A : Option Addr) (c : Nat) (vals : List Nat) (hnc : vals.length ≤ c) (hcm : c ≤ maxLen) (h32 : ∀ x ∈ vals, x < 2 ^ 32) (W : World) (hT : SlotsLaid W) (HR : Hid (Reads W W.heap.size 1 A vals.length (valVs vals))) :
    Calls Tryz.prog 6 #[.agg #[.int .i64 t, .int .i64 q, .int .i64 s], .slice A vals.length c, .agg #[.int .i64 x0, .int .i64 x1]] W (Keeps W) := by
  by_cases hq : q ≤ 64
  · rcases heap13_or W t q s A c vals hnc hcm h32 HR.out with ⟨m, hX⟩ | ⟨H, ad, m, rfl, rfl, rfl, rfl, hV, HV, hv, hto, hX⟩
    · exact SlabBack_no t q s x0 x1 A _ c m hq W hT (hidp hX)
    · have hK : ∀ i, i < vals.length → wholeK16 vals i = some (H.V i) := fun i hi => by
        unfold wholeK16
        rw [hV i, List.getElem?_eq_getElem hi]
        simp [List.getD, List.getElem?_eq_getElem hi]
      by_cases h0 : x0 < 0 ∨ (H.p : Int) ≤ x0 ∨ x1 < 0 ∨ 31 < x1
      · exact SlabBack_off _ _ _ x0 x1 _ _ c m hq h0 W hT (hidp hX)
      · obtain ⟨p, rfl⟩ := Int.eq_ofNat_of_zero_le (show 0 ≤ x0 by omega)
        obtain ⟨i, rfl⟩ := Int.eq_ofNat_of_zero_le (show 0 ≤ x1 by omega)
        cases hk : H.idleAt p i
        · exact SlabBack_kind ad _ c m p i HV (by omega) (by omega) (by omega) hk W hT (hidp hv) (hidp hX)
        · obtain ⟨LL, hok⟩ := AuH.okL_of (by have := HV.nums; omega) (told_rules hto)
          have hk2 := hk
          unfold AuH.idleAt at hk2
          simp only [Bool.and_eq_true, decide_eq_true_eq, Bool.not_eq_true'] at hk2
          obtain ⟨_, L2, h2, P⟩ := give_heap HV hok (Work.of_ok hok HV hK) (off_of (p := p) (i := i) (by omega) hk2.1.1 hk2.1.2 hk2.2)
          exact SlabBack_main ad _ c m HV vals (hidp rfl) (hidp h32) hV (by omega) (told_rules hto) p i (by omega) (by omega) hk _ L2 rfl h2 P (free_few hok HV.fit.nums.2).2 W hT HR (hidp hv) (hidp hX)
  · exact SlabBack_few t q s x0 x1 A _ c 0 (by omega) W hT
end
end Go.Proofs.YtioolaaphbddbaaGreatDoor
