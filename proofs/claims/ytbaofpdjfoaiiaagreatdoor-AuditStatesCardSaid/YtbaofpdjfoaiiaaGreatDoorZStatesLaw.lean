/-
  The law AuditStates. Written by audit/gen_laws.py.
-/
import Derived.Test.YtbaofpdjfoaiiaaGreatDoorZCheck
import Derived.Test.YtbaofpdjfoaiiaaGreatDoorZState
import Derived.Test.YtbaofpdjfoaiiaaGreatDoorZSame
import Derived.Test.YtbaofpdjfoaiiaaGreatDoorZOr
namespace Go.Proofs.YtbaofpdjfoaiiaaGreatDoor
open Go.ChangeShapes Go.WideShapes Go.ChangeAt Go.RowKit Go.Shelf
set_option linter.unusedVariables false
set_option linter.unusedSimpArgs false

theorem few_c (t q s : Int) (w : World) :
    Calls Tryz.prog 6 #[.agg #[.int .i64 t, .int .i64 q, .int .i64 s]] w fun e w' => e = .returned (.bool (decide (q ≤ 64))) ∧ Below w.heap.size w w' := by
  go_enter Tryz.func6, Tryz.ntmps6
  go_wp2
  go_ret
  exact ⟨rfl, Bnew (B0 _) _⟩

def AuStIs (w : World) (t q s : Int) (A : Option Addr) (n c : Nat) (ok : Bool) (L : List (Int × Int)) (r0 r1 r2 r3 r4 r5 r6 r7 : Int) : Prop :=
  ∀ W, Below w.heap.size w W → Calls Tryz.prog 10 #[.agg #[.int .i64 t, .int .i64 q, .int .i64 s], .slice A n c] W fun e w' => ∃ u, e = .returned (.tuple #[.agg #[u, .int .i64 r0, .int .i64 r1, .int .i64 r2, .int .i64 r3, .int .i64 r4, .int .i64 r5, .int .i64 r6, .int .i64 r7], .bool ok]) ∧ w'.ownsRow W.heap.size 58 2 u L.length (bkVs L) ∧ Below W.heap.size W w'
theorem AuStIs.grown {w w1 : World} {t q s : Int} {A : Option Addr} {n c : Nat} {ok : Bool} {L : List (Int × Int)} {r0 r1 r2 r3 r4 r5 r6 r7 : Int} (h : AuStIs w t q s A n c ok L r0 r1 r2 r3 r4 r5 r6 r7) (hb : Below w.heap.size w w1) : AuStIs w1 t q s A n c ok L r0 r1 r2 r3 r4 r5 r6 r7 :=
  fun W hW => h W (Bgo hb hW)

def XStIs (w : World) (t q s : Int) (A : Option Addr) (n c : Nat) (ok : Bool) (L : List (Int × Int)) (r0 r1 r2 r3 r4 r5 r6 r7 : Int) : Prop :=
  ∀ W, Below w.heap.size w W → Calls Tryz.prog 11 #[.agg #[.int .i64 t, .int .i64 q, .int .i64 s], .slice A n c] W fun e w' => ∃ u, e = .returned (.tuple #[.agg #[u, .int .i64 r0, .int .i64 r1, .int .i64 r2, .int .i64 r3, .int .i64 r4, .int .i64 r5, .int .i64 r6, .int .i64 r7], .bool ok]) ∧ w'.ownsRow W.heap.size 58 2 u L.length (bkVs L) ∧ Below W.heap.size W w'
theorem XStIs.grown {w w1 : World} {t q s : Int} {A : Option Addr} {n c : Nat} {ok : Bool} {L : List (Int × Int)} {r0 r1 r2 r3 r4 r5 r6 r7 : Int} (h : XStIs w t q s A n c ok L r0 r1 r2 r3 r4 r5 r6 r7) (hb : Below w.heap.size w w1) : XStIs w1 t q s A n c ok L r0 r1 r2 r3 r4 r5 r6 r7 :=
  fun W hW => h W (Bgo hb hW)

def AuLvIs (w : World) (t q s : Int) (A : Option Addr) (n c : Nat) (L : List (Int × Int)) : Prop :=
  ∀ W, Below w.heap.size w W → Calls Tryz.prog 12 #[.agg #[.int .i64 t, .int .i64 q, .int .i64 s], .slice A n c] W fun e w' => ∃ u, e = .returned u ∧ w'.ownsRow W.heap.size 58 2 u L.length (bkVs L) ∧ Below W.heap.size W w'
theorem auStIs_no {w : World} {t q s : Int} {A : Option Addr} {n c m : Nat} (hC : CheckIs w t q s A n c m false) : AuStIs w t q s A n c false [] 0 0 0 0 0 0 0 0 :=
  fun W hW => (auState_no t q s A n c m W (hC.grown hW)).mono (by
    rintro e w' ⟨rfl, hb⟩
    exact ⟨_, rfl, World.ownsRow_nil _ _ _ _, hb⟩)
theorem auLvIs_no {w : World} {t q s : Int} {A : Option Addr} {n c m : Nat} (hC : CheckIs w t q s A n c m false) : AuLvIs w t q s A n c [] :=
  fun W hW => (auLiveTop_no t q s A n c m W (hC.grown hW)).mono (by
    rintro e w' ⟨rfl, hb⟩
    exact ⟨_, rfl, World.ownsRow_nil _ _ _ _, hb⟩)
theorem xStIs_no {w : World} {t q s : Int} {A : Option Addr} {n c m : Nat} (hC : XCheckIs w t q s A n c m false) : XStIs w t q s A n c false [] 0 0 0 0 0 0 0 0 :=
  fun W hW => (xState_no t q s A n c m W (hC.grown hW)).mono (by
    rintro e w' ⟨rfl, hb⟩
    exact ⟨_, rfl, World.ownsRow_nil _ _ _ _, hb⟩)
theorem auStIs_yes {H : AuH} {n c m : Nat} (HV : HeapV H n c) (ht : H.Tiled) {ad : Addr} {w : World} (hv : IsVals w ad n H.V) (hT : SlotsLaid w) (hC : CheckIs w H.t H.p H.s (some ad) n c m true) : AuStIs w H.t H.p H.s (some ad) n c true (blocksOf H.parts) (H.V 22 : Nat) (H.V 23 : Nat) (H.V 24 : Nat) (H.V 25 : Nat) (H.V 26 : Nat) (H.V 27 : Nat) (H.V 28 : Nat) (H.V 29 : Nat) :=
  fun W hW => auState_yes HV ht ad m W (hv.below hW) (hT.below hW) (hC.grown hW)
theorem auLvIs_yes {H : AuH} {n c m : Nat} (HV : HeapV H n c) (ht : H.Tiled) {ad : Addr} {w : World} (hv : IsVals w ad n H.V) (hT : SlotsLaid w) (hC : CheckIs w H.t H.p H.s (some ad) n c m true) : AuLvIs w H.t H.p H.s (some ad) n c (blocksOf H.parts) :=
  fun W hW => auLiveTop_yes HV ht ad m W (hv.below hW) (hT.below hW) (hC.grown hW)
theorem xStIs_yes {H : AuH} {n c m : Nat} (HV : HeapV H n c) {ad : Addr} {w : World} (hv : IsVals w ad n H.V) (hC : XCheckIs w H.t H.p H.s (some ad) n c m true) : XStIs w H.t H.p H.s (some ad) n c true (blocksOf H.parts) (H.V 22 : Nat) (H.V 23 : Nat) (H.V 24 : Nat) (H.V 25 : Nat) (H.V 26 : Nat) (H.V 27 : Nat) (H.V 28 : Nat) (H.V 29 : Nat) :=
  fun W hW => xState_yes HV ad m W (hv.below hW) (hC.grown hW)
theorem blocks_few {H : AuH} {n c : Nat} (HV : HeapV H n c) : (blocksOf H.parts).length ≤ 100000 := by
  have h1 := blocksOf_len H.parts
  have h2 : H.parts.length ≤ H.p * 33 := AuH.parts_len H.p
  have := HV.nums.2.2.2.1
  omega

set_option maxHeartbeats 1600000 in
theorem AuditStates_few (t q s : Int) (A : Option Addr) (n c : Nat) (A2 : Option Addr) (n2 c2 : Nat) (hq : 64 < q) (W : World) (hT : SlotsLaid W) :
    Calls Tryz.prog 4 #[.agg #[.int .i64 t, .int .i64 q, .int .i64 s], .slice A n c, .slice A2 n2 c2] W (Keeps W) := by
  have HX := hidp (Held.new W 23 #[.int .i64 t, .int .i64 q, .int .i64 s])
  obtain ⟨c0, c1, c2⟩ := HX.out.three
  have HB := hidp (Bnew (B0 W) (.cells #[.int .i64 t, .int .i64 q, .int .i64 s] 23))
  have HTL := hidp hT
  have t0 : decide (q ≤ 64) = false := decide_eq_false (by omega)
  clear hT
  go_enter Tryz.func4, Tryz.ntmps4
  go_wp2_with (first
    | (go_at_call 6; refine (few_c _ _ _ _).mono ?_; rintro e w1 ⟨rfl, hb1⟩; have HB1 := hidp (Bgo HB.out hb1); have HX1 := hidp (HX.out.keep hb1); clear hb1 c0 c1 c2; obtain ⟨c0, c1, c2⟩ := HX1.out.three)
    | (go_at_call 7; refine (live_c _ (HTL.out.below HB1.out)).mono ?_; rintro e w2 ⟨rfl, hb2⟩; have HB2 := hidp (Bgo HB1.out hb2); clear hb2)
    | fail)
  go_ret
  exact ⟨rfl, HB2.out⟩

set_option maxHeartbeats 12800000 in
set_option maxRecDepth 100000 in
theorem AuditStates_all (t q s : Int) (Aa Ab : Option Addr) (na ca nb cb : Nat) (ok ok2 : Bool) (L M : List (Int × Int)) (r0 r1 r2 r3 r4 r5 r6 r7 p0 p1 p2 p3 p4 p5 p6 p7 : Int) (hq : q ≤ 64) (W : World) (hT : SlotsLaid W)
    (hA : AuStIs W t q s Aa na ca ok L r0 r1 r2 r3 r4 r5 r6 r7) (hD : XStIs W t q s Aa na ca ok L r0 r1 r2 r3 r4 r5 r6 r7) (hD2 : XStIs W t q s Ab nb cb ok2 M p0 p1 p2 p3 p4 p5 p6 p7) (hL : AuLvIs W t q s Aa na ca L) (hll : L.length ≤ 100000) (hml : M.length ≤ 100000) :
    Calls Tryz.prog 4 #[.agg #[.int .i64 t, .int .i64 q, .int .i64 s], .slice Aa na ca, .slice Ab nb cb] W (Keeps W) := by
  have HC := hidp (Held.new W 23 #[.int .i64 t, .int .i64 q, .int .i64 s])
  obtain ⟨c0, c1, c2⟩ := HC.out.three
  have HB := hidp (Bnew (B0 W) (.cells #[.int .i64 t, .int .i64 q, .int .i64 s] 23))
  have HTL := hidp hT
  have HAS := hidp hA
  have HDS := hidp hD
  have HD2 := hidp hD2
  have HLV := hidp hL
  have t0 : decide (q ≤ 64) = true := decide_eq_true hq
  obtain ⟨nl, hnl0⟩ : ∃ nl, L.length = nl := ⟨_, rfl⟩
  obtain ⟨nm, hnm0⟩ : ∃ nm, M.length = nm := ⟨_, rfl⟩
  have HNL := hidp hnl0
  have HNM := hidp hnm0
  have hnl : nl ≤ 100000 := by omega
  have hnm : nm ≤ 100000 := by omega
  obtain ⟨eb, heb⟩ : ∃ eb : Bool, eb = true ↔ [r0, r1, r2, r3, r4, r5, r6, r7] = [p0, p1, p2, p3, p4, p5, p6, p7] ∧ L = M := ⟨decide ([r0, r1, r2, r3, r4, r5, r6, r7] = [p0, p1, p2, p3, p4, p5, p6, p7] ∧ L = M), by simp⟩
  have HEB := hidp heb
  have q0 : (eb == eb) = true := by simp
  have q1 : (ok != ok) = false := by simp
  have HK1 : Hid True := hidp trivial
  have HK2 : Hid True := hidp trivial
  clear hT hA hD hD2 hL hnl0 hnm0 heb hll hml
  go_enter Tryz.func4, Tryz.ntmps4
  go_wp2_with (first
    | (go_at_call 6; refine (few_c _ _ _ _).mono ?_; rintro e w1 ⟨rfl, hb1⟩; have HB1 := hidp (Bgo HB.out hb1); have HC1 := hidp (HC.out.keep hb1); clear hb1 c0 c1 c2; obtain ⟨c0, c1, c2⟩ := HC1.out.three)
    | (go_at_call 10; refine (HAS.out _ HB1.out).mono ?_; rintro e w2 ⟨u, rfl, hown, hb2⟩; rw [HNL.out] at hown; obtain ⟨A1, k1, rfl⟩ := own_slice hown; have HB2 := hidp (Bnew (Bgo HB1.out hb2) (.cells #[.slice A1 nl k1, .int .i64 r0, .int .i64 r1, .int .i64 r2, .int .i64 r3, .int .i64 r4, .int .i64 r5, .int .i64 r6, .int .i64 r7] 33)); have HC2 := hidp ((HC1.out.keep hb2).alloc (.cells #[.slice A1 nl k1, .int .i64 r0, .int .i64 r1, .int .i64 r2, .int .i64 r3, .int .i64 r4, .int .i64 r5, .int .i64 r6, .int .i64 r7] 33)); have HOX2 := hidp (hown.alloc (.cells #[.slice A1 nl k1, .int .i64 r0, .int .i64 r1, .int .i64 r2, .int .i64 r3, .int .i64 r4, .int .i64 r5, .int .i64 r6, .int .i64 r7] 33)); have HX2 := hidp (Held.new w2 33 #[.slice A1 nl k1, .int .i64 r0, .int .i64 r1, .int .i64 r2, .int .i64 r3, .int .i64 r4, .int .i64 r5, .int .i64 r6, .int .i64 r7]); clear hown hb2 c0 c1 c2; obtain ⟨c0, c1, c2⟩ := HC2.out.three)
    | (have hz9 := HK1.out; clear hz9 HK1; go_at_call 11; refine (HDS.out _ HB2.out).mono ?_; rintro e w3 ⟨u, rfl, hown, hb3⟩; rw [HNL.out] at hown; obtain ⟨A2, k2, rfl⟩ := own_slice hown; have HB3 := hidp (Bnew (Bgo HB2.out hb3) (.cells #[.slice A2 nl k2, .int .i64 r0, .int .i64 r1, .int .i64 r2, .int .i64 r3, .int .i64 r4, .int .i64 r5, .int .i64 r6, .int .i64 r7] 33)); have HC3 := hidp ((HC2.out.keep hb3).alloc (.cells #[.slice A2 nl k2, .int .i64 r0, .int .i64 r1, .int .i64 r2, .int .i64 r3, .int .i64 r4, .int .i64 r5, .int .i64 r6, .int .i64 r7] 33)); have HX3 := hidp ((HX2.out.keep hb3).alloc (.cells #[.slice A2 nl k2, .int .i64 r0, .int .i64 r1, .int .i64 r2, .int .i64 r3, .int .i64 r4, .int .i64 r5, .int .i64 r6, .int .i64 r7] 33)); have HOX3 := hidp ((own_below HOX2.out hb3).alloc (.cells #[.slice A2 nl k2, .int .i64 r0, .int .i64 r1, .int .i64 r2, .int .i64 r3, .int .i64 r4, .int .i64 r5, .int .i64 r6, .int .i64 r7] 33)); have HOY3 := hidp (hown.alloc (.cells #[.slice A2 nl k2, .int .i64 r0, .int .i64 r1, .int .i64 r2, .int .i64 r3, .int .i64 r4, .int .i64 r5, .int .i64 r6, .int .i64 r7] 33)); have HY3 := hidp (Held.new w3 33 #[.slice A2 nl k2, .int .i64 r0, .int .i64 r1, .int .i64 r2, .int .i64 r3, .int .i64 r4, .int .i64 r5, .int .i64 r6, .int .i64 r7]); clear hown hb3 c0 c1 c2; obtain ⟨c0, c1, c2⟩ := HC3.out.three)
    | (go_at_call 11; refine (HD2.out _ HB3.out).mono ?_; rintro e w4 ⟨u, rfl, hown, hb4⟩; rw [HNM.out] at hown; obtain ⟨A3, k3, rfl⟩ := own_slice hown; have HB4 := hidp (Bnew (Bgo HB3.out hb4) (.cells #[.slice A3 nm k3, .int .i64 p0, .int .i64 p1, .int .i64 p2, .int .i64 p3, .int .i64 p4, .int .i64 p5, .int .i64 p6, .int .i64 p7] 33)); have HC4 := hidp ((HC3.out.keep hb4).alloc (.cells #[.slice A3 nm k3, .int .i64 p0, .int .i64 p1, .int .i64 p2, .int .i64 p3, .int .i64 p4, .int .i64 p5, .int .i64 p6, .int .i64 p7] 33)); have HX4 := hidp ((HX3.out.keep hb4).alloc (.cells #[.slice A3 nm k3, .int .i64 p0, .int .i64 p1, .int .i64 p2, .int .i64 p3, .int .i64 p4, .int .i64 p5, .int .i64 p6, .int .i64 p7] 33)); have HY4 := hidp ((HY3.out.keep hb4).alloc (.cells #[.slice A3 nm k3, .int .i64 p0, .int .i64 p1, .int .i64 p2, .int .i64 p3, .int .i64 p4, .int .i64 p5, .int .i64 p6, .int .i64 p7] 33)); have HOX4 := hidp ((own_below HOX3.out hb4).alloc (.cells #[.slice A3 nm k3, .int .i64 p0, .int .i64 p1, .int .i64 p2, .int .i64 p3, .int .i64 p4, .int .i64 p5, .int .i64 p6, .int .i64 p7] 33)); have HOY4 := hidp ((own_below HOY3.out hb4).alloc (.cells #[.slice A3 nm k3, .int .i64 p0, .int .i64 p1, .int .i64 p2, .int .i64 p3, .int .i64 p4, .int .i64 p5, .int .i64 p6, .int .i64 p7] 33)); have HOZ4 := hidp (hown.alloc (.cells #[.slice A3 nm k3, .int .i64 p0, .int .i64 p1, .int .i64 p2, .int .i64 p3, .int .i64 p4, .int .i64 p5, .int .i64 p6, .int .i64 p7] 33)); have HZ4 := hidp (Held.new w4 33 #[.slice A3 nm k3, .int .i64 p0, .int .i64 p1, .int .i64 p2, .int .i64 p3, .int .i64 p4, .int .i64 p5, .int .i64 p6, .int .i64 p7]); clear hown hb4 c0 c1 c2; obtain ⟨c0, c1, c2⟩ := HC4.out.three)
    | (go_at_call 12; refine (HLV.out _ HB4.out).mono ?_; rintro e w5 ⟨u, rfl, hown, hb5⟩; rw [HNL.out] at hown; obtain ⟨A4, k4, rfl⟩ := own_slice hown; have HB5 := hidp (Bgo HB4.out hb5); have HX5 := hidp (HX4.out.keep hb5); have HOX5 := hidp (own_below HOX4.out hb5); have HY5 := hidp (HY4.out.keep hb5); have HOY5 := hidp (own_below HOY4.out hb5); have HZ5 := hidp (HZ4.out.keep hb5); have HOZ5 := hidp (own_below HOZ4.out hb5); have HOL5 := hidp hown; clear hown hb5 c0 c1 c2; obtain ⟨x0, x1, x2, x3, x4, x5, x6, x7, x8⟩ := HX5.out.nine; obtain ⟨y0, y1, y2, y3, y4, y5, y6, y7, y8⟩ := HY5.out.nine)
    | (have hz9 := HK2.out; clear hz9 HK2; go_at_call 13; refine (xSame_c L L A1 A2 nl nl k1 k2 _ _ r0 r1 r2 r3 r4 r5 r6 r7 r0 r1 r2 r3 r4 r5 r6 r7 _ HNL.out HNL.out hnl hnl HOX5.out HOY5.out true ⟨fun _ => ⟨rfl, rfl⟩, fun _ => rfl⟩).mono ?_; rintro e w6 ⟨rfl, hb6⟩; have HB6 := hidp (Bgo HB5.out hb6); have HX6 := hidp (HX5.out.keep hb6); have HOX6 := hidp (own_below HOX5.out hb6); have HY6 := hidp (HY5.out.keep hb6); have HOY6 := hidp (own_below HOY5.out hb6); have HZ6 := hidp (HZ5.out.keep hb6); have HOZ6 := hidp (own_below HOZ5.out hb6); have HOL6 := hidp (own_below HOL5.out hb6); clear hb6 x0 x1 x2 x3 x4 x5 x6 x7 x8 y0 y1 y2 y3 y4 y5 y6 y7 y8; have y0 := HY6.out.cell 0; simp only [List.getElem?_toArray, List.getElem?_cons_zero] at y0)
    | (go_at_call 13; refine (xSame_c L L A4 A2 nl nl k4 k2 _ _ 0 0 0 0 0 0 0 0 0 0 0 0 0 0 0 0 _ HNL.out HNL.out hnl hnl HOL6.out HOY6.out true ⟨fun _ => ⟨rfl, rfl⟩, fun _ => rfl⟩).mono ?_; rintro e w7 ⟨rfl, hb7⟩; have HB7 := hidp (Bgo HB6.out hb7); have HX7 := hidp (HX6.out.keep hb7); have HOX7 := hidp (own_below HOX6.out hb7); have HY7 := hidp (HY6.out.keep hb7); have HOY7 := hidp (own_below HOY6.out hb7); have HZ7 := hidp (HZ6.out.keep hb7); have HOZ7 := hidp (own_below HOZ6.out hb7); clear hb7 y0)
    | fail)
  refine wp_region_held_drew (S := (fun w' => Held w' w2.heap.size 33 #[.slice A1 nl k1, .int .i64 r0, .int .i64 r1, .int .i64 r2, .int .i64 r3, .int .i64 r4, .int .i64 r5, .int .i64 r6, .int .i64 r7] ∧ Held w' w3.heap.size 33 #[.slice A2 nl k2, .int .i64 r0, .int .i64 r1, .int .i64 r2, .int .i64 r3, .int .i64 r4, .int .i64 r5, .int .i64 r6, .int .i64 r7] ∧ Held w' w4.heap.size 33 #[.slice A3 nm k3, .int .i64 p0, .int .i64 p1, .int .i64 p2, .int .i64 p3, .int .i64 p4, .int .i64 p5, .int .i64 p6, .int .i64 p7])) (by kernel_rfl) ?_ (fun hHeld => ?_)
  · (try dsimp only)
    first | exact ⟨HX7.out.drew, HY7.out.drew, HZ7.out.drew⟩ | exact ⟨HX8.out, HY8.out, HZ8.out⟩ | exact ⟨HX9.out, HY9.out, HZ9.out⟩ | exact ⟨HX10.out, HY10.out, HZ10.out⟩ | exact ⟨HX11.out, HY11.out, HZ11.out⟩ | exact hHeld
  refine tkO (i := 0) (v := ?_) rfl (by kernel_rfl) (fun _ _ _ h => h) (by rfl) ?_ (by assumption) ?_
  rotate_left
  · intro w hSw; obtain ⟨sx, sy, sz⟩ := hSw; obtain ⟨a0, a1, a2, a3, a4, a5, a6, a7, a8⟩ := sx.nine; obtain ⟨b0, b1, b2, b3, b4, b5, b6, b7, b8⟩ := sy.nine; obtain ⟨d0, d1, d2, d3, d4, d5, d6, d7, d8⟩ := sz.nine; go_simp; (try with_reducible rfl)
  (try simp only [Act.put, gA, gB, gC, sA, sB, sC])
  refine tkO (i := 1) (v := ?_) rfl (by kernel_rfl) (fun _ _ _ h => h) (by rfl) ?_ (by assumption) ?_
  rotate_left
  · intro w hSw; obtain ⟨sx, sy, sz⟩ := hSw; obtain ⟨a0, a1, a2, a3, a4, a5, a6, a7, a8⟩ := sx.nine; obtain ⟨b0, b1, b2, b3, b4, b5, b6, b7, b8⟩ := sy.nine; obtain ⟨d0, d1, d2, d3, d4, d5, d6, d7, d8⟩ := sz.nine; go_simp; (try with_reducible rfl)
  (try simp only [Act.put, gA, gB, gC, sA, sB, sC])
  refine tkO (i := 3) (v := ?_) rfl (by kernel_rfl) (fun _ _ _ h => h) (by rfl) ?_ (by assumption) ?_
  rotate_left
  · intro w hSw; obtain ⟨sx, sy, sz⟩ := hSw; obtain ⟨a0, a1, a2, a3, a4, a5, a6, a7, a8⟩ := sx.nine; obtain ⟨b0, b1, b2, b3, b4, b5, b6, b7, b8⟩ := sy.nine; obtain ⟨d0, d1, d2, d3, d4, d5, d6, d7, d8⟩ := sz.nine; go_simp; (try with_reducible rfl)
  (try simp only [Act.put, gA, gB, gC, sA, sB, sC])
  refine tkO (i := 4) (v := ?_) rfl (by kernel_rfl) (fun _ _ _ h => h) (by rfl) ?_ (by assumption) ?_
  rotate_left
  · intro w hSw; obtain ⟨sx, sy, sz⟩ := hSw; obtain ⟨a0, a1, a2, a3, a4, a5, a6, a7, a8⟩ := sx.nine; obtain ⟨b0, b1, b2, b3, b4, b5, b6, b7, b8⟩ := sy.nine; obtain ⟨d0, d1, d2, d3, d4, d5, d6, d7, d8⟩ := sz.nine; go_simp; (try with_reducible rfl)
  (try simp only [Act.put, gA, gB, gC, sA, sB, sC])
  refine wpAnyH_ready (rs := [2]) (by kernel_rfl) (by simp) ?_
  refine AllReadyH.cons (o := _) rfl (fun K hK => ?_) AllReadyH.nil
  go_simp
  (go_at_call 14; refine (auSame_c L M A1 A3 nl nm k1 k3 _ _ r0 r1 r2 r3 r4 r5 r6 r7 p0 p1 p2 p3 p4 p5 p6 p7 _ HNL.out HNM.out hnl hnm HOX7.out.drew HOZ7.out.drew eb HEB.out).mono ?_; rintro e w8 ⟨rfl, hb8⟩; have HB8 := hidp (Bgo (Bdrew HB7.out) hb8); have HX8 := hidp (HX7.out.drew.keep hb8); have HOX8 := hidp (own_below (w := w7.drew) HOX7.out hb8); have HY8 := hidp (HY7.out.drew.keep hb8); have HOY8 := hidp (own_below (w := w7.drew) HOY7.out hb8); have HZ8 := hidp (HZ7.out.drew.keep hb8); have HOZ8 := hidp (own_below (w := w7.drew) HOZ7.out hb8); clear hb8)
  refine hK.out _ _ ?_ (fun hHeld => ?_)
  · (try dsimp only)
    first | exact ⟨HX7.out.drew, HY7.out.drew, HZ7.out.drew⟩ | exact ⟨HX8.out, HY8.out, HZ8.out⟩ | exact ⟨HX9.out, HY9.out, HZ9.out⟩ | exact ⟨HX10.out, HY10.out, HZ10.out⟩ | exact ⟨HX11.out, HY11.out, HZ11.out⟩ | exact hHeld
  clear hK K
  (try simp only [Act.put, gA, gB, gC, sA, sB, sC])
  refine wpAnyH_ready (rs := [5]) (by kernel_rfl) (by simp) ?_
  refine AllReadyH.cons (o := _) rfl (fun K hK => ?_) AllReadyH.nil
  go_simp
  (go_at_call 13; refine (xSame_c L M A2 A3 nl nm k2 k3 _ _ r0 r1 r2 r3 r4 r5 r6 r7 p0 p1 p2 p3 p4 p5 p6 p7 _ HNL.out HNM.out hnl hnm HOY8.out HOZ8.out eb HEB.out).mono ?_; rintro e w9 ⟨rfl, hb9⟩; have HB9 := hidp (Bgo HB8.out hb9); have HX9 := hidp (HX8.out.keep hb9); have HOX9 := hidp (own_below HOX8.out hb9); have HY9 := hidp (HY8.out.keep hb9); have HOY9 := hidp (own_below HOY8.out hb9); have HZ9 := hidp (HZ8.out.keep hb9); have HOZ9 := hidp (own_below HOZ8.out hb9); clear hb9)
  refine hK.out _ _ ?_ (fun hHeld => ?_)
  · (try dsimp only)
    first | exact ⟨HX7.out.drew, HY7.out.drew, HZ7.out.drew⟩ | exact ⟨HX8.out, HY8.out, HZ8.out⟩ | exact ⟨HX9.out, HY9.out, HZ9.out⟩ | exact ⟨HX10.out, HY10.out, HZ10.out⟩ | exact ⟨HX11.out, HY11.out, HZ11.out⟩ | exact hHeld
  clear hK K
  (try simp only [Act.put, gA, gB, gC, sA, sB, sC])
  refine tkO (i := 6) (v := ?_) rfl (by kernel_rfl) (fun _ _ _ h => h) (by rfl) ?_ (by assumption) ?_
  rotate_left
  · intro w hSw; obtain ⟨sx, sy, sz⟩ := hSw; obtain ⟨a0, a1, a2, a3, a4, a5, a6, a7, a8⟩ := sx.nine; obtain ⟨b0, b1, b2, b3, b4, b5, b6, b7, b8⟩ := sy.nine; obtain ⟨d0, d1, d2, d3, d4, d5, d6, d7, d8⟩ := sz.nine; go_simp; (try with_reducible rfl)
  (try simp only [Act.put, gA, gB, gC, sA, sB, sC])
  refine tkO (i := 7) (v := ?_) rfl (by kernel_rfl) (fun _ _ _ h => h) (by rfl) ?_ (by assumption) ?_
  rotate_left
  · intro w hSw; obtain ⟨sx, sy, sz⟩ := hSw; obtain ⟨a0, a1, a2, a3, a4, a5, a6, a7, a8⟩ := sx.nine; obtain ⟨b0, b1, b2, b3, b4, b5, b6, b7, b8⟩ := sy.nine; obtain ⟨d0, d1, d2, d3, d4, d5, d6, d7, d8⟩ := sz.nine; go_simp; (try with_reducible rfl)
  (try simp only [Act.put, gA, gB, gC, sA, sB, sC])
  refine tkO (i := 8) (v := ?_) rfl (by kernel_rfl) (fun _ _ _ h => h) (by rfl) ?_ (by assumption) ?_
  rotate_left
  · intro w hSw; obtain ⟨sx, sy, sz⟩ := hSw; obtain ⟨a0, a1, a2, a3, a4, a5, a6, a7, a8⟩ := sx.nine; obtain ⟨b0, b1, b2, b3, b4, b5, b6, b7, b8⟩ := sy.nine; obtain ⟨d0, d1, d2, d3, d4, d5, d6, d7, d8⟩ := sz.nine; go_simp; (try with_reducible rfl)
  (try simp only [Act.put, gA, gB, gC, sA, sB, sC])
  refine tkO (i := 9) (v := ?_) rfl (by kernel_rfl) (fun _ _ _ h => h) (by rfl) ?_ (by assumption) ?_
  rotate_left
  · intro w hSw; obtain ⟨sx, sy, sz⟩ := hSw; obtain ⟨a0, a1, a2, a3, a4, a5, a6, a7, a8⟩ := sx.nine; obtain ⟨b0, b1, b2, b3, b4, b5, b6, b7, b8⟩ := sy.nine; obtain ⟨d0, d1, d2, d3, d4, d5, d6, d7, d8⟩ := sz.nine; go_simp; (try with_reducible rfl)
  (try simp only [Act.put, gA, gB, gC, sA, sB, sC])
  refine wpAnyH_ready (rs := [10]) (by kernel_rfl) (by simp) ?_
  refine AllReadyH.cons (o := _) rfl (fun K hK => ?_) AllReadyH.nil
  go_simp
  (go_at_call 14; refine (auSame_c L L A1 A1 nl nl k1 k1 _ _ r0 r1 r2 r3 r4 r5 r6 r7 r0 r1 r2 r3 r4 r5 r6 r7 _ HNL.out HNL.out hnl hnl HOX9.out HOX9.out true ⟨fun _ => ⟨rfl, rfl⟩, fun _ => rfl⟩).mono ?_; rintro e w10 ⟨rfl, hb10⟩; have HB10 := hidp (Bgo HB9.out hb10); have HX10 := hidp (HX9.out.keep hb10); have HOX10 := hidp (own_below HOX9.out hb10); have HY10 := hidp (HY9.out.keep hb10); have HOY10 := hidp (own_below HOY9.out hb10); have HZ10 := hidp (HZ9.out.keep hb10); have HOZ10 := hidp (own_below HOZ9.out hb10); clear hb10)
  refine hK.out _ _ ?_ (fun hHeld => ?_)
  · (try dsimp only)
    first | exact ⟨HX7.out.drew, HY7.out.drew, HZ7.out.drew⟩ | exact ⟨HX8.out, HY8.out, HZ8.out⟩ | exact ⟨HX9.out, HY9.out, HZ9.out⟩ | exact ⟨HX10.out, HY10.out, HZ10.out⟩ | exact ⟨HX11.out, HY11.out, HZ11.out⟩ | exact hHeld
  clear hK K
  (try simp only [Act.put, gA, gB, gC, sA, sB, sC])
  refine tkO (i := 11) (v := ?_) rfl (by kernel_rfl) (fun _ _ _ h => h) (by rfl) ?_ (by assumption) ?_
  rotate_left
  · intro w hSw; obtain ⟨sx, sy, sz⟩ := hSw; obtain ⟨a0, a1, a2, a3, a4, a5, a6, a7, a8⟩ := sx.nine; obtain ⟨b0, b1, b2, b3, b4, b5, b6, b7, b8⟩ := sy.nine; obtain ⟨d0, d1, d2, d3, d4, d5, d6, d7, d8⟩ := sz.nine; go_simp; (try with_reducible rfl)
  (try simp only [Act.put, gA, gB, gC, sA, sB, sC])
  refine tkO (i := 12) (v := ?_) rfl (by kernel_rfl) (fun _ _ _ h => h) (by rfl) ?_ (by assumption) ?_
  rotate_left
  · intro w hSw; obtain ⟨sx, sy, sz⟩ := hSw; obtain ⟨a0, a1, a2, a3, a4, a5, a6, a7, a8⟩ := sx.nine; obtain ⟨b0, b1, b2, b3, b4, b5, b6, b7, b8⟩ := sy.nine; obtain ⟨d0, d1, d2, d3, d4, d5, d6, d7, d8⟩ := sz.nine; go_simp; (try with_reducible rfl)
  (try simp only [Act.put, gA, gB, gC, sA, sB, sC])
  refine wpAnyH_ready (rs := [13]) (by kernel_rfl) (by simp) ?_
  refine AllReadyH.cons (o := _) rfl (fun K hK => ?_) AllReadyH.nil
  go_simp
  (go_at_call 7; refine (live_c _ (HTL.out.below HB10.out)).mono ?_; rintro e w11 ⟨rfl, hb11⟩; have HB11 := hidp (Bgo HB10.out hb11); have HX11 := hidp (HX10.out.keep hb11); have HOX11 := hidp (own_below HOX10.out hb11); have HY11 := hidp (HY10.out.keep hb11); have HOY11 := hidp (own_below HOY10.out hb11); have HZ11 := hidp (HZ10.out.keep hb11); have HOZ11 := hidp (own_below HOZ10.out hb11); clear hb11)
  refine hK.out _ _ ?_ (fun hHeld => ?_)
  · (try dsimp only)
    first | exact ⟨HX7.out.drew, HY7.out.drew, HZ7.out.drew⟩ | exact ⟨HX8.out, HY8.out, HZ8.out⟩ | exact ⟨HX9.out, HY9.out, HZ9.out⟩ | exact ⟨HX10.out, HY10.out, HZ10.out⟩ | exact ⟨HX11.out, HY11.out, HZ11.out⟩ | exact hHeld
  clear hK K
  (try simp only [Act.put, gA, gB, gC, sA, sB, sC])
  refine tkO (i := 14) (v := ?_) rfl (by kernel_rfl) (fun _ _ _ h => h) (by rfl) ?_ (by assumption) ?_
  rotate_left
  · intro w hSw; obtain ⟨sx, sy, sz⟩ := hSw; obtain ⟨a0, a1, a2, a3, a4, a5, a6, a7, a8⟩ := sx.nine; obtain ⟨b0, b1, b2, b3, b4, b5, b6, b7, b8⟩ := sy.nine; obtain ⟨d0, d1, d2, d3, d4, d5, d6, d7, d8⟩ := sz.nine; go_simp; (try with_reducible rfl)
  (try simp only [Act.put, gA, gB, gC, sA, sB, sC])
  refine tkO (i := 15) (v := ?_) rfl (by kernel_rfl) (fun _ _ _ h => h) (by rfl) ?_ (by assumption) ?_
  rotate_left
  · intro w hSw; obtain ⟨sx, sy, sz⟩ := hSw; obtain ⟨a0, a1, a2, a3, a4, a5, a6, a7, a8⟩ := sx.nine; obtain ⟨b0, b1, b2, b3, b4, b5, b6, b7, b8⟩ := sy.nine; obtain ⟨d0, d1, d2, d3, d4, d5, d6, d7, d8⟩ := sz.nine; go_simp; (try with_reducible rfl)
  (try simp only [Act.put, gA, gB, gC, sA, sB, sC])
  refine wpAnyH_done (by kernel_rfl) ?_ _
  go_wp2_with fail
  go_ret
  exact ⟨rfl, HB11.out⟩
end Go.Proofs.YtbaofpdjfoaiiaaGreatDoor

/-
  The law AuditStates, from its arguments. Written by audit/gen_laws.py.
-/
namespace Go.Proofs.YtbaofpdjfoaiiaaGreatDoor
open Go.ChangeShapes Go.WideShapes Go.ChangeAt Go.RowKit Go.Shelf
set_option linter.unusedVariables false
set_option linter.unusedSimpArgs false

theorem three_is {t q s : Int} (W : World) (A : Option Addr) (c : Nat) (vals : List Nat) (hnc : vals.length ≤ c) (hcm : c ≤ maxLen) (h32 : ∀ x ∈ vals, x < 2 ^ 32) (hR : Reads W W.heap.size 1 A vals.length (u32Vs vals)) (hT : SlotsLaid W) :
    ∃ (ok : Bool) (L : List (Int × Int)) (r0 r1 r2 r3 r4 r5 r6 r7 : Int), L.length ≤ 100000 ∧ AuStIs W t q s A vals.length c ok L r0 r1 r2 r3 r4 r5 r6 r7 ∧ XStIs W t q s A vals.length c ok L r0 r1 r2 r3 r4 r5 r6 r7 ∧ AuLvIs W t q s A vals.length c L := by
  rcases heap_or2 W t q s A c vals hnc hcm h32 hR hT with ⟨m, hC, hX⟩ | ⟨H, ad, m, b, ht, hp, hs, rfl, HV, hv, hto, hC, hX⟩
  · exact ⟨false, [], 0, 0, 0, 0, 0, 0, 0, 0, by simp, auStIs_no hC, xStIs_no hX, auLvIs_no hC⟩
  · subst ht hp hs
    cases b
    · exact ⟨false, [], 0, 0, 0, 0, 0, 0, 0, 0, by simp, auStIs_no hC, xStIs_no hX, auLvIs_no hC⟩
    · exact ⟨true, _, _, _, _, _, _, _, _, _, blocks_few HV, auStIs_yes HV (told_tiled hto) hv hT hC, xStIs_yes HV hv hX, auLvIs_yes HV (told_tiled hto) hv hT hC⟩

set_option maxRecDepth 100000 in
theorem AuditStates_walk {H : Type} {enc : TypeId × Value → H} {W : World} {base : Nat} {args : Array Value} {ds : List (DataW H)} {ps : List MemPlace} (hL : laidMetH Tryz.prog Rows.auditStatesRow.laid W)
    (g : Given enc Tryz.prog Tryz.f4 W base args ds ps) : Calls Tryz.prog 4 args W (Keeps W) := by
  have hval := g.ok
  have hA := g.trod
  have hlt := g.lt
  rw [Tryz.params4] at hA hval
  obtain ⟨v0, vs0, d0, ds0, p0, q0, hargs, rfl, rfl, h0, r0⟩ := trodAll_cons hA
  obtain ⟨v1, vs1, d1, ds1, p1, q1, rfl, rfl, rfl, h1, r1⟩ := trodAll_cons r0
  obtain ⟨v2, vs2, d2, ds2, p2, q2, rfl, rfl, rfl, h2, r2⟩ := trodAll_cons r1
  obtain ⟨rfl, rfl, rfl⟩ := trodAll_nil r2
  obtain rfl : args = #[v0, v1, v2] := by cases args; simp_all
  obtain ⟨t, q, s, rfl⟩ := open_conf (hval 0 23 v0 rfl rfl) h0
  have hlt1 : ∀ x ∈ p1, x.block < W.heap.size := fun x hx => hlt x (by simp [hx])
  obtain ⟨A, c, vals, rfl, hnc, hcm, h32, hR⟩ := open_u32s Tryz.underlying24 Tryz.underlying42 (by kernel_rfl) (hval 1 24 v1 rfl rfl) h1 hlt1
  have hlt2 : ∀ x ∈ p2, x.block < W.heap.size := fun x hx => hlt x (by simp [hx])
  obtain ⟨A2, c2, vals2, rfl, hnc2, hcm2, h322, hR2⟩ := open_u32s Tryz.underlying24 Tryz.underlying42 (by kernel_rfl) (hval 2 24 v2 rfl rfl) h2 hlt2
  have hT := slots12_laid hL (by kernel_rfl)
  rcases Int.lt_or_le 64 q with hq | hq
  · exact AuditStates_few t q s A vals.length c A2 vals2.length c2 hq W hT
  · obtain ⟨ok, L, r0, r1, r2, r3, r4, r5, r6, r7, hl, g1, g2, g3⟩ := three_is (t := t) (q := q) (s := s) W A c vals hnc hcm h32 hR hT
    obtain ⟨ok2, M, p0, p1, p2, p3, p4, p5, p6, p7, hm, f1, f2, f3⟩ := three_is (t := t) (q := q) (s := s) W A2 c2 vals2 hnc2 hcm2 h322 hR2 hT
    exact AuditStates_all t q s A A2 vals.length c vals2.length c2 ok ok2 L M r0 r1 r2 r3 r4 r5 r6 r7 p0 p1 p2 p3 p4 p5 p6 p7 hq W hT g1 g2 f2 g3 hl hm
end Go.Proofs.YtbaofpdjfoaiiaaGreatDoor

/-
  Proved: AuditStates answers true at every input, never panics, and changes nothing that was there. The listed variable (class.slots) is tied to the text by the given tie. Conditions: none beyond those of the given statement.
-/
namespace Go.Proofs.YtbaofpdjfoaiiaaGreatDoor
open Go.ChangeShapes Go.WideShapes Go.ChangeAt Go.RowKit

theorem AuditStates_met (os : Os) (args : Array Value) : laidMetH Tryz.prog Rows.auditStatesRow.laid ((World.laidAll Tryz.prog os Rows.auditStatesRow.laid).forCall (fun _ _ => 0) ⟨#[], args, []⟩).memory := by
  rw [MakeChecks.laidMetH_plain _ _ _ (by kernel_rfl)]
  exact laidMet_laidAll _ (by kernel_rfl) (by kernel_rfl)

set_option maxRecDepth 100000 in
theorem AuditStates_lifted (os : Os) (started : os.Started) (H : Type) (enc : TypeId × Value → H) :
    ReturnsInHanded {} Tryz.checked os 4 .any (fun w args => (Rows.auditStatesSpec.pre enc Tryz.prog Tryz.f4 [] false w args ∧ laidMetH Tryz.prog Rows.auditStatesRow.laid w) ∧ sizedMet enc Tryz.prog Tryz.f4 (OpenSpec.ofChange Rows.auditStatesSpec) false w args)
      (Rows.auditStatesSpec.post enc Tryz.prog Tryz.f4 false true false false) :=
  law_lifted_laid (C := Tryz.checked) (tb := 4) (laid := Rows.auditStatesRow.laid) (by kernel_rfl) started (by kernel_rfl) Tryz.func4
    (ChangeSpec.witness_shaped (enc := enc) (C := Tryz.checked) (os := os) (X := fun w _ => laidMetH Tryz.prog Rows.auditStatesRow.laid w) false (World.laidAll Tryz.prog os Rows.auditStatesRow.laid) #[.agg #[.int .i64 0, .int .i64 0, .int .i64 0], .slice none 0 0, .slice none 0 0] 8
      (World.laidAll_os _ _ _) (World.shaped_of_ZipB (by kernel_rfl) (by kernel_rfl)) (by kernel_rfl) (by kernel_rfl) (by kernel_rfl) (AuditStates_met os _))
    (by kernel_rfl) (by kernel_rfl) rfl (by kernel_rfl) Tryz.underlying4
    (fun ds h => by
      have h' : ds.length = 3 := h
      match ds, h' with
      | [_, _, _], _ => rfl)
    (fun W base args ds ps hL g => AuditStates_walk hL g)

theorem AuditStates_holds : Rows.AuditStatesSaid :=
  OpenClaim.holds_of_wide 4 Tryz.f4 rfl rfl rfl rfl rfl rfl rfl ⟨rfl, rfl, rfl, rfl, rfl⟩ rfl rfl rfl rfl rfl (by kernel_rfl) Tryz.func4 (by kernel_rfl)
    (of_decide_eq_true (by kernel_rfl)) (by unfold Func.isWrapper; first | (rw [if_pos (by decide +kernel)]; kernel_rfl) | (rw [if_neg (by decide +kernel)]; exact ⟨rfl, rfl⟩))
    (fun os started H enc _ => AuditStates_lifted os started H enc)

theorem AuditStatesCard_holds : Rows.AuditStatesCardSaid :=
  card_of 4 Tryz.f4 AuditStates_holds (by kernel_rfl) auditStates_row_tie rfl ⟨rfl, rfl⟩ (by kernel_rfl) rfl (by kernel_rfl) Tryz.func4 (by kernel_rfl) (by kernel_rfl) (by kernel_rfl)
end Go.Proofs.YtbaofpdjfoaiiaaGreatDoor
