/-
  The document's Same. Written by audit/gen_same.py.
-/
import Derived.Test.YtnamlhkccgnbfaaGreatK16
import Derived.Test.YtnamlhkccgnbfaaGreatK05
import Derived.Test.YtnamlhkccgnbfaaGreatK11
namespace Go.Proofs.YtnamlhkccgnbfaaGreat
open Go.ChangeShapes Go.WideShapes Go.ChangeAt Go.RowKit Go.Shelf
set_option linter.unusedVariables false
set_option linter.unusedSimpArgs false

set_option maxHeartbeats 6400000 in
set_option maxRecDepth 100000 in
theorem xSame_len (l1 l2 : List (Int × Int)) (A1 A2 : Option Addr) (nl c1 c2 b1 b2 : Nat) (r0 r1 r2 r3 r4 r5 r6 r7 p0 p1 p2 p3 p4 p5 p6 p7 : Int) (w : World) (h1 : l1.length = nl) (h2 : l2.length = nl) (hnl : nl ≤ 100000) (hnl : nl ≤ 100000)
    (hO1 : w.ownsRow b1 64 2 (.slice A1 nl c1) nl (bkVs l1)) (hO2 : w.ownsRow b2 64 2 (.slice A2 nl c2) nl (bkVs l2)) (b : Bool) (hb : b = true ↔ [r0, r1, r2, r3, r4, r5, r6, r7] = [p0, p1, p2, p3, p4, p5, p6, p7] ∧ l1 = l2) :
    Calls Tryz.prog 30 #[.agg #[.slice A1 nl c1, .int .i64 r0, .int .i64 r1, .int .i64 r2, .int .i64 r3, .int .i64 r4, .int .i64 r5, .int .i64 r6, .int .i64 r7], .agg #[.slice A2 nl c2, .int .i64 p0, .int .i64 p1, .int .i64 p2, .int .i64 p3, .int .i64 p4, .int .i64 p5, .int .i64 p6, .int .i64 p7]] w fun e w' => e = .returned (.bool b) ∧ Below w.heap.size w w' := by
  have HX1 := hidp ((Held.new w 54 #[.slice A1 nl c1, .int .i64 r0, .int .i64 r1, .int .i64 r2, .int .i64 r3, .int .i64 r4, .int .i64 r5, .int .i64 r6, .int .i64 r7]).alloc (.cells #[.slice A2 nl c2, .int .i64 p0, .int .i64 p1, .int .i64 p2, .int .i64 p3, .int .i64 p4, .int .i64 p5, .int .i64 p6, .int .i64 p7] 54))
  have HX2 := hidp (Held.new2 w (.cells #[.slice A1 nl c1, .int .i64 r0, .int .i64 r1, .int .i64 r2, .int .i64 r3, .int .i64 r4, .int .i64 r5, .int .i64 r6, .int .i64 r7] 54) 54 #[.slice A2 nl c2, .int .i64 p0, .int .i64 p1, .int .i64 p2, .int .i64 p3, .int .i64 p4, .int .i64 p5, .int .i64 p6, .int .i64 p7])
  obtain ⟨x0, x1, x2, x3, x4, x5, x6, x7, x8⟩ := HX1.out.nine
  obtain ⟨y0, y1, y2, y3, y4, y5, y6, y7, y8⟩ := HX2.out.nine
  have HBW := hidp (Bnew (Bnew (B0 w) (.cells #[.slice A1 nl c1, .int .i64 r0, .int .i64 r1, .int .i64 r2, .int .i64 r3, .int .i64 r4, .int .i64 r5, .int .i64 r6, .int .i64 r7] 54)) (.cells #[.slice A2 nl c2, .int .i64 p0, .int .i64 p1, .int .i64 p2, .int .i64 p3, .int .i64 p4, .int .i64 p5, .int .i64 p6, .int .i64 p7] 54))
  have HO1 := hidp ((hO1.alloc (.cells #[.slice A1 nl c1, .int .i64 r0, .int .i64 r1, .int .i64 r2, .int .i64 r3, .int .i64 r4, .int .i64 r5, .int .i64 r6, .int .i64 r7] 54)).alloc (.cells #[.slice A2 nl c2, .int .i64 p0, .int .i64 p1, .int .i64 p2, .int .i64 p3, .int .i64 p4, .int .i64 p5, .int .i64 p6, .int .i64 p7] 54))
  have HO2 := hidp ((hO2.alloc (.cells #[.slice A1 nl c1, .int .i64 r0, .int .i64 r1, .int .i64 r2, .int .i64 r3, .int .i64 r4, .int .i64 r5, .int .i64 r6, .int .i64 r7] 54)).alloc (.cells #[.slice A2 nl c2, .int .i64 p0, .int .i64 p1, .int .i64 p2, .int .i64 p3, .int .i64 p4, .int .i64 p5, .int .i64 p6, .int .i64 p7] 54))
  have HL1 := hidp h1
  have HL2 := hidp h2
  obtain ⟨h11, h12⟩ := own_caps3 hO1
  obtain ⟨h21, h22⟩ := own_caps3 hO2
  have h12 : c1 ≤ 9223372036854775807 := h12
  have h22 : c2 ≤ 9223372036854775807 := h22
  have hei := eq8_iff r0 r1 r2 r3 r4 r5 r6 r7 p0 p1 p2 p3 p4 p5 p6 p7
  have he := fun W => eq8_run r0 r1 r2 r3 r4 r5 r6 r7 p0 p1 p2 p3 p4 p5 p6 p7 W
  obtain ⟨eb, heb⟩ : ∃ eb, (r0 == p0 && (r1 == p1 && (r2 == p2 && (r3 == p3 && (r4 == p4 && (r5 == p5 && (r6 == p6 && (r7 == p7)))))))) = eb := ⟨_, rfl⟩
  rw [heb] at hei
  simp only [heb] at he
  have q0 : ((nl : Int) != (nl : Int)) = false := by simp
  cases eb
  · have HBF : Hid (b = false) := hidp (bool_no hb (fun h => by have := hei.2 h.1; cases this))
    clear hei heb hb h1 h2 hO1 hO2
    go_enter Tryz.func30, Tryz.ntmps30
    go_wp2_with fail
    go_ret
    exact ⟨by rw [HBF.out]; rfl, HBW.out⟩
  · have HBC : Hid (b = true ↔ l1 = l2) := hidp (hb.trans ⟨fun h => h.2, fun h => ⟨hei.1 rfl, h⟩⟩)
    clear hei heb hb h1 h2 hO1 hO2
    go_enter Tryz.func30, Tryz.ntmps30
    go_wp2_with fail
    generalize (w.alloc (.cells #[.slice A1 nl c1, .int .i64 r0, .int .i64 r1, .int .i64 r2, .int .i64 r3, .int .i64 r4, .int .i64 r5, .int .i64 r6, .int .i64 r7] 54)).alloc (.cells #[.slice A2 nl c2, .int .i64 p0, .int .i64 p1, .int .i64 p2, .int .i64 p3, .int .i64 p4, .int .i64 p5, .int .i64 p6, .int .i64 p7] 54) = WL at *
    clear he x1 x2 x3 x4 x5 x6 x7 x8 y1 y2 y3 y4 y5 y6 y7 y8 q0
    go_loopw [5] (fun u5 wr => ∃ (i d : Nat), i ≤ nl ∧ u5 = .int .i64 (i : Int) ∧ Hid (l1.take i = l2.take i) ∧ wr = WL.drewN d) (fun u5 _ => nl - (intOf u5).toNat)
    case atStart => exact ⟨0, 0, by omega, rfl, hidp rfl, rfl⟩
    case round =>
      obtain ⟨i, d, hi, rfl, HTE, rfl⟩ := hrel
      by_cases hlt : i < nl
      · obtain ⟨x, hx⟩ : ∃ x, l1[i]? = some x := ⟨_, List.getElem?_eq_getElem (by have := HL1.out; omega)⟩
        obtain ⟨y, hy⟩ : ∃ y, l2[i]? = some y := ⟨_, List.getElem?_eq_getElem (by have := HL2.out; omega)⟩
        obtain ⟨g1, cv1, hv1, _, _⟩ := HO1.out.form (by omega)
        injection hv1 with hv1 _ hc1
        subst hv1
        subst hc1
        obtain ⟨g2, cv2, hv2, _, _⟩ := HO2.out.form (by omega)
        injection hv2 with hv2 _ hc2
        subst hv2
        subst hc2
        obtain ⟨p0, p1⟩ := own_block0 HO1.out HL1.out hx
        obtain ⟨q0, q1⟩ := own_block0 HO2.out HL2.out hy
        have HNE : Hid (x ≠ y → ¬ l1 = l2) := hidp (fun h e => h (by rw [e, hy] at hx; exact (Option.some.inj hx).symm))
        have HSU : Hid (x = y → l1.take (i + 1) = l2.take (i + 1)) := hidp (fun h => by rw [List.take_add_one, List.take_add_one, HTE.out, hx, hy, h])
        obtain ⟨a1, z1⟩ := x
        obtain ⟨a2, z2⟩ := y
        have t0 : decide ((i : Int) < nl) = true := decide_eq_true (by omega)
        have t0n : decide (i < nl) = true := decide_eq_true hlt
        simp only at p0 p1 q0 q1
        clear hx hy
        by_cases ha : a1 = a2
        · subst ha
          by_cases hz : z1 = z2
          · subst hz
            have HT1 := hidp (HSU.out rfl)
            go_wp2_with fail
            refine wp_region_held_drew (S := (fun w' => w'.cell? ⟨g1, i * 2, none⟩ = some (.int .i64 a1) ∧ w'.cell? ⟨g1, i * 2 + 1, none⟩ = some (.int .i64 z1) ∧ w'.cell? ⟨g2, i * 2, none⟩ = some (.int .i64 a1) ∧ w'.cell? ⟨g2, i * 2 + 1, none⟩ = some (.int .i64 z1) ∧ w'.cell? ⟨w.heap.size, 0, none⟩ = some (.slice (some ⟨g1, 0, none⟩) nl c1) ∧ w'.cell? ⟨w.heap.size + 1, 0, none⟩ = some (.slice (some ⟨g2, 0, none⟩) nl c2))) (by kernel_rfl) ?_ (fun hHeld => ?_)
            · (try dsimp only)
              first | exact ⟨p0, p1, q0, q1, x0, y0⟩ | exact hHeld
            refine tkz 0 ?_
            refine tkz 1 ?_
            refine tkz 2 ?_
            refine tkz 3 ?_
            refine tkz 4 ?_
            refine tkz 5 ?_
            refine tkz 6 ?_
            refine tkz 7 ?_
            refine tkz 8 ?_
            refine tkz 9 ?_
            refine tkz 10 ?_
            refine wpAnyH_done (by kernel_rfl) ?_ _
            go_wp2_with fail
            go_roundw
            case rel => exact ⟨i + 1, d + 1, by omega, by go_num, HT1, rfl⟩
            case measure => simp [intOf]; omega
          · have qz : (z1 == z2) = false := by simpa using hz
            have HBF : Hid (b = false) := hidp (bool_no HBC.out (HNE.out (fun e => hz (Prod.mk.inj e).2)))
            go_wp2_with fail
            refine wp_region_held_drew (S := (fun w' => w'.cell? ⟨g1, i * 2, none⟩ = some (.int .i64 a1) ∧ w'.cell? ⟨g1, i * 2 + 1, none⟩ = some (.int .i64 z1) ∧ w'.cell? ⟨g2, i * 2, none⟩ = some (.int .i64 a1) ∧ w'.cell? ⟨g2, i * 2 + 1, none⟩ = some (.int .i64 z2) ∧ w'.cell? ⟨w.heap.size, 0, none⟩ = some (.slice (some ⟨g1, 0, none⟩) nl c1) ∧ w'.cell? ⟨w.heap.size + 1, 0, none⟩ = some (.slice (some ⟨g2, 0, none⟩) nl c2))) (by kernel_rfl) ?_ (fun hHeld => ?_)
            · (try dsimp only)
              first | exact ⟨p0, p1, q0, q1, x0, y0⟩ | exact hHeld
            refine tkz 0 ?_
            refine tkz 1 ?_
            refine tkz 2 ?_
            refine tkz 3 ?_
            refine tkz 4 ?_
            refine tkz 5 ?_
            refine tkz 6 ?_
            refine tkz 7 ?_
            refine tkz 8 ?_
            refine tkz 9 ?_
            refine tkz 10 ?_
            refine wpAnyH_done (by kernel_rfl) ?_ _
            go_wp2_with fail
            go_ret
            exact ⟨by rw [HBF.out]; rfl, Bdraw HBW.out (d + 1)⟩
        · have qa : (a1 == a2) = false := by simpa using ha
          have HBF : Hid (b = false) := hidp (bool_no HBC.out (HNE.out (fun e => ha (Prod.mk.inj e).1)))
          go_wp2_with fail
          refine wp_region_held_drew (S := (fun w' => w'.cell? ⟨g1, i * 2, none⟩ = some (.int .i64 a1) ∧ w'.cell? ⟨g1, i * 2 + 1, none⟩ = some (.int .i64 z1) ∧ w'.cell? ⟨g2, i * 2, none⟩ = some (.int .i64 a2) ∧ w'.cell? ⟨g2, i * 2 + 1, none⟩ = some (.int .i64 z2) ∧ w'.cell? ⟨w.heap.size, 0, none⟩ = some (.slice (some ⟨g1, 0, none⟩) nl c1) ∧ w'.cell? ⟨w.heap.size + 1, 0, none⟩ = some (.slice (some ⟨g2, 0, none⟩) nl c2))) (by kernel_rfl) ?_ (fun hHeld => ?_)
          · (try dsimp only)
            first | exact ⟨p0, p1, q0, q1, x0, y0⟩ | exact hHeld
          refine tkz 0 ?_
          refine tkz 1 ?_
          refine tkz 2 ?_
          refine tkz 3 ?_
          refine tkz 4 ?_
          refine tkz 5 ?_
          refine tkz 6 ?_
          refine tkz 7 ?_
          refine tkz 8 ?_
          refine tkz 9 ?_
          refine tkz 10 ?_
          refine wpAnyH_done (by kernel_rfl) ?_ _
          go_wp2_with fail
          go_ret
          exact ⟨by rw [HBF.out]; rfl, Bdraw HBW.out (d + 1)⟩
      · have t0 : decide ((i : Int) < nl) = false := decide_eq_false (by omega)
        have t0n : decide (i < nl) = false := decide_eq_false hlt
        have HBT : Hid (b = true) := hidp (HBC.out.2 (by
          have h := HTE.out
          rwa [List.take_of_length_le (by have := HL1.out; omega), List.take_of_length_le (by have := HL2.out; omega)] at h))
        go_wp2_with fail
        go_ret
        exact ⟨by rw [HBT.out]; rfl, Bdraw HBW.out d⟩
set_option maxHeartbeats 1600000 in
theorem xSame_c (l1 l2 : List (Int × Int)) (A1 A2 : Option Addr) (n1 n2 c1 c2 b1 b2 : Nat) (r0 r1 r2 r3 r4 r5 r6 r7 p0 p1 p2 p3 p4 p5 p6 p7 : Int) (w : World) (h1 : l1.length = n1) (h2 : l2.length = n2) (hn1 : n1 ≤ 100000) (hn2 : n2 ≤ 100000)
    (hO1 : w.ownsRow b1 64 2 (.slice A1 n1 c1) n1 (bkVs l1)) (hO2 : w.ownsRow b2 64 2 (.slice A2 n2 c2) n2 (bkVs l2)) (b : Bool) (hb : b = true ↔ [r0, r1, r2, r3, r4, r5, r6, r7] = [p0, p1, p2, p3, p4, p5, p6, p7] ∧ l1 = l2) :
    Calls Tryz.prog 30 #[.agg #[.slice A1 n1 c1, .int .i64 r0, .int .i64 r1, .int .i64 r2, .int .i64 r3, .int .i64 r4, .int .i64 r5, .int .i64 r6, .int .i64 r7], .agg #[.slice A2 n2 c2, .int .i64 p0, .int .i64 p1, .int .i64 p2, .int .i64 p3, .int .i64 p4, .int .i64 p5, .int .i64 p6, .int .i64 p7]] w fun e w' => e = .returned (.bool b) ∧ Below w.heap.size w w' := by
  by_cases hne : n1 = n2
  · subst hne
    exact xSame_len l1 l2 A1 A2 n1 c1 c2 b1 b2 r0 r1 r2 r3 r4 r5 r6 r7 p0 p1 p2 p3 p4 p5 p6 p7 w h1 h2 hn1 hn2 hO1 hO2 b hb
  · have q0 : ((n1 : Int) != (n2 : Int)) = true := by simp; omega
    have q0n : (n1 != n2) = true := by simpa using hne
    have HBF : Hid (b = false) := hidp (bool_no hb (fun e => hne (by rw [← h1, ← h2, e.2])))
    have HX1 := hidp ((Held.new w 54 #[.slice A1 n1 c1, .int .i64 r0, .int .i64 r1, .int .i64 r2, .int .i64 r3, .int .i64 r4, .int .i64 r5, .int .i64 r6, .int .i64 r7]).alloc (.cells #[.slice A2 n2 c2, .int .i64 p0, .int .i64 p1, .int .i64 p2, .int .i64 p3, .int .i64 p4, .int .i64 p5, .int .i64 p6, .int .i64 p7] 54))
    have HX2 := hidp (Held.new2 w (.cells #[.slice A1 n1 c1, .int .i64 r0, .int .i64 r1, .int .i64 r2, .int .i64 r3, .int .i64 r4, .int .i64 r5, .int .i64 r6, .int .i64 r7] 54) 54 #[.slice A2 n2 c2, .int .i64 p0, .int .i64 p1, .int .i64 p2, .int .i64 p3, .int .i64 p4, .int .i64 p5, .int .i64 p6, .int .i64 p7])
    obtain ⟨x0, x1, x2, x3, x4, x5, x6, x7, x8⟩ := HX1.out.nine
    obtain ⟨y0, y1, y2, y3, y4, y5, y6, y7, y8⟩ := HX2.out.nine
    have HBW := hidp (Bnew (Bnew (B0 w) (.cells #[.slice A1 n1 c1, .int .i64 r0, .int .i64 r1, .int .i64 r2, .int .i64 r3, .int .i64 r4, .int .i64 r5, .int .i64 r6, .int .i64 r7] 54)) (.cells #[.slice A2 n2 c2, .int .i64 p0, .int .i64 p1, .int .i64 p2, .int .i64 p3, .int .i64 p4, .int .i64 p5, .int .i64 p6, .int .i64 p7] 54))
    have HO1 := hidp ((hO1.alloc (.cells #[.slice A1 n1 c1, .int .i64 r0, .int .i64 r1, .int .i64 r2, .int .i64 r3, .int .i64 r4, .int .i64 r5, .int .i64 r6, .int .i64 r7] 54)).alloc (.cells #[.slice A2 n2 c2, .int .i64 p0, .int .i64 p1, .int .i64 p2, .int .i64 p3, .int .i64 p4, .int .i64 p5, .int .i64 p6, .int .i64 p7] 54))
    have HO2 := hidp ((hO2.alloc (.cells #[.slice A1 n1 c1, .int .i64 r0, .int .i64 r1, .int .i64 r2, .int .i64 r3, .int .i64 r4, .int .i64 r5, .int .i64 r6, .int .i64 r7] 54)).alloc (.cells #[.slice A2 n2 c2, .int .i64 p0, .int .i64 p1, .int .i64 p2, .int .i64 p3, .int .i64 p4, .int .i64 p5, .int .i64 p6, .int .i64 p7] 54))
    have HL1 := hidp h1
    have HL2 := hidp h2
    obtain ⟨h11, h12⟩ := own_caps3 hO1
    obtain ⟨h21, h22⟩ := own_caps3 hO2
    have h12 : c1 ≤ 9223372036854775807 := h12
    have h22 : c2 ≤ 9223372036854775807 := h22
    have hei := eq8_iff r0 r1 r2 r3 r4 r5 r6 r7 p0 p1 p2 p3 p4 p5 p6 p7
    have he := fun W => eq8_run r0 r1 r2 r3 r4 r5 r6 r7 p0 p1 p2 p3 p4 p5 p6 p7 W
    obtain ⟨eb, heb⟩ : ∃ eb, (r0 == p0 && (r1 == p1 && (r2 == p2 && (r3 == p3 && (r4 == p4 && (r5 == p5 && (r6 == p6 && (r7 == p7)))))))) = eb := ⟨_, rfl⟩
    rw [heb] at hei
    simp only [heb] at he
    clear hei heb hb h1 h2 hO1 hO2 hne he
    go_enter Tryz.func30, Tryz.ntmps30
    go_wp2_with fail
    go_ret
    exact ⟨by rw [HBF.out]; rfl, HBW.out⟩
end Go.Proofs.YtnamlhkccgnbfaaGreat

namespace Go.Proofs.YtnamlhkccgnbfaaGreat
open Go.ChangeShapes Go.WideShapes Go.ChangeAt Go.RowKit Go.Maps
set_option linter.unusedVariables false
set_option linter.unusedSimpArgs false
set_option maxRecDepth 100000

section
variable {W w : World} {O1 O2 : Ob} {A B G : Nat → Prop} {s1 s2 : Vst}
theorem Duo.poke (h : Duo W O1 O2 A B G s1 s2 w) {p : Addr} (ha : ¬ A p.block) (hb : ¬ B p.block) (hW : W.heap.size ≤ p.block) (u : Value) : Duo W O1 O2 A B G s1 s2 (w.setCell p u) :=
  ⟨O1.turns h.i1 ((T0 (fun i => i = p.block) w).put (p := p) rfl u) (fun i hi e => ha (by rw [← e]; exact hi)), O2.turns h.i2 ((T0 (fun i => i = p.block) w).put (p := p) rfl u) (fun i hi e => hb (by rw [← e]; exact hi)), h.ab,
    fun g hg => ⟨by simp; exact (h.aG g hg).1, (h.aG g hg).2⟩, h.lo, Bput h.bel hW u⟩
theorem Duo.set9 {g : Nat} (h : Duo W O1 O2 A B G s1 s2 w) (ha : ¬ A g) (hb : ¬ B g) (hW : W.heap.size ≤ g) (a0 a1 a2 a3 a4 a5 a6 a7 a8 : Value) : Duo W O1 O2 A B G s1 s2 (set9 w g a0 a1 a2 a3 a4 a5 a6 a7 a8) :=
  ((((((((h.poke (p := ⟨g, 0, none⟩) ha hb hW a0).poke (p := ⟨g, 1, none⟩) ha hb hW a1).poke (p := ⟨g, 2, none⟩) ha hb hW a2).poke (p := ⟨g, 3, none⟩) ha hb hW a3).poke (p := ⟨g, 4, none⟩) ha hb hW a4).poke (p := ⟨g, 5, none⟩) ha hb hW a5).poke (p := ⟨g, 6, none⟩) ha hb hW a6).poke (p := ⟨g, 7, none⟩) ha hb hW a7).poke (p := ⟨g, 8, none⟩) ha hb hW a8
end
theorem blocks_few15 {H : AuH} {n c : Nat} (HV : HeapV H n c) : (blocksOf H.parts).length ≤ 60000 := by
  have h1 := blocksOf_len H.parts
  have h2 : H.parts.length ≤ H.p * 33 := AuH.parts_len H.p
  have := HV.nums.2.2.2.1
  omega
theorem addB_len (L : List (Int × Int)) (b : Int × Int) : (addB L b).length ≤ L.length + 2 := by
  have := addTo_len b L ([], false)
  unfold addB addTo
  simp at this
  split <;> simp <;> omega
theorem state_now {H : AuH} {n c : Nat} {K : Nat → Option Nat} (HV : HeapV H n c) {st : Vst} (hok : VOk n st) (h32 : ∀ i x, K i = some x → x < 2 ^ 32) (hvw : VW n K st) (hr : ∀ i, i < 10 → (nowH H n K st).rule i) (ho : ∀ i, i < 8 → (nowH H n K st).V (22 + i) = H.V (22 + i))
    (L : List (Int × Int)) (hL : blocksOf (nowH H n K st).parts = L) (r0 r1 r2 r3 r4 r5 r6 r7 : Nat) (h0 : H.V 22 = r0) (h1 : H.V 23 = r1) (h2 : H.V 24 = r2) (h3 : H.V 25 = r3) (h4 : H.V 26 = r4) (h5 : H.V 27 = r5) (h6 : H.V 28 = r6) (h7 : H.V 29 = r7) (w : World) (g cp : Nat) (hrow : RowF w g 58 n cp (valF (nowV K st.wr))) :
    Calls Tryz.prog 25 #[.agg #[.int .i64 (H.t : Int), .int .i64 (H.p : Int), .int .i64 (H.s : Int)], .slice (some ⟨g, 0, none⟩) n cp] w fun e w' => ∃ u, e = .returned (.tuple #[.agg #[u, .int .i64 (r0 : Int), .int .i64 (r1 : Int), .int .i64 (r2 : Int), .int .i64 (r3 : Int), .int .i64 (r4 : Int), .int .i64 (r5 : Int), .int .i64 (r6 : Int), .int .i64 (r7 : Int)], .bool true]) ∧ w'.ownsRow w.heap.size 64 2 u L.length (bkVs L) ∧ Below w.heap.size w w' := by
  have HV' := nowH_heap HV hok h32 (cp := cp) hrow.le hrow.max
  have hv' : IsVals w ⟨g, 0, none⟩ n (nowH H n K st).V := ⟨hrow.lt, fun i hi => by
    have e : (⟨g, 0, none⟩ : Addr).add i = ⟨g, i, none⟩ := by
      unfold Addr.add
      by_cases hz : i = 0
      · rw [if_pos hz, hz]
      · rw [if_neg hz]; simp
    have e2 : nowV K st.wr i = (nowH H n K st).V i := by
      show _ = curV n (getV n K st) H.V i
      rw [curV_in hi, hvw.at_ hi]
      rfl
    rw [e, hrow.cell hi]
    unfold valF
    rw [e2]⟩
  have hC := xCheckIs_yes HV' ⟨g, 0, none⟩ w hv' (m := 0) (b := true) (.inl ⟨rfl, rfl, hr⟩)
  have := xState_yes HV' ⟨g, 0, none⟩ 0 w hv' hC
  rw [hL, show (nowH H n K st).V 22 = r0 from (ho 0 (by omega)).trans h0, show (nowH H n K st).V 23 = r1 from (ho 1 (by omega)).trans h1, show (nowH H n K st).V 24 = r2 from (ho 2 (by omega)).trans h2, show (nowH H n K st).V 25 = r3 from (ho 3 (by omega)).trans h3, show (nowH H n K st).V 26 = r4 from (ho 4 (by omega)).trans h4, show (nowH H n K st).V 27 = r5 from (ho 5 (by omega)).trans h5, show (nowH H n K st).V 28 = r6 from (ho 6 (by omega)).trans h6, show (nowH H n K st).V 29 = r7 from (ho 7 (by omega)).trans h7] at this
  exact this
theorem now_zero {H : AuH} {n : Nat} {K : Nat → Option Nat} {st : Vst} (hn : 0 < n) (hvw : VW n K st) : nowV K st.wr 0 = (nowH H n K st).V 0 := by
  show _ = curV n (getV n K st) H.V 0
  rw [curV_in hn, hvw.at_ hn]
  rfl
theorem shift_few {H : AuH} {n c : Nat} (HV : HeapV H n c) : 10 ≤ H.s ∧ H.s ≤ 20 := by
  have := (rightB_iff _ _ _).1 HV.right
  omega
theorem page_few {H : AuH} {n c g : Nat} (HV : HeapV H n c) (hg : g = 2 ^ H.s) : g ≤ 1048576 := by
  have h := (shift_few HV).2
  rw [hg]
  have := Nat.pow_le_pow_right (show 0 < 2 by omega) h
  omega
theorem shift_page {H : AuH} {n c g : Nat} (HV : HeapV H n c) (hg : g = 2 ^ H.s) : IntKind.i64.wrap (2 ^ H.s) = (g : Int) := by
  have h1 := page_few HV hg
  have e : ((2 : Int) ^ H.s) = (g : Int) := by rw [hg]; push_cast; rfl
  rw [e]
  exact i64_same (by omega) (by omega)
theorem add_zero15 (ad : Addr) : ad.add 0 = ad := by unfold Addr.add; rw [if_pos rfl]
end Go.Proofs.YtnamlhkccgnbfaaGreat

namespace Go.Proofs.YtnamlhkccgnbfaaGreat
open Go.ChangeShapes Go.WideShapes Go.ChangeAt Go.RowKit Go.Maps
set_option linter.unusedVariables false
set_option linter.unusedSimpArgs false
set_option maxRecDepth 100000

theorem addTo_few (b : Int × Int) (L : List (Int × Int)) : (addTo b L).1.length ≤ L.length + 1 := by
  have := addTo_len b L ([], false)
  unfold addTo
  simp at this
  exact this
theorem addTo_flat {b : Int × Int} {L : List (Int × Int)} {nl : Nat} (hn : L.length = nl) : ∀ j, j ≤ nl → (addTo b (L.take j)).2 = false → (addTo b (L.take j)).1.length = j
  | 0, _, _ => by simp [addTo]
  | j + 1, hj, h => by
    obtain ⟨x, hx⟩ : ∃ x, L[j]? = some x := ⟨_, List.getElem?_eq_getElem (by omega)⟩
    have e : L.take (j + 1) = L.take j ++ [x] := by rw [List.take_add_one, hx]; rfl
    rw [e, addTo_snoc] at h ⊢
    unfold addStep at h ⊢
    split at h
    · cases h
    · rename_i hc
      rw [if_neg hc]
      have := addTo_flat hn j (by omega) h
      simp [this]
set_option maxHeartbeats 12800000 in
theorem add15_c (L : List (Int × Int)) (b1 b2 : Int) (A : Option Addr) (nl c b0 : Nat) (w : World) (hn : L.length = nl) (hnl : nl ≤ 100000) (hO : w.ownsRow b0 64 2 (.slice A nl c) nl (bkVs L)) :
    Calls Tryz.prog 29 #[.slice A nl c, .agg #[.int .i64 b1, .int .i64 b2]] w fun e w' => ∃ u, e = .returned u ∧ w'.ownsRow w.heap.size 64 2 u (addB L (b1, b2)).length (bkVs (addB L (b1, b2))) ∧ Below w.heap.size w w' := by
  obtain ⟨j0, hjn, hjz0, hjz1, hjz2⟩ := info_parts blockInfo
  have HNL := hidp hn
  have HO0 := hidp hO
  have HCV := hidp (own_caps3 hO)
  have hcv : nl ≤ c ∧ c ≤ 9223372036854775807 := HCV.out
  have HX0 := hidp ((Held.new w 64 #[.int .i64 b1, .int .i64 b2]).alloc (.cells #[] 64))
  have HBW := hidp (Bnew (Bnew (B0 w) (.cells #[.int .i64 b1, .int .i64 b2] 64)) (.cells #[] 64))
  have HOW : Hid (((w.alloc (.cells #[.int .i64 b1, .int .i64 b2] 64)).alloc (.cells #[] 64)).ownsRow (w.heap.size + 1) 64 2 (.slice (some ⟨(w.alloc (.cells #[.int .i64 b1, .int .i64 b2] 64)).heap.size, 0, none⟩) 0 0) 0 []) := hidp (World.ownsRow_lit (base := w.heap.size + 1) (e := 64) (size := 2) (w.alloc (.cells #[.int .i64 b1, .int .i64 b2] 64)) #[] 0 (by simp) (by unfold maxLen; omega) rfl)
  rw [World.size_alloc] at HOW
  clear hO hn
  go_enter Tryz.func29, Tryz.ntmps29
  go_wp2_with fail
  go_loopw [5, 6, 7] (fun u5 u6 u7 wr => ∃ (i k : Nat) (d : Bool), i ≤ nl ∧ u7 = .int .i64 (i : Int) ∧ u6 = .bool d ∧ k ≤ i + 1 ∧ Hid ((addTo (b1, b2) (L.take i)).1.length = k) ∧ Hid ((addTo (b1, b2) (L.take i)).2 = d) ∧ Hid (wr.ownsRow (w.heap.size + 1) 64 2 u5 k (bkVs (addTo (b1, b2) (L.take i)).1)) ∧ Hid (Held wr w.heap.size 64 #[.int .i64 b1, .int .i64 b2]) ∧ Hid (Below w.heap.size w wr)) (fun _ _ u7 _ => nl - (intOf u7).toNat)
  case atStart => exact ⟨0, 0, false, by omega, rfl, rfl, by omega, hidp rfl, hidp rfl, HOW, HX0, HBW⟩
  case round =>
    clear HOW HBW HX0
    obtain ⟨i, k, d, hi, rfl, rfl, hki, HM, HD, HO, HX, HB⟩ := hrel
    obtain ⟨y0, y1⟩ := HX.out.two
    by_cases hlt : i < nl
    · obtain ⟨x, hx⟩ : ∃ x, L[i]? = some x := ⟨_, List.getElem?_eq_getElem (by have := HNL.out; omega)⟩
      obtain ⟨gv, cv', hvv, hbv, hlv⟩ := HO0.out.form (by omega)
      injection hvv with hvv hn0 hcc
      subst hvv
      subst hcc
      obtain ⟨p0, p1⟩ := own_block0 (own_below HO0.out HB.out) HNL.out hx
      have HTK : Hid (L.take (i + 1) = L.take i ++ [x]) := hidp (by rw [List.take_add_one, hx]; rfl)
      have hkm := addTo_few (b1, b2) (L.take i)
      obtain ⟨ad, z⟩ := x
      have t0 : decide ((i : Int) < nl) = true := decide_eq_true (by omega)
      clear hn0 hx
      simp only at p0 p1
      have HPP : Hid (wr.cell? ⟨w.heap.size, 0, none⟩ = some (.int .i64 b1) ∧ wr.cell? ⟨gv, i * 2, none⟩ = some (.int .i64 ad)) := hidp ⟨y0, p0⟩
      have hbs := HB.out.size
      generalize hT : addTo (b1, b2) (L.take i) = T at *
      obtain ⟨acc, dd⟩ := T
      simp only at HM HD HO hkm
      have hdd := HD.out
      have hmm := HM.out
      have hkk : k ≤ i + 1 := hki
      have hacc : acc.length ≤ i + 1 := by rw [List.length_take] at hkm; omega
      have HXX : Hid (L[i]? = some (ad, z)) := hidp (by
        have h1 := HTK.out
        have h2 : (L.take (i + 1))[i]? = some (ad, z) := by rw [h1, List.getElem?_append_right (by rw [List.length_take]; omega), List.length_take]; have : min i L.length = i := by have := HNL.out; omega
                                                            rw [this]; simp
        rw [List.getElem?_take] at h2
        simpa using h2)
      have hk2 : d = true → k ≤ i + 1 := fun _ => hki
      cases d with
      | true =>
        subst hdd
        have HT1 : Hid (addTo (b1, b2) (L.take (i + 1)) = (acc ++ [(ad, z)], true)) := hidp (by rw [HTK.out, addTo_snoc, hT]; unfold addStep; rw [if_neg (by simp)])
        clear hT
        go_wp2_with fail
        have HSD : Hid ((fun w' => w'.cell? ⟨w.heap.size, 0, none⟩ = some (.int .i64 b1) ∧ w'.cell? ⟨gv, i * 2, none⟩ = some (.int .i64 ad)) wr.drew) := hidp HPP.out
        refine wp_region_held_drew (S := (fun w' => w'.cell? ⟨w.heap.size, 0, none⟩ = some (.int .i64 b1) ∧ w'.cell? ⟨gv, i * 2, none⟩ = some (.int .i64 ad))) (by kernel_rfl) ?_ (fun hHeld => ?_)
        · (try dsimp only)
          exact HSD.out
        refine tkz 0 ?_
        refine tkz 1 ?_
        refine tkz 2 ?_
        refine skO (i := 3) rfl (by kernel_rfl) (fun _ _ _ h => h) (by rfl) (by assumption) ?_
        (try simp only [Act.put, gA, gB, gC, sA, sB, sC])
        refine skO (i := 4) rfl (by kernel_rfl) (fun _ _ _ h => h) (by rfl) (by assumption) ?_
        (try simp only [Act.put, gA, gB, gC, sA, sB, sC])
        refine skO (i := 5) rfl (by kernel_rfl) (fun _ _ _ h => h) (by rfl) (by assumption) ?_
        (try simp only [Act.put, gA, gB, gC, sA, sB, sC])
        refine skO (i := 6) rfl (by kernel_rfl) (fun _ _ _ h => h) (by rfl) (by assumption) ?_
        (try simp only [Act.put, gA, gB, gC, sA, sB, sC])
        refine skO (i := 7) rfl (by kernel_rfl) (fun _ _ _ h => h) (by rfl) (by assumption) ?_
        (try simp only [Act.put, gA, gB, gC, sA, sB, sC])
        refine skO (i := 8) rfl (by kernel_rfl) (fun _ _ _ h => h) (by rfl) (by assumption) ?_
        (try simp only [Act.put, gA, gB, gC, sA, sB, sC])
        refine skO (i := 9) rfl (by kernel_rfl) (fun _ _ _ h => h) (by rfl) (by assumption) ?_
        (try simp only [Act.put, gA, gB, gC, sA, sB, sC])
        refine skO (i := 10) rfl (by kernel_rfl) (fun _ _ _ h => h) (by rfl) (by assumption) ?_
        (try simp only [Act.put, gA, gB, gC, sA, sB, sC])
        refine tkz 11 ?_
        refine wpAnyH_done (by kernel_rfl) ?_ _
        have HOd := hidp (own_below HO.out (Bdrew (B0 wr)))
        have HXd := hidp (HX.out.keep (Bdrew (B0 wr)))
        have HBd := hidp (Bdrew HB.out)
        have HPd := hidp (own_block0 (own_below HO0.out HBd.out) HNL.out HXX.out)
        obtain ⟨y0, y1⟩ := HXd.out.two
        obtain ⟨p0, p1⟩ := HPd.out
        dsimp only at p0 p1
        generalize hwd : wr.drew = wd at *
        clear hwd
        have hbsd := HBd.out.size
        have hxsd := HXd.out.lt
        go_wp2_with (first
          | (at_builtin
             refine wpList_append_lies _ rfl _ _ 51 rfl (w.heap.size + 1) 64 j0 (.agg #[.int .i64 0, .int .i64 0]) 2 16 Tryz.underlying51 hjn hjz0 hjz1 hjz2 rfl (by decide) u5 (k) (bkVs (acc)) rfl (HOd.out.alloc _) ⟨_, 0, none⟩ 1 1 [.int .i64 ad, .int .i64 z] rfl rfl ?c1 ?c2 (by omega) ?c3 ?c4 ?c5 _ rfl ?_
             case c1 => intro jj yy hyy; rcases jj with _ | _ | jj; (· simp at hyy; subst hyy; simp [Addr.add]); (· simp at hyy; subst hyy; simp [Addr.add]); (· simp at hyy)
             case c2 => simp [Value.oneCell']
             case c3 => unfold maxLen; omega
             case c4 => omega
             case c5 => simp; omega
             intro g8 capg8 w8 hown8 hgrow8 hat8 hlt8)
          | fail)
        
        have HO8 : Hid (w8.ownsRow (w.heap.size + 1) 64 2 (.slice (some ⟨g8, 0, none⟩) (k + 1) capg8) (k + 1) (bkVs (addTo (b1, b2) (L.take (i + 1))).1)) := hidp (by rw [HT1.out]; show w8.ownsRow _ _ _ _ _ (bkVs (acc ++ [(ad, z)])); rw [bkVs_snoc]; exact hown8)
        have HB8 : Hid (Below w.heap.size w w8) := hidp ((Bnew HBd.out _).grown hgrow8 (by have := HBd.out.size; simp; omega) (fun j hj => by have := (HOd.out.lt j hj).1; omega))
        have HX8 : Hid (Held w8 w.heap.size 64 #[.int .i64 b1, .int .i64 b2]) := hidp ((hgrow8.block _ (by have := HXd.out.lt; simp; omega) (fun e => by have := (HOd.out.lt _ e.symm).1; omega)).trans (HXd.out.alloc _))
        have HM1 : Hid ((addTo (b1, b2) (L.take (i + 1))).1.length = k + 1) := hidp (by rw [HT1.out]; simp; have := HM.out; omega)
        have HD1 : Hid ((addTo (b1, b2) (L.take (i + 1))).2 = true) := hidp (by rw [HT1.out])
        clear hown8 hgrow8 hat8 hlt8 y0 y1 p0 p1
        go_wp2_with fail
        go_roundw
        case rel => exact ⟨i + 1, k + 1, true, by omega, by go_num, rfl, by omega, HM1, HD1, HO8, HX8, HB8⟩
        case measure => simp [intOf]; omega
      | false =>
        have hkf : k ≤ i := by
          have h0 : ∀ j, j ≤ nl → (addTo (b1, b2) (L.take j)).2 = false → (addTo (b1, b2) (L.take j)).1.length = j := addTo_flat HNL.out
          have := h0 i (by omega) (by rw [hT]; exact hdd)
          rw [hT] at this
          simp only at this
          omega
        by_cases hlt2 : b1 < ad
        · subst hdd
          have HT1 : Hid (addTo (b1, b2) (L.take (i + 1)) = (acc ++ [(b1, b2)] ++ [(ad, z)], true)) := hidp (by rw [HTK.out, addTo_snoc, hT]; unfold addStep; rw [if_pos ⟨rfl, hlt2⟩])
          have t1 : decide (b1 < ad) = true := decide_eq_true hlt2
          clear hT
          go_wp2_with fail
          have HSD : Hid ((fun w' => w'.cell? ⟨w.heap.size, 0, none⟩ = some (.int .i64 b1) ∧ w'.cell? ⟨gv, i * 2, none⟩ = some (.int .i64 ad)) wr.drew) := hidp HPP.out
          refine wp_region_held_drew (S := (fun w' => w'.cell? ⟨w.heap.size, 0, none⟩ = some (.int .i64 b1) ∧ w'.cell? ⟨gv, i * 2, none⟩ = some (.int .i64 ad))) (by kernel_rfl) ?_ (fun hHeld => ?_)
          · (try dsimp only)
            exact HSD.out
          refine tkz 0 ?_
          refine tkz 1 ?_
          refine tkz 2 ?_
          refine tkz 3 ?_
          refine tkz 4 ?_
          refine tkz 5 ?_
          refine tkz 6 ?_
          refine tkz 7 ?_
          refine tkz 8 ?_
          refine tkz 9 ?_
          refine tkz 10 ?_
          refine tkz 11 ?_
          refine wpAnyH_done (by kernel_rfl) ?_ _
          have HOd := hidp (own_below HO.out (Bdrew (B0 wr)))
          have HXd := hidp (HX.out.keep (Bdrew (B0 wr)))
          have HBd := hidp (Bdrew HB.out)
          have HPd := hidp (own_block0 (own_below HO0.out HBd.out) HNL.out HXX.out)
          obtain ⟨y0, y1⟩ := HXd.out.two
          obtain ⟨p0, p1⟩ := HPd.out
          dsimp only at p0 p1
          generalize hwd : wr.drew = wd at *
          clear hwd
          have hbsd := HBd.out.size
          have hxsd := HXd.out.lt
          have HTOK : Hid True := hidp trivial
          go_wp2_with (first
            | (at_builtin
               have hz := HTOK.out
               clear hz HTOK
               refine wpList_append_lies _ rfl _ _ 51 rfl (w.heap.size + 1) 64 j0 (.agg #[.int .i64 0, .int .i64 0]) 2 16 Tryz.underlying51 hjn hjz0 hjz1 hjz2 rfl (by decide) u5 (k) (bkVs (acc)) rfl (HOd.out.alloc _) ⟨_, 0, none⟩ 1 1 [.int .i64 b1, .int .i64 b2] rfl rfl ?c1 ?c2 (by omega) ?c3 ?c4 ?c5 _ rfl ?_
               case c1 => intro jj yy hyy; rcases jj with _ | _ | jj; (· simp at hyy; subst hyy; simp [Addr.add]); (· simp at hyy; subst hyy; simp [Addr.add]); (· simp at hyy)
               case c2 => simp [Value.oneCell']
               case c3 => unfold maxLen; omega
               case c4 => omega
               case c5 => simp; omega
               intro g7 capg7 w7 hown8 hgrow8 hat8 hlt8
               have HO7 : Hid (w7.ownsRow (w.heap.size + 1) 64 2 (.slice (some ⟨g7, 0, none⟩) (k + 1) capg7) (k + 1) (bkVs (acc ++ [(b1, b2)]))) := hidp (by rw [bkVs_snoc]; exact hown8)
               have HB7 : Hid (Below w.heap.size w w7) := hidp ((Bnew HBd.out _).grown hgrow8 (by have := HBd.out.size; simp; omega) (fun j hj => by have := (HOd.out.lt j hj).1; omega))
               have HX7 : Hid (Held w7 w.heap.size 64 #[.int .i64 b1, .int .i64 b2]) := hidp ((hgrow8.block _ (by have := HXd.out.lt; simp; omega) (fun e => by have := (HOd.out.lt _ e.symm).1; omega)).trans (HXd.out.alloc _))
               clear hown8 hgrow8 hat8 hlt8 y0 y1 p0 p1
               have hbs7 := HB7.out.size
               have hxs7 := HX7.out.lt
               have HPd := hidp (own_block0 (own_below HO0.out HB7.out) HNL.out HXX.out)
               obtain ⟨p0, p1⟩ := HPd.out
               dsimp only at p0 p1
               obtain ⟨y0, y1⟩ := HX7.out.two)
            | (at_builtin
               refine wpList_append_lies _ rfl _ _ 51 rfl (w.heap.size + 1) 64 j0 (.agg #[.int .i64 0, .int .i64 0]) 2 16 Tryz.underlying51 hjn hjz0 hjz1 hjz2 rfl (by decide) (.slice (some ⟨g7, 0, none⟩) (k + 1) capg7) (k + 1) (bkVs (acc ++ [(b1, b2)])) rfl (HO7.out.alloc _) ⟨_, 0, none⟩ 1 1 [.int .i64 ad, .int .i64 z] rfl rfl ?c1 ?c2 (by omega) ?c3 ?c4 ?c5 _ rfl ?_
               case c1 => intro jj yy hyy; rcases jj with _ | _ | jj; (· simp at hyy; subst hyy; simp [Addr.add]); (· simp at hyy; subst hyy; simp [Addr.add]); (· simp at hyy)
               case c2 => simp [Value.oneCell']
               case c3 => unfold maxLen; omega
               case c4 => omega
               case c5 => simp; omega
               intro g8 capg8 w8 hown8 hgrow8 hat8 hlt8)
            | fail)
          
          have HO8 : Hid (w8.ownsRow (w.heap.size + 1) 64 2 (.slice (some ⟨g8, 0, none⟩) (k + 1 + 1) capg8) (k + 1 + 1) (bkVs (addTo (b1, b2) (L.take (i + 1))).1)) := hidp (by rw [HT1.out]; show w8.ownsRow _ _ _ _ _ (bkVs (acc ++ [(b1, b2)] ++ [(ad, z)])); rw [bkVs_snoc]; exact hown8)
          have HB8 : Hid (Below w.heap.size w w8) := hidp ((Bnew HB7.out _).grown hgrow8 (by have := HB7.out.size; simp; omega) (fun j hj => by have := (HO7.out.lt j hj).1; omega))
          have HX8 : Hid (Held w8 w.heap.size 64 #[.int .i64 b1, .int .i64 b2]) := hidp ((hgrow8.block _ (by have := HX7.out.lt; simp; omega) (fun e => by have := (HO7.out.lt _ e.symm).1; omega)).trans (HX7.out.alloc _))
          have HM1 : Hid ((addTo (b1, b2) (L.take (i + 1))).1.length = k + 1 + 1) := hidp (by rw [HT1.out]; simp; have := HM.out; omega)
          have HD1 : Hid ((addTo (b1, b2) (L.take (i + 1))).2 = true) := hidp (by rw [HT1.out])
          clear hown8 hgrow8 hat8 hlt8 y0 y1 p0 p1
          go_wp2_with fail
          go_roundw
          case rel => exact ⟨i + 1, k + 1 + 1, true, by omega, by go_num, rfl, by omega, HM1, HD1, HO8, HX8, HB8⟩
          case measure => simp [intOf]; omega
        · subst hdd
          have HT1 : Hid (addTo (b1, b2) (L.take (i + 1)) = (acc ++ [(ad, z)], false)) := hidp (by rw [HTK.out, addTo_snoc, hT]; unfold addStep; rw [if_neg (by intro h; exact hlt2 h.2)])
          have t1 : decide (b1 < ad) = false := decide_eq_false hlt2
          clear hT
          go_wp2_with fail
          have HSD : Hid ((fun w' => w'.cell? ⟨w.heap.size, 0, none⟩ = some (.int .i64 b1) ∧ w'.cell? ⟨gv, i * 2, none⟩ = some (.int .i64 ad)) wr.drew) := hidp HPP.out
          refine wp_region_held_drew (S := (fun w' => w'.cell? ⟨w.heap.size, 0, none⟩ = some (.int .i64 b1) ∧ w'.cell? ⟨gv, i * 2, none⟩ = some (.int .i64 ad))) (by kernel_rfl) ?_ (fun hHeld => ?_)
          · (try dsimp only)
            exact HSD.out
          refine tkz 0 ?_
          refine tkz 1 ?_
          refine tkz 2 ?_
          refine tkz 3 ?_
          refine tkz 4 ?_
          refine tkz 5 ?_
          refine tkz 6 ?_
          refine tkz 7 ?_
          refine tkz 8 ?_
          refine tkz 9 ?_
          refine tkz 10 ?_
          refine tkz 11 ?_
          refine wpAnyH_done (by kernel_rfl) ?_ _
          have HOd := hidp (own_below HO.out (Bdrew (B0 wr)))
          have HXd := hidp (HX.out.keep (Bdrew (B0 wr)))
          have HBd := hidp (Bdrew HB.out)
          have HPd := hidp (own_block0 (own_below HO0.out HBd.out) HNL.out HXX.out)
          obtain ⟨y0, y1⟩ := HXd.out.two
          obtain ⟨p0, p1⟩ := HPd.out
          dsimp only at p0 p1
          generalize hwd : wr.drew = wd at *
          clear hwd
          have hbsd := HBd.out.size
          have hxsd := HXd.out.lt
          go_wp2_with (first
            | (at_builtin
               refine wpList_append_lies _ rfl _ _ 51 rfl (w.heap.size + 1) 64 j0 (.agg #[.int .i64 0, .int .i64 0]) 2 16 Tryz.underlying51 hjn hjz0 hjz1 hjz2 rfl (by decide) u5 (k) (bkVs (acc)) rfl (HOd.out.alloc _) ⟨_, 0, none⟩ 1 1 [.int .i64 ad, .int .i64 z] rfl rfl ?c1 ?c2 (by omega) ?c3 ?c4 ?c5 _ rfl ?_
               case c1 => intro jj yy hyy; rcases jj with _ | _ | jj; (· simp at hyy; subst hyy; simp [Addr.add]); (· simp at hyy; subst hyy; simp [Addr.add]); (· simp at hyy)
               case c2 => simp [Value.oneCell']
               case c3 => unfold maxLen; omega
               case c4 => omega
               case c5 => simp; omega
               intro g8 capg8 w8 hown8 hgrow8 hat8 hlt8)
            | fail)
          
          have HO8 : Hid (w8.ownsRow (w.heap.size + 1) 64 2 (.slice (some ⟨g8, 0, none⟩) (k + 1) capg8) (k + 1) (bkVs (addTo (b1, b2) (L.take (i + 1))).1)) := hidp (by rw [HT1.out]; show w8.ownsRow _ _ _ _ _ (bkVs (acc ++ [(ad, z)])); rw [bkVs_snoc]; exact hown8)
          have HB8 : Hid (Below w.heap.size w w8) := hidp ((Bnew HBd.out _).grown hgrow8 (by have := HBd.out.size; simp; omega) (fun j hj => by have := (HOd.out.lt j hj).1; omega))
          have HX8 : Hid (Held w8 w.heap.size 64 #[.int .i64 b1, .int .i64 b2]) := hidp ((hgrow8.block _ (by have := HXd.out.lt; simp; omega) (fun e => by have := (HOd.out.lt _ e.symm).1; omega)).trans (HXd.out.alloc _))
          have HM1 : Hid ((addTo (b1, b2) (L.take (i + 1))).1.length = k + 1) := hidp (by rw [HT1.out]; simp; have := HM.out; omega)
          have HD1 : Hid ((addTo (b1, b2) (L.take (i + 1))).2 = false) := hidp (by rw [HT1.out])
          clear hown8 hgrow8 hat8 hlt8 y0 y1 p0 p1
          go_wp2_with fail
          go_roundw
          case rel => exact ⟨i + 1, k + 1, false, by omega, by go_num, rfl, by omega, HM1, HD1, HO8, HX8, HB8⟩
          case measure => simp [intOf]; omega
    · have hkn : i = nl := by omega
      have t0 : decide ((i : Int) < nl) = false := decide_eq_false (by omega)
      have HTK : Hid (L.take i = L) := hidp (by rw [List.take_of_length_le (by have := HNL.out; omega)])
      clear hkn
      have h1 := HO.out
      have h2 := HM.out
      have h3 := HD.out
      rw [HTK.out] at h1 h2 h3
      have HO1 := hidp h1
      have HM1 := hidp h2
      have HD1 := hidp h3
      clear h1 h2 h3
      cases d with
      | true =>
        go_wp2_with fail
        go_ret
        refine ⟨u5, rfl, ?_, HB.out⟩
        have e : addB L (b1, b2) = (addTo (b1, b2) L).1 := by unfold addB; rw [if_pos HD1.out]
        rw [e, HM1.out]
        exact own_down HO1.out (by omega)
      | false =>
        have hbs := HB.out.size
        have hxs := HX.out.lt
        go_wp2_with (first
          | (at_builtin
             refine wpList_append_lies _ rfl _ _ 51 rfl (w.heap.size + 1) 64 j0 (.agg #[.int .i64 0, .int .i64 0]) 2 16 Tryz.underlying51 hjn hjz0 hjz1 hjz2 rfl (by decide) u5 (k) (bkVs ((addTo (b1, b2) L).1)) rfl (HO1.out.alloc _) ⟨_, 0, none⟩ 1 1 [.int .i64 b1, .int .i64 b2] rfl rfl ?c1 ?c2 (by omega) ?c3 ?c4 ?c5 _ rfl ?_
             case c1 => intro jj yy hyy; rcases jj with _ | _ | jj; (· simp at hyy; subst hyy; simp [Addr.add]); (· simp at hyy; subst hyy; simp [Addr.add]); (· simp at hyy)
             case c2 => simp [Value.oneCell']
             case c3 => unfold maxLen; omega
             case c4 => omega
             case c5 => simp; omega
             intro g8 capg8 w8 hown8 hgrow8 hat8 hlt8)
          | fail)
        have HO8 : Hid (w8.ownsRow (w.heap.size + 1) 64 2 (.slice (some ⟨g8, 0, none⟩) (k + 1) capg8) (k + 1) (bkVs ((addTo (b1, b2) L).1 ++ [(b1, b2)]))) := hidp (by rw [bkVs_snoc]; exact hown8)
        have HB8 : Hid (Below w.heap.size w w8) := hidp ((Bnew HB.out _).grown hgrow8 (by simp; omega) (fun j hj => by have := (HO1.out.lt j hj).1; omega))
        clear hown8 hgrow8 hat8 hlt8
        go_wp2_with fail
        go_ret
        refine ⟨.slice (some ⟨g8, 0, none⟩) (k + 1) capg8, rfl, ?_, HB8.out⟩
        have e : addB L (b1, b2) = (addTo (b1, b2) L).1 ++ [(b1, b2)] := by unfold addB; rw [if_neg (by rw [HD1.out]; simp)]
        rw [e, List.length_append, HM1.out]
        exact own_down HO8.out (by omega)
end Go.Proofs.YtnamlhkccgnbfaaGreat
