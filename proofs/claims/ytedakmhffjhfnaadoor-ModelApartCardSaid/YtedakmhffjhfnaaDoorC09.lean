/-
  The document's Same. Written by audit/gen_same.py.
-/
import Derived.Test.YtedakmhffjhfnaaDoorC08
import Derived.Test.YtedakmhffjhfnaaDoorCKit
import Derived.Below
import Derived.WalkKit
import Derived.ProofKit
import Derived.BigQuiet
import Derived.Outline
import Derived.Deep.QuietTactic
import Derived.Deep.RegionHeld3
import Derived.IntWalk
import Derived.KernelRfl
import Derived.Test.YtedakmhffjhfnaaDoorC01
import Derived.Test.YtedakmhffjhfnaaDoorC02
import Derived.Lib.SmallJoins
import Derived.Test.YtedakmhffjhfnaaDoorCLaw
import Derived.Test.YtedakmhffjhfnaaDoorCards
import Derived.Test.YtedakmhffjhfnaaDoorTie
import Derived.SevenTiedAt
import Derived.Lay
import Derived.LaidMore
import Derived.LaidHandle
import Derived.Lib.LaidTab
import Derived.Stop.Joined
import Derived.LaidSub
import Derived.MakeChecks
namespace Go.Proofs.YtedakmhffjhfnaaDoor
open Go.ChangeShapes Go.WideShapes Go.ChangeAt Go.RowKit Go.Shelf
set_option linter.unusedVariables false
set_option linter.unusedSimpArgs false
section
set_option maxHeartbeats 6400000 in
set_option maxRecDepth 100000 in
theorem xSame_len (l1 l2 : List (Int × Int)) (A1 A2 : Option Addr) (nl c1 c2 b1 b2 : Nat) (r0 r1 r2 r3 r4 r5 r6 r7 p0 p1 p2 p3 p4 p5 p6 p7 : Int) (w : World) (h1 : l1.length = nl) (h2 : l2.length = nl) (hnl : nl <= 100000) (hnl : nl <= 100000)
  (hO1 : w.ownsRow b1 55 2 (.slice A1 nl c1) nl (bkVs l1)) (hO2 : w.ownsRow b2 55 2 (.slice A2 nl c2) nl (bkVs l2)) (b : Bool) (hb : b = true ↔ [r0, r1, r2, r3, r4, r5, r6, r7] = [p0, p1, p2, p3, p4, p5, p6, p7] /\ l1 = l2) :
  Calls Tryd.prog 11 #[.agg #[.slice A1 nl c1, .int .i64 r0, .int .i64 r1, .int .i64 r2, .int .i64 r3, .int .i64 r4, .int .i64 r5, .int .i64 r6, .int .i64 r7], .agg #[.slice A2 nl c2, .int .i64 p0, .int .i64 p1, .int .i64 p2, .int .i64 p3, .int .i64 p4, .int .i64 p5, .int .i64 p6, .int .i64 p7]] w fun e w' => e = .returned (.bool b) /\ Below w.heap.size w w' := by
 have HX1 := hidp ((Held.new w 27 #[.slice A1 nl c1, .int .i64 r0, .int .i64 r1, .int .i64 r2, .int .i64 r3, .int .i64 r4, .int .i64 r5, .int .i64 r6, .int .i64 r7]).alloc (.cells #[.slice A2 nl c2, .int .i64 p0, .int .i64 p1, .int .i64 p2, .int .i64 p3, .int .i64 p4, .int .i64 p5, .int .i64 p6, .int .i64 p7] 27))
 have HX2 := hidp (Held.new2 w (.cells #[.slice A1 nl c1, .int .i64 r0, .int .i64 r1, .int .i64 r2, .int .i64 r3, .int .i64 r4, .int .i64 r5, .int .i64 r6, .int .i64 r7] 27) 27 #[.slice A2 nl c2, .int .i64 p0, .int .i64 p1, .int .i64 p2, .int .i64 p3, .int .i64 p4, .int .i64 p5, .int .i64 p6, .int .i64 p7])
 obtain ⟨x0, x1, x2, x3, x4, x5, x6, x7, x8⟩ := HX1.out.nine
 obtain ⟨y0, y1, y2, y3, y4, y5, y6, y7, y8⟩ := HX2.out.nine
 have HBW := hidp (Bnew (Bnew (B0 w) (.cells #[.slice A1 nl c1, .int .i64 r0, .int .i64 r1, .int .i64 r2, .int .i64 r3, .int .i64 r4, .int .i64 r5, .int .i64 r6, .int .i64 r7] 27)) (.cells #[.slice A2 nl c2, .int .i64 p0, .int .i64 p1, .int .i64 p2, .int .i64 p3, .int .i64 p4, .int .i64 p5, .int .i64 p6, .int .i64 p7] 27))
 have HO1 := hidp ((hO1.alloc (.cells #[.slice A1 nl c1, .int .i64 r0, .int .i64 r1, .int .i64 r2, .int .i64 r3, .int .i64 r4, .int .i64 r5, .int .i64 r6, .int .i64 r7] 27)).alloc (.cells #[.slice A2 nl c2, .int .i64 p0, .int .i64 p1, .int .i64 p2, .int .i64 p3, .int .i64 p4, .int .i64 p5, .int .i64 p6, .int .i64 p7] 27))
 have HO2 := hidp ((hO2.alloc (.cells #[.slice A1 nl c1, .int .i64 r0, .int .i64 r1, .int .i64 r2, .int .i64 r3, .int .i64 r4, .int .i64 r5, .int .i64 r6, .int .i64 r7] 27)).alloc (.cells #[.slice A2 nl c2, .int .i64 p0, .int .i64 p1, .int .i64 p2, .int .i64 p3, .int .i64 p4, .int .i64 p5, .int .i64 p6, .int .i64 p7] 27))
 have HL1 := hidp h1
 have HL2 := hidp h2
 obtain ⟨h11, h12⟩ := own_caps3 hO1
 obtain ⟨h21, h22⟩ := own_caps3 hO2
 have h12 : c1 <= 9223372036854775807 := h12
 have h22 : c2 <= 9223372036854775807 := h22
 have hei := eq8_iff r0 r1 r2 r3 r4 r5 r6 r7 p0 p1 p2 p3 p4 p5 p6 p7
 have he := fun W => eq8_run r0 r1 r2 r3 r4 r5 r6 r7 p0 p1 p2 p3 p4 p5 p6 p7 W
 obtain ⟨eb, heb⟩ : ∃ eb, (r0 == p0 && (r1 == p1 && (r2 == p2 && (r3 == p3 && (r4 == p4 && (r5 == p5 && (r6 == p6 && (r7 == p7)))))))) = eb := ⟨_, rfl⟩
 rw [heb] at hei
 simp only [heb] at he
 have q0 : ((nl : Int) != (nl : Int)) = false := by simp
 cases eb
 ·have HBF : Hid (b = false) := hidp (bool_no hb (fun h => by have := hei.2 h.1; cases this))
  clear hei heb hb h1 h2 hO1 hO2
  go_enter Tryd.func11, Tryd.ntmps11
  go_wp2_with fail
  go_ret
  exact ⟨by rw [HBF.out]; rfl, HBW.out⟩
 ·have HBC : Hid (b = true ↔ l1 = l2) := hidp (hb.trans ⟨fun h => h.2, fun h => ⟨hei.1 rfl, h⟩⟩)
  clear hei heb hb h1 h2 hO1 hO2
  go_enter Tryd.func11, Tryd.ntmps11
  go_wp2_with fail
  generalize (w.alloc (.cells #[.slice A1 nl c1, .int .i64 r0, .int .i64 r1, .int .i64 r2, .int .i64 r3, .int .i64 r4, .int .i64 r5, .int .i64 r6, .int .i64 r7] 27)).alloc (.cells #[.slice A2 nl c2, .int .i64 p0, .int .i64 p1, .int .i64 p2, .int .i64 p3, .int .i64 p4, .int .i64 p5, .int .i64 p6, .int .i64 p7] 27) = WL at *
  clear he x1 x2 x3 x4 x5 x6 x7 x8 y1 y2 y3 y4 y5 y6 y7 y8 q0
  go_loopw [5] (fun u5 wr => ∃ (i d : Nat), i <= nl /\ u5 = .int .i64 (i : Int) /\ Hid (l1.take i = l2.take i) /\ wr = WL.drewN d) (fun u5 _ => nl - (intOf u5).toNat)
  case atStart => exact ⟨0, 0, by omega, rfl, hidp rfl, rfl⟩
  case round =>
   obtain ⟨i, d, hi, rfl, HTE, rfl⟩ := hrel
   by_cases hlt : i < nl
   ·obtain ⟨x, hx⟩ : ∃ x, l1[i]? = some x := ⟨_, List.getElem?_eq_getElem (by have := HL1.out; omega)⟩
    obtain ⟨y, hy⟩ : ∃ y, l2[i]? = some y := ⟨_, List.getElem?_eq_getElem (by have := HL2.out; omega)⟩
    obtain ⟨g1, cv1, hv1, _, _⟩ := HO1.out.form (by omega)
    injection hv1 with hv1 _ hc1
    subst hv1
    subst hc1
    obtain ⟨g2, cv2, hv2, _, _⟩ := HO2.out.form (by omega)
    injection hv2 with hv2 _ hc2
    subst hv2
    subst hc2
    obtain ⟨p0, p1⟩ := own_block0 HO1.out HL1.out hx
    obtain ⟨q0, q1⟩ := own_block0 HO2.out HL2.out hy
    have HNE : Hid (x ≠ y -> ¬ l1 = l2) := hidp (fun h e => h (by rw [e, hy] at hx; exact (Option.some.inj hx).symm))
    have HSU : Hid (x = y -> l1.take (i + 1) = l2.take (i + 1)) := hidp (fun h => by rw [List.take_add_one, List.take_add_one, HTE.out, hx, hy, h])
    obtain ⟨a1, z1⟩ := x
    obtain ⟨a2, z2⟩ := y
    have t0 : decide ((i : Int) < nl) = true := decide_eq_true (by omega)
    have t0n : decide (i < nl) = true := decide_eq_true hlt
    simp only at p0 p1 q0 q1
    clear hx hy
    by_cases ha : a1 = a2
    ·subst ha
     by_cases hz : z1 = z2
     ·subst hz
      have HT1 := hidp (HSU.out rfl)
      go_wp2_with fail
      refine wp_region_held_drew (S := (fun w' => w'.cell? ⟨g1, i * 2, none⟩ = some (.int .i64 a1) /\ w'.cell? ⟨g1, i * 2 + 1, none⟩ = some (.int .i64 z1) /\ w'.cell? ⟨g2, i * 2, none⟩ = some (.int .i64 a1) /\ w'.cell? ⟨g2, i * 2 + 1, none⟩ = some (.int .i64 z1) /\ w'.cell? ⟨w.heap.size, 0, none⟩ = some (.slice (some ⟨g1, 0, none⟩) nl c1) /\ w'.cell? ⟨w.heap.size + 1, 0, none⟩ = some (.slice (some ⟨g2, 0, none⟩) nl c2))) (by kernel_rfl) ?_ (fun hHeld => ?_)
      ·(try dsimp only)
       first | exact ⟨p0, p1, q0, q1, x0, y0⟩ | exact hHeld
      refine tkz 0 ?_
      refine tkz 1 ?_
      refine tkz 2 ?_
      refine tkz 3 ?_
      refine tkz 4 ?_
      refine tkz 5 ?_
      refine tkz 6 ?_
      refine tkz 7 ?_
      refine tkz 8 ?_
      refine tkz 9 ?_
      refine tkz 10 ?_
      refine dnz ?_
      go_wp2_with fail
      go_roundw
      case rel => exact ⟨i + 1, d + 1, by omega, by go_num, HT1, rfl⟩
      case measure => simp [intOf]; omega
     ·have qz : (z1 == z2) = false := by simpa using hz
      have HBF : Hid (b = false) := hidp (bool_no HBC.out (HNE.out (fun e => hz (Prod.mk.inj e).2)))
      go_wp2_with fail
      refine wp_region_held_drew (S := (fun w' => w'.cell? ⟨g1, i * 2, none⟩ = some (.int .i64 a1) /\ w'.cell? ⟨g1, i * 2 + 1, none⟩ = some (.int .i64 z1) /\ w'.cell? ⟨g2, i * 2, none⟩ = some (.int .i64 a1) /\ w'.cell? ⟨g2, i * 2 + 1, none⟩ = some (.int .i64 z2) /\ w'.cell? ⟨w.heap.size, 0, none⟩ = some (.slice (some ⟨g1, 0, none⟩) nl c1) /\ w'.cell? ⟨w.heap.size + 1, 0, none⟩ = some (.slice (some ⟨g2, 0, none⟩) nl c2))) (by kernel_rfl) ?_ (fun hHeld => ?_)
      ·(try dsimp only)
       first | exact ⟨p0, p1, q0, q1, x0, y0⟩ | exact hHeld
      refine tkz 0 ?_
      refine tkz 1 ?_
      refine tkz 2 ?_
      refine tkz 3 ?_
      refine tkz 4 ?_
      refine tkz 5 ?_
      refine tkz 6 ?_
      refine tkz 7 ?_
      refine tkz 8 ?_
      refine tkz 9 ?_
      refine tkz 10 ?_
      refine dnz ?_
      go_wp2_with fail
      go_ret
      exact ⟨by rw [HBF.out]; rfl, Bdraw HBW.out (d + 1)⟩
    ·have qa : (a1 == a2) = false := by simpa using ha
     have HBF : Hid (b = false) := hidp (bool_no HBC.out (HNE.out (fun e => ha (Prod.mk.inj e).1)))
     go_wp2_with fail
     refine wp_region_held_drew (S := (fun w' => w'.cell? ⟨g1, i * 2, none⟩ = some (.int .i64 a1) /\ w'.cell? ⟨g1, i * 2 + 1, none⟩ = some (.int .i64 z1) /\ w'.cell? ⟨g2, i * 2, none⟩ = some (.int .i64 a2) /\ w'.cell? ⟨g2, i * 2 + 1, none⟩ = some (.int .i64 z2) /\ w'.cell? ⟨w.heap.size, 0, none⟩ = some (.slice (some ⟨g1, 0, none⟩) nl c1) /\ w'.cell? ⟨w.heap.size + 1, 0, none⟩ = some (.slice (some ⟨g2, 0, none⟩) nl c2))) (by kernel_rfl) ?_ (fun hHeld => ?_)
     ·(try dsimp only)
      first | exact ⟨p0, p1, q0, q1, x0, y0⟩ | exact hHeld
     refine tkz 0 ?_
     refine tkz 1 ?_
     refine tkz 2 ?_
     refine tkz 3 ?_
     refine tkz 4 ?_
     refine tkz 5 ?_
     refine tkz 6 ?_
     refine tkz 7 ?_
     refine tkz 8 ?_
     refine tkz 9 ?_
     refine tkz 10 ?_
     refine dnz ?_
     go_wp2_with fail
     go_ret
     exact ⟨by rw [HBF.out]; rfl, Bdraw HBW.out (d + 1)⟩
   ·have t0 : decide ((i : Int) < nl) = false := decide_eq_false (by omega)
    have t0n : decide (i < nl) = false := decide_eq_false hlt
    have HBT : Hid (b = true) := hidp (HBC.out.2 (by
     have h := HTE.out
     rwa [List.take_of_length_le (by have := HL1.out; omega), List.take_of_length_le (by have := HL2.out; omega)] at h))
    go_wp2_with fail
    go_ret
    exact ⟨by rw [HBT.out]; rfl, Bdraw HBW.out d⟩
set_option maxHeartbeats 1600000 in
theorem xSame_c (l1 l2 : List (Int × Int)) (A1 A2 : Option Addr) (n1 n2 c1 c2 b1 b2 : Nat) (r0 r1 r2 r3 r4 r5 r6 r7 p0 p1 p2 p3 p4 p5 p6 p7 : Int) (w : World) (h1 : l1.length = n1) (h2 : l2.length = n2) (hn1 : n1 <= 100000) (hn2 : n2 <= 100000)
  (hO1 : w.ownsRow b1 55 2 (.slice A1 n1 c1) n1 (bkVs l1)) (hO2 : w.ownsRow b2 55 2 (.slice A2 n2 c2) n2 (bkVs l2)) (b : Bool) (hb : b = true ↔ [r0, r1, r2, r3, r4, r5, r6, r7] = [p0, p1, p2, p3, p4, p5, p6, p7] /\ l1 = l2) :
  Calls Tryd.prog 11 #[.agg #[.slice A1 n1 c1, .int .i64 r0, .int .i64 r1, .int .i64 r2, .int .i64 r3, .int .i64 r4, .int .i64 r5, .int .i64 r6, .int .i64 r7], .agg #[.slice A2 n2 c2, .int .i64 p0, .int .i64 p1, .int .i64 p2, .int .i64 p3, .int .i64 p4, .int .i64 p5, .int .i64 p6, .int .i64 p7]] w fun e w' => e = .returned (.bool b) /\ Below w.heap.size w w' := by
 by_cases hne : n1 = n2
 ·subst hne
  exact xSame_len l1 l2 A1 A2 n1 c1 c2 b1 b2 r0 r1 r2 r3 r4 r5 r6 r7 p0 p1 p2 p3 p4 p5 p6 p7 w h1 h2 hn1 hn2 hO1 hO2 b hb
 ·have q0 : ((n1 : Int) != (n2 : Int)) = true := by simp; omega
  have q0n : (n1 != n2) = true := by simpa using hne
  have HBF : Hid (b = false) := hidp (bool_no hb (fun e => hne (by rw [<- h1, <- h2, e.2])))
  have HX1 := hidp ((Held.new w 27 #[.slice A1 n1 c1, .int .i64 r0, .int .i64 r1, .int .i64 r2, .int .i64 r3, .int .i64 r4, .int .i64 r5, .int .i64 r6, .int .i64 r7]).alloc (.cells #[.slice A2 n2 c2, .int .i64 p0, .int .i64 p1, .int .i64 p2, .int .i64 p3, .int .i64 p4, .int .i64 p5, .int .i64 p6, .int .i64 p7] 27))
  have HX2 := hidp (Held.new2 w (.cells #[.slice A1 n1 c1, .int .i64 r0, .int .i64 r1, .int .i64 r2, .int .i64 r3, .int .i64 r4, .int .i64 r5, .int .i64 r6, .int .i64 r7] 27) 27 #[.slice A2 n2 c2, .int .i64 p0, .int .i64 p1, .int .i64 p2, .int .i64 p3, .int .i64 p4, .int .i64 p5, .int .i64 p6, .int .i64 p7])
  obtain ⟨x0, x1, x2, x3, x4, x5, x6, x7, x8⟩ := HX1.out.nine
  obtain ⟨y0, y1, y2, y3, y4, y5, y6, y7, y8⟩ := HX2.out.nine
  have HBW := hidp (Bnew (Bnew (B0 w) (.cells #[.slice A1 n1 c1, .int .i64 r0, .int .i64 r1, .int .i64 r2, .int .i64 r3, .int .i64 r4, .int .i64 r5, .int .i64 r6, .int .i64 r7] 27)) (.cells #[.slice A2 n2 c2, .int .i64 p0, .int .i64 p1, .int .i64 p2, .int .i64 p3, .int .i64 p4, .int .i64 p5, .int .i64 p6, .int .i64 p7] 27))
  have HO1 := hidp ((hO1.alloc (.cells #[.slice A1 n1 c1, .int .i64 r0, .int .i64 r1, .int .i64 r2, .int .i64 r3, .int .i64 r4, .int .i64 r5, .int .i64 r6, .int .i64 r7] 27)).alloc (.cells #[.slice A2 n2 c2, .int .i64 p0, .int .i64 p1, .int .i64 p2, .int .i64 p3, .int .i64 p4, .int .i64 p5, .int .i64 p6, .int .i64 p7] 27))
  have HO2 := hidp ((hO2.alloc (.cells #[.slice A1 n1 c1, .int .i64 r0, .int .i64 r1, .int .i64 r2, .int .i64 r3, .int .i64 r4, .int .i64 r5, .int .i64 r6, .int .i64 r7] 27)).alloc (.cells #[.slice A2 n2 c2, .int .i64 p0, .int .i64 p1, .int .i64 p2, .int .i64 p3, .int .i64 p4, .int .i64 p5, .int .i64 p6, .int .i64 p7] 27))
  have HL1 := hidp h1
  have HL2 := hidp h2
  obtain ⟨h11, h12⟩ := own_caps3 hO1
  obtain ⟨h21, h22⟩ := own_caps3 hO2
  have h12 : c1 <= 9223372036854775807 := h12
  have h22 : c2 <= 9223372036854775807 := h22
  have hei := eq8_iff r0 r1 r2 r3 r4 r5 r6 r7 p0 p1 p2 p3 p4 p5 p6 p7
  have he := fun W => eq8_run r0 r1 r2 r3 r4 r5 r6 r7 p0 p1 p2 p3 p4 p5 p6 p7 W
  obtain ⟨eb, heb⟩ : ∃ eb, (r0 == p0 && (r1 == p1 && (r2 == p2 && (r3 == p3 && (r4 == p4 && (r5 == p5 && (r6 == p6 && (r7 == p7)))))))) = eb := ⟨_, rfl⟩
  rw [heb] at hei
  simp only [heb] at he
  clear hei heb hb h1 h2 hO1 hO2 hne he
  go_enter Tryd.func11, Tryd.ntmps11
  go_wp2_with fail
  go_ret
  exact ⟨by rw [HBF.out]; rfl, HBW.out⟩
end
end Go.Proofs.YtedakmhffjhfnaaDoor

namespace Go.Proofs.YtedakmhffjhfnaaDoor
open Go.ChangeShapes Go.WideShapes Go.ChangeAt Go.RowKit Go.Maps
set_option linter.unusedVariables false
set_option linter.unusedSimpArgs false
set_option maxRecDepth 100000
section
theorem live26_c (w : World) (hT : SlotsLaid w) : Calls Tryd.prog 7 #[] w fun e w' => e = .returned (.bool true) /\ Below w.heap.size w w' := by
 have HSL := hidp hT
 clear hT
 have A0 : Hid (allowM 1 8 10 [] (fun _ => 0) 1 20 0 0 1024 32 = true) := hidp (by decide +kernel)
 have A1 : Hid (allowM 1 8 10 [] (fun _ => 0) 1 20 0 0 1040 32 = true) := hidp (by decide +kernel)
 have A2 : Hid (allowM 1 8 10 [] (fun _ => 0) 1 20 0 3 0 0 = true) := hidp (by decide +kernel)
 have A3 : Hid (allowM 1 8 10 [] (fun _ => 0) 1 20 0 0 1024 20 = false) := hidp (by decide +kernel)
 go_enter Tryd.func7, Tryd.ntmps7
 go_wp2_with fail
 refine (mdNew_yes 1 8 10 (by decide) _).mono ?_; rintro e w1 ⟨g, F, rfl, hF, hM, hb⟩
 have HX := hidp (Held.new w1 29 #[.int .i64 1, .int .i64 20, .int .i64 0])
 have HB := hidp (Bnew hb (.cells #[.int .i64 1, .int .i64 20, .int .i64 0] 29))
 have HM := hidp (hM.turns (Turns.of_below (Bnew (B0 w1) (.cells #[.int .i64 1, .int .i64 20, .int .i64 0] 29)) (fun _ => False)) (fun _ _ x => x))
 clear hb hM hF
 obtain ⟨x0, x1, x2⟩ := HX.out.three
 go_wp2_with fail
 refine (mdAllows_c HM.out (by simp) 1 20 0 0 1024 32 (by omega) (by omega) (by omega) (HSL.out.below HB.out)).mono ?_; rintro e w2 ⟨rfl, hb⟩; rw [A0.out]
 replace HM := hidp (HM.out.turns (Turns.of_below hb (fun _ => False)) (fun _ _ x => x))
 replace HX := hidp (HX.out.keep hb)
 replace HB := hidp (Bgo HB.out hb)
 clear hb x0 x1 x2
 obtain ⟨x0, x1, x2⟩ := HX.out.three
 go_wp2_with fail
 refine (mdAllows_c HM.out (by simp) 1 20 0 0 1040 32 (by omega) (by omega) (by omega) (HSL.out.below HB.out)).mono ?_; rintro e w3 ⟨rfl, hb⟩; rw [A1.out]
 replace HM := hidp (HM.out.turns (Turns.of_below hb (fun _ => False)) (fun _ _ x => x))
 replace HX := hidp (HX.out.keep hb)
 replace HB := hidp (Bgo HB.out hb)
 clear hb x0 x1 x2
 obtain ⟨x0, x1, x2⟩ := HX.out.three
 go_wp2_with fail
 refine (mdAllows_c HM.out (by simp) 1 20 0 3 0 0 (by omega) (by omega) (by omega) (HSL.out.below HB.out)).mono ?_; rintro e w4 ⟨rfl, hb⟩; rw [A2.out]
 replace HM := hidp (HM.out.turns (Turns.of_below hb (fun _ => False)) (fun _ _ x => x))
 replace HX := hidp (HX.out.keep hb)
 replace HB := hidp (Bgo HB.out hb)
 clear hb x0 x1 x2
 obtain ⟨x0, x1, x2⟩ := HX.out.three
 go_wp2_with fail
 refine (mdAllows_c HM.out (by simp) 1 20 0 0 1024 20 (by omega) (by omega) (by omega) (HSL.out.below HB.out)).mono ?_; rintro e w5 ⟨rfl, hb⟩; rw [A3.out]
 replace HM := hidp (HM.out.turns (Turns.of_below hb (fun _ => False)) (fun _ _ x => x))
 replace HX := hidp (HX.out.keep hb)
 replace HB := hidp (Bgo HB.out hb)
 clear hb x0 x1 x2
 obtain ⟨x0, x1, x2⟩ := HX.out.three
 go_wp2_with fail
 go_ret
 exact ⟨rfl, HB.out⟩
theorem nine26 {w : World} {g : Nat} {T : TypeId} {c0 c1 c2 c3 c4 c5 c6 c7 c8 : Value} (h : Held w g T #[c0, c1, c2, c3, c4, c5, c6, c7, c8]) : w.cell? ⟨g, 0, none⟩ = some c0 /\ w.cell? ⟨g, 1, none⟩ = some c1 /\ w.cell? ⟨g, 2, none⟩ = some c2 /\ w.cell? ⟨g, 3, none⟩ = some c3 /\ w.cell? ⟨g, 4, none⟩ = some c4 /\ w.cell? ⟨g, 5, none⟩ = some c5 /\ w.cell? ⟨g, 6, none⟩ = some c6 /\ w.cell? ⟨g, 7, none⟩ = some c7 /\ w.cell? ⟨g, 8, none⟩ = some c8 :=
 ⟨h.cell 0, h.cell 1, h.cell 2, h.cell 3, h.cell 4, h.cell 5, h.cell 6, h.cell 7, h.cell 8⟩
end
section
theorem eraseIdx_len (L : List (Int × Int)) (i : Nat) : (L.eraseIdx i).length <= L.length := List.length_eraseIdx_le ..
theorem step_len (t p s : Int) (L : List (Int × Int)) (R : Nat -> Int) (k a b err out aux : Int) : (stepL t p s L R k a b err out aux).length <= L.length + 1 := by
 unfold stepL appL
 split
 ·split
  ·omega
  ·split
   ·exact addB_len ..
   ·split
    ·have := eraseIdx_len L (mAt L a).toNat; omega
    ·split
     ·have h1 := eraseIdx_len L (mAt L a).toNat
      have h2 := addB_len (L.eraseIdx (mAt L a).toNat) (out, aux)
      omega
     ·split
      ·exact addB_len ..
      ·omega
 ·omega
end
section
theorem ModelApart_many (t p s : Int) (A : Option Addr) (n c : Nat) (hn : 60 < n) (W : World) (hT : SlotsLaid W) : Calls Tryd.prog 5 #[.agg #[.int .i64 t, .int .i64 p, .int .i64 s], .slice A n c] W (Keeps W) := by
 have t0 : decide ((60 : Int) < n) = true := decide_eq_true (by omega)
 have HSL := hidp hT
 clear hT
 have HC := hidp (Held.new W 23 #[.int .i64 t, .int .i64 p, .int .i64 s])
 have HB := hidp (Bnew (B0 W) (.cells #[.int .i64 t, .int .i64 p, .int .i64 s] 23))
 obtain ⟨c0, c1, c2⟩ := HC.out.three
 go_enter Tryd.func5, Tryd.ntmps5
 go_wp2_with fail
 refine (live26_c _ (HSL.out.below HB.out)).mono ?_; rintro e w1 ⟨rfl, hb⟩
 clear c0 c1 c2
 replace HC := hidp (HC.out.keep hb)
 replace HB := hidp (Bgo HB.out hb)
 clear hb
 obtain ⟨c0, c1, c2⟩ := HC.out.three
 go_wp2_with fail
 go_ret
 exact ⟨rfl, HB.out⟩

set_option maxHeartbeats 12800000 in
theorem ModelApart_gen (t p s : Int) (A : Option Addr) (n c : Nat) (l : List SaidV) (hl : l.length = n) (hn : n <= 60) (hcn : n <= c /\ c <= maxLen) (hok : ∀ x ∈ l, x.Ok) (P : Value -> World -> (Nat -> Prop) -> List (Int × Int) -> (Nat -> Int) -> Prop) (I : List (Int × Int) -> (Nat -> Int) -> Prop) (al : List (Int × Int) -> (Nat -> Int) -> SaidV -> Bool) (nL : List (Int × Int) -> (Nat -> Int) -> SaidV -> List (Int × Int)) (nR : List (Int × Int) -> (Nat -> Int) -> SaidV -> Nat -> Int) (mi h0 AT p1 E : Int)
  (hmi : (if s < 30 then s else 30) = mi) (hh0 : (if 0 < mi then mi else 0) = h0) (hAT : IntKind.i64.wrap (2 ^ h0.toNat) = AT) (hp1 : IntKind.i64.wrap (p + 1) = p1) (hE : IntKind.i64.wrap (AT * p1) = E)
  (HLT : Hid (∀ v w F L R, P v w F L R -> ∀ i, F i -> i < w.heap.size)) (HTU : Hid (∀ v w w' F G L R, P v w F L R -> Turns G w w' -> (∀ i, F i -> ¬ G i) -> P v w' F L R))
  (HST : Hid (∀ v w F L R, P v w F L R -> L.length <= 90000 -> Calls Tryd.prog 12 #[v] w fun e w' => ∃ (A : Option Addr) (c : Nat), e = .returned (.agg #[.slice A L.length c, .int .i64 (R 0), .int .i64 (R 1), .int .i64 (R 2), .int .i64 (R 3), .int .i64 (R 4), .int .i64 (R 5), .int .i64 (R 6), .int .i64 (R 7)]) /\ w'.ownsRow w.heap.size 55 2 (.slice A L.length c) L.length (bkVs L) /\ Below w.heap.size w w'))
  (HAP : Hid (∀ v w F L R (x : SaidV), x.Ok -> P v w F L R -> L.length <= 90000 -> SlotsLaid w -> Calls Tryd.prog 18 #[v, .agg #[.int .i64 x.k, .int .i64 x.a, .int .i64 x.b], .agg #[.int .i64 x.err, .int .i64 x.out, .int .i64 x.aux]] w fun e w' => ∃ F' : Nat -> Prop, e = .returned (.bool (al L R x)) /\ (∀ i, F' i -> F i \/ w.heap.size <= i) /\ P v w' F' (nL L R x) (nR L R x) /\ Turns F w w'))
  (HNW : Hid (∀ w, Calls Tryd.prog 16 #[.agg #[.int .i64 t, .int .i64 p, .int .i64 s]] w fun e w' => ∃ (v : Value) (F : Nat -> Prop), e = .returned v /\ (∀ i, F i -> w.heap.size <= i) /\ P v w' F [] (fun _ => 0) /\ Below w.heap.size w w'))
  (HSM : Hid (∀ L R x, al L R x = false \/ x.err ≠ 0 -> nL L R x = L /\ nR L R x = R)) (HIN : Hid (I [] (fun _ => 0) /\ (∀ L R x, I L R -> I (nL L R x) (nR L R x)) /\ ∀ L R, I L R -> ChainM E AT L /\ NamesM L R)) (HLE : Hid (∀ L R x, (nL L R x).length <= L.length + 1)) (HEB : Hid (∀ L R, I L R -> L ≠ [] -> 0 <= AT /\ 0 <= E /\ E <= 2147483648)) (W : World) (hin : SaidVs W A l) (hT : SlotsLaid W) : Calls Tryd.prog 5 #[.agg #[.int .i64 t, .int .i64 p, .int .i64 s], .slice A n c] W (Keeps W) := by
 have hmm : max 0 (min 30 s) = h0 := by rw [<- hh0, <- hmi]; (repeat' split) <;> omega
 have t0 : decide ((60 : Int) < n) = false := decide_eq_false (by omega)
 have HL := hidp hin
 have HLL := hidp hl
 have HOKS := hidp hok
 have hm2 : c <= 9223372036854775807 := hcn.2
 clear hin hl hok
 have HSL := hidp hT
 clear hT
 have HC := hidp (Held.new W 23 #[.int .i64 t, .int .i64 p, .int .i64 s])
 have HB := hidp (Bnew (B0 W) (.cells #[.int .i64 t, .int .i64 p, .int .i64 s] 23))
 obtain ⟨c0, c1, c2⟩ := HC.out.three
 go_enter Tryd.func5, Tryd.ntmps5
 go_wp2_with fail
 refine (HNW.out _).mono ?_; rintro e w1 ⟨v, F0, rfl, hF0, hM, hb⟩
 have HM := hidp hM
 have HFN : Hid (∀ i, F0 i -> W.heap.size < i) := hidp (fun i hi => by have h1 := hF0 i hi; simp at h1; omega)
 clear c0 c1 c2
 replace HC := hidp (HC.out.keep hb)
 replace HB := hidp (Bgo HB.out hb)
 clear hb hF0 hM
 go_wp2_with fail
 go_loopw [6, 7, 8, 9, 10, 11, 12, 13, 14] (fun u6 _ _ _ _ _ _ _ _ wr => ∃ (i : Nat) (L : List (Int × Int)) (R : Nat -> Int) (F : Nat -> Prop), i <= n /\ u6 = .int .i64 (i : Int) /\ L.length <= i /\ Hid (P v wr F L R) /\ Hid (∀ i, F i -> W.heap.size < i) /\ Hid (I L R) /\ Hid (Held wr W.heap.size 23 #[.int .i64 t, .int .i64 p, .int .i64 s]) /\ Hid (Below W.heap.size W wr)) (fun u6 _ _ _ _ _ _ _ _ _ => n - (intOf u6).toNat)
 case atStart => exact ⟨0, [], (fun _ => 0), F0, by omega, rfl, by simp, HM, HFN, hidp HIN.out.1, HC, HB⟩
 case round =>
  clear HM HFN HC HB
  obtain ⟨i, L, R, F, hi, rfl, hLi, HP, HFN, HI, HC, HB⟩ := hrel
  by_cases hlt : i < n
  ·obtain ⟨x, hx⟩ : ∃ x, l[i]? = some x := ⟨_, List.getElem?_eq_getElem (by have := HLL.out; omega)⟩
   have HXX := hidp hx
   have HOK := hidp (HOKS.out x (List.mem_of_getElem? hx))
   obtain ⟨ad, eA, hbl, _⟩ := HL.out i x hx
   subst eA
   have hadb : (ad.add (i * 6)).block < W.heap.size := by rw [block_of_add]; exact hbl
   obtain ⟨ab, hab⟩ : ∃ ab, al L R x = ab := ⟨_, rfl⟩
   obtain ⟨Ln, hln⟩ : ∃ Ln, nL L R x = Ln := ⟨_, rfl⟩
   obtain ⟨Rn, hrn⟩ : ∃ Rn, nR L R x = Rn := ⟨_, rfl⟩
   have HAB := hidp hab
   have HLN : Hid (Ln.length <= i + 1) := hidp (by rw [<- hln]; exact Nat.le_trans (HLE.out ..) (by omega))
   have HSN : Hid (nL L R x = Ln /\ nR L R x = Rn) := hidp ⟨hln, hrn⟩
   have HI2 : Hid (I Ln Rn) := hidp (by rw [<- hln, <- hrn]; exact HIN.out.2.1 L R x HI.out)
   have HSAME : Hid (ab = false \/ x.err ≠ 0 -> Ln = L /\ Rn = R) := hidp (by rw [<- hab, <- hln, <- hrn]; exact HSM.out L R x)
   have t1 : decide ((i : Int) < n) = true := decide_eq_true (by omega)
   clear hx hbl hab hln hrn
   go_wp2_with fail
   refine (HST.out _ _ F L R HP.out (by omega)).mono ?_; rintro e w1 ⟨A3, cc3, rfl, hq, hb⟩
   have HQ : Hid ((w1.alloc (.cells #[.slice A3 L.length cc3, .int .i64 (R 0), .int .i64 (R 1), .int .i64 (R 2), .int .i64 (R 3), .int .i64 (R 4), .int .i64 (R 5), .int .i64 (R 6), .int .i64 (R 7)] 27)).ownsRow wr.heap.size 55 2 (.slice A3 L.length cc3) L.length (bkVs L)) := hidp (hq.alloc _)
   have HPB : Hid (∀ i, F i -> i < wr.heap.size) := hidp (HLT.out _ _ _ _ _ HP.out)
   have hws := hb.size
   replace HP := hidp (HTU.out _ _ _ _ _ _ _ HP.out (Turns.of_below (Bnew hb (.cells #[.slice A3 L.length cc3, .int .i64 (R 0), .int .i64 (R 1), .int .i64 (R 2), .int .i64 (R 3), .int .i64 (R 4), .int .i64 (R 5), .int .i64 (R 6), .int .i64 (R 7)] 27)) (fun _ => False)) (fun _ _ x => x))
   replace HC := hidp (HC.out.keep (Bnew hb (.cells #[.slice A3 L.length cc3, .int .i64 (R 0), .int .i64 (R 1), .int .i64 (R 2), .int .i64 (R 3), .int .i64 (R 4), .int .i64 (R 5), .int .i64 (R 6), .int .i64 (R 7)] 27)))
   replace HB := hidp (Bgo HB.out (Bnew hb (.cells #[.slice A3 L.length cc3, .int .i64 (R 0), .int .i64 (R 1), .int .i64 (R 2), .int .i64 (R 3), .int .i64 (R 4), .int .i64 (R 5), .int .i64 (R 6), .int .i64 (R 7)] 27)))
   have HX1 := hidp (Held.new w1 27 #[.slice A3 L.length cc3, .int .i64 (R 0), .int .i64 (R 1), .int .i64 (R 2), .int .i64 (R 3), .int .i64 (R 4), .int .i64 (R 5), .int .i64 (R 6), .int .i64 (R 7)])
   have HN1 : Hid (wr.heap.size <= w1.heap.size) := hidp hws
   clear hb hq hws
   go_wp2_with fail
   generalize hwa : w1.alloc (.cells #[.slice A3 L.length cc3, .int .i64 (R 0), .int .i64 (R 1), .int .i64 (R 2), .int .i64 (R 3), .int .i64 (R 4), .int .i64 (R 5), .int .i64 (R 6), .int .i64 (R 7)] 27) = wa at *
   clear hwa
   replace HP := hidp (HTU.out _ _ _ _ _ _ _ HP.out (Turns.of_below (Bdrew (B0 wa)) (fun _ => False)) (fun _ _ x => x))
   replace HC := hidp (HC.out.keep (Bdrew (B0 wa)))
   replace HX1 := hidp (HX1.out.keep (Bdrew (B0 wa)))
   replace HQ := hidp (own_below HQ.out (Bdrew (B0 wa)))
   replace HB := hidp (Bdrew HB.out)
   refine wp_region_held_drew (S := (fun w' => w'.cell? (ad.add (i * 6)) = some (.int .i64 x.k) /\ w'.cell? ⟨(ad.add (i * 6)).block, (ad.add (i * 6)).off + 1, none⟩ = some (.int .i64 x.a) /\ w'.cell? ⟨(ad.add (i * 6)).block, (ad.add (i * 6)).off + 2, none⟩ = some (.int .i64 x.b) /\ w'.cell? ⟨(ad.add (i * 6)).block, (ad.add (i * 6)).off + 3, none⟩ = some (.int .i64 x.err) /\ w'.cell? ⟨(ad.add (i * 6)).block, (ad.add (i * 6)).off + 4, none⟩ = some (.int .i64 x.out) /\ w'.cell? ⟨(ad.add (i * 6)).block, (ad.add (i * 6)).off + 5, none⟩ = some (.int .i64 x.aux))) (by kernel_rfl) ?_ (fun hHeld => ?_)
   ·(try dsimp only)
    first | exact (HL.out.below HB2.out).cells HXX.out | exact (HL.out.below HB.out).cells HXX.out | exact hHeld
   refine tkz 0 ?_
   refine tkz 1 ?_
   refine tkz 2 ?_
   refine tkz 3 ?_
   refine tkz 4 ?_
   refine tkz 5 ?_
   refine tkz 6 ?_
   refine tkz 7 ?_
   refine tkz 8 ?_
   refine tkz 9 ?_
   refine tkz 10 ?_
   refine rdz 11 fun K hK => ?_
   go_simp
   (refine (HAP.out _ _ F L R x HOK.out HP.out (by omega) (HSL.out.below HB.out)).mono ?_; rintro e w2 ⟨F2, rfl, hF2, hM2, ht⟩; rw [HAB.out]; rw [HSN.out.1, HSN.out.2] at hM2; have HTT := hidp ht; have HF2 := hidp hF2; have HM2 := hidp hM2; have HB2 := hidp (ht.below HB.out (fun i hi => Nat.le_of_lt (HFN.out i hi))); clear hF2 hM2 ht)
   refine hK.out _ _ ?_ (fun hHeld => ?_)
   ·(try dsimp only)
    first | exact (HL.out.below HB2.out).cells HXX.out | exact (HL.out.below HB.out).cells HXX.out | exact hHeld
   clear hK K
   (try simp only [Act.put, gA, gB, gC, sA, sB, sC])
   refine tkz 12 ?_
   refine dnz ?_
   have HC2 := hidp (HTT.out.held HC.out (fun h => by have := HFN.out _ h; omega))
   have HX2 := hidp (HTT.out.held HX1.out (fun h => by have h1 := HPB.out _ h; have h2 := HN1.out; omega))
   have HQ2 := hidp (own_kept HQ.out (fun j hj => HTT.out.block j (HQ.out.lt j hj).2 (fun h => by have h1 := HPB.out _ h; have h2 := (HQ.out.lt j hj).1; omega)))
   have HFN2 : Hid (∀ i, F2 i -> W.heap.size < i) := hidp (fun i hi => by
    rcases HF2.out i hi with h | h
    ·exact HFN.out i h
    ·have := HC.out.lt
     omega)
   clear HTT HF2 HC HX1 HQ HFN HPB HB HP
   go_wp2_with fail
   refine (HST.out _ _ F2 Ln Rn HM2.out (by have := HLN.out; omega)).mono ?_; rintro e w3 ⟨A4, cc4, rfl, hq, hb⟩
   have HQ4 : Hid ((w3.alloc (.cells #[.slice A4 Ln.length cc4, .int .i64 (Rn 0), .int .i64 (Rn 1), .int .i64 (Rn 2), .int .i64 (Rn 3), .int .i64 (Rn 4), .int .i64 (Rn 5), .int .i64 (Rn 6), .int .i64 (Rn 7)] 27)).ownsRow w2.heap.size 55 2 (.slice A4 Ln.length cc4) Ln.length (bkVs Ln)) := hidp (hq.alloc _)
   have HX4 := hidp (Held.new w3 27 #[.slice A4 Ln.length cc4, .int .i64 (Rn 0), .int .i64 (Rn 1), .int .i64 (Rn 2), .int .i64 (Rn 3), .int .i64 (Rn 4), .int .i64 (Rn 5), .int .i64 (Rn 6), .int .i64 (Rn 7)])
   replace HP := hidp (HTU.out _ _ _ _ _ _ _ HM2.out (Turns.of_below (Bnew hb (.cells #[.slice A4 Ln.length cc4, .int .i64 (Rn 0), .int .i64 (Rn 1), .int .i64 (Rn 2), .int .i64 (Rn 3), .int .i64 (Rn 4), .int .i64 (Rn 5), .int .i64 (Rn 6), .int .i64 (Rn 7)] 27)) (fun _ => False)) (fun _ _ x => x))
   replace HC := hidp (HC2.out.keep (Bnew hb (.cells #[.slice A4 Ln.length cc4, .int .i64 (Rn 0), .int .i64 (Rn 1), .int .i64 (Rn 2), .int .i64 (Rn 3), .int .i64 (Rn 4), .int .i64 (Rn 5), .int .i64 (Rn 6), .int .i64 (Rn 7)] 27)))
   replace HX := hidp (HX2.out.keep (Bnew hb (.cells #[.slice A4 Ln.length cc4, .int .i64 (Rn 0), .int .i64 (Rn 1), .int .i64 (Rn 2), .int .i64 (Rn 3), .int .i64 (Rn 4), .int .i64 (Rn 5), .int .i64 (Rn 6), .int .i64 (Rn 7)] 27)))
   replace HQ := hidp (own_below HQ2.out (Bnew hb (.cells #[.slice A4 Ln.length cc4, .int .i64 (Rn 0), .int .i64 (Rn 1), .int .i64 (Rn 2), .int .i64 (Rn 3), .int .i64 (Rn 4), .int .i64 (Rn 5), .int .i64 (Rn 6), .int .i64 (Rn 7)] 27)))
   replace HB := hidp (Bgo HB2.out (Bnew hb (.cells #[.slice A4 Ln.length cc4, .int .i64 (Rn 0), .int .i64 (Rn 1), .int .i64 (Rn 2), .int .i64 (Rn 3), .int .i64 (Rn 4), .int .i64 (Rn 5), .int .i64 (Rn 6), .int .i64 (Rn 7)] 27)))
   clear hb hq HM2 HC2 HX2 HQ2 HB2
   have HSZ := hidp HX4.out.lt
   obtain ⟨d0, d1, d2, d3, d4, d5⟩ := (HL.out.below HB.out).cells HXX.out
   obtain ⟨x0, x1, x2, x3, x4, x5, x6, x7, x8⟩ := nine26 HX.out
   obtain ⟨y0, y1, y2, y3, y4, y5, y6, y7, y8⟩ := nine26 HX4.out
   obtain ⟨c0, c1, c2⟩ := HC.out.three
   have hmb : Ln.length <= 61 := by have := HLN.out; omega
   cases hb1 : ab with
   | false =>
    have HSS := hidp (HSAME.out (.inl hb1))
    have a0 : ab = false := hb1
    subst a0
    clear hb1
    go_wp2_with fail
    refine (xSame_c L Ln A3 A4 L.length Ln.length cc3 cc4 _ _ (R 0) (R 1) (R 2) (R 3) (R 4) (R 5) (R 6) (R 7) (Rn 0) (Rn 1) (Rn 2) (Rn 3) (Rn 4) (Rn 5) (Rn 6) (Rn 7) _ rfl rfl (by omega) (by have := HLN.out; omega) HQ.out HQ4.out true (by rw [HSS.out.1, HSS.out.2]; simp)).mono ?_; rintro e wz ⟨rfl, hb⟩
    replace HP := hidp (HTU.out _ _ _ _ _ _ _ HP.out (Turns.of_below hb (fun _ => False)) (fun _ _ x => x))
    replace HC := hidp (HC.out.keep hb)
    replace HX4 := hidp (HX4.out.keep hb)
    replace HQ4 := hidp (own_below HQ4.out hb)
    replace HB := hidp (Bgo HB.out hb)
    clear d0 d1 d2 d3 d4 d5 x0 x1 x2 x3 x4 x5 x6 x7 x8 y0 y1 y2 y3 y4 y5 y6 y7 y8 c0 c1 c2
    clear hb HX HQ
    obtain ⟨c0, c1, c2⟩ := HC.out.three
    go_wp2_with fail
    clear c0 c1 c2
    have hcv4 := own_caps3 HQ4.out
    have hcv5 : cc4 <= 9223372036854775807 := hcv4.2
    go_loopw [10, 12, 13] (fun u10 u12 _ wr => ∃ (j : Nat) (at_ : Int), j <= Ln.length /\ u12 = .int .i64 (j : Int) /\ u10 = .int .i64 at_ /\ Hid (ChainM E at_ (Ln.drop j)) /\ Hid (0 <= AT -> 0 <= at_) /\ Hid (Below wz.heap.size wz wr)) (fun _ u12 _ _ => Ln.length - (intOf u12).toNat)
    case atStart => exact ⟨0, AT, by omega, rfl, rfl, hidp (by rw [List.drop_zero]; exact (HIN.out.2.2 Ln Rn HI2.out).1), hidp (fun h => h), hidp (B0 wz)⟩
    case round =>
     obtain ⟨j, at_, hj, rfl, rfl, HCH, HAT0, HZ⟩ := hrel
     have HXQ := hidp (HX4.out.keep HZ.out)
     have y0 : wr.cell? ⟨w3.heap.size, 0, none⟩ = some (.slice A4 Ln.length cc4) := HXQ.out.cell 0
     by_cases hjm : j < Ln.length
     ·obtain ⟨y, hy⟩ : ∃ y, Ln[j]? = some y := ⟨_, List.getElem?_eq_getElem (by omega)⟩
      obtain ⟨gv, cv', hvv, hbv, hlv⟩ := HQ4.out.form (by omega)
      injection hvv with hvv hn0 hcc
      subst hvv
      subst hcc
      obtain ⟨p0, p1q⟩ := own_block0 (own_below HQ4.out HZ.out) rfl hy
      have hdrop : Ln.drop j = y :: Ln.drop (j + 1) := by
       have hl := (List.getElem?_eq_some_iff.1 hy).1
       rw [List.drop_eq_getElem_cons hl]
       rw [List.getElem?_eq_getElem hl] at hy
       injection hy with hy
       rw [hy]
      have hch := HCH.out
      rw [hdrop] at hch
      obtain ⟨b1, b2⟩ := y
      obtain ⟨⟨k1, k2, k3⟩, k4⟩ := hch
      dsimp only at k1 k2 k3 k4 p0 p1q
      have HCN := hidp k4
      obtain ⟨e1, e2, e3⟩ := HEB.out Ln Rn HI2.out (fun e => by rw [e] at hy; simp at hy)
      have e4 := HAT0.out e1
      have t2 : decide ((j : Int) < Ln.length) = true := decide_eq_true (by omega)
      have t3 : decide (b2 < 1) = false := decide_eq_false (by omega)
      have t4 : decide (b1 < at_) = false := decide_eq_false (by omega)
      have t5 : IntKind.i64.wrap (E - b1) = E - b1 := i64_same (by omega) (by omega)
      have t6 : decide (E - b1 < b2) = false := decide_eq_false (by omega)
      have t7 : IntKind.i64.wrap (b1 + b2) = b1 + b2 := i64_same (by omega) (by omega)
      have HA1 : Hid (0 <= AT -> 0 <= b1 + b2) := hidp (fun _ => by omega)
      have HZ1 := hidp (Bnew HZ.out (.cells #[.int .i64 b1, .int .i64 b2] 55))
      obtain ⟨z0, z1⟩ := (Held.new wr 55 #[.int .i64 b1, .int .i64 b2]).two
      clear hn0 hy hdrop k1 k2 k3 k4 e1 e2 e3 e4
      go_wp2_with fail
      go_roundw
      case rel => exact ⟨j + 1, b1 + b2, by omega, by go_num, rfl, HCN, HA1, HZ1⟩
      case measure => simp [intOf]; omega
     ·have t2 : decide ((j : Int) < Ln.length) = false := decide_eq_false (by omega)
      go_wp2_with fail
      clear HCH HAT0 HXQ y0
      go_loopw [14] (fun u14 wr => ∃ q : Nat, q <= 8 /\ u14 = .int .i64 (q : Int) /\ Hid (Below wz.heap.size wz wr)) (fun u14 _ => 8 - (intOf u14).toNat)
      case atStart => exact ⟨0, by omega, rfl, HZ⟩
      case round =>
       clear HZ
       obtain ⟨q, hq8, rfl, HZ⟩ := hrel
       by_cases hq : q < 8
       ·have hqi : (q : Int) < 8 := by omega
        have t3 : decide ((q : Int) < 8) = true := decide_eq_true hqi
        obtain ⟨r, hr⟩ : ∃ r, Rn q = r := ⟨_, rfl⟩
        have HRR := hidp hr
        have hnm := (HIN.out.2.2 Ln Rn HI2.out).2 q hq
        rw [hr] at hnm
        have HNM := hidp hnm
        clear hr hnm
        by_cases hr0 : r = 0
        ·have q1 : (r != 0) = false := by simpa using hr0
         clear hr0
         go_wp2_with fail
         have HZd := hidp (Bdrew HZ.out)
         have HXQ := hidp (HX4.out.keep HZd.out)
         have HS24 : Hid (wr.drew.cell? ⟨w3.heap.size, 1 + q, none⟩ = some (.int .i64 r)) := hidp (by have := state_root HXQ.out hq; rwa [HRR.out] at this)
         refine wp_region_held_drew (S := (fun w' => w'.cell? ⟨w3.heap.size, 1 + q, none⟩ = some (.int .i64 r))) (by kernel_rfl) ?_ (fun hHeld => ?_)
         ·(try dsimp only)
          first | exact HS24.out | exact hHeld
         refine tkz 0 ?_
         refine tkz 1 ?_
         refine tkz 2 ?_
         refine tkz 3 ?_
         refine tkz 4 ?_
         refine tkz 5 ?_
         refine skz 6 ?_
         refine skz 7 ?_
         refine skz 8 ?_
         refine skz 9 ?_
         refine skz 10 ?_
         refine skz 11 ?_
         refine skz 12 ?_
         refine skz 13 ?_
         refine tkz 14 ?_
         refine dnz ?_
         go_wp2_with fail
         go_roundw
         case rel => exact ⟨q + 1, by omega, by go_num, HZd⟩
         case measure => simp [intOf]; omega
        ·have q1 : (r != 0) = true := by simpa using hr0
         have HHB : Hid (∃ x ∈ Ln, x.1 = r) := hidp (by
          rcases HNM.out with h | h
          ·exact absurd h hr0
          ·exact h)
         clear hr0
         go_wp2_with fail
         have HZd := hidp (Bdrew HZ.out)
         have HXQ := hidp (HX4.out.keep HZd.out)
         have HOQ := hidp (own_below HQ4.out HZd.out)
         have HS24 : Hid (wr.drew.cell? ⟨w3.heap.size, 1 + q, none⟩ = some (.int .i64 r) /\ wr.drew.cell? ⟨w3.heap.size, 0, none⟩ = some (.slice A4 Ln.length cc4)) := hidp ⟨by have := state_root HXQ.out hq; rwa [HRR.out] at this, HXQ.out.cell 0⟩
         refine wp_region_held_drew (S := (fun w' => w'.cell? ⟨w3.heap.size, 1 + q, none⟩ = some (.int .i64 r) /\ w'.cell? ⟨w3.heap.size, 0, none⟩ = some (.slice A4 Ln.length cc4))) (by kernel_rfl) ?_ (fun hHeld => ?_)
         ·(try dsimp only)
          first | exact HS24.out | exact hHeld
         refine tkz 0 ?_
         refine tkz 1 ?_
         refine tkz 2 ?_
         refine tkz 3 ?_
         refine tkz 4 ?_
         refine tkz 5 ?_
         refine tkz 6 ?_
         refine tkz 7 ?_
         refine tkz 8 ?_
         refine tkz 9 ?_
         refine tkz 10 ?_
         refine tkz 11 ?_
         refine rdz 12 fun K hK => ?_
         go_simp
         (refine (xHas_c Ln A4 Ln.length cc4 r _ _ HOQ.out rfl ⟨by have := hcv4.1; omega, hcv5⟩ (by omega) true ⟨fun _ => HHB.out, fun _ => rfl⟩).mono ?_; rintro e w9 ⟨rfl, rfl⟩)
         refine hK.out _ _ ?_ (fun hHeld => ?_)
         ·(try dsimp only)
          first | exact HS24.out | exact hHeld
         clear hK K
         (try simp only [Act.put, gA, gB, gC, sA, sB, sC])
         refine tkz 13 ?_
         refine tkz 14 ?_
         refine dnz ?_
         go_wp2_with fail
         go_roundw
         case rel => exact ⟨q + 1, by omega, by go_num, HZd⟩
         case measure => simp [intOf]; omega
       ·have t3 : decide ((q : Int) < 8) = false := decide_eq_false (by omega)
        have HP9 := hidp (HTU.out _ _ _ _ _ _ _ HP.out (Turns.of_below HZ.out (fun _ => False)) (fun _ _ x => x))
        have HC9 := hidp (HC.out.keep HZ.out)
        have HB9 := hidp (Bgo HB.out HZ.out)
        go_wp2_with fail
        go_roundw
        case rel => exact ⟨i + 1, Ln, Rn, F2, by omega, by go_num, by have := HLN.out; omega, HP9, HFN2, HI2, HC9, HB9⟩
        case measure => simp [intOf]; omega
   | true =>
    by_cases he : x.err = 0
    ·have q0 : (x.err != 0) = false := by simpa using he
     have a0 : ab = true := hb1
     subst a0
     clear he hb1
     go_wp2_with fail
     clear d0 d1 d2 d3 d4 d5 x0 x1 x2 x3 x4 x5 x6 x7 x8 y0 y1 y2 y3 y4 y5 y6 y7 y8 c0 c1 c2
     generalize hwz : w3.alloc (.cells #[.slice A4 Ln.length cc4, .int .i64 (Rn 0), .int .i64 (Rn 1), .int .i64 (Rn 2), .int .i64 (Rn 3), .int .i64 (Rn 4), .int .i64 (Rn 5), .int .i64 (Rn 6), .int .i64 (Rn 7)] 27) = wz at *
     clear hwz
     have hcv4 := own_caps3 HQ4.out
     have hcv5 : cc4 <= 9223372036854775807 := hcv4.2
     go_loopw [10, 12, 13] (fun u10 u12 _ wr => ∃ (j : Nat) (at_ : Int), j <= Ln.length /\ u12 = .int .i64 (j : Int) /\ u10 = .int .i64 at_ /\ Hid (ChainM E at_ (Ln.drop j)) /\ Hid (0 <= AT -> 0 <= at_) /\ Hid (Below wz.heap.size wz wr)) (fun _ u12 _ _ => Ln.length - (intOf u12).toNat)
     case atStart => exact ⟨0, AT, by omega, rfl, rfl, hidp (by rw [List.drop_zero]; exact (HIN.out.2.2 Ln Rn HI2.out).1), hidp (fun h => h), hidp (B0 wz)⟩
     case round =>
      obtain ⟨j, at_, hj, rfl, rfl, HCH, HAT0, HZ⟩ := hrel
      have HXQ := hidp (HX4.out.keep HZ.out)
      have y0 : wr.cell? ⟨w3.heap.size, 0, none⟩ = some (.slice A4 Ln.length cc4) := HXQ.out.cell 0
      by_cases hjm : j < Ln.length
      ·obtain ⟨y, hy⟩ : ∃ y, Ln[j]? = some y := ⟨_, List.getElem?_eq_getElem (by omega)⟩
       obtain ⟨gv, cv', hvv, hbv, hlv⟩ := HQ4.out.form (by omega)
       injection hvv with hvv hn0 hcc
       subst hvv
       subst hcc
       obtain ⟨p0, p1q⟩ := own_block0 (own_below HQ4.out HZ.out) rfl hy
       have hdrop : Ln.drop j = y :: Ln.drop (j + 1) := by
        have hl := (List.getElem?_eq_some_iff.1 hy).1
        rw [List.drop_eq_getElem_cons hl]
        rw [List.getElem?_eq_getElem hl] at hy
        injection hy with hy
        rw [hy]
       have hch := HCH.out
       rw [hdrop] at hch
       obtain ⟨b1, b2⟩ := y
       obtain ⟨⟨k1, k2, k3⟩, k4⟩ := hch
       dsimp only at k1 k2 k3 k4 p0 p1q
       have HCN := hidp k4
       obtain ⟨e1, e2, e3⟩ := HEB.out Ln Rn HI2.out (fun e => by rw [e] at hy; simp at hy)
       have e4 := HAT0.out e1
       have t2 : decide ((j : Int) < Ln.length) = true := decide_eq_true (by omega)
       have t3 : decide (b2 < 1) = false := decide_eq_false (by omega)
       have t4 : decide (b1 < at_) = false := decide_eq_false (by omega)
       have t5 : IntKind.i64.wrap (E - b1) = E - b1 := i64_same (by omega) (by omega)
       have t6 : decide (E - b1 < b2) = false := decide_eq_false (by omega)
       have t7 : IntKind.i64.wrap (b1 + b2) = b1 + b2 := i64_same (by omega) (by omega)
       have HA1 : Hid (0 <= AT -> 0 <= b1 + b2) := hidp (fun _ => by omega)
       have HZ1 := hidp (Bnew HZ.out (.cells #[.int .i64 b1, .int .i64 b2] 55))
       obtain ⟨z0, z1⟩ := (Held.new wr 55 #[.int .i64 b1, .int .i64 b2]).two
       clear hn0 hy hdrop k1 k2 k3 k4 e1 e2 e3 e4
       go_wp2_with fail
       go_roundw
       case rel => exact ⟨j + 1, b1 + b2, by omega, by go_num, rfl, HCN, HA1, HZ1⟩
       case measure => simp [intOf]; omega
      ·have t2 : decide ((j : Int) < Ln.length) = false := decide_eq_false (by omega)
       go_wp2_with fail
       clear HCH HAT0 HXQ y0
       go_loopw [14] (fun u14 wr => ∃ q : Nat, q <= 8 /\ u14 = .int .i64 (q : Int) /\ Hid (Below wz.heap.size wz wr)) (fun u14 _ => 8 - (intOf u14).toNat)
       case atStart => exact ⟨0, by omega, rfl, HZ⟩
       case round =>
        clear HZ
        obtain ⟨q, hq8, rfl, HZ⟩ := hrel
        by_cases hq : q < 8
        ·have hqi : (q : Int) < 8 := by omega
         have t3 : decide ((q : Int) < 8) = true := decide_eq_true hqi
         obtain ⟨r, hr⟩ : ∃ r, Rn q = r := ⟨_, rfl⟩
         have HRR := hidp hr
         have hnm := (HIN.out.2.2 Ln Rn HI2.out).2 q hq
         rw [hr] at hnm
         have HNM := hidp hnm
         clear hr hnm
         by_cases hr0 : r = 0
         ·have q1 : (r != 0) = false := by simpa using hr0
          clear hr0
          go_wp2_with fail
          have HZd := hidp (Bdrew HZ.out)
          have HXQ := hidp (HX4.out.keep HZd.out)
          have HS24 : Hid (wr.drew.cell? ⟨w3.heap.size, 1 + q, none⟩ = some (.int .i64 r)) := hidp (by have := state_root HXQ.out hq; rwa [HRR.out] at this)
          refine wp_region_held_drew (S := (fun w' => w'.cell? ⟨w3.heap.size, 1 + q, none⟩ = some (.int .i64 r))) (by kernel_rfl) ?_ (fun hHeld => ?_)
          ·(try dsimp only)
           first | exact HS24.out | exact hHeld
          refine tkz 0 ?_
          refine tkz 1 ?_
          refine tkz 2 ?_
          refine tkz 3 ?_
          refine tkz 4 ?_
          refine tkz 5 ?_
          refine skz 6 ?_
          refine skz 7 ?_
          refine skz 8 ?_
          refine skz 9 ?_
          refine skz 10 ?_
          refine skz 11 ?_
          refine skz 12 ?_
          refine skz 13 ?_
          refine tkz 14 ?_
          refine dnz ?_
          go_wp2_with fail
          go_roundw
          case rel => exact ⟨q + 1, by omega, by go_num, HZd⟩
          case measure => simp [intOf]; omega
         ·have q1 : (r != 0) = true := by simpa using hr0
          have HHB : Hid (∃ x ∈ Ln, x.1 = r) := hidp (by
           rcases HNM.out with h | h
           ·exact absurd h hr0
           ·exact h)
          clear hr0
          go_wp2_with fail
          have HZd := hidp (Bdrew HZ.out)
          have HXQ := hidp (HX4.out.keep HZd.out)
          have HOQ := hidp (own_below HQ4.out HZd.out)
          have HS24 : Hid (wr.drew.cell? ⟨w3.heap.size, 1 + q, none⟩ = some (.int .i64 r) /\ wr.drew.cell? ⟨w3.heap.size, 0, none⟩ = some (.slice A4 Ln.length cc4)) := hidp ⟨by have := state_root HXQ.out hq; rwa [HRR.out] at this, HXQ.out.cell 0⟩
          refine wp_region_held_drew (S := (fun w' => w'.cell? ⟨w3.heap.size, 1 + q, none⟩ = some (.int .i64 r) /\ w'.cell? ⟨w3.heap.size, 0, none⟩ = some (.slice A4 Ln.length cc4))) (by kernel_rfl) ?_ (fun hHeld => ?_)
          ·(try dsimp only)
           first | exact HS24.out | exact hHeld
          refine tkz 0 ?_
          refine tkz 1 ?_
          refine tkz 2 ?_
          refine tkz 3 ?_
          refine tkz 4 ?_
          refine tkz 5 ?_
          refine tkz 6 ?_
          refine tkz 7 ?_
          refine tkz 8 ?_
          refine tkz 9 ?_
          refine tkz 10 ?_
          refine tkz 11 ?_
          refine rdz 12 fun K hK => ?_
          go_simp
          (refine (xHas_c Ln A4 Ln.length cc4 r _ _ HOQ.out rfl ⟨by have := hcv4.1; omega, hcv5⟩ (by omega) true ⟨fun _ => HHB.out, fun _ => rfl⟩).mono ?_; rintro e w9 ⟨rfl, rfl⟩)
          refine hK.out _ _ ?_ (fun hHeld => ?_)
          ·(try dsimp only)
           first | exact HS24.out | exact hHeld
          clear hK K
          (try simp only [Act.put, gA, gB, gC, sA, sB, sC])
          refine tkz 13 ?_
          refine tkz 14 ?_
          refine dnz ?_
          go_wp2_with fail
          go_roundw
          case rel => exact ⟨q + 1, by omega, by go_num, HZd⟩
          case measure => simp [intOf]; omega
        ·have t3 : decide ((q : Int) < 8) = false := decide_eq_false (by omega)
         have HP9 := hidp (HTU.out _ _ _ _ _ _ _ HP.out (Turns.of_below HZ.out (fun _ => False)) (fun _ _ x => x))
         have HC9 := hidp (HC.out.keep HZ.out)
         have HB9 := hidp (Bgo HB.out HZ.out)
         go_wp2_with fail
         go_roundw
         case rel => exact ⟨i + 1, Ln, Rn, F2, by omega, by go_num, by have := HLN.out; omega, HP9, HFN2, HI2, HC9, HB9⟩
         case measure => simp [intOf]; omega
    ·have HSS := hidp (HSAME.out (.inr he))
     have q0 : (x.err != 0) = true := by simpa using he
     have a0 : ab = true := hb1
     subst a0
     clear hb1 he
     go_wp2_with fail
     refine (xSame_c L Ln A3 A4 L.length Ln.length cc3 cc4 _ _ (R 0) (R 1) (R 2) (R 3) (R 4) (R 5) (R 6) (R 7) (Rn 0) (Rn 1) (Rn 2) (Rn 3) (Rn 4) (Rn 5) (Rn 6) (Rn 7) _ rfl rfl (by omega) (by have := HLN.out; omega) HQ.out HQ4.out true (by rw [HSS.out.1, HSS.out.2]; simp)).mono ?_; rintro e wz ⟨rfl, hb⟩
     replace HP := hidp (HTU.out _ _ _ _ _ _ _ HP.out (Turns.of_below hb (fun _ => False)) (fun _ _ x => x))
     replace HC := hidp (HC.out.keep hb)
     replace HX4 := hidp (HX4.out.keep hb)
     replace HQ4 := hidp (own_below HQ4.out hb)
     replace HB := hidp (Bgo HB.out hb)
     clear d0 d1 d2 d3 d4 d5 x0 x1 x2 x3 x4 x5 x6 x7 x8 y0 y1 y2 y3 y4 y5 y6 y7 y8 c0 c1 c2
     clear hb HX HQ
     obtain ⟨c0, c1, c2⟩ := HC.out.three
     go_wp2_with fail
     clear c0 c1 c2
     have hcv4 := own_caps3 HQ4.out
     have hcv5 : cc4 <= 9223372036854775807 := hcv4.2
     go_loopw [10, 12, 13] (fun u10 u12 _ wr => ∃ (j : Nat) (at_ : Int), j <= Ln.length /\ u12 = .int .i64 (j : Int) /\ u10 = .int .i64 at_ /\ Hid (ChainM E at_ (Ln.drop j)) /\ Hid (0 <= AT -> 0 <= at_) /\ Hid (Below wz.heap.size wz wr)) (fun _ u12 _ _ => Ln.length - (intOf u12).toNat)
     case atStart => exact ⟨0, AT, by omega, rfl, rfl, hidp (by rw [List.drop_zero]; exact (HIN.out.2.2 Ln Rn HI2.out).1), hidp (fun h => h), hidp (B0 wz)⟩
     case round =>
      obtain ⟨j, at_, hj, rfl, rfl, HCH, HAT0, HZ⟩ := hrel
      have HXQ := hidp (HX4.out.keep HZ.out)
      have y0 : wr.cell? ⟨w3.heap.size, 0, none⟩ = some (.slice A4 Ln.length cc4) := HXQ.out.cell 0
      by_cases hjm : j < Ln.length
      ·obtain ⟨y, hy⟩ : ∃ y, Ln[j]? = some y := ⟨_, List.getElem?_eq_getElem (by omega)⟩
       obtain ⟨gv, cv', hvv, hbv, hlv⟩ := HQ4.out.form (by omega)
       injection hvv with hvv hn0 hcc
       subst hvv
       subst hcc
       obtain ⟨p0, p1q⟩ := own_block0 (own_below HQ4.out HZ.out) rfl hy
       have hdrop : Ln.drop j = y :: Ln.drop (j + 1) := by
        have hl := (List.getElem?_eq_some_iff.1 hy).1
        rw [List.drop_eq_getElem_cons hl]
        rw [List.getElem?_eq_getElem hl] at hy
        injection hy with hy
        rw [hy]
       have hch := HCH.out
       rw [hdrop] at hch
       obtain ⟨b1, b2⟩ := y
       obtain ⟨⟨k1, k2, k3⟩, k4⟩ := hch
       dsimp only at k1 k2 k3 k4 p0 p1q
       have HCN := hidp k4
       obtain ⟨e1, e2, e3⟩ := HEB.out Ln Rn HI2.out (fun e => by rw [e] at hy; simp at hy)
       have e4 := HAT0.out e1
       have t2 : decide ((j : Int) < Ln.length) = true := decide_eq_true (by omega)
       have t3 : decide (b2 < 1) = false := decide_eq_false (by omega)
       have t4 : decide (b1 < at_) = false := decide_eq_false (by omega)
       have t5 : IntKind.i64.wrap (E - b1) = E - b1 := i64_same (by omega) (by omega)
       have t6 : decide (E - b1 < b2) = false := decide_eq_false (by omega)
       have t7 : IntKind.i64.wrap (b1 + b2) = b1 + b2 := i64_same (by omega) (by omega)
       have HA1 : Hid (0 <= AT -> 0 <= b1 + b2) := hidp (fun _ => by omega)
       have HZ1 := hidp (Bnew HZ.out (.cells #[.int .i64 b1, .int .i64 b2] 55))
       obtain ⟨z0, z1⟩ := (Held.new wr 55 #[.int .i64 b1, .int .i64 b2]).two
       clear hn0 hy hdrop k1 k2 k3 k4 e1 e2 e3 e4
       go_wp2_with fail
       go_roundw
       case rel => exact ⟨j + 1, b1 + b2, by omega, by go_num, rfl, HCN, HA1, HZ1⟩
       case measure => simp [intOf]; omega
      ·have t2 : decide ((j : Int) < Ln.length) = false := decide_eq_false (by omega)
       go_wp2_with fail
       clear HCH HAT0 HXQ y0
       go_loopw [14] (fun u14 wr => ∃ q : Nat, q <= 8 /\ u14 = .int .i64 (q : Int) /\ Hid (Below wz.heap.size wz wr)) (fun u14 _ => 8 - (intOf u14).toNat)
       case atStart => exact ⟨0, by omega, rfl, HZ⟩
       case round =>
        clear HZ
        obtain ⟨q, hq8, rfl, HZ⟩ := hrel
        by_cases hq : q < 8
        ·have hqi : (q : Int) < 8 := by omega
         have t3 : decide ((q : Int) < 8) = true := decide_eq_true hqi
         obtain ⟨r, hr⟩ : ∃ r, Rn q = r := ⟨_, rfl⟩
         have HRR := hidp hr
         have hnm := (HIN.out.2.2 Ln Rn HI2.out).2 q hq
         rw [hr] at hnm
         have HNM := hidp hnm
         clear hr hnm
         by_cases hr0 : r = 0
         ·have q1 : (r != 0) = false := by simpa using hr0
          clear hr0
          go_wp2_with fail
          have HZd := hidp (Bdrew HZ.out)
          have HXQ := hidp (HX4.out.keep HZd.out)
          have HS24 : Hid (wr.drew.cell? ⟨w3.heap.size, 1 + q, none⟩ = some (.int .i64 r)) := hidp (by have := state_root HXQ.out hq; rwa [HRR.out] at this)
          refine wp_region_held_drew (S := (fun w' => w'.cell? ⟨w3.heap.size, 1 + q, none⟩ = some (.int .i64 r))) (by kernel_rfl) ?_ (fun hHeld => ?_)
          ·(try dsimp only)
           first | exact HS24.out | exact hHeld
          refine tkz 0 ?_
          refine tkz 1 ?_
          refine tkz 2 ?_
          refine tkz 3 ?_
          refine tkz 4 ?_
          refine tkz 5 ?_
          refine skz 6 ?_
          refine skz 7 ?_
          refine skz 8 ?_
          refine skz 9 ?_
          refine skz 10 ?_
          refine skz 11 ?_
          refine skz 12 ?_
          refine skz 13 ?_
          refine tkz 14 ?_
          refine dnz ?_
          go_wp2_with fail
          go_roundw
          case rel => exact ⟨q + 1, by omega, by go_num, HZd⟩
          case measure => simp [intOf]; omega
         ·have q1 : (r != 0) = true := by simpa using hr0
          have HHB : Hid (∃ x ∈ Ln, x.1 = r) := hidp (by
           rcases HNM.out with h | h
           ·exact absurd h hr0
           ·exact h)
          clear hr0
          go_wp2_with fail
          have HZd := hidp (Bdrew HZ.out)
          have HXQ := hidp (HX4.out.keep HZd.out)
          have HOQ := hidp (own_below HQ4.out HZd.out)
          have HS24 : Hid (wr.drew.cell? ⟨w3.heap.size, 1 + q, none⟩ = some (.int .i64 r) /\ wr.drew.cell? ⟨w3.heap.size, 0, none⟩ = some (.slice A4 Ln.length cc4)) := hidp ⟨by have := state_root HXQ.out hq; rwa [HRR.out] at this, HXQ.out.cell 0⟩
          refine wp_region_held_drew (S := (fun w' => w'.cell? ⟨w3.heap.size, 1 + q, none⟩ = some (.int .i64 r) /\ w'.cell? ⟨w3.heap.size, 0, none⟩ = some (.slice A4 Ln.length cc4))) (by kernel_rfl) ?_ (fun hHeld => ?_)
          ·(try dsimp only)
           first | exact HS24.out | exact hHeld
          refine tkz 0 ?_
          refine tkz 1 ?_
          refine tkz 2 ?_
          refine tkz 3 ?_
          refine tkz 4 ?_
          refine tkz 5 ?_
          refine tkz 6 ?_
          refine tkz 7 ?_
          refine tkz 8 ?_
          refine tkz 9 ?_
          refine tkz 10 ?_
          refine tkz 11 ?_
          refine rdz 12 fun K hK => ?_
          go_simp
          (refine (xHas_c Ln A4 Ln.length cc4 r _ _ HOQ.out rfl ⟨by have := hcv4.1; omega, hcv5⟩ (by omega) true ⟨fun _ => HHB.out, fun _ => rfl⟩).mono ?_; rintro e w9 ⟨rfl, rfl⟩)
          refine hK.out _ _ ?_ (fun hHeld => ?_)
          ·(try dsimp only)
           first | exact HS24.out | exact hHeld
          clear hK K
          (try simp only [Act.put, gA, gB, gC, sA, sB, sC])
          refine tkz 13 ?_
          refine tkz 14 ?_
          refine dnz ?_
          go_wp2_with fail
          go_roundw
          case rel => exact ⟨q + 1, by omega, by go_num, HZd⟩
          case measure => simp [intOf]; omega
        ·have t3 : decide ((q : Int) < 8) = false := decide_eq_false (by omega)
         have HP9 := hidp (HTU.out _ _ _ _ _ _ _ HP.out (Turns.of_below HZ.out (fun _ => False)) (fun _ _ x => x))
         have HC9 := hidp (HC.out.keep HZ.out)
         have HB9 := hidp (Bgo HB.out HZ.out)
         go_wp2_with fail
         go_roundw
         case rel => exact ⟨i + 1, Ln, Rn, F2, by omega, by go_num, by have := HLN.out; omega, HP9, HFN2, HI2, HC9, HB9⟩
         case measure => simp [intOf]; omega
  ·have t1 : decide ((i : Int) < n) = false := decide_eq_false (by omega)
   go_wp2_with fail
   refine (live26_c _ (HSL.out.below HB.out)).mono ?_; rintro e w9 ⟨rfl, hb⟩
   have HB9 := hidp (Bgo HB.out hb)
   clear hb
   go_wp2_with fail
   go_ret
   exact ⟨rfl, HB9.out⟩

theorem at_right {t p s : Int} (hr : rightB t p s = true) : ∃ mi h0 AT p1 E : Int, (if s < 30 then s else 30) = mi /\ (if 0 < mi then mi else 0) = h0 /\ IntKind.i64.wrap (2 ^ h0.toNat) = AT /\ IntKind.i64.wrap (p + 1) = p1 /\ IntKind.i64.wrap (AT * p1) = E /\ AT = (pageN t p s : Int) /\ E = endI t p s /\ 0 <= AT /\ 0 <= E /\ E <= 2147483648 := by
 have h1 := ((rightB_iff t p s).1 hr).2
 have h2 := end_le hr
 have h3 : (pageN t p s : Int) = 2 ^ s.toNat := by
  unfold pageN
  rw [if_pos hr]
  push_cast
  rfl
 refine ⟨s, s, (pageN t p s : Int), p + 1, endI t p s, if_pos (by omega), if_pos (by omega), ?_, i64_same (by omega) (by omega), i64_same ?_ ?_, rfl, rfl, h2.2.1, h2.2.2.2.1, h2.2.2.2.2⟩
 ·rw [<- h3]
  exact i64_same (by omega) (by omega)
 ·show -9223372036854775808 <= endI t p s
  omega
 ·show endI t p s <= 9223372036854775807
  omega

theorem ModelApart_right (t p s : Int) (A : Option Addr) (n c : Nat) (l : List SaidV) (hl : l.length = n) (hn : n <= 60) (hcn : n <= c /\ c <= maxLen) (hok : ∀ x ∈ l, x.Ok) (hr : rightB t p s = true) (W : World) (hin : SaidVs W A l) (hT : SlotsLaid W) : Calls Tryd.prog 5 #[.agg #[.int .i64 t, .int .i64 p, .int .i64 s], .slice A n c] W (Keeps W) := by
 obtain ⟨mi, h0, AT, p1, E, e1, e2, e3, e4, e5, e6, e7, e8, e9, e10⟩ := at_right hr
 refine ModelApart_gen t p s A n c l hl hn hcn hok (fun v w F L R => ∃ g, v = .pointer (some ⟨g, 0, none⟩) /\ IsMod w g F t p s L R) (fun L R => ChainM (endI t p s) (pageN t p s : Int) L /\ NamesM L R) (fun L R x => allowM t p s L R x.k x.a x.b x.err x.out x.aux) (fun L R x => stepL t p s L R x.k x.a x.b x.err x.out x.aux) (fun L R x => stepR t p s L R x.k x.a x.b x.err x.out x.aux) mi h0 AT p1 E e1 e2 e3 e4 e5
  (hidp ?_) (hidp ?_) (hidp ?_) (hidp ?_) (hidp ?_) (hidp ?_) (hidp ?_) (hidp ?_) (hidp ?_) W hin hT
 ·rintro v w F L R ⟨g, rfl, h⟩
  exact h.lt
 ·rintro v w w' F G L R ⟨g, rfl, h⟩ ht hg
  exact ⟨g, rfl, h.turns ht hg⟩
 ·rintro v w F L R ⟨g, rfl, h⟩ hL
  exact mdState_c h hL
 ·rintro v w F L R x hx ⟨g, rfl, h⟩ hL hs
  refine (mdApply_c h hL x.k x.a x.b x.err x.out x.aux hx.k hx.a hx.b hs).mono ?_
  rintro e w' ⟨F', h1, h2, h3, h4⟩
  exact ⟨F', h1, h2, ⟨g, rfl, h3⟩, h4⟩
 ·intro w
  refine (mdNew_yes t p s hr w).mono ?_
  rintro e w' ⟨g, F, h1, h2, h3, h4⟩
  exact ⟨_, F, h1, h2, ⟨g, rfl, h3⟩, h4⟩
 ·intro L R x h
  exact step_same h
 ·refine ⟨⟨trivial, fun k _ => .inl rfl⟩, fun L R x h => apart_step h.1 h.2 .., fun L R h => ?_⟩
  rw [e6, e7]
  exact h
 ·intro L R x
  exact step_len ..
 ·intro L R _ _
  exact ⟨e8, e9, e10⟩

theorem ModelApart_wrong (t p s : Int) (A : Option Addr) (n c : Nat) (l : List SaidV) (hl : l.length = n) (hn : n <= 60) (hcn : n <= c /\ c <= maxLen) (hok : ∀ x ∈ l, x.Ok) (hr : rightB t p s = false) (W : World) (hin : SaidVs W A l) (hT : SlotsLaid W) : Calls Tryd.prog 5 #[.agg #[.int .i64 t, .int .i64 p, .int .i64 s], .slice A n c] W (Keeps W) := by
 refine ModelApart_gen t p s A n c l hl hn hcn hok (fun v w F L R => v = .pointer none /\ (∀ i, ¬ F i) /\ L = [] /\ R = fun _ => 0) (fun L R => L = [] /\ R = fun _ => 0) (fun _ _ _ => false) (fun L _ _ => L) (fun _ R _ => R) _ _ _ _ _ rfl rfl rfl rfl rfl
  (hidp ?_) (hidp ?_) (hidp ?_) (hidp ?_) (hidp ?_) (hidp ?_) (hidp ?_) (hidp ?_) (hidp ?_) W hin hT
 ·rintro v w F L R ⟨rfl, h, rfl, rfl⟩ i hi
  exact absurd hi (h i)
 ·rintro v w w' F G L R h ht hg
  exact h
 ·rintro v w F L R ⟨rfl, h, rfl, rfl⟩ hL
  refine (mdState_nil w).mono ?_
  rintro e w' ⟨h1, h2⟩
  exact ⟨none, 0, h1, World.ownsRow_nil _ _ _ _, h2⟩
 ·rintro v w F L R x hx ⟨rfl, h, rfl, rfl⟩ hL _
  refine (mdApply_nil x.k x.a x.b x.err x.out x.aux w).mono ?_
  rintro e w' ⟨h1, h2⟩
  exact ⟨F, h1, fun i hi => .inl hi, ⟨rfl, h, rfl, rfl⟩, Turns.of_below h2 F⟩
 ·intro w
  refine (mdNew_no t p s hr w).mono ?_
  rintro e w' ⟨h1, h2⟩
  exact ⟨_, fun _ => False, h1, fun i hi => hi.elim, ⟨rfl, fun i hi => hi, rfl, rfl⟩, h2⟩
 ·intro L R x _
  exact ⟨rfl, rfl⟩
 ·refine ⟨⟨rfl, rfl⟩, fun L R x h => h, ?_⟩
  rintro L R ⟨rfl, rfl⟩
  exact ⟨trivial, fun k _ => .inl rfl⟩
 ·intro L R x
  omega
 ·rintro L R ⟨rfl, _⟩ h
  exact absurd rfl h

theorem ModelApart_calls (t p s : Int) (A : Option Addr) (n c : Nat) (l : List SaidV) (hl : l.length = n) (hcn : n <= c /\ c <= maxLen) (hok : ∀ x ∈ l, x.Ok) (W : World) (hin : SaidVs W A l) (hT : SlotsLaid W) : Calls Tryd.prog 5 #[.agg #[.int .i64 t, .int .i64 p, .int .i64 s], .slice A n c] W (Keeps W) := by
 by_cases hn : n <= 60
 ·cases hr : rightB t p s with
  | false => exact ModelApart_wrong t p s A n c l hl hn hcn hok hr W hin hT
  | true => exact ModelApart_right t p s A n c l hl hn hcn hok hr W hin hT
 ·exact ModelApart_many t p s A n c (by omega) W hT
end
end Go.Proofs.YtedakmhffjhfnaaDoor

namespace Go.Proofs.YtedakmhffjhfnaaDoor
open Go.ChangeShapes Go.WideShapes Go.ChangeAt Go.RowKit
set_option linter.unusedVariables false
set_option linter.unusedSimpArgs false
section
set_option maxRecDepth 100000 in
theorem open_conf {H : Type} {enc : TypeId × Value -> H} {W : World} {b base : Nat} {sp : Nat -> Bool} {held : Bool} {v : Value} {d : DataW H} {p : List MemPlace}
  (hv : Value.okWide Tryd.prog W .any b 23 v) (h : DataW.Trod enc Tryd.prog W base sp held 23 v d p) :
  ∃ (t q s : Int), v = .agg #[.int .i64 t, .int .i64 q, .int .i64 s] := by
 obtain ⟨v0, v1, v2, y0, y1, y2, m, rfl, rfl, rfl, h0, h1, h2⟩ := Joins.open_agg3 Tryd.underlying23 (by kernel_rfl) (by kernel_rfl) hv h
 obtain ⟨a, e0, _, w0⟩ := DataW.trod_int Tryd.underlying3 h0
 obtain ⟨c, e1, _, w1⟩ := DataW.trod_int Tryd.underlying3 h1
 obtain ⟨k, e2, _, w2⟩ := DataW.trod_int Tryd.underlying3 h2
 simp at e0 e1 e2
 subst e0 e1 e2
 exact ⟨a, c, k, rfl⟩
end
end Go.Proofs.YtedakmhffjhfnaaDoor

namespace Go.Proofs.YtedakmhffjhfnaaDoor
open Go.ChangeShapes Go.WideShapes Go.ChangeAt Go.RowKit
set_option linter.unusedVariables false
section
section
variable {H : Type} {enc : TypeId × Value -> H}
theorem law_lifted_laid {C : Checked} {os : Os} {f : FuncId} {fn : Func} {s : ChangeSpec} {tb : TypeId} {laid : List (String × DataW Unit)}
  (own : ownKnob C.prog.godebug = none) (started : os.Started) (noInit : C.prog.inits.idxOf? f = none) (hfn : C.prog.funcs[f]? = some fn)
  (witness : ∃ (w : World) (tape : Tape) (i : Input), w.os = os /\ (w.forCall tape i).Shaped C.prog /\ i.vars = [] /\ Input.okWide C.prog (w.forCall tape i) .any w.heap.size f i /\
   ((s.pre enc C.prog fn [] false (w.forCall tape i).memory i.args /\ laidMetH C.prog laid (w.forCall tape i).memory) /\ sizedMet enc C.prog fn (OpenSpec.ofChange s) false (w.forCall tape i).memory i.args) /\
   ({} : Assume).holds C.prog (lone (Frame.enter C.prog f i.args .normal) [] (w.forCall tape i)))
  (hl : laidOutB C.prog = true) (hp : (fn.params.toList.all fun t => C.prog.readableRec t && decide (t < C.prog.types.size)) = true) (hv : s.vars = []) (hr : fn.resultTypes = #[tb]) (htb : C.prog.underlying tb = some .bool)
  (hs : ∀ ds : List (DataW H), ds.length = fn.params.size -> s.fn H ds = ⟨[.lit (.bool true)], ds, []⟩)
  (walk : ∀ (W : World) (base : Nat) (args : Array Value) (ds : List (DataW H)) (ps : List MemPlace), laidMetH C.prog laid W -> Given enc C.prog fn W base args ds ps -> Calls C.prog f args W (Keeps W)) :
  ReturnsInHanded {} C os f .any (fun w args => (s.pre enc C.prog fn [] false w args /\ laidMetH C.prog laid w) /\ sizedMet enc C.prog fn (OpenSpec.ofChange s) false w args) (s.post enc C.prog fn false true false false) := by
 refine returnsInHanded_of_change_and (C := C) (X := fun w _ => laidMetH C.prog laid w) (fun _ _ _ hh h => h.of_heap hh) own started noInit hfn witness ?_
 intro W base args ds gs before hval hW _ hsz hL _
 have hW0 := hW
 obtain ⟨p, q, hA, hV, rfl, hz, hn⟩ := hW0
 rw [hv] at hV
 obtain ⟨rfl, rfl⟩ := trodVars_none hV
 have hvt : s.plain.varTypes C.prog = [] := by
  simp [ChangeSpec.plain, DataSpec.varTypes, hv]
 rw [hvt, List.append_nil, List.append_nil] at hsz
 have hp' : ∀ t ∈ fn.params.toList, C.prog.readableRec t = true /\ t < C.prog.types.size := fun t ht => by
  have := List.all_eq_true.1 hp t ht
  simpa using this
 refine (walk W base args ds p hL ⟨hval, hA, fun x hx => hW.lt x (List.mem_append_left _ hx), hsz⟩).mono ?_
 rintro e W' ⟨rfl, hb⟩
 exact ⟨_, rfl, law_post hl hp' hv hr htb hs hW hb⟩
end

theorem card_of {p : Pinned} {s : OpenSpec} {c : OpenClaim} {kinds : List LaidKind} {tests : Bool} {har : Bool × String} {lk : Bool} (f : FuncId) (fn : Func)
  (hc : c.holds p s) (hw : c.wfByText s = true) (htie : c.laidByTextAt .later p kinds tests) (hst : c.start = .entering) (hnb : c.noBlocks = false /\ c.again = false)
  (hm : p.checked.prog.mainIs = some (har.1, har.2.toList)) (hn : (!har.1 && har.2.isEmpty && !lk) = false) (hname : p.checked.prog.funcNamed c.func = some f) (hfn : p.checked.prog.funcs[f]? = some fn)
  (hlk : lk = p.checked.prog.looks []) (hps : (fn.params.toList.all fun t => !p.checked.prog.wantsStandIn t) = true) (hg : false = c.goesBy p.checked.prog) :
  Claim7.holds p (.plain s) { stood := { row := c, standIns := [], harness := har, looks := lk }, kinds := [], alts := [], laidByText := true, laidKinds := kinds, laidTests := tests, laidLooks := .later } :=
 Claim7.holds_tied_plain_at .later [] kinds tests har lk hc (fun _ h => by cases h) hw (fun _ h => by cases h) htie hst hnb hm hn
  (fun f' fn' hf' hfn' => by
   obtain rfl := Option.some.inj (hname.symm.trans hf')
   obtain rfl := Option.some.inj (hfn.symm.trans hfn')
   refine ⟨hlk, fun j t ht => ?_⟩
   have := List.all_eq_true.1 hps t (by simpa using Array.mem_of_getElem? ht)
   simpa using this)
  hg

theorem tab_of_laid {P : Program} {W : World} {laid : List (String × DataW Unit)} {name : String} {k : IntKind} {zs : List Int} {g : Nat} {t e : TypeId} {n : Nat}
  (h : laidMetH P laid W) (hf : (laid.filter fun x => x.1 == name) = [(name, Lib.tabData k zs)])
  (hg : P.globalNamed name = some g) (hty : (P.globals[g]?).map (·.type) = some t) (ht : P.underlying t = some (.array n e)) (he : P.underlying e = some (.int k)) (hce : P.cellsOf e = 1) (hct : P.cellsOf t = n) :
  ∀ i, i < zs.length -> W.cell? ⟨g, i, none⟩ = some (.int k (zs.getD i 0)) := by
 have h1 := h.filter (fun x => x.1 == name)
 rw [hf, MakeChecks.laidMetH_plain _ _ _ (by rfl)] at h1
 exact fun i hi => (Lib.tabIs_of_head hg hty ht he hce hct h1).cell hg i hi
end
section
theorem slots26_laid {W : World} {laid : List (String × DataW Unit)} (h : laidMetH Tryd.prog laid W)
  (hf : (laid.filter fun x => x.1 == "nacre/class.slots") = [("nacre/class.slots", Lib.tabData .i64 [32, 21, 16, 10, 8, 5, 4, 3, 2])]) : SlotsLaid W := by
 have h1 := tab_of_laid h hf (g := 0) (t := 116) (e := 3) (n := 9) (by kernel_rfl) (by kernel_rfl) Tryd.underlying116 Tryd.underlying3 (by kernel_rfl) (by kernel_rfl)
 intro k hk
 rw [h1 k (by simpa using hk)]
 have : ∀ j, j < 9 -> ([32, 21, 16, 10, 8, 5, 4, 3, 2] : List Int).getD j 0 = ((slotN j : Nat) : Int) := by decide
 rw [this k hk]
end
end Go.Proofs.YtedakmhffjhfnaaDoor
