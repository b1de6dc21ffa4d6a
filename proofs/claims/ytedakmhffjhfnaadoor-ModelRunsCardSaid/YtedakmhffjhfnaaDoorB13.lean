/-
  The document's Same. Written by audit/gen_same.py.
-/
import Derived.Test.YtedakmhffjhfnaaDoorB12
import Derived.Test.YtedakmhffjhfnaaDoorBKit
import Derived.Below
import Derived.WalkKit
import Derived.ProofKit
import Derived.BigQuiet
import Derived.Outline
import Derived.Deep.QuietTactic
import Derived.Deep.RegionHeld3
import Derived.IntWalk
import Derived.KernelRfl
import Derived.Test.YtedakmhffjhfnaaDoorB01
import Derived.Laws.BitsAllLaws
import Derived.Lib.SmallJoins
import Derived.Test.YtedakmhffjhfnaaDoorBLaw
import Derived.Test.YtedakmhffjhfnaaDoorCards
import Derived.Test.YtedakmhffjhfnaaDoorTie
import Derived.SevenTiedAt
import Derived.Lay
import Derived.LaidMore
import Derived.LaidHandle
import Derived.Lib.LaidTab
import Derived.Stop.Joined
import Derived.LaidSub
import Derived.MakeChecks
namespace Go.Proofs.YtedakmhffjhfnaaDoor
open Go.ChangeShapes Go.WideShapes Go.ChangeAt Go.RowKit Go.Shelf
set_option linter.unusedVariables false
set_option linter.unusedSimpArgs false
section
set_option maxHeartbeats 6400000 in
set_option maxRecDepth 100000 in
theorem xSame_len (l1 l2 : List (Int × Int)) (A1 A2 : Option Addr) (nl c1 c2 b1 b2 : Nat) (r0 r1 r2 r3 r4 r5 r6 r7 p0 p1 p2 p3 p4 p5 p6 p7 : Int) (w : World) (h1 : l1.length = nl) (h2 : l2.length = nl) (hnl : nl <= 100000) (hnl : nl <= 100000)
  (hO1 : w.ownsRow b1 55 2 (.slice A1 nl c1) nl (bkVs l1)) (hO2 : w.ownsRow b2 55 2 (.slice A2 nl c2) nl (bkVs l2)) (b : Bool) (hb : b = true ↔ [r0, r1, r2, r3, r4, r5, r6, r7] = [p0, p1, p2, p3, p4, p5, p6, p7] /\ l1 = l2) :
  Calls Tryd.prog 11 #[.agg #[.slice A1 nl c1, .int .i64 r0, .int .i64 r1, .int .i64 r2, .int .i64 r3, .int .i64 r4, .int .i64 r5, .int .i64 r6, .int .i64 r7], .agg #[.slice A2 nl c2, .int .i64 p0, .int .i64 p1, .int .i64 p2, .int .i64 p3, .int .i64 p4, .int .i64 p5, .int .i64 p6, .int .i64 p7]] w fun e w' => e = .returned (.bool b) /\ Below w.heap.size w w' := by
 have HX1 := hidp ((Held.new w 27 #[.slice A1 nl c1, .int .i64 r0, .int .i64 r1, .int .i64 r2, .int .i64 r3, .int .i64 r4, .int .i64 r5, .int .i64 r6, .int .i64 r7]).alloc (.cells #[.slice A2 nl c2, .int .i64 p0, .int .i64 p1, .int .i64 p2, .int .i64 p3, .int .i64 p4, .int .i64 p5, .int .i64 p6, .int .i64 p7] 27))
 have HX2 := hidp (Held.new2 w (.cells #[.slice A1 nl c1, .int .i64 r0, .int .i64 r1, .int .i64 r2, .int .i64 r3, .int .i64 r4, .int .i64 r5, .int .i64 r6, .int .i64 r7] 27) 27 #[.slice A2 nl c2, .int .i64 p0, .int .i64 p1, .int .i64 p2, .int .i64 p3, .int .i64 p4, .int .i64 p5, .int .i64 p6, .int .i64 p7])
 obtain ⟨x0, x1, x2, x3, x4, x5, x6, x7, x8⟩ := HX1.out.nine
 obtain ⟨y0, y1, y2, y3, y4, y5, y6, y7, y8⟩ := HX2.out.nine
 have HBW := hidp (Bnew (Bnew (B0 w) (.cells #[.slice A1 nl c1, .int .i64 r0, .int .i64 r1, .int .i64 r2, .int .i64 r3, .int .i64 r4, .int .i64 r5, .int .i64 r6, .int .i64 r7] 27)) (.cells #[.slice A2 nl c2, .int .i64 p0, .int .i64 p1, .int .i64 p2, .int .i64 p3, .int .i64 p4, .int .i64 p5, .int .i64 p6, .int .i64 p7] 27))
 have HO1 := hidp ((hO1.alloc (.cells #[.slice A1 nl c1, .int .i64 r0, .int .i64 r1, .int .i64 r2, .int .i64 r3, .int .i64 r4, .int .i64 r5, .int .i64 r6, .int .i64 r7] 27)).alloc (.cells #[.slice A2 nl c2, .int .i64 p0, .int .i64 p1, .int .i64 p2, .int .i64 p3, .int .i64 p4, .int .i64 p5, .int .i64 p6, .int .i64 p7] 27))
 have HO2 := hidp ((hO2.alloc (.cells #[.slice A1 nl c1, .int .i64 r0, .int .i64 r1, .int .i64 r2, .int .i64 r3, .int .i64 r4, .int .i64 r5, .int .i64 r6, .int .i64 r7] 27)).alloc (.cells #[.slice A2 nl c2, .int .i64 p0, .int .i64 p1, .int .i64 p2, .int .i64 p3, .int .i64 p4, .int .i64 p5, .int .i64 p6, .int .i64 p7] 27))
 have HL1 := hidp h1
 have HL2 := hidp h2
 obtain ⟨h11, h12⟩ := own_caps3 hO1
 obtain ⟨h21, h22⟩ := own_caps3 hO2
 have h12 : c1 <= 9223372036854775807 := h12
 have h22 : c2 <= 9223372036854775807 := h22
 have hei := eq8_iff r0 r1 r2 r3 r4 r5 r6 r7 p0 p1 p2 p3 p4 p5 p6 p7
 have he := fun W => eq8_run r0 r1 r2 r3 r4 r5 r6 r7 p0 p1 p2 p3 p4 p5 p6 p7 W
 obtain ⟨eb, heb⟩ : ∃ eb, (r0 == p0 && (r1 == p1 && (r2 == p2 && (r3 == p3 && (r4 == p4 && (r5 == p5 && (r6 == p6 && (r7 == p7)))))))) = eb := ⟨_, rfl⟩
 rw [heb] at hei
 simp only [heb] at he
 have q0 : ((nl : Int) != (nl : Int)) = false := by simp
 cases eb
 ·have HBF : Hid (b = false) := hidp (bool_no hb (fun h => by have := hei.2 h.1; cases this))
  clear hei heb hb h1 h2 hO1 hO2
  go_enter Tryd.func11, Tryd.ntmps11
  go_wp2_with fail
  go_ret
  exact ⟨by rw [HBF.out]; rfl, HBW.out⟩
 ·have HBC : Hid (b = true ↔ l1 = l2) := hidp (hb.trans ⟨fun h => h.2, fun h => ⟨hei.1 rfl, h⟩⟩)
  clear hei heb hb h1 h2 hO1 hO2
  go_enter Tryd.func11, Tryd.ntmps11
  go_wp2_with fail
  generalize (w.alloc (.cells #[.slice A1 nl c1, .int .i64 r0, .int .i64 r1, .int .i64 r2, .int .i64 r3, .int .i64 r4, .int .i64 r5, .int .i64 r6, .int .i64 r7] 27)).alloc (.cells #[.slice A2 nl c2, .int .i64 p0, .int .i64 p1, .int .i64 p2, .int .i64 p3, .int .i64 p4, .int .i64 p5, .int .i64 p6, .int .i64 p7] 27) = WL at *
  clear he x1 x2 x3 x4 x5 x6 x7 x8 y1 y2 y3 y4 y5 y6 y7 y8 q0
  go_loopw [5] (fun u5 wr => ∃ (i d : Nat), i <= nl /\ u5 = .int .i64 (i : Int) /\ Hid (l1.take i = l2.take i) /\ wr = WL.drewN d) (fun u5 _ => nl - (intOf u5).toNat)
  case atStart => exact ⟨0, 0, by omega, rfl, hidp rfl, rfl⟩
  case round =>
   obtain ⟨i, d, hi, rfl, HTE, rfl⟩ := hrel
   by_cases hlt : i < nl
   ·obtain ⟨x, hx⟩ : ∃ x, l1[i]? = some x := ⟨_, List.getElem?_eq_getElem (by have := HL1.out; omega)⟩
    obtain ⟨y, hy⟩ : ∃ y, l2[i]? = some y := ⟨_, List.getElem?_eq_getElem (by have := HL2.out; omega)⟩
    obtain ⟨g1, cv1, hv1, _, _⟩ := HO1.out.form (by omega)
    injection hv1 with hv1 _ hc1
    subst hv1
    subst hc1
    obtain ⟨g2, cv2, hv2, _, _⟩ := HO2.out.form (by omega)
    injection hv2 with hv2 _ hc2
    subst hv2
    subst hc2
    obtain ⟨p0, p1⟩ := own_block0 HO1.out HL1.out hx
    obtain ⟨q0, q1⟩ := own_block0 HO2.out HL2.out hy
    have HNE : Hid (x ≠ y -> ¬ l1 = l2) := hidp (fun h e => h (by rw [e, hy] at hx; exact (Option.some.inj hx).symm))
    have HSU : Hid (x = y -> l1.take (i + 1) = l2.take (i + 1)) := hidp (fun h => by rw [List.take_add_one, List.take_add_one, HTE.out, hx, hy, h])
    obtain ⟨a1, z1⟩ := x
    obtain ⟨a2, z2⟩ := y
    have t0 : decide ((i : Int) < nl) = true := decide_eq_true (by omega)
    have t0n : decide (i < nl) = true := decide_eq_true hlt
    simp only at p0 p1 q0 q1
    clear hx hy
    by_cases ha : a1 = a2
    ·subst ha
     by_cases hz : z1 = z2
     ·subst hz
      have HT1 := hidp (HSU.out rfl)
      go_wp2_with fail
      refine wp_region_held_drew (S := (fun w' => w'.cell? ⟨g1, i * 2, none⟩ = some (.int .i64 a1) /\ w'.cell? ⟨g1, i * 2 + 1, none⟩ = some (.int .i64 z1) /\ w'.cell? ⟨g2, i * 2, none⟩ = some (.int .i64 a1) /\ w'.cell? ⟨g2, i * 2 + 1, none⟩ = some (.int .i64 z1) /\ w'.cell? ⟨w.heap.size, 0, none⟩ = some (.slice (some ⟨g1, 0, none⟩) nl c1) /\ w'.cell? ⟨w.heap.size + 1, 0, none⟩ = some (.slice (some ⟨g2, 0, none⟩) nl c2))) (by kernel_rfl) ?_ (fun hHeld => ?_)
      ·(try dsimp only)
       first | exact ⟨p0, p1, q0, q1, x0, y0⟩ | exact hHeld
      refine tkz 0 ?_
      refine tkz 1 ?_
      refine tkz 2 ?_
      refine tkz 3 ?_
      refine tkz 4 ?_
      refine tkz 5 ?_
      refine tkz 6 ?_
      refine tkz 7 ?_
      refine tkz 8 ?_
      refine tkz 9 ?_
      refine tkz 10 ?_
      refine dnz ?_
      go_wp2_with fail
      go_roundw
      case rel => exact ⟨i + 1, d + 1, by omega, by go_num, HT1, rfl⟩
      case measure => simp [intOf]; omega
     ·have qz : (z1 == z2) = false := by simpa using hz
      have HBF : Hid (b = false) := hidp (bool_no HBC.out (HNE.out (fun e => hz (Prod.mk.inj e).2)))
      go_wp2_with fail
      refine wp_region_held_drew (S := (fun w' => w'.cell? ⟨g1, i * 2, none⟩ = some (.int .i64 a1) /\ w'.cell? ⟨g1, i * 2 + 1, none⟩ = some (.int .i64 z1) /\ w'.cell? ⟨g2, i * 2, none⟩ = some (.int .i64 a1) /\ w'.cell? ⟨g2, i * 2 + 1, none⟩ = some (.int .i64 z2) /\ w'.cell? ⟨w.heap.size, 0, none⟩ = some (.slice (some ⟨g1, 0, none⟩) nl c1) /\ w'.cell? ⟨w.heap.size + 1, 0, none⟩ = some (.slice (some ⟨g2, 0, none⟩) nl c2))) (by kernel_rfl) ?_ (fun hHeld => ?_)
      ·(try dsimp only)
       first | exact ⟨p0, p1, q0, q1, x0, y0⟩ | exact hHeld
      refine tkz 0 ?_
      refine tkz 1 ?_
      refine tkz 2 ?_
      refine tkz 3 ?_
      refine tkz 4 ?_
      refine tkz 5 ?_
      refine tkz 6 ?_
      refine tkz 7 ?_
      refine tkz 8 ?_
      refine tkz 9 ?_
      refine tkz 10 ?_
      refine dnz ?_
      go_wp2_with fail
      go_ret
      exact ⟨by rw [HBF.out]; rfl, Bdraw HBW.out (d + 1)⟩
    ·have qa : (a1 == a2) = false := by simpa using ha
     have HBF : Hid (b = false) := hidp (bool_no HBC.out (HNE.out (fun e => ha (Prod.mk.inj e).1)))
     go_wp2_with fail
     refine wp_region_held_drew (S := (fun w' => w'.cell? ⟨g1, i * 2, none⟩ = some (.int .i64 a1) /\ w'.cell? ⟨g1, i * 2 + 1, none⟩ = some (.int .i64 z1) /\ w'.cell? ⟨g2, i * 2, none⟩ = some (.int .i64 a2) /\ w'.cell? ⟨g2, i * 2 + 1, none⟩ = some (.int .i64 z2) /\ w'.cell? ⟨w.heap.size, 0, none⟩ = some (.slice (some ⟨g1, 0, none⟩) nl c1) /\ w'.cell? ⟨w.heap.size + 1, 0, none⟩ = some (.slice (some ⟨g2, 0, none⟩) nl c2))) (by kernel_rfl) ?_ (fun hHeld => ?_)
     ·(try dsimp only)
      first | exact ⟨p0, p1, q0, q1, x0, y0⟩ | exact hHeld
     refine tkz 0 ?_
     refine tkz 1 ?_
     refine tkz 2 ?_
     refine tkz 3 ?_
     refine tkz 4 ?_
     refine tkz 5 ?_
     refine tkz 6 ?_
     refine tkz 7 ?_
     refine tkz 8 ?_
     refine tkz 9 ?_
     refine tkz 10 ?_
     refine dnz ?_
     go_wp2_with fail
     go_ret
     exact ⟨by rw [HBF.out]; rfl, Bdraw HBW.out (d + 1)⟩
   ·have t0 : decide ((i : Int) < nl) = false := decide_eq_false (by omega)
    have t0n : decide (i < nl) = false := decide_eq_false hlt
    have HBT : Hid (b = true) := hidp (HBC.out.2 (by
     have h := HTE.out
     rwa [List.take_of_length_le (by have := HL1.out; omega), List.take_of_length_le (by have := HL2.out; omega)] at h))
    go_wp2_with fail
    go_ret
    exact ⟨by rw [HBT.out]; rfl, Bdraw HBW.out d⟩
set_option maxHeartbeats 1600000 in
theorem xSame_c (l1 l2 : List (Int × Int)) (A1 A2 : Option Addr) (n1 n2 c1 c2 b1 b2 : Nat) (r0 r1 r2 r3 r4 r5 r6 r7 p0 p1 p2 p3 p4 p5 p6 p7 : Int) (w : World) (h1 : l1.length = n1) (h2 : l2.length = n2) (hn1 : n1 <= 100000) (hn2 : n2 <= 100000)
  (hO1 : w.ownsRow b1 55 2 (.slice A1 n1 c1) n1 (bkVs l1)) (hO2 : w.ownsRow b2 55 2 (.slice A2 n2 c2) n2 (bkVs l2)) (b : Bool) (hb : b = true ↔ [r0, r1, r2, r3, r4, r5, r6, r7] = [p0, p1, p2, p3, p4, p5, p6, p7] /\ l1 = l2) :
  Calls Tryd.prog 11 #[.agg #[.slice A1 n1 c1, .int .i64 r0, .int .i64 r1, .int .i64 r2, .int .i64 r3, .int .i64 r4, .int .i64 r5, .int .i64 r6, .int .i64 r7], .agg #[.slice A2 n2 c2, .int .i64 p0, .int .i64 p1, .int .i64 p2, .int .i64 p3, .int .i64 p4, .int .i64 p5, .int .i64 p6, .int .i64 p7]] w fun e w' => e = .returned (.bool b) /\ Below w.heap.size w w' := by
 by_cases hne : n1 = n2
 ·subst hne
  exact xSame_len l1 l2 A1 A2 n1 c1 c2 b1 b2 r0 r1 r2 r3 r4 r5 r6 r7 p0 p1 p2 p3 p4 p5 p6 p7 w h1 h2 hn1 hn2 hO1 hO2 b hb
 ·have q0 : ((n1 : Int) != (n2 : Int)) = true := by simp; omega
  have q0n : (n1 != n2) = true := by simpa using hne
  have HBF : Hid (b = false) := hidp (bool_no hb (fun e => hne (by rw [<- h1, <- h2, e.2])))
  have HX1 := hidp ((Held.new w 27 #[.slice A1 n1 c1, .int .i64 r0, .int .i64 r1, .int .i64 r2, .int .i64 r3, .int .i64 r4, .int .i64 r5, .int .i64 r6, .int .i64 r7]).alloc (.cells #[.slice A2 n2 c2, .int .i64 p0, .int .i64 p1, .int .i64 p2, .int .i64 p3, .int .i64 p4, .int .i64 p5, .int .i64 p6, .int .i64 p7] 27))
  have HX2 := hidp (Held.new2 w (.cells #[.slice A1 n1 c1, .int .i64 r0, .int .i64 r1, .int .i64 r2, .int .i64 r3, .int .i64 r4, .int .i64 r5, .int .i64 r6, .int .i64 r7] 27) 27 #[.slice A2 n2 c2, .int .i64 p0, .int .i64 p1, .int .i64 p2, .int .i64 p3, .int .i64 p4, .int .i64 p5, .int .i64 p6, .int .i64 p7])
  obtain ⟨x0, x1, x2, x3, x4, x5, x6, x7, x8⟩ := HX1.out.nine
  obtain ⟨y0, y1, y2, y3, y4, y5, y6, y7, y8⟩ := HX2.out.nine
  have HBW := hidp (Bnew (Bnew (B0 w) (.cells #[.slice A1 n1 c1, .int .i64 r0, .int .i64 r1, .int .i64 r2, .int .i64 r3, .int .i64 r4, .int .i64 r5, .int .i64 r6, .int .i64 r7] 27)) (.cells #[.slice A2 n2 c2, .int .i64 p0, .int .i64 p1, .int .i64 p2, .int .i64 p3, .int .i64 p4, .int .i64 p5, .int .i64 p6, .int .i64 p7] 27))
  have HO1 := hidp ((hO1.alloc (.cells #[.slice A1 n1 c1, .int .i64 r0, .int .i64 r1, .int .i64 r2, .int .i64 r3, .int .i64 r4, .int .i64 r5, .int .i64 r6, .int .i64 r7] 27)).alloc (.cells #[.slice A2 n2 c2, .int .i64 p0, .int .i64 p1, .int .i64 p2, .int .i64 p3, .int .i64 p4, .int .i64 p5, .int .i64 p6, .int .i64 p7] 27))
  have HO2 := hidp ((hO2.alloc (.cells #[.slice A1 n1 c1, .int .i64 r0, .int .i64 r1, .int .i64 r2, .int .i64 r3, .int .i64 r4, .int .i64 r5, .int .i64 r6, .int .i64 r7] 27)).alloc (.cells #[.slice A2 n2 c2, .int .i64 p0, .int .i64 p1, .int .i64 p2, .int .i64 p3, .int .i64 p4, .int .i64 p5, .int .i64 p6, .int .i64 p7] 27))
  have HL1 := hidp h1
  have HL2 := hidp h2
  obtain ⟨h11, h12⟩ := own_caps3 hO1
  obtain ⟨h21, h22⟩ := own_caps3 hO2
  have h12 : c1 <= 9223372036854775807 := h12
  have h22 : c2 <= 9223372036854775807 := h22
  have hei := eq8_iff r0 r1 r2 r3 r4 r5 r6 r7 p0 p1 p2 p3 p4 p5 p6 p7
  have he := fun W => eq8_run r0 r1 r2 r3 r4 r5 r6 r7 p0 p1 p2 p3 p4 p5 p6 p7 W
  obtain ⟨eb, heb⟩ : ∃ eb, (r0 == p0 && (r1 == p1 && (r2 == p2 && (r3 == p3 && (r4 == p4 && (r5 == p5 && (r6 == p6 && (r7 == p7)))))))) = eb := ⟨_, rfl⟩
  rw [heb] at hei
  simp only [heb] at he
  clear hei heb hb h1 h2 hO1 hO2 hne he
  go_enter Tryd.func11, Tryd.ntmps11
  go_wp2_with fail
  go_ret
  exact ⟨by rw [HBF.out]; rfl, HBW.out⟩
end
end Go.Proofs.YtedakmhffjhfnaaDoor

namespace Go.Proofs.YtedakmhffjhfnaaDoor
open Go.ChangeShapes Go.WideShapes Go.ChangeAt Go.RowKit Go.Maps
set_option linter.unusedVariables false
set_option linter.unusedSimpArgs false
set_option maxRecDepth 100000
section
theorem live26_c (w : World) (hT : SlotsLaid w) : Calls Tryd.prog 7 #[] w fun e w' => e = .returned (.bool true) /\ Below w.heap.size w w' := by
 have HSL := hidp hT
 clear hT
 have A0 : Hid (allowM 1 8 10 [] (fun _ => 0) 1 20 0 0 1024 32 = true) := hidp (by decide +kernel)
 have A1 : Hid (allowM 1 8 10 [] (fun _ => 0) 1 20 0 0 1040 32 = true) := hidp (by decide +kernel)
 have A2 : Hid (allowM 1 8 10 [] (fun _ => 0) 1 20 0 3 0 0 = true) := hidp (by decide +kernel)
 have A3 : Hid (allowM 1 8 10 [] (fun _ => 0) 1 20 0 0 1024 20 = false) := hidp (by decide +kernel)
 go_enter Tryd.func7, Tryd.ntmps7
 go_wp2_with fail
 refine (mdNew_yes 1 8 10 (by decide) _).mono ?_; rintro e w1 ⟨g, F, rfl, hF, hM, hb⟩
 have HX := hidp (Held.new w1 29 #[.int .i64 1, .int .i64 20, .int .i64 0])
 have HB := hidp (Bnew hb (.cells #[.int .i64 1, .int .i64 20, .int .i64 0] 29))
 have HM := hidp (hM.turns (Turns.of_below (Bnew (B0 w1) (.cells #[.int .i64 1, .int .i64 20, .int .i64 0] 29)) (fun _ => False)) (fun _ _ x => x))
 clear hb hM hF
 obtain ⟨x0, x1, x2⟩ := HX.out.three
 go_wp2_with fail
 refine (mdAllows_c HM.out (by simp) 1 20 0 0 1024 32 (by omega) (by omega) (by omega) (HSL.out.below HB.out)).mono ?_; rintro e w2 ⟨rfl, hb⟩; rw [A0.out]
 replace HM := hidp (HM.out.turns (Turns.of_below hb (fun _ => False)) (fun _ _ x => x))
 replace HX := hidp (HX.out.keep hb)
 replace HB := hidp (Bgo HB.out hb)
 clear hb x0 x1 x2
 obtain ⟨x0, x1, x2⟩ := HX.out.three
 go_wp2_with fail
 refine (mdAllows_c HM.out (by simp) 1 20 0 0 1040 32 (by omega) (by omega) (by omega) (HSL.out.below HB.out)).mono ?_; rintro e w3 ⟨rfl, hb⟩; rw [A1.out]
 replace HM := hidp (HM.out.turns (Turns.of_below hb (fun _ => False)) (fun _ _ x => x))
 replace HX := hidp (HX.out.keep hb)
 replace HB := hidp (Bgo HB.out hb)
 clear hb x0 x1 x2
 obtain ⟨x0, x1, x2⟩ := HX.out.three
 go_wp2_with fail
 refine (mdAllows_c HM.out (by simp) 1 20 0 3 0 0 (by omega) (by omega) (by omega) (HSL.out.below HB.out)).mono ?_; rintro e w4 ⟨rfl, hb⟩; rw [A2.out]
 replace HM := hidp (HM.out.turns (Turns.of_below hb (fun _ => False)) (fun _ _ x => x))
 replace HX := hidp (HX.out.keep hb)
 replace HB := hidp (Bgo HB.out hb)
 clear hb x0 x1 x2
 obtain ⟨x0, x1, x2⟩ := HX.out.three
 go_wp2_with fail
 refine (mdAllows_c HM.out (by simp) 1 20 0 0 1024 20 (by omega) (by omega) (by omega) (HSL.out.below HB.out)).mono ?_; rintro e w5 ⟨rfl, hb⟩; rw [A3.out]
 replace HM := hidp (HM.out.turns (Turns.of_below hb (fun _ => False)) (fun _ _ x => x))
 replace HX := hidp (HX.out.keep hb)
 replace HB := hidp (Bgo HB.out hb)
 clear hb x0 x1 x2
 obtain ⟨x0, x1, x2⟩ := HX.out.three
 go_wp2_with fail
 go_ret
 exact ⟨rfl, HB.out⟩
theorem mc12 {w : World} {g : Nat} {T : TypeId} {t p s : Int} {u : Value} {R : Nat -> Int} (h : Held w g T (mC t p s u R)) : w.cell? ⟨g, 3, none⟩ = some u /\ w.cell? ⟨g, 4, none⟩ = some (.int .i64 (R 0)) /\ w.cell? ⟨g, 5, none⟩ = some (.int .i64 (R 1)) /\ w.cell? ⟨g, 6, none⟩ = some (.int .i64 (R 2)) /\ w.cell? ⟨g, 7, none⟩ = some (.int .i64 (R 3)) /\ w.cell? ⟨g, 8, none⟩ = some (.int .i64 (R 4)) /\ w.cell? ⟨g, 9, none⟩ = some (.int .i64 (R 5)) /\ w.cell? ⟨g, 10, none⟩ = some (.int .i64 (R 6)) /\ w.cell? ⟨g, 11, none⟩ = some (.int .i64 (R 7)) :=
 ⟨h.cell 3, h.cell 4, h.cell 5, h.cell 6, h.cell 7, h.cell 8, h.cell 9, h.cell 10, h.cell 11⟩
theorem IsMod.keep {w w' : World} {g : Nat} {F : Nat -> Prop} {t p s : Int} {L : List (Int × Int)} {R : Nat -> Int} (h : IsMod w g F t p s L R) (hb : Below w.heap.size w w') : IsMod w' g F t p s L R := h.turns (Turns.of_below hb (fun _ => False)) (fun _ _ x => x)
end
section
structure Two (W w : World) (g1 g2 : Nat) (F : Nat -> Prop) (t p s : Int) (La : List (Int × Int)) (Ra : Nat -> Int) (Lb : List (Int × Int)) (Rb : Nat -> Int) : Prop where
 a : IsMod w g1 F t p s La Ra
 b : RMod w g2 W.heap.size F t p s Lb Rb
 fn : ∀ i, F i -> W.heap.size <= i
 gn : W.heap.size <= g2
 gf : ¬ F g2
 below : Below W.heap.size W w
section
variable {W w w' : World} {g1 g2 : Nat} {F F' : Nat -> Prop} {t p s : Int} {La La' Lb Lb' : List (Int × Int)} {Ra Ra' Rb Rb' : Nat -> Int}
theorem Two.keep (h : Two W w g1 g2 F t p s La Ra Lb Rb) (hb : Below w.heap.size w w') : Two W w' g1 g2 F t p s La Ra Lb Rb :=
 ⟨h.a.keep hb, h.b.keep hb, h.fn, h.gn, h.gf, Bgo h.below hb⟩
theorem Two.callA (h : Two W w g1 g2 F t p s La Ra Lb Rb) (hF : ∀ i, F' i -> F i \/ w.heap.size <= i) (ha : IsMod w' g1 F' t p s La' Ra') (ht : Turns F w w') : Two W w' g1 g2 F' t p s La' Ra' Lb Rb := by
 have hs := h.below.size
 have hg := h.b.lt
 refine ⟨ha, ?_, fun i hi => ?_, h.gn, fun hi => ?_, ht.below h.below h.fn⟩
 ·have h1 : RMod w' g2 W.heap.size F t p s Lb Rb := h.b.turns ht h.gf (fun i _ _ hz => hz)
  obtain ⟨A, c, h2, h3⟩ := h.b.ex
  have h4 := (ht.held h2 h.gf).cell 3
  refine h1.zmore ha.lt (fun i hi => ?_)
  rcases hF i hi with h5 | h5
  ·exact .inl h5
  ·refine .inr (fun A' c' hc he => ?_)
   have h6 := h4.symm.trans hc
   have h6 : some (Value.slice A Lb.length c) = some (Value.slice A' Lb.length c') := h6
   injection h6 with h6
   rw [<- h6] at he
   have := (h3.lt i he).2
   omega
 ·rcases hF i hi with h5 | h5
  ·exact h.fn i h5
  ·omega
 ·rcases hF _ hi with h5 | h5
  ·exact h.gf h5
  ·omega
theorem Two.callB (h : Two W w g1 g2 F t p s La Ra Lb Rb) (hb : RMod w' g2 W.heap.size F t p s Lb' Rb') (ht : Turns (fun i => i = g2) w w') : Two W w' g1 g2 F t p s La Ra Lb' Rb' :=
 ⟨h.a.turns ht (fun i hi e => h.gf (by rw [<- e]; exact hi)), hb, h.fn, h.gn, h.gf, ht.below h.below (fun i e => by rw [e]; exact h.gn)⟩
theorem Two.start {w0 w1 : World} (h1 : Below W.heap.size W w0) (hF : ∀ i, F i -> w0.heap.size <= i) (ha : IsMod w1 g1 F t p s La Ra) (hb1 : Below w0.heap.size w0 w1) (hg : w1.heap.size <= g2) (hb : RMod w g2 w1.heap.size (fun _ => False) t p s Lb Rb) (hb2 : Below w1.heap.size w1 w) : Two W w g1 g2 F t p s La Ra Lb Rb := by
 have hs1 := h1.size
 have hs2 := hb1.size
 refine ⟨ha.keep hb2, ?_, fun i hi => Nat.le_trans hs1 (hF i hi), by omega, fun hi => ?_, Bgo (Bgo h1 hb1) hb2⟩
 ·refine (hb.down (b0 := W.heap.size) (by omega)).zmore (fun i hi => Nat.lt_of_lt_of_le (ha.lt i hi) hb2.size) (fun i hi => .inr (fun A c hc he => ?_))
  obtain ⟨A', c', h2, h3⟩ := hb.ex
  have h4 := (h2.cell 3).symm.trans hc
  have h4 : some (Value.slice A' Lb.length c') = some (Value.slice A Lb.length c) := h4
  injection h4 with h4
  rw [<- h4] at he
  have h5 := (h3.lt i he).1
  have h6 := ha.lt i hi
  omega
 ·have h6 := ha.lt _ hi
  omega
end
theorem eraseIdx_len (L : List (Int × Int)) (i : Nat) : (L.eraseIdx i).length <= L.length := List.length_eraseIdx_le ..
theorem step_len (t p s : Int) (L : List (Int × Int)) (R : Nat -> Int) (k a b err out aux : Int) : (stepL t p s L R k a b err out aux).length <= L.length + 1 := by
 unfold stepL appL
 split
 ·split
  ·omega
  ·split
   ·exact addB_len ..
   ·split
    ·have := eraseIdx_len L (mAt L a).toNat; omega
    ·split
     ·have h1 := eraseIdx_len L (mAt L a).toNat
      have h2 := addB_len (L.eraseIdx (mAt L a).toNat) (out, aux)
      omega
     ·split
      ·exact addB_len ..
      ·omega
 ·omega
end
section
theorem ModelRuns_many (t p s : Int) (A : Option Addr) (n c : Nat) (hn : 60 < n) (W : World) (hT : SlotsLaid W) : Calls Tryd.prog 4 #[.agg #[.int .i64 t, .int .i64 p, .int .i64 s], .slice A n c] W (Keeps W) := by
 have t0 : decide ((60 : Int) < n) = true := decide_eq_true (by omega)
 have HSL := hidp hT
 clear hT
 have HC := hidp (Held.new W 23 #[.int .i64 t, .int .i64 p, .int .i64 s])
 have HB := hidp (Bnew (B0 W) (.cells #[.int .i64 t, .int .i64 p, .int .i64 s] 23))
 obtain ⟨c0, c1, c2⟩ := HC.out.three
 go_enter Tryd.func4, Tryd.ntmps4
 go_wp2_with fail
 refine (live26_c _ (HSL.out.below HB.out)).mono ?_; rintro e w1 ⟨rfl, hb⟩
 clear c0 c1 c2
 replace HC := hidp (HC.out.keep hb)
 replace HB := hidp (Bgo HB.out hb)
 clear hb
 obtain ⟨c0, c1, c2⟩ := HC.out.three
 go_wp2_with fail
 go_ret
 exact ⟨rfl, HB.out⟩

theorem ModelRuns_wrong (t p s : Int) (A : Option Addr) (n c : Nat) (hn : n <= 60) (hcn : n <= c /\ c <= maxLen) (hr : rightB t p s = false) (W : World) (hT : SlotsLaid W) : Calls Tryd.prog 4 #[.agg #[.int .i64 t, .int .i64 p, .int .i64 s], .slice A n c] W (Keeps W) := by
 have t0 : decide ((60 : Int) < n) = false := decide_eq_false (by omega)
 have HR := hidp hr
 clear hr
 have HSL := hidp hT
 clear hT
 have HC := hidp (Held.new W 23 #[.int .i64 t, .int .i64 p, .int .i64 s])
 have HB := hidp (Bnew (B0 W) (.cells #[.int .i64 t, .int .i64 p, .int .i64 s] 23))
 obtain ⟨c0, c1, c2⟩ := HC.out.three
 go_enter Tryd.func4, Tryd.ntmps4
 go_wp2_with fail
 clear c0 c1 c2
 replace HC := hidp (HC.out.keep (Bdrew (B0 _)))
 replace HB := hidp (Bgo HB.out (Bdrew (B0 _)))
 refine wp_region_held_drew (S := (fun w' => w'.cell? ⟨W.heap.size, 0, none⟩ = some (.int .i64 t) /\ w'.cell? ⟨W.heap.size, 1, none⟩ = some (.int .i64 p) /\ w'.cell? ⟨W.heap.size, 2, none⟩ = some (.int .i64 s))) (by kernel_rfl) ?_ (fun hHeld => ?_)
 ·(try dsimp only)
  first | exact HC.out.three | exact hHeld
 refine tkz 0 ?_
 refine tkz 2 ?_
 refine rdz 1 fun K hK => ?_
 go_simp
 (refine (mdNew_no t p s HR.out _).mono ?_; rintro e w1 ⟨rfl, hb⟩; replace HC := hidp (HC.out.keep hb); replace HB := hidp (Bgo HB.out hb); clear hb)
 refine hK.out _ _ ?_ (fun hHeld => ?_)
 ·(try dsimp only)
  first | exact HC.out.three | exact hHeld
 clear hK K
 (try simp only [Act.put, gA, gB, gC, sA, sB, sC])
 refine rdz 3 fun K hK => ?_
 go_simp
 (refine (r26New_no t p s HR.out _).mono ?_; rintro e w1 ⟨rfl, hb⟩; replace HC := hidp (HC.out.keep hb); replace HB := hidp (Bgo HB.out hb); clear hb)
 refine hK.out _ _ ?_ (fun hHeld => ?_)
 ·(try dsimp only)
  first | exact HC.out.three | exact hHeld
 clear hK K
 (try simp only [Act.put, gA, gB, gC, sA, sB, sC])
 refine tkz 4 ?_
 refine tkz 5 ?_
 refine dnz ?_
 obtain ⟨c0, c1, c2⟩ := HC.out.three
 go_wp2_with fail
 refine (live26_c _ (HSL.out.below HB.out)).mono ?_; rintro e w1 ⟨rfl, hb⟩
 clear c0 c1 c2
 replace HC := hidp (HC.out.keep hb)
 replace HB := hidp (Bgo HB.out hb)
 clear hb
 obtain ⟨c0, c1, c2⟩ := HC.out.three
 go_wp2_with fail
 go_ret
 exact ⟨rfl, HB.out⟩

set_option maxHeartbeats 12800000 in
theorem ModelRuns_main (t p s : Int) (A : Option Addr) (n c : Nat) (l : List SaidV) (hl : l.length = n) (hn : n <= 60) (hcn : n <= c /\ c <= maxLen) (hok : ∀ x ∈ l, x.Ok) (hr : rightB t p s = true) (W : World) (hin : SaidVs W A l) (hT : SlotsLaid W) : Calls Tryd.prog 4 #[.agg #[.int .i64 t, .int .i64 p, .int .i64 s], .slice A n c] W (Keeps W) := by
 have t0 : decide ((60 : Int) < n) = false := decide_eq_false (by omega)
 have HR := hidp hr
 have HL := hidp hin
 have HLL := hidp hl
 have HOKS := hidp hok
 have hm2 : c <= 9223372036854775807 := hcn.2
 clear hr hin hl hok
 have HSL := hidp hT
 clear hT
 have HC := hidp (Held.new W 23 #[.int .i64 t, .int .i64 p, .int .i64 s])
 have HB := hidp (Bnew (B0 W) (.cells #[.int .i64 t, .int .i64 p, .int .i64 s] 23))
 obtain ⟨c0, c1, c2⟩ := HC.out.three
 go_enter Tryd.func4, Tryd.ntmps4
 go_wp2_with fail
 clear c0 c1 c2
 replace HC := hidp (HC.out.keep (Bdrew (B0 _)))
 replace HB := hidp (Bgo HB.out (Bdrew (B0 _)))
 refine wp_region_held_drew (S := (fun w' => w'.cell? ⟨W.heap.size, 0, none⟩ = some (.int .i64 t) /\ w'.cell? ⟨W.heap.size, 1, none⟩ = some (.int .i64 p) /\ w'.cell? ⟨W.heap.size, 2, none⟩ = some (.int .i64 s))) (by kernel_rfl) ?_ (fun hHeld => ?_)
 ·(try dsimp only)
  first | exact HC.out.three | exact hHeld
 refine tkz 0 ?_
 refine tkz 2 ?_
 refine rdz 1 fun K hK => ?_
 go_simp
 (have HB1 := hidp HB.out; refine (mdNew_yes t p s HR.out _).mono ?_; rintro e w1 ⟨g1, F1, rfl, hF, hM, hb⟩; have HP := hidp (And.intro hF (And.intro hM hb)); replace HC := hidp (HC.out.keep hb); replace HB := hidp (Bgo HB.out hb); clear hb hF hM)
 refine hK.out _ _ ?_ (fun hHeld => ?_)
 ·(try dsimp only)
  first | exact HC.out.three | exact hHeld
 clear hK K
 (try simp only [Act.put, gA, gB, gC, sA, sB, sC])
 refine rdz 3 fun K hK => ?_
 go_simp
 (refine (r26New_yes t p s HR.out _).mono ?_; rintro e w1 ⟨g2, rfl, hF, hM, hb⟩; have HTW := hidp (Two.start HB1.out HP.out.1 HP.out.2.1 HP.out.2.2 hF hM hb); replace HC := hidp (HC.out.keep hb); replace HB := hidp (Bgo HB.out hb); clear hb hF hM HP HB1)
 refine hK.out _ _ ?_ (fun hHeld => ?_)
 ·(try dsimp only)
  first | exact HC.out.three | exact hHeld
 clear hK K
 (try simp only [Act.put, gA, gB, gC, sA, sB, sC])
 refine tkz 4 ?_
 refine tkz 5 ?_
 refine dnz ?_
 clear HC
 go_wp2_with fail
 go_loopw [7] (fun u7 wr => ∃ (i : Nat) (L : List (Int × Int)) (R : Nat -> Int) (F : Nat -> Prop), i <= n /\ u7 = .int .i64 (i : Int) /\ L.length <= i /\ Hid (Two W wr g1 g2 F t p s L R L R)) (fun u7 _ => n - (intOf u7).toNat)
 case atStart => exact ⟨0, [], (fun _ => 0), F1, by omega, rfl, by simp, HTW⟩
 case round =>
  clear HTW HB
  obtain ⟨i, L, R, F, hi, rfl, hLi, HT⟩ := hrel
  by_cases hlt : i < n
  ·obtain ⟨x, hx⟩ : ∃ x, l[i]? = some x := ⟨_, List.getElem?_eq_getElem (by have := HLL.out; omega)⟩
   have HXX := hidp hx
   have HOK := hidp (HOKS.out x (List.mem_of_getElem? hx))
   obtain ⟨ad, eA, hbl, _⟩ := HL.out i x hx
   subst eA
   have hadb : (ad.add (i * 6)).block < W.heap.size := by rw [block_of_add]; exact hbl
   obtain ⟨ab, hab⟩ : ∃ ab, allowM t p s L R x.k x.a x.b x.err x.out x.aux = ab := ⟨_, rfl⟩
   have HAB := hidp hab
   obtain ⟨Ln, hln⟩ : ∃ Ln, stepL t p s L R x.k x.a x.b x.err x.out x.aux = Ln := ⟨_, rfl⟩
   obtain ⟨Rn, hrn⟩ : ∃ Rn, stepR t p s L R x.k x.a x.b x.err x.out x.aux = Rn := ⟨_, rfl⟩
   have HLN : Hid (Ln.length <= i + 1) := hidp (by rw [<- hln]; exact Nat.le_trans (step_len ..) (by omega))
   have HSN : Hid (stepL t p s L R x.k x.a x.b x.err x.out x.aux = Ln /\ stepR t p s L R x.k x.a x.b x.err x.out x.aux = Rn) := hidp ⟨hln, hrn⟩
   have t1 : decide ((i : Int) < n) = true := decide_eq_true (by omega)
   have e1 : (ab != ab) = false := by simp
   clear hx hbl hab hln hrn
   go_wp2_with fail
   replace HT := hidp (HT.out.keep (Bdrew (B0 _)))
   refine wp_region_held_drew (S := (fun w' => w'.cell? (ad.add (i * 6)) = some (.int .i64 x.k) /\ w'.cell? ⟨(ad.add (i * 6)).block, (ad.add (i * 6)).off + 1, none⟩ = some (.int .i64 x.a) /\ w'.cell? ⟨(ad.add (i * 6)).block, (ad.add (i * 6)).off + 2, none⟩ = some (.int .i64 x.b) /\ w'.cell? ⟨(ad.add (i * 6)).block, (ad.add (i * 6)).off + 3, none⟩ = some (.int .i64 x.err) /\ w'.cell? ⟨(ad.add (i * 6)).block, (ad.add (i * 6)).off + 4, none⟩ = some (.int .i64 x.out) /\ w'.cell? ⟨(ad.add (i * 6)).block, (ad.add (i * 6)).off + 5, none⟩ = some (.int .i64 x.aux))) (by kernel_rfl) ?_ (fun hHeld => ?_)
   ·(try dsimp only)
    first | exact (HL.out.below HT.out.below).cells HXX.out | exact hHeld
   refine tkz 0 ?_
   refine tkz 1 ?_
   refine tkz 2 ?_
   refine tkz 3 ?_
   refine tkz 4 ?_
   refine tkz 5 ?_
   refine tkz 6 ?_
   refine tkz 7 ?_
   refine tkz 8 ?_
   refine tkz 9 ?_
   refine tkz 10 ?_
   refine tkz 12 ?_
   refine tkz 13 ?_
   refine tkz 14 ?_
   refine tkz 15 ?_
   refine tkz 16 ?_
   refine tkz 17 ?_
   refine tkz 18 ?_
   refine tkz 19 ?_
   refine tkz 20 ?_
   refine tkz 21 ?_
   refine tkz 22 ?_
   refine rdz 11 fun K hK => ?_
   go_simp
   (refine (mdApply_c HT.out.a (by omega) x.k x.a x.b x.err x.out x.aux HOK.out.k HOK.out.a HOK.out.b (HSL.out.below HT.out.below)).mono ?_; rintro e w9 ⟨F2, rfl, hF, hM, ht⟩; rw [HAB.out]; rw [HSN.out.1, HSN.out.2] at hM; replace HT := hidp (HT.out.callA hF hM ht); clear hF hM ht)
   refine hK.out _ _ ?_ (fun hHeld => ?_)
   ·(try dsimp only)
    first | exact (HL.out.below HT.out.below).cells HXX.out | exact hHeld
   clear hK K
   (try simp only [Act.put, gA, gB, gC, sA, sB, sC])
   refine rdz 23 fun K hK => ?_
   go_simp
   (refine (r26Apply_c HT.out.b (by omega) x.k x.a x.b x.err x.out x.aux HOK.out.k HOK.out.a HOK.out.b).mono ?_; rintro e w9 ⟨rfl, hM, ht⟩; rw [HAB.out]; rw [HSN.out.1, HSN.out.2] at hM; replace HT := hidp (HT.out.callB hM ht); clear hM ht)
   refine hK.out _ _ ?_ (fun hHeld => ?_)
   ·(try dsimp only)
    first | exact (HL.out.below HT.out.below).cells HXX.out | exact hHeld
   clear hK K
   (try simp only [Act.put, gA, gB, gC, sA, sB, sC])
   refine tkz 24 ?_
   refine tkz 25 ?_
   refine tkz 26 ?_
   refine tkz 28 ?_
   refine tkz 29 ?_
   refine tkz 30 ?_
   refine wpAnyH_ready (rs := [27, 31]) (by kernel_rfl) (by simp) ?_
   refine (AllReadyH.cons (o := _) rfl (fun K hK => ?_) (AllReadyH.cons (o := _) rfl (fun K hK => ?_) AllReadyH.nil))
   ·go_simp
    (refine (mdState_c HT.out.a (by have := HLN.out; omega)).mono ?_; rintro e w9 ⟨A3, cc3, rfl, hq, hb⟩; replace HT := hidp (HT.out.keep hb); have HQ := hidp hq; clear hq hb)
    refine hK.out _ _ ?_ (fun hHeld => ?_)
    ·(try dsimp only)
     first | exact (HL.out.below HT.out.below).cells HXX.out | exact hHeld
    clear hK K
    (try simp only [Act.put, gA, gB, gC, sA, sB, sC])
    refine rdz 31 fun K hK => ?_
    (obtain ⟨A2, cc2, hm, ho⟩ := HT.out.b.ex; have HO := hidp ho; obtain ⟨y3, y4, y5, y6, y7, y8, y9, y10, y11⟩ := mc12 hm; clear hm ho)
    go_simp
    refine hK.out _ _ ?_ (fun hHeld => ?_)
    ·(try dsimp only)
     first | exact (HL.out.below HT.out.below).cells HXX.out | exact hHeld
    clear hK K
    (try simp only [Act.put, gA, gB, gC, sA, sB, sC])
    refine rdz 32 fun K hK => ?_
    go_simp
    (refine (xSame_c Ln Ln A3 A2 Ln.length Ln.length cc3 cc2 _ _ (Rn 0) (Rn 1) (Rn 2) (Rn 3) (Rn 4) (Rn 5) (Rn 6) (Rn 7) (Rn 0) (Rn 1) (Rn 2) (Rn 3) (Rn 4) (Rn 5) (Rn 6) (Rn 7) _ rfl rfl (by have := HLN.out; omega) (by have := HLN.out; omega) HQ.out HO.out true (by simp)).mono ?_; rintro e w9 ⟨rfl, hb⟩; replace HT := hidp (HT.out.keep hb); clear hb)
    refine hK.out _ _ ?_ (fun hHeld => ?_)
    ·(try dsimp only)
     first | exact (HL.out.below HT.out.below).cells HXX.out | exact hHeld
    clear hK K
    (try simp only [Act.put, gA, gB, gC, sA, sB, sC])
    refine tkz 33 ?_
    refine tkz 34 ?_
    refine dnz ?_
    go_wp2_with fail
    go_roundw
    case rel => exact ⟨i + 1, Ln, Rn, _, by omega, by go_num, by have := HLN.out; omega, HT⟩
    case measure => simp [intOf]; omega
   ·(obtain ⟨A2, cc2, hm, ho⟩ := HT.out.b.ex; have HO := hidp ho; obtain ⟨y3, y4, y5, y6, y7, y8, y9, y10, y11⟩ := mc12 hm; clear hm ho)
    go_simp
    refine hK.out _ _ ?_ (fun hHeld => ?_)
    ·(try dsimp only)
     first | exact (HL.out.below HT.out.below).cells HXX.out | exact hHeld
    clear hK K
    (try simp only [Act.put, gA, gB, gC, sA, sB, sC])
    refine rdz 27 fun K hK => ?_
    go_simp
    (refine (mdState_c HT.out.a (by have := HLN.out; omega)).mono ?_; rintro e w9 ⟨A3, cc3, rfl, hq, hb⟩; replace HT := hidp (HT.out.keep hb); have HQ := hidp hq; replace HO := hidp (own_below HO.out hb); clear hq hb)
    refine hK.out _ _ ?_ (fun hHeld => ?_)
    ·(try dsimp only)
     first | exact (HL.out.below HT.out.below).cells HXX.out | exact hHeld
    clear hK K
    (try simp only [Act.put, gA, gB, gC, sA, sB, sC])
    refine rdz 32 fun K hK => ?_
    go_simp
    (refine (xSame_c Ln Ln A3 A2 Ln.length Ln.length cc3 cc2 _ _ (Rn 0) (Rn 1) (Rn 2) (Rn 3) (Rn 4) (Rn 5) (Rn 6) (Rn 7) (Rn 0) (Rn 1) (Rn 2) (Rn 3) (Rn 4) (Rn 5) (Rn 6) (Rn 7) _ rfl rfl (by have := HLN.out; omega) (by have := HLN.out; omega) HQ.out HO.out true (by simp)).mono ?_; rintro e w9 ⟨rfl, hb⟩; replace HT := hidp (HT.out.keep hb); clear hb)
    refine hK.out _ _ ?_ (fun hHeld => ?_)
    ·(try dsimp only)
     first | exact (HL.out.below HT.out.below).cells HXX.out | exact hHeld
    clear hK K
    (try simp only [Act.put, gA, gB, gC, sA, sB, sC])
    refine tkz 33 ?_
    refine tkz 34 ?_
    refine dnz ?_
    go_wp2_with fail
    go_roundw
    case rel => exact ⟨i + 1, Ln, Rn, _, by omega, by go_num, by have := HLN.out; omega, HT⟩
    case measure => simp [intOf]; omega
  ·have t1 : decide ((i : Int) < n) = false := decide_eq_false (by omega)
   go_wp2_with fail
   refine (live26_c _ (HSL.out.below HT.out.below)).mono ?_; rintro e w9 ⟨rfl, hb⟩
   have HB9 := hidp (Bgo HT.out.below hb)
   clear hb
   go_wp2_with fail
   go_ret
   exact ⟨rfl, HB9.out⟩

theorem ModelRuns_calls (t p s : Int) (A : Option Addr) (n c : Nat) (l : List SaidV) (hl : l.length = n) (hcn : n <= c /\ c <= maxLen) (hok : ∀ x ∈ l, x.Ok) (W : World) (hin : SaidVs W A l) (hT : SlotsLaid W) : Calls Tryd.prog 4 #[.agg #[.int .i64 t, .int .i64 p, .int .i64 s], .slice A n c] W (Keeps W) := by
 by_cases hn : n <= 60
 ·cases hr : rightB t p s with
  | false => exact ModelRuns_wrong t p s A n c hn hcn hr W hT
  | true => exact ModelRuns_main t p s A n c l hl hn hcn hok hr W hin hT
 ·exact ModelRuns_many t p s A n c (by omega) W hT
end
end Go.Proofs.YtedakmhffjhfnaaDoor

namespace Go.Proofs.YtedakmhffjhfnaaDoor
open Go.ChangeShapes Go.WideShapes Go.ChangeAt Go.RowKit
set_option linter.unusedVariables false
set_option linter.unusedSimpArgs false
section
set_option maxRecDepth 100000 in
theorem open_conf {H : Type} {enc : TypeId × Value -> H} {W : World} {b base : Nat} {sp : Nat -> Bool} {held : Bool} {v : Value} {d : DataW H} {p : List MemPlace}
  (hv : Value.okWide Tryd.prog W .any b 23 v) (h : DataW.Trod enc Tryd.prog W base sp held 23 v d p) :
  ∃ (t q s : Int), v = .agg #[.int .i64 t, .int .i64 q, .int .i64 s] := by
 obtain ⟨v0, v1, v2, y0, y1, y2, m, rfl, rfl, rfl, h0, h1, h2⟩ := Joins.open_agg3 Tryd.underlying23 (by kernel_rfl) (by kernel_rfl) hv h
 obtain ⟨a, e0, _, w0⟩ := DataW.trod_int Tryd.underlying3 h0
 obtain ⟨c, e1, _, w1⟩ := DataW.trod_int Tryd.underlying3 h1
 obtain ⟨k, e2, _, w2⟩ := DataW.trod_int Tryd.underlying3 h2
 simp at e0 e1 e2
 subst e0 e1 e2
 exact ⟨a, c, k, rfl⟩
end
end Go.Proofs.YtedakmhffjhfnaaDoor

namespace Go.Proofs.YtedakmhffjhfnaaDoor
open Go.ChangeShapes Go.WideShapes Go.ChangeAt Go.RowKit
set_option linter.unusedVariables false
section
section
variable {H : Type} {enc : TypeId × Value -> H}
theorem law_lifted_laid {C : Checked} {os : Os} {f : FuncId} {fn : Func} {s : ChangeSpec} {tb : TypeId} {laid : List (String × DataW Unit)}
  (own : ownKnob C.prog.godebug = none) (started : os.Started) (noInit : C.prog.inits.idxOf? f = none) (hfn : C.prog.funcs[f]? = some fn)
  (witness : ∃ (w : World) (tape : Tape) (i : Input), w.os = os /\ (w.forCall tape i).Shaped C.prog /\ i.vars = [] /\ Input.okWide C.prog (w.forCall tape i) .any w.heap.size f i /\
   ((s.pre enc C.prog fn [] false (w.forCall tape i).memory i.args /\ laidMetH C.prog laid (w.forCall tape i).memory) /\ sizedMet enc C.prog fn (OpenSpec.ofChange s) false (w.forCall tape i).memory i.args) /\
   ({} : Assume).holds C.prog (lone (Frame.enter C.prog f i.args .normal) [] (w.forCall tape i)))
  (hl : laidOutB C.prog = true) (hp : (fn.params.toList.all fun t => C.prog.readableRec t && decide (t < C.prog.types.size)) = true) (hv : s.vars = []) (hr : fn.resultTypes = #[tb]) (htb : C.prog.underlying tb = some .bool)
  (hs : ∀ ds : List (DataW H), ds.length = fn.params.size -> s.fn H ds = ⟨[.lit (.bool true)], ds, []⟩)
  (walk : ∀ (W : World) (base : Nat) (args : Array Value) (ds : List (DataW H)) (ps : List MemPlace), laidMetH C.prog laid W -> Given enc C.prog fn W base args ds ps -> Calls C.prog f args W (Keeps W)) :
  ReturnsInHanded {} C os f .any (fun w args => (s.pre enc C.prog fn [] false w args /\ laidMetH C.prog laid w) /\ sizedMet enc C.prog fn (OpenSpec.ofChange s) false w args) (s.post enc C.prog fn false true false false) := by
 refine returnsInHanded_of_change_and (C := C) (X := fun w _ => laidMetH C.prog laid w) (fun _ _ _ hh h => h.of_heap hh) own started noInit hfn witness ?_
 intro W base args ds gs before hval hW _ hsz hL _
 have hW0 := hW
 obtain ⟨p, q, hA, hV, rfl, hz, hn⟩ := hW0
 rw [hv] at hV
 obtain ⟨rfl, rfl⟩ := trodVars_none hV
 have hvt : s.plain.varTypes C.prog = [] := by
  simp [ChangeSpec.plain, DataSpec.varTypes, hv]
 rw [hvt, List.append_nil, List.append_nil] at hsz
 have hp' : ∀ t ∈ fn.params.toList, C.prog.readableRec t = true /\ t < C.prog.types.size := fun t ht => by
  have := List.all_eq_true.1 hp t ht
  simpa using this
 refine (walk W base args ds p hL ⟨hval, hA, fun x hx => hW.lt x (List.mem_append_left _ hx), hsz⟩).mono ?_
 rintro e W' ⟨rfl, hb⟩
 exact ⟨_, rfl, law_post hl hp' hv hr htb hs hW hb⟩
end

theorem card_of {p : Pinned} {s : OpenSpec} {c : OpenClaim} {kinds : List LaidKind} {tests : Bool} {har : Bool × String} {lk : Bool} (f : FuncId) (fn : Func)
  (hc : c.holds p s) (hw : c.wfByText s = true) (htie : c.laidByTextAt .later p kinds tests) (hst : c.start = .entering) (hnb : c.noBlocks = false /\ c.again = false)
  (hm : p.checked.prog.mainIs = some (har.1, har.2.toList)) (hn : (!har.1 && har.2.isEmpty && !lk) = false) (hname : p.checked.prog.funcNamed c.func = some f) (hfn : p.checked.prog.funcs[f]? = some fn)
  (hlk : lk = p.checked.prog.looks []) (hps : (fn.params.toList.all fun t => !p.checked.prog.wantsStandIn t) = true) (hg : false = c.goesBy p.checked.prog) :
  Claim7.holds p (.plain s) { stood := { row := c, standIns := [], harness := har, looks := lk }, kinds := [], alts := [], laidByText := true, laidKinds := kinds, laidTests := tests, laidLooks := .later } :=
 Claim7.holds_tied_plain_at .later [] kinds tests har lk hc (fun _ h => by cases h) hw (fun _ h => by cases h) htie hst hnb hm hn
  (fun f' fn' hf' hfn' => by
   obtain rfl := Option.some.inj (hname.symm.trans hf')
   obtain rfl := Option.some.inj (hfn.symm.trans hfn')
   refine ⟨hlk, fun j t ht => ?_⟩
   have := List.all_eq_true.1 hps t (by simpa using Array.mem_of_getElem? ht)
   simpa using this)
  hg

theorem tab_of_laid {P : Program} {W : World} {laid : List (String × DataW Unit)} {name : String} {k : IntKind} {zs : List Int} {g : Nat} {t e : TypeId} {n : Nat}
  (h : laidMetH P laid W) (hf : (laid.filter fun x => x.1 == name) = [(name, Lib.tabData k zs)])
  (hg : P.globalNamed name = some g) (hty : (P.globals[g]?).map (·.type) = some t) (ht : P.underlying t = some (.array n e)) (he : P.underlying e = some (.int k)) (hce : P.cellsOf e = 1) (hct : P.cellsOf t = n) :
  ∀ i, i < zs.length -> W.cell? ⟨g, i, none⟩ = some (.int k (zs.getD i 0)) := by
 have h1 := h.filter (fun x => x.1 == name)
 rw [hf, MakeChecks.laidMetH_plain _ _ _ (by rfl)] at h1
 exact fun i hi => (Lib.tabIs_of_head hg hty ht he hce hct h1).cell hg i hi
end
section
theorem slots26_laid {W : World} {laid : List (String × DataW Unit)} (h : laidMetH Tryd.prog laid W)
  (hf : (laid.filter fun x => x.1 == "nacre/class.slots") = [("nacre/class.slots", Lib.tabData .i64 [32, 21, 16, 10, 8, 5, 4, 3, 2])]) : SlotsLaid W := by
 have h1 := tab_of_laid h hf (g := 0) (t := 116) (e := 3) (n := 9) (by kernel_rfl) (by kernel_rfl) Tryd.underlying116 Tryd.underlying3 (by kernel_rfl) (by kernel_rfl)
 intro k hk
 rw [h1 k (by simpa using hk)]
 have : ∀ j, j < 9 -> ([32, 21, 16, 10, 8, 5, 4, 3, 2] : List Int).getD j 0 = ((slotN j : Nat) : Int) := by decide
 rw [this k hk]
end
end Go.Proofs.YtedakmhffjhfnaaDoor
