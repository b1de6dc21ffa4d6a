/-
  The program's automaton: are bytes free (model.isFree).
-/
import Derived.Test.YtedakmhffjhfnaaDoorA06
import Derived.Test.YtedakmhffjhfnaaDoorA01
import Derived.Test.YtedakmhffjhfnaaDoorA02
import Derived.RegionTactic
import Derived.Test.YtedakmhffjhfnaaDoorAKit
import Derived.Below
import Derived.WalkKit
import Derived.ProofKit
import Derived.BigQuiet
import Derived.Outline
import Derived.Deep.QuietTactic
import Derived.Deep.RegionHeld3
import Derived.IntWalk
import Derived.KernelRfl
namespace Go.Proofs.YtedakmhffjhfnaaDoor
open Go.ChangeShapes Go.WideShapes Go.ChangeAt Go.RowKit Go.Maps
set_option linter.unusedVariables false
set_option linter.unusedSimpArgs false
set_option maxRecDepth 100000
section
section
variable {w : World} {g : Nat} {F : Nat -> Prop} {t p s : Int} {L : List (Int × Int)} {R : Nat -> Int}
set_option maxHeartbeats 3200000 in
theorem mdFree_c (h : IsMod w g F t p s L R) (a z oa oz own : Int) (hz : -9223372036854775808 <= z /\ z <= 9223372036854775807) (hown : ∀ (j : Nat) (x : Int × Int), L[j]? = some x -> (x = (oa, oz) ↔ (j : Int) = own)) :
  Calls Tryd.prog 64 #[.pointer (some ⟨g, 0, none⟩), .agg #[.int .i64 a, .int .i64 z], .agg #[.int .i64 oa, .int .i64 oz]] w fun e w' => e = .returned (.bool (freeM (pageN t p s : Int) (endI t p s) L a z own)) /\ Below w.heap.size w w' := by
 obtain ⟨b1, b2⟩ := end_le h.right
 obtain ⟨m, D, hm, hX, hO, hD⟩ := h.ex
 obtain ⟨G, hG⟩ : ∃ G : Int, (pageN t p s : Int) = G := ⟨_, rfl⟩
 obtain ⟨E, hE⟩ : ∃ E : Int, endI t p s = E := ⟨_, rfl⟩
 have HB := hidp (Bnew (Bnew (B0 w) (.cells #[.int .i64 a, .int .i64 z] 55)) (.cells #[.int .i64 oa, .int .i64 oz] 55))
 have hX2 := hX.keep HB.out
 have hI := mdIn_h h.right hX2 a z hz
 have hNS := h.ins
 rw [hG, hE] at hI hNS b2 ⊢
 have HIN := hidp hI
 have HNS := hidp hNS
 have HOWN := hidp hown
 have HH := hidp h
 have HD := hidp hD
 have HX := hidp hX2
 have HO := hidp (owns_turns hO (Turns.of_below HB.out (fun _ => False)) (fun x => x))
 have HY := hidp ((Held.new w 55 #[.int .i64 a, .int .i64 z]).alloc (.cells #[.int .i64 oa, .int .i64 oz] 55))
 have HW := hidp (Held.new2 w (.cells #[.int .i64 a, .int .i64 z] 55) 55 #[.int .i64 oa, .int .i64 oz])
 clear h hX hX2 hO hD hm hI hNS hown hG hE b1
 obtain ⟨y0, y1⟩ := HY.out.two
 obtain ⟨v0, v1⟩ := HW.out.two
 cases hi : insB G E a z with
 | false =>
  have HF : Hid (freeM G E L a z own = false) := hidp (freeM_no hi)
  have HI := hidp hi
  clear hi b2
  go_enter Tryd.func64, Tryd.ntmps64
  go_wp2_with fail
  refine HIN.out.mono ?_; rintro e w1 ⟨rfl, hb⟩; rw [HI.out]
  replace HB := hidp (Bgo HB.out hb)
  go_wp2
  go_ret
  exact ⟨by rw [HF.out]; rfl, HB.out⟩
 | true =>
  have HI := hidp hi
  have hib := of_decide_eq_true hi
  clear hi
  go_enter Tryd.func64, Tryd.ntmps64
  go_wp2_with fail
  refine HIN.out.mono ?_; rintro e w1 ⟨rfl, hb⟩; rw [HI.out]
  replace HB := hidp (Bgo HB.out hb)
  replace HX := hidp (HX.out.keep hb)
  replace HY := hidp (HY.out.keep hb)
  replace HW := hidp (HW.out.keep hb)
  have hown := owns_turns HO.out (Turns.of_below hb (fun _ => False)) (fun x => x)
  have HS1 : Hid (w.heap.size + 2 <= w1.heap.size) := hidp (by have := hb.size; simp at this; omega)
  clear hb y0 y1 v0 v1 HIN HO
  obtain ⟨IT, hIT⟩ : ∃ IT, w1.heap.size = IT := ⟨_, rfl⟩
  obtain ⟨_, _, _, x3⟩ := mod_cells HX.out
  go_wp2_with (first
   | (at_range; refine wpList_range_own _ rfl _ 60 rfl 55 72 bkKey Tryd.underlying60 unitElem m L.length D rfl hown ?_; intro w0 hrg0 hg0 hs0; rw [hIT] at hrg0 hs0 ⊢)
   | go_in)
  try go_frame
  rw [hIT] at HS1
  have HB0 : Hid (Below w.heap.size w w0) := hidp (HB.out.grown hg0 HB.out.size (fun j hj => by cases hj))
  have HY0 : Hid (Held w0 w.heap.size 55 #[.int .i64 a, .int .i64 z]) := hidp ((hg0.block _ HY.out.lt (by simp)).trans HY.out)
  have HW0 : Hid (Held w0 (w.heap.size + 1) 55 #[.int .i64 oa, .int .i64 oz]) := hidp ((hg0.block _ HW.out.lt (by simp)).trans HW.out)
  have HC0 : Hid (CameB D (Maps.has D) []) := hidp (CameB.start D)
  have HS0 : Hid (IT < w0.heap.size) := hidp (by have := hrg0.lt; omega)
  clear hown hs0 hg0 x3
  go_loopw [17] (fun _ wr => ∃ (left : Lit -> Bool) (cnt : Nat) (ss : List (Int × Int)), wr.ranges Tryd.prog 55 unitElem m IT L.length D left cnt /\ Hid (CameB D left ss) /\ Hid (∀ x ∈ ss, x = (oa, oz) \/ hitB x a z = false) /\ Hid (Below w.heap.size w wr) /\ Hid (Held wr w.heap.size 55 #[.int .i64 a, .int .i64 z]) /\ Hid (Held wr (w.heap.size + 1) 55 #[.int .i64 oa, .int .i64 oz]) /\ Hid (IT < wr.heap.size))
   (fun _ wr => wr.rangeLeft m IT)
  case atStart => exact ⟨_, _, [], hrg0, HC0, hidp (by simp), HB0, HY0, HW0, HS0⟩
  case round =>
   clear HB0 HC0 HY0 HW0 HS0 hrg0 HY HW HB HX
   obtain ⟨left, cnt, ss, hrg, HC, HNO, HB, HY, HW, HSZ⟩ := hrel
   go_wp2_with (first
    | (at_next; refine wpList_next_ranges _ rfl _ rfl 55 bkKey unitElem (fun x : Int × Int => .agg #[.int .i64 x.1, .int .i64 x.2]) (fun _ : Unit => .agg #[]) bk_invK unit_invV m IT L.length _ _ _ rfl hrg ?_ ?_)
    | go_in)
   ·intro hc0 hl0
    have HF : Hid (freeM G E L a z own = true) := hidp (freeM_all HI.out (fun j x hx => by
     rcases HNO.out x ((HC.out.done hl0 HD.out HH.out.nodup).mem_iff.2 (List.mem_of_getElem? hx)) with h1 | h1
     ·exact .inl ((HOWN.out j x hx).1 h1)
     ·exact .inr h1))
    clear hrg
    go_wp2
    go_ret
    exact ⟨by rw [HF.out]; rfl, HB.out⟩
   ·intro x1 x2 kl yd yp w2 cnt2 hkey hlk hv hat hrg2 hlt hg2 hs2 hen
    obtain ⟨⟨y1, y2⟩, he, hw1, hw2, hkl⟩ := bk_inv hkey
    simp only [bkV, Value.agg.injEq] at he hw1 hw2 hkl
    obtain ⟨rfl, rfl⟩ : x1 = y1 /\ x2 = y2 := by simpa using he
    subst hkl
    have hhas := has_true_of_atKey hat
    have HCC := hidp (HC.out.step (x := (x1, x2)) ⟨hw1, hw2⟩ hlk hhas)
    have hin : (x1, x2) ∈ L := (HD.out.has (x1, x2) ⟨hw1, hw2⟩).1 hhas
    have hib2 := of_decide_eq_true (HNS.out (x1, x2) hin)
    simp only at hib2
    obtain ⟨j, hj, hjx⟩ := List.getElem_of_mem hin
    have HJ : Hid (L[j]? = some (x1, x2)) := hidp (by rw [List.getElem?_eq_getElem hj, hjx])
    have HB2 : Hid (Below w.heap.size w w2) := hidp (HB.out.grown hg2 HB.out.size (fun i hi => by cases hi; have := HS1.out; omega))
    have HY2 : Hid (Held w2 w.heap.size 55 #[.int .i64 a, .int .i64 z]) := hidp ((hg2.block _ HY.out.lt (by have := HS1.out; simp; omega)).trans HY.out)
    have HW2 : Hid (Held w2 (w.heap.size + 1) 55 #[.int .i64 oa, .int .i64 oz]) := hidp ((hg2.block _ HW.out.lt (by have := HS1.out; simp; omega)).trans HW.out)
    have HRG2 := hidp hrg2
    have HRG := hidp hrg
    have HM := hidp hlt
    have HS2 : Hid (w2.heap.size = wr.heap.size) := hidp hs2
    have hwr1 : IntKind.i64.wrap (a + z) = a + z := i64_same (by omega) (by omega)
    have hwr2 : IntKind.i64.wrap (x1 + x2) = x1 + x2 := i64_same (by omega) (by omega)
    clear hrg hrg2 hlt hg2 hs2 he hat hv hkey hlk hhas hw1 hw2 hin hj hjx hib2
    replace HY2 := hidp (HY2.out.alloc (.cells #[.int .i64 x1, .int .i64 x2] 55))
    replace HW2 := hidp (HW2.out.alloc (.cells #[.int .i64 x1, .int .i64 x2] 55))
    obtain ⟨y0, y1⟩ := HY2.out.two
    obtain ⟨v0, v1⟩ := HW2.out.two
    have HN3 := hidp (Held.new w2 55 #[.int .i64 x1, .int .i64 x2])
    obtain ⟨n0, n1⟩ := HN3.out.two
    have HGO : Hid (((x1, x2) = (oa, oz) \/ hitB (x1, x2) a z = false) -> ∀ x ∈ ss ++ [(x1, x2)], x = (oa, oz) \/ hitB x a z = false) := hidp (fun h x hx => by
     rcases List.mem_append.1 hx with h1 | h1
     ·exact HNO.out x h1
     ·simp at h1; subst h1; exact h)
    by_cases h1 : x1 = oa
    ·have q1 : (x1 == oa) = true := by simp [h1]
     by_cases h2 : x2 = oz
     ·have q2 : (x2 == oz) = true := by simp [h2]
      have HNO2 := hidp (HGO.out (.inl (by rw [h1, h2])))
      clear h1 h2 HGO
      go_wp2
      go_roundw
      case rel => exact ⟨_, cnt2, ss ++ [(x1, x2)], HRG2.out.alloc _, HCC, HNO2, hidp (Bnew HB2.out _), HY2, HW2, hidp (by have := HSZ.out; have := HS2.out; simp; omega)⟩
      case measure =>
       rw [(HRG2.out.alloc (.cells #[.int .i64 x1, .int .i64 x2] 55)).left_eq, HRG.out.left_eq]
       exact HM.out
     ·have q2 : (x2 == oz) = false := by simp [h2]
      have HNE : Hid ((x1, x2) ≠ (oa, oz)) := hidp (fun e => h2 (by injection e))
      by_cases h3 : x1 < a + z
      ·have t1 : decide (x1 < a + z) = true := decide_eq_true h3
       by_cases h4 : a < x1 + x2
       ·have t2 : decide (a < x1 + x2) = true := decide_eq_true h4
        have HF : Hid (freeM G E L a z own = false) := hidp (freeM_hit HJ.out (fun e => HNE.out ((HOWN.out j (x1, x2) HJ.out).2 e)) (by unfold hitB; simp [h3, h4]))
        clear h1 h2 HGO h3 h4
        go_wp2
        go_ret
        exact ⟨by rw [HF.out]; rfl, Bnew HB2.out _⟩
       ·have t2 : decide (a < x1 + x2) = false := decide_eq_false h4
        have HNO2 := hidp (HGO.out (.inr (by unfold hitB; simp [t2])))
        clear h4
        clear h1 h2 HGO HNE h3
        go_wp2
        go_roundw
        case rel => exact ⟨_, cnt2, ss ++ [(x1, x2)], HRG2.out.alloc _, HCC, HNO2, hidp (Bnew HB2.out _), HY2, HW2, hidp (by have := HSZ.out; have := HS2.out; simp; omega)⟩
        case measure =>
         rw [(HRG2.out.alloc (.cells #[.int .i64 x1, .int .i64 x2] 55)).left_eq, HRG.out.left_eq]
         exact HM.out
      ·have t1 : decide (x1 < a + z) = false := decide_eq_false h3
       have HNO2 := hidp (HGO.out (.inr (by unfold hitB; simp [t1])))
       clear h1 h2 HGO HNE h3
       go_wp2
       go_roundw
       case rel => exact ⟨_, cnt2, ss ++ [(x1, x2)], HRG2.out.alloc _, HCC, HNO2, hidp (Bnew HB2.out _), HY2, HW2, hidp (by have := HSZ.out; have := HS2.out; simp; omega)⟩
       case measure =>
        rw [(HRG2.out.alloc (.cells #[.int .i64 x1, .int .i64 x2] 55)).left_eq, HRG.out.left_eq]
        exact HM.out
    ·have q1 : (x1 == oa) = false := by simp [h1]
     have HNE : Hid ((x1, x2) ≠ (oa, oz)) := hidp (fun e => h1 (by injection e))
     by_cases h3 : x1 < a + z
     ·have t1 : decide (x1 < a + z) = true := decide_eq_true h3
      by_cases h4 : a < x1 + x2
      ·have t2 : decide (a < x1 + x2) = true := decide_eq_true h4
       have HF : Hid (freeM G E L a z own = false) := hidp (freeM_hit HJ.out (fun e => HNE.out ((HOWN.out j (x1, x2) HJ.out).2 e)) (by unfold hitB; simp [h3, h4]))
       clear h1 HGO h3 h4
       go_wp2
       go_ret
       exact ⟨by rw [HF.out]; rfl, Bnew HB2.out _⟩
      ·have t2 : decide (a < x1 + x2) = false := decide_eq_false h4
       have HNO2 := hidp (HGO.out (.inr (by unfold hitB; simp [t2])))
       clear h4
       clear h1 HGO HNE h3
       go_wp2
       go_roundw
       case rel => exact ⟨_, cnt2, ss ++ [(x1, x2)], HRG2.out.alloc _, HCC, HNO2, hidp (Bnew HB2.out _), HY2, HW2, hidp (by have := HSZ.out; have := HS2.out; simp; omega)⟩
       case measure =>
        rw [(HRG2.out.alloc (.cells #[.int .i64 x1, .int .i64 x2] 55)).left_eq, HRG.out.left_eq]
        exact HM.out
     ·have t1 : decide (x1 < a + z) = false := decide_eq_false h3
      have HNO2 := hidp (HGO.out (.inr (by unfold hitB; simp [t1])))
      clear h1 HGO HNE h3
      go_wp2
      go_roundw
      case rel => exact ⟨_, cnt2, ss ++ [(x1, x2)], HRG2.out.alloc _, HCC, HNO2, hidp (Bnew HB2.out _), HY2, HW2, hidp (by have := HSZ.out; have := HS2.out; simp; omega)⟩
      case measure =>
       rw [(HRG2.out.alloc (.cells #[.int .i64 x1, .int .i64 x2] 55)).left_eq, HRG.out.left_eq]
       exact HM.out
end
end
section
theorem mdRound_no (t p s z : Int) (hz : -9223372036854775808 <= z /\ z <= 9223372036854775807) (q : Int) (hn : needI t p s z = q /\ needB t p s z = false) (w : World) : Calls Tryd.prog 13 #[.agg #[.int .i64 t, .int .i64 p, .int .i64 s], .int .i64 z] w fun e w' => e = .returned (.tuple #[.int .i64 0, .bool false]) /\ Below w.heap.size w w' := by
 have HX := hidp (Held.new w 23 #[.int .i64 t, .int .i64 p, .int .i64 s])
 have HB := hidp (Bnew (B0 w) (.cells #[.int .i64 t, .int .i64 p, .int .i64 s] 23))
 have HN := hidp hn
 clear hn
 obtain ⟨x0, x1, x2⟩ := HX.out.three
 go_enter Tryd.func13, Tryd.ntmps13
 go_wp2_with fail
 refine (adPages_c t p s z hz.1 hz.2 _).mono ?_; rintro e w1 ⟨rfl, hb⟩; rw [HN.out.1, HN.out.2]
 replace HX := hidp (HX.out.keep hb)
 replace HB := hidp (Bgo HB.out hb)
 clear hb x0 x1 x2
 obtain ⟨x0, x1, x2⟩ := HX.out.three
 go_wp2_with fail
 exact bodyPost_ret (v := .tuple #[.int .i64 0, .bool false]) (by simp [results, Tryd.results13, go_sem]) rfl ⟨rfl, HB.out⟩
theorem mdRound_class (t p s z : Int) (hz : -9223372036854775808 <= z /\ z <= 9223372036854775807) (q k y : Int) (hn : needI t p s z = q /\ needB t p s z = true) (hk : classK s z = k /\ classB s z = true) (hy : (sizeN s k : Int) = y) (hk0 : -9223372036854775808 <= k /\ k <= 9223372036854775807) (w : World) (hT : SlotsLaid w) : Calls Tryd.prog 13 #[.agg #[.int .i64 t, .int .i64 p, .int .i64 s], .int .i64 z] w fun e w' => e = .returned (.tuple #[.int .i64 y, .bool true]) /\ Below w.heap.size w w' := by
 have HX := hidp (Held.new w 23 #[.int .i64 t, .int .i64 p, .int .i64 s])
 have HB := hidp (Bnew (B0 w) (.cells #[.int .i64 t, .int .i64 p, .int .i64 s] 23))
 have HN := hidp hn
 have HK := hidp hk
 have HY := hidp hy
 have HK0 := hidp hk0
 have HSL := hidp hT
 clear hn hk hy hk0 hT
 obtain ⟨x0, x1, x2⟩ := HX.out.three
 go_enter Tryd.func13, Tryd.ntmps13
 go_wp2_with fail
 refine (adPages_c t p s z hz.1 hz.2 _).mono ?_; rintro e w1 ⟨rfl, hb⟩; rw [HN.out.1, HN.out.2]
 replace HX := hidp (HX.out.keep hb)
 replace HB := hidp (Bgo HB.out hb)
 clear hb x0 x1 x2
 obtain ⟨x0, x1, x2⟩ := HX.out.three
 go_wp2_with fail
 refine (clOf_c s z _ (HSL.out.below HB.out)).mono ?_; rintro e w1 ⟨rfl, hb⟩; rw [HK.out.1, HK.out.2]
 replace HX := hidp (HX.out.keep hb)
 replace HB := hidp (Bgo HB.out hb)
 clear hb x0 x1 x2
 obtain ⟨x0, x1, x2⟩ := HX.out.three
 go_wp2_with fail
 refine (clSize_c s k HK0.out.1 HK0.out.2 _ (HSL.out.below HB.out)).mono ?_; rintro e w1 ⟨rfl, hb⟩; rw [HY.out]
 replace HX := hidp (HX.out.keep hb)
 replace HB := hidp (Bgo HB.out hb)
 clear hb x0 x1 x2
 obtain ⟨x0, x1, x2⟩ := HX.out.three
 go_wp2_with fail
 exact bodyPost_ret (v := .tuple #[.int .i64 y, .bool true]) (by simp [results, Tryd.results13, go_sem]) rfl ⟨rfl, HB.out⟩
theorem mdRound_pages (t p s z : Int) (hz : -9223372036854775808 <= z /\ z <= 9223372036854775807) (q k G y : Int) (hn : needI t p s z = q /\ needB t p s z = true) (hk : classK s z = k /\ classB s z = false) (hG : (pageN t p s : Int) = G) (hy : IntKind.i64.wrap (q * G) = y) (w : World) (hT : SlotsLaid w) : Calls Tryd.prog 13 #[.agg #[.int .i64 t, .int .i64 p, .int .i64 s], .int .i64 z] w fun e w' => e = .returned (.tuple #[.int .i64 y, .bool true]) /\ Below w.heap.size w w' := by
 have HX := hidp (Held.new w 23 #[.int .i64 t, .int .i64 p, .int .i64 s])
 have HB := hidp (Bnew (B0 w) (.cells #[.int .i64 t, .int .i64 p, .int .i64 s] 23))
 have HN := hidp hn
 have HK := hidp hk
 have HG := hidp hG
 have HSL := hidp hT
 clear hn hk hG hT
 obtain ⟨x0, x1, x2⟩ := HX.out.three
 go_enter Tryd.func13, Tryd.ntmps13
 go_wp2_with fail
 refine (adPages_c t p s z hz.1 hz.2 _).mono ?_; rintro e w1 ⟨rfl, hb⟩; rw [HN.out.1, HN.out.2]
 replace HX := hidp (HX.out.keep hb)
 replace HB := hidp (Bgo HB.out hb)
 clear hb x0 x1 x2
 obtain ⟨x0, x1, x2⟩ := HX.out.three
 go_wp2_with fail
 refine (clOf_c s z _ (HSL.out.below HB.out)).mono ?_; rintro e w1 ⟨rfl, hb⟩; rw [HK.out.1, HK.out.2]
 replace HX := hidp (HX.out.keep hb)
 replace HB := hidp (Bgo HB.out hb)
 clear hb x0 x1 x2
 obtain ⟨x0, x1, x2⟩ := HX.out.three
 go_wp2_with fail
 refine (cfPage_c t p s _).mono ?_; rintro e w1 ⟨rfl, hb⟩; rw [HG.out]
 replace HX := hidp (HX.out.keep hb)
 replace HB := hidp (Bgo HB.out hb)
 clear hb x0 x1 x2
 obtain ⟨x0, x1, x2⟩ := HX.out.three
 go_wp2_with fail
 exact bodyPost_ret (v := .tuple #[.int .i64 y, .bool true]) (by simp [results, Tryd.results13, go_sem]) rfl ⟨rfl, HB.out⟩
theorem mdRound_c (t p s z : Int) (hz : -9223372036854775808 <= z /\ z <= 9223372036854775807) (w : World) (hT : SlotsLaid w) : Calls Tryd.prog 13 #[.agg #[.int .i64 t, .int .i64 p, .int .i64 s], .int .i64 z] w fun e w' => e = .returned (.tuple #[.int .i64 (rdI t p s z), .bool (needB t p s z)]) /\ Below w.heap.size w w' := by
 have hk := classK_lim s z
 unfold rdI
 cases e : needB t p s z with
 | false => exact mdRound_no t p s z hz _ ⟨rfl, e⟩ w
 | true =>
  rw [if_pos rfl]
  cases hb : classB s z with
  | true =>
   rw [if_pos rfl]
   exact mdRound_class t p s z hz _ _ _ ⟨rfl, e⟩ ⟨rfl, hb⟩ rfl ⟨by omega, by omega⟩ w hT
  | false =>
   rw [if_neg (by simp)]
   refine mdRound_pages t p s z hz _ _ _ _ ⟨rfl, e⟩ ⟨rfl, hb⟩ rfl ?_ w hT
   obtain ⟨g, m, hg, hm, hm1, hm2, _⟩ := need_few e
   rw [hg, hm]
   have hg2 := page_le t p s
   rw [hg] at hg2
   have h3 : (m : Int) * (g : Int) <= 1024 * 1048576 := Int.mul_le_mul (by omega) (by omega) (by omega) (by omega)
   have h4 : 0 <= (m : Int) * (g : Int) := Int.mul_nonneg (by omega) (by omega)
   exact i64_same (by omega) (by omega)

theorem unless_c (b : Bool) (n : Int) (w : World) : Calls Tryd.prog 82 #[.bool b, .int .i64 n] w fun e w' => e = .returned (.int .i64 (if b = true then 0 else n)) /\ Below w.heap.size w w' := by
 cases b
 ·go_enter Tryd.func82, Tryd.ntmps82
  go_wp2
  go_ret
  exact ⟨rfl, B0 _⟩
 ·go_enter Tryd.func82, Tryd.ntmps82
  go_wp2
  go_ret
  exact ⟨rfl, B0 _⟩
def orI (x y : Int) : Int := if x = 0 then y else x
theorem cmpOr_c (B : Nat) (x y : Int) (w : World) (h : Held w B 30 #[.int .i64 x, .int .i64 y]) : Calls Tryd.prog 59 #[.slice (some ⟨B, 0, none⟩) 2 2] w fun e w' => e = .returned (.int .i64 (orI x y)) /\ Below w.heap.size w w' := by
 obtain ⟨x0, x1⟩ := h.two
 obtain ⟨r, hr⟩ : ∃ r, orI x y = r := ⟨_, rfl⟩
 rw [hr]
 have hc : (x ≠ 0 /\ r = x) \/ (x = 0 /\ y ≠ 0 /\ r = y) \/ (x = 0 /\ y = 0 /\ r = 0) := by
  rw [<- hr]; unfold orI
  by_cases h1 : x = 0
  ·rw [if_pos h1]; omega
  ·rw [if_neg h1]; omega
 clear hr h
 rcases hc with ⟨h1, rfl⟩ | ⟨rfl, h1, rfl⟩ | ⟨rfl, rfl, rfl⟩
 ·have t0 : (r != 0) = true := by simp [h1]
  clear h1
  go_enter Tryd.func59, Tryd.ntmps59
  go_wp2_with fail
  refine wp_loop_rounds 1 ?_
  rw [rounds_succ]
  go_wp2_with fail
  go_ret
  exact ⟨rfl, B0 _⟩
 ·have t0 : (r != 0) = true := by simp [h1]
  clear h1
  go_enter Tryd.func59, Tryd.ntmps59
  go_wp2_with fail
  refine wp_loop_rounds 2 ?_
  rw [rounds_succ]
  go_wp2_with fail
  rw [rounds_succ]
  go_wp2_with fail
  go_ret
  exact ⟨rfl, B0 _⟩
 ·go_enter Tryd.func59, Tryd.ntmps59
  go_wp2_with fail
  refine wp_loop_rounds 3 ?_
  rw [rounds_succ]
  go_wp2_with fail
  rw [rounds_succ]
  go_wp2_with fail
  rw [rounds_succ]
  go_wp2_with fail
  go_ret
  exact ⟨rfl, B0 _⟩
end
section
section
variable {w : World} {g : Nat} {F : Nat -> Prop} {t p s : Int} {L : List (Int × Int)} {R : Nat -> Int}
def nSize (t p s z : Int) : Int := if needB t p s z = true then 0 else 2
def nBlock (L : List (Int × Int)) (a : Int) : Int := if decide (0 <= mAt L a) = true then 0 else 4
def nName (R : Nat -> Int) (a : Int) : Int := if heldM R a = true then 6 else 0
def nRoot (i : Int) : Int := if 0 <= i /\ i < 8 then 0 else 5
def nClass (k : Int) : Int := if 0 <= k /\ k < 9 then 0 else 7
theorem needsSize_c (h : IsMod w g F t p s L R) (z : Int) (hz : -9223372036854775808 <= z /\ z <= 9223372036854775807) (hT : SlotsLaid w) : Calls Tryd.prog 58 #[.pointer (some ⟨g, 0, none⟩), .int .i64 z] w fun e w' => e = .returned (.int .i64 (nSize t p s z)) /\ Below w.heap.size w w' := by
 obtain ⟨m, D, hm, hX, hO, hD⟩ := h.ex
 obtain ⟨x0, x1, x2, x3⟩ := mod_cells hX
 obtain ⟨y, hy⟩ : ∃ y, rdI t p s z = y := ⟨_, rfl⟩
 obtain ⟨c, hc⟩ : ∃ c, needB t p s z = c := ⟨_, rfl⟩
 have HY : Hid (rdI t p s z = y /\ needB t p s z = c) := hidp ⟨hy, hc⟩
 have HSL := hidp hT
 unfold nSize
 rw [hc]
 clear h hX hO hD hm hy hc hT
 go_enter Tryd.func58, Tryd.ntmps58
 go_wp2_with fail
 refine (mdRound_c t p s z hz _ HSL.out).mono ?_; rintro e w1 ⟨rfl, hb⟩; rw [HY.out.1, HY.out.2]
 have HB := hidp hb
 clear hb x0 x1 x2 x3
 go_wp2_with fail
 refine (unless_c c 2 _).mono ?_; rintro e w2 ⟨rfl, hb⟩
 replace HB := hidp (Bgo HB.out hb)
 clear hb
 go_wp2_with fail
 all_goals (go_ret; exact ⟨rfl, HB.out⟩)
theorem needsBlock_c (h : IsMod w g F t p s L R) (a : Int) : Calls Tryd.prog 60 #[.pointer (some ⟨g, 0, none⟩), .int .i64 a] w fun e w' => e = .returned (.int .i64 (nBlock L a)) /\ Below w.heap.size w w' := by
 obtain ⟨x, hx⟩ : ∃ x, blkAt L a = x := ⟨_, rfl⟩
 obtain ⟨c, hc⟩ : ∃ c, decide (0 <= mAt L a) = c := ⟨_, rfl⟩
 have hA := mdAt_c h a
 rw [hx, hc] at hA
 obtain ⟨x1, x2⟩ := x
 have HA := hidp hA
 unfold nBlock
 rw [hc]
 clear h hx hc hA
 go_enter Tryd.func60, Tryd.ntmps60
 go_wp2_with fail
 refine HA.out.mono ?_; rintro e w1 ⟨rfl, hb⟩
 have HB := hidp hb
 clear hb
 go_wp2_with fail
 refine (unless_c c 4 _).mono ?_; rintro e w2 ⟨rfl, hb⟩
 replace HB := hidp (Bgo (Bnew HB.out _) hb)
 clear hb
 go_wp2_with fail
 all_goals (go_ret; exact ⟨rfl, HB.out⟩)
theorem rootsAt_c (h : IsMod w g F t p s L R) (a : Int) : Calls Tryd.prog 90 #[.slice (some ⟨g, 4, none⟩) 8 8, .int .i64 a] w fun e w' => ∃ i : Int, e = .returned (.int .i64 i) /\ decide (0 <= i) = heldM R a /\ Below w.heap.size w w' := by
 obtain ⟨m, D, hm, hX, hO, hD⟩ := h.ex
 have HC : Hid (∀ k, k < 8 -> w.cell? ⟨g, 4 + k, none⟩ = some (.int .i64 (R k))) := hidp (fun k hk => mod_root hX hk)
 clear h hX hO hD hm
 go_enter Tryd.func90, Tryd.ntmps90
 go_wp2_with fail
 go_loopw [8] (fun u wr => ∃ i : Nat, i <= 8 /\ u = .int .i64 (i : Int) /\ wr = w /\ Hid (∀ j, j < i -> R j ≠ a)) (fun u _ => 8 - (intOf u).toNat)
 case atStart => exact ⟨0, by omega, rfl, rfl, hidp (fun j hj => by omega)⟩
 case round =>
  obtain ⟨i, hi, rfl, rfl, HF⟩ := hrel
  by_cases hlt : i < 8
  ·have x1 := HC.out i hlt
   have t0 : decide ((i : Int) < 8) = true := decide_eq_true (by omega)
   obtain ⟨r, hr⟩ : ∃ r, R i = r := ⟨_, rfl⟩
   rw [hr] at x1
   have HRI := hidp hr
   clear hr
   by_cases h2 : a = r
   ·have q1 : (a == r) = true := by simpa using h2
    have HR : Hid (heldM R a = true) := hidp (heldM_yes hlt (by rw [HRI.out, h2]))
    clear h2
    go_wp2_with fail
    go_ret
    exact ⟨_, rfl, by rw [HR.out]; exact decide_eq_true (by omega), B0 _⟩
   ·have q1 : (a == r) = false := by simpa using h2
    have HF1 : Hid (∀ j, j < i + 1 -> R j ≠ a) := hidp (fun j hj => by
     by_cases e : j = i
     ·rw [e, HRI.out]; exact fun e2 => h2 e2.symm
     ·exact HF.out j (by omega))
    clear h2
    go_wp2_with fail
    go_roundw
    case rel => exact ⟨i + 1, by omega, by go_num, trivial, HF1⟩
    case measure => simp [intOf]; omega
  ·have t0 : decide ((i : Int) < 8) = false := decide_eq_false (by omega)
   have HR : Hid (heldM R a = false) := hidp (heldM_no (fun k hk => HF.out k (by omega)))
   go_wp2_with fail
   go_ret
   exact ⟨_, rfl, by rw [HR.out]; rfl, B0 _⟩
theorem rootsHas_c (h : IsMod w g F t p s L R) (a : Int) : Calls Tryd.prog 83 #[.slice (some ⟨g, 4, none⟩) 8 8, .int .i64 a] w fun e w' => e = .returned (.bool (heldM R a)) /\ Below w.heap.size w w' := by
 have HA := hidp (rootsAt_c h a)
 obtain ⟨c, hc⟩ : ∃ c, heldM R a = c := ⟨_, rfl⟩
 rw [hc] at HA ⊢
 clear h hc
 go_enter Tryd.func83, Tryd.ntmps83
 go_wp2_with fail
 refine HA.out.mono ?_; rintro e w1 ⟨i, rfl, hd, hb⟩
 go_wp2_with fail
 go_ret
 exact ⟨rfl, hb⟩
theorem needsNoName_c (h : IsMod w g F t p s L R) (a : Int) : Calls Tryd.prog 61 #[.pointer (some ⟨g, 0, none⟩), .int .i64 a] w fun e w' => e = .returned (.int .i64 (nName R a)) /\ Below w.heap.size w w' := by
 have HA := hidp (rootsHas_c h a)
 obtain ⟨c, hc⟩ : ∃ c, heldM R a = c := ⟨_, rfl⟩
 rw [hc] at HA
 unfold nName
 rw [hc]
 clear h hc
 go_enter Tryd.func61, Tryd.ntmps61
 go_wp2_with fail
 refine HA.out.mono ?_; rintro e w1 ⟨rfl, hb⟩
 have HB := hidp hb
 clear hb
 cases c
 ·go_wp2_with fail
  refine (unless_c true 6 _).mono ?_; rintro e w2 ⟨rfl, hb⟩
  replace HB := hidp (Bgo HB.out hb)
  clear hb
  go_wp2_with fail
  go_ret
  exact ⟨rfl, HB.out⟩
 ·go_wp2_with fail
  refine (unless_c false 6 _).mono ?_; rintro e w2 ⟨rfl, hb⟩
  replace HB := hidp (Bgo HB.out hb)
  clear hb
  go_wp2_with fail
  go_ret
  exact ⟨rfl, HB.out⟩
end
theorem needsRoot_c (i : Int) (w : World) : Calls Tryd.prog 62 #[.int .i64 i] w fun e w' => e = .returned (.int .i64 (nRoot i)) /\ Below w.heap.size w w' := by
 unfold nRoot
 by_cases h1 : 0 <= i
 ·have t0 : decide (0 <= i) = true := decide_eq_true h1
  by_cases h2 : i < 8
  ·have t1 : decide (i < 8) = true := decide_eq_true h2
   rw [if_pos ⟨h1, h2⟩]
   clear h1 h2
   go_enter Tryd.func62, Tryd.ntmps62
   go_wp2_with fail
   refine (unless_c true 5 _).mono ?_; rintro e w2 ⟨rfl, hb⟩
   go_wp2_with fail
   go_ret
   exact ⟨rfl, hb⟩
  ·have t1 : decide (i < 8) = false := decide_eq_false h2
   rw [if_neg (fun h => h2 h.2)]
   clear h1 h2
   go_enter Tryd.func62, Tryd.ntmps62
   go_wp2_with fail
   refine (unless_c false 5 _).mono ?_; rintro e w2 ⟨rfl, hb⟩
   go_wp2_with fail
   go_ret
   exact ⟨rfl, hb⟩
 ·have t0 : decide (0 <= i) = false := decide_eq_false h1
  rw [if_neg (fun h => h1 h.1)]
  clear h1
  go_enter Tryd.func62, Tryd.ntmps62
  go_wp2_with fail
  refine (unless_c false 5 _).mono ?_; rintro e w2 ⟨rfl, hb⟩
  go_wp2_with fail
  go_ret
  exact ⟨rfl, hb⟩
theorem needsClass_c (i : Int) (w : World) : Calls Tryd.prog 63 #[.int .i64 i] w fun e w' => e = .returned (.int .i64 (nClass i)) /\ Below w.heap.size w w' := by
 unfold nClass
 by_cases h1 : 0 <= i
 ·have t0 : decide (0 <= i) = true := decide_eq_true h1
  by_cases h2 : i < 9
  ·have t1 : decide (i < 9) = true := decide_eq_true h2
   rw [if_pos ⟨h1, h2⟩]
   clear h1 h2
   go_enter Tryd.func63, Tryd.ntmps63
   go_wp2_with fail
   refine (unless_c true 7 _).mono ?_; rintro e w2 ⟨rfl, hb⟩
   go_wp2_with fail
   go_ret
   exact ⟨rfl, hb⟩
  ·have t1 : decide (i < 9) = false := decide_eq_false h2
   rw [if_neg (fun h => h2 h.2)]
   clear h1 h2
   go_enter Tryd.func63, Tryd.ntmps63
   go_wp2_with fail
   refine (unless_c false 7 _).mono ?_; rintro e w2 ⟨rfl, hb⟩
   go_wp2_with fail
   go_ret
   exact ⟨rfl, hb⟩
 ·have t0 : decide (0 <= i) = false := decide_eq_false h1
  rw [if_neg (fun h => h1 h.1)]
  clear h1
  go_enter Tryd.func63, Tryd.ntmps63
  go_wp2_with fail
  refine (unless_c false 7 _).mono ?_; rintro e w2 ⟨rfl, hb⟩
  go_wp2_with fail
  go_ret
  exact ⟨rfl, hb⟩
def takesB (k : Int) : Bool := decide (k = 1 \/ k = 3 \/ k = 4)
theorem takes_c (k a b : Int) (w : World) : Calls Tryd.prog 28 #[.agg #[.int .i64 k, .int .i64 a, .int .i64 b]] w fun e w' => e = .returned (.bool (takesB k)) /\ Below w.heap.size w w' := by
 obtain ⟨c, hc⟩ : ∃ c, takesB k = c := ⟨_, rfl⟩
 rw [hc]
 have hk : (k = 1 /\ c = true) \/ (k ≠ 1 /\ k = 3 /\ c = true) \/ (k ≠ 1 /\ k ≠ 3 /\ k = 4 /\ c = true) \/ (k ≠ 1 /\ k ≠ 3 /\ k ≠ 4 /\ c = false) := by
  rw [<- hc]; unfold takesB
  by_cases h1 : k = 1
  ·simp [h1]
  ·by_cases h3 : k = 3
   ·simp [h3]
   ·by_cases h4 : k = 4 <;> simp [h1, h3, h4]
 clear hc
 have HX := hidp (Held.new w 29 #[.int .i64 k, .int .i64 a, .int .i64 b])
 obtain ⟨x0, x1, x2⟩ := HX.out.three
 rcases hk with ⟨h1, rfl⟩ | ⟨h1, h2, rfl⟩ | ⟨h1, h2, h3, rfl⟩ | ⟨h1, h2, h3, rfl⟩
 ·have t1 : (k == 1) = true := by simp [h1]
  clear h1
  go_enter Tryd.func28, Tryd.ntmps28
  go_wp2_with fail
  go_ret
  exact ⟨rfl, by repeat (first | exact B0 _ | (with_reducible refine Bdrew ?_) | (with_reducible refine Bdraw ?_ _) | (with_reducible refine Bnew ?_ _))⟩
 ·have t1 : (k == 1) = false := by simp [h1]
  have t2 : (k == 3) = true := by simp [h2]
  clear h1 h2
  go_enter Tryd.func28, Tryd.ntmps28
  go_wp2_with fail
  go_ret
  exact ⟨rfl, by repeat (first | exact B0 _ | (with_reducible refine Bdrew ?_) | (with_reducible refine Bdraw ?_ _) | (with_reducible refine Bnew ?_ _))⟩
 ·have t1 : (k == 1) = false := by simp [h1]
  have t2 : (k == 3) = false := by simp [h2]
  have t3 : (k == 4) = true := by simp [h3]
  clear h1 h2 h3
  go_enter Tryd.func28, Tryd.ntmps28
  go_wp2_with fail
  go_ret
  exact ⟨rfl, by repeat (first | exact B0 _ | (with_reducible refine Bdrew ?_) | (with_reducible refine Bdraw ?_ _) | (with_reducible refine Bnew ?_ _))⟩
 ·have t1 : (k == 1) = false := by simp [h1]
  have t2 : (k == 3) = false := by simp [h2]
  have t3 : (k == 4) = false := by simp [h3]
  clear h1 h2 h3
  go_enter Tryd.func28, Tryd.ntmps28
  go_wp2_with fail
  go_ret
  exact ⟨rfl, by repeat (first | exact B0 _ | (with_reducible refine Bdrew ?_) | (with_reducible refine Bdraw ?_ _) | (with_reducible refine Bnew ?_ _))⟩
end
section
set_option maxHeartbeats 1600000 in
theorem opRight_b (k a b : Int) (c : Bool) (hcase : ((k = 3 \/ k = 4 \/ k = 5) /\ c = true) \/ ((k = 1 \/ k = 2 \/ k = 6 \/ k = 7 \/ k = 9) /\ b ≠ 0 /\ c = false) \/ ((k = 1 \/ k = 2 \/ k = 6 \/ k = 7 \/ k = 9) /\ b = 0 /\ c = true) \/ (k = 8 /\ a ≠ 0 /\ c = false) \/ (k = 8 /\ a = 0 /\ b ≠ 0 /\ c = false) \/ (k = 8 /\ a = 0 /\ b = 0 /\ c = true) \/ ((k < 1 \/ 9 < k) /\ c = false)) (w : World) :
  Calls Tryd.prog 57 #[.agg #[.int .i64 k, .int .i64 a, .int .i64 b]] w fun e w' => e = .returned (.bool c) /\ Below w.heap.size w w' := by
 rcases hcase with ⟨rfl | rfl | rfl, rfl⟩ | ⟨rfl | rfl | rfl | rfl | rfl, h1, rfl⟩ | ⟨rfl | rfl | rfl | rfl | rfl, rfl, rfl⟩ | ⟨rfl, h1, rfl⟩ | ⟨rfl, rfl, h1, rfl⟩ | ⟨rfl, rfl, rfl, rfl⟩ | ⟨h, rfl⟩
 case inr.inr.inr.inr.inr.inr =>
  have q1 : (k == 1) = false := by simp; omega
  have q2 : (k == 2) = false := by simp; omega
  have q3 : (k == 3) = false := by simp; omega
  have q4 : (k == 4) = false := by simp; omega
  have q5 : (k == 5) = false := by simp; omega
  have q6 : (k == 6) = false := by simp; omega
  have q7 : (k == 7) = false := by simp; omega
  have q8 : (k == 8) = false := by simp; omega
  have q9 : (k == 9) = false := by simp; omega
  clear h
  go_enter Tryd.func57, Tryd.ntmps57
  go_wp2
  go_ret
  refine ⟨rfl, ?_⟩
  all_goals exact blz
 all_goals
  go_enter Tryd.func57, Tryd.ntmps57
  go_wp2
  go_ret
  refine ⟨by first | rfl | (refine ret_bool ?_; simp; done) | (refine ret_bool ?_; simp; omega), ?_⟩
  all_goals exact blz

theorem opRight_c (k a b : Int) (hk : -9223372036854775808 <= k /\ k <= 9223372036854775807) (ha : -9223372036854775808 <= a /\ a <= 9223372036854775807) (hb : -9223372036854775808 <= b /\ b <= 9223372036854775807) (w : World) :
  Calls Tryd.prog 57 #[.agg #[.int .i64 k, .int .i64 a, .int .i64 b]] w fun e w' => e = .returned (.bool (opB k a b)) /\ Below w.heap.size w w' := by
 refine opRight_b k a b _ ?_ w
 cases hc : opB k a b with
 | true =>
  have h := of_decide_eq_true hc
  rcases uses_cases k with ⟨_, e⟩ | ⟨_, e⟩ | ⟨_, e⟩ | ⟨_, e⟩ <;> rw [e] at h <;> simp only [and_true, reduceCtorEq, and_false, or_false, false_or] <;> omega
 | false =>
  have h := of_decide_eq_false hc
  rcases uses_cases k with ⟨_, e⟩ | ⟨_, e⟩ | ⟨_, e⟩ | ⟨_, e⟩ <;> rw [e] at h <;> simp only [and_true, reduceCtorEq, and_false, or_false, false_or] <;> omega
end
section
def refI (t p s : Int) (L : List (Int × Int)) (R : Nat -> Int) (k a b : Int) : Int :=
 if opB k a b = false then 1
 else if k = 1 then nSize t p s a
 else if k = 2 then orI (nBlock L a) (nName R a)
 else if k = 3 then orI (nBlock L a) (nSize t p s b)
 else if k = 4 then orI (nRoot a) (nSize t p s b)
 else if k = 5 then (if b = 0 then nRoot a else orI (nRoot a) (nBlock L b))
 else if k = 6 then nRoot a
 else if k = 7 then nBlock L a
 else if k = 9 then nClass a
 else 0
section
variable {w : World} {g : Nat} {F : Nat -> Prop} {t p s : Int} {L : List (Int × Int)} {R : Nat -> Int}

set_option maxHeartbeats 1600000 in
theorem ref_bad (h : IsMod w g F t p s L R) (k a b : Int) (hk : -9223372036854775808 <= k /\ k <= 9223372036854775807) (ha : -9223372036854775808 <= a /\ a <= 9223372036854775807) (hb : -9223372036854775808 <= b /\ b <= 9223372036854775807) (hT : SlotsLaid w) (ho : opB k a b = false) : Calls Tryd.prog 27 #[.pointer (some ⟨g, 0, none⟩), .agg #[.int .i64 k, .int .i64 a, .int .i64 b]] w fun e w' => e = .returned (.int .i64 1) /\ Below w.heap.size w w' := by
 have HX := hidp (Held.new w 29 #[.int .i64 k, .int .i64 a, .int .i64 b])
 have HB := hidp (Bnew (B0 w) (.cells #[.int .i64 k, .int .i64 a, .int .i64 b] 29))
 have HM := hidp (h.stay HB.out)
 have HSL := hidp hT
 have HO := hidp ho
 clear ho
 clear h hT
 obtain ⟨x0, x1, x2⟩ := HX.out.three
 go_enter Tryd.func27, Tryd.ntmps27
 go_wp2_with fail
 refine (opRight_c k a b hk ha hb _).mono ?_; rintro e w1 ⟨rfl, hb⟩; rw [HO.out]
 clear x0 x1 x2
 replace HX := hidp (HX.out.keep hb)
 replace HM := hidp (HM.out.stay hb)
 replace HB := hidp (Bgo HB.out hb)
 clear hb
 obtain ⟨x0, x1, x2⟩ := HX.out.three
 go_wp2_with fail
 go_ret
 exact ⟨rfl, HB.out⟩

set_option maxHeartbeats 1600000 in
theorem ref_1 (h : IsMod w g F t p s L R) (a b : Int) (ha : -9223372036854775808 <= a /\ a <= 9223372036854775807) (hb : -9223372036854775808 <= b /\ b <= 9223372036854775807) (hT : SlotsLaid w) (ho : opB 1 a b = true) (v : Int) (hv : nSize t p s a = v) : Calls Tryd.prog 27 #[.pointer (some ⟨g, 0, none⟩), .agg #[.int .i64 1, .int .i64 a, .int .i64 b]] w fun e w' => e = .returned (.int .i64 v) /\ Below w.heap.size w w' := by
 have HX := hidp (Held.new w 29 #[.int .i64 1, .int .i64 a, .int .i64 b])
 have HB := hidp (Bnew (B0 w) (.cells #[.int .i64 1, .int .i64 a, .int .i64 b] 29))
 have HM := hidp (h.stay HB.out)
 have HSL := hidp hT
 have HO := hidp ho
 clear ho
 have HV := hidp hv
 clear hv
 have hb0 := hb
 clear hb
 clear h hT
 obtain ⟨x0, x1, x2⟩ := HX.out.three
 go_enter Tryd.func27, Tryd.ntmps27
 go_wp2_with fail
 refine (opRight_c 1 a b ⟨by omega, by omega⟩ ha hb0 _).mono ?_; rintro e w1 ⟨rfl, hb⟩; rw [HO.out]
 clear x0 x1 x2
 replace HX := hidp (HX.out.keep hb)
 replace HM := hidp (HM.out.stay hb)
 replace HB := hidp (Bgo HB.out hb)
 clear hb
 obtain ⟨x0, x1, x2⟩ := HX.out.three
 go_wp2_with fail
 refine (needsSize_c HM.out a ha (HSL.out.below HB.out)).mono ?_; rintro e w1 ⟨rfl, hb⟩; rw [HV.out]
 clear x0 x1 x2
 replace HX := hidp (HX.out.keep hb)
 replace HM := hidp (HM.out.stay hb)
 replace HB := hidp (Bgo HB.out hb)
 clear hb
 obtain ⟨x0, x1, x2⟩ := HX.out.three
 go_wp2_with fail
 go_ret
 exact ⟨rfl, HB.out⟩

set_option maxHeartbeats 1600000 in
theorem ref_6 (h : IsMod w g F t p s L R) (a b : Int) (ha : -9223372036854775808 <= a /\ a <= 9223372036854775807) (hb : -9223372036854775808 <= b /\ b <= 9223372036854775807) (hT : SlotsLaid w) (ho : opB 6 a b = true) (v : Int) (hv : nRoot a = v) : Calls Tryd.prog 27 #[.pointer (some ⟨g, 0, none⟩), .agg #[.int .i64 6, .int .i64 a, .int .i64 b]] w fun e w' => e = .returned (.int .i64 v) /\ Below w.heap.size w w' := by
 have HX := hidp (Held.new w 29 #[.int .i64 6, .int .i64 a, .int .i64 b])
 have HB := hidp (Bnew (B0 w) (.cells #[.int .i64 6, .int .i64 a, .int .i64 b] 29))
 have HM := hidp (h.stay HB.out)
 have HSL := hidp hT
 have HO := hidp ho
 clear ho
 have HV := hidp hv
 clear hv
 have hb0 := hb
 clear hb
 clear h hT
 obtain ⟨x0, x1, x2⟩ := HX.out.three
 go_enter Tryd.func27, Tryd.ntmps27
 go_wp2_with fail
 refine (opRight_c 6 a b ⟨by omega, by omega⟩ ha hb0 _).mono ?_; rintro e w1 ⟨rfl, hb⟩; rw [HO.out]
 clear x0 x1 x2
 replace HX := hidp (HX.out.keep hb)
 replace HM := hidp (HM.out.stay hb)
 replace HB := hidp (Bgo HB.out hb)
 clear hb
 obtain ⟨x0, x1, x2⟩ := HX.out.three
 go_wp2_with fail
 refine (needsRoot_c a _).mono ?_; rintro e w1 ⟨rfl, hb⟩; rw [HV.out]
 clear x0 x1 x2
 replace HX := hidp (HX.out.keep hb)
 replace HM := hidp (HM.out.stay hb)
 replace HB := hidp (Bgo HB.out hb)
 clear hb
 obtain ⟨x0, x1, x2⟩ := HX.out.three
 go_wp2_with fail
 go_ret
 exact ⟨rfl, HB.out⟩

set_option maxHeartbeats 1600000 in
theorem ref_7 (h : IsMod w g F t p s L R) (a b : Int) (ha : -9223372036854775808 <= a /\ a <= 9223372036854775807) (hb : -9223372036854775808 <= b /\ b <= 9223372036854775807) (hT : SlotsLaid w) (ho : opB 7 a b = true) (v : Int) (hv : nBlock L a = v) : Calls Tryd.prog 27 #[.pointer (some ⟨g, 0, none⟩), .agg #[.int .i64 7, .int .i64 a, .int .i64 b]] w fun e w' => e = .returned (.int .i64 v) /\ Below w.heap.size w w' := by
 have HX := hidp (Held.new w 29 #[.int .i64 7, .int .i64 a, .int .i64 b])
 have HB := hidp (Bnew (B0 w) (.cells #[.int .i64 7, .int .i64 a, .int .i64 b] 29))
 have HM := hidp (h.stay HB.out)
 have HSL := hidp hT
 have HO := hidp ho
 clear ho
 have HV := hidp hv
 clear hv
 have hb0 := hb
 clear hb
 clear h hT
 obtain ⟨x0, x1, x2⟩ := HX.out.three
 go_enter Tryd.func27, Tryd.ntmps27
 go_wp2_with fail
 refine (opRight_c 7 a b ⟨by omega, by omega⟩ ha hb0 _).mono ?_; rintro e w1 ⟨rfl, hb⟩; rw [HO.out]
 clear x0 x1 x2
 replace HX := hidp (HX.out.keep hb)
 replace HM := hidp (HM.out.stay hb)
 replace HB := hidp (Bgo HB.out hb)
 clear hb
 obtain ⟨x0, x1, x2⟩ := HX.out.three
 go_wp2_with fail
 refine (needsBlock_c HM.out a).mono ?_; rintro e w1 ⟨rfl, hb⟩; rw [HV.out]
 clear x0 x1 x2
 replace HX := hidp (HX.out.keep hb)
 replace HM := hidp (HM.out.stay hb)
 replace HB := hidp (Bgo HB.out hb)
 clear hb
 obtain ⟨x0, x1, x2⟩ := HX.out.three
 go_wp2_with fail
 go_ret
 exact ⟨rfl, HB.out⟩

set_option maxHeartbeats 1600000 in
theorem ref_9 (h : IsMod w g F t p s L R) (a b : Int) (ha : -9223372036854775808 <= a /\ a <= 9223372036854775807) (hb : -9223372036854775808 <= b /\ b <= 9223372036854775807) (hT : SlotsLaid w) (ho : opB 9 a b = true) (v : Int) (hv : nClass a = v) : Calls Tryd.prog 27 #[.pointer (some ⟨g, 0, none⟩), .agg #[.int .i64 9, .int .i64 a, .int .i64 b]] w fun e w' => e = .returned (.int .i64 v) /\ Below w.heap.size w w' := by
 have HX := hidp (Held.new w 29 #[.int .i64 9, .int .i64 a, .int .i64 b])
 have HB := hidp (Bnew (B0 w) (.cells #[.int .i64 9, .int .i64 a, .int .i64 b] 29))
 have HM := hidp (h.stay HB.out)
 have HSL := hidp hT
 have HO := hidp ho
 clear ho
 have HV := hidp hv
 clear hv
 have hb0 := hb
 clear hb
 clear h hT
 obtain ⟨x0, x1, x2⟩ := HX.out.three
 go_enter Tryd.func27, Tryd.ntmps27
 go_wp2_with fail
 refine (opRight_c 9 a b ⟨by omega, by omega⟩ ha hb0 _).mono ?_; rintro e w1 ⟨rfl, hb⟩; rw [HO.out]
 clear x0 x1 x2
 replace HX := hidp (HX.out.keep hb)
 replace HM := hidp (HM.out.stay hb)
 replace HB := hidp (Bgo HB.out hb)
 clear hb
 obtain ⟨x0, x1, x2⟩ := HX.out.three
 go_wp2_with fail
 refine (needsClass_c a _).mono ?_; rintro e w1 ⟨rfl, hb⟩; rw [HV.out]
 clear x0 x1 x2
 replace HX := hidp (HX.out.keep hb)
 replace HM := hidp (HM.out.stay hb)
 replace HB := hidp (Bgo HB.out hb)
 clear hb
 obtain ⟨x0, x1, x2⟩ := HX.out.three
 go_wp2_with fail
 go_ret
 exact ⟨rfl, HB.out⟩

set_option maxHeartbeats 1600000 in
theorem ref_8 (h : IsMod w g F t p s L R) (a b : Int) (ha : -9223372036854775808 <= a /\ a <= 9223372036854775807) (hb : -9223372036854775808 <= b /\ b <= 9223372036854775807) (hT : SlotsLaid w) (ho : opB 8 a b = true)  : Calls Tryd.prog 27 #[.pointer (some ⟨g, 0, none⟩), .agg #[.int .i64 8, .int .i64 a, .int .i64 b]] w fun e w' => e = .returned (.int .i64 0) /\ Below w.heap.size w w' := by
 have HX := hidp (Held.new w 29 #[.int .i64 8, .int .i64 a, .int .i64 b])
 have HB := hidp (Bnew (B0 w) (.cells #[.int .i64 8, .int .i64 a, .int .i64 b] 29))
 have HM := hidp (h.stay HB.out)
 have HSL := hidp hT
 have HO := hidp ho
 clear ho
 have hb0 := hb
 clear hb
 clear h hT
 obtain ⟨x0, x1, x2⟩ := HX.out.three
 go_enter Tryd.func27, Tryd.ntmps27
 go_wp2_with fail
 refine (opRight_c 8 a b ⟨by omega, by omega⟩ ha hb0 _).mono ?_; rintro e w1 ⟨rfl, hb⟩; rw [HO.out]
 clear x0 x1 x2
 replace HX := hidp (HX.out.keep hb)
 replace HM := hidp (HM.out.stay hb)
 replace HB := hidp (Bgo HB.out hb)
 clear hb
 obtain ⟨x0, x1, x2⟩ := HX.out.three
 go_wp2_with fail
 go_ret
 exact ⟨rfl, HB.out⟩

set_option maxHeartbeats 1600000 in
theorem ref_2 (h : IsMod w g F t p s L R) (a b : Int) (ha : -9223372036854775808 <= a /\ a <= 9223372036854775807) (hb : -9223372036854775808 <= b /\ b <= 9223372036854775807) (hT : SlotsLaid w) (ho : opB 2 a b = true) (u v x : Int) (hv : nBlock L a = u /\ nName R a = v /\ orI u v = x) : Calls Tryd.prog 27 #[.pointer (some ⟨g, 0, none⟩), .agg #[.int .i64 2, .int .i64 a, .int .i64 b]] w fun e w' => e = .returned (.int .i64 x) /\ Below w.heap.size w w' := by
 have HX := hidp (Held.new w 29 #[.int .i64 2, .int .i64 a, .int .i64 b])
 have HB := hidp (Bnew (B0 w) (.cells #[.int .i64 2, .int .i64 a, .int .i64 b] 29))
 have HM := hidp (h.stay HB.out)
 have HSL := hidp hT
 have HO := hidp ho
 clear ho
 have HV := hidp hv
 clear hv
 have hb0 := hb
 clear hb
 clear h hT
 obtain ⟨x0, x1, x2⟩ := HX.out.three
 go_enter Tryd.func27, Tryd.ntmps27
 go_wp2_with fail
 refine (opRight_c 2 a b ⟨by omega, by omega⟩ ha hb0 _).mono ?_; rintro e w1 ⟨rfl, hb⟩; rw [HO.out]
 clear x0 x1 x2
 replace HX := hidp (HX.out.keep hb)
 replace HM := hidp (HM.out.stay hb)
 replace HB := hidp (Bgo HB.out hb)
 clear hb
 obtain ⟨x0, x1, x2⟩ := HX.out.three
 go_wp2_with fail
 clear x0 x1 x2
 replace HX := hidp (HX.out.keep (Bdrew (B0 _)))
 replace HM := hidp (HM.out.stay (Bdrew (B0 _)))
 replace HB := hidp (Bgo HB.out (Bdrew (B0 _)))
 refine wp_region_held_drew (S := (fun w' => w'.cell? ⟨w.heap.size, 0, none⟩ = some (.int .i64 2) /\ w'.cell? ⟨w.heap.size, 1, none⟩ = some (.int .i64 a) /\ w'.cell? ⟨w.heap.size, 2, none⟩ = some (.int .i64 b))) (by kernel_rfl) ?_ (fun hHeld => ?_)
 ·(try dsimp only)
  first | exact HX.out.three | exact hHeld
 refine tkz 0 ?_
 refine tkz 1 ?_
 refine tkz 2 ?_
 refine tkz 4 ?_
 refine tkz 5 ?_
 refine tkz 6 ?_
 refine rdz 3 fun K hK => ?_
 go_simp
 (refine (needsBlock_c HM.out a).mono ?_; rintro e w1 ⟨rfl, hb⟩; rw [HV.out.1]; replace HX := hidp (HX.out.keep hb); replace HM := hidp (HM.out.stay hb); replace HB := hidp (Bgo HB.out hb); clear hb)
 refine hK.out _ _ ?_ (fun hHeld => ?_)
 ·(try dsimp only)
  first | exact HX.out.three | exact hHeld
 clear hK K
 (try simp only [Act.put, gA, gB, gC, sA, sB, sC])
 refine rdz 7 fun K hK => ?_
 go_simp
 (refine (needsNoName_c HM.out a).mono ?_; rintro e w2 ⟨rfl, hb⟩; rw [HV.out.2.1]; replace HX := hidp (HX.out.keep hb); replace HM := hidp (HM.out.stay hb); replace HB := hidp (Bgo HB.out hb); clear hb)
 refine hK.out _ _ ?_ (fun hHeld => ?_)
 ·(try dsimp only)
  first | exact HX.out.three | exact hHeld
 clear hK K
 (try simp only [Act.put, gA, gB, gC, sA, sB, sC])
 refine rdz 8 fun K hK => ?_
 go_simp
 (have HQ := hidp (Held.new w2 30 #[.int .i64 u, .int .i64 v]); replace HX := hidp (HX.out.alloc (.cells #[.int .i64 u, .int .i64 v] 30)); replace HM := hidp (HM.out.stay (Bnew (B0 w2) (.cells #[.int .i64 u, .int .i64 v] 30))); replace HB := hidp (Bnew HB.out (.cells #[.int .i64 u, .int .i64 v] 30)))
 refine hK.out _ _ ?_ (fun hHeld => ?_)
 ·(try dsimp only)
  first | exact HX.out.three | exact hHeld
 clear hK K
 (try simp only [Act.put, gA, gB, gC, sA, sB, sC])
 refine rdz 9 fun K hK => ?_
 go_simp
 (refine (cmpOr_c _ u v _ HQ.out).mono ?_; rintro e w3 ⟨rfl, hb⟩; rw [HV.out.2.2]; replace HX := hidp (HX.out.keep hb); replace HM := hidp (HM.out.stay hb); replace HB := hidp (Bgo HB.out hb); clear hb)
 refine hK.out _ _ ?_ (fun hHeld => ?_)
 ·(try dsimp only)
  first | exact HX.out.three | exact hHeld
 clear hK K
 (try simp only [Act.put, gA, gB, gC, sA, sB, sC])
 refine tkz 10 ?_
 refine dnz ?_
 obtain ⟨x0, x1, x2⟩ := HX.out.three
 go_wp2_with fail
 go_ret
 exact ⟨rfl, HB.out⟩

set_option maxHeartbeats 1600000 in
theorem ref_3 (h : IsMod w g F t p s L R) (a b : Int) (ha : -9223372036854775808 <= a /\ a <= 9223372036854775807) (hb : -9223372036854775808 <= b /\ b <= 9223372036854775807) (hT : SlotsLaid w) (ho : opB 3 a b = true) (u v x : Int) (hv : nBlock L a = u /\ nSize t p s b = v /\ orI u v = x) : Calls Tryd.prog 27 #[.pointer (some ⟨g, 0, none⟩), .agg #[.int .i64 3, .int .i64 a, .int .i64 b]] w fun e w' => e = .returned (.int .i64 x) /\ Below w.heap.size w w' := by
 have HX := hidp (Held.new w 29 #[.int .i64 3, .int .i64 a, .int .i64 b])
 have HB := hidp (Bnew (B0 w) (.cells #[.int .i64 3, .int .i64 a, .int .i64 b] 29))
 have HM := hidp (h.stay HB.out)
 have HSL := hidp hT
 have HO := hidp ho
 clear ho
 have HV := hidp hv
 clear hv
 have hb0 := hb
 clear hb
 clear h hT
 obtain ⟨x0, x1, x2⟩ := HX.out.three
 go_enter Tryd.func27, Tryd.ntmps27
 go_wp2_with fail
 refine (opRight_c 3 a b ⟨by omega, by omega⟩ ha hb0 _).mono ?_; rintro e w1 ⟨rfl, hb⟩; rw [HO.out]
 clear x0 x1 x2
 replace HX := hidp (HX.out.keep hb)
 replace HM := hidp (HM.out.stay hb)
 replace HB := hidp (Bgo HB.out hb)
 clear hb
 obtain ⟨x0, x1, x2⟩ := HX.out.three
 go_wp2_with fail
 clear x0 x1 x2
 replace HX := hidp (HX.out.keep (Bdrew (B0 _)))
 replace HM := hidp (HM.out.stay (Bdrew (B0 _)))
 replace HB := hidp (Bgo HB.out (Bdrew (B0 _)))
 refine wp_region_held_drew (S := (fun w' => w'.cell? ⟨w.heap.size, 0, none⟩ = some (.int .i64 3) /\ w'.cell? ⟨w.heap.size, 1, none⟩ = some (.int .i64 a) /\ w'.cell? ⟨w.heap.size, 2, none⟩ = some (.int .i64 b))) (by kernel_rfl) ?_ (fun hHeld => ?_)
 ·(try dsimp only)
  first | exact HX.out.three | exact hHeld
 refine tkz 0 ?_
 refine tkz 1 ?_
 refine tkz 2 ?_
 refine tkz 4 ?_
 refine tkz 5 ?_
 refine tkz 6 ?_
 refine rdz 3 fun K hK => ?_
 go_simp
 (refine (needsBlock_c HM.out a).mono ?_; rintro e w1 ⟨rfl, hb⟩; rw [HV.out.1]; replace HX := hidp (HX.out.keep hb); replace HM := hidp (HM.out.stay hb); replace HB := hidp (Bgo HB.out hb); clear hb)
 refine hK.out _ _ ?_ (fun hHeld => ?_)
 ·(try dsimp only)
  first | exact HX.out.three | exact hHeld
 clear hK K
 (try simp only [Act.put, gA, gB, gC, sA, sB, sC])
 refine rdz 7 fun K hK => ?_
 go_simp
 (refine (needsSize_c HM.out b hb0 (HSL.out.below HB.out)).mono ?_; rintro e w2 ⟨rfl, hb⟩; rw [HV.out.2.1]; replace HX := hidp (HX.out.keep hb); replace HM := hidp (HM.out.stay hb); replace HB := hidp (Bgo HB.out hb); clear hb)
 refine hK.out _ _ ?_ (fun hHeld => ?_)
 ·(try dsimp only)
  first | exact HX.out.three | exact hHeld
 clear hK K
 (try simp only [Act.put, gA, gB, gC, sA, sB, sC])
 refine rdz 8 fun K hK => ?_
 go_simp
 (have HQ := hidp (Held.new w2 30 #[.int .i64 u, .int .i64 v]); replace HX := hidp (HX.out.alloc (.cells #[.int .i64 u, .int .i64 v] 30)); replace HM := hidp (HM.out.stay (Bnew (B0 w2) (.cells #[.int .i64 u, .int .i64 v] 30))); replace HB := hidp (Bnew HB.out (.cells #[.int .i64 u, .int .i64 v] 30)))
 refine hK.out _ _ ?_ (fun hHeld => ?_)
 ·(try dsimp only)
  first | exact HX.out.three | exact hHeld
 clear hK K
 (try simp only [Act.put, gA, gB, gC, sA, sB, sC])
 refine rdz 9 fun K hK => ?_
 go_simp
 (refine (cmpOr_c _ u v _ HQ.out).mono ?_; rintro e w3 ⟨rfl, hb⟩; rw [HV.out.2.2]; replace HX := hidp (HX.out.keep hb); replace HM := hidp (HM.out.stay hb); replace HB := hidp (Bgo HB.out hb); clear hb)
 refine hK.out _ _ ?_ (fun hHeld => ?_)
 ·(try dsimp only)
  first | exact HX.out.three | exact hHeld
 clear hK K
 (try simp only [Act.put, gA, gB, gC, sA, sB, sC])
 refine tkz 10 ?_
 refine dnz ?_
 obtain ⟨x0, x1, x2⟩ := HX.out.three
 go_wp2_with fail
 go_ret
 exact ⟨rfl, HB.out⟩

set_option maxHeartbeats 1600000 in
theorem ref_4 (h : IsMod w g F t p s L R) (a b : Int) (ha : -9223372036854775808 <= a /\ a <= 9223372036854775807) (hb : -9223372036854775808 <= b /\ b <= 9223372036854775807) (hT : SlotsLaid w) (ho : opB 4 a b = true) (u v x : Int) (hv : nRoot a = u /\ nSize t p s b = v /\ orI u v = x) : Calls Tryd.prog 27 #[.pointer (some ⟨g, 0, none⟩), .agg #[.int .i64 4, .int .i64 a, .int .i64 b]] w fun e w' => e = .returned (.int .i64 x) /\ Below w.heap.size w w' := by
 have HX := hidp (Held.new w 29 #[.int .i64 4, .int .i64 a, .int .i64 b])
 have HB := hidp (Bnew (B0 w) (.cells #[.int .i64 4, .int .i64 a, .int .i64 b] 29))
 have HM := hidp (h.stay HB.out)
 have HSL := hidp hT
 have HO := hidp ho
 clear ho
 have HV := hidp hv
 clear hv
 have hb0 := hb
 clear hb
 clear h hT
 obtain ⟨x0, x1, x2⟩ := HX.out.three
 go_enter Tryd.func27, Tryd.ntmps27
 go_wp2_with fail
 refine (opRight_c 4 a b ⟨by omega, by omega⟩ ha hb0 _).mono ?_; rintro e w1 ⟨rfl, hb⟩; rw [HO.out]
 clear x0 x1 x2
 replace HX := hidp (HX.out.keep hb)
 replace HM := hidp (HM.out.stay hb)
 replace HB := hidp (Bgo HB.out hb)
 clear hb
 obtain ⟨x0, x1, x2⟩ := HX.out.three
 go_wp2_with fail
 clear x0 x1 x2
 replace HX := hidp (HX.out.keep (Bdrew (B0 _)))
 replace HM := hidp (HM.out.stay (Bdrew (B0 _)))
 replace HB := hidp (Bgo HB.out (Bdrew (B0 _)))
 refine wp_region_held_drew (S := (fun w' => w'.cell? ⟨w.heap.size, 0, none⟩ = some (.int .i64 4) /\ w'.cell? ⟨w.heap.size, 1, none⟩ = some (.int .i64 a) /\ w'.cell? ⟨w.heap.size, 2, none⟩ = some (.int .i64 b))) (by kernel_rfl) ?_ (fun hHeld => ?_)
 ·(try dsimp only)
  first | exact HX.out.three | exact hHeld
 refine tkz 0 ?_
 refine tkz 1 ?_
 refine tkz 3 ?_
 refine tkz 4 ?_
 refine tkz 5 ?_
 refine rdz 2 fun K hK => ?_
 go_simp
 (refine (needsRoot_c a _).mono ?_; rintro e w1 ⟨rfl, hb⟩; rw [HV.out.1]; replace HX := hidp (HX.out.keep hb); replace HM := hidp (HM.out.stay hb); replace HB := hidp (Bgo HB.out hb); clear hb)
 refine hK.out _ _ ?_ (fun hHeld => ?_)
 ·(try dsimp only)
  first | exact HX.out.three | exact hHeld
 clear hK K
 (try simp only [Act.put, gA, gB, gC, sA, sB, sC])
 refine rdz 6 fun K hK => ?_
 go_simp
 (refine (needsSize_c HM.out b hb0 (HSL.out.below HB.out)).mono ?_; rintro e w2 ⟨rfl, hb⟩; rw [HV.out.2.1]; replace HX := hidp (HX.out.keep hb); replace HM := hidp (HM.out.stay hb); replace HB := hidp (Bgo HB.out hb); clear hb)
 refine hK.out _ _ ?_ (fun hHeld => ?_)
 ·(try dsimp only)
  first | exact HX.out.three | exact hHeld
 clear hK K
 (try simp only [Act.put, gA, gB, gC, sA, sB, sC])
 refine rdz 7 fun K hK => ?_
 go_simp
 (have HQ := hidp (Held.new w2 30 #[.int .i64 u, .int .i64 v]); replace HX := hidp (HX.out.alloc (.cells #[.int .i64 u, .int .i64 v] 30)); replace HM := hidp (HM.out.stay (Bnew (B0 w2) (.cells #[.int .i64 u, .int .i64 v] 30))); replace HB := hidp (Bnew HB.out (.cells #[.int .i64 u, .int .i64 v] 30)))
 refine hK.out _ _ ?_ (fun hHeld => ?_)
 ·(try dsimp only)
  first | exact HX.out.three | exact hHeld
 clear hK K
 (try simp only [Act.put, gA, gB, gC, sA, sB, sC])
 refine rdz 8 fun K hK => ?_
 go_simp
 (refine (cmpOr_c _ u v _ HQ.out).mono ?_; rintro e w3 ⟨rfl, hb⟩; rw [HV.out.2.2]; replace HX := hidp (HX.out.keep hb); replace HM := hidp (HM.out.stay hb); replace HB := hidp (Bgo HB.out hb); clear hb)
 refine hK.out _ _ ?_ (fun hHeld => ?_)
 ·(try dsimp only)
  first | exact HX.out.three | exact hHeld
 clear hK K
 (try simp only [Act.put, gA, gB, gC, sA, sB, sC])
 refine tkz 9 ?_
 refine dnz ?_
 obtain ⟨x0, x1, x2⟩ := HX.out.three
 go_wp2_with fail
 go_ret
 exact ⟨rfl, HB.out⟩

set_option maxHeartbeats 1600000 in
theorem ref_5_b (h : IsMod w g F t p s L R) (a b : Int) (ha : -9223372036854775808 <= a /\ a <= 9223372036854775807) (hb : -9223372036854775808 <= b /\ b <= 9223372036854775807) (hT : SlotsLaid w) (ho : opB 5 a b = true) (hne : b ≠ 0) (u v x : Int) (hv : nRoot a = u /\ nBlock L b = v /\ orI u v = x) : Calls Tryd.prog 27 #[.pointer (some ⟨g, 0, none⟩), .agg #[.int .i64 5, .int .i64 a, .int .i64 b]] w fun e w' => e = .returned (.int .i64 x) /\ Below w.heap.size w w' := by
 have HX := hidp (Held.new w 29 #[.int .i64 5, .int .i64 a, .int .i64 b])
 have HB := hidp (Bnew (B0 w) (.cells #[.int .i64 5, .int .i64 a, .int .i64 b] 29))
 have HM := hidp (h.stay HB.out)
 have HSL := hidp hT
 have t0 : (b == 0) = false := by simp [hne]
 clear hne
 have HO := hidp ho
 clear ho
 have HV := hidp hv
 clear hv
 have hb0 := hb
 clear hb
 clear h hT
 obtain ⟨x0, x1, x2⟩ := HX.out.three
 go_enter Tryd.func27, Tryd.ntmps27
 go_wp2_with fail
 refine (opRight_c 5 a b ⟨by omega, by omega⟩ ha hb0 _).mono ?_; rintro e w1 ⟨rfl, hb⟩; rw [HO.out]
 clear x0 x1 x2
 replace HX := hidp (HX.out.keep hb)
 replace HM := hidp (HM.out.stay hb)
 replace HB := hidp (Bgo HB.out hb)
 clear hb
 obtain ⟨x0, x1, x2⟩ := HX.out.three
 go_wp2_with fail
 clear x0 x1 x2
 replace HX := hidp (HX.out.keep (Bdrew (B0 _)))
 replace HM := hidp (HM.out.stay (Bdrew (B0 _)))
 replace HB := hidp (Bgo HB.out (Bdrew (B0 _)))
 refine wp_region_held_drew (S := (fun w' => w'.cell? ⟨w.heap.size, 0, none⟩ = some (.int .i64 5) /\ w'.cell? ⟨w.heap.size, 1, none⟩ = some (.int .i64 a) /\ w'.cell? ⟨w.heap.size, 2, none⟩ = some (.int .i64 b))) (by kernel_rfl) ?_ (fun hHeld => ?_)
 ·(try dsimp only)
  first | exact HX.out.three | exact hHeld
 refine tkz 0 ?_
 refine tkz 1 ?_
 refine tkz 3 ?_
 refine tkz 4 ?_
 refine tkz 5 ?_
 refine rdz 2 fun K hK => ?_
 go_simp
 (refine (needsRoot_c a _).mono ?_; rintro e w1 ⟨rfl, hb⟩; rw [HV.out.1]; replace HX := hidp (HX.out.keep hb); replace HM := hidp (HM.out.stay hb); replace HB := hidp (Bgo HB.out hb); clear hb)
 refine hK.out _ _ ?_ (fun hHeld => ?_)
 ·(try dsimp only)
  first | exact HX.out.three | exact hHeld
 clear hK K
 (try simp only [Act.put, gA, gB, gC, sA, sB, sC])
 refine rdz 6 fun K hK => ?_
 go_simp
 (refine (needsBlock_c HM.out b).mono ?_; rintro e w2 ⟨rfl, hb⟩; rw [HV.out.2.1]; replace HX := hidp (HX.out.keep hb); replace HM := hidp (HM.out.stay hb); replace HB := hidp (Bgo HB.out hb); clear hb)
 refine hK.out _ _ ?_ (fun hHeld => ?_)
 ·(try dsimp only)
  first | exact HX.out.three | exact hHeld
 clear hK K
 (try simp only [Act.put, gA, gB, gC, sA, sB, sC])
 refine rdz 7 fun K hK => ?_
 go_simp
 (have HQ := hidp (Held.new w2 30 #[.int .i64 u, .int .i64 v]); replace HX := hidp (HX.out.alloc (.cells #[.int .i64 u, .int .i64 v] 30)); replace HM := hidp (HM.out.stay (Bnew (B0 w2) (.cells #[.int .i64 u, .int .i64 v] 30))); replace HB := hidp (Bnew HB.out (.cells #[.int .i64 u, .int .i64 v] 30)))
 refine hK.out _ _ ?_ (fun hHeld => ?_)
 ·(try dsimp only)
  first | exact HX.out.three | exact hHeld
 clear hK K
 (try simp only [Act.put, gA, gB, gC, sA, sB, sC])
 refine rdz 8 fun K hK => ?_
 go_simp
 (refine (cmpOr_c _ u v _ HQ.out).mono ?_; rintro e w3 ⟨rfl, hb⟩; rw [HV.out.2.2]; replace HX := hidp (HX.out.keep hb); replace HM := hidp (HM.out.stay hb); replace HB := hidp (Bgo HB.out hb); clear hb)
 refine hK.out _ _ ?_ (fun hHeld => ?_)
 ·(try dsimp only)
  first | exact HX.out.three | exact hHeld
 clear hK K
 (try simp only [Act.put, gA, gB, gC, sA, sB, sC])
 refine tkz 9 ?_
 refine dnz ?_
 obtain ⟨x0, x1, x2⟩ := HX.out.three
 go_wp2_with fail
 go_ret
 exact ⟨rfl, HB.out⟩

set_option maxHeartbeats 1600000 in
theorem ref_5_a (h : IsMod w g F t p s L R) (a b : Int) (ha : -9223372036854775808 <= a /\ a <= 9223372036854775807) (hb : -9223372036854775808 <= b /\ b <= 9223372036854775807) (hT : SlotsLaid w) (ho : opB 5 a b = true) (hne : b = 0) (v : Int) (hv : nRoot a = v) : Calls Tryd.prog 27 #[.pointer (some ⟨g, 0, none⟩), .agg #[.int .i64 5, .int .i64 a, .int .i64 b]] w fun e w' => e = .returned (.int .i64 v) /\ Below w.heap.size w w' := by
 have HX := hidp (Held.new w 29 #[.int .i64 5, .int .i64 a, .int .i64 b])
 have HB := hidp (Bnew (B0 w) (.cells #[.int .i64 5, .int .i64 a, .int .i64 b] 29))
 have HM := hidp (h.stay HB.out)
 have HSL := hidp hT
 have t0 : (b == 0) = true := by simp [hne]
 clear hne
 have HO := hidp ho
 clear ho
 have HV := hidp hv
 clear hv
 have hb0 := hb
 clear hb
 clear h hT
 obtain ⟨x0, x1, x2⟩ := HX.out.three
 go_enter Tryd.func27, Tryd.ntmps27
 go_wp2_with fail
 refine (opRight_c 5 a b ⟨by omega, by omega⟩ ha hb0 _).mono ?_; rintro e w1 ⟨rfl, hb⟩; rw [HO.out]
 clear x0 x1 x2
 replace HX := hidp (HX.out.keep hb)
 replace HM := hidp (HM.out.stay hb)
 replace HB := hidp (Bgo HB.out hb)
 clear hb
 obtain ⟨x0, x1, x2⟩ := HX.out.three
 go_wp2_with fail
 refine (needsRoot_c a _).mono ?_; rintro e w1 ⟨rfl, hb⟩; rw [HV.out]
 clear x0 x1 x2
 replace HX := hidp (HX.out.keep hb)
 replace HM := hidp (HM.out.stay hb)
 replace HB := hidp (Bgo HB.out hb)
 clear hb
 obtain ⟨x0, x1, x2⟩ := HX.out.three
 go_wp2_with fail
 go_ret
 exact ⟨rfl, HB.out⟩

theorem op_kind {k a b : Int} (h : opB k a b = true) : 1 <= k /\ k <= 9 := by
 have h1 := (of_decide_eq_true h).1
 unfold usesI at h1
 split at h1 <;> omega
theorem refusal_c (h : IsMod w g F t p s L R) (k a b : Int) (hk : -9223372036854775808 <= k /\ k <= 9223372036854775807) (ha : -9223372036854775808 <= a /\ a <= 9223372036854775807) (hb : -9223372036854775808 <= b /\ b <= 9223372036854775807) (hT : SlotsLaid w) : Calls Tryd.prog 27 #[.pointer (some ⟨g, 0, none⟩), .agg #[.int .i64 k, .int .i64 a, .int .i64 b]] w fun e w' => e = .returned (.int .i64 (refI t p s L R k a b)) /\ Below w.heap.size w w' := by
 cases ho : opB k a b with
 | false =>
  unfold refI
  rw [if_pos ho]
  exact ref_bad h k a b hk ha hb hT ho
 | true =>
  have hk9 := op_kind ho
  unfold refI
  rw [if_neg (by rw [ho]; simp)]
  rcases (by omega : k = 1 \/ k = 2 \/ k = 3 \/ k = 4 \/ k = 5 \/ k = 6 \/ k = 7 \/ k = 8 \/ k = 9) with rfl | rfl | rfl | rfl | rfl | rfl | rfl | rfl | rfl
  ·exact ref_1 h a b ha hb hT ho _ rfl
  ·exact ref_2 h a b ha hb hT ho _ _ _ ⟨rfl, rfl, rfl⟩
  ·exact ref_3 h a b ha hb hT ho _ _ _ ⟨rfl, rfl, rfl⟩
  ·exact ref_4 h a b ha hb hT ho _ _ _ ⟨rfl, rfl, rfl⟩
  ·by_cases e : b = 0
   ·rw [if_neg (by omega), if_neg (by omega), if_neg (by omega), if_neg (by omega), if_pos rfl, if_pos e]
    exact ref_5_a h a b ha hb hT ho e _ rfl
   ·rw [if_neg (by omega), if_neg (by omega), if_neg (by omega), if_neg (by omega), if_pos rfl, if_neg e]
    exact ref_5_b h a b ha hb hT ho e _ _ _ ⟨rfl, rfl, rfl⟩
  ·exact ref_6 h a b ha hb hT ho _ rfl
  ·exact ref_7 h a b ha hb hT ho _ rfl
  ·exact ref_8 h a b ha hb hT ho
  ·exact ref_9 h a b ha hb hT ho _ rfl
end
end
end Go.Proofs.YtedakmhffjhfnaaDoor
