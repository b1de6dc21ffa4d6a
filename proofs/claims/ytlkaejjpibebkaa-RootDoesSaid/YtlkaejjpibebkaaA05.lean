/-
  The law RootDoes: the walk. Written by root/gen_does.py.
-/
import Derived.Test.YtlkaejjpibebkaaA04
namespace Go.Proofs.Ytlkaejjpibebkaa
open Go.ChangeShapes Go.WideShapes Go.ChangeAt Go.RowKit Go.Maps
set_option linter.unusedVariables false
set_option linter.unusedSimpArgs false
set_option maxRecDepth 100000
section
theorem RootDoes_few1 (A B : Option Addr) (c d n m : Nat) (hn : 500 < n) (W : World) : Calls Try.prog 3 #[.slice A n c, .slice B m d] W (Keeps W) := by
 have t0 : decide ((500 : Int) < n) = true := decide_eq_true (by omega)
 go_enter Try.func3, Try.ntmps3
 go_wp2_with fail
 refine (live21_c _).mono ?_
 rintro e w2 ⟨rfl, hb⟩
 go_wp2
 go_ret
 exact ⟨rfl, hb⟩

theorem RootDoes_few2 (A B : Option Addr) (c d n m : Nat) (hn : n <= 500) (hm : 20 < m) (W : World) : Calls Try.prog 3 #[.slice A n c, .slice B m d] W (Keeps W) := by
 have t0 : decide ((500 : Int) < n) = false := decide_eq_false (by omega)
 have t1 : decide ((20 : Int) < m) = true := decide_eq_true (by omega)
 go_enter Try.func3, Try.ntmps3
 go_wp2_with fail
 refine (live21_c _).mono ?_
 rintro e w2 ⟨rfl, hb⟩
 go_wp2
 go_ret
 exact ⟨rfl, hb⟩

def wholeR21 (vals : List Nat) : Nat -> Option Nat := fun i => vals[i]?
theorem pick3 {w : World} {g : Nat} {t : TypeId} {x0 x1 x2 y0 y1 y2 : Value} (h : Held w g t #[x0, x1, x2, y0, y1, y2]) : ∀ k : Nat, k < 3 -> w.cell? ⟨g, 3 + k, none⟩ = some (if k = 0 then y0 else if k = 1 then y1 else y2)
 | 0, _ => h.sixR.2.2.2.1
 | 1, _ => h.sixR.2.2.2.2.1
 | 2, _ => h.sixR.2.2.2.2.2
 | k + 3, hk => by omega
set_option maxHeartbeats 12800000 in
theorem RootDoes_main (A B : Option Addr) (c d n m : Nat) (vals : List Nat) (l : List RootAsk) (HNN : Hid (vals.length = n)) (HMM : Hid (l.length = m)) (H32 : Hid (∀ x ∈ vals, x < 2 ^ 32))
  (hn : n <= 500) (hm : m <= 20) (hnc : n <= c) (hcm : c <= maxLen) (hmd : m <= d) (hdm : d <= maxLen) (W : World) (HR : Hid (Reads W W.heap.size 1 A n (valVs vals))) (HA : Hid (RootAsks W B l)) (HOK : Hid (∀ a ∈ l, a.Ok)) :
  Calls Try.prog 3 #[.slice A n c, .slice B m d] W (Keeps W) := by
 have t0 : decide ((500 : Int) < n) = false := decide_eq_false (by omega)
 have t1 : decide ((20 : Int) < m) = false := decide_eq_false (by omega)
 have hcm2 : c <= 9223372036854775807 := hcm
 have hdm2 : d <= 9223372036854775807 := hdm
 have hn40 : n < 2 ^ 40 := by omega
 go_enter Try.func3, Try.ntmps3
 go_wp2_with fail
 refine (Whole_c A c vals n HNN.out (by omega) H32.out _ (by
  intro h0
  obtain ⟨ad, e, _, hc⟩ := HR.out.2 h0
  exact ⟨ad, e, hc⟩)).mono ?_
 rintro e w2 ⟨b1, o1, rfl, hI, hB⟩
 have HV2 : Hid (IsView w2 W.heap.size b1 n true o1 (wholeR21 vals) freshS) := hidp hI
 have HB2 := hidp hB
 have HR2 : Hid (Reads w2 w2.heap.size 1 A n (valVs vals)) := hidp ((HR.out.below hB).more hB.size)
 clear hI hB
 go_wp2_with fail
 refine (RWhole_c A c vals n HNN.out (by omega) hnc hcm H32.out _ HR2.out).mono ?_
 rintro e w3 ⟨b2, v2, rfl, hI, hB⟩
 have HV3 := hidp (HV2.out.keep hB)
 have HA3 : Hid (IsRefV w3 w2.heap.size b2 n true v2 (wholeR21 vals) freshS) := hidp hI
 have HB3 := hidp (Bgo HB2.out hB)
 have HL2 : Hid (∀ i, o1.A b1 i -> i < w2.heap.size) := hidp HV2.out.lt
 have HL1 : Hid (W.heap.size <= w2.heap.size) := hidp HB2.out.size
 clear hI hB HV2 HR2 HB2
 generalize hz1 : W.heap.size = z1 at HV3 HL1 ⊢
 generalize hz2 : w2.heap.size = z2 at *
 have HD : Hid (Duo W (vOb z1 b1 n true (wholeR21 vals)) (rOb z2 b2 n true (wholeR21 vals)) (o1.A b1) (OwnF b2 6 v2) (fun _ => False) freshS freshS w3) := hidp ⟨⟨o1, HV3.out, rfl⟩, ⟨v2, HA3.out, rfl⟩, fun i hi hj => by have := HL2.out i hi; have := HA3.out.parts.ge i hj; omega, fun g hg => hg.elim, fun i hi => by
   rcases hi with hi | hi
   ·have := HV3.out.ge _ hi; omega
   ·have := HA3.out.parts.ge _ hi; have := HL1.out; omega, HB3.out⟩
 clear HV3 HA3 HB3 HL2 HL1 hz1 hz2
 go_wp2_with fail
 go_loopw [7] (fun u7 wr => ∃ (k : Nat) (A1 B1 : Nat -> Prop) (sx : Vst), k <= m /\ u7 = .int .i64 (k : Int) /\ Hid (Duo W (vOb z1 b1 n true (wholeR21 vals)) (rOb z2 b2 n true (wholeR21 vals)) A1 B1 (fun _ => False) sx sx wr)) (fun u7 _ => m - (intOf u7).toNat)
 case atStart => exact ⟨0, _, _, _, by omega, rfl, HD⟩
 case round =>
  clear HD
  obtain ⟨k, A1, B1, sx, hk, rfl, HD⟩ := hrel
  by_cases hlt : k < m
  ·have t2 : decide ((k : Int) < (m : Int)) = true := decide_eq_true (by omega)
   have t2n : decide (k < m) = true := decide_eq_true hlt
   obtain ⟨x, hx⟩ : ∃ x, l[k]? = some x := ⟨_, List.getElem?_eq_getElem (by rw [HMM.out]; exact hlt)⟩
   obtain ⟨ad, rfl, _, _⟩ := HA.out k x hx
   have hok := HOK.out x (List.mem_of_getElem? hx)
   have HBI := hidp (i64_bounds hok.i)
   have HBA := hidp (i64_bounds hok.ad)
   have HBT := hidp (i64_bounds hok.to)
   have HXA := hidp (((HA.out.below HD.out.bel).cells hx))
   obtain ⟨xi, xa, xt, xw0, xw1, xw2⟩ := x
   obtain ⟨q0, q1, q2, q3, q4, q5⟩ := HXA.out
   dsimp only at q0 q1 q2 q3 q4 q5 HBI HBA HBT
   clear hx hok HXA
   have HX := hidp (Held.new wr 31 #[.int .i64 xi, .int .i64 xa, .int .i64 xt, .int .i64 xw0, .int .i64 xw1, .int .i64 xw2])
   replace HD := hidp (HD.out.keep2 (G' := fun g => g = wr.heap.size) (Bnew (B0 _) (.cells #[.int .i64 xi, .int .i64 xa, .int .i64 xt, .int .i64 xw0, .int .i64 xw1, .int .i64 xw2] 31)) (fun i x => .inr (by subst x; simp)))
   go_wp2_with fail
   generalize hNX : wr.heap.size = NX at *
   generalize hWX : wr.alloc (.cells #[.int .i64 xi, .int .i64 xa, .int .i64 xt, .int .i64 xw0, .int .i64 xw1, .int .i64 xw2] 31) = wx at *
   clear hNX hWX q0 q1 q2 q3 q4 q5
   go_loopw [9] (fun u9 wr => ∃ (k2 : Nat) (A2 B2 : Nat -> Prop) (sy : Vst), k2 <= 3 /\ u9 = .int .i64 (k2 : Int) /\ Hid (Duo W (vOb z1 b1 n true (wholeR21 vals)) (rOb z2 b2 n true (wholeR21 vals)) A2 B2 (fun g => g = NX) sy sy wr) /\ Hid (Held wr NX 31 #[.int .i64 xi, .int .i64 xa, .int .i64 xt, .int .i64 xw0, .int .i64 xw1, .int .i64 xw2])) (fun u9 _ => 3 - (intOf u9).toNat)
   case atStart => exact ⟨0, _, _, _, by omega, rfl, HD, HX⟩
   case round =>
    clear HD HX
    obtain ⟨k2, A2, B2, sy, hk2, rfl, HD, HX⟩ := hrel
    by_cases hlt2 : k2 < 3
    ·have t3 : decide ((k2 : Int) < 3) = true := decide_eq_true (by omega)
     have t3n : decide (k2 < 3) = true := decide_eq_true hlt2
     obtain ⟨wk, hwk⟩ : ∃ wk : Int, (if k2 = 0 then (.int .i64 xw0 : Value) else if k2 = 1 then .int .i64 xw1 else .int .i64 xw2) = .int .i64 wk := by
      by_cases h0 : k2 = 0
      ·exact ⟨xw0, by rw [if_pos h0]⟩
      ·by_cases h1 : k2 = 1
       ·exact ⟨xw1, by rw [if_neg h0, if_pos h1]⟩
       ·exact ⟨xw2, by rw [if_neg h0, if_neg h1]⟩
     have aw := pick3 HX.out k2 hlt2
     rw [hwk] at aw
     clear hwk
     obtain ⟨a0, a1, a2, a3, a4, a5⟩ := HX.out.sixR
     by_cases e0 : wk = 0
     ·subst e0
      obtain ⟨gv, hgv⟩ : ∃ x, gtV n (wholeR21 vals) xi sy = x := ⟨_, rfl⟩
      have HGV := hidp hgv
      clear hgv
      obtain ⟨gb, hgb⟩ : ∃ x, rtB xi = x := ⟨_, rfl⟩
      have HGB := hidp hgb
      clear hgb
      obtain ⟨sz, hsz⟩ : ∃ x, gtS n (wholeR21 vals) xi sy = x := ⟨_, rfl⟩
      have HSZ := hidp hsz
      clear hsz
      have hvv : (gv != gv) = false := by simp
      have hbb : (gb != gb) = false := by simp
      go_wp2_with fail
      refine (rtGet_c hn40 xi HBI.out HD.out.at1).mono ?_
      rintro e w5 ⟨rfl, h1, _⟩
      obtain ⟨A5, h2, h3⟩ := HD.out.left1 h1.left
      rw [HGV.out]
      rw [HGB.out]
      rw [HSZ.out] at h2
      replace HX := hidp (h3.held rfl HX.out)
      replace HD := hidp h2
      clear h1 h2 h3
      clear a0 a1 a2 a3 a4 a5
      obtain ⟨a0, a1, a2, a3, a4, a5⟩ := HX.out.sixR
      go_wp2_with fail
      refine (r21Get_c hn40 xi HBI.out HD.out.at2).mono ?_
      rintro e w6 ⟨rfl, h1, _⟩
      obtain ⟨A6, h2, h3⟩ := HD.out.left2 h1.left
      rw [HGV.out]
      rw [HGB.out]
      rw [HSZ.out] at h2
      replace HX := hidp (h3.held rfl HX.out)
      replace HD := hidp h2
      clear h1 h2 h3
      clear a0 a1 a2 a3 a4 a5
      obtain ⟨a0, a1, a2, a3, a4, a5⟩ := HX.out.sixR
      clear HGV HGB HSZ
      go_wp2
      go_roundw
      case rel => exact ⟨k2 + 1, _, _, _, by omega, by go_num, HD, HX⟩
      case measure => simp [intOf]; omega
     ·by_cases e1 : wk = 1
      ·subst e1
       obtain ⟨gb, hgb⟩ : ∃ x, stB xi xa = x := ⟨_, rfl⟩
       have HGB := hidp hgb
       clear hgb
       obtain ⟨sz, hsz⟩ : ∃ x, stS n xi xa sy = x := ⟨_, rfl⟩
       have HSZ := hidp hsz
       clear hsz
       have hbb : (gb != gb) = false := by simp
       go_wp2_with fail
       replace HX := hidp (HX.out.keep (Bdrew (B0 _)))
       replace HD := hidp (HD.out.keep (Bdrew (B0 _)))
       refine wp_region_held_drew (S := (fun w' => w'.cell? ⟨NX, 0, none⟩ = some (.int .i64 xi) /\ w'.cell? ⟨NX, 1, none⟩ = some (.int .i64 xa))) (by kernel_rfl) ?_ (fun hHeld => ?_)
       ·(try dsimp only)
        first | exact ⟨HX.out.sixR.1, HX.out.sixR.2.1⟩ | exact hHeld
       refine tkz 0 ?_
       refine tkz 1 ?_
       refine tkz 2 ?_
       refine tkz 3 ?_
       refine tkz 4 ?_
       refine tkz 6 ?_
       refine tkz 7 ?_
       refine tkz 8 ?_
       refine tkz 9 ?_
       refine tkz 10 ?_
       refine rdz 5 fun K hK => ?_
       go_simp
       refine (rtSet_c hn40 xi xa HBI.out HBA.out HD.out.at1).mono ?_
       rintro e w5 ⟨rfl, h1, _⟩
       obtain ⟨A5, h2, h3⟩ := HD.out.left1 h1.left
       rw [HGB.out]
       rw [HSZ.out] at h2
       replace HX := hidp (h3.held rfl HX.out)
       replace HD := hidp h2
       clear h1 h2 h3
       refine hK.out _ _ ?_ (fun hHeld => ?_)
       ·(try dsimp only)
        first | exact ⟨HX.out.sixR.1, HX.out.sixR.2.1⟩ | exact hHeld
       clear hK K
       (try simp only [Act.put, gA, gB, gC, sA, sB, sC])
       refine rdz 11 fun K hK => ?_
       go_simp
       refine (r21Set_c hn40 xi xa HBI.out HBA.out HD.out.at2).mono ?_
       rintro e w6 ⟨rfl, h1, _⟩
       obtain ⟨A6, h2, h3⟩ := HD.out.left2 h1.left
       rw [HGB.out]
       rw [HSZ.out] at h2
       replace HX := hidp (h3.held rfl HX.out)
       replace HD := hidp h2
       clear h1 h2 h3
       refine hK.out _ _ ?_ (fun hHeld => ?_)
       ·(try dsimp only)
        first | exact ⟨HX.out.sixR.1, HX.out.sixR.2.1⟩ | exact hHeld
       clear hK K
       (try simp only [Act.put, gA, gB, gC, sA, sB, sC])
       refine tkz 12 ?_
       refine dnz ?_
       clear a0 a1 a2 a3 a4 a5
       obtain ⟨a0, a1, a2, a3, a4, a5⟩ := HX.out.sixR
       clear HGB HSZ
       go_wp2
       go_roundw
       case rel => exact ⟨k2 + 1, _, _, _, by omega, by go_num, HD, HX⟩
       case measure => simp [intOf]; omega
      ·by_cases e2 : wk = 2
       ·subst e2
        obtain ⟨gb, hgb⟩ : ∃ x, (heldR n (wholeR21 vals) xa sy).1 = x := ⟨_, rfl⟩
        have HGB := hidp hgb
        clear hgb
        obtain ⟨sz, hsz⟩ : ∃ x, (heldR n (wholeR21 vals) xa sy).2 = x := ⟨_, rfl⟩
        have HSZ := hidp hsz
        clear hsz
        have hbb : (gb != gb) = false := by simp
        go_wp2_with fail
        replace HX := hidp (HX.out.keep (Bdrew (B0 _)))
        replace HD := hidp (HD.out.keep (Bdrew (B0 _)))
        refine wp_region_held_drew (S := (fun w' => w'.cell? ⟨NX, 1, none⟩ = some (.int .i64 xa))) (by kernel_rfl) ?_ (fun hHeld => ?_)
        ·(try dsimp only)
         first | exact HX.out.sixR.2.1 | exact hHeld
        refine tkz 0 ?_
        refine tkz 1 ?_
        refine tkz 2 ?_
        refine tkz 4 ?_
        refine tkz 5 ?_
        refine tkz 6 ?_
        refine rdz 3 fun K hK => ?_
        go_simp
        refine (rtHeld_c hn40 xa HBA.out HD.out.at1).mono ?_
        rintro e w5 ⟨rfl, h1, _⟩
        obtain ⟨A5, h2, h3⟩ := HD.out.left1 h1.left
        rw [HGB.out]
        rw [HSZ.out] at h2
        replace HX := hidp (h3.held rfl HX.out)
        replace HD := hidp h2
        clear h1 h2 h3
        refine hK.out _ _ ?_ (fun hHeld => ?_)
        ·(try dsimp only)
         first | exact HX.out.sixR.2.1 | exact hHeld
        clear hK K
        (try simp only [Act.put, gA, gB, gC, sA, sB, sC])
        refine rdz 7 fun K hK => ?_
        go_simp
        refine (r21Held_c hn40 xa HBA.out HD.out.at2).mono ?_
        rintro e w6 ⟨rfl, h1, _⟩
        obtain ⟨A6, h2, h3⟩ := HD.out.left2 h1.left
        rw [HGB.out]
        rw [HSZ.out] at h2
        replace HX := hidp (h3.held rfl HX.out)
        replace HD := hidp h2
        clear h1 h2 h3
        refine hK.out _ _ ?_ (fun hHeld => ?_)
        ·(try dsimp only)
         first | exact HX.out.sixR.2.1 | exact hHeld
        clear hK K
        (try simp only [Act.put, gA, gB, gC, sA, sB, sC])
        refine tkz 8 ?_
        refine dnz ?_
        clear a0 a1 a2 a3 a4 a5
        obtain ⟨a0, a1, a2, a3, a4, a5⟩ := HX.out.sixR
        clear HGB HSZ
        go_wp2
        go_roundw
        case rel => exact ⟨k2 + 1, _, _, _, by omega, by go_num, HD, HX⟩
        case measure => simp [intOf]; omega
       ·have s0 : (wk == 0) = false := by simp; omega
        have s1 : (wk == 1) = false := by simp; omega
        have s2 : (wk == 2) = false := by simp; omega
        clear e0 e1 e2
        obtain ⟨sz, hsz⟩ : ∃ x, folR n (wholeR21 vals) xa xt sy = x := ⟨_, rfl⟩
        have HSZ := hidp hsz
        clear hsz
        go_wp2_with fail
        refine (rtFollow_c hn40 xa xt HBA.out HBT.out HD.out.at1).mono ?_
        rintro e w5 ⟨rfl, h1, _⟩
        obtain ⟨A5, h2, h3⟩ := HD.out.left1 h1.left
        rw [HSZ.out] at h2
        replace HX := hidp (h3.held rfl HX.out)
        replace HD := hidp h2
        clear h1 h2 h3
        clear a0 a1 a2 a3 a4 a5
        obtain ⟨a0, a1, a2, a3, a4, a5⟩ := HX.out.sixR
        go_wp2_with fail
        refine (r21Follow_c hn40 xa xt HBA.out HBT.out HD.out.at2).mono ?_
        rintro e w6 ⟨rfl, h1, _⟩
        obtain ⟨A6, h2, h3⟩ := HD.out.left2 h1.left
        rw [HSZ.out] at h2
        replace HX := hidp (h3.held rfl HX.out)
        replace HD := hidp h2
        clear h1 h2 h3
        clear a0 a1 a2 a3 a4 a5
        obtain ⟨a0, a1, a2, a3, a4, a5⟩ := HX.out.sixR
        clear HSZ
        go_wp2
        go_roundw
        case rel => exact ⟨k2 + 1, _, _, _, by omega, by go_num, HD, HX⟩
        case measure => simp [intOf]; omega
    ·have t3 : decide ((k2 : Int) < 3) = false := decide_eq_false (by omega)
     have t3n : decide (k2 < 3) = false := decide_eq_false hlt2
     replace HD := hidp (HD.out.keep2 (G' := fun _ => False) (B0 _) (fun i x => x.elim))
     clear HX
     go_wp2
     go_roundw
     case rel => exact ⟨k + 1, _, _, _, by omega, by go_num, HD⟩
     case measure => simp [intOf]; omega
  ·have t2 : decide ((k : Int) < (m : Int)) = false := decide_eq_false (by omega)
   have t2n : decide (k < m) = false := decide_eq_false hlt
   obtain ⟨o, hI, _⟩ := HD.out.i1
   obtain ⟨v, hR, _⟩ := HD.out.i2
   have HV := hidp hI
   have HAA := hidp hR
   have HB := hidp HD.out.bel
   have HL : Hid (sx.rd.length < 2 ^ 40 /\ sx.wr.length < 2 ^ 40) := hidp (by have := hI.ok.few; omega)
   clear hI hR HD
   go_wp2_with fail
   refine (vReads_c HL.out.1 _ HV.out).mono ?_
   rintro e w90 ⟨r6, rfl, ho, hb⟩
   have HV := hidp (HV.out.keep hb)
   have HAA := hidp (HAA.out.keep hb)
   have HB := hidp (Bgo HB.out hb)
   have HR6 := hidp (rowV_nat6 ho)
   clear hb ho
   go_wp2_with fail
   refine (vWrites_c HL.out.2 _ HV.out).mono ?_
   rintro e w91 ⟨r7, rfl, ho, hb⟩
   have HV := hidp (HV.out.keep hb)
   have HAA := hidp (HAA.out.keep hb)
   have HB := hidp (Bgo HB.out hb)
   have HP7 := hidp (RowP.of_own ho)
   have HR7 := hidp (HR6.out.below hb)
   clear hb ho HR6
   go_wp2_with fail
   refine (vMissing_c _ HV.out).mono ?_
   rintro e w92 ⟨rfl, hw⟩
   subst hw
   go_wp2_with fail
   refine (Same_c HL.out.1 HL.out.2 r6 r7 _ HAA.out HR7.out HP7.out).mono ?_
   rintro e w93 ⟨rfl, hb⟩
   have HB := hidp (Bgo HB.out hb)
   clear hb HV HAA HR7 HP7
   go_wp2_with fail
   refine (live21_c _).mono ?_
   rintro e w94 ⟨rfl, hb⟩
   have HB := hidp (Bgo HB.out hb)
   clear hb
   go_wp2
   go_ret
   exact ⟨rfl, HB.out⟩
theorem RootDoes_calls (A B : Option Addr) (c d : Nat) (vals : List Nat) (l : List RootAsk) (hnc : vals.length <= c) (hcm : c <= maxLen) (hmd : l.length <= d) (hdm : d <= maxLen) (h32 : ∀ x ∈ vals, x < 2 ^ 32)
  (W : World) (HR : Hid (Reads W W.heap.size 1 A vals.length (valVs vals))) (HA : Hid (RootAsks W B l)) (HOK : Hid (∀ a ∈ l, a.Ok)) :
  Calls Try.prog 3 #[.slice A vals.length c, .slice B l.length d] W (Keeps W) := by
 by_cases hn : vals.length <= 500
 ·by_cases hm : l.length <= 20
  ·exact RootDoes_main A B c d _ _ vals l (hidp rfl) (hidp rfl) (hidp h32) hn hm hnc hcm hmd hdm W HR HA HOK
  ·exact RootDoes_few2 A B c d _ _ hn (by omega) W
 ·exact RootDoes_few1 A B c d _ _ (by omega) W
end
end Go.Proofs.Ytlkaejjpibebkaa
