/-
  What the document's automaton of a state is (nacreref26.Of). Written by model/gen_of.py.
-/
import Derived.Test.YtedakmhffjhfnaaDoorA05
import Derived.Test.YtedakmhffjhfnaaDoorSortB
import Derived.Sort.MapsRangeIn
import Derived.Maps.OwnIn
import Derived.Test.YtedakmhffjhfnaaDoorA02
import Derived.Test.YtedakmhffjhfnaaDoorA01
import Derived.Test.YtedakmhffjhfnaaDoorAKit
import Derived.Below
import Derived.WalkKit
import Derived.ProofKit
import Derived.BigQuiet
import Derived.Outline
import Derived.Deep.QuietTactic
import Derived.Deep.RegionHeld3
import Derived.IntWalk
import Derived.KernelRfl
namespace Go.Proofs.YtedakmhffjhfnaaDoor
open Go.ChangeShapes Go.WideShapes Go.ChangeAt Go.RowKit Go.Maps
set_option linter.unusedVariables false
set_option linter.unusedSimpArgs false
set_option maxRecDepth 100000
section
def BkIn (w : World) (A : Option Addr) (l : List (Int × Int)) : Prop := ∀ (i : Nat) (x : Int × Int), l[i]? = some x -> ∃ ad, A = some ad /\ ad.block < w.heap.size /\ w.cell? (ad.add (i * 2)) = some (.int .i64 x.1) /\ w.cell? ⟨(ad.add (i * 2)).block, (ad.add (i * 2)).off + 1, none⟩ = some (.int .i64 x.2)
theorem BkIn.below {w w' : World} {A : Option Addr} {l : List (Int × Int)} (h : BkIn w A l) (hb : Below w.heap.size w w') : BkIn w' A l := fun i x hx => by
 obtain ⟨ad, e, h1, h2, h3⟩ := h i x hx
 have hbl : (ad.add (i * 2)).block = ad.block := block_of_add ..
 exact ⟨ad, e, Nat.lt_of_lt_of_le h1 hb.size, (hb.cell (p := ad.add (i * 2)) (by rw [hbl]; exact h1)).trans h2, (hb.cell (p := ⟨(ad.add (i * 2)).block, (ad.add (i * 2)).off + 1, none⟩) (by show (ad.add (i * 2)).block < _; rw [hbl]; exact h1)).trans h3⟩
theorem BkIn.of {w : World} {A : Option Addr} {l : List BlkV} (h : BlkVs w A l) : BkIn w A (l.map fun x => (x.ad, x.z)) := fun i x hx => by
 rw [List.getElem?_map] at hx
 cases e : l[i]? with
 | none => rw [e] at hx; cases hx
 | some y =>
  rw [e] at hx
  injection hx with hx
  subst hx
  obtain ⟨ad, e1, h1, _⟩ := h i y e
  subst e1
  obtain ⟨c0, c1⟩ := h.cells e
  exact ⟨ad, rfl, h1, c0, c1⟩
def ofM (t p s : Int) (l : List (Int × Int)) (R : Nat -> Int) : Option (List (Int × Int)) := if rightB t p s = true then (match ofL (pageN t p s : Int) (endI t p s) l with | none => none | some L => if namedM L R = true then some L else none) else none
theorem RMod.down {w : World} {g base b0 : Nat} {Z : Nat -> Prop} {t p s : Int} {L : List (Int × Int)} {R : Nat -> Int} (h : RMod w g base Z t p s L R) (hb : b0 <= base) : RMod w g b0 Z t p s L R := by
 obtain ⟨A, c, h1, h2⟩ := h.ex
 exact ⟨h.right, Nat.le_trans hb h.lo, h.ins, h.zlt, h.far, A, c, h1, own_down h2 hb⟩
def OfEnd (t p s : Int) (R : Nat -> Int) (w : World) (X : Option (List (Int × Int))) (e : Ending) (w' : World) : Prop :=
 Below w.heap.size w w' /\ (match X with | none => e = .returned (.pointer none) | some L => ∃ g, e = .returned (.pointer (some ⟨g, 0, none⟩)) /\ w.heap.size <= g /\ RMod w' g w.heap.size (fun _ => False) t p s L R)
theorem OfEnd.no {t p s : Int} {R : Nat -> Int} {w w' : World} {X : Option (List (Int × Int))} {e : Ending} (hX : X = none) (he : e = .returned (.pointer none)) (hb : Below w.heap.size w w') : OfEnd t p s R w X e w' := by
 subst hX
 exact ⟨hb, he⟩
theorem OfEnd.yes {t p s : Int} {R : Nat -> Int} {w w' : World} {X : Option (List (Int × Int))} {e : Ending} {L : List (Int × Int)} {g : Nat} (hX : X = some L) (he : e = .returned (.pointer (some ⟨g, 0, none⟩))) (hg : w.heap.size <= g) (hm : RMod w' g w.heap.size (fun _ => False) t p s L R) (hb : Below w.heap.size w w') : OfEnd t p s R w X e w' := by
 subst hX
 exact ⟨hb, g, he, hg, hm⟩
theorem state_root {w : World} {b : Nat} {T : TypeId} {A : Option Addr} {n c : Nat} {R : Nat -> Int} (h : Held w b T #[.slice A n c, .int .i64 (R 0), .int .i64 (R 1), .int .i64 (R 2), .int .i64 (R 3), .int .i64 (R 4), .int .i64 (R 5), .int .i64 (R 6), .int .i64 (R 7)]) {k : Nat} (hk : k < 8) : w.cell? ⟨b, 1 + k, none⟩ = some (.int .i64 (R k)) := by
 rcases (by omega : k = 0 \/ k = 1 \/ k = 2 \/ k = 3 \/ k = 4 \/ k = 5 \/ k = 6 \/ k = 7) with rfl | rfl | rfl | rfl | rfl | rfl | rfl | rfl
 ·exact h.cell 1
 ·exact h.cell 2
 ·exact h.cell 3
 ·exact h.cell 4
 ·exact h.cell 5
 ·exact h.cell 6
 ·exact h.cell 7
 ·exact h.cell 8
theorem r26Of_wrong (t p s : Int) (R : Nat -> Int) (A : Option Addr) (n c : Nat) (hr : rightB t p s = false) (w : World) : Calls Tryd.prog 9 #[.agg #[.int .i64 t, .int .i64 p, .int .i64 s], .agg #[.slice A n c, .int .i64 (R 0), .int .i64 (R 1), .int .i64 (R 2), .int .i64 (R 3), .int .i64 (R 4), .int .i64 (R 5), .int .i64 (R 6), .int .i64 (R 7)]] w fun e w' => e = .returned (.pointer none) /\ Below w.heap.size w w' := by
 have HX := hidp ((Held.new w 23 #[.int .i64 t, .int .i64 p, .int .i64 s]).alloc (.cells #[.slice A n c, .int .i64 (R 0), .int .i64 (R 1), .int .i64 (R 2), .int .i64 (R 3), .int .i64 (R 4), .int .i64 (R 5), .int .i64 (R 6), .int .i64 (R 7)] 27))
 have HB := hidp (Bnew (Bnew (B0 w) (.cells #[.int .i64 t, .int .i64 p, .int .i64 s] 23)) (.cells #[.slice A n c, .int .i64 (R 0), .int .i64 (R 1), .int .i64 (R 2), .int .i64 (R 3), .int .i64 (R 4), .int .i64 (R 5), .int .i64 (R 6), .int .i64 (R 7)] 27))
 obtain ⟨x0, x1, x2⟩ := HX.out.three
 have HR := hidp hr
 clear hr
 go_enter Tryd.func9, Tryd.ntmps9
 go_wp2_with fail
 refine (r26New_no t p s HR.out _).mono ?_; rintro e w1 ⟨rfl, hb⟩
 replace HB := hidp (Bgo HB.out hb)
 go_wp2
 go_ret
 exact ⟨rfl, HB.out⟩
set_option maxHeartbeats 6400000 in
theorem r26Of_right (t p s : Int) (R : Nat -> Int) (A : Option Addr) (n c : Nat) (l : List (Int × Int)) (X : Option (List (Int × Int))) (hr : rightB t p s = true) (hl : l.length = n) (hn : n <= 80000) (hcn : n <= c /\ c <= maxLen) (w : World) (hin : BkIn w A l) (hX : X = match ofL (pageN t p s : Int) (endI t p s) l with | none => none | some L => if namedM L R = true then some L else none) :
  Calls Tryd.prog 9 #[.agg #[.int .i64 t, .int .i64 p, .int .i64 s], .agg #[.slice A n c, .int .i64 (R 0), .int .i64 (R 1), .int .i64 (R 2), .int .i64 (R 3), .int .i64 (R 4), .int .i64 (R 5), .int .i64 (R 6), .int .i64 (R 7)]] w fun e w' => OfEnd t p s R w X e w' := by
 obtain ⟨G, hG⟩ : ∃ G : Int, (pageN t p s : Int) = G := ⟨_, rfl⟩
 obtain ⟨E, hE⟩ : ∃ E : Int, endI t p s = E := ⟨_, rfl⟩
 have HGE : Hid ((pageN t p s : Int) = G /\ endI t p s = E) := hidp ⟨hG, hE⟩
 rw [hG, hE] at hX
 have HXX := hidp hX
 have HR := hidp hr
 have HL := hidp hl
 have HIN := hidp hin
 have HC := hidp ((Held.new w 23 #[.int .i64 t, .int .i64 p, .int .i64 s]).alloc (.cells #[.slice A n c, .int .i64 (R 0), .int .i64 (R 1), .int .i64 (R 2), .int .i64 (R 3), .int .i64 (R 4), .int .i64 (R 5), .int .i64 (R 6), .int .i64 (R 7)] 27))
 have HS := hidp (Held.new2 w (.cells #[.int .i64 t, .int .i64 p, .int .i64 s] 23) 27 #[.slice A n c, .int .i64 (R 0), .int .i64 (R 1), .int .i64 (R 2), .int .i64 (R 3), .int .i64 (R 4), .int .i64 (R 5), .int .i64 (R 6), .int .i64 (R 7)])
 have HB := hidp (Bnew (Bnew (B0 w) (.cells #[.int .i64 t, .int .i64 p, .int .i64 s] 23)) (.cells #[.slice A n c, .int .i64 (R 0), .int .i64 (R 1), .int .i64 (R 2), .int .i64 (R 3), .int .i64 (R 4), .int .i64 (R 5), .int .i64 (R 6), .int .i64 (R 7)] 27))
 have hm2 : c <= 9223372036854775807 := hcn.2
 clear hr hX hl hG hE hin
 obtain ⟨x0, x1, x2⟩ := HC.out.three
 go_enter Tryd.func9, Tryd.ntmps9
 go_wp2_with fail
 refine (r26New_yes t p s HR.out _).mono ?_; rintro e w1 ⟨g, rfl, hgg, hM, hb⟩
 have HM := hidp (hM.down (b0 := w.heap.size) (by simp; omega))
 have HGL : Hid (w.heap.size + 2 <= g) := hidp (by simp at hgg; omega)
 replace HS := hidp (HS.out.keep hb)
 replace HB := hidp (Bgo HB.out hb)
 clear hb hM hgg x0 x1 x2
 have s0 : w1.cell? ⟨w.heap.size + 1, 0, none⟩ = some (.slice A n c) := HS.out.cell 0
 go_wp2_with fail
 go_loopw [6] (fun u6 wr => ∃ (i : Nat) (L : List (Int × Int)), i <= n /\ u6 = .int .i64 (i : Int) /\ L.length <= i /\ Hid (ofL G E (l.take i) = some L) /\ Hid (RMod wr g w.heap.size (fun _ => False) t p s L (fun _ => 0)) /\ Hid (Held wr (w.heap.size + 1) 27 #[.slice A n c, .int .i64 (R 0), .int .i64 (R 1), .int .i64 (R 2), .int .i64 (R 3), .int .i64 (R 4), .int .i64 (R 5), .int .i64 (R 6), .int .i64 (R 7)]) /\ Hid (Below w.heap.size w wr)) (fun u6 _ => n - (intOf u6).toNat)
 case atStart => exact ⟨0, [], by omega, rfl, by simp, hidp rfl, HM, HS, HB⟩
 case round =>
  clear HM HS HB HC s0
  obtain ⟨i, L, hi, rfl, hLi, HOL, HM, HS, HB⟩ := hrel
  have s0 : wr.cell? ⟨w.heap.size + 1, 0, none⟩ = some (.slice A n c) := HS.out.cell 0
  by_cases hlt : i < n
  ·obtain ⟨x, hx⟩ : ∃ x, l[i]? = some x := ⟨_, List.getElem?_eq_getElem (by have := HL.out; omega)⟩
   obtain ⟨ad, eA, hbl, p0, p1⟩ := (HIN.out.below HB.out) i x hx
   subst eA
   have HTK : Hid (l.take (i + 1) = l.take i ++ [x]) := hidp (by rw [List.take_add_one, hx]; rfl)
   obtain ⟨b1, b2⟩ := x
   dsimp only at p0 p1
   have HP : Hid (wr.cell? (ad.add (i * 2)) = some (.int .i64 b1) /\ wr.cell? ⟨(ad.add (i * 2)).block, (ad.add (i * 2)).off + 1, none⟩ = some (.int .i64 b2)) := hidp ⟨p0, p1⟩
   have HAD : Hid ((ad.add (i * 2)).block < wr.heap.size) := hidp (by rw [block_of_add]; exact hbl)
   have t0 : decide ((i : Int) < n) = true := decide_eq_true (by omega)
   clear hx hbl
   have hFR := r26Free_c HM.out (by omega) b1 b2 (-1)
   rw [HGE.out.1, HGE.out.2] at hFR
   have HFR := hidp hFR
   clear hFR
   cases hf : freeM G E L b1 b2 (-1) with
   | false =>
    have HF := hidp hf
    have HNO : Hid (ofL G E l = none) := hidp (ofL_fail (i := i + 1) (by rw [HTK.out, ofL_snoc, HOL.out]; unfold ofStep; dsimp only; rw [if_neg (by rw [HF.out]; simp)]))
    clear hf
    go_wp2_with fail
    refine HFR.out.mono ?_; rintro e w2 ⟨rfl, hb⟩; rw [HF.out]
    replace HB := hidp (Bgo HB.out hb)
    go_wp2_with fail
    go_ret
    exact OfEnd.no (by have := HXX.out; rw [HNO.out] at this; exact this) rfl HB.out
   | true =>
    have HF := hidp hf
    have HST : Hid (ofL G E (l.take (i + 1)) = some (addB L (b1, b2))) := hidp (by rw [HTK.out, ofL_snoc, HOL.out]; unfold ofStep; dsimp only; rw [if_pos HF.out])
    have HINS : Hid (insB (pageN t p s : Int) (endI t p s) b1 b2 = true) := hidp (by rw [HGE.out.1, HGE.out.2]; exact freeM_ins HF.out)
    have HLE : Hid ((addB L (b1, b2)).length <= i + 1) := hidp (Nat.le_trans (addB_len ..) (by omega))
    clear hf
    go_wp2_with fail
    refine HFR.out.mono ?_; rintro e w2 ⟨rfl, hb⟩; rw [HF.out]
    replace HB := hidp (Bgo HB.out hb)
    replace HM := hidp (HM.out.keep hb)
    replace HS := hidp (HS.out.keep hb)
    have HP2 : Hid (w2.cell? (ad.add (i * 2)) = some (.int .i64 b1) /\ w2.cell? ⟨(ad.add (i * 2)).block, (ad.add (i * 2)).off + 1, none⟩ = some (.int .i64 b2)) := hidp ⟨(hb.cell (p := ad.add (i * 2)) HAD.out).trans HP.out.1, (hb.cell (p := ⟨(ad.add (i * 2)).block, (ad.add (i * 2)).off + 1, none⟩) HAD.out).trans HP.out.2⟩
    clear hb p0 p1 s0
    obtain ⟨p0, p1⟩ := HP2.out
    have s0 : w2.cell? ⟨w.heap.size + 1, 0, none⟩ = some (.slice (some ad) n c) := HS.out.cell 0
    go_wp2_with fail
    refine (r26Add_c HM.out (by omega) b1 b2 HINS.out).mono ?_; rintro e w3 ⟨rfl, hm, ht⟩
    replace HM := hidp hm
    have HS3 := hidp (ht.held HS.out (by have := HGL.out; omega))
    have HB3 : Hid (Below w.heap.size w w3) := hidp (ht.below HB.out (fun i hi => by have := HGL.out; omega))
    clear hm ht p0 p1 s0
    go_wp2_with fail
    go_roundw
    case rel => exact ⟨i + 1, addB L (b1, b2), by omega, by go_num, HLE.out, HST, HM, HS3, HB3⟩
    case measure => simp [intOf]; omega
  ·have t0 : decide ((i : Int) < n) = false := decide_eq_false (by omega)
   have HOL2 : Hid (ofL G E l = some L) := hidp (by
    have h := HOL.out
    rwa [List.take_of_length_le (by have := HL.out; omega)] at h)
   have hLn : L.length <= 80000 := by omega
   have HX2 : Hid (X = if namedM L R = true then some L else none) := hidp (by
    have h := HXX.out
    rw [HOL2.out] at h
    exact h)
   clear HXX HOL HOL2 hLi
   go_wp2_with fail
   go_loopw [7] (fun u7 wr => ∃ k : Nat, k <= 8 /\ u7 = .int .i64 (k : Int) /\ Hid (∀ j, j < k -> R j = 0 \/ 0 <= mAt L (R j)) /\ Hid (RMod wr g w.heap.size (fun _ => False) t p s L (fun _ => 0)) /\ Hid (Held wr (w.heap.size + 1) 27 #[.slice A n c, .int .i64 (R 0), .int .i64 (R 1), .int .i64 (R 2), .int .i64 (R 3), .int .i64 (R 4), .int .i64 (R 5), .int .i64 (R 6), .int .i64 (R 7)]) /\ Hid (Below w.heap.size w wr)) (fun u7 _ => 8 - (intOf u7).toNat)
   case atStart => exact ⟨0, by omega, rfl, hidp (fun j hj => by omega), HM, HS, HB⟩
   case round =>
    clear HM HS HB s0
    obtain ⟨k, hk, rfl, HN, HM, HS, HB⟩ := hrel
    by_cases hk8 : k < 8
    ·have hk8i : (k : Int) < 8 := by omega
     have t1 : decide ((k : Int) < 8) = true := decide_eq_true (by omega)
     have s1 := state_root HS.out hk8
     obtain ⟨r, hr⟩ : ∃ r, R k = r := ⟨_, rfl⟩
     rw [hr] at s1
     have HRR := hidp hr
     have HSTEP : Hid ((r = 0 \/ 0 <= mAt L r) -> ∀ j, j < k + 1 -> R j = 0 \/ 0 <= mAt L (R j)) := hidp (fun he j hj => by
      by_cases e : j = k
      ·rw [e, HRR.out]; exact he
      ·exact HN.out j (by omega))
     clear hr
     by_cases hr0 : r = 0
     ·have q1 : (r != 0) = false := by simpa using hr0
      have HN1 := hidp (HSTEP.out (.inl hr0))
      clear hr0
      go_wp2_with fail
      go_roundw
      case rel => exact ⟨k + 1, by omega, by go_num, HN1, HM, HS, HB⟩
      case measure => simp [intOf]; omega
     ·have q1 : (r != 0) = true := by simpa using hr0
      rcases mAt_cases L r with ⟨hi, _⟩ | ⟨i2, z, hi, _, _⟩
      ·have HI := hidp hi
       have HNO : Hid (namedM L R = false) := hidp (namedM_no hk8 (by rw [HRR.out]; exact hr0) (by rw [HRR.out]; omega))
       clear hi hr0
       go_wp2_with fail
       refine (r26At_c HM.out (by omega) r).mono ?_; rintro e w2 ⟨rfl, rfl⟩; rw [HI.out]
       go_wp2_with fail
       go_ret
       exact OfEnd.no (by have := HX2.out; rw [HNO.out, if_neg (by simp)] at this; exact this) rfl HB.out
      ·have HI := hidp hi
       have t2 : decide ((i2 : Int) < 0) = false := decide_eq_false (by omega)
       have HN1 := hidp (HSTEP.out (.inr (by omega)))
       clear hi hr0
       go_wp2_with fail
       refine (r26At_c HM.out (by omega) r).mono ?_; rintro e w2 ⟨rfl, rfl⟩; rw [HI.out]
       go_wp2_with fail
       go_roundw
       case rel => exact ⟨k + 1, by omega, by go_num, HN1, HM, HS, HB⟩
       case measure => simp [intOf]; omega
    ·have t1 : decide ((k : Int) < 8) = false := decide_eq_false (by omega)
     have HYES : Hid (namedM L R = true) := hidp (namedM_yes (fun j hj => HN.out j (by omega)))
     have HX3 : Hid (X = some L) := hidp (by
      have h := HX2.out
      rwa [HYES.out, if_pos rfl] at h)
     obtain ⟨A1, c1, hm, _⟩ := HM.out.ex
     have f4 := hm.thawed 4
     have f5 := hm.thawed 5
     have f6 := hm.thawed 6
     have f7 := hm.thawed 7
     have f8 := hm.thawed 8
     have f9 := hm.thawed 9
     have f10 := hm.thawed 10
     have f11 := hm.thawed 11
     have m4 : wr.cell? ⟨g, 4, none⟩ = some (.int .i64 0) := hm.cell 4
     have m5 : wr.cell? ⟨g, 5, none⟩ = some (.int .i64 0) := hm.cell 5
     have m6 : wr.cell? ⟨g, 6, none⟩ = some (.int .i64 0) := hm.cell 6
     have m7 : wr.cell? ⟨g, 7, none⟩ = some (.int .i64 0) := hm.cell 7
     have m8 : wr.cell? ⟨g, 8, none⟩ = some (.int .i64 0) := hm.cell 8
     have m9 : wr.cell? ⟨g, 9, none⟩ = some (.int .i64 0) := hm.cell 9
     have m10 : wr.cell? ⟨g, 10, none⟩ = some (.int .i64 0) := hm.cell 10
     have m11 : wr.cell? ⟨g, 11, none⟩ = some (.int .i64 0) := hm.cell 11
     have r1 : wr.cell? ⟨w.heap.size + 1, 1, none⟩ = some (.int .i64 (R 0)) := HS.out.cell 1
     have r2 : wr.cell? ⟨w.heap.size + 1, 2, none⟩ = some (.int .i64 (R 1)) := HS.out.cell 2
     have r3 : wr.cell? ⟨w.heap.size + 1, 3, none⟩ = some (.int .i64 (R 2)) := HS.out.cell 3
     have r4 : wr.cell? ⟨w.heap.size + 1, 4, none⟩ = some (.int .i64 (R 3)) := HS.out.cell 4
     have r5 : wr.cell? ⟨w.heap.size + 1, 5, none⟩ = some (.int .i64 (R 4)) := HS.out.cell 5
     have r6 : wr.cell? ⟨w.heap.size + 1, 6, none⟩ = some (.int .i64 (R 5)) := HS.out.cell 6
     have r7 : wr.cell? ⟨w.heap.size + 1, 7, none⟩ = some (.int .i64 (R 6)) := HS.out.cell 7
     have r8 : wr.cell? ⟨w.heap.size + 1, 8, none⟩ = some (.int .i64 (R 7)) := HS.out.cell 8
     clear hm
     go_wp2_with fail
     go_ret
     have hgl := HGL.out
     refine OfEnd.yes HX3.out rfl (by omega) ?_ ?_
     rotate_left
     ·exact Bput (Bput (Bput (Bput (Bput (Bput (Bput (Bput HB.out (p := ⟨g, 4, none⟩) (by show w.heap.size <= g; omega) _) (p := ⟨g, 5, none⟩) (by show w.heap.size <= g; omega) _) (p := ⟨g, 6, none⟩) (by show w.heap.size <= g; omega) _) (p := ⟨g, 7, none⟩) (by show w.heap.size <= g; omega) _) (p := ⟨g, 8, none⟩) (by show w.heap.size <= g; omega) _) (p := ⟨g, 9, none⟩) (by show w.heap.size <= g; omega) _) (p := ⟨g, 10, none⟩) (by show w.heap.size <= g; omega) _) (p := ⟨g, 11, none⟩) (by show w.heap.size <= g; omega) _
     ·refine RMod.congr ((((((((HM.out.root (k := 0) (by omega) (R 0)).root (k := 1) (by omega) (R 1)).root (k := 2) (by omega) (R 2)).root (k := 3) (by omega) (R 3)).root (k := 4) (by omega) (R 4)).root (k := 5) (by omega) (R 5)).root (k := 6) (by omega) (R 6)).root (k := 7) (by omega) (R 7)) (fun x hx => ?_)
      rcases (by omega : x = 0 \/ x = 1 \/ x = 2 \/ x = 3 \/ x = 4 \/ x = 5 \/ x = 6 \/ x = 7) with rfl | rfl | rfl | rfl | rfl | rfl | rfl | rfl <;> simp [updF]
theorem r26Of_c (t p s : Int) (R : Nat -> Int) (A : Option Addr) (n c : Nat) (l : List (Int × Int)) (hl : l.length = n) (hn : n <= 80000) (hcn : n <= c /\ c <= maxLen) (w : World) (hin : BkIn w A l) :
  Calls Tryd.prog 9 #[.agg #[.int .i64 t, .int .i64 p, .int .i64 s], .agg #[.slice A n c, .int .i64 (R 0), .int .i64 (R 1), .int .i64 (R 2), .int .i64 (R 3), .int .i64 (R 4), .int .i64 (R 5), .int .i64 (R 6), .int .i64 (R 7)]] w fun e w' => OfEnd t p s R w (ofM t p s l R) e w' := by
 unfold ofM
 by_cases hr : rightB t p s = true
 ·rw [if_pos hr]
  exact r26Of_right t p s R A n c l _ hr hl hn hcn w hin rfl
 ·rw [if_neg hr]
  exact (r26Of_wrong t p s R A n c (by simpa using hr) w).mono (fun e w' h => OfEnd.no rfl h.1 h.2)
end
section
theorem isNaN64_c (a : Int) (w : World) : Calls Tryd.prog 87 #[.int .i64 a] w fun e w' => e = .returned (.bool false) /\ w = w' := by
 have e1 : (a != a) = false := by simp
 go_enter Tryd.func87, Tryd.ntmps87
 go_wp2
 go_ret
 exact ⟨rfl, rfl⟩
theorem compare64_c (a b x y : Int) (w : World) : Calls Tryd.prog 69 #[.int .i64 a, .int .i64 b] w fun e w' => e = .returned (.int .i64 (cmpB (a, x) (b, y))) /\ w = w' := by
 obtain ⟨z, hz⟩ : ∃ z, cmpB (a, x) (b, y) = z := ⟨_, rfl⟩
 rw [hz]
 have hc : (a < b /\ z = -1) \/ (b < a /\ z = 1) \/ (a = b /\ z = 0) := by
  rw [<- hz]
  unfold cmpB
  dsimp only
  rcases Int.lt_trichotomy a b with h | h | h
  ·exact .inl ⟨h, by rw [if_pos h]⟩
  ·exact .inr (.inr ⟨h, by rw [if_neg (by omega), if_neg (by omega)]⟩)
  ·exact .inr (.inl ⟨h, by rw [if_neg (by omega), if_pos h]⟩)
 clear hz
 rcases hc with ⟨h, rfl⟩ | ⟨h, rfl⟩ | ⟨h, rfl⟩
 ·have t1 : decide (a < b) = true := decide_eq_true h
  go_enter Tryd.func69, Tryd.ntmps69
  go_wp2_with fail
  refine (isNaN64_c a _).mono ?_; rintro e w1 ⟨rfl, rfl⟩
  go_wp2_with fail
  refine (isNaN64_c b _).mono ?_; rintro e w1 ⟨rfl, rfl⟩
  go_wp2
  go_ret
  exact ⟨rfl, rfl⟩
 ·have t1 : decide (a < b) = false := decide_eq_false (by omega)
  have t2 : decide (b < a) = true := decide_eq_true h
  go_enter Tryd.func69, Tryd.ntmps69
  go_wp2_with fail
  refine (isNaN64_c a _).mono ?_; rintro e w1 ⟨rfl, rfl⟩
  go_wp2_with fail
  refine (isNaN64_c b _).mono ?_; rintro e w1 ⟨rfl, rfl⟩
  go_wp2
  go_ret
  exact ⟨rfl, rfl⟩
 ·subst h
  have t1 : decide (a < a) = false := decide_eq_false (by omega)
  go_enter Tryd.func69, Tryd.ntmps69
  go_wp2_with fail
  refine (isNaN64_c a _).mono ?_; rintro e w1 ⟨rfl, rfl⟩
  go_wp2_with fail
  refine (isNaN64_c a _).mono ?_; rintro e w1 ⟨rfl, rfl⟩
  go_wp2
  go_ret
  exact ⟨rfl, rfl⟩
theorem byAddr_c (x y : Int × Int) (w : World) : Calls Tryd.prog 32 #[.agg #[.int .i64 x.1, .int .i64 x.2], .agg #[.int .i64 y.1, .int .i64 y.2]] w fun e w' => e = .returned (.int .i64 (cmpB x y)) /\ ∃ q os', w' = Go.Sort.grow (w.drewN q) os' := by
 obtain ⟨x1, x2⟩ := x
 obtain ⟨y1, y2⟩ := y
 have hcon := fun W' => compare64_c x1 y1 x2 y2 W'
 generalize cmpB (x1, x2) (y1, y2) = r at hcon ⊢
 go_enter Tryd.func32, Tryd.ntmps32
 go_wp2_with fail
 refine (hcon _).mono ?_; rintro e w1 ⟨rfl, rfl⟩
 go_wp2
 go_ret
 exact ⟨rfl, 0, _, by rw [Go.Sort.alloc_eq_grow, Go.Sort.alloc_eq_grow, Go.Sort.grow_grow]; rfl⟩
theorem byAddr_lays (blk off size : Nat) (w : World) : CmpLays Tryd.prog 32 #[] encB 2 cmpB blk off size w :=
 fun _ _ _ _ x y => byAddr_c x y _

theorem insSort0_c (A : Option Addr) (c : Nat) (fv : Value) (w : World) : Calls Tryd.prog 91 #[.slice A 0 c, .int .i64 0, .int .i64 0, fv] w fun e w' => e = .returned (.tuple #[]) /\ w = w' := by
 go_enter Tryd.func91, Tryd.ntmps91
 go_wp2_with fail
 refine wp_loop_rounds 1 ?_
 rw [rounds_succ]
 go_wp2_with fail
 go_end0
 exact ⟨rfl, rfl⟩
theorem pdq0_c (A : Option Addr) (c : Nat) (lim : Int) (fv : Value) (w : World) : Calls Tryd.prog 85 #[.slice A 0 c, .int .i64 0, .int .i64 0, .int .i64 lim, fv] w fun e w' => e = .returned (.tuple #[]) /\ w = w' := by
 go_enter Tryd.func85, Tryd.ntmps85
 go_wp2_with fail
 refine wp_loop_rounds 1 ?_
 rw [rounds_succ]
 go_wp2_with fail
 refine (insSort0_c A c fv _).mono ?_; rintro e w1 ⟨rfl, rfl⟩
 go_wp2_with fail
 (try simp only [Exit.inBlock, Exit.then])
 refine bodyPost_ret (results_none rfl _ _ _) rfl ?_
 exact ⟨rfl, rfl⟩
theorem bitsLen0_c (w : World) : Calls Tryd.prog 86 #[.int .u64 0] w fun e w' => (∃ n : Int, e = .returned (.int .i64 n)) /\ w' = w := by
 have h := Any.bits_Len (SlLaysF0.n15.bits (P := Tryd.prog) (ρ := Tryd.sortB_ren) { Go.Proofs.Tryd.sortB with }) 0 w (by omega) (by omega)
 exact h.mono fun e w' ⟨he, hw⟩ => ⟨⟨_, he⟩, hw⟩
theorem sort0_c (A : Option Addr) (c : Nat) (fv : Value) (w : World) : Calls Tryd.prog 67 #[.slice A 0 c, fv] w fun e w' => e = .returned (.tuple #[]) /\ w = w' := by
 have wr : IntKind.u64.wrap 0 = 0 := by decide
 go_enter Tryd.func67, Tryd.ntmps67
 go_wp2_with fail
 refine (bitsLen0_c _).mono ?_; rintro e w1 ⟨⟨n, rfl⟩, rfl⟩
 go_wp2_with fail
 refine (pdq0_c A c n fv _).mono ?_; rintro e w1 ⟨rfl, rfl⟩
 go_wp2_with fail
 go_end0
 exact ⟨rfl, rfl⟩
theorem sortB_own {base : Nat} {v : Value} {L : List (Int × Int)} {w : World} (hm : L.length < 4611686018427387904) (h : w.ownsRow base 55 2 v L.length (bkVs L)) :
  Calls Tryd.prog 67 #[v, .func (.func 32) #[] #[]] w fun e w' => e = .returned (.tuple #[]) /\ ∃ L' : List (Int × Int), L'.Perm L /\ L'.Pairwise (fun x y => x.1 <= y.1) /\ w'.ownsRow base 55 2 v L'.length (bkVs L') /\ w.grownBy w' v.ownBlock := by
 rcases h.2 with ⟨rfl, hz⟩ | ⟨g, cap, cur, rfl, hbase, hb, h1, h2, h3, h4⟩
 ·obtain rfl : L = [] := List.eq_nil_of_length_eq_zero hz
  refine (sort0_c none 0 _ w).mono ?_
  rintro e w' ⟨he, rfl⟩
  exact ⟨he, [], List.Perm.refl _, List.Pairwise.nil, h, World.grownBy.refl _ _⟩
 ·have eg : ∀ args w, (callFunc 32 args).run Tryd.prog w = .ok (.enter 32 args) w := enters_of Tryd.func32 (by kernel_rfl) rfl
  have hH : Go.Sort.HoldsK encB 2 w g 0 L.toArray := by
   unfold Go.Sort.HoldsK
   rw [flat_bk]
   exact holds_of_row hb (by rw [bkVs_len]; exact h4)
  have hs := AnyQ.slices_SortFunc Go.Proofs.Tryd.sortB 2 Tryd.isAgg55 Tryd.sizeOf55 encB (fun _ => rfl) (fun x v hv => by simp [encB] at hv; rcases hv with rfl | rfl <;> rfl) cmpB swo_b 32 #[] g 0 cap L.toArray w eg (byAddr_lays g 0 _ w) hH (Array.getElem?_eq_some_iff.1 hb).1 (by simpa using hm)
  change Calls Tryd.prog 67 _ _ _ at hs
  rw [show L.toArray.size = L.length from by simp] at hs
  refine hs.mono ?_
  rintro e w' ⟨he, d', n, os, hp, hso, rfl⟩
  have hp' : Go.Sort.PermIn 0 L.toArray.size L.toArray d' := by simpa using hp
  have hpl : d'.toList.Perm L := by simpa using perm_in hp'
  have hsz : d'.size = L.toArray.size := hp'.1
  have e2 : Go.Sort.flatK encB 2 d' = (bkVs d'.toList).toArray := by
   have := flat_bk d'.toList
   simpa using this
  have hl : d'.toList.length = L.length := hpl.length_eq
  refine ⟨he, d'.toList, hpl, sorted_in hsz (by simpa using hso), ?_, ?_⟩
  ·rw [hl]
   unfold sortWorldK Go.Sort.putRowK
   rw [e2]
   exact own_sorted (by rw [bkVs_len, hl]) hbase hb h1 h2 h3
  ·unfold sortWorldK Go.Sort.putRowK
   exact grown_sorted _
end
section
theorem ranges_same {H : Type} {P : Program} {k : TypeId} {R : Value -> Option (DataW H × List MemPlace)} {w w' : World} {b r n : Nat} {D : DataW H} {left : Lit -> Bool} {cnt : Nat} (h : w.ranges P k R b r n D left cnt) (hb : w'.heap[b]? = w.heap[b]?) (hr : w'.heap[r]? = w.heap[r]?) : w'.ranges P k R b r n D left cnt := by
 obtain ⟨es, clock, since, seen, c0, h1, h2, h3, h4, h5, h6⟩ := h
 exact ⟨es, clock, since, seen, c0, hb.trans h1, h2, h3, h4, hr.trans h5, h6⟩
def ValsAt (A : Option Addr) (n c : Nat) (l : List (Int × Int)) (bx : Nat) (w : World) : Prop := bx < w.heap.size /\ w.cell? ⟨bx, 0, none⟩ = some (.slice A n c) /\ BkIn w A l
theorem ValsAt.keep {A : Option Addr} {n c : Nat} {l : List (Int × Int)} {bx : Nat} {w w' : World} (h : ValsAt A n c l bx w) (hb : Below w.heap.size w w') : ValsAt A n c l bx w' :=
 ⟨Nat.lt_of_lt_of_le h.1 hb.size, (hb.cell (p := ⟨bx, 0, none⟩) h.1).trans h.2.1, h.2.2.below hb⟩
section
attribute [local go_sem] Oper.semAt_some
set_option maxHeartbeats 1600000 in
theorem values_seq (A : Option Addr) (n c : Nat) (l : List (Int × Int)) (hl : l.length = n) (hnc : n <= c) (hcm : c <= maxLen) (bx : Nat) :
  SeqXs Tryd.prog 81 #[.pointer (some ⟨bx, 0, none⟩)] (fun x : Int × Int => .agg #[.int .i64 x.1, .int .i64 x.2]) n (fun xs => xs = l) (ValsAt A n c l bx) := by
 intro lp J W F0 hW hJB hJT hJR hY hF0 h0
 refine callsIn_of_wp Tryd.func81 rfl trivial ?_ rfl
 simp only [Tryd.ntmps81, List.size_toArray, List.length_cons, List.length_nil, Nat.reduceAdd, Nat.reduceSub, Array.replicate_succ, Array.replicate_zero, List.push_toArray, List.append_toArray, List.nil_append, List.cons_append]
 have HJ0 : Hid (J (l.take 0) F0 W) := hidp h0
 have HJB := hidp hJB
 have HJR := hidp hJR
 have HY := hidp hY
 have HL := hidp hl
 have hc2 : c <= 9223372036854775807 := by unfold maxLen at hcm; omega
 have b0 := hW.2.1
 clear hJB hJT hJR hY h0 hW hl hF0
 gi_wp2_with fail
 gi_loopw [7] (fun u wr => ∃ (pos : Nat) (F : Nat -> Prop), u = .int .i64 (pos : Int) /\ pos <= n /\ Hid (J (l.take pos) F wr) /\ Hid (W.heap.size <= wr.heap.size)) (fun u _ => n - (intOf u).toNat)
 case atStart => exact ⟨0, F0, rfl, by omega, HJ0, hidp (Nat.le_refl _)⟩
 case round =>
  clear HJ0 b0
  obtain ⟨pos, F, rfl, hpos, HJS, HSZ⟩ := hrel
  by_cases hlt : pos < n
  ·obtain ⟨x, hx⟩ : ∃ x, l[pos]? = some x := ⟨_, List.getElem?_eq_getElem (by have := HL.out; omega)⟩
   obtain ⟨ad, eA, hbl, p0, p1⟩ := (HJR.out _ _ _ HJS.out).1.2.2 pos x hx
   subst eA
   have HTK : Hid (l.take (pos + 1) = l.take pos ++ [x]) := hidp (by rw [List.take_add_one, hx]; rfl)
   obtain ⟨x1, x2⟩ := x
   dsimp only at p0 p1
   have hJ2 := HJB.out _ _ _ _ HJS.out (Bnew (B0 wr) (.cells #[.int .i64 x1, .int .i64 x2] 55))
   obtain ⟨fn, tmps, assign, body, hy, hR⟩ := HY.out (l.take pos) (x1, x2) F _ hJ2 (by simp; have := HSZ.out; omega) (by rw [List.length_take]; have := HL.out; omega)
   have HRR := hidp hR
   have t0 : decide ((pos : Int) < n) = true := decide_eq_true (by omega)
   clear hR hx hJ2
   gi_wp2_with fail
   refine ⟨rfl, HRR.out.mono ?_⟩
   rintro e W3 ⟨rfl, hsz3, hk3, F', hJ3, hF3⟩
   have HJ3 : Hid (J (l.take (pos + 1)) F' W3) := hidp (by rw [HTK.out]; exact hJ3)
   have HS3 : Hid (W.heap.size <= W3.heap.size) := hidp (by have := HSZ.out; simp at hsz3; omega)
   clear hJ3 hk3 hF3 hsz3 HRR HY HJB hy p0 p1
   gi_wp2
   go_roundw
   case rel => exact ⟨pos + 1, F', by go_num, by omega, HJ3, HS3⟩
   case measure => simp [intOf] <;> omega
  ·obtain rfl : pos = n := by omega
   have t0 : decide ((pos : Int) < pos) = false := decide_eq_false (by omega)
   gi_wp2
   go_end0
   exact ⟨⟨_, rfl⟩, _, F, HJS.out, by rw [List.take_of_length_le (by rw [HL.out]; exact Nat.le_refl _)]⟩
end
theorem values_c (A : Option Addr) (n c : Nat) (w : World) : Calls Tryd.prog 54 #[.slice A n c] w fun e w' => e = .returned (.func (.func 81) #[] #[.pointer (some ⟨w.heap.size, 0, none⟩)]) /\ w' = w.alloc (.cells #[.slice A n c] 24) := by
 go_enter Tryd.func54, Tryd.ntmps54
 go_wp2
 go_ret
 exact ⟨rfl, rfl⟩
end
section
def KeysAt (m bx n : Nat) (D : DataW Unit) (o : Option Obj) (w : World) : Prop := bx < w.heap.size /\ w.cell? ⟨bx, 0, none⟩ = some (.map (some m)) /\ w.ownsMap Tryd.prog 55 unitElem m n D /\ w.heap[m]? = o
theorem KeysAt.keep {m bx n : Nat} {D : DataW Unit} {o : Option Obj} {w w' : World} (h : KeysAt m bx n D o w) (hb : Below w.heap.size w w') : KeysAt m bx n D o w' :=
 ⟨Nat.lt_of_lt_of_le h.1 hb.size, (hb.cell (p := ⟨bx, 0, none⟩) h.1).trans h.2.1, owns_turns h.2.2.1 (Turns.of_below hb (fun _ => False)) (fun x => x), (hb.block m h.2.2.1.lt).trans h.2.2.2⟩
section
attribute [local go_sem] Oper.semAt_some
set_option maxHeartbeats 1600000 in
theorem keys_seq (m bx n : Nat) (D : DataW Unit) (o : Option Obj) (L : List (Int × Int)) (hD : LiveIs D L) (hnd : L.Nodup) :
  SeqXs Tryd.prog 68 #[.pointer (some ⟨bx, 0, none⟩)] (fun x : Int × Int => .agg #[.int .i64 x.1, .int .i64 x.2]) L.length (fun xs => xs.Perm L) (KeysAt m bx n D o) := by
 intro lp J W F0 hW hJB hJT hJR hY hF0 h0
 refine callsIn_of_wp Tryd.func68 rfl trivial ?_ rfl
 simp only [Tryd.ntmps68, List.size_toArray, List.length_cons, List.length_nil, Nat.reduceAdd, Nat.reduceSub, Array.replicate_succ, Array.replicate_zero, List.push_toArray, List.append_toArray, List.nil_append, List.cons_append]
 have HJ0 := hidp h0
 have HJB := hidp hJB
 have HJT := hidp hJT
 have HJR := hidp hJR
 have HY := hidp hY
 have HD := hidp hD
 have HND := hidp hnd
 have HF0 := hidp hF0
 have b0 := hW.2.1
 have hown := hW.2.2.1
 have HW := hidp hW
 have invK : ∀ key kl, keyOf Tryd.prog 55 key = some kl -> ∃ x : Int × Int, key = .agg #[.int .i64 x.1, .int .i64 x.2] := fun key kl h => by
  obtain ⟨x, h1, _⟩ := bk_inv h
  exact ⟨x, h1⟩
 have invV : ∀ (v : Value) (y : DataW Unit × List MemPlace), unitElem v = some y -> ∃ c : Unit, v = .agg #[] := fun v y h => ⟨(), (unitElem_inv h).1⟩
 clear hJB hJT hJR hY h0 hW hD hnd hF0
 gi_wp2_with (first
  | (gi_at_range; refine wpListIn_range_own _ rfl _ 60 rfl 55 72 bkKey Tryd.underlying60 unitElem m n D rfl hown ?_; intro w0 hrg0 hg0 hs0)
  | gi_in)
 try go_frame
 have HB0 : Hid (Below W.heap.size W w0) := hidp (by exact ⟨hg0.os, hg0.tape, hg0.output, hg0.size, fun i hi => hg0.block i hi (by simp)⟩)
 have HJ1 : Hid (J [] F0 w0) := hidp (HJB.out _ _ _ _ HJ0.out HB0.out)
 have HC0 : Hid (CameB D (Maps.has D) []) := hidp (CameB.start D)
 have HN0 : Hid (¬ F0 W.heap.size) := hidp (fun h => by have := HF0.out _ h; omega)
 clear hown hs0
 gi_loopw [3] (fun _ wr => ∃ (left : Lit -> Bool) (cnt : Nat) (ss : List (Int × Int)) (F : Nat -> Prop), wr.ranges Tryd.prog 55 unitElem m W.heap.size n D left cnt /\ Hid (ss.length + cnt <= L.length) /\ Hid (CameB D left ss) /\ Hid (J ss F wr) /\ Hid (¬ F W.heap.size) /\ Hid (W.heap.size + 1 <= wr.heap.size))
  (fun _ wr => wr.rangeLeft m W.heap.size)
 case atStart => exact ⟨_, _, [], F0, hrg0, hidp (by rw [HD.out.size]; simp), HC0, HJ1, HN0, hidp (by have := hrg0.lt; omega)⟩
 case round =>
  clear HJ0 b0 HB0 HJ1 HC0 HN0 hrg0 hg0
  obtain ⟨left, cnt, ss, F, hrg, HCN, HC, HJS, HNF, HSZ⟩ := hrel
  gi_wp2_with (first
   | (gi_at_next; refine wpListIn_next_ranges _ rfl _ rfl 55 bkKey unitElem (fun x : Int × Int => .agg #[.int .i64 x.1, .int .i64 x.2]) (fun _ : Unit => .agg #[]) invK invV m W.heap.size n _ _ _ rfl hrg ?_ ?_)
   | gi_in)
  ·intro hc0 hl0
   gi_wp2
   go_end0
   exact ⟨⟨_, rfl⟩, ss, F, HJS.out, HC.out.done hl0 HD.out HND.out⟩
  ·intro x1 x2 kl yd yp w2 cnt2 hkey hlk hv hat hrg2 hlt hg2 hs2 hen
   obtain ⟨⟨y1, y2⟩, he, hw1, hw2, hkl⟩ := bk_inv hkey
   simp only [bkV, Value.agg.injEq] at he hw1 hw2 hkl
   obtain ⟨rfl, rfl⟩ : x1 = y1 /\ x2 = y2 := by simpa using he
   subst hkl
   have hhas := has_true_of_atKey hat
   have hJ2 := HJT.out _ _ _ _ W.heap.size HJS.out (Nat.le_refl _) HNF.out (Turns.of_grown hg2 rfl)
   have HM2 : Hid (w2.heap[m]? = o) := hidp (HJR.out _ _ _ hJ2).1.2.2.2
   have hJ3 := HJB.out _ _ _ _ hJ2 (Bnew (B0 w2) (.cells #[.int .i64 x1, .int .i64 x2] 55))
   have HLT : Hid (cnt2 < cnt) := hidp hlt
   obtain ⟨fn, tmps, assign, body, hy, hR⟩ := HY.out ss (x1, x2) F _ hJ3 (by simp; have := HSZ.out; omega) (by have := HCN.out; have := HLT.out; omega)
   have HRR := hidp hR
   have HCC := hidp (HC.out.step (x := (x1, x2)) ⟨hw1, hw2⟩ hlk hhas)
   have HRG2 := hidp hrg2
   have HRG := hidp hrg
   have HS2 : Hid (w2.heap.size = wr.heap.size) := hidp hs2
   clear hR hJ2 hJ3 hs2 hrg2 he hat hv hkey hlk hhas hlt hg2 hrg
   gi_wp2_with fail
   refine ⟨rfl, HRR.out.mono ?_⟩
   rintro e W3 ⟨rfl, hsz3, hk3, F', hJ3, hF3⟩
   have HJ3 := hidp hJ3
   have HS3 : Hid (W.heap.size + 1 <= W3.heap.size) := hidp (by have := HSZ.out; have := HS2.out; simp at hsz3; omega)
   have HN3 : Hid (¬ F' W.heap.size) := hidp (fun h => by
    have := HSZ.out
    have := HS2.out
    rcases hF3 _ h with h1 | h1
    ·exact HNF.out h1
    ·simp at h1; omega)
   have HM : Hid (W3.heap[m]? = w2.heap[m]?) := hidp (by
    have a1 := (HJR.out _ _ _ hJ3).1.2.2.2
    have a3 := HM2.out
    rw [a1, a3])
   have hrg3 : W3.ranges Tryd.prog 55 unitElem m W.heap.size n D _ cnt2 := ranges_same HRG2.out HM.out (by
    have := hk3 W.heap.size (Nat.le_refl _) (by have := HSZ.out; have := HS2.out; simp; omega) HNF.out
    rw [this]
    exact Below.heap_alloc _ _ _ (by have := HSZ.out; have := HS2.out; omega))
   clear hJ3 hk3 hF3 hsz3 HRR HY HJB HJT hy
   gi_wp2
   go_roundw
   case rel => exact ⟨_, cnt2, ss ++ [(x1, x2)], F', hrg3, hidp (by have := HCN.out; have := HLT.out; simp; omega), HCC, HJ3, HN3, HS3⟩
   case measure => rw [hrg3.left_eq, HRG.out.left_eq]; exact HLT.out
end
theorem keys_c (m : Nat) (w : World) : Calls Tryd.prog 31 #[.map (some m)] w fun e w' => e = .returned (.func (.func 68) #[] #[.pointer (some ⟨w.heap.size, 0, none⟩)]) /\ w' = w.alloc (.cells #[.map (some m)] 60) := by
 go_enter Tryd.func31, Tryd.ntmps31
 go_wp2
 go_ret
 exact ⟨rfl, rfl⟩
end
section
abbrev encV (x : Int × Int) : Value := .agg #[.int .i64 x.1, .int .i64 x.2]
def AppAt (w : World) (b : Nat) (xs : List (Int × Int)) (F : Nat -> Prop) (A : World) : Prop :=
 ∃ v, Held A b 24 #[v] /\ A.ownsRow (w.heap.size + 1) 55 2 v xs.length (bkVs xs) /\ Below w.heap.size w A /\ F = (fun i => i = b \/ v.ownBlock = some i)
theorem AppAt.turn {w A B : World} {b k : Nat} {xs : List (Int × Int)} {F : Nat -> Prop} (h : AppAt w b xs F A) (hk : w.heap.size <= k) (hF : ¬ F k) (ht : Turns (fun i => i = k) A B) : AppAt w b xs F B := by
 obtain ⟨v, h1, h2, h3, rfl⟩ := h
 refine ⟨v, ht.held h1 (fun e => hF (.inl e.symm)), own_kept h2 (fun g hg => ht.block g (h2.lt g hg).2 (fun e => hF (.inr (by rw [<- e]; exact hg)))), ht.below h3 (fun i hi => by omega), rfl⟩
theorem AppAt.keep {w A B : World} {b : Nat} {xs : List (Int × Int)} {F : Nat -> Prop} (h : AppAt w b xs F A) (hb : Below A.heap.size A B) : AppAt w b xs F B := by
 obtain ⟨v, h1, h2, h3, rfl⟩ := h
 exact ⟨v, h1.keep hb, own_below h2 hb, Bgo h3 hb, rfl⟩
theorem AppAt.lt {w A : World} {b : Nat} {xs : List (Int × Int)} {F : Nat -> Prop} (h : AppAt w b xs F A) : ∀ i, F i -> i < A.heap.size := by
 obtain ⟨v, h1, h2, h3, rfl⟩ := h
 rintro i (rfl | hi)
 ·exact h1.lt
 ·exact (h2.lt i hi).2
section
variable {gf : Nat} {cap : Array Value} {N : Nat} {fin : List (Int × Int) -> Prop} {R : World -> Prop}
set_option maxHeartbeats 3200000 in
theorem appendSeq_c (w : World) (hseq : SeqXs Tryd.prog gf cap encV N fin R) (eg : ∀ args w, (callFunc gf args).run Tryd.prog w = .ok (.enter gf args) w) (hN : N <= 2 ^ 40) (hR : ∀ A, Below w.heap.size w A -> R A) (hRk : ∀ A B, R A -> Below A.heap.size A B -> R B) :
    Calls Tryd.prog 84 #[.slice none 0 0, .func (.func gf) #[] cap] w fun e w' => ∃ (v : Value) (xs : List (Int × Int)), e = .returned v /\ fin xs /\ w'.ownsRow w.heap.size 55 2 v xs.length (bkVs xs) /\ Below w.heap.size w w' := by
  obtain ⟨j0, hjn, hjz0, hjz1, hjz2⟩ := info_parts blockInfo
  have HSEQ := hidp hseq
  have HRR := hidp hR
  have HRK := hidp hRk
  have HNN := hidp hN
  clear hseq hR hRk hN
  refine calls_of_wp_mark Tryd.func84 rfl ?_
  simp only [Tryd.ntmps84, List.size_toArray, List.length_cons, List.length_nil, Nat.reduceAdd, Nat.reduceSub, Array.replicate_succ, Array.replicate_zero, List.push_toArray, List.append_toArray, List.nil_append, List.cons_append]
  go_wp2_with fail
  have HB0 := hidp (Bnew (B0 w) (.cells #[.slice none 0 0] 24))
  have HS0 : Hid ((w.alloc (.cells #[.slice none 0 0] 24)).heap.size = w.heap.size + 1) := hidp (by simp)
  have HA0 : Hid (AppAt w w.heap.size [] (fun i => i = w.heap.size) (w.alloc (.cells #[.slice none 0 0] 24))) := hidp ⟨.slice none 0 0, Held.new w _ _, ⟨rfl, .inl ⟨rfl, rfl⟩⟩, HB0.out, by funext i; simp [Value.ownBlock]⟩
  refine wp_seq_xs (gf := gf) (cap := cap) (enc := encV) (N := N) (fin := fin) (R := R) rfl eg HSEQ.out (HRR.out _ HB0.out) HRK.out rfl
    (fun xs F A => Hid (AppAt w w.heap.size xs F A)) ?hIB ?hI ?hIR (F0 := fun i => i = w.heap.size) HA0 ?round ?done
  case hIB => intro xs F A B h hb; exact hidp (h.out.keep hb)
  case hI => intro xs F A B k h hk hF ht; exact hidp (h.out.turn (by have := HS0.out; omega) hF ht)
  case hIR =>
    intro xs F A h
    refine ⟨HRR.out _ ?_, h.out.lt⟩
    obtain ⟨v, _, _, h3, _⟩ := h.out
    exact h3
  case round =>
    rintro l xs x F A hlt hI hsz hF
    obtain ⟨x1, x2⟩ := x
    gi_wp2_with (rw [Oper.semAt_eq _ _ _ (fun c h => by cases h)]; go_simp; try go_bits)
    refine ⟨Bnew (B0 _) _, fun A2 hT hs2 => ?_⟩
    have HA1 : Hid (AppAt w w.heap.size xs F A2) := hidp ((hI.out.keep (Bnew (B0 _) (.cells #[.int .i64 x1, .int .i64 x2] 55))).turn (by have := HS0.out; omega) hF.2 hT)
    have HX : Hid (Held A2 A.heap.size 55 #[.int .i64 x1, .int .i64 x2]) := hidp (hT.held (Held.new A _ _) (by have := HS0.out; omega))
    have HSA : Hid (A.heap.size <= A2.heap.size) := hidp (by rw [hs2]; simp)
    have HSZ : Hid (w.heap.size + 3 <= A.heap.size) := hidp (by have := HS0.out; omega)
    have HLT : Hid (xs.length < N) := hidp hlt
    clear hI hT hs2 hF hsz hlt
    obtain ⟨v, h1, h2, h3, hFv⟩ := HA1.out
    have HFV := hidp hFv
    have HH := hidp h1
    have HO := hidp h2
    have HBB := hidp h3
    have HVN : Hid (∀ g, v.ownBlock = some g -> w.heap.size + 1 <= g /\ g < A2.heap.size) := hidp (fun g hg => ⟨(h2.lt g hg).1, (h2.lt g hg).2⟩)
    have c0 := h1.cell 0
    have f0 := h1.thawed 0
    obtain ⟨y0, y1⟩ := HX.out.two
    clear h1 h2 h3 hFv HA1
    gi_wp2_with (first
      | (gi_at_builtin
         refine wpListIn_append_own_at _ rfl _ _ 24 rfl (w.heap.size + 1) 55 j0 (.agg #[.int .i64 0, .int .i64 0]) 2 16 Tryd.underlying24 hjn hjz0 hjz1 hjz2 rfl (by decide) v xs.length (bkVs xs) rfl (HO.out.alloc _) ⟨_, 0, none⟩ 1 1 [.int .i64 x1, .int .i64 x2] rfl rfl ?c1 ?c2 ?c3 ?c4 ?c5 ?_
         case c1 => intro j y hy; rcases j with _ | _ | j; (· simp at hy; subst hy; simp [Addr.add]); (· simp at hy; subst hy; simp [Addr.add]); (· simp at hy)
         case c2 => simp [Value.oneCell']
         case c3 => unfold maxLen; have := HLT.out; have := HNN.out; omega
         case c4 => have := HLT.out; have := HNN.out; omega
         case c5 => have := HSZ.out; have := HSA.out; simp; omega
         intro v' w3 hown3 hg3 _ hat3
         have HAT := hidp hat3
         obtain ⟨g', cap', rfl, hg1, hg2⟩ := hown3.form (by omega)
         have HO3 := hidp hown3
         have HG3 := hidp hg3
         have hh3 : Held w3 w.heap.size 24 #[v] := (hg3.block w.heap.size (by have := HSZ.out; have := HSA.out; simp; omega) (fun e => by have := HVN.out _ e.symm; omega)).trans (HH.out.alloc _)
         have HH3 := hidp hh3
         have c3 := hh3.cell 0
         have f3 := hh3.thawed 0
         clear hown3 hg3 hh3 hat3)
      | (rw [Oper.semAt_eq _ _ _ (fun c h => by cases h)]; go_simp; try go_bits))
    have hb3 : Below w.heap.size w w3 := ((Bnew HBB.out (.cells #[.int .i64 x1, .int .i64 x2] 55))).grown HG3.out (by have := HSZ.out; have := HSA.out; simp; omega) (fun j hj => by have := HVN.out j hj; omega)
    have hgb : g' ≠ w.heap.size := by
      have := (HO3.out.lt g' rfl).1
      omega
    have HT : Turns F A2 (w3.setCell ⟨w.heap.size, 0, none⟩ (.slice (some ⟨g', 0, none⟩) (xs.length + 1) cap')) := by
      have a1 : Turns F A2 (A2.alloc (.cells #[.int .i64 x1, .int .i64 x2] 55)) := Turns.of_below (Bnew (B0 _) _) F
      have a2 : Turns F (A2.alloc (.cells #[.int .i64 x1, .int .i64 x2] 55)) w3 := ⟨HG3.out.os, HG3.out.tape, HG3.out.output, HG3.out.size, fun i hi hf => HG3.out.block i hi (fun e => hf (by rw [HFV.out]; exact .inr e.symm))⟩
      exact (a1.trans a2).put (p := ⟨w.heap.size, 0, none⟩) (by rw [HFV.out]; exact .inl rfl) _
    refine ⟨HT, fun i => i = w.heap.size \/ i = g', hidp ⟨_, HH3.out.put 0 _, ?_, hb3.setCell (Nat.le_refl _) _, by funext i; simp [Value.ownBlock, eq_comm]⟩, ?_⟩
    · have := own_kept HO3.out (w' := w3.setCell ⟨w.heap.size, 0, none⟩ (.slice (some ⟨g', 0, none⟩) (xs.length + 1) cap')) (fun g hg => Below.heap_setCell w3 _ _ g (fun e => hgb (by injection hg with hg; exact hg.trans e)))
      rw [bkVs_snoc]
      simpa using this
    · rintro i (rfl | rfl)
      · exact .inl (by rw [HFV.out]; exact .inl rfl)
      · rcases HAT.out with e | e
        · exact .inl (by rw [HFV.out]; exact .inr e.symm)
        · refine .inr ?_
          have e : some i = some (A2.alloc (.cells #[.int .i64 x1, .int .i64 x2] 55)).heap.size := e
          injection e with e
          rw [e]
          have := HSA.out
          simp
          omega
  case done =>
    rintro xs F A hfin hI hF hk
    obtain ⟨v, h1, h2, h3, hFv⟩ := hI.out
    have HFV := hidp hFv
    have HH := hidp h1
    have HO := hidp h2
    have HBB := hidp h3
    have HFIN := hidp hfin
    have HK := hidp hk
    have HFN := hidp hF.1
    have c0 := h1.cell 0
    clear h1 h2 h3 hFv hI hfin hF hk
    go_wp2_with fail
    refine mark_end rfl HK.out ?_
    refine bodyPost_ret (v := v) (by simp [results, Tryd.results84, go_sem]) rfl ⟨v, xs, rfl, HFIN.out, ?_, ?_⟩
    · have h := own_kept (own_down HO.out (base' := w.heap.size) (by omega)) (w' := A.putObj (w.alloc (.cells #[.slice none 0 0] 24)).heap.size (.deferred none)) (fun g hg => World.putObj_heap_other (fun e => ?_))
      · exact h
      · have h1 := HFN.out
        rw [HFV.out] at h1
        exact h1 (.inr (by rw [hg, e]))
    · exact HBB.out.grown (grownBy_putObj' A _ _) HBB.out.size (fun k e => by cases e; have := HS0.out; omega)
theorem collect_c (w : World) (hseq : SeqXs Tryd.prog gf cap encV N fin R) (eg : ∀ args w, (callFunc gf args).run Tryd.prog w = .ok (.enter gf args) w) (hN : N <= 2 ^ 40) (hR : ∀ A, Below w.heap.size w A -> R A) (hRk : ∀ A B, R A -> Below A.heap.size A B -> R B) :
  Calls Tryd.prog 66 #[.func (.func gf) #[] cap] w fun e w' => ∃ (v : Value) (xs : List (Int × Int)), e = .returned v /\ fin xs /\ w'.ownsRow w.heap.size 55 2 v xs.length (bkVs xs) /\ Below w.heap.size w w' := by
 have HC := hidp (appendSeq_c w hseq eg hN hR hRk)
 clear hseq hR hRk
 go_enter Tryd.func66, Tryd.ntmps66
 go_wp2_with fail
 refine HC.out.mono ?_; rintro e w1 ⟨v, xs, rfl, h1, h2, h3⟩
 have H := hidp (And.intro h1 (And.intro h2 h3))
 clear h1 h2 h3
 go_wp2_with fail
 go_ret
 exact ⟨v, xs, rfl, H.out⟩
theorem sortedFunc_c (w : World) (hseq : SeqXs Tryd.prog gf cap encV N fin R) (eg : ∀ args w, (callFunc gf args).run Tryd.prog w = .ok (.enter gf args) w) (hN : N <= 2 ^ 40) (hfl : ∀ xs, fin xs -> xs.length <= N) (hR : ∀ A, Below w.heap.size w A -> R A) (hRk : ∀ A B, R A -> Below A.heap.size A B -> R B) :
  Calls Tryd.prog 30 #[.func (.func gf) #[] cap, .func (.func 32) #[] #[]] w fun e w' => ∃ (v : Value) (xs ys : List (Int × Int)), e = .returned v /\ fin xs /\ ys.Perm xs /\ ys.Pairwise (fun x y => x.1 <= y.1) /\ w'.ownsRow w.heap.size 55 2 v ys.length (bkVs ys) /\ Below w.heap.size w w' := by
 have HC := hidp (collect_c w hseq eg hN hR hRk)
 have HFL := hidp hfl
 clear hseq hR hRk hfl
 go_enter Tryd.func30, Tryd.ntmps30
 go_wp2_with fail
 refine HC.out.mono ?_; rintro e w1 ⟨v, xs, rfl, h1, h2, h3⟩
 have H := hidp (And.intro h1 (And.intro h2 h3))
 have HL := hidp (HFL.out xs h1)
 clear h1 h2 h3
 go_wp2_with fail
 refine (sortB_own (L := xs) (by have := HL.out; omega) H.out.2.1).mono ?_; rintro e w2 ⟨rfl, ys, h4, h5, h6, h7⟩
 have H2 := hidp (And.intro h4 (And.intro h5 (And.intro h6 h7)))
 clear h4 h5 h6 h7
 go_wp2_with fail
 go_ret
 exact ⟨v, xs, ys, rfl, H.out.1, H2.out.1, H2.out.2.1, H2.out.2.2.1, H.out.2.2.grown H2.out.2.2.2 H.out.2.2.size (fun k hk => (H.out.2.1.lt k hk).1)⟩
end
end
section
theorem mdMade_c {w : World} {g : Nat} {T : TypeId} {t p s : Int} {m : Nat} {R : Nat -> Int} (h : Held w g T (mC t p s (.map (some m)) R)) : Calls Tryd.prog 26 #[.pointer (some ⟨g, 0, none⟩)] w fun e w' => e = .returned (.bool true) /\ Below w.heap.size w w' := by
 obtain ⟨_, _, _, x3⟩ := mod_cells h
 have hmn : ∀ W, (binOp BinOp.neq 60 (.map (some m)) (.map none)).run Tryd.prog W = .ok (.bool true) W := fun W => by kernel_rfl
 go_enter Tryd.func26, Tryd.ntmps26
 go_wp2
 go_ret
 exact ⟨rfl, by repeat (first | exact B0 _ | (with_reducible refine Bdrew ?_) | (with_reducible refine Bdraw ?_ _))⟩
theorem mdMade_nil (w : World) : Calls Tryd.prog 26 #[.pointer none] w fun e w' => e = .returned (.bool false) /\ Below w.heap.size w w' := by
 go_enter Tryd.func26, Tryd.ntmps26
 go_wp2
 go_ret
 exact ⟨rfl, by repeat (first | exact B0 _ | (with_reducible refine Bdrew ?_) | (with_reducible refine Bdraw ?_ _))⟩

set_option maxHeartbeats 1600000 in
theorem mdIn_a {w : World} {g : Nat} {T : TypeId} {u : Value} {R : Nat -> Int} (t p s a z G Y : Int) (hX : Held w g T (mC t p s u R)) (hg : (pageN t p s : Int) = G) (hy : (bytesN t p s : Int) = Y) (hG : 0 <= G /\ G <= 1048576) (hY : 0 <= Y /\ Y <= 2147483648) (hz : -9223372036854775808 <= z /\ z <= 9223372036854775807) (h1 : z < 1) :
  Calls Tryd.prog 55 #[.pointer (some ⟨g, 0, none⟩), .agg #[.int .i64 a, .int .i64 z]] w fun e w' => e = .returned (.bool false) /\ Below w.heap.size w w' := by
 have HX := hidp (Held.new w 55 #[.int .i64 a, .int .i64 z])
 have HG := hidp (hX.alloc (.cells #[.int .i64 a, .int .i64 z] 55))
 have HB := hidp (Bnew (B0 w) (.cells #[.int .i64 a, .int .i64 z] 55))
 have HPG := hidp hg
 have HPY := hidp hy
 have t0 : decide (1 <= z) = false := decide_eq_false (by omega)
 clear hX hg hy
 obtain ⟨m0, m1, m2, m3⟩ := mod_cells HG.out
 go_enter Tryd.func55, Tryd.ntmps55
 go_wp2_with fail
 refine (cfPage_c t p s _).mono ?_; rintro e w1 ⟨rfl, hb⟩; rw [HPG.out]
 replace HX := hidp (HX.out.keep hb)
 replace HG := hidp (HG.out.keep hb)
 replace HB := hidp (Bgo HB.out hb)
 clear hb m0 m1 m2 m3
 obtain ⟨x0, x1⟩ := HX.out.two
 obtain ⟨m0, m1, m2, m3⟩ := mod_cells HG.out
 go_wp2_with fail
 clear x0 x1 m0 m1 m2 m3
 replace HX := hidp (HX.out.keep (Bdrew (B0 _)))
 replace HG := hidp (HG.out.keep (Bdrew (B0 _)))
 replace HB := hidp (Bgo HB.out (Bdrew (B0 _)))
 refine wp_region_held_drew (S := (fun w' => (w'.cell? ⟨w.heap.size, 0, none⟩ = some (.int .i64 a) /\ w'.cell? ⟨w.heap.size, 1, none⟩ = some (.int .i64 z)) /\ (w'.cell? ⟨g, 0, none⟩ = some (.int .i64 t) /\ w'.cell? ⟨g, 1, none⟩ = some (.int .i64 p) /\ w'.cell? ⟨g, 2, none⟩ = some (.int .i64 s) /\ w'.cell? ⟨g, 3, none⟩ = some u))) (by kernel_rfl) ?_ (fun hHeld => ?_)
 ·(try dsimp only)
  first | exact ⟨HX.out.two, mod_cells HG.out⟩ | exact hHeld
 refine tkz 0 ?_
 refine tkz 1 ?_
 refine tkz 2 ?_
 refine tkz 3 ?_
 refine skz 4 ?_
 refine skz 5 ?_
 refine skz 6 ?_
 refine skz 7 ?_
 refine tkz 8 ?_
 refine tkz 9 ?_
 refine skz 10 ?_
 refine skz 11 ?_
 refine skz 12 ?_
 refine skz 13 ?_
 refine skz 14 ?_
 refine skz 15 ?_
 refine skz 16 ?_
 refine skz 17 ?_
 refine skz 18 ?_
 refine skz 19 ?_
 refine skz 20 ?_
 refine skz 21 ?_
 refine skz 22 ?_
 refine tkz 23 ?_
 refine tkz 24 ?_
 refine dnz ?_
 go_wp2_with fail
 go_ret
 exact ⟨by first | rfl | (refine ret_bool ?_; simp; done) | (refine ret_bool ?_; simp; omega), HB.out⟩

set_option maxHeartbeats 1600000 in
theorem mdIn_b {w : World} {g : Nat} {T : TypeId} {u : Value} {R : Nat -> Int} (t p s a z G Y : Int) (hX : Held w g T (mC t p s u R)) (hg : (pageN t p s : Int) = G) (hy : (bytesN t p s : Int) = Y) (hG : 0 <= G /\ G <= 1048576) (hY : 0 <= Y /\ Y <= 2147483648) (hz : -9223372036854775808 <= z /\ z <= 9223372036854775807) (h1 : 1 <= z) (h2 : a < G) :
  Calls Tryd.prog 55 #[.pointer (some ⟨g, 0, none⟩), .agg #[.int .i64 a, .int .i64 z]] w fun e w' => e = .returned (.bool false) /\ Below w.heap.size w w' := by
 have HX := hidp (Held.new w 55 #[.int .i64 a, .int .i64 z])
 have HG := hidp (hX.alloc (.cells #[.int .i64 a, .int .i64 z] 55))
 have HB := hidp (Bnew (B0 w) (.cells #[.int .i64 a, .int .i64 z] 55))
 have HPG := hidp hg
 have HPY := hidp hy
 have t0 : decide (1 <= z) = true := decide_eq_true (by omega)
 have t1 : decide (G <= a) = false := decide_eq_false (by omega)
 clear hX hg hy
 obtain ⟨m0, m1, m2, m3⟩ := mod_cells HG.out
 go_enter Tryd.func55, Tryd.ntmps55
 go_wp2_with fail
 refine (cfPage_c t p s _).mono ?_; rintro e w1 ⟨rfl, hb⟩; rw [HPG.out]
 replace HX := hidp (HX.out.keep hb)
 replace HG := hidp (HG.out.keep hb)
 replace HB := hidp (Bgo HB.out hb)
 clear hb m0 m1 m2 m3
 obtain ⟨x0, x1⟩ := HX.out.two
 obtain ⟨m0, m1, m2, m3⟩ := mod_cells HG.out
 go_wp2_with fail
 clear x0 x1 m0 m1 m2 m3
 replace HX := hidp (HX.out.keep (Bdrew (B0 _)))
 replace HG := hidp (HG.out.keep (Bdrew (B0 _)))
 replace HB := hidp (Bgo HB.out (Bdrew (B0 _)))
 refine wp_region_held_drew (S := (fun w' => (w'.cell? ⟨w.heap.size, 0, none⟩ = some (.int .i64 a) /\ w'.cell? ⟨w.heap.size, 1, none⟩ = some (.int .i64 z)) /\ (w'.cell? ⟨g, 0, none⟩ = some (.int .i64 t) /\ w'.cell? ⟨g, 1, none⟩ = some (.int .i64 p) /\ w'.cell? ⟨g, 2, none⟩ = some (.int .i64 s) /\ w'.cell? ⟨g, 3, none⟩ = some u))) (by kernel_rfl) ?_ (fun hHeld => ?_)
 ·(try dsimp only)
  first | exact ⟨HX.out.two, mod_cells HG.out⟩ | exact hHeld
 refine tkz 0 ?_
 refine tkz 1 ?_
 refine tkz 2 ?_
 refine tkz 3 ?_
 refine tkz 4 ?_
 refine tkz 5 ?_
 refine tkz 6 ?_
 refine tkz 7 ?_
 refine tkz 8 ?_
 refine tkz 9 ?_
 refine skz 10 ?_
 refine skz 11 ?_
 refine skz 12 ?_
 refine skz 13 ?_
 refine skz 14 ?_
 refine skz 15 ?_
 refine skz 16 ?_
 refine skz 17 ?_
 refine skz 18 ?_
 refine skz 19 ?_
 refine skz 20 ?_
 refine skz 21 ?_
 refine skz 22 ?_
 refine tkz 23 ?_
 refine tkz 24 ?_
 refine dnz ?_
 go_wp2_with fail
 go_ret
 exact ⟨by first | rfl | (refine ret_bool ?_; simp; done) | (refine ret_bool ?_; simp; omega), HB.out⟩

set_option maxHeartbeats 1600000 in
theorem mdIn_c {w : World} {g : Nat} {T : TypeId} {u : Value} {R : Nat -> Int} (t p s a z G Y : Int) (hX : Held w g T (mC t p s u R)) (hg : (pageN t p s : Int) = G) (hy : (bytesN t p s : Int) = Y) (hG : 0 <= G /\ G <= 1048576) (hY : 0 <= Y /\ Y <= 2147483648) (hz : -9223372036854775808 <= z /\ z <= 9223372036854775807) (h1 : 1 <= z) (h2 : G <= a) (h3 : G + Y - z < a) :
  Calls Tryd.prog 55 #[.pointer (some ⟨g, 0, none⟩), .agg #[.int .i64 a, .int .i64 z]] w fun e w' => e = .returned (.bool false) /\ Below w.heap.size w w' := by
 have HX := hidp (Held.new w 55 #[.int .i64 a, .int .i64 z])
 have HG := hidp (hX.alloc (.cells #[.int .i64 a, .int .i64 z] 55))
 have HB := hidp (Bnew (B0 w) (.cells #[.int .i64 a, .int .i64 z] 55))
 have HPG := hidp hg
 have HPY := hidp hy
 have t0 : decide (1 <= z) = true := decide_eq_true (by omega)
 have t1 : decide (G <= a) = true := decide_eq_true (by omega)
 have hw1 : IntKind.i64.wrap (G + Y) = G + Y := i64_same (by omega) (by omega)
 have hw2 : IntKind.i64.wrap (G + Y - z) = G + Y - z := i64_same (by omega) (by omega)
 have t2 : decide (a <= G + Y - z) = false := decide_eq_false (by omega)
 clear hX hg hy
 obtain ⟨m0, m1, m2, m3⟩ := mod_cells HG.out
 go_enter Tryd.func55, Tryd.ntmps55
 go_wp2_with fail
 refine (cfPage_c t p s _).mono ?_; rintro e w1 ⟨rfl, hb⟩; rw [HPG.out]
 replace HX := hidp (HX.out.keep hb)
 replace HG := hidp (HG.out.keep hb)
 replace HB := hidp (Bgo HB.out hb)
 clear hb m0 m1 m2 m3
 obtain ⟨x0, x1⟩ := HX.out.two
 obtain ⟨m0, m1, m2, m3⟩ := mod_cells HG.out
 go_wp2_with fail
 clear x0 x1 m0 m1 m2 m3
 replace HX := hidp (HX.out.keep (Bdrew (B0 _)))
 replace HG := hidp (HG.out.keep (Bdrew (B0 _)))
 replace HB := hidp (Bgo HB.out (Bdrew (B0 _)))
 refine wp_region_held_drew (S := (fun w' => (w'.cell? ⟨w.heap.size, 0, none⟩ = some (.int .i64 a) /\ w'.cell? ⟨w.heap.size, 1, none⟩ = some (.int .i64 z)) /\ (w'.cell? ⟨g, 0, none⟩ = some (.int .i64 t) /\ w'.cell? ⟨g, 1, none⟩ = some (.int .i64 p) /\ w'.cell? ⟨g, 2, none⟩ = some (.int .i64 s) /\ w'.cell? ⟨g, 3, none⟩ = some u))) (by kernel_rfl) ?_ (fun hHeld => ?_)
 ·(try dsimp only)
  first | exact ⟨HX.out.two, mod_cells HG.out⟩ | exact hHeld
 refine tkz 0 ?_
 refine tkz 1 ?_
 refine tkz 2 ?_
 refine tkz 3 ?_
 refine tkz 4 ?_
 refine tkz 5 ?_
 refine tkz 6 ?_
 refine tkz 7 ?_
 refine tkz 8 ?_
 refine tkz 9 ?_
 refine tkz 10 ?_
 refine tkz 11 ?_
 refine tkz 12 ?_
 refine tkz 13 ?_
 refine tkz 14 ?_
 refine tkz 15 ?_
 refine tkz 16 ?_
 refine tkz 19 ?_
 refine tkz 20 ?_
 refine rdz 17 fun K hK => ?_
 go_simp
 (refine (cfBytes_c t p s _).mono ?_; rintro e w1 ⟨rfl, hb⟩; rw [HPY.out]; replace HX := hidp (HX.out.keep hb); replace HG := hidp (HG.out.keep hb); replace HB := hidp (Bgo HB.out hb); clear hb)
 refine hK.out _ _ ?_ (fun hHeld => ?_)
 ·(try dsimp only)
  first | exact ⟨HX.out.two, mod_cells HG.out⟩ | exact hHeld
 clear hK K
 (try simp only [Act.put, gA, gB, gC, sA, sB, sC])
 refine tkz 18 ?_
 refine tkz 21 ?_
 refine tkz 22 ?_
 refine tkz 23 ?_
 refine tkz 24 ?_
 refine dnz ?_
 go_wp2_with fail
 go_ret
 exact ⟨by first | rfl | (refine ret_bool ?_; simp; done) | (refine ret_bool ?_; simp; omega), HB.out⟩

set_option maxHeartbeats 1600000 in
theorem mdIn_d {w : World} {g : Nat} {T : TypeId} {u : Value} {R : Nat -> Int} (t p s a z G Y : Int) (hX : Held w g T (mC t p s u R)) (hg : (pageN t p s : Int) = G) (hy : (bytesN t p s : Int) = Y) (hG : 0 <= G /\ G <= 1048576) (hY : 0 <= Y /\ Y <= 2147483648) (hz : -9223372036854775808 <= z /\ z <= 9223372036854775807) (h1 : 1 <= z) (h2 : G <= a) (h3 : a <= G + Y - z) :
  Calls Tryd.prog 55 #[.pointer (some ⟨g, 0, none⟩), .agg #[.int .i64 a, .int .i64 z]] w fun e w' => e = .returned (.bool true) /\ Below w.heap.size w w' := by
 have HX := hidp (Held.new w 55 #[.int .i64 a, .int .i64 z])
 have HG := hidp (hX.alloc (.cells #[.int .i64 a, .int .i64 z] 55))
 have HB := hidp (Bnew (B0 w) (.cells #[.int .i64 a, .int .i64 z] 55))
 have HPG := hidp hg
 have HPY := hidp hy
 have t0 : decide (1 <= z) = true := decide_eq_true (by omega)
 have t1 : decide (G <= a) = true := decide_eq_true (by omega)
 have hw1 : IntKind.i64.wrap (G + Y) = G + Y := i64_same (by omega) (by omega)
 have hw2 : IntKind.i64.wrap (G + Y - z) = G + Y - z := i64_same (by omega) (by omega)
 have t2 : decide (a <= G + Y - z) = true := decide_eq_true (by omega)
 clear hX hg hy
 obtain ⟨m0, m1, m2, m3⟩ := mod_cells HG.out
 go_enter Tryd.func55, Tryd.ntmps55
 go_wp2_with fail
 refine (cfPage_c t p s _).mono ?_; rintro e w1 ⟨rfl, hb⟩; rw [HPG.out]
 replace HX := hidp (HX.out.keep hb)
 replace HG := hidp (HG.out.keep hb)
 replace HB := hidp (Bgo HB.out hb)
 clear hb m0 m1 m2 m3
 obtain ⟨x0, x1⟩ := HX.out.two
 obtain ⟨m0, m1, m2, m3⟩ := mod_cells HG.out
 go_wp2_with fail
 clear x0 x1 m0 m1 m2 m3
 replace HX := hidp (HX.out.keep (Bdrew (B0 _)))
 replace HG := hidp (HG.out.keep (Bdrew (B0 _)))
 replace HB := hidp (Bgo HB.out (Bdrew (B0 _)))
 refine wp_region_held_drew (S := (fun w' => (w'.cell? ⟨w.heap.size, 0, none⟩ = some (.int .i64 a) /\ w'.cell? ⟨w.heap.size, 1, none⟩ = some (.int .i64 z)) /\ (w'.cell? ⟨g, 0, none⟩ = some (.int .i64 t) /\ w'.cell? ⟨g, 1, none⟩ = some (.int .i64 p) /\ w'.cell? ⟨g, 2, none⟩ = some (.int .i64 s) /\ w'.cell? ⟨g, 3, none⟩ = some u))) (by kernel_rfl) ?_ (fun hHeld => ?_)
 ·(try dsimp only)
  first | exact ⟨HX.out.two, mod_cells HG.out⟩ | exact hHeld
 refine tkz 0 ?_
 refine tkz 1 ?_
 refine tkz 2 ?_
 refine tkz 3 ?_
 refine tkz 4 ?_
 refine tkz 5 ?_
 refine tkz 6 ?_
 refine tkz 7 ?_
 refine tkz 8 ?_
 refine tkz 9 ?_
 refine tkz 10 ?_
 refine tkz 11 ?_
 refine tkz 12 ?_
 refine tkz 13 ?_
 refine tkz 14 ?_
 refine tkz 15 ?_
 refine tkz 16 ?_
 refine tkz 19 ?_
 refine tkz 20 ?_
 refine rdz 17 fun K hK => ?_
 go_simp
 (refine (cfBytes_c t p s _).mono ?_; rintro e w1 ⟨rfl, hb⟩; rw [HPY.out]; replace HX := hidp (HX.out.keep hb); replace HG := hidp (HG.out.keep hb); replace HB := hidp (Bgo HB.out hb); clear hb)
 refine hK.out _ _ ?_ (fun hHeld => ?_)
 ·(try dsimp only)
  first | exact ⟨HX.out.two, mod_cells HG.out⟩ | exact hHeld
 clear hK K
 (try simp only [Act.put, gA, gB, gC, sA, sB, sC])
 refine tkz 18 ?_
 refine tkz 21 ?_
 refine tkz 22 ?_
 refine tkz 23 ?_
 refine tkz 24 ?_
 refine dnz ?_
 go_wp2_with fail
 go_ret
 exact ⟨by first | rfl | (refine ret_bool ?_; simp; done) | (refine ret_bool ?_; simp; omega), HB.out⟩

theorem bytes_end {t p s : Int} (h : rightB t p s = true) : (pageN t p s : Int) + (bytesN t p s : Int) = endI t p s := by
 have hp := ((rightB_iff t p s).1 h).2.1
 unfold endI pageN bytesN
 rw [h]
 obtain ⟨q, rfl⟩ := Int.eq_ofNat_of_zero_le (show 0 <= p by omega)
 simp only [if_true]
 push_cast
 rw [show (Int.toNat (q : Int)) = q from rfl, Int.mul_add, Int.mul_comm (q : Int) _]
 omega
theorem mdIn_h {w : World} {g : Nat} {T : TypeId} {t p s : Int} {u : Value} {R : Nat -> Int} (hr : rightB t p s = true) (hX : Held w g T (mC t p s u R)) (a z : Int) (hz : -9223372036854775808 <= z /\ z <= 9223372036854775807) :
  Calls Tryd.prog 55 #[.pointer (some ⟨g, 0, none⟩), .agg #[.int .i64 a, .int .i64 z]] w fun e w' => e = .returned (.bool (insB (pageN t p s : Int) (endI t p s) a z)) /\ Below w.heap.size w w' := by
 obtain ⟨b1, b2⟩ := end_le hr
 have he := bytes_end hr
 have hG : 0 <= (pageN t p s : Int) /\ (pageN t p s : Int) <= 1048576 := ⟨b2.1, b2.2.1⟩
 have hY : 0 <= (bytesN t p s : Int) /\ (bytesN t p s : Int) <= 2147483648 := by omega
 by_cases h1 : z < 1
 ·rw [show insB (pageN t p s : Int) (endI t p s) a z = false from decide_eq_false (by omega)]
  exact mdIn_a t p s a z _ _ hX rfl rfl hG hY hz h1
 by_cases h2 : a < (pageN t p s : Int)
 ·rw [show insB (pageN t p s : Int) (endI t p s) a z = false from decide_eq_false (by omega)]
  exact mdIn_b t p s a z _ _ hX rfl rfl hG hY hz (by omega) h2
 by_cases h3 : (pageN t p s : Int) + (bytesN t p s : Int) - z < a
 ·rw [show insB (pageN t p s : Int) (endI t p s) a z = false from decide_eq_false (by omega)]
  exact mdIn_c t p s a z _ _ hX rfl rfl hG hY hz (by omega) (by omega) h3
 rw [show insB (pageN t p s : Int) (endI t p s) a z = true from decide_eq_true (by omega)]
 exact mdIn_d t p s a z _ _ hX rfl rfl hG hY hz (by omega) (by omega) (by omega)
end
section
theorem asc_one {G E : Int} {L : List (Int × Int)} (ha : AscM L) (hi : InsM G E L) {x y : Int × Int} (hx : x ∈ L) (hy : y ∈ L) (h : x.1 = y.1) : x = y := by
 obtain ⟨i, hi1, rfl⟩ := List.getElem_of_mem hx
 obtain ⟨j, hj1, rfl⟩ := List.getElem_of_mem hy
 have hp := List.pairwise_iff_getElem.1 ha
 have h1 := ins_parts (hi _ hx)
 have h2 := ins_parts (hi _ hy)
 rcases Nat.lt_trichotomy i j with h3 | h3 | h3
 ·have := hp i j hi1 hj1 h3
  omega
 ·subst h3; rfl
 ·have := hp j i hj1 hi1 h3
  omega
def blkAt (L : List (Int × Int)) (a : Int) : Int × Int := if mAt L a < 0 then (0, 0) else L.getD (mAt L a).toNat (0, 0)
theorem blkAt_mem {G E : Int} {L : List (Int × Int)} (ha : AscM L) (hi : InsM G E L) {a z : Int} (h : (a, z) ∈ L) : decide (0 <= mAt L a) = true /\ blkAt L a = (a, z) := by
 rcases mAt_cases L a with ⟨_, h2⟩ | ⟨i, z', h1, h2, h3⟩
 ·exact absurd rfl (h2 _ h)
 ·have e : (a, z') = (a, z) := asc_one ha hi (List.mem_of_getElem? h2) h rfl
  refine ⟨decide_eq_true (by omega), ?_⟩
  unfold blkAt
  rw [if_neg (by omega), h1]
  simp [List.getD, h2]
  injection e
theorem blkAt_none {L : List (Int × Int)} {a : Int} (h : ∀ x ∈ L, x.1 ≠ a) : decide (0 <= mAt L a) = false /\ blkAt L a = (0, 0) := by
 rcases mAt_cases L a with ⟨h1, _⟩ | ⟨i, z', h1, h2, h3⟩
 ·exact ⟨decide_eq_false (by omega), by unfold blkAt; rw [if_pos (by omega)]⟩
 ·exact absurd rfl (h _ (List.mem_of_getElem? h2))
theorem bk_invK : ∀ key kl, keyOf Tryd.prog 55 key = some kl -> ∃ x : Int × Int, key = .agg #[.int .i64 x.1, .int .i64 x.2] := fun key kl h => by
 obtain ⟨x, h1, _⟩ := bk_inv h
 exact ⟨x, h1⟩
theorem unit_invV : ∀ (v : Value) (y : DataW Unit × List MemPlace), unitElem v = some y -> ∃ c : Unit, v = .agg #[] := fun v y h => ⟨(), (unitElem_inv h).1⟩

section
variable {w : World} {g : Nat} {F : Nat -> Prop} {t p s : Int} {L : List (Int × Int)} {R : Nat -> Int}
set_option maxHeartbeats 1600000 in
theorem mdAt_c (h : IsMod w g F t p s L R) (a : Int) : Calls Tryd.prog 22 #[.pointer (some ⟨g, 0, none⟩), .int .i64 a] w fun e w' => e = .returned (.tuple #[.agg #[.int .i64 (blkAt L a).1, .int .i64 (blkAt L a).2], .bool (decide (0 <= mAt L a))]) /\ Below w.heap.size w w' := by
 obtain ⟨m, D, hm, hX, hO, hD⟩ := h.ex
 have HH := hidp h
 have HD := hidp hD
 have HR := hidp (Held.new w 55 #[.int .i64 0, .int .i64 0])
 have HB := hidp (Bnew (B0 w) (.cells #[.int .i64 0, .int .i64 0] 55))
 have hown := hO.alloc (.cells #[.int .i64 0, .int .i64 0] 55)
 have HX := hidp (hX.alloc (.cells #[.int .i64 0, .int .i64 0] 55))
 obtain ⟨_, _, _, x3⟩ := mod_cells HX.out
 clear h hX hO hD hm
 go_enter Tryd.func22, Tryd.ntmps22
 go_wp2_with (first
  | (at_range; refine wpList_range_own _ rfl _ 60 rfl 55 72 bkKey Tryd.underlying60 unitElem m L.length D rfl hown ?_; intro w0 hrg0 hg0 hs0; rw [show (w.alloc (.cells #[.int .i64 0, .int .i64 0] 55)).heap.size = w.heap.size + 1 from by simp] at hrg0 ⊢)
  | go_in)
 try go_frame
 have HB0 : Hid (Below w.heap.size w w0) := hidp (HB.out.grown hg0 HB.out.size (fun j hj => by cases hj))
 have HR0 : Hid (Held w0 w.heap.size 55 #[.int .i64 0, .int .i64 0]) := hidp ((hg0.block _ (by simp) (by simp)).trans HR.out)
 have HC0 : Hid (CameB D (Maps.has D) []) := hidp (CameB.start D)
 have HS0 : Hid (w.heap.size + 2 <= w0.heap.size) := hidp (by have := hrg0.lt; omega)
 have hrg1 : w0.ranges Tryd.prog 55 unitElem m (w.heap.size + 1) L.length D (Maps.has D) (Maps.size D) := hrg0
 clear hown hs0 hg0 hrg0 x3
 go_loopw [12] (fun _ wr => ∃ (left : Lit -> Bool) (cnt : Nat) (ss : List (Int × Int)), wr.ranges Tryd.prog 55 unitElem m (w.heap.size + 1) L.length D left cnt /\ Hid (CameB D left ss) /\ Hid (∀ x ∈ ss, x.1 ≠ a) /\ Hid (Below w.heap.size w wr) /\ Hid (Held wr w.heap.size 55 #[.int .i64 0, .int .i64 0]) /\ Hid (w.heap.size + 2 <= wr.heap.size))
  (fun _ wr => wr.rangeLeft m (w.heap.size + 1))
 case atStart => exact ⟨_, _, [], hrg1, HC0, hidp (by simp), HB0, HR0, HS0⟩
 case round =>
  clear HB0 HC0 HR0 HS0 hrg1 HR HB HX
  obtain ⟨left, cnt, ss, hrg, HC, HNO, HB, HR, HSZ⟩ := hrel
  obtain ⟨r0, r1⟩ := HR.out.two
  have fr0 := HR.out.thawed 0
  have fr1 := HR.out.thawed 1
  go_wp2_with (first
   | (at_next; refine wpList_next_ranges _ rfl _ rfl 55 bkKey unitElem (fun x : Int × Int => .agg #[.int .i64 x.1, .int .i64 x.2]) (fun _ : Unit => .agg #[]) bk_invK unit_invV m (w.heap.size + 1) L.length _ _ _ rfl hrg ?_ ?_)
   | go_in)
  ·intro hc0 hl0
   have HE := hidp (blkAt_none (L := L) (a := a) (fun x hx => HNO.out x ((HC.out.done hl0 HD.out HH.out.nodup).mem_iff.2 hx)))
   have HZ := hidp ((HR.out.put 0 (.int .i64 0)).put 1 (.int .i64 0))
   clear hrg
   go_wp2
   obtain ⟨z0, z1⟩ := HZ.out.two
   refine bodyPost_ret (v := .tuple #[.agg #[.int .i64 0, .int .i64 0], .bool false]) (by simp [results, Tryd.results22, go_sem, z0, z1]) rfl ⟨by rw [HE.out.1, HE.out.2], ?_⟩
   repeat (first | exact HB.out | exact HB2.out | exact Bnew HB2.out _ | (with_reducible refine Bput ?_ (by first | (simp; done) | (simp; omega)) _))
  ·intro x1 x2 kl yd yp w2 cnt2 hkey hlk hv hat hrg2 hlt hg2 hs2 hen
   obtain ⟨⟨y1, y2⟩, he, hw1, hw2, hkl⟩ := bk_inv hkey
   simp only [bkV, Value.agg.injEq] at he hw1 hw2 hkl
   obtain ⟨rfl, rfl⟩ : x1 = y1 /\ x2 = y2 := by simpa using he
   subst hkl
   have hhas := has_true_of_atKey hat
   have HB2 : Hid (Below w.heap.size w w2) := hidp (HB.out.grown hg2 HB.out.size (fun j hj => by cases hj; omega))
   have HR2 : Hid (Held w2 w.heap.size 55 #[.int .i64 0, .int .i64 0]) := hidp ((hg2.block _ (by have := HSZ.out; omega) (by simp)).trans HR.out)
   have HCC := hidp (HC.out.step (x := (x1, x2)) ⟨hw1, hw2⟩ hlk hhas)
   have HIN : Hid ((x1, x2) ∈ L) := hidp ((HD.out.has (x1, x2) ⟨hw1, hw2⟩).1 hhas)
   have HRG2 := hidp hrg2
   have HRG := hidp hrg
   have HM := hidp hlt
   have HS2 : Hid (w2.heap.size = wr.heap.size) := hidp hs2
   clear hrg hrg2 hlt hg2 hs2 he hat hv hkey hlk hhas hw1 hw2 r0 r1 fr0 fr1
   have HR3 := hidp (HR2.out.alloc (.cells #[.int .i64 x1, .int .i64 x2] 55))
   obtain ⟨r0, r1⟩ := HR3.out.two
   have fr0 := HR3.out.thawed 0
   have fr1 := HR3.out.thawed 1
   have HN3 := hidp (Held.new w2 55 #[.int .i64 x1, .int .i64 x2])
   obtain ⟨n0, n1⟩ := HN3.out.two
   by_cases hxa : x1 = a
   ·have t0 : (x1 == a) = true := by simp [hxa]
    have HE := hidp (blkAt_mem HH.out.asc HH.out.ins (a := a) (z := x2) (by rw [<- hxa]; exact HIN.out))
    have HXA := hidp hxa
    clear hxa
    have HZ := hidp ((HR3.out.put 0 (.int .i64 x1)).put 1 (.int .i64 x2))
    go_wp2
    obtain ⟨z0, z1⟩ := HZ.out.two
    refine bodyPost_ret (v := .tuple #[.agg #[.int .i64 x1, .int .i64 x2], .bool true]) (by simp [results, Tryd.results22, go_sem, z0, z1]) rfl ⟨by rw [HE.out.1, HE.out.2, HXA.out], ?_⟩
    repeat (first | exact HB.out | exact HB2.out | exact Bnew HB2.out _ | (with_reducible refine Bput ?_ (by first | (simp; done) | (simp; omega)) _))
   ·have t0 : (x1 == a) = false := by simp [hxa]
    have HNO2 : Hid (∀ x ∈ ss ++ [(x1, x2)], x.1 ≠ a) := hidp (fun x hx => by
     rcases List.mem_append.1 hx with h1 | h1
     ·exact HNO.out x h1
     ·simp at h1; subst h1; exact hxa)
    clear hxa
    go_wp2
    go_roundw
    case rel => exact ⟨_, cnt2, ss ++ [(x1, x2)], HRG2.out.alloc _, HCC, HNO2, hidp (Bnew HB2.out _), HR3, hidp (by have := HSZ.out; have := HS2.out; simp; omega)⟩
    case measure =>
     rw [(HRG2.out.alloc (.cells #[.int .i64 x1, .int .i64 x2] 55)).left_eq, HRG.out.left_eq]
     exact HM.out
end
end
end Go.Proofs.YtedakmhffjhfnaaDoor
