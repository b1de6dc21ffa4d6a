/-
  The page's example (nacrelaw14.live).
-/
import Derived.Test.YtjjfcaliippgpaaGreatDoorU09
import Derived.Test.YtjjfcaliippgpaaGreatDoorU18
import Derived.Test.YtjjfcaliippgpaaGreatDoorU04
import Derived.Test.YtjjfcaliippgpaaGreatDoorU07
import Derived.Test.YtjjfcaliippgpaaGreatDoorU15
import Derived.Test.YtjjfcaliippgpaaGreatDoorU10
import Derived.Test.YtjjfcaliippgpaaGreatDoorU01
import Derived.Test.YtjjfcaliippgpaaGreatDoorU05
import Derived.Test.YtjjfcaliippgpaaGreatDoorU06
import Derived.Test.YtjjfcaliippgpaaGreatDoorU17
import Derived.Test.YtjjfcaliippgpaaGreatDoorU11
import Derived.Test.YtjjfcaliippgpaaGreatDoorU08
import Derived.Test.YtjjfcaliippgpaaGreatDoorUSpanRelease
namespace Go.Proofs.YtjjfcaliippgpaaGreatDoor
open Go.ChangeShapes Go.WideShapes Go.ChangeAt Go.RowKit Go.Maps
set_option linter.unusedVariables false
set_option linter.unusedSimpArgs false
set_option maxRecDepth 100000
section
theorem few14_c (t q s : Int) (w : World) : Calls Tryz.prog 31 #[.agg #[.int .i64 t, .int .i64 q, .int .i64 s]] w fun e w' => e = .returned (.bool (decide (q <= 64))) /\ Below w.heap.size w w' := by
 go_enter Tryz.func31, Tryz.ntmps31
 go_wp2
 go_ret
 exact ⟨rfl, Bnew (B0 _) _⟩
theorem make82 (w : World) : (Instr.makeSlice 24 (.int .i64 82) (.int .i64 82)).run Tryz.prog w = .ok (.slice (some ⟨w.heap.size, 0, none⟩) 82 82) (w.alloc (.cells (Array.replicate 82 (.int .u32 0)) 76)) := by kernel_rfl
def ex14L : List Nat := ((((List.replicate 82 0).set 0 8).set 5 1).set 34 129).set 77 1
def ex14C : Array Value := ((((Array.replicate 82 (Value.int .u32 0)).setIfInBounds 0 (.int .u32 8)).setIfInBounds 5 (.int .u32 1)).setIfInBounds 34 (.int .u32 129)).setIfInBounds 77 (.int .u32 1)
theorem ex14_eq : ex14C.toList = valVs ex14L := by
 unfold ex14C ex14L valVs
 simp only [Array.toList_setIfInBounds, Array.toList_replicate, List.map_set, List.map_replicate]
 rfl
def ex14K : Nat -> Option Nat := fun i => ex14L[i]?
set_option maxHeartbeats 1600000 in
theorem Eight14_c (w : World) : Calls Tryz.prog 32 #[] w fun e w' => ∃ g, e = .returned (.tuple #[.agg #[.int .i64 1, .int .i64 8, .int .i64 10], .slice (some ⟨g, 0, none⟩) 82 82]) /\ Held w' g 76 ex14C /\ Below w.heap.size w w' := by
 have hmk := make82
 have HC := (Held.new w 23 #[.int .i64 0, .int .i64 0, .int .i64 0]).alloc (.cells (Array.replicate 82 (.int .u32 0)) 76)
 have HG := Held.new2 w (.cells #[.int .i64 0, .int .i64 0, .int .i64 0] 23) 76 (Array.replicate 82 (.int .u32 0))
 have g0 : _ = some (Value.int .u32 0) := (HG.cell 0).trans (by simp)
 have g1 : _ = some (Value.int .u32 0) := (HG.cell 5).trans (by simp)
 have g2 : _ = some (Value.int .u32 0) := (HG.cell 34).trans (by simp)
 have g3 : _ = some (Value.int .u32 0) := (HG.cell 77).trans (by simp)
 have f0 := HG.thawed
 obtain ⟨c0, c1, c2⟩ := HC.three
 have f1 := HC.thawed
 clear HC HG
 go_enter Tryz.func32, Tryz.ntmps32
 go_wp2
 refine bodyPost_ret (v := .tuple #[.agg #[.int .i64 1, .int .i64 8, .int .i64 10], .slice (some ⟨w.heap.size + 1, 0, none⟩) 82 82]) (by simp [results, Tryz.results32, go_sem]) rfl ⟨w.heap.size + 1, rfl, ?_, ?_⟩
 ·unfold ex14C
  exact Held.new2 w (.cells #[.int .i64 1, .int .i64 8, .int .i64 10] 23) 76 _
 ·exact Bnew (Bnew (B0 w) _) _
end
section
theorem ex14_len : ex14L.length = 82 := by decide
theorem ex14_32 : ∀ x ∈ ex14L, x < 2 ^ 32 := by decide
theorem ex14_cells {w : World} {g : Nat} {t : TypeId} (h : Held w g t ex14C) : ∀ j u, (valVs ex14L)[j]? = some u -> w.cell? ((⟨g, 0, none⟩ : Addr).add j) = some u := by
 intro j u hu
 have e : (⟨g, 0, none⟩ : Addr).add j = ⟨g, j, none⟩ := by
  unfold Addr.add
  by_cases hz : j = 0
  ·rw [if_pos hz, hz]
  ·rw [if_neg hz]; simp
 rw [e, h.cell j, <- hu, <- ex14_eq]
 simp
end
section
def wholeV15 (vals : List Nat) : Nat -> Option Nat := fun i => vals[i]?
end
section
section
variable {W w w' : World} {O1 O2 : Ob} {A B G : Nat -> Prop} {s1 s2 s' : Vst}
theorem Duo.slots (h : Duo W O1 O2 A B G s1 s2 w) (hT : SlotsLaid W) : SlotsLaid w /\ ¬ A 0 /\ ¬ B 0 := by
 have hl : (0 : Nat) < W.heap.size := cell_lt16 (hT 0 (by omega))
 exact ⟨hT.below h.bel, fun x => by have := h.lo _ (.inl x); omega, fun x => by have := h.lo _ (.inr x); omega⟩
end
end
section
theorem rLongs_at (l : List Int) (v u : Value) (w : World) (h1 : LongsAt w v l) (h2 : LongsAt w u l) :
  Calls Tryz.prog 33 #[v, u] w fun e w' => e = .returned (.bool true) /\ ∃ n, w' = w.drewN n := by
 obtain ⟨A, c, rfl, hlc, hcm, _, hno, hcl⟩ := h1
 obtain ⟨B, d, rfl, hld, hdm, _, hnp, hdl⟩ := h2
 obtain ⟨n, hn⟩ : ∃ n, l.length = n := ⟨_, rfl⟩
 have hm : n <= 9223372036854775807 := by rw [hn] at hlc; unfold maxLen at hcm; omega
 have HN := hidp hn
 have HC := hidp hcl
 have HD := hidp hdl
 have HNO := hidp hno
 have HNP := hidp hnp
 rw [hn]
 clear hcl hdl hno hnp hn
 go_enter Tryz.func33, Tryz.ntmps33
 go_wp2
 go_loopw [5] (fun i wr => ∃ k m : Nat, k <= n /\ i = .int .i64 k /\ wr = w.drewN m) (fun i _ => n - (intOf i).toNat)
 case atStart => exact ⟨0, 0, by omega, rfl, rfl⟩
 case round =>
  obtain ⟨k, m, hk, rfl, rfl⟩ := hrel
  by_cases hlt : k < n
  ·obtain ⟨x, hx⟩ : ∃ x, l[k]? = some x := ⟨_, List.getElem?_eq_getElem (by rw [HN.out]; exact hlt)⟩
   cases A with
   | none => exact absurd HN.out (by rw [(HNO.out rfl).1]; simp; omega)
   | some ad =>
    cases B with
    | none => exact absurd HN.out (by rw [(HNP.out rfl).1]; simp; omega)
    | some bd =>
     have c1 := (HC.out ad rfl).2 k x hx
     have c2 := (HD.out bd rfl).2 k x hx
     clear hx
     go_wp2
     go_quiet (fail)
     go_wp2
     go_roundw
     case rel => exact ⟨k + 1, _, by omega, by go_num, rfl⟩
     case measure => simp [intOf]; omega
  ·go_wp2
   go_ret
   exact ⟨rfl, m, rfl⟩
set_option maxHeartbeats 3200000 in
theorem rSame_c (U V : Nat -> Sl) (Z : Nat -> List Int) (w : World) (hU : PkV w U Z) (hV : PkV w V Z) :
  Calls Tryz.prog 13 #[.agg (pkC U), .agg (pkC V)] w fun e w' => e = .returned (.bool true) /\ Below w.heap.size w w' := by
 have HG := hidp ((Held.new w 36 (pkC U)).alloc (.cells (pkC V) 36))
 have HR := hidp (Held.new2 w (.cells (pkC U) 36) 36 (pkC V))
 have HB := hidp (Bnew (Bnew (B0 w) (.cells (pkC U) 36)) (.cells (pkC V) 36))
 have HPU := hidp hU
 have HPV := hidp hV
 clear hU hV
 go_enter Tryz.func13, Tryz.ntmps13
 go_wp2
 go_loopw [5] (fun u5 wr => ∃ k : Nat, k <= 9 /\ u5 = .int .i64 (k : Int) /\ Hid (Held wr w.heap.size 36 (pkC U)) /\ Hid (Held wr (w.heap.size + 1) 36 (pkC V)) /\ Hid (Below w.heap.size w wr)) (fun u5 _ => 9 - (intOf u5).toNat)
 case atStart => exact ⟨0, by omega, rfl, HG, HR, HB⟩
 case round =>
  clear HG HR HB
  obtain ⟨k, hk, rfl, HG, HR, HB⟩ := hrel
  by_cases hlt : k < 9
  ·have hki : (k : Int) < 9 := by omega
   go_wp2_with fail
   replace HG := hidp (HG.out.keep (Bdrew (B0 _)))
   replace HR := hidp (HR.out.keep (Bdrew (B0 _)))
   replace HB := hidp (Bgo HB.out (Bdrew (B0 _)))
   refine wp_region_held_drew (S := (fun w' => w'.cell? ⟨w.heap.size, k, none⟩ = some (.slice (U k).a (U k).n (U k).c) /\ w'.cell? ⟨w.heap.size + 1, k, none⟩ = some (.slice (V k).a (V k).n (V k).c))) (by kernel_rfl) ?_ (fun hHeld => ?_)
   ·(try dsimp only)
    first | exact ⟨HG.out.pk hlt, HR.out.pk hlt⟩ | exact hHeld
   refine tkz 0 ?_
   refine tkz 1 ?_
   refine tkz 2 ?_
   refine tkz 3 ?_
   refine tkz 4 ?_
   refine tkz 5 ?_
   refine rdz 6 fun K hK => ?_
   go_simp
   refine (rLongs_at (Z k) (U k).v (V k).v _ ((HPU.out k hlt).below HB.out) ((HPV.out k hlt).below HB.out)).mono ?_
   rintro e w9 ⟨rfl, m9, hw9⟩
   replace HG := hidp (HG.out.keep (show Below _ _ w9 by rw [hw9]; exact Bdraw (B0 _) m9))
   replace HR := hidp (HR.out.keep (show Below _ _ w9 by rw [hw9]; exact Bdraw (B0 _) m9))
   replace HB := hidp (Bgo HB.out (show Below _ _ w9 by rw [hw9]; exact Bdraw (B0 _) m9))
   clear hw9
   refine hK.out _ _ ?_ (fun hHeld => ?_)
   ·(try dsimp only)
    first | exact ⟨HG.out.pk hlt, HR.out.pk hlt⟩ | exact hHeld
   clear hK K
   (try simp only [Act.put, gA, gB, gC, sA, sB, sC])
   refine tkz 7 ?_
   refine dnz ?_
   go_wp2_with fail
   go_roundw
   case rel => exact ⟨k + 1, by omega, by go_num, HG, HR, HB⟩
   case measure => simp [intOf]; omega
  ·obtain rfl : k = 9 := by omega
   go_wp2
   go_ret
   exact ⟨rfl, HB.out⟩
end
section
def exA : Vst := (allocI 82 ex14K 1 8 10 0 [] freshS).2
def exB : Vst := (allocI 82 ex14K 1 8 10 0 [1120, 1088, 1056] exA).2
theorem ex18_a : allocI 82 ex14K 1 8 10 0 [] freshS = (some (1024, [1120, 1088, 1056]), exA) := by
 have h : (allocI 82 ex14K 1 8 10 0 [] freshS).1 = some (1024, [1120, 1088, 1056]) := by decide +kernel
 unfold exA
 rw [<- h]
theorem ex18_b : allocI 82 ex14K 1 8 10 0 [1120, 1088, 1056] exA = (some (1056, [1120, 1088]), exB) := by
 have h : (allocI 82 ex14K 1 8 10 0 [1120, 1088, 1056] exA).1 = some (1056, [1120, 1088]) := by decide +kernel
 unfold exB
 rw [<- h]
theorem ex18_oka : AlOk 82 ex14K 1 8 10 0 [] freshS where
 few := Nat.zero_le _
 spot a h := by simp at h
 pick p m h := by
  have e : (pickI 82 ex14K 1 8 10 0 4 freshS).1 = some (0, [0, 1, 2, 3]) := by decide +kernel
  rw [e] at h
  injection h with h
  injection h with h1 h2
  subst h2
  exact ⟨by decide, by decide, by decide⟩
theorem ex18_okb : AlOk 82 ex14K 1 8 10 0 [1120, 1088, 1056] exA where
 few := by decide
 spot a h := by
  have h : some 1056 = some a := h
  injection h with h
  subst h
  exact ⟨by decide +kernel, by decide +kernel, 0, 1, by decide +kernel, by decide +kernel, by decide⟩
 pick p m h := by
  obtain ⟨x, hx⟩ : ∃ x, (pickI 82 ex14K 1 8 10 0 4 exA).1 = x := ⟨_, rfl⟩
  have e : (match (pickI 82 ex14K 1 8 10 0 4 exA).1 with | some (_, l) => decide (1 <= l.length) && decide (l.length <= 4) && l.all (fun i => decide (i < 32)) | none => true) = true := by decide +kernel
  rw [h] at e
  simp only [Bool.and_eq_true, decide_eq_true_eq, List.all_eq_true] at e
  exact ⟨e.1.1, e.1.2, fun i hi => by simpa using e.2 i hi⟩
theorem pkV_zero18 (w : World) : PkV w zeroU (fun _ => []) := fun k hk => ⟨none, 0, rfl, Nat.le_refl _, Nat.zero_le _, fun z hz => by simp at hz, fun _ => ⟨rfl, rfl⟩, fun ad e => by cases e⟩
set_option maxHeartbeats 6400000 in
theorem live18_c (w : World) (hT : SlotsLaid w) : Calls Tryz.prog 8 #[] w fun e w' => e = .returned (.bool true) /\ Below w.heap.size w w' := by
 have HTL := hidp hT
 have HXA := hidp ex18_a
 have HXB := hidp ex18_b
 have HOA := hidp ex18_oka
 have HOB := hidp ex18_okb
 clear hT
 go_enter Tryz.func8, Tryz.ntmps8
 go_wp2_with fail
 refine (Eight14_c _).mono ?_
 rintro e w1 ⟨g, rfl, hg, hb⟩
 have HG := hidp (hg.alloc (.cells #[.int .i64 1, .int .i64 8, .int .i64 10] 23))
 have HC := hidp (Held.new w1 23 #[.int .i64 1, .int .i64 8, .int .i64 10])
 have HB := hidp (Bnew hb (.cells #[.int .i64 1, .int .i64 8, .int .i64 10] 23))
 clear hg hb
 obtain ⟨x0, x1, x2⟩ := HC.out.three
 go_wp2_with fail
 generalize hNC : w1.heap.size = NC at *
 generalize hW1 : w1.alloc (.cells #[.int .i64 1, .int .i64 8, .int .i64 10] 23) = W1 at *
 clear hNC hW1
 refine (Whole_c (some ⟨g, 0, none⟩) 82 ex14L 82 ex14_len (by omega) ex14_32 _ (fun _ => ⟨_, rfl, ex14_cells HG.out⟩)).mono ?_
 rintro e w3 ⟨b, o, rfl, hI, hB⟩
 have HD := hidp (duo_made (W := w) (G := fun i => i = NC) hI HB.out.size (Bgo HB.out hB) (fun i hi => by
  have h1 := HC.out.lt
  have h3 := hB.size
  rcases hi with rfl
  exact ⟨by omega, fun x => by have := hI.ge _ x; omega⟩))
 replace HC := hidp (HC.out.keep hB)
 rw [show (fun i => ex14L[i]?) = ex14K from rfl] at HD
 clear hI hB HB HG
 clear x0 x1 x2
 obtain ⟨x0, x1, x2⟩ := HC.out.three
 go_wp2_with fail
 refine (smAlloc_c (t := 1) (q := 8) (s := 10) (by omega) (by omega) 0 (by omega) (by omega) (fun _ => HOA.out) (HD.out.slots HTL.out).1 (HD.out.slots HTL.out).2.1 (U := zeroU) (Z := fun _ => []) (pkV_zero18 _) (fun i hi => by obtain ⟨_, _, _, _, hz, _⟩ := hi; exact absurd rfl hz) HD.out.i1).mono ?_
 rintro e w4 ⟨V, rfl, hl, _⟩
 rw [HXA.out] at hl ⊢
 dsimp only [alV, alZ, Option.isSome] at hl ⊢
 obtain ⟨A4, hD4, hV, hS⟩ := HD.out.pkt1 (pkV_zero18 _) (fun i hi => by obtain ⟨_, _, _, _, hz, _⟩ := hi; exact absurd rfl hz) hl
 replace HC := hidp (hS.held rfl HC.out)
 have HV := hidp hV
 obtain ⟨Y, hY⟩ : ∃ Y : Nat -> List Int, updF (fun _ => []) (0 : Int).toNat [1120, 1088, 1056] = Y := ⟨_, rfl⟩
 have hY0 : Y 0 = [1120, 1088, 1056] := by rw [<- hY]; rfl
 rw [hY] at hD4 HV
 have HY0 := hidp hY0
 clear hl hV hS x0 x1 x2 hY hY0 HD
 have HD := hidp (hD4.keep2 (G' := fun i => (i = NC \/ PB V Y i) \/ i = w4.heap.size) (Bnew (B0 w4) (.cells (pkC V) 36)) (fun i x => by
  rcases x with x | x
  ·exact .inl x
  ·subst x; exact .inr ⟨Nat.le_refl _, by simp⟩))
 have HP := hidp (Held.new w4 36 (pkC V))
 replace HV := hidp (HV.out.below (Bnew (B0 w4) (.cells (pkC V) 36)))
 replace HC := hidp (HC.out.alloc (.cells (pkC V) 36))
 obtain ⟨x0, x1, x2⟩ := HC.out.three
 obtain ⟨p0, p1, p2, p3, p4, p5, p6, p7, p8⟩ := HP.out.nineP
 clear hD4
 go_wp2_with fail
 generalize hNP : w4.heap.size = NP at *
 generalize hW5 : w4.alloc (.cells (pkC V) 36) = w5 at *
 clear hNP hW5
 refine (smAlloc_c (t := 1) (q := 8) (s := 10) (by omega) (by omega) 0 (by omega) (by omega) (fun _ => by show AlOk _ _ _ _ _ _ (Y 0) _; rw [HY0.out]; exact HOB.out) (HD.out.slots HTL.out).1 (HD.out.slots HTL.out).2.1 HV.out (fun i hi => (HD.out.aG i (.inl (.inr hi))).2.1) HD.out.i1).mono ?_
 rintro e w6 ⟨V2, rfl, hl, _⟩
 rw [show Y (0 : Int).toNat = [1120, 1088, 1056] from HY0.out, HXB.out] at hl ⊢
 dsimp only [alV, alZ, Option.isSome] at hl ⊢
 obtain ⟨A6, hD6, hV2, hS⟩ := HD.out.pkt1 HV.out (fun i hi => .inl (.inr hi)) hl
 replace HP := hidp (hS.held (.inr rfl) HP.out)
 have HV6 := hidp (HV.out.stay hS.1 (fun i hi => hS.2 i (.inl (.inr hi)) (hi.lt HV.out)))
 have HB := hidp hD6.bel
 clear hl hV2 hS x0 x1 x2 p0 p1 p2 p3 p4 p5 p6 p7 p8 hD6 HD HV HC
 have HP2 := hidp (HP.out.alloc (.cells (pkC V2) 36))
 have HV7 := hidp (HV6.out.below (Bnew (B0 w6) (.cells (pkC V2) 36)))
 obtain ⟨p0, p1, p2, p3, p4, p5, p6, p7, p8⟩ := HP2.out.nineP
 have t9 : ((1056 : Int) == 1056) = true := rfl
 have t10 : ((1024 : Int) == 1024) = true := rfl
 go_wp2_with fail
 have hL1 : LongsAt ((w6.alloc (.cells (pkC V2) 36)).alloc (.cells #[.int .i64 1120, .int .i64 1088, .int .i64 1056] 2)) (V 0).v [1120, 1088, 1056] := by
  have := (HV7.out 0 (by omega)).below (Bnew (B0 _) (.cells #[.int .i64 1120, .int .i64 1088, .int .i64 1056] 2))
  rw [HY0.out] at this
  exact this
 have hL2 : LongsAt ((w6.alloc (.cells (pkC V2) 36)).alloc (.cells #[.int .i64 1120, .int .i64 1088, .int .i64 1056] 2)) (.slice (some ⟨w6.heap.size + 1, 0, none⟩) 3 3) [1120, 1088, 1056] := by
  have hn := Held.new2 w6 (.cells (pkC V2) 36) 2 #[.int .i64 1120, .int .i64 1088, .int .i64 1056]
  refine ⟨some ⟨w6.heap.size + 1, 0, none⟩, 3, rfl, by decide, by unfold maxLen; omega, by simp, (fun e => by cases e), fun ad e => ?_⟩
  injection e with e
  subst e
  refine ⟨fun _ => hn.lt, fun i z hz => ?_⟩
  match i, hz with
  | 0, hz => injection hz with hz; subst hz; exact hn.cell 0
  | 1, hz => injection hz with hz; subst hz; exact hn.cell 1
  | 2, hz => injection hz with hz; subst hz; exact hn.cell 2
  | i + 3, hz => simp at hz
 refine (rLongs_at [1120, 1088, 1056] _ _ _ hL1 hL2).mono ?_
 rintro e w7 ⟨rfl, n7, hw7⟩
 have HB7 : Hid (Below w.heap.size w w7) := hidp (by rw [hw7]; exact Bdraw (Bnew (Bnew HB.out _) _) n7)
 clear hw7 hL1 hL2 HB HP HP2 HV6 HV7
 go_wp2
 go_ret
 exact ⟨rfl, HB7.out⟩
end
section
theorem pkA_take {parts : List (Int × Int × Int)} {i : Nat} {x : Int × Int × Int} (z : Int) (hx : parts[i]? = some x) : pkA (parts.take (i + 1)) z = pkA (parts.take i) z ++ if x.1 = 4 /\ x.2.2 = z then [x.2.1] else [] := by
 rw [List.take_add_one, hx]
 unfold pkA
 show List.map _ (List.filter _ (parts.take i ++ [x])) = _
 rw [List.filter_append, List.map_append]
 congr 1
 by_cases h : x.1 = 4 /\ x.2.2 = z
 ·rw [if_pos h, List.filter_cons_of_pos (by simp [h.1, h.2])]; rfl
 ·rw [if_neg h, List.filter_cons_of_neg (by simp only [Bool.and_eq_true, decide_eq_true_eq]; exact h)]; rfl
theorem haveT_len {Z : Nat -> Nat -> List Int} {k B : Nat} : ∀ {T : Nat}, (∀ t, t < T -> (Z t k).length <= B) -> (haveT Z k T).length <= T * B
 | 0, _ => Nat.zero_le _
 | T + 1, h => by
  unfold haveT
  rw [List.length_append, Nat.add_mul, Nat.one_mul]
  have := haveT_len (T := T) (fun t ht => h t (by omega))
  have := h T (by omega)
  omega
theorem haveT_mem {Z : Nat -> Nat -> List Int} {k : Nat} {a : Int} : ∀ {T : Nat}, a ∈ haveT Z k T -> ∃ t, t < T /\ a ∈ Z t k
 | 0, h => by simp [haveT] at h
 | T + 1, h => by
  unfold haveT at h
  rcases List.mem_append.1 h with h | h
  ·obtain ⟨t, h1, h2⟩ := haveT_mem h
   exact ⟨t, by omega, h2⟩
  ·exact ⟨T, by omega, h⟩
theorem mem_pkA_at {l : List (Int × Int × Int)} {i : Nat} {xk xa xz z : Int} (hx : l[i]? = some (xk, xa, xz)) (h4 : xk = 4) (hz : xz = z) : xa ∈ pkA l z := by
 unfold pkA
 exact List.mem_map.2 ⟨_, List.mem_filter.2 ⟨List.mem_of_getElem? hx, by simp [h4, hz]⟩, rfl⟩
theorem pkA_len (l : List (Int × Int × Int)) (z : Int) : (pkA l z).length <= l.length := by unfold pkA; rw [List.length_map]; exact List.length_filter_le _ _
theorem overN_bound {parts : List (Int × Int × Int)} {sz : Nat -> Int} {T B : Nat} {Z : Nat -> Nat -> List Int} {m : Nat} (h : ∀ k, k < m -> (haveT Z k T).length <= B) : ∀ j : Nat, j <= m -> -((j : Int) * parts.length) <= overN parts sz T Z j /\ overN parts sz T Z j <= (j : Int) * B
 | 0, _ => by unfold overN; simp
 | j + 1, hj => by
  obtain ⟨h1, h2⟩ := overN_bound (sz := sz) h j (by omega)
  have h3 := h j (by omega)
  have h4 := pkA_len parts (sz j)
  unfold overN
  have e1 : ((j + 1 : Nat) : Int) * (parts.length : Int) = (j : Int) * parts.length + parts.length := by push_cast; rw [Int.add_mul]; omega
  have e2 : ((j + 1 : Nat) : Int) * (B : Int) = (j : Int) * B + B := by push_cast; rw [Int.add_mul]; omega
  rw [e1, e2]
  generalize (j : Int) * (parts.length : Int) = x1 at *
  generalize (j : Int) * (B : Int) = x2 at *
  omega
theorem rFits_unsound (t q s : Int) (A : Option Addr) (n c m : Nat) (A2 : Option Addr) (T c2 : Nat) (w : World) (hX : XCheckIs w t q s A n c m false) :
  Calls Tryz.prog 26 #[.agg #[.int .i64 t, .int .i64 q, .int .i64 s], .slice A n c, .slice A2 T c2] w fun e w' => e = .returned (.bool false) /\ Below w.heap.size w w' := by
 have HC := hidp (Held.new w 23 #[.int .i64 t, .int .i64 q, .int .i64 s])
 have HB := hidp (Bnew (B0 w) (.cells #[.int .i64 t, .int .i64 q, .int .i64 s] 23))
 have HXX := hidp hX
 clear hX
 obtain ⟨x0, x1, x2⟩ := HC.out.three
 go_enter Tryz.func26, Tryz.ntmps26
 go_wp2_with fail
 refine (xSound_c t q s A n c m false _ (HXX.out.grown HB.out)).mono ?_
 rintro e w2 ⟨rfl, hb⟩
 replace HB := hidp (Bgo HB.out hb)
 clear hb
 go_wp2
 go_ret
 exact ⟨rfl, HB.out⟩
theorem rFits_other (t q s : Int) (A : Option Addr) (n c m : Nat) (A2 : Option Addr) (T c2 : Nat) (hT : (T : Int) ≠ t) (w : World) (hX : XCheckIs w t q s A n c m true) :
  Calls Tryz.prog 26 #[.agg #[.int .i64 t, .int .i64 q, .int .i64 s], .slice A n c, .slice A2 T c2] w fun e w' => e = .returned (.bool false) /\ Below w.heap.size w w' := by
 have HC := hidp (Held.new w 23 #[.int .i64 t, .int .i64 q, .int .i64 s])
 have HB := hidp (Bnew (B0 w) (.cells #[.int .i64 t, .int .i64 q, .int .i64 s] 23))
 have HXX := hidp hX
 have t0 : ((T : Int) != t) = true := bne_iff_ne.2 hT
 clear hX
 obtain ⟨x0, x1, x2⟩ := HC.out.three
 go_enter Tryz.func26, Tryz.ntmps26
 go_wp2_with fail
 refine (xSound_c t q s A n c m true _ (HXX.out.grown HB.out)).mono ?_
 rintro e w2 ⟨rfl, hb⟩
 replace HC := hidp (HC.out.keep hb)
 replace HB := hidp (Bgo HB.out hb)
 clear hb x0 x1 x2
 obtain ⟨x0, x1, x2⟩ := HC.out.three
 go_wp2
 go_ret
 exact ⟨rfl, HB.out⟩
set_option maxHeartbeats 12800000 in
theorem rFits_heap {H : AuH} {n c : Nat} (HV : HeapV H n c) (ad : Addr) (m : Nat) (A2 : Option Addr) (c2 : Nat) (U : Nat -> Nat -> Sl) (Z : Nat -> Nat -> List Int) (hTc : H.t <= c2) (hc2 : c2 <= maxLen)
  (sz : Nat -> Int) (hsz : ∀ k : Nat, k < 9 -> ((sizeN (H.s : Int) (k : Int) : Nat) : Int) = sz k) (hnd : ∀ k, k < 9 -> (pkA H.parts (sz k)).Nodup) (b : Bool) (hb : b = true ↔ FitsP H.parts sz H.t Z)
  (w : World) (hv : IsVals w ad n H.V) (hX : XCheckIs w H.t H.p H.s (some ad) n c m true) (hP : PksAt w A2 H.t U Z) :
  Calls Tryz.prog 26 #[.agg #[.int .i64 (H.t : Int), .int .i64 (H.p : Int), .int .i64 (H.s : Int)], .slice (some ad) n c, .slice A2 H.t c2] w fun e w' => e = .returned (.bool b) /\ Below w.heap.size w w' := by
 have HNO : Hid (∀ k, k < 9 -> ¬ OnceP H.parts sz H.t Z k -> b = false) := hidp (fun k hk h => by
  cases b with
  | false => rfl
  | true => exact absurd (((fits_iff hnd).2 (hb.1 rfl)).1 k hk) h)
 have HYES : Hid ((∀ k, k < 9 -> OnceP H.parts sz H.t Z k) -> b = (overN H.parts sz H.t Z 9 == 0)) := hidp (fun h => by
  by_cases h0 : overN H.parts sz H.t Z 9 = 0
  ·rw [hb.2 ((fits_iff hnd).1 ⟨h, h0⟩), h0]; rfl
  ·cases b with
   | false => symm; simpa using h0
   | true => exact absurd ((fits_iff hnd).2 (hb.1 rfl)).2 h0)
 have HC := hidp (Held.new w 23 #[.int .i64 (H.t : Int), .int .i64 (H.p : Int), .int .i64 (H.s : Int)])
 have HB := hidp (Bnew (B0 w) (.cells #[.int .i64 (H.t : Int), .int .i64 (H.p : Int), .int .i64 (H.s : Int)] 23))
 have HXX := hidp hX
 have HVL := hidp hv
 have HPP := hidp hP
 have HSZA := hidp hsz
 obtain ⟨l, hpl⟩ : ∃ l, H.parts = l := ⟨_, rfl⟩
 obtain ⟨nl, hnl⟩ : ∃ nl, l.length = nl := ⟨_, rfl⟩
 have hnum := HV.nums
 have hT16 : H.t <= 16 := by omega
 have hnb : nl <= 60000 := by
  have h2 : H.parts.length <= H.p * 33 := AuH.parts_len H.p
  rw [hpl, hnl] at h2
  omega
 have HPL := hidp hpl
 have HNL := hidp hnl
 rw [hpl] at HNO HYES
 have t0 : ((H.t : Int) != (H.t : Int)) = false := by simp
 have s0 : -9223372036854775808 <= (H.s : Int) := by omega
 clear hb hX hv hP hsz hnl hpl hnd
 obtain ⟨x0, x1, x2⟩ := HC.out.three
 go_enter Tryz.func26, Tryz.ntmps26
 go_wp2_with fail
 refine (xSound_c H.t H.p H.s (some ad) n c m true _ (HXX.out.grown HB.out)).mono ?_
 rintro e w2 ⟨rfl, hb⟩
 replace HC := hidp (HC.out.keep hb)
 replace HB := hidp (Bgo HB.out hb)
 clear hb x0 x1 x2
 obtain ⟨x0, x1, x2⟩ := HC.out.three
 go_wp2_with fail
 refine (xPartsTop_yes HV ad m _ (HVL.out.below HB.out) (HXX.out.grown HB.out)).mono ?_
 rintro e w3 ⟨u3, rfl, ho, hb⟩
 rw [HPL.out, HNL.out] at ho
 obtain ⟨A1, c1, hu⟩ := own_slice ho
 subst hu
 have hcc := own_caps_any ho
 generalize w2.heap.size = bs at ho
 have HO := hidp ho
 replace HC := hidp (HC.out.keep hb)
 replace HB := hidp (Bgo HB.out hb)
 clear ho hb x0 x1 x2
 have HIB : Hid (∀ k, k < 9 -> ∀ z ∈ haveT Z k H.t, -9223372036854775808 <= z /\ z <= 9223372036854775807) := hidp (fun k hk z hz => by
  obtain ⟨t, ht, hz⟩ := haveT_mem hz
  obtain ⟨_, _, _, hcs⟩ := HPP.out t ht
  obtain ⟨_, _, _, _, _, hb, _⟩ := (hcs k hk).2
  exact hb z hz)
 go_wp2_with fail
 go_loopw [8, 9] (fun u8 u9 wr => ∃ (k : Nat) (ov : Int), k <= 9 /\ u9 = .int .i64 (k : Int) /\ u8 = .int .i64 ov /\ Hid (overN l sz H.t Z k = ov) /\ Hid (∀ j, j < k -> OnceP l sz H.t Z j) /\ Hid (Held wr w.heap.size 23 #[.int .i64 (H.t : Int), .int .i64 (H.p : Int), .int .i64 (H.s : Int)]) /\ Hid (wr.ownsRow bs 128 3 (.slice A1 nl c1) nl (ptVs l)) /\ Hid (Below w.heap.size w wr)) (fun _ u9 _ => 9 - (intOf u9).toNat)
 case atStart => exact ⟨0, 0, by omega, rfl, rfl, hidp rfl, hidp (fun j hj => absurd hj (Nat.not_lt_zero _)), HC, HO, HB⟩
 case round =>
  clear HC HO HB
  obtain ⟨k, ov, hk, rfl, rfl, HOV, HON, HC, HO, HB⟩ := hrel
  by_cases hk9 : k < 9
  ·go_wp2_with fail
   go_loopw [10] (fun u10 wr2 => ∃ t : Nat, t <= H.t /\ u10 = .int .i64 (t : Int) /\ wr2 = wr /\ Hid (∀ t', t' < t -> (Z t' k).length <= 4)) (fun u10 _ => H.t - (intOf u10).toNat)
   case atStart => exact ⟨0, by omega, rfl, rfl, hidp (fun j hj => absurd hj (Nat.not_lt_zero _))⟩
   case round =>
    obtain ⟨t, ht, rfl, rfl, HF4⟩ := hrel
    by_cases htT : t < H.t
    ·obtain ⟨ad2, e2, _, hcs⟩ := HPP.out.below HB.out t htT
     obtain ⟨hc0, hL⟩ := hcs k hk9
     obtain ⟨A3, c3, hu, hlc, hcm2, _, _, _⟩ := hL
     rw [hu] at hc0
     have hc1 := hc0
     rw [<- add_of_add] at hc1
     obtain ⟨n1, hn1⟩ : ∃ n1, (Z t k).length = n1 := ⟨_, rfl⟩
     have HN1 := hidp hn1
     have hz : (Z t k).length <= 9223372036854775807 := Nat.le_trans hlc (by unfold maxLen at hcm2; omega)
     rw [hn1] at hc0 hc1 hlc hz
     clear hu hn1 hcs
     by_cases h4 : n1 <= 4
     ·have t1 : decide ((4 : Int) < (n1 : Int)) = false := decide_eq_false (by omega)
      have t1n : decide (4 < n1) = false := decide_eq_false (by omega)
      subst e2
      go_wp2_with fail
      go_roundw
      case rel => exact ⟨t + 1, by omega, by go_num, by first | rfl | trivial, hidp (fun t' h' => by
       by_cases e : t' = t
       ·subst e; rw [HN1.out]; exact h4
       ·exact HF4.out t' (by omega))⟩
      case measure => simp [intOf]; omega
     ·have t1 : decide ((4 : Int) < (n1 : Int)) = true := decide_eq_true (by omega)
      have t1n : decide (4 < n1) = true := decide_eq_true (by omega)
      have hf := HNO.out k hk9 (fun h => h4 (by rw [<- HN1.out]; exact h.1 t htT))
      subst hf
      subst e2
      go_wp2_with fail
      go_ret
      exact ⟨rfl, HB.out⟩
    ·obtain rfl : t = H.t := by omega
     go_wp2_with fail
     refine (rAll_c A2 H.t c2 k U Z (by omega) hk9 (fun t' h' => Nat.le_trans (HF4.out t' h') (by omega)) hTc hc2 _ (HPP.out.below HB.out)).mono ?_
     rintro e w4 ⟨u4, rfl, ho, hb⟩
     obtain ⟨nh, hnh⟩ : ∃ nh, (haveT Z k H.t).length = nh := ⟨_, rfl⟩
     have hhl := haveT_len (Z := Z) (k := k) (B := 1000) (T := H.t) (fun t' ht' => Nat.le_trans (HF4.out t' ht') (by omega))
     have HLH := hidp (longs_of_own ho (HIB.out k hk9))
     rw [hnh] at ho hhl
     obtain ⟨A4, c4, hu⟩ := own_slice ho
     subst hu
     have hcc4 := own_caps_any ho
     have HV1 := hidp ho
     have HNH := hidp hnh
     replace HC := hidp (HC.out.keep hb)
     replace HO := hidp (own_below HO.out hb)
     replace HB := hidp (Bgo HB.out hb)
     have hbd := overN_bound (parts := l) (sz := sz) (T := H.t) (B := 16000) (Z := Z) (m := k) (fun j hj => by
      have h5 := haveT_len (Z := Z) (k := j) (B := 1000) (T := H.t) (fun t ht => Nat.le_trans ((HON.out j hj).1 t ht) (by omega))
      omega) k (Nat.le_refl _)
     rw [HNL.out, HOV.out] at hbd
     have hbd1 : -540000 <= ov /\ ov <= 144000 := by
      have g1 : (k : Int) * (nl : Int) <= 9 * 60000 := by
       have : k * nl <= 9 * 60000 := Nat.mul_le_mul hk hnb
       omega
      omega
     have v1 : IntKind.i64.wrap (ov + (nh : Int)) = ov + (nh : Int) := i64_same (by omega) (by omega)
     obtain ⟨zk, hzk⟩ : ∃ zk, sz k = zk := ⟨_, rfl⟩
     have HSZ : Hid (((sizeN (H.s : Int) (k : Int) : Nat) : Int) = zk) := hidp (by rw [HSZA.out k hk9, hzk])
     have HZK := hidp hzk
     clear ho hb hnh hbd hzk
     go_wp2_with fail
     go_loopw [8, 12] (fun u8 u12 wr => ∃ (i : Nat) (v : Int), i <= nl /\ u12 = .int .i64 (i : Int) /\ u8 = .int .i64 v /\ Hid (v = ov + (nh : Int) - ((pkA (l.take i) zk).length : Int)) /\ Hid (∀ a ∈ pkA (l.take i) zk, (haveT Z k H.t).count a = 1) /\ Hid (Held wr w.heap.size 23 #[.int .i64 (H.t : Int), .int .i64 (H.p : Int), .int .i64 (H.s : Int)]) /\ Hid (wr.ownsRow bs 128 3 (.slice A1 nl c1) nl (ptVs l)) /\ Hid (LongsAt wr (.slice A4 nh c4) (haveT Z k H.t)) /\ Hid (Below w.heap.size w wr)) (fun _ u12 _ => nl - (intOf u12).toNat)
     case atStart => exact ⟨0, ov + (nh : Int), by omega, rfl, rfl, hidp (by simp [pkA]), hidp (fun a ha => by simp [pkA] at ha), HC, HO, HLH, HB⟩
     case round =>
      clear HC HO HB HLH HV1
      obtain ⟨i, v, hi, rfl, rfl, HV0, HQ, HC, HO, HLH, HB⟩ := hrel
      by_cases hlt : i < nl
      ·obtain ⟨x, hx⟩ : ∃ x, l[i]? = some x := ⟨_, List.getElem?_eq_getElem (by rw [HNL.out]; exact hlt)⟩
       obtain ⟨xk, xa, xz⟩ := x
       obtain ⟨g, c9, hg, _⟩ := HO.out.form (by omega)
       injection hg with hg3 _ hg4
       subst hg3
       clear hg4
       have HXC := hidp (fun (w' : World) (ho : w'.ownsRow bs 128 3 (.slice (some ⟨g, 0, none⟩) nl c1) nl (ptVs l)) => (show w'.cell? ⟨g, i * 3, none⟩ = some (.int .i64 xk) /\ w'.cell? ⟨g, i * 3 + 1, none⟩ = some (.int .i64 xa) /\ w'.cell? ⟨g, i * 3 + 2, none⟩ = some (.int .i64 xz) from
        ⟨by rw [ho.cellAt (i * 3) (by omega)]; exact (ptVs_get l i _ hx).1, by rw [ho.cellAt (i * 3 + 1) (by omega)]; exact (ptVs_get l i _ hx).2.1, by rw [ho.cellAt (i * 3 + 2) (by omega)]; exact (ptVs_get l i _ hx).2.2⟩))
       have HPK := hidp (pkA_take zk hx)
       have hpl := pkA_len (l.take i) zk
       rw [List.length_take] at hpl
       have hv0 := HV0.out
       have hvb : -700000 <= v /\ v <= 700000 := by omega
       have HME : Hid (xk = 4 -> xz = zk -> xa ∈ pkA l zk) := hidp (fun e1 e2 => mem_pkA_at hx e1 e2)
       obtain ⟨cn, hcn⟩ : ∃ cn, (haveT Z k H.t).count xa = cn := ⟨_, rfl⟩
       have HCT := hidp hcn
       have hcb : cn <= nh := by rw [<- hcn, <- HNH.out]; exact List.count_le_length
       clear hx hv0 hpl hcn
       obtain ⟨x0, x1, x2⟩ := HC.out.three
       by_cases h4 : xk = 4
       ·have t4 : (xk == 4) = true := by simpa using h4
        by_cases h5 : xz = zk
        ·have t5 : (xz == zk) = true := by simpa using h5
         rw [if_pos ⟨h4, h5⟩] at HPK
         have HMM := hidp (HME.out h4 h5)
         clear h4 h5
         by_cases h6 : cn = 1
         ·have t6 : ((cn : Int) != 1) = false := by rw [bne_eq_false_iff_eq]; omega
          have t6n : (cn != 1) = false := by rw [bne_eq_false_iff_eq]; exact h6
          have v2 : IntKind.i64.wrap (v - 1) = v - 1 := i64_same (by omega) (by omega)
          have HC1 : Hid ((haveT Z k H.t).count xa = 1) := hidp (by rw [HCT.out]; exact h6)
          clear h6
          go_wp2_with fail
          replace HC := hidp (HC.out.keep (Bdrew (B0 _)))
          replace HO := hidp (own_below HO.out (Bdrew (B0 _)))
          replace HLH := hidp (HLH.out.below (Bdrew (B0 _)))
          replace HB := hidp (Bgo HB.out (Bdrew (B0 _)))
          refine wp_region_held_drew (S := (fun w' => (w'.cell? ⟨w.heap.size, 0, none⟩ = some (.int .i64 (H.t : Int)) /\ w'.cell? ⟨w.heap.size, 1, none⟩ = some (.int .i64 (H.p : Int)) /\ w'.cell? ⟨w.heap.size, 2, none⟩ = some (.int .i64 (H.s : Int))) /\ w'.cell? ⟨g, i * 3, none⟩ = some (.int .i64 xk) /\ w'.cell? ⟨g, i * 3 + 1, none⟩ = some (.int .i64 xa) /\ w'.cell? ⟨g, i * 3 + 2, none⟩ = some (.int .i64 xz))) (by kernel_rfl) ?_ (fun hHeld => ?_)
          ·(try dsimp only)
           first | exact ⟨HC.out.three, HXC.out _ HO.out⟩ | exact hHeld
          refine tkz 0 ?_
          refine tkz 1 ?_
          refine tkz 2 ?_
          refine tkz 3 ?_
          refine tkz 4 ?_
          refine tkz 5 ?_
          refine tkz 6 ?_
          refine tkz 7 ?_
          refine tkz 8 ?_
          refine tkz 9 ?_
          refine tkz 10 ?_
          refine tkz 11 ?_
          refine tkz 12 ?_
          refine tkz 13 ?_
          refine tkz 14 ?_
          refine rdz 15 fun K hK => ?_
          go_simp
          refine (r5Size_c (H.s : Int) (k : Int) (by omega) (by omega) _).mono ?_
          rintro e w9 ⟨rfl, hb⟩
          rw [HSZ.out]
          replace HC := hidp (HC.out.keep hb)
          replace HO := hidp (own_below HO.out hb)
          replace HLH := hidp (HLH.out.below hb)
          replace HB := hidp (Bgo HB.out hb)
          clear hb
          refine hK.out _ _ ?_ (fun hHeld => ?_)
          ·(try dsimp only)
           first | exact ⟨HC.out.three, HXC.out _ HO.out⟩ | exact hHeld
          clear hK K
          (try simp only [Act.put, gA, gB, gC, sA, sB, sC])
          refine tkz 16 ?_
          refine tkz 17 ?_
          refine dnz ?_
          clear x0 x1 x2
          obtain ⟨x0, x1, x2⟩ := HC.out.three
          obtain ⟨y0, y1, y2⟩ := HXC.out _ HO.out
          go_wp2_with fail
          refine (rOften_c (.slice A4 nh c4) (haveT Z k H.t) xa nh HNH.out (by omega) _ HLH.out).mono ?_
          rintro e w8 ⟨rfl, rfl⟩
          rw [HCT.out]
          go_wp2_with fail
          go_roundw
          case rel => exact ⟨i + 1, v - 1, by omega, by go_num, rfl, hidp (by rw [HPK.out, List.length_append, HV0.out]; simp only [List.length_cons, List.length_nil]; omega), hidp (fun a ha => by
           rw [HPK.out] at ha
           rcases List.mem_append.1 ha with ha | ha
           ·exact HQ.out a ha
           ·rw [List.mem_singleton] at ha; rw [ha]; exact HC1.out), HC, HO, HLH, HB⟩
          case measure => simp [intOf]; omega
         ·have t6 : ((cn : Int) != 1) = true := by rw [bne_iff_ne]; omega
          have t6n : (cn != 1) = true := by rw [bne_iff_ne]; exact h6
          have hf := HNO.out k hk9 (fun h => h6 (by rw [<- HCT.out]; exact h.2 xa (by rw [HZK.out]; exact HMM.out)))
          subst hf
          clear h6
          go_wp2_with fail
          replace HC := hidp (HC.out.keep (Bdrew (B0 _)))
          replace HO := hidp (own_below HO.out (Bdrew (B0 _)))
          replace HLH := hidp (HLH.out.below (Bdrew (B0 _)))
          replace HB := hidp (Bgo HB.out (Bdrew (B0 _)))
          refine wp_region_held_drew (S := (fun w' => (w'.cell? ⟨w.heap.size, 0, none⟩ = some (.int .i64 (H.t : Int)) /\ w'.cell? ⟨w.heap.size, 1, none⟩ = some (.int .i64 (H.p : Int)) /\ w'.cell? ⟨w.heap.size, 2, none⟩ = some (.int .i64 (H.s : Int))) /\ w'.cell? ⟨g, i * 3, none⟩ = some (.int .i64 xk) /\ w'.cell? ⟨g, i * 3 + 1, none⟩ = some (.int .i64 xa) /\ w'.cell? ⟨g, i * 3 + 2, none⟩ = some (.int .i64 xz))) (by kernel_rfl) ?_ (fun hHeld => ?_)
          ·(try dsimp only)
           first | exact ⟨HC.out.three, HXC.out _ HO.out⟩ | exact hHeld
          refine tkz 0 ?_
          refine tkz 1 ?_
          refine tkz 2 ?_
          refine tkz 3 ?_
          refine tkz 4 ?_
          refine tkz 5 ?_
          refine tkz 6 ?_
          refine tkz 7 ?_
          refine tkz 8 ?_
          refine tkz 9 ?_
          refine tkz 10 ?_
          refine tkz 11 ?_
          refine tkz 12 ?_
          refine tkz 13 ?_
          refine tkz 14 ?_
          refine rdz 15 fun K hK => ?_
          go_simp
          refine (r5Size_c (H.s : Int) (k : Int) (by omega) (by omega) _).mono ?_
          rintro e w9 ⟨rfl, hb⟩
          rw [HSZ.out]
          replace HC := hidp (HC.out.keep hb)
          replace HO := hidp (own_below HO.out hb)
          replace HLH := hidp (HLH.out.below hb)
          replace HB := hidp (Bgo HB.out hb)
          clear hb
          refine hK.out _ _ ?_ (fun hHeld => ?_)
          ·(try dsimp only)
           first | exact ⟨HC.out.three, HXC.out _ HO.out⟩ | exact hHeld
          clear hK K
          (try simp only [Act.put, gA, gB, gC, sA, sB, sC])
          refine tkz 16 ?_
          refine tkz 17 ?_
          refine dnz ?_
          clear x0 x1 x2
          obtain ⟨x0, x1, x2⟩ := HC.out.three
          obtain ⟨y0, y1, y2⟩ := HXC.out _ HO.out
          go_wp2_with fail
          refine (rOften_c (.slice A4 nh c4) (haveT Z k H.t) xa nh HNH.out (by omega) _ HLH.out).mono ?_
          rintro e w8 ⟨rfl, rfl⟩
          rw [HCT.out]
          go_wp2_with fail
          go_ret
          exact ⟨rfl, HB.out⟩
        ·have t5 : (xz == zk) = false := by simpa using h5
         rw [if_neg (fun h => h5 h.2), List.append_nil] at HPK
         clear h4 h5
         go_wp2_with fail
         replace HC := hidp (HC.out.keep (Bdrew (B0 _)))
         replace HO := hidp (own_below HO.out (Bdrew (B0 _)))
         replace HLH := hidp (HLH.out.below (Bdrew (B0 _)))
         replace HB := hidp (Bgo HB.out (Bdrew (B0 _)))
         refine wp_region_held_drew (S := (fun w' => (w'.cell? ⟨w.heap.size, 0, none⟩ = some (.int .i64 (H.t : Int)) /\ w'.cell? ⟨w.heap.size, 1, none⟩ = some (.int .i64 (H.p : Int)) /\ w'.cell? ⟨w.heap.size, 2, none⟩ = some (.int .i64 (H.s : Int))) /\ w'.cell? ⟨g, i * 3, none⟩ = some (.int .i64 xk) /\ w'.cell? ⟨g, i * 3 + 1, none⟩ = some (.int .i64 xa) /\ w'.cell? ⟨g, i * 3 + 2, none⟩ = some (.int .i64 xz))) (by kernel_rfl) ?_ (fun hHeld => ?_)
         ·(try dsimp only)
          first | exact ⟨HC.out.three, HXC.out _ HO.out⟩ | exact hHeld
         refine tkz 0 ?_
         refine tkz 1 ?_
         refine tkz 2 ?_
         refine tkz 3 ?_
         refine tkz 4 ?_
         refine tkz 5 ?_
         refine tkz 6 ?_
         refine tkz 7 ?_
         refine tkz 8 ?_
         refine tkz 9 ?_
         refine tkz 10 ?_
         refine tkz 11 ?_
         refine tkz 12 ?_
         refine tkz 13 ?_
         refine tkz 14 ?_
         refine rdz 15 fun K hK => ?_
         go_simp
         refine (r5Size_c (H.s : Int) (k : Int) (by omega) (by omega) _).mono ?_
         rintro e w9 ⟨rfl, hb⟩
         rw [HSZ.out]
         replace HC := hidp (HC.out.keep hb)
         replace HO := hidp (own_below HO.out hb)
         replace HLH := hidp (HLH.out.below hb)
         replace HB := hidp (Bgo HB.out hb)
         clear hb
         refine hK.out _ _ ?_ (fun hHeld => ?_)
         ·(try dsimp only)
          first | exact ⟨HC.out.three, HXC.out _ HO.out⟩ | exact hHeld
         clear hK K
         (try simp only [Act.put, gA, gB, gC, sA, sB, sC])
         refine tkz 16 ?_
         refine tkz 17 ?_
         refine dnz ?_
         go_wp2_with fail
         go_roundw
         case rel => exact ⟨i + 1, v, by omega, by go_num, rfl, hidp (by rw [HPK.out]; exact HV0.out), hidp (fun a ha => by rw [HPK.out] at ha; exact HQ.out a ha), HC, HO, HLH, HB⟩
         case measure => simp [intOf]; omega
       ·have t4 : (xk == 4) = false := by simpa using h4
        rw [if_neg (fun h => h4 h.1), List.append_nil] at HPK
        clear h4
        go_wp2_with fail
        replace HC := hidp (HC.out.keep (Bdrew (B0 _)))
        replace HO := hidp (own_below HO.out (Bdrew (B0 _)))
        replace HLH := hidp (HLH.out.below (Bdrew (B0 _)))
        replace HB := hidp (Bgo HB.out (Bdrew (B0 _)))
        refine wp_region_held_drew (S := (fun w' => (w'.cell? ⟨w.heap.size, 0, none⟩ = some (.int .i64 (H.t : Int)) /\ w'.cell? ⟨w.heap.size, 1, none⟩ = some (.int .i64 (H.p : Int)) /\ w'.cell? ⟨w.heap.size, 2, none⟩ = some (.int .i64 (H.s : Int))) /\ w'.cell? ⟨g, i * 3, none⟩ = some (.int .i64 xk) /\ w'.cell? ⟨g, i * 3 + 1, none⟩ = some (.int .i64 xa) /\ w'.cell? ⟨g, i * 3 + 2, none⟩ = some (.int .i64 xz))) (by kernel_rfl) ?_ (fun hHeld => ?_)
        ·(try dsimp only)
         first | exact ⟨HC.out.three, HXC.out _ HO.out⟩ | exact hHeld
        refine tkz 0 ?_
        refine tkz 1 ?_
        refine tkz 2 ?_
        refine tkz 3 ?_
        refine tkz 4 ?_
        refine tkz 5 ?_
        refine tkz 6 ?_
        refine skz 7 ?_
        refine skz 8 ?_
        refine skz 9 ?_
        refine skz 10 ?_
        refine skz 11 ?_
        refine skz 12 ?_
        refine skz 13 ?_
        refine skz 14 ?_
        refine skz 15 ?_
        refine skz 16 ?_
        refine tkz 17 ?_
        refine dnz ?_
        go_wp2_with fail
        go_roundw
        case rel => exact ⟨i + 1, v, by omega, by go_num, rfl, hidp (by rw [HPK.out]; exact HV0.out), hidp (fun a ha => by rw [HPK.out] at ha; exact HQ.out a ha), HC, HO, HLH, HB⟩
        case measure => simp [intOf]; omega
      ·obtain rfl : i = nl := by omega
       have HE : Hid (l.take i = l) := hidp (List.take_of_length_le (by rw [HNL.out]; exact Nat.le_refl _))
       go_wp2_with fail
       go_roundw
       case rel => exact ⟨k + 1, v, by omega, by go_num, rfl, hidp (by
        show overN l sz H.t Z k + ((haveT Z k H.t).length : Int) - ((pkA l (sz k)).length : Int) = v
        rw [HV0.out, HE.out, HOV.out, HNH.out, HZK.out]), hidp (fun j hj => by
        by_cases e : j = k
        ·subst e
         exact ⟨HF4.out, fun a ha => HQ.out a (by rw [HE.out]; rw [HZK.out] at ha; exact ha)⟩
        ·exact HON.out j (by omega)), HC, HO, HB⟩
       case measure => simp [intOf]; omega
  ·obtain rfl : k = 9 := by omega
   have hf := HYES.out HON.out
   rw [HOV.out] at hf
   subst hf
   go_wp2
   go_ret
   exact ⟨rfl, HB.out⟩
end
section
theorem fit_q (t q s : Int) (A : Option Addr) (n c : Nat) (A2 : Option Addr) (T c2 : Nat) (t0 k0 pg sl : Int) (h : 64 < q) (W : World) : Calls Tryz.prog 7 #[.agg #[.int .i64 t, .int .i64 q, .int .i64 s], .slice A n c, .agg #[.slice A2 T c2, .int .i64 t0, .int .i64 k0, .int .i64 pg, .int .i64 sl]] W (fun e w' => e = .returned (.bool false) /\ Below W.heap.size W w') := by
 have t2 : decide (q <= (64 : Int)) = false := decide_eq_false (by omega)
 have HC := hidp ((Held.new W 23 #[.int .i64 t, .int .i64 q, .int .i64 s]).alloc (.cells #[.slice A2 T c2, .int .i64 t0, .int .i64 k0, .int .i64 pg, .int .i64 sl] 27))
 have HX := hidp (Held.new2 W (.cells #[.int .i64 t, .int .i64 q, .int .i64 s] 23) 27 #[.slice A2 T c2, .int .i64 t0, .int .i64 k0, .int .i64 pg, .int .i64 sl])
 have HB := hidp (Bnew (Bnew (B0 W) (.cells #[.int .i64 t, .int .i64 q, .int .i64 s] 23)) (.cells #[.slice A2 T c2, .int .i64 t0, .int .i64 k0, .int .i64 pg, .int .i64 sl] 27))
 obtain ⟨x0', x1', x2'⟩ := HC.out.three
 obtain ⟨y0', y1', y2', y3', y4'⟩ := HX.out.five'
 go_enter Tryz.func7, Tryz.ntmps7
 go_wp2_with fail
 refine (few14_c t q s _).mono ?_
 rintro e w1 ⟨rfl, hb⟩
 rw [t2]
 replace HC := hidp (HC.out.keep hb)
 replace HX := hidp (HX.out.keep hb)
 replace HB := hidp (Bgo HB.out hb)
 clear hb
 clear x0' x1' x2' y0' y1' y2' y3' y4'
 obtain ⟨x0', x1', x2'⟩ := HC.out.three
 obtain ⟨y0', y1', y2', y3', y4'⟩ := HX.out.five'
 go_wp2
 go_ret
 exact ⟨rfl, HB.out⟩
theorem fit_T (t q s : Int) (A : Option Addr) (n c : Nat) (A2 : Option Addr) (T c2 : Nat) (t0 k0 pg sl : Int) (h1 : q <= 64) (hc : T <= 9223372036854775807) (h : 16 < T) (W : World) : Calls Tryz.prog 7 #[.agg #[.int .i64 t, .int .i64 q, .int .i64 s], .slice A n c, .agg #[.slice A2 T c2, .int .i64 t0, .int .i64 k0, .int .i64 pg, .int .i64 sl]] W (fun e w' => e = .returned (.bool false) /\ Below W.heap.size W w') := by
 have t2 : decide (q <= (64 : Int)) = true := decide_eq_true (by omega)
 have t3 : decide ((T : Int) <= (16 : Int)) = false := decide_eq_false (by omega)
 have t3n : decide (T <= 16) = false := decide_eq_false (by omega)
 have HC := hidp ((Held.new W 23 #[.int .i64 t, .int .i64 q, .int .i64 s]).alloc (.cells #[.slice A2 T c2, .int .i64 t0, .int .i64 k0, .int .i64 pg, .int .i64 sl] 27))
 have HX := hidp (Held.new2 W (.cells #[.int .i64 t, .int .i64 q, .int .i64 s] 23) 27 #[.slice A2 T c2, .int .i64 t0, .int .i64 k0, .int .i64 pg, .int .i64 sl])
 have HB := hidp (Bnew (Bnew (B0 W) (.cells #[.int .i64 t, .int .i64 q, .int .i64 s] 23)) (.cells #[.slice A2 T c2, .int .i64 t0, .int .i64 k0, .int .i64 pg, .int .i64 sl] 27))
 obtain ⟨x0', x1', x2'⟩ := HC.out.three
 obtain ⟨y0', y1', y2', y3', y4'⟩ := HX.out.five'
 go_enter Tryz.func7, Tryz.ntmps7
 go_wp2_with fail
 refine (few14_c t q s _).mono ?_
 rintro e w1 ⟨rfl, hb⟩
 rw [t2]
 replace HC := hidp (HC.out.keep hb)
 replace HX := hidp (HX.out.keep hb)
 replace HB := hidp (Bgo HB.out hb)
 clear hb
 clear x0' x1' x2' y0' y1' y2' y3' y4'
 obtain ⟨x0', x1', x2'⟩ := HC.out.three
 obtain ⟨y0', y1', y2', y3', y4'⟩ := HX.out.five'
 go_wp2
 go_ret
 exact ⟨rfl, HB.out⟩
theorem fit_lo (t q s : Int) (A : Option Addr) (n c : Nat) (A2 : Option Addr) (T c2 : Nat) (t0 k0 pg sl : Int) (h1 : q <= 64) (h2 : T <= 16) (h : t0 < 0) (W : World) : Calls Tryz.prog 7 #[.agg #[.int .i64 t, .int .i64 q, .int .i64 s], .slice A n c, .agg #[.slice A2 T c2, .int .i64 t0, .int .i64 k0, .int .i64 pg, .int .i64 sl]] W (fun e w' => e = .returned (.bool false) /\ Below W.heap.size W w') := by
 have t2 : decide (q <= (64 : Int)) = true := decide_eq_true (by omega)
 have t3 : decide ((T : Int) <= (16 : Int)) = true := decide_eq_true (by omega)
 have t3n : decide (T <= 16) = true := decide_eq_true (by omega)
 have t4 : decide ((0 : Int) <= t0) = false := decide_eq_false (by omega)
 have HC := hidp ((Held.new W 23 #[.int .i64 t, .int .i64 q, .int .i64 s]).alloc (.cells #[.slice A2 T c2, .int .i64 t0, .int .i64 k0, .int .i64 pg, .int .i64 sl] 27))
 have HX := hidp (Held.new2 W (.cells #[.int .i64 t, .int .i64 q, .int .i64 s] 23) 27 #[.slice A2 T c2, .int .i64 t0, .int .i64 k0, .int .i64 pg, .int .i64 sl])
 have HB := hidp (Bnew (Bnew (B0 W) (.cells #[.int .i64 t, .int .i64 q, .int .i64 s] 23)) (.cells #[.slice A2 T c2, .int .i64 t0, .int .i64 k0, .int .i64 pg, .int .i64 sl] 27))
 obtain ⟨x0', x1', x2'⟩ := HC.out.three
 obtain ⟨y0', y1', y2', y3', y4'⟩ := HX.out.five'
 go_enter Tryz.func7, Tryz.ntmps7
 go_wp2_with fail
 refine (few14_c t q s _).mono ?_
 rintro e w1 ⟨rfl, hb⟩
 rw [t2]
 replace HC := hidp (HC.out.keep hb)
 replace HX := hidp (HX.out.keep hb)
 replace HB := hidp (Bgo HB.out hb)
 clear hb
 clear x0' x1' x2' y0' y1' y2' y3' y4'
 obtain ⟨x0', x1', x2'⟩ := HC.out.three
 obtain ⟨y0', y1', y2', y3', y4'⟩ := HX.out.five'
 go_wp2
 go_ret
 exact ⟨rfl, HB.out⟩
theorem fit_hi (t q s : Int) (A : Option Addr) (n c : Nat) (A2 : Option Addr) (T c2 : Nat) (t0 k0 pg sl : Int) (h1 : q <= 64) (h2 : T <= 16) (h3 : 0 <= t0) (h : (T : Int) <= t0) (W : World) : Calls Tryz.prog 7 #[.agg #[.int .i64 t, .int .i64 q, .int .i64 s], .slice A n c, .agg #[.slice A2 T c2, .int .i64 t0, .int .i64 k0, .int .i64 pg, .int .i64 sl]] W (fun e w' => e = .returned (.bool false) /\ Below W.heap.size W w') := by
 have t2 : decide (q <= (64 : Int)) = true := decide_eq_true (by omega)
 have t3 : decide ((T : Int) <= (16 : Int)) = true := decide_eq_true (by omega)
 have t3n : decide (T <= 16) = true := decide_eq_true (by omega)
 have t4 : decide ((0 : Int) <= t0) = true := decide_eq_true (by omega)
 have t5 : decide (t0 < (T : Int)) = false := decide_eq_false (by omega)
 have HC := hidp ((Held.new W 23 #[.int .i64 t, .int .i64 q, .int .i64 s]).alloc (.cells #[.slice A2 T c2, .int .i64 t0, .int .i64 k0, .int .i64 pg, .int .i64 sl] 27))
 have HX := hidp (Held.new2 W (.cells #[.int .i64 t, .int .i64 q, .int .i64 s] 23) 27 #[.slice A2 T c2, .int .i64 t0, .int .i64 k0, .int .i64 pg, .int .i64 sl])
 have HB := hidp (Bnew (Bnew (B0 W) (.cells #[.int .i64 t, .int .i64 q, .int .i64 s] 23)) (.cells #[.slice A2 T c2, .int .i64 t0, .int .i64 k0, .int .i64 pg, .int .i64 sl] 27))
 obtain ⟨x0', x1', x2'⟩ := HC.out.three
 obtain ⟨y0', y1', y2', y3', y4'⟩ := HX.out.five'
 go_enter Tryz.func7, Tryz.ntmps7
 go_wp2_with fail
 refine (few14_c t q s _).mono ?_
 rintro e w1 ⟨rfl, hb⟩
 rw [t2]
 replace HC := hidp (HC.out.keep hb)
 replace HX := hidp (HX.out.keep hb)
 replace HB := hidp (Bgo HB.out hb)
 clear hb
 clear x0' x1' x2' y0' y1' y2' y3' y4'
 obtain ⟨x0', x1', x2'⟩ := HC.out.three
 obtain ⟨y0', y1', y2', y3', y4'⟩ := HX.out.five'
 go_wp2
 go_ret
 exact ⟨rfl, HB.out⟩
theorem fit_fits (t q s : Int) (A : Option Addr) (n c : Nat) (A2 : Option Addr) (T c2 : Nat) (t0 k0 pg sl : Int) (W : World) (h1 : q <= 64) (h2 : T <= 16) (h3 : 0 <= t0) (h4 : t0 < (T : Int)) (b : Bool) (HF : ∀ w, Below W.heap.size W w -> Calls Tryz.prog 26 #[.agg #[.int .i64 t, .int .i64 q, .int .i64 s], .slice A n c, .slice A2 T c2] w fun e w' => e = .returned (.bool b) /\ Below w.heap.size w w')  : Calls Tryz.prog 7 #[.agg #[.int .i64 t, .int .i64 q, .int .i64 s], .slice A n c, .agg #[.slice A2 T c2, .int .i64 t0, .int .i64 k0, .int .i64 pg, .int .i64 sl]] W (fun e w' => e = .returned (.bool b) /\ Below W.heap.size W w') := by
 have t2 : decide (q <= (64 : Int)) = true := decide_eq_true (by omega)
 have t3 : decide ((T : Int) <= (16 : Int)) = true := decide_eq_true (by omega)
 have t3n : decide (T <= 16) = true := decide_eq_true (by omega)
 have t4 : decide ((0 : Int) <= t0) = true := decide_eq_true (by omega)
 have t5 : decide (t0 < (T : Int)) = true := decide_eq_true (by omega)
 have HG := hidp HF
 clear HF
 have HC := hidp ((Held.new W 23 #[.int .i64 t, .int .i64 q, .int .i64 s]).alloc (.cells #[.slice A2 T c2, .int .i64 t0, .int .i64 k0, .int .i64 pg, .int .i64 sl] 27))
 have HX := hidp (Held.new2 W (.cells #[.int .i64 t, .int .i64 q, .int .i64 s] 23) 27 #[.slice A2 T c2, .int .i64 t0, .int .i64 k0, .int .i64 pg, .int .i64 sl])
 have HB := hidp (Bnew (Bnew (B0 W) (.cells #[.int .i64 t, .int .i64 q, .int .i64 s] 23)) (.cells #[.slice A2 T c2, .int .i64 t0, .int .i64 k0, .int .i64 pg, .int .i64 sl] 27))
 obtain ⟨x0', x1', x2'⟩ := HC.out.three
 obtain ⟨y0', y1', y2', y3', y4'⟩ := HX.out.five'
 go_enter Tryz.func7, Tryz.ntmps7
 go_wp2_with fail
 refine (few14_c t q s _).mono ?_
 rintro e w1 ⟨rfl, hb⟩
 rw [t2]
 replace HC := hidp (HC.out.keep hb)
 replace HX := hidp (HX.out.keep hb)
 replace HB := hidp (Bgo HB.out hb)
 clear hb
 clear x0' x1' x2' y0' y1' y2' y3' y4'
 obtain ⟨x0', x1', x2'⟩ := HC.out.three
 obtain ⟨y0', y1', y2', y3', y4'⟩ := HX.out.five'
 go_wp2_with fail
 refine (HG.out _ HB.out).mono ?_
 rintro e w2 ⟨rfl, hb⟩
 replace HC := hidp (HC.out.keep hb)
 replace HX := hidp (HX.out.keep hb)
 replace HB := hidp (Bgo HB.out hb)
 clear hb
 clear x0' x1' x2' y0' y1' y2' y3' y4'
 obtain ⟨x0', x1', x2'⟩ := HC.out.three
 obtain ⟨y0', y1', y2', y3', y4'⟩ := HX.out.five'
 cases b
 ·go_wp2
  go_ret
  exact ⟨rfl, HB.out⟩
 go_wp2
 go_ret
 exact ⟨rfl, HB.out⟩
theorem fit_or (t q s : Int) (A : Option Addr) (c : Nat) (vals : List Nat) (hnc : vals.length <= c) (hcm : c <= maxLen) (h32 : ∀ x ∈ vals, x < 2 ^ 32) (A2 : Option Addr) (T c2 : Nat) (t0 k0 pg sl : Int) (U : Nat -> Nat -> Sl) (Z : Nat -> Nat -> List Int) (hTc : T <= c2) (hc2 : c2 <= maxLen) (W : World) (HP : PksAt W A2 T U Z) (HR : Reads W W.heap.size 1 A vals.length (valVs vals)) :
  (∀ w, Below W.heap.size W w -> Calls Tryz.prog 7 #[.agg #[.int .i64 t, .int .i64 q, .int .i64 s], .slice A vals.length c, .agg #[.slice A2 T c2, .int .i64 t0, .int .i64 k0, .int .i64 pg, .int .i64 sl]] w fun e w' => e = .returned (.bool false) /\ Below w.heap.size w w') \/
  ∃ (H : AuH) (ad : Addr) (m i0 : Nat) (L : Nat -> List Nat), t = H.t /\ q = H.p /\ s = H.s /\ A = some ad /\ t0 = (i0 : Int) /\ T = H.t /\ i0 < H.t /\ H.p <= 64 /\ (∀ i, H.V i = vals.getD i 0) /\ HeapV H vals.length c /\ IsVals W ad vals.length H.V /\ (∀ i, i < 10 -> H.rule i) /\ H.Ok L /\ XCheckIs W H.t H.p H.s (some ad) vals.length c m true /\ FitsP H.parts (szH H) H.t Z /\
   ∀ w, Below W.heap.size W w -> Calls Tryz.prog 7 #[.agg #[.int .i64 t, .int .i64 q, .int .i64 s], .slice A vals.length c, .agg #[.slice A2 T c2, .int .i64 t0, .int .i64 k0, .int .i64 pg, .int .i64 sl]] w fun e w' => e = .returned (.bool true) /\ Below w.heap.size w w' := by
 have hc3 : T <= 9223372036854775807 := by unfold maxLen at hc2; omega
 by_cases hq : 64 < q
 ·exact .inl fun w _ => fit_q t q s A _ c A2 T c2 t0 k0 pg sl hq w
 by_cases hT : 16 < T
 ·exact .inl fun w _ => fit_T t q s A _ c A2 T c2 t0 k0 pg sl (by omega) hc3 hT w
 by_cases h3 : t0 < 0
 ·exact .inl fun w _ => fit_lo t q s A _ c A2 T c2 t0 k0 pg sl (by omega) (by omega) h3 w
 by_cases h4 : (T : Int) <= t0
 ·exact .inl fun w _ => fit_hi t q s A _ c A2 T c2 t0 k0 pg sl (by omega) (by omega) (by omega) h4 w
 have go : ∀ b : Bool, (∀ w, Below W.heap.size W w -> Calls Tryz.prog 26 #[.agg #[.int .i64 t, .int .i64 q, .int .i64 s], .slice A vals.length c, .slice A2 T c2] w fun e w' => e = .returned (.bool b) /\ Below w.heap.size w w') ->
   ∀ w, Below W.heap.size W w -> Calls Tryz.prog 7 #[.agg #[.int .i64 t, .int .i64 q, .int .i64 s], .slice A vals.length c, .agg #[.slice A2 T c2, .int .i64 t0, .int .i64 k0, .int .i64 pg, .int .i64 sl]] w fun e w' => e = .returned (.bool b) /\ Below w.heap.size w w' := fun b hF w hb =>
  fit_fits t q s A _ c A2 T c2 t0 k0 pg sl w (by omega) (by omega) (by omega) (by omega) b fun w' hb' => hF w' (Bgo hb hb')
 rcases heap13_or W t q s A c vals hnc hcm h32 HR with ⟨m, hX⟩ | ⟨H, ad, m, rfl, rfl, rfl, rfl, hV, HV, hv, hto, hX⟩
 ·exact .inl (go false fun w hb => rFits_unsound t q s A _ c m A2 T c2 w (hX.grown hb))
 ·by_cases hTt : T = H.t
  ·subst hTt
   have ht : H.Tiled := told_rules hto 1 (by omega)
   have hcon := AuH.parts_contig HV ht
   have hnd : ∀ k : Nat, k < 9 -> (pkA H.parts (szH H k)).Nodup := fun k _ => pkA_nodup hcon _
   by_cases hF : FitsP H.parts (szH H) H.t Z
   ·obtain ⟨L, hok⟩ := AuH.okL_of (by have := HV.nums; omega) (told_rules hto)
    obtain ⟨i0, rfl⟩ := Int.eq_ofNat_of_zero_le (show 0 <= t0 by omega)
    exact .inr ⟨H, ad, m, i0, L, rfl, rfl, rfl, rfl, rfl, rfl, by omega, by omega, hV, HV, hv, told_rules hto, hok, hX, hF, go true fun w hb => rFits_heap HV ad m A2 c2 U Z hTc hc2 (szH H) (fun _ _ => rfl) hnd true ⟨fun _ => hF, fun _ => rfl⟩ w (hv.below hb) (hX.grown hb) (HP.below hb)⟩
   ·exact .inl (go false fun w hb => rFits_heap HV ad m A2 c2 U Z hTc hc2 (szH H) (fun _ _ => rfl) hnd false ⟨(fun h => by cases h), fun h => absurd h hF⟩ w (hv.below hb) (hX.grown hb) (HP.below hb))
  ·exact .inl (go false fun w hb => rFits_other H.t H.p H.s (some ad) _ c m A2 T c2 (by omega) w (hX.grown hb))
end
end Go.Proofs.YtjjfcaliippgpaaGreatDoor

namespace Go.Proofs.YtjjfcaliippgpaaGreatDoor
open Go.ChangeShapes Go.WideShapes Go.ChangeAt Go.RowKit Go.Maps
set_option linter.unusedVariables false
set_option linter.unusedSimpArgs false
section
section
variable {n c : Nat} {K : Nat -> Option Nat} {p k : Nat}
end
section
variable {H : AuH} {n c : Nat} {K : Nat -> Option Nat} {st : Vst} {L : Nat -> List Nat} {T t0 k p i : Nat} {Z : Nat -> Nat -> List Int} {a : Int}
theorem spot_hand (HV : HeapV H n c) (F : FitsP H.parts (szH H) T Z) (ht : t0 < T) (hk : k < 9) {b : Int} (hb : b ∈ Z t0 k) :
  spotB H.t H.p H.s b = true /\ slotB H.t H.p H.s (k : Int) (spotO H.t H.p H.s b) = true /\ ∃ p i : Nat, spotP H.t H.p H.s b = (p : Int) /\ slotR H.t H.p H.s (k : Int) (spotO H.t H.p H.s b) = (i : Int) /\ i < 32 /\ p < H.p := by
 obtain ⟨q, i, hq, hc, e⟩ := fits_hand HV F ht hk hb
 have A := hand_at HV hq
 subst e
 have h1 := A.isB
 have h2 := A.slot
 rw [hc] at h1 h2
 exact ⟨A.spot, h1, q, i, A.page, h2, Nat.lt_of_lt_of_le hq.2.2.1 (slotI_le _), hq.1⟩
theorem pickAt_len {t q s k : Int} {p w : Nat} {x : Nat × List Nat} (h : (pickAt n K t q s k p w st).1 = some x) : 1 <= x.2.length /\ x.2.length <= w /\ ∀ i ∈ x.2, i < slotI k := by
 unfold pickAt at h
 split at h
 ·cases h
 ·rename_i hne
  injection h with h
  subst h
  refine ⟨?_, (someF_len _ _ _).1, fun i hi => (someF_mem hi).1⟩
  have h2 := List.length_pos_iff.2 hne
  exact h2
theorem pickI_len {t q s k : Int} {w : Nat} {x : Nat × List Nat} (h : (pickI n K t q s k w st).1 = some x) : 1 <= x.2.length /\ x.2.length <= w /\ ∀ i ∈ x.2, i < slotI k := by
 unfold pickI at h
 split at h
 ·split at h
  ·exact pickAt_len h
  ·cases h
 ·exact pickAt_len h
theorem al_ok (HV : HeapV H n c) (F : FitsP H.parts (szH H) T Z) (ht : t0 < T) (hk : k < 9) : AlOk n K H.t H.p H.s (k : Int) (Z t0 k) st where
 few := Nat.le_trans (F.few k hk t0 ht) (by omega)
 spot a ha := by
  obtain ⟨g1, g2, p, i, g3, g4, g5, _⟩ := spot_hand HV F ht hk (List.mem_of_getLast? ha)
  exact ⟨g1, g2, p, i, g3, g4, g5⟩
 pick p m hm := by
  obtain ⟨h1, h2, h3⟩ := pickI_len hm
  exact ⟨h1, h2, fun i hi => Nat.lt_of_lt_of_le (h3 i hi) (slotI_le _)⟩
end
end
end Go.Proofs.YtjjfcaliippgpaaGreatDoor

namespace Go.Proofs.YtjjfcaliippgpaaGreatDoor
open Go.ChangeShapes Go.WideShapes Go.ChangeAt Go.RowKit
set_option linter.unusedVariables false
set_option linter.unusedSimpArgs false
section
section
variable {W w w' : World} {O1 O2 : Ob} {A B G : Nat -> Prop} {s1 s2 s' : Vst} {U V : Nat -> Sl} {Z Y : Nat -> List Int}
theorem Duo.put (h : Duo W O1 O2 A B G s1 s2 w) {i : Nat} (hi : G i) (hw : W.heap.size <= i) (k : Nat) (v : Value) : Duo W O1 O2 A B G s1 s2 (w.setCell ⟨i, k, none⟩ v) := by
 have ht : Turns (fun j => j = i) w (w.setCell ⟨i, k, none⟩ v) := (Turns.of_below (B0 w) (fun j => j = i)).put (p := ⟨i, k, none⟩) rfl v
 exact ⟨O1.turns h.i1 ht (fun j hj e => (h.aG i hi).2.1 (e ▸ hj)), O2.turns h.i2 ht (fun j hj e => (h.aG i hi).2.2 (e ▸ hj)), h.ab, fun g hg => ⟨Nat.lt_of_lt_of_le (h.aG g hg).1 ht.size, (h.aG g hg).2⟩, h.lo, ht.below h.bel (fun j e => by omega)⟩
theorem Duo.putP (h : Duo W O1 O2 A B G s1 s2 w) {i : Nat} (hi : G i) (hw : W.heap.size <= i) (V : Nat -> Sl) : Duo W O1 O2 A B G s1 s2 (setP w i V) :=
 ((((((((h.put hi hw 0 _).put hi hw 1 _).put hi hw 2 _).put hi hw 3 _).put hi hw 4 _).put hi hw 5 _).put hi hw 6 _).put hi hw 7 _).put hi hw 8 _
theorem sizeP (w : World) (g : Nat) (V : Nat -> Sl) : (setP w g V).heap.size = w.heap.size := by
 unfold setP
 simp
theorem PkV.putP (h : PkV w U Z) {i : Nat} (hi : ¬ PB U Z i) (V : Nat -> Sl) : PkV (setP w i V) U Z :=
 h.stay (by rw [sizeP]; exact Nat.le_refl _) fun j hj => heap_setP (fun e => by subst e; exact hi hj) V
def NineAt (w : World) (ad : Addr) (t : Nat) (u : Nat -> Sl) : Prop :=
 w.cell? (ad.add (t * 9)) = some (u 0).v /\ w.cell? ⟨(ad.add (t * 9)).block, (ad.add (t * 9)).off + 1, none⟩ = some (u 1).v /\ w.cell? ⟨(ad.add (t * 9)).block, (ad.add (t * 9)).off + 2, none⟩ = some (u 2).v /\ w.cell? ⟨(ad.add (t * 9)).block, (ad.add (t * 9)).off + 3, none⟩ = some (u 3).v /\ w.cell? ⟨(ad.add (t * 9)).block, (ad.add (t * 9)).off + 4, none⟩ = some (u 4).v /\ w.cell? ⟨(ad.add (t * 9)).block, (ad.add (t * 9)).off + 5, none⟩ = some (u 5).v /\ w.cell? ⟨(ad.add (t * 9)).block, (ad.add (t * 9)).off + 6, none⟩ = some (u 6).v /\ w.cell? ⟨(ad.add (t * 9)).block, (ad.add (t * 9)).off + 7, none⟩ = some (u 7).v /\ w.cell? ⟨(ad.add (t * 9)).block, (ad.add (t * 9)).off + 8, none⟩ = some (u 8).v
end
section
variable {W w : World} {ad : Addr} {T t : Nat} {U : Nat -> Nat -> Sl} {Z : Nat -> Nat -> List Int}
theorem PksAt.nine (h : PksAt w (some ad) T U Z) (ht : t < T) : NineAt w ad t (U t) := by
 obtain ⟨ad', e, _, hc⟩ := h t ht
 injection e with e
 subst e
 have g : ∀ k, k < 9 -> w.cell? ((ad.add (t * 9)).add k) = some (U t k).v := fun k hk => by rw [add_of_add]; exact (hc k hk).1
 exact ⟨g 0 (by omega), g 1 (by omega), g 2 (by omega), g 3 (by omega), g 4 (by omega), g 5 (by omega), g 6 (by omega), g 7 (by omega), g 8 (by omega)⟩
theorem PksAt.pk {A : Option Addr} (h : PksAt w A T U Z) (ht : t < T) : PkV w (U t) (Z t) := fun k hk => by
 obtain ⟨ad', e, _, hc⟩ := h t ht
 exact (hc k hk).2
end
end
end Go.Proofs.YtjjfcaliippgpaaGreatDoor

namespace Go.Proofs.YtjjfcaliippgpaaGreatDoor
open Go.ChangeShapes Go.WideShapes Go.ChangeAt Go.RowKit Go.Maps
set_option linter.unusedVariables false
set_option linter.unusedSimpArgs false
set_option maxRecDepth 100000
section
section
variable {base b n : Nat} {wh all : Bool} {K : Nat -> Option Nat} {st : Vst} {w w0 : World} {A G : Nat -> Prop} {t q s : Int}

theorem wrap32_small {x : Int} (h0 : 0 <= x) (h1 : x < 4294967296) : IntKind.u32.wrap x = x := by
 show x % 4294967296 = x
 exact Int.emod_eq_of_lt h0 h1

end
end
section
section
variable {base b n : Nat} {wh all : Bool} {K : Nat -> Option Nat} {st : Vst} {w w0 : World} {A G : Nat -> Prop} {t q s : Int}

set_option maxHeartbeats 6400000 in
theorem r15Take_none (hn : n < 2 ^ 40) (hq : q <= 1024) (nn : Int) (s1 : Vst) (hf : findI n K t q s nn st = (none, s1)) (h : (rOb base b n all K).At w0 A G st w) :
  Calls Tryz.prog 86 #[.pointer (some ⟨b, 0, none⟩), .agg #[.int .i64 t, .int .i64 q, .int .i64 s], .int .i64 nn] w fun e w' => e = .returned (.tuple #[.int .i64 0, .bool false]) /\ (rOb base b n all K).At w0 A G (s1) w' /\ Stay G w w' := by
 have W0 := hidp ((WL.start h).new 23 #[.int .i64 t, .int .i64 q, .int .i64 s])
 have hq2 : q <= 2147483648 := by omega
 have HFO := hidp hf
 clear h hf
 go_enter Tryz.func86, Tryz.ntmps86
 obtain ⟨x0, x1, x2⟩ := W0.out.h0.three
 go_wp2_with fail
 refine (r14Find_c hn hq nn W0.out.at_).mono ?_; rintro e w1 ⟨rfl, h1, h2⟩; have W1 := hidp (W0.out.call h1 h2); clear h1 h2 W0; rw [HFO.out] at W1 ⊢; dsimp only [foundI, Option.isSome] at W1 ⊢
 obtain ⟨x0, x1, x2⟩ := W1.out.h0.three
 go_wp2
 go_ret2
 exact ⟨rfl, W1.out.fin⟩

set_option maxHeartbeats 6400000 in
theorem r15Take_more (hn : n < 2 ^ 40) (hq : q <= 1024) (p m : Nat) (hp : p <= 1024) (hm : m <= 1024) (l : Int) (hl0 : 0 <= l) (hl1 : l <= 1024) (s1 : Vst) (hf : findI n K t q s (m : Int) st = (some p, s1)) (hd : dropV n K t q s (p : Int) s1 = l) (hml : (m : Int) < l) (h : (rOb base b n all K).At w0 A G st w) :
  Calls Tryz.prog 86 #[.pointer (some ⟨b, 0, none⟩), .agg #[.int .i64 t, .int .i64 q, .int .i64 s], .int .i64 (m : Int)] w fun e w' => e = .returned (.tuple #[.int .i64 (p : Int), .bool true]) /\ (rOb base b n all K).At w0 A G (putS n (getS n K (addS n K t q s ((p : Int) + (m : Int)) (l - (m : Int)) (usedS n t q s p m (dropS n K t q s (p : Int) s1))) 0) 0 (sub32 (getV n K (addS n K t q s ((p : Int) + (m : Int)) (l - (m : Int)) (usedS n t q s p m (dropS n K t q s (p : Int) s1))) 0) (m : Int))) w' /\ Stay G w w' := by
 have W0 := hidp ((WL.start h).new 23 #[.int .i64 t, .int .i64 q, .int .i64 s])
 have hq2 : q <= 2147483648 := by omega
 have t1 : decide ((m : Int) < l) = true := decide_eq_true hml
 have HFO := hidp hf
 have HDV := hidp hd
 have HIV := hidp (infoV_lt 2 (m : Int) 0)
 have sp : IntKind.u32.wrap (p : Int) = (p : Int) := wrap_nat32 p (by omega)
 have sk : IntKind.u32.wrap ((p : Int) + 1) = ((p + 1 : Nat) : Int) := by have := wrap_nat32 (p + 1) (by omega); simpa using this
 have v4 : IntKind.i64.wrap ((p : Int) + (m : Int)) = ((p : Int) + (m : Int)) := i64_same (by omega) (by omega)
 have v5 : IntKind.i64.wrap (((p : Int) + (m : Int)) - 1) = (((p : Int) + (m : Int)) - 1) := i64_same (by omega) (by omega)
 have v6 : IntKind.i64.wrap (l - (m : Int)) = (l - (m : Int)) := i64_same (by omega) (by omega)
 have HUS : Hid (putS n (putS n (dropS n K t q s (p : Int) s1) (pageI t q s (p : Int) 0) (infoV 2 (m : Int) 0)) (pageI t q s ((p : Int) + (m : Int) - 1) 1) (p + 1) = usedS n t q s p m (dropS n K t q s (p : Int) s1)) := hidp rfl
 obtain ⟨x, hx⟩ : ∃ x, getV n K (addS n K t q s ((p : Int) + (m : Int)) (l - (m : Int)) (usedS n t q s p m (dropS n K t q s (p : Int) s1))) 0 = x := ⟨_, rfl⟩
 rw [hx]
 obtain ⟨y, hy⟩ : ∃ y, sub32 x (m : Int) = y := ⟨_, rfl⟩
 rw [hy]
 have HY : Hid (y < 2 ^ 32) := hidp (by rw [<- hy]; exact sub32_lt x _)
 have sm : IntKind.u32.wrap (m : Int) = (m : Int) := wrap32_small (by omega) (by omega)
 have sa : IntKind.u32.wrap ((x : Int) - (m : Int)) = (y : Int) := by have := wrap_sub32 x (m : Int); rw [sm, hy] at this; exact this
 have HX := hidp hx
 clear hx hy
 clear h hf hd
 go_enter Tryz.func86, Tryz.ntmps86
 obtain ⟨x0, x1, x2⟩ := W0.out.h0.three
 go_wp2_with fail
 refine (r14Find_c hn hq (m : Int) W0.out.at_).mono ?_; rintro e w1 ⟨rfl, h1, h2⟩; have W1 := hidp (W0.out.call h1 h2); clear h1 h2 W0; rw [HFO.out] at W1 ⊢; dsimp only [foundI, Option.isSome] at W1 ⊢
 obtain ⟨x0, x1, x2⟩ := W1.out.h0.three
 go_wp2_with fail
 refine (r14Drop_c hn hq2 (p : Int) W1.out.at_).mono ?_; rintro e w2 ⟨rfl, h1, h2⟩; have W2 := hidp (W1.out.call h1 h2); clear h1 h2 W1; rw [HDV.out]
 obtain ⟨x0, x1, x2⟩ := W2.out.h0.three
 go_wp2_with fail
 refine (r7Info_c t q s (p : Int) _).mono ?_; rintro e w3 ⟨rfl, hb⟩; have W3 := hidp (W2.out.keep hb); clear hb W2
 obtain ⟨x0, x1, x2⟩ := W3.out.h0.three
 go_wp2_with fail
 refine (r9Value_c 2 (m : Int) 0 _).mono ?_; rintro e w4 ⟨rfl, hb⟩; have W4 := hidp (W3.out.keep hb); clear hb W3
 obtain ⟨x0, x1, x2⟩ := W4.out.h0.three
 go_wp2_with fail
 refine (rPutA hn _ _ HIV.out W4.out.at_).mono ?_; rintro e w5 ⟨rfl, h1, h2⟩; have W5 := hidp (W4.out.call h1 h2); clear h1 h2 W4
 obtain ⟨x0, x1, x2⟩ := W5.out.h0.three
 go_wp2_with fail
 refine (r7Foot_c t q s ((p : Int) + (m : Int) - 1) _).mono ?_; rintro e w6 ⟨rfl, hb⟩; have W6 := hidp (W5.out.keep hb); clear hb W5
 obtain ⟨x0, x1, x2⟩ := W6.out.h0.three
 go_wp2_with fail
 refine (rPutA hn _ (p + 1) (by omega) W6.out.at_).mono ?_; rintro e w7 ⟨rfl, h1, h2⟩; have W7 := hidp (W6.out.call h1 h2); clear h1 h2 W6; rw [HUS.out] at W7
 obtain ⟨x0, x1, x2⟩ := W7.out.h0.three
 go_wp2_with fail
 refine (r14Add_c hn hq2 ((p : Int) + (m : Int)) (l - (m : Int)) W7.out.at_).mono ?_; rintro e w8 ⟨rfl, h1, h2⟩; have W8 := hidp (W7.out.call h1 h2); clear h1 h2 W7
 obtain ⟨x0, x1, x2⟩ := W8.out.h0.three
 go_wp2_with fail
 refine (rGetA hn _ W8.out.at_).mono ?_; rintro e w9 ⟨rfl, h1, h2⟩; have W9 := hidp (W8.out.call h1 h2); clear h1 h2 W8; rw [HX.out]
 obtain ⟨x0, x1, x2⟩ := W9.out.h0.three
 go_wp2_with fail
 refine (rPutA hn _ y HY.out W9.out.at_).mono ?_; rintro e w10 ⟨rfl, h1, h2⟩; have W10 := hidp (W9.out.call h1 h2); clear h1 h2 W9
 obtain ⟨x0, x1, x2⟩ := W10.out.h0.three
 go_wp2
 go_ret2
 exact ⟨rfl, W10.out.fin⟩

set_option maxHeartbeats 6400000 in
theorem r15Take_all (hn : n < 2 ^ 40) (hq : q <= 1024) (p m : Nat) (hp : p <= 1024) (hm : m <= 1024) (l : Int) (hl0 : 0 <= l) (hl1 : l <= 1024) (s1 : Vst) (hf : findI n K t q s (m : Int) st = (some p, s1)) (hd : dropV n K t q s (p : Int) s1 = l) (hml : ¬ (m : Int) < l) (h : (rOb base b n all K).At w0 A G st w) :
  Calls Tryz.prog 86 #[.pointer (some ⟨b, 0, none⟩), .agg #[.int .i64 t, .int .i64 q, .int .i64 s], .int .i64 (m : Int)] w fun e w' => e = .returned (.tuple #[.int .i64 (p : Int), .bool true]) /\ (rOb base b n all K).At w0 A G (putS n (getS n K (usedS n t q s p m (dropS n K t q s (p : Int) s1)) 0) 0 (sub32 (getV n K (usedS n t q s p m (dropS n K t q s (p : Int) s1)) 0) (m : Int))) w' /\ Stay G w w' := by
 have W0 := hidp ((WL.start h).new 23 #[.int .i64 t, .int .i64 q, .int .i64 s])
 have hq2 : q <= 2147483648 := by omega
 have t1 : decide ((m : Int) < l) = false := decide_eq_false hml
 have HFO := hidp hf
 have HDV := hidp hd
 have HIV := hidp (infoV_lt 2 (m : Int) 0)
 have sp : IntKind.u32.wrap (p : Int) = (p : Int) := wrap_nat32 p (by omega)
 have sk : IntKind.u32.wrap ((p : Int) + 1) = ((p + 1 : Nat) : Int) := by have := wrap_nat32 (p + 1) (by omega); simpa using this
 have v4 : IntKind.i64.wrap ((p : Int) + (m : Int)) = ((p : Int) + (m : Int)) := i64_same (by omega) (by omega)
 have v5 : IntKind.i64.wrap (((p : Int) + (m : Int)) - 1) = (((p : Int) + (m : Int)) - 1) := i64_same (by omega) (by omega)
 have v6 : IntKind.i64.wrap (l - (m : Int)) = (l - (m : Int)) := i64_same (by omega) (by omega)
 have HUS : Hid (putS n (putS n (dropS n K t q s (p : Int) s1) (pageI t q s (p : Int) 0) (infoV 2 (m : Int) 0)) (pageI t q s ((p : Int) + (m : Int) - 1) 1) (p + 1) = usedS n t q s p m (dropS n K t q s (p : Int) s1)) := hidp rfl
 obtain ⟨x, hx⟩ : ∃ x, getV n K (usedS n t q s p m (dropS n K t q s (p : Int) s1)) 0 = x := ⟨_, rfl⟩
 rw [hx]
 obtain ⟨y, hy⟩ : ∃ y, sub32 x (m : Int) = y := ⟨_, rfl⟩
 rw [hy]
 have HY : Hid (y < 2 ^ 32) := hidp (by rw [<- hy]; exact sub32_lt x _)
 have sm : IntKind.u32.wrap (m : Int) = (m : Int) := wrap32_small (by omega) (by omega)
 have sa : IntKind.u32.wrap ((x : Int) - (m : Int)) = (y : Int) := by have := wrap_sub32 x (m : Int); rw [sm, hy] at this; exact this
 have HX := hidp hx
 clear hx hy
 clear h hf hd
 go_enter Tryz.func86, Tryz.ntmps86
 obtain ⟨x0, x1, x2⟩ := W0.out.h0.three
 go_wp2_with fail
 refine (r14Find_c hn hq (m : Int) W0.out.at_).mono ?_; rintro e w1 ⟨rfl, h1, h2⟩; have W1 := hidp (W0.out.call h1 h2); clear h1 h2 W0; rw [HFO.out] at W1 ⊢; dsimp only [foundI, Option.isSome] at W1 ⊢
 obtain ⟨x0, x1, x2⟩ := W1.out.h0.three
 go_wp2_with fail
 refine (r14Drop_c hn hq2 (p : Int) W1.out.at_).mono ?_; rintro e w2 ⟨rfl, h1, h2⟩; have W2 := hidp (W1.out.call h1 h2); clear h1 h2 W1; rw [HDV.out]
 obtain ⟨x0, x1, x2⟩ := W2.out.h0.three
 go_wp2_with fail
 refine (r7Info_c t q s (p : Int) _).mono ?_; rintro e w3 ⟨rfl, hb⟩; have W3 := hidp (W2.out.keep hb); clear hb W2
 obtain ⟨x0, x1, x2⟩ := W3.out.h0.three
 go_wp2_with fail
 refine (r9Value_c 2 (m : Int) 0 _).mono ?_; rintro e w4 ⟨rfl, hb⟩; have W4 := hidp (W3.out.keep hb); clear hb W3
 obtain ⟨x0, x1, x2⟩ := W4.out.h0.three
 go_wp2_with fail
 refine (rPutA hn _ _ HIV.out W4.out.at_).mono ?_; rintro e w5 ⟨rfl, h1, h2⟩; have W5 := hidp (W4.out.call h1 h2); clear h1 h2 W4
 obtain ⟨x0, x1, x2⟩ := W5.out.h0.three
 go_wp2_with fail
 refine (r7Foot_c t q s ((p : Int) + (m : Int) - 1) _).mono ?_; rintro e w6 ⟨rfl, hb⟩; have W6 := hidp (W5.out.keep hb); clear hb W5
 obtain ⟨x0, x1, x2⟩ := W6.out.h0.three
 go_wp2_with fail
 refine (rPutA hn _ (p + 1) (by omega) W6.out.at_).mono ?_; rintro e w7 ⟨rfl, h1, h2⟩; have W7 := hidp (W6.out.call h1 h2); clear h1 h2 W6; rw [HUS.out] at W7
 obtain ⟨x0, x1, x2⟩ := W7.out.h0.three
 go_wp2_with fail
 refine (rGetA hn _ W7.out.at_).mono ?_; rintro e w8 ⟨rfl, h1, h2⟩; have W8 := hidp (W7.out.call h1 h2); clear h1 h2 W7; rw [HX.out]
 obtain ⟨x0, x1, x2⟩ := W8.out.h0.three
 go_wp2_with fail
 refine (rPutA hn _ y HY.out W8.out.at_).mono ?_; rintro e w9 ⟨rfl, h1, h2⟩; have W9 := hidp (W8.out.call h1 h2); clear h1 h2 W8
 obtain ⟨x0, x1, x2⟩ := W9.out.h0.three
 go_wp2
 go_ret2
 exact ⟨rfl, W9.out.fin⟩

theorem r15Take_c (hn : n < 2 ^ 40) (hq : q <= 1024) (nn : Int) (h : (rOb base b n all K).At w0 A G st w) :
  Calls Tryz.prog 86 #[.pointer (some ⟨b, 0, none⟩), .agg #[.int .i64 t, .int .i64 q, .int .i64 s], .int .i64 nn] w fun e w' => e = .returned (.tuple #[.int .i64 (foundI (takeI n K t q s nn st).1), .bool (takeI n K t q s nn st).1.isSome]) /\ (rOb base b n all K).At w0 A G ((takeI n K t q s nn st).2) w' /\ Stay G w w' := by
 obtain ⟨⟨o, s1⟩, hf⟩ : ∃ x, findI n K t q s nn st = x := ⟨_, rfl⟩
 cases o with
 | none =>
  rw [takeI_none hf]
  exact r15Take_none hn hq nn s1 hf h
 | some p =>
  obtain ⟨h1, h2, h3⟩ := findI_lt hf
  obtain ⟨m, rfl⟩ := Int.eq_ofNat_of_zero_le (show 0 <= nn by omega)
  rw [takeI_some hf]
  dsimp only [foundI, Option.isSome]
  have hd := dropV_few (n := n) (K := K) (t := t) (q := q) (s := s) (p : Int) s1
  unfold takeS
  rw [lessS_eq rfl]
  by_cases hml : (m : Int) < dropV n K t q s (p : Int) s1
  ·rw [restS_yes hml]
   exact r15Take_more hn hq p m (by omega) (by omega) _ hd.1 hd.2 s1 hf rfl hml h
  ·rw [restS_no hml]
   exact r15Take_all hn hq p m (by omega) (by omega) _ hd.1 hd.2 s1 hf rfl hml h
end
end
end Go.Proofs.YtjjfcaliippgpaaGreatDoor
