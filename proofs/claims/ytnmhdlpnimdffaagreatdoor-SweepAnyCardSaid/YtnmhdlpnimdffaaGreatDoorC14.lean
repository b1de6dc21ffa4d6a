/-
  The page's example (nacrelaw24.live). Written by sweep/gen_live.py.
-/
import Derived.Test.YtnmhdlpnimdffaaGreatDoorC09
import Derived.Test.YtnmhdlpnimdffaaGreatDoorC13
import Derived.Test.YtnmhdlpnimdffaaGreatDoorC02
import Derived.Test.YtnmhdlpnimdffaaGreatDoorC04
import Derived.Test.YtnmhdlpnimdffaaGreatDoorC05
import Derived.Test.YtnmhdlpnimdffaaGreatDoorC06
import Derived.Test.YtnmhdlpnimdffaaGreatDoorC07
import Derived.Test.YtnmhdlpnimdffaaGreatDoorC01
import Derived.Test.YtnmhdlpnimdffaaGreatDoorCKit
import Derived.Deep.Slices
import Derived.Lib.SmallJoins
import Derived.OpenShut
namespace Go.Proofs.YtnmhdlpnimdffaaGreatDoor
open Go.ChangeShapes Go.WideShapes Go.ChangeAt Go.RowKit Go.Maps
set_option linter.unusedVariables false
set_option linter.unusedSimpArgs false
set_option maxRecDepth 100000
section
section
variable {W w : World} {O1 O2 : Ob} {A B G : Nat -> Prop} {s1 s2 : Vst}
theorem Duo.slots24 (h : Duo W O1 O2 A B G s1 s2 w) (hT : SlotsLaid W) : SlotsLaid w /\ ¬ A 0 /\ ¬ B 0 := by
 have hl : (0 : Nat) < W.heap.size := cell_lt16 (hT 0 (by omega))
 exact ⟨hT.below h.bel, fun x => by have := h.lo _ (.inl x); omega, fun x => by have := h.lo _ (.inr x); omega⟩
end
set_option maxHeartbeats 1600000 in
theorem Eight24_c (w : World) : Calls Tryz.prog 24 #[] w fun e w' => ∃ g, e = .returned (.tuple #[.agg #[.int .i64 1, .int .i64 8, .int .i64 10], .slice (some ⟨g, 0, none⟩) 82 82]) /\ Held w' g 53 ex14C /\ Below w.heap.size w w' /\ w.heap.size <= g := by
 have hmk := make82
 have HC := (Held.new w 23 #[.int .i64 0, .int .i64 0, .int .i64 0]).alloc (.cells (Array.replicate 82 (.int .u32 0)) 53)
 have HG := Held.new2 w (.cells #[.int .i64 0, .int .i64 0, .int .i64 0] 23) 53 (Array.replicate 82 (.int .u32 0))
 have g0 : _ = some (Value.int .u32 0) := (HG.cell 0).trans (by simp)
 have g1 : _ = some (Value.int .u32 0) := (HG.cell 5).trans (by simp)
 have g2 : _ = some (Value.int .u32 0) := (HG.cell 34).trans (by simp)
 have g3 : _ = some (Value.int .u32 0) := (HG.cell 77).trans (by simp)
 have f0 := HG.thawed
 obtain ⟨c0, c1, c2⟩ := HC.three
 have f1 := HC.thawed
 clear HC HG
 go_enter Tryz.func24, Tryz.ntmps24
 go_wp2
 refine bodyPost_ret (v := .tuple #[.agg #[.int .i64 1, .int .i64 8, .int .i64 10], .slice (some ⟨w.heap.size + 1, 0, none⟩) 82 82]) (by simp [results, Tryz.results24, go_sem]) rfl ⟨w.heap.size + 1, rfl, ?_, ?_, by omega⟩
 ·unfold ex14C
  exact Held.new2 w (.cells #[.int .i64 1, .int .i64 8, .int .i64 10] 23) 53 _
 ·exact Bnew (Bnew (B0 w) _) _

def ex24L : List Nat := ((((((((((ex14L.set 0 7).set 5 0).set 12 0).set 21 1).set 34 524307).set 35 1).set 39 1).set 40 113).set 77 2).set 4 2)
def ex24C : Array Value := ((((((((((ex14C.setIfInBounds 0 (.int .u32 7)).setIfInBounds 5 (.int .u32 0)).setIfInBounds 12 (.int .u32 0)).setIfInBounds 21 (.int .u32 1)).setIfInBounds 34 (.int .u32 524307)).setIfInBounds 35 (.int .u32 1)).setIfInBounds 39 (.int .u32 1)).setIfInBounds 40 (.int .u32 113)).setIfInBounds 77 (.int .u32 2)).setIfInBounds 4 (.int .u32 2))
theorem ex24_eq : ex24C.toList = valVs ex24L := by
 unfold ex24C ex24L
 simp only [Array.toList_setIfInBounds, ex14_eq]
 unfold valVs
 simp only [List.map_set]
 rfl
theorem ex24_n : ex24L.length = 82 := by decide
theorem ex24_32 : ∀ x ∈ ex24L, x < 2 ^ 32 := by decide
def ex24K : Nat -> Option Nat := fun i => ex24L[i]?
theorem ex24_cells {w : World} {g : Nat} {t : TypeId} (h : Held w g t ex24C) : ∀ j u, (valVs ex24L)[j]? = some u -> w.cell? ((⟨g, 0, none⟩ : Addr).add j) = some u := by
 intro j u hu
 have e : (⟨g, 0, none⟩ : Addr).add j = ⟨g, j, none⟩ := by
  unfold Addr.add
  by_cases hz : j = 0
  ·rw [if_pos hz, hz]
  ·rw [if_neg hz]; simp
 rw [e, h.cell j, <- hu, <- ex24_eq]
 simp
def ex24A : Vst := (sweepTo 82 ex24K 1 8 10 8 freshS).2
theorem ex24_all : sweepTo 82 ex24K 1 8 10 8 freshS = (1, ex24A) := by
 have h : (sweepTo 82 ex24K 1 8 10 8 freshS).1 = 1 := by decide +kernel
 unfold ex24A
 rw [<- h]
def ex24V (i : Nat) : Nat := if i = 0 then 8 else if i = 5 then 1 else if i = 34 then 129 else if i = 77 then 1 else 0
theorem ex24_fr : ∀ i, frV 1 8 i = ex24V i := fun i => by
 have e : frB 8 = 5 := by
  unfold frB
  rw [HM.logI_at ((8 : Nat) : Int) 3 (by decide) (by decide)]
  rfl
 unfold frV ex24V
 rw [e]
theorem ex24_now : ∀ i, i < 82 -> nowV ex24K ex24A.wr i = ex24V i := by decide +kernel
theorem ex24_g0 : getV 82 ex24K ex24A 0 = 8 := by decide +kernel
theorem ex24_g21 : getV 82 ex24K (getS 82 ex24K ex24A 0) 21 = 0 := by decide +kernel
theorem ex24_wr : ex24A.wr.length < 2 ^ 40 := by
 have h : ex24A.wr.length < 1000 := by decide +kernel
 omega
theorem ex24_heap {cp : Nat} (h1 : 82 <= cp) (h2 : cp <= maxLen) : HeapV (frH 1 8 10) 82 cp := ⟨by decide, rfl, h1, h2, fun i _ => frV_lt (t := 1) (p := 8) (by omega) (by omega) i⟩

set_option maxHeartbeats 6400000 in
theorem live24_c (w : World) (hT : SlotsLaid w) : Calls Tryz.prog 8 #[] w fun e w' => e = .returned (.bool true) /\ Below w.heap.size w w' := by
 have HTL := hidp hT
 have HALL := hidp ex24_all
 have HG0E := hidp ex24_g0
 have HG1E := hidp ex24_g21
 have HPG : Hid (∀ st : Vst, sweepP 82 ex24K 1 8 10 (-1) st = (false, st)) := hidp (fun st => by unfold sweepP pgB; rfl)
 have hXC : Hid (∀ (W : World) (g cp : Nat), RowF W g 53 82 cp (valF (nowV ex24K ex24A.wr)) -> Calls Tryz.prog 23 #[.agg #[.int .i64 1, .int .i64 8, .int .i64 10], .slice (some ⟨g, 0, none⟩) 82 cp] W fun e w' => e = .returned (.tuple #[.int .i64 0, .bool true]) /\ Below W.heap.size W w') := hidp (fun W g cp hrow => by
  have hv : IsVals W ⟨g, 0, none⟩ 82 (frH 1 8 10).V := ⟨hrow.lt, fun i hi => by
   have e : (⟨g, 0, none⟩ : Addr).add i = ⟨g, i, none⟩ := by
    unfold Addr.add
    by_cases hz : i = 0
    ·rw [if_pos hz, hz]
    ·rw [if_neg hz]; simp
   rw [e, hrow.cell hi]
   unfold valF
   rw [ex24_now i hi, <- ex24_fr i]
   rfl⟩
  exact xCheckIs_yes (ex24_heap hrow.le hrow.max) _ W hv (m := 0) (b := true) (.inl ⟨rfl, rfl, fr_rules (by omega) (by omega)⟩) W (by first | exact B0 _ | exact GrownBy.refl _ | constructor))
 go_enter Tryz.func8, Tryz.ntmps8
 go_wp2_with fail
 refine (Eight24_c _).mono ?_
 rintro e w1 ⟨NG, rfl, hg, hb, hlo⟩
 have hne : w1.heap.size ≠ NG := by have := hg.lt; omega
 have HG0 := hg.alloc (.cells #[.int .i64 1, .int .i64 8, .int .i64 10] 23)
 have g0 : _ = some (Value.int .u32 8) := (HG0.cell 0).trans (by rfl)
 have f0 := HG0.thawed 0
 have g5 : _ = some (Value.int .u32 1) := (HG0.cell 5).trans (by rfl)
 have f5 := HG0.thawed 5
 have g12 : _ = some (Value.int .u32 0) := (HG0.cell 12).trans (by rfl)
 have f12 := HG0.thawed 12
 have g21 : _ = some (Value.int .u32 0) := (HG0.cell 21).trans (by rfl)
 have f21 := HG0.thawed 21
 have g34 : _ = some (Value.int .u32 129) := (HG0.cell 34).trans (by rfl)
 have f34 := HG0.thawed 34
 have g35 : _ = some (Value.int .u32 0) := (HG0.cell 35).trans (by rfl)
 have f35 := HG0.thawed 35
 have g39 : _ = some (Value.int .u32 0) := (HG0.cell 39).trans (by rfl)
 have f39 := HG0.thawed 39
 have g40 : _ = some (Value.int .u32 0) := (HG0.cell 40).trans (by rfl)
 have f40 := HG0.thawed 40
 have g77 : _ = some (Value.int .u32 1) := (HG0.cell 77).trans (by rfl)
 have f77 := HG0.thawed 77
 have g4 : _ = some (Value.int .u32 0) := (HG0.cell 4).trans (by rfl)
 have f4 := HG0.thawed 4
 have HC : Hid (Held (((((((((((w1.alloc (.cells #[.int .i64 1, .int .i64 8, .int .i64 10] 23)).setCell ⟨NG, 0, none⟩ (.int .u32 7)).setCell ⟨NG, 5, none⟩ (.int .u32 0)).setCell ⟨NG, 12, none⟩ (.int .u32 0)).setCell ⟨NG, 21, none⟩ (.int .u32 1)).setCell ⟨NG, 34, none⟩ (.int .u32 524307)).setCell ⟨NG, 35, none⟩ (.int .u32 1)).setCell ⟨NG, 39, none⟩ (.int .u32 1)).setCell ⟨NG, 40, none⟩ (.int .u32 113)).setCell ⟨NG, 77, none⟩ (.int .u32 2)).setCell ⟨NG, 4, none⟩ (.int .u32 2)) w1.heap.size 23 #[.int .i64 1, .int .i64 8, .int .i64 10]) := hidp (((((((((((Held.new w1 23 #[.int .i64 1, .int .i64 8, .int .i64 10]).far (p := ⟨NG, 0, none⟩) hne (.int .u32 7)).far (p := ⟨NG, 5, none⟩) hne (.int .u32 0)).far (p := ⟨NG, 12, none⟩) hne (.int .u32 0)).far (p := ⟨NG, 21, none⟩) hne (.int .u32 1)).far (p := ⟨NG, 34, none⟩) hne (.int .u32 524307)).far (p := ⟨NG, 35, none⟩) hne (.int .u32 1)).far (p := ⟨NG, 39, none⟩) hne (.int .u32 1)).far (p := ⟨NG, 40, none⟩) hne (.int .u32 113)).far (p := ⟨NG, 77, none⟩) hne (.int .u32 2)).far (p := ⟨NG, 4, none⟩) hne (.int .u32 2))
 have HG : Hid (Held (((((((((((w1.alloc (.cells #[.int .i64 1, .int .i64 8, .int .i64 10] 23)).setCell ⟨NG, 0, none⟩ (.int .u32 7)).setCell ⟨NG, 5, none⟩ (.int .u32 0)).setCell ⟨NG, 12, none⟩ (.int .u32 0)).setCell ⟨NG, 21, none⟩ (.int .u32 1)).setCell ⟨NG, 34, none⟩ (.int .u32 524307)).setCell ⟨NG, 35, none⟩ (.int .u32 1)).setCell ⟨NG, 39, none⟩ (.int .u32 1)).setCell ⟨NG, 40, none⟩ (.int .u32 113)).setCell ⟨NG, 77, none⟩ (.int .u32 2)).setCell ⟨NG, 4, none⟩ (.int .u32 2)) NG 53 ex24C) := hidp ((((((((((HG0.put 0 (.int .u32 7)).put 5 (.int .u32 0)).put 12 (.int .u32 0)).put 21 (.int .u32 1)).put 34 (.int .u32 524307)).put 35 (.int .u32 1)).put 39 (.int .u32 1)).put 40 (.int .u32 113)).put 77 (.int .u32 2)).put 4 (.int .u32 2))
 have HB : Hid (Below w.heap.size w (((((((((((w1.alloc (.cells #[.int .i64 1, .int .i64 8, .int .i64 10] 23)).setCell ⟨NG, 0, none⟩ (.int .u32 7)).setCell ⟨NG, 5, none⟩ (.int .u32 0)).setCell ⟨NG, 12, none⟩ (.int .u32 0)).setCell ⟨NG, 21, none⟩ (.int .u32 1)).setCell ⟨NG, 34, none⟩ (.int .u32 524307)).setCell ⟨NG, 35, none⟩ (.int .u32 1)).setCell ⟨NG, 39, none⟩ (.int .u32 1)).setCell ⟨NG, 40, none⟩ (.int .u32 113)).setCell ⟨NG, 77, none⟩ (.int .u32 2)).setCell ⟨NG, 4, none⟩ (.int .u32 2))) := hidp (((((((((((Bnew hb (.cells #[.int .i64 1, .int .i64 8, .int .i64 10] 23)).setCell (p := ⟨NG, 0, none⟩) hlo (.int .u32 7)).setCell (p := ⟨NG, 5, none⟩) hlo (.int .u32 0)).setCell (p := ⟨NG, 12, none⟩) hlo (.int .u32 0)).setCell (p := ⟨NG, 21, none⟩) hlo (.int .u32 1)).setCell (p := ⟨NG, 34, none⟩) hlo (.int .u32 524307)).setCell (p := ⟨NG, 35, none⟩) hlo (.int .u32 1)).setCell (p := ⟨NG, 39, none⟩) hlo (.int .u32 1)).setCell (p := ⟨NG, 40, none⟩) hlo (.int .u32 113)).setCell (p := ⟨NG, 77, none⟩) hlo (.int .u32 2)).setCell (p := ⟨NG, 4, none⟩) hlo (.int .u32 2))
 clear HG0 hg hb hlo hne
 go_wp2_with fail
 clear g0 f0 g5 f5 g12 f12 g21 f21 g34 f34 g35 f35 g39 f39 g40 f40 g77 f77 g4 f4
 generalize hNC : w1.heap.size = NC at *
 generalize hW1 : (((((((((((w1.alloc (.cells #[.int .i64 1, .int .i64 8, .int .i64 10] 23)).setCell ⟨NG, 0, none⟩ (.int .u32 7)).setCell ⟨NG, 5, none⟩ (.int .u32 0)).setCell ⟨NG, 12, none⟩ (.int .u32 0)).setCell ⟨NG, 21, none⟩ (.int .u32 1)).setCell ⟨NG, 34, none⟩ (.int .u32 524307)).setCell ⟨NG, 35, none⟩ (.int .u32 1)).setCell ⟨NG, 39, none⟩ (.int .u32 1)).setCell ⟨NG, 40, none⟩ (.int .u32 113)).setCell ⟨NG, 77, none⟩ (.int .u32 2)).setCell ⟨NG, 4, none⟩ (.int .u32 2)) = ws at *
 clear hNC hW1
 obtain ⟨x0, x1, x2⟩ := HC.out.three
 refine (Whole_c (some ⟨NG, 0, none⟩) 82 ex24L 82 ex24_n (by omega) ex24_32 _ (fun _ => ⟨_, rfl, ex24_cells HG.out⟩)).mono ?_
 rintro e w3 ⟨b, o, rfl, hI, hB⟩
 have HD := hidp (duo_made (W := w) (G := fun i => i = NC) hI HB.out.size (Bgo HB.out hB) (fun i hi => by
  have h1 := HC.out.lt
  have h3 := hB.size
  rcases hi with rfl
  exact ⟨by omega, fun x => by have := hI.ge _ x; omega⟩))
 replace HC := hidp (HC.out.keep hB)
 clear hI hB HB HG
 rw [show (fun i => ex24L[i]?) = ex24K from rfl] at HD
 clear x0 x1 x2
 obtain ⟨x0, x1, x2⟩ := HC.out.three
 go_wp2_with fail
 refine (swAll_c (t := 1) (q := 8) (s := 10) (by omega) 8 (by omega) rfl (HD.out.slots24 HTL.out).1 (HD.out.slots24 HTL.out).2.1 HD.out.at1).mono ?_
 rintro e w2 ⟨rfl, h1, _⟩
 obtain ⟨A4, h2, h3⟩ := HD.out.left1 h1.left
 rw [HALL.out] at h2 ⊢
 dsimp only at h2 ⊢
 replace HC := hidp (h3.held rfl HC.out)
 replace HD : Hid (Duo w (vOb _ b 82 true ex24K) noOb A4 (fun _ => False) (fun i => i = NC) ex24A freshS w2) := hidp h2
 clear h1 h2 h3
 clear x0 x1 x2
 obtain ⟨x0, x1, x2⟩ := HC.out.three
 obtain ⟨o1, hI, _⟩ := HD.out.i1
 have HI := hidp hI
 clear hI
 go_wp2_with fail
 replace HI := hidp (HI.out.keep (Bdrew (B0 _)))
 replace HC := hidp (HC.out.keep (Bdrew (B0 _)))
 replace HD := hidp (HD.out.keep (Bdrew (B0 _)))
 refine wp_region_held_drew (S := (fun w' => w'.cell? ⟨NC, 0, none⟩ = some (.int .i64 1) /\ w'.cell? ⟨NC, 1, none⟩ = some (.int .i64 8) /\ w'.cell? ⟨NC, 2, none⟩ = some (.int .i64 10))) (by kernel_rfl) ?_ (fun hHeld => ?_)
 ·(try dsimp only)
  first | exact HC.out.three | exact hHeld
 refine tkz 0 ?_
 refine tkz 1 ?_
 refine rdz 2 fun K hK => ?_
 go_simp
 refine (vVals_some (by omega) ex24_wr _ HI.out).mono ?_
 rintro e w61 ⟨g, cp, rfl, _, hrow, hb⟩
 have HRF := hidp hrow
 replace HC := hidp (HC.out.keep hb)
 replace HD := hidp (HD.out.keep hb)
 clear hrow hb HI
 refine hK.out _ _ ?_ (fun hHeld => ?_)
 ·(try dsimp only)
  first | exact HC.out.three | exact hHeld
 clear hK K
 (try simp only [Act.put, gA, gB, gC, sA, sB, sC])
 refine rdz 3 fun K hK => ?_
 go_simp
 refine (hXC.out _ _ _ HRF.out).mono ?_
 rintro e w62 ⟨rfl, hb⟩
 replace HC := hidp (HC.out.keep hb)
 replace HD := hidp (HD.out.keep hb)
 clear hb HRF
 refine hK.out _ _ ?_ (fun hHeld => ?_)
 ·(try dsimp only)
  first | exact HC.out.three | exact hHeld
 clear hK K
 (try simp only [Act.put, gA, gB, gC, sA, sB, sC])
 refine tkz 4 ?_
 refine tkz 5 ?_
 refine tkz 6 ?_
 refine tkz 7 ?_
 refine tkz 8 ?_
 refine dnz ?_
 clear x0 x1 x2
 obtain ⟨x0, x1, x2⟩ := HC.out.three
 go_wp2_with fail
 refine (vGetA (by omega) 0 HD.out.at1).mono ?_
 rintro e w2 ⟨rfl, h1, _⟩
 obtain ⟨A4, h2, h3⟩ := HD.out.left1 h1.left
 rw [HG0E.out]
 replace HC := hidp (h3.held rfl HC.out)
 replace HD : Hid (Duo w (vOb _ b 82 true ex24K) noOb A4 (fun _ => False) (fun i => i = NC) (getS 82 ex24K ex24A 0) freshS w2) := hidp h2
 clear h1 h2 h3
 clear x0 x1 x2
 obtain ⟨x0, x1, x2⟩ := HC.out.three
 go_wp2_with fail
 refine (vGetA (by omega) 21 HD.out.at1).mono ?_
 rintro e w2 ⟨rfl, h1, _⟩
 obtain ⟨A4, h2, h3⟩ := HD.out.left1 h1.left
 rw [HG1E.out]
 replace HC := hidp (h3.held rfl HC.out)
 replace HD : Hid (Duo w (vOb _ b 82 true ex24K) noOb A4 (fun _ => False) (fun i => i = NC) _ freshS w2) := hidp h2
 clear h1 h2 h3
 clear x0 x1 x2
 obtain ⟨x0, x1, x2⟩ := HC.out.three
 go_wp2_with fail
 refine (swPage_c (t := 1) (q := 8) (s := 10) (by omega) (by omega) (-1) (by omega) (HD.out.slots24 HTL.out).1 (HD.out.slots24 HTL.out).2.1 HD.out.at1).mono ?_
 rintro e w2 ⟨rfl, h1, _⟩
 obtain ⟨A4, h2, h3⟩ := HD.out.left1 h1.left
 rw [HPG.out] at h2 ⊢
 dsimp only at h2 ⊢
 replace HC := hidp (h3.held rfl HC.out)
 replace HD : Hid (Duo w (vOb _ b 82 true ex24K) noOb A4 (fun _ => False) (fun i => i = NC) _ freshS w2) := hidp h2
 clear h1 h2 h3
 clear x0 x1 x2
 obtain ⟨x0, x1, x2⟩ := HC.out.three
 have HBE := hidp HD.out.bel
 go_wp2
 go_ret
 exact ⟨rfl, HBE.out⟩
end
end Go.Proofs.YtnmhdlpnimdffaaGreatDoor

namespace Go.Proofs.YtnmhdlpnimdffaaGreatDoor
open Go.ChangeShapes Go.WideShapes Go.ChangeAt Go.RowKit
set_option linter.unusedVariables false
set_option maxRecDepth 100000
section
section
variable {H : Type} {enc : TypeId × Value -> H} {P : Program} {w : World} {base : Nat} {sp : Nat -> Bool} {held : Bool}
theorem open_vals {t e : TypeId} {v : Value} {d : DataW H} {p : List MemPlace} (ht : P.underlying t = some (.slice e)) (he : P.underlying e = some (.int .u32)) (hc : P.cellsOf e = 1)
  {r : Reach} {b0 : Nat} (hval : Value.okWide P w r b0 t v) (h : DataW.Trod enc P w base sp held t v d p) (hlt : ∀ x ∈ p, x.block < w.heap.size) :
  ∃ (A : Option Addr) (c : Nat) (ws : List Nat), v = .slice A ws.length c /\ ws.length <= c /\ c <= maxLen /\ (∀ x ∈ ws, x < 2 ^ 32) /\ Reads w w.heap.size 1 A ws.length (valVs ws) := by
 obtain ⟨fuel, hf⟩ := h
 have hv : v.cells = #[v] := by
  obtain ⟨A, n, c, rfl⟩ := okWide_slice ht hval
  rfl
 rw [hv] at hf
 rcases open_ints ht he hc hf with ⟨hcs, _⟩ | ⟨a, len, cap, zs, hcs, hb, hl, hm, hz, hx, hcell, hwf⟩
 ·injection hcs with hcs
  subst hcs
  exact ⟨none, 0, [], rfl, Nat.le_refl _, Nat.zero_le _, by simp, Reads.none_⟩
 ·injection hcs with hcs
  subst hcs
  have hlz : len <= zs.length := by rw [hz]; split <;> omega
  have hlen : ((zs.take len).map Int.toNat).length = len := by simp; omega
  refine ⟨some a, cap, (zs.take len).map Int.toNat, by rw [hlen], by rw [hlen]; exact hl, hm, ?_, ?_⟩
  ·intro x hx
   obtain ⟨z, hz1, rfl⟩ := List.mem_map.1 hx
   obtain ⟨n, rfl, hn⟩ := u32_nat (hwf z (List.mem_of_mem_take hz1))
   simpa using hn
  ·refine ⟨by rw [valVs_len]; omega, fun hn => ?_⟩
   rw [hlen] at hn
   refine ⟨a, rfl, ?_, fun j u hu => ?_⟩
   ·have hp : (p : List MemPlace) = MemPlace.row a zs.length := by
     have := congrArg Prod.snd hx
     simpa using this
    have h0 : MemPlace.cell a.block a.off ∈ p \/ (∃ x ∈ p, x.block = a.block) := by
     right
     rw [hp]
     refine ⟨(MemPlace.row a zs.length)[0]'(by simp [MemPlace.row]; omega), List.getElem_mem _, ?_⟩
     simp [MemPlace.row, MemPlace.block]
    rcases h0 with h0 | ⟨x, hx1, hx2⟩
    ·exact hlt _ h0
    ·rw [<- hx2]; exact hlt x hx1
   ·unfold valVs at hu
    rw [List.map_map] at hu
    have hj : j < len := by
     rcases Nat.lt_or_ge j len with h1 | h1
     ·exact h1
     ·rw [List.getElem?_eq_none (by simp; omega)] at hu; cases hu
    rw [List.getElem?_map, List.getElem?_take_of_lt hj, List.getElem?_eq_getElem (by omega)] at hu
    simp only [Option.map_some, Option.some.injEq, Function.comp_apply] at hu
    subst hu
    rw [hcell j (by omega)]
    have hw := hwf zs[j] (List.getElem_mem _)
    obtain ⟨n, hn1, _⟩ := u32_nat hw
    have : (zs.getD j 0) = zs[j] := by simp [List.getD, List.getElem?_eq_getElem (show j < zs.length by omega)]
    rw [this, hn1]
    simp
end
end
end Go.Proofs.YtnmhdlpnimdffaaGreatDoor

namespace Go.Proofs.YtnmhdlpnimdffaaGreatDoor
open Go.ChangeShapes Go.WideShapes Go.ChangeAt Go.RowKit
set_option linter.unusedVariables false
section
theorem heap13_of (W : World) (t q s : Int) (A : Option Addr) (c : Nat) (vals : List Nat) (hnc : vals.length <= c) (hcm : c <= maxLen) (h32 : ∀ x ∈ vals, x < 2 ^ 32) (hR : Reads W W.heap.size 1 A vals.length (valVs vals)) (h : lC t q s ≠ 0 /\ (vals.length : Int) = lC t q s) :
  ∃ (H : AuH) (ad : Addr), t = H.t /\ q = H.p /\ s = H.s /\ A = some ad /\ (∀ i, H.V i = vals.getD i 0) /\ HeapV H vals.length c /\ IsVals W ad vals.length H.V := by
 cases hr : rightB t q s
 ·exact absurd (lay_no hr).5 h.1
 ·have hn := (rightB_iff t q s).1 hr
  have hl := (lay_yes hr).5
  have hlen : 0 < vals.length := by have := h.2; rw [hl] at this; omega
  obtain ⟨ad, rfl, hb, hc⟩ := hR.2 hlen
  have hx : ∀ i, i < vals.length -> vals[i]? = some (vals.getD i 0) := fun i hi => by simp [List.getD, List.getElem?_eq_getElem hi]
  refine ⟨⟨t.toNat, q.toNat, s.toNat, fun i => vals.getD i 0⟩, ad, by show t = _; simp; omega, by show q = _; simp; omega, by show s = _; simp; omega, rfl, fun i => rfl, ⟨?_, ?_, hnc, hcm, fun i hi => ?_⟩, hb, fun i hi => ?_⟩
  ·show rightB ((t.toNat : Nat) : Int) ((q.toNat : Nat) : Int) ((s.toNat : Nat) : Int) = true
   rw [show ((t.toNat : Nat) : Int) = t by omega, show ((q.toNat : Nat) : Int) = q by omega, show ((s.toNat : Nat) : Int) = s by omega]
   exact hr
  ·show vals.length = 30 + 4 * t.toNat + 6 * q.toNat
   have := h.2
   rw [hl] at this
   omega
  ·exact h32 _ (List.mem_of_getElem? (hx i hi))
  ·refine hc i _ ?_
   unfold valVs
   rw [List.getElem?_map, hx i hi]
   rfl
theorem heap13_or (W : World) (t q s : Int) (A : Option Addr) (c : Nat) (vals : List Nat) (hnc : vals.length <= c) (hcm : c <= maxLen) (h32 : ∀ x ∈ vals, x < 2 ^ 32) (hR : Reads W W.heap.size 1 A vals.length (valVs vals)) :
  (∃ m, XCheckIs W t q s A vals.length c m false) \/ ∃ (H : AuH) (ad : Addr) (m : Nat), t = H.t /\ q = H.p /\ s = H.s /\ A = some ad /\ (∀ i, H.V i = vals.getD i 0) /\ HeapV H vals.length c /\ IsVals W ad vals.length H.V /\ H.Told m true /\ XCheckIs W H.t H.p H.s (some ad) vals.length c m true := by
 by_cases h : lC t q s ≠ 0 /\ (vals.length : Int) = lC t q s
 ·obtain ⟨H, ad, rfl, rfl, rfl, rfl, hV, HV, hv⟩ := heap13_of W t q s A c vals hnc hcm h32 hR h
  obtain ⟨m, b, hto⟩ := H.told_is
  have hX := xCheckIs_yes HV ad W hv hto
  cases b with
  | true => exact .inr ⟨H, ad, m, rfl, rfl, rfl, rfl, hV, HV, hv, hto, hX⟩
  | false => exact .inl ⟨m, hX⟩
 ·exact .inl ⟨1, xCheckIs_no W t q s A vals.length c hnc hcm h⟩
end
end Go.Proofs.YtnmhdlpnimdffaaGreatDoor

namespace Go.Proofs.YtnmhdlpnimdffaaGreatDoor
open Go.ChangeShapes Go.WideShapes Go.ChangeAt Go.RowKit Go.Maps
set_option linter.unusedVariables false
set_option linter.unusedSimpArgs false
section
theorem told_rules {H : AuH} {m : Nat} (h : H.Told m true) : ∀ i, i < 10 -> H.rule i := by
 rcases h with ⟨_, _, h⟩ | ⟨h, _⟩
 ·exact h
 ·cases h
end
section
section
variable {H : AuH} {n c : Nat} {K : Nat -> Option Nat} {st s' : Vst} {L L' : Nat -> List Nat} {g : Nat -> Nat} {A k e : Nat}
end
section
variable {H : AuH} {n c : Nat} {K : Nat -> Option Nat} {st : Vst} {L L' : Nat -> List Nat} {g : Nat -> Nat} {A k e : Nat}

theorem nowH_nowH {s3 s5 : Vst} : nowH (nowH H n K s3) n K s5 = nowH H n K s5 := by
 unfold nowH AuH.re
 congr 1
 funext i
 unfold curV
 by_cases h : i < n
 ·rw [if_pos h, if_pos h]
 ·rw [if_neg h, if_neg h]
  show (if i < n then getV n K s3 (i : Int) else H.V i) = H.V i
  rw [if_neg h]
end
end
section
section
variable {H H' : AuH} {n c c' : Nat} {L L' : Nat -> List Nat} {q p i : Nat}
theorem pkA_once (HV : HeapV H n c) (h : H.Ok L) (z : Int) : (pkA H.parts z).Nodup := pkA_nodup (AuH.parts_contig HV h.spans.tiled) z
end
section
variable {Z : Nat -> Nat -> List Int} {t0 k0 k : Nat} {l : List Int}
end
end
section
section
variable {H : AuH} {n c : Nat} {K : Nat -> Option Nat} {st : Vst}
theorem vw_fresh (hK : ∀ i, i < n -> K i = some (H.V i)) : VW n K freshS := ⟨fun i hi => ⟨_, hK i hi⟩, rfl⟩
theorem nowH_fresh (hK : ∀ i, i < n -> K i = some (H.V i)) : nowH H n K freshS = H := by
 unfold nowH AuH.re
 have : curV n (getV n K freshS) H.V = H.V := by
  funext i
  unfold curV
  split
  ·rename_i h
   rw [(vw_fresh hK).at_ h, hK i h]
   rfl
  ·rfl
 rw [this]
end
end
section
def emF (H : AuH) (q : Nat) : Nat := if H.K q = 3 /\ H.cel q 4 = 0 then 1 else 0
def emptyN (H : AuH) : Nat := AuH.sumTo (emF H) H.p
theorem sum_less {f g : Nat -> Nat} {p d : Nat} : ∀ m, (∀ q, q < m -> q ≠ p -> f q = g q) -> (p < m -> f p + d = g p) -> AuH.sumTo f m + (if p < m then d else 0) = AuH.sumTo g m
 | 0, _, _ => rfl
 | m + 1, ho, hp => by
  have ih := sum_less (f := f) (g := g) (p := p) (d := d) m (fun q hq => ho q (by omega)) (fun h => hp (by omega))
  show AuH.sumTo f m + f m + _ = AuH.sumTo g m + g m
  by_cases e : m = p
  ·subst e
   have := hp (by omega)
   rw [if_neg (by omega)] at ih
   rw [if_pos (by omega)]
   omega
  ·rw [ho m (by omega) e]
   by_cases h : p < m
   ·rw [if_pos h] at ih
    rw [if_pos (by omega)]
    omega
   ·rw [if_neg h] at ih
    rw [if_neg (by omega)]
    omega
theorem Swept.empty {H H' : AuH} {L : Nat -> List Nat} {p : Nat} (S : Swept H H' L p) (hp : p < H.p) (he : H'.p = H.p) : emptyN H' + (if H.K p = 3 /\ H.cel p 4 = 0 then 1 else 0) = emptyN H := by
 unfold emptyN
 rw [he]
 have h1 := sum_less (f := emF H') (g := emF H) (p := p) (d := emF H p) H.p (fun q hq hne => by
  have h1 := S.kinds q hq
  unfold emF
  by_cases h0 : H.K q = 3 /\ H.cel q 4 = 0
  ·have hk := h1.2 ⟨h0.1, fun x => hne x.1⟩
   rw [if_pos ⟨hk, by rw [S.bits q hq hk]; exact h0.2⟩, if_pos h0]
  ·rw [if_neg (fun x => h0 ⟨(h1.1 x.1).1, by rw [<- S.bits q hq x.1]; exact x.2⟩), if_neg h0]) (fun _ => by
  have h1 := S.kinds p hp
  have : emF H' p = 0 := by
   unfold emF
   refine if_neg fun x => ?_
   have h2 := h1.1 x.1
   exact h2.2 ⟨rfl, by rw [<- S.bits p hp x.1]; exact x.2⟩
  omega)
 rw [if_pos hp] at h1
 exact h1
structure SwInv (H : AuH) (n : Nat) (K : Nat -> Option Nat) (st : Vst) (L : Nat -> List Nat) : Prop where
 ok : (nowH H n K st).Ok L
 work : Work H.t H.p H.s n K st L (nowH H n K st).V
 roots : ∀ i, i < 8 -> (nowH H n K st).V (22 + i) = H.V (22 + i)
 blocks : blocksOf (nowH H n K st).parts = blocksOf H.parts
 free : (nowH H n K st).V 0 + emptyN (nowH H n K st) = H.V 0 + emptyN H
section
variable {H : AuH} {n c : Nat} {K : Nat -> Option Nat} {st : Vst} {L : Nat -> List Nat} {p : Nat}
theorem SwInv.start (HV : HeapV H n c) (h : H.Ok L) (hK : ∀ i, i < n -> K i = some (H.V i)) : SwInv H n K freshS L := by
 have e := nowH_fresh (H := H) hK
 exact ⟨by rw [e]; exact h, by rw [e]; exact Work.of_ok h HV hK, fun i _ => by rw [e], by rw [e], by rw [e]⟩
theorem SwInv.heap (I : SwInv H n K st L) (HV : HeapV H n c) (hok : VOk n st) (h32 : ∀ i x, K i = some x -> x < 2 ^ 32) : HeapV (nowH H n K st) n c := nowH_heap HV hok h32 HV.cap HV.max
theorem SwInv.step (I : SwInv H n K st L) (HV : HeapV H n c) (hok : VOk n st) (h32 : ∀ i x, K i = some x -> x < 2 ^ 32) (hp : p < H.p) :
  ∃ L', SwInv H n K (sweepI n K H.t H.p H.s p st).2 L' /\ (∀ q i, (nowH H n K (sweepI n K H.t H.p H.s p st).2).hand q i ↔ (nowH H n K st).hand q i /\ q ≠ p) /\
   ((sweepI n K H.t H.p H.s p st).1 = true \/ (sweepI n K H.t H.p H.s p st).2.wr = st.wr) /\ FewW 24 st (sweepI n K H.t H.p H.s p st).2 /\
   ((∀ i, ¬ (nowH H n K st).hand p i) -> (sweepI n K H.t H.p H.s p st).1 = false) := by
 have HV1 := I.heap HV hok h32
 obtain ⟨L', g', W', S, h1, h2, h3⟩ := sweep_heap (H := nowH H n K st) HV1 I.ok I.work nowH_nowH hp
 have S : Swept (nowH H n K st) (nowH (nowH H n K st) n K (sweepI n K H.t H.p H.s p st).2) L' p := S
 have W' : Work H.t H.p H.s n K (sweepI n K H.t H.p H.s p st).2 L' g' := W'
 rw [nowH_nowH] at S
 refine ⟨L', ⟨S.ok, W'.again, fun i hi => (S.roots i hi).trans (I.roots i hi), S.blocks.trans I.blocks, ?_⟩, S.hand, h1, h2, h3⟩
 have he := S.empty hp rfl
 have hf := S.free
 have := I.free
 omega
theorem empty_zero (h : H.Ok L) (HV : HeapV H n c) (hno : ∀ q i, ¬ H.hand q i) : emptyN H = 0 := by
 unfold emptyN
 have : ∀ m, m <= H.p -> AuH.sumTo (emF H) m = 0 := fun m => by
  induction m with
  | zero => intro _; rfl
  | succ m ih =>
   intro hm
   show AuH.sumTo _ m + emF H m = 0
   rw [ih (by omega), Nat.zero_add]
   unfold emF
   rw [if_neg]
   rintro ⟨hk, h4⟩
   obtain ⟨b0, b1, _⟩ := slab_bits h (by omega) hk
   obtain ⟨j, hj⟩ := Nat.exists_testBit_of_ne_zero b0
   refine hno m j ⟨by omega, hk, ?_, hj, by rw [h4, Nat.zero_testBit]⟩
   rcases Nat.lt_or_ge j (slotI (H.Cl m)) with h1 | h1
   ·exact h1
   ·rw [Nat.testBit_lt_two_pow (Nat.lt_of_lt_of_le b1 (Nat.pow_le_pow_right (by omega) h1))] at hj
    cases hj
 exact this H.p (Nat.le_refl _)
theorem SwInv.done (I : SwInv H n K st L) (HV : HeapV H n c) (hok : VOk n st) (h32 : ∀ i x, K i = some x -> x < 2 ^ 32) (hno : ∀ q i, ¬ (nowH H n K st).hand q i) : (nowH H n K st).V 0 = H.V 0 + emptyN H := by
 have h1 := empty_zero I.ok (I.heap HV hok h32) hno
 have h2 := I.free
 omega
theorem fits_empty (hno : ∀ q i, ¬ H.hand q i) (sz : Nat -> Int) (T : Nat) : FitsP H.parts sz T (fun _ _ => []) := by
 refine ⟨fun _ _ _ _ => by simp, fun k _ => ?_⟩
 have h1 : ∀ T, haveT (fun _ _ => []) k T = [] := fun T => by
  induction T with
  | zero => rfl
  | succ T ih => show haveT _ k T ++ [] = []; rw [ih]; rfl
 have h2 : pkA H.parts (sz k) = [] := List.eq_nil_iff_forall_not_mem.2 fun a ha => by
  obtain ⟨q, i, h, _⟩ := mem_pkA.1 ha
  exact hno q i h
 rw [h1, h2]
end
end
end Go.Proofs.YtnmhdlpnimdffaaGreatDoor

namespace Go.Proofs.YtnmhdlpnimdffaaGreatDoor
open Go.ChangeShapes Go.WideShapes Go.ChangeAt Go.RowKit Go.Shelf
set_option linter.unusedVariables false
set_option linter.unusedSimpArgs false
section
def set9 (w : World) (g : Nat) (a0 a1 a2 a3 a4 a5 a6 a7 a8 : Value) : World := ((((((((w.setCell ⟨g, 0, none⟩ a0).setCell ⟨g, 1, none⟩ a1).setCell ⟨g, 2, none⟩ a2).setCell ⟨g, 3, none⟩ a3).setCell ⟨g, 4, none⟩ a4).setCell ⟨g, 5, none⟩ a5).setCell ⟨g, 6, none⟩ a6).setCell ⟨g, 7, none⟩ a7).setCell ⟨g, 8, none⟩ a8
section
variable {w : World} {g : Nat} {t : TypeId} {c0 c1 c2 c3 c4 c5 c6 c7 c8 : Value}
theorem Held.nine (h : Held w g t #[c0, c1, c2, c3, c4, c5, c6, c7, c8]) : w.cell? ⟨g, 0, none⟩ = some c0 /\ w.cell? ⟨g, 1, none⟩ = some c1 /\ w.cell? ⟨g, 2, none⟩ = some c2 /\ w.cell? ⟨g, 3, none⟩ = some c3 /\ w.cell? ⟨g, 4, none⟩ = some c4 /\ w.cell? ⟨g, 5, none⟩ = some c5 /\ w.cell? ⟨g, 6, none⟩ = some c6 /\ w.cell? ⟨g, 7, none⟩ = some c7 /\ w.cell? ⟨g, 8, none⟩ = some c8 := ⟨h.cell 0, h.cell 1, h.cell 2, h.cell 3, h.cell 4, h.cell 5, h.cell 6, h.cell 7, h.cell 8⟩
theorem Held.thawed9 {cs : Array Value} (h : Held w g t cs) : w.frozen? ⟨g, 0, none⟩ = false /\ w.frozen? ⟨g, 1, none⟩ = false /\ w.frozen? ⟨g, 2, none⟩ = false /\ w.frozen? ⟨g, 3, none⟩ = false /\ w.frozen? ⟨g, 4, none⟩ = false /\ w.frozen? ⟨g, 5, none⟩ = false /\ w.frozen? ⟨g, 6, none⟩ = false /\ w.frozen? ⟨g, 7, none⟩ = false /\ w.frozen? ⟨g, 8, none⟩ = false := ⟨h.thawed 0, h.thawed 1, h.thawed 2, h.thawed 3, h.thawed 4, h.thawed 5, h.thawed 6, h.thawed 7, h.thawed 8⟩
theorem Held.set9 (h : Held w g t #[c0, c1, c2, c3, c4, c5, c6, c7, c8]) (a0 a1 a2 a3 a4 a5 a6 a7 a8 : Value) : Held (set9 w g a0 a1 a2 a3 a4 a5 a6 a7 a8) g t #[a0, a1, a2, a3, a4, a5, a6, a7, a8] := by
 have h0 : Held _ g t #[a0, c1, c2, c3, c4, c5, c6, c7, c8] := h.put 0 a0
 have h1 : Held _ g t #[a0, a1, c2, c3, c4, c5, c6, c7, c8] := h0.put 1 a1
 have h2 : Held _ g t #[a0, a1, a2, c3, c4, c5, c6, c7, c8] := h1.put 2 a2
 have h3 : Held _ g t #[a0, a1, a2, a3, c4, c5, c6, c7, c8] := h2.put 3 a3
 have h4 : Held _ g t #[a0, a1, a2, a3, a4, c5, c6, c7, c8] := h3.put 4 a4
 have h5 : Held _ g t #[a0, a1, a2, a3, a4, a5, c6, c7, c8] := h4.put 5 a5
 have h6 : Held _ g t #[a0, a1, a2, a3, a4, a5, a6, c7, c8] := h5.put 6 a6
 have h7 : Held _ g t #[a0, a1, a2, a3, a4, a5, a6, a7, c8] := h6.put 7 a7
 have h8 : Held _ g t #[a0, a1, a2, a3, a4, a5, a6, a7, a8] := h7.put 8 a8
 exact h8
theorem below_set9 {W : World} (h : Below W.heap.size W w) (hg : W.heap.size <= g) (a0 a1 a2 a3 a4 a5 a6 a7 a8 : Value) : Below W.heap.size W (set9 w g a0 a1 a2 a3 a4 a5 a6 a7 a8) :=
 Bput (Bput (Bput (Bput (Bput (Bput (Bput (Bput (Bput h (p := ⟨g, 0, none⟩) hg a0) (p := ⟨g, 1, none⟩) hg a1) (p := ⟨g, 2, none⟩) hg a2) (p := ⟨g, 3, none⟩) hg a3) (p := ⟨g, 4, none⟩) hg a4) (p := ⟨g, 5, none⟩) hg a5) (p := ⟨g, 6, none⟩) hg a6) (p := ⟨g, 7, none⟩) hg a7) (p := ⟨g, 8, none⟩) hg a8
theorem heap_set9 {j : Nat} (hj : j ≠ g) (a0 a1 a2 a3 a4 a5 a6 a7 a8 : Value) : (set9 w g a0 a1 a2 a3 a4 a5 a6 a7 a8).heap[j]? = w.heap[j]? := by
 unfold _root_.Go.Proofs.YtnmhdlpnimdffaaGreatDoor.set9
 repeat rw [Below.heap_setCell _ _ _ _ hj]
theorem own_set9 {base : Nat} {e : TypeId} {size : Nat} {v : Value} {n : Nat} {xs : List Value} (h : w.ownsRow base e size v n xs) (hg : ∀ j, v.ownBlock = some j -> j ≠ g) (a0 a1 a2 a3 a4 a5 a6 a7 a8 : Value) : (set9 w g a0 a1 a2 a3 a4 a5 a6 a7 a8).ownsRow base e size v n xs :=
 own_kept h (fun j hj => heap_set9 (hg j hj) _ _ _ _ _ _ _ _ _)
end
theorem rootsV_eq (H : AuH) : ∃ (r0 r1 r2 r3 r4 r5 r6 r7 : Nat), rootsV H = .agg #[.int .i64 (r0 : Int), .int .i64 (r1 : Int), .int .i64 (r2 : Int), .int .i64 (r3 : Int), .int .i64 (r4 : Int), .int .i64 (r5 : Int), .int .i64 (r6 : Int), .int .i64 (r7 : Int)] /\ H.V 22 = r0 /\ H.V 23 = r1 /\ H.V 24 = r2 /\ H.V 25 = r3 /\ H.V 26 = r4 /\ H.V 27 = r5 /\ H.V 28 = r6 /\ H.V 29 = r7 := ⟨_, _, _, _, _, _, _, _, rfl, rfl, rfl, rfl, rfl, rfl, rfl, rfl, rfl⟩
end
section
def stF (H : AuH) (u : Value) (k : Nat) (i : Nat) : Value := if i = 0 then u else if i <= k then .int .i64 (H.V (21 + i) : Nat) else .int .i64 0
set_option maxHeartbeats 6400000 in
set_option maxRecDepth 100000 in
theorem xState_yes {H : AuH} {n c : Nat} (HV : HeapV H n c) (ad : Addr) (m : Nat) (w : World) (hv : IsVals w ad n H.V) (hC : XCheckIs w H.t H.p H.s (some ad) n c m true) :
  Calls Tryz.prog 19 #[.agg #[.int .i64 (H.t : Int), .int .i64 (H.p : Int), .int .i64 (H.s : Int)], .slice (some ad) n c] w fun e w' => ∃ u, e = .returned (.tuple #[.agg #[u, .int .i64 (H.V 22 : Nat), .int .i64 (H.V 23 : Nat), .int .i64 (H.V 24 : Nat), .int .i64 (H.V 25 : Nat), .int .i64 (H.V 26 : Nat), .int .i64 (H.V 27 : Nat), .int .i64 (H.V 28 : Nat), .int .i64 (H.V 29 : Nat)], .bool true]) /\ w'.ownsRow w.heap.size 94 2 u (blocksOf H.parts).length (bkVs (blocksOf H.parts)) /\ Below w.heap.size w w' := by
 have HVL := hidp hv
 have HXK0 := hC
 have HX := hidp ((Held.new w 23 #[.int .i64 (H.t : Int), .int .i64 (H.p : Int), .int .i64 (H.s : Int)]).alloc (.cells #[.slice none 0 0, .int .i64 0, .int .i64 0, .int .i64 0, .int .i64 0, .int .i64 0, .int .i64 0, .int .i64 0, .int .i64 0] 46))
 obtain ⟨c0, c1, c2⟩ := HX.out.three
 have HS := hidp (Held.new2 w (.cells #[.int .i64 (H.t : Int), .int .i64 (H.p : Int), .int .i64 (H.s : Int)] 23) 46 #[.slice none 0 0, .int .i64 0, .int .i64 0, .int .i64 0, .int .i64 0, .int .i64 0, .int .i64 0, .int .i64 0, .int .i64 0])
 have HBW := hidp (Bnew (Bnew (B0 w) (.cells #[.int .i64 (H.t : Int), .int .i64 (H.p : Int), .int .i64 (H.s : Int)] 23)) (.cells #[.slice none 0 0, .int .i64 0, .int .i64 0, .int .i64 0, .int .i64 0, .int .i64 0, .int .i64 0, .int .i64 0, .int .i64 0] 46))
 have HSO := hidp (xSound_c (H.t : Int) (H.p : Int) (H.s : Int) (some ad) n c m true _ (hC.grown HBW.out))
 have HXK := hidp hC
 have hn := HV.nums
 have hcx : c <= 9223372036854775807 := hn.2.2.2.2.2.2.2.2
 have hni : n <= 6238 := hn.2.2.2.2.2.2.1
 have hnc := HV.cap
 have hn30 : 30 <= n := by have := HV.len; omega
 have hbl : ad.block < w.heap.size := hv.1
 obtain ⟨l, hl⟩ : ∃ l, blocksOf H.parts = l := ⟨_, rfl⟩
 have HLB := hidp hl
 obtain ⟨nb, hnb⟩ : ∃ nb, l.length = nb := ⟨_, rfl⟩
 have HNB := hidp hnb
 clear hC hv hl hnb HXK0 hn
 go_enter Tryz.func19, Tryz.ntmps19
 go_wp2_with (first
  | (go_at_call 7; refine HSO.out.mono ?_; rintro e w2 ⟨rfl, hb2⟩; have HB2 := hidp (Bgo HBW.out hb2); have HS2 := hidp (HS.out.keep hb2); have HX2 := hidp (HX.out.keep hb2); clear hb2 c0 c1 c2; obtain ⟨c0, c1, c2⟩ := HX2.out.three)
  | (go_at_call 55; refine (xLiveTop_yes HV ad m _ (HVL.out.below HB2.out) (HXK.out.grown HB2.out)).mono ?_; rintro e w3 ⟨u, rfl, hown3, hb3⟩; rw [HLB.out, HNB.out] at hown3; obtain ⟨Ab, cb, rfl⟩ := own_slice hown3; have HG6 : Hid (w.heap.size + 1 < w3.heap.size) := hidp (by have h1 := hb3.size; have h2 := HS2.out.lt; omega); have HO3 := hidp (hown3.alloc (.cells #[.slice Ab nb cb, .int .i64 0, .int .i64 0, .int .i64 0, .int .i64 0, .int .i64 0, .int .i64 0, .int .i64 0, .int .i64 0] 46)); have HB3 := hidp (Bnew (Bgo HB2.out hb3) (.cells #[.slice Ab nb cb, .int .i64 0, .int .i64 0, .int .i64 0, .int .i64 0, .int .i64 0, .int .i64 0, .int .i64 0, .int .i64 0] 46)); have HS3 := hidp ((HS2.out.keep hb3).alloc (.cells #[.slice Ab nb cb, .int .i64 0, .int .i64 0, .int .i64 0, .int .i64 0, .int .i64 0, .int .i64 0, .int .i64 0, .int .i64 0] 46)); have HN3 := hidp (Held.new w3 46 #[.slice Ab nb cb, .int .i64 0, .int .i64 0, .int .i64 0, .int .i64 0, .int .i64 0, .int .i64 0, .int .i64 0, .int .i64 0]); have HOL : Hid (∀ j, (Value.slice Ab nb cb).ownBlock = some j -> w2.heap.size <= j /\ j < w3.heap.size) := hidp (fun j hj => hown3.lt j hj); clear hown3 hb3 c0 c1 c2)
  | fail)
 generalize hg6 : w3.heap.size = g6 at *
 generalize hw4 : w3.alloc (.cells #[.slice Ab nb cb, .int .i64 0, .int .i64 0, .int .i64 0, .int .i64 0, .int .i64 0, .int .i64 0, .int .i64 0, .int .i64 0] 46) = W4 at *
 have HR0 : Hid (RowF W4 g6 46 9 9 (stF H (.slice Ab nb cb) 0)) := hidp ⟨_, HN3.out, by simp, by omega, by unfold maxLen; omega, fun i hi => by
  rcases (by omega : i = 0 \/ i = 1 \/ i = 2 \/ i = 3 \/ i = 4 \/ i = 5 \/ i = 6 \/ i = 7 \/ i = 8) with rfl | rfl | rfl | rfl | rfl | rfl | rfl | rfl | rfl <;> rfl⟩
 have hgw := HG6.out
 clear hg6 hw4
 go_loopw [7] (fun u7 wr => ∃ k : Nat, k <= 8 /\ u7 = .int .i64 (k : Int) /\ Hid (Turns (fun i => i = g6) W4 wr) /\ Hid (RowF wr g6 46 9 9 (stF H (.slice Ab nb cb) k))) (fun u7 _ => 8 - (intOf u7).toNat)
 case atStart => exact ⟨0, by omega, rfl, hidp (T0 _ _), HR0⟩
 case round =>
  clear HR0
  obtain ⟨k, hk, rfl, HT0, HR⟩ := hrel
  have HB := hidp (HT0.out.below HB3.out (by omega))
  by_cases hlt : k < 8
  ·have t0 : decide ((k : Int) < 8) = true := decide_eq_true (by omega)
   have t8 : (k : Int) < 8 := by omega
   have HRT : Hid (nthI 22 8 1 (k : Int) = ((22 + k : Nat) : Int)) := hidp (by rw [nth_on (by omega) (by omega) (by omega)]; push_cast; omega)
   have hin : 22 + k < n := by omega
   have hvk := (HVL.out.below HB.out).2 (22 + k) hin
   have hv32 := HV.lt (22 + k) hin
   have hrc := HR.out.cell (show 1 + k < 9 by omega)
   have hrf := HR.out.thawed (1 + k)
   have HUP : Hid (∀ i, i < 9 -> updF (stF H (.slice Ab nb cb) k) (1 + k) (.int .i64 (H.V (22 + k) : Nat)) i = stF H (.slice Ab nb cb) (k + 1) i) := hidp (fun i hi => by
    unfold updF stF
    by_cases e : i = 1 + k
    ·subst e; rw [if_pos rfl, if_neg (by omega), if_pos (by omega), show 21 + (1 + k) = 22 + k by omega]
    ·rw [if_neg e]
     by_cases e0 : i = 0
     ·rw [if_pos e0, if_pos e0]
     ·rw [if_neg e0, if_neg e0]
      by_cases e2 : i <= k
      ·rw [if_pos e2, if_pos (by omega)]
      ·rw [if_neg e2, if_neg (by omega)])
   have hr0 : stF H (.slice Ab nb cb) k (1 + k) = .int .i64 0 := by unfold stF; rw [if_neg (by omega), if_neg (by omega)]
   rw [hr0] at hrc
   obtain ⟨v, hvv⟩ : ∃ v, H.V (22 + k) = v := ⟨_, rfl⟩
   obtain ⟨ix, hHIX⟩ : ∃ ix, 22 + k = ix := ⟨_, rfl⟩
   rw [hHIX] at hin hvk HRT
   rw [<- hHIX, hvv, hHIX] at hvk
   rw [hvv] at hv32 HUP
   have hin2 : (ix : Int) < n := by omega
   have wv : IntKind.i64.wrap (v : Int) = (v : Int) := i64_same (by omega) (by omega)
   have HT9 : Hid (Turns (fun i => i = g6) wr (wr.setCell ⟨g6, 1 + k, none⟩ (.int .i64 (v : Int)))) := hidp ((T0 (fun i => i = g6) wr).put (p := ⟨g6, 1 + k, none⟩) rfl _)
   clear hvv hHIX
   go_wp2_with (first
    | (go_at_call 56; refine (r7Root_c _ _).mono ?_; rintro e w9 ⟨rfl, rfl⟩; rw [HRT.out])
    | fail)
   go_roundw
   case rel => exact ⟨k + 1, by omega, by go_num, hidp (HT0.out.trans HT9.out), hidp ((HR.out.put (show 1 + k < 9 by omega) (.int .i64 (v : Int))).congr HUP.out)⟩
   case measure => simp [intOf]; omega
  ·have t0 : decide ((k : Int) < 8) = false := decide_eq_false (by omega)
   have hk8 : k = 8 := by omega
   subst hk8
   obtain ⟨r0, r1, r2, r3, r4, r5, r6, r7, hrv, e0, e1, e2, e3, e4, e5, e6, e7⟩ := rootsV_eq H
   have hf0 : stF H (.slice Ab nb cb) 8 0 = .slice Ab nb cb := rfl
   have hf1 : stF H (.slice Ab nb cb) 8 1 = .int .i64 (r0 : Int) := by rw [<- e0]; rfl
   have hf2 : stF H (.slice Ab nb cb) 8 2 = .int .i64 (r1 : Int) := by rw [<- e1]; rfl
   have hf3 : stF H (.slice Ab nb cb) 8 3 = .int .i64 (r2 : Int) := by rw [<- e2]; rfl
   have hf4 : stF H (.slice Ab nb cb) 8 4 = .int .i64 (r3 : Int) := by rw [<- e3]; rfl
   have hf5 : stF H (.slice Ab nb cb) 8 5 = .int .i64 (r4 : Int) := by rw [<- e4]; rfl
   have hf6 : stF H (.slice Ab nb cb) 8 6 = .int .i64 (r5 : Int) := by rw [<- e5]; rfl
   have hf7 : stF H (.slice Ab nb cb) 8 7 = .int .i64 (r6 : Int) := by rw [<- e6]; rfl
   have hf8 : stF H (.slice Ab nb cb) 8 8 = .int .i64 (r7 : Int) := by rw [<- e7]; rfl
   have q0 := (HR.out.cell (show 0 < 9 by omega)).trans (congrArg some hf0)
   have q1 := (HR.out.cell (show 1 < 9 by omega)).trans (congrArg some hf1)
   have q2 := (HR.out.cell (show 2 < 9 by omega)).trans (congrArg some hf2)
   have q3 := (HR.out.cell (show 3 < 9 by omega)).trans (congrArg some hf3)
   have q4 := (HR.out.cell (show 4 < 9 by omega)).trans (congrArg some hf4)
   have q5 := (HR.out.cell (show 5 < 9 by omega)).trans (congrArg some hf5)
   have q6 := (HR.out.cell (show 6 < 9 by omega)).trans (congrArg some hf6)
   have q7 := (HR.out.cell (show 7 < 9 by omega)).trans (congrArg some hf7)
   have q8 := (HR.out.cell (show 8 < 9 by omega)).trans (congrArg some hf8)
   have HS4 := hidp (HT0.out.held HS3.out (by omega))
   obtain ⟨z0, z1, z2, z3, z4, z5, z6, z7, z8⟩ := HS4.out.nine
   obtain ⟨f0, f1, f2, f3, f4, f5, f6, f7, f8⟩ := HS4.out.thawed9
   have HO4 := hidp (own_kept HO3.out (fun j hj => HT0.out.block j (HO3.out.lt j hj).2 (by have := (HOL.out j hj).2; omega)))
   have HRE := hidp (And.intro e0 (And.intro e1 (And.intro e2 (And.intro e3 (And.intro e4 (And.intro e5 (And.intro e6 e7)))))))
   clear hrv e0 e1 e2 e3 e4 e5 e6 e7 hf0 hf1 hf2 hf3 hf4 hf5 hf6 hf7 hf8
   go_wp2_with fail
   obtain ⟨WF, hWF⟩ : ∃ WF, set9 (wr) (w.heap.size + 1) (.slice Ab nb cb) (.int .i64 (r0 : Int)) (.int .i64 (r1 : Int)) (.int .i64 (r2 : Int)) (.int .i64 (r3 : Int)) (.int .i64 (r4 : Int)) (.int .i64 (r5 : Int)) (.int .i64 (r6 : Int)) (.int .i64 (r7 : Int)) = WF := ⟨_, rfl⟩
   have zz := HS4.out.set9 (.slice Ab nb cb) (.int .i64 (r0 : Int)) (.int .i64 (r1 : Int)) (.int .i64 (r2 : Int)) (.int .i64 (r3 : Int)) (.int .i64 (r4 : Int)) (.int .i64 (r5 : Int)) (.int .i64 (r6 : Int)) (.int .i64 (r7 : Int))
   have hBF := below_set9 (g := (w.heap.size + 1)) HB.out (by omega) (.slice Ab nb cb) (.int .i64 (r0 : Int)) (.int .i64 (r1 : Int)) (.int .i64 (r2 : Int)) (.int .i64 (r3 : Int)) (.int .i64 (r4 : Int)) (.int .i64 (r5 : Int)) (.int .i64 (r6 : Int)) (.int .i64 (r7 : Int))
   have hOF := own_set9 (g := (w.heap.size + 1)) (own_down HO4.out HB2.out.size) (fun j hj => by have h1 := (HOL.out j hj).1; have h2 := HS2.out.lt; omega) (.slice Ab nb cb) (.int .i64 (r0 : Int)) (.int .i64 (r1 : Int)) (.int .i64 (r2 : Int)) (.int .i64 (r3 : Int)) (.int .i64 (r4 : Int)) (.int .i64 (r5 : Int)) (.int .i64 (r6 : Int)) (.int .i64 (r7 : Int))
   rw [hWF] at zz hBF hOF
   unfold set9 at hWF
   rw [hWF]
   obtain ⟨y0, y1, y2, y3, y4, y5, y6, y7, y8⟩ := zz.nine
   refine bodyPost_ret (v := .tuple #[.agg #[.slice Ab nb cb, .int .i64 (r0 : Int), .int .i64 (r1 : Int), .int .i64 (r2 : Int), .int .i64 (r3 : Int), .int .i64 (r4 : Int), .int .i64 (r5 : Int), .int .i64 (r6 : Int), .int .i64 (r7 : Int)], .bool true]) (by simp [results, Tryz.results19, go_sem, y0, y1, y2, y3, y4, y5, y6, y7, y8]) rfl ⟨.slice Ab nb cb, by obtain ⟨e0, e1, e2, e3, e4, e5, e6, e7⟩ := HRE.out; simp only [e0, e1, e2, e3, e4, e5, e6, e7], ?_, hBF⟩
   rw [HLB.out, HNB.out]
   exact hOF
end
section
theorem eqStep (d : Nat) (xs ys : Array Value) (i : Nat) (a b : Int) (is : List Nat) (w : World) (hx : xs[i]? = some (.int .i64 a)) (hy : ys[i]? = some (.int .i64 b)) :
  (Op.eqItems (d + 1) 2 1 xs ys (i :: is)).run Tryz.prog w = if (a == b) = true then (Op.eqItems (d + 1) 2 1 xs ys is).run Tryz.prog w else .ok false w := by
 have p1 := run_part_plain (P := Tryz.prog) w (e := 2) (by kernel_rfl) (off := i * 1) (by rw [Nat.mul_one]; exact hx)
 have p2 := run_part_plain (P := Tryz.prog) w (e := 2) (by kernel_rfl) (off := i * 1) (by rw [Nat.mul_one]; exact hy)
 have p3 := run_equalIn_int (P := Tryz.prog) w d 2 .i64 .i64 a b Tryz.underlying2
 simp only [Op.eqItems, Sem.run_bind, p1, p2, p3, Result.andThen_ok]
 cases a == b <;> simp
theorem eq8_run (r0 r1 r2 r3 r4 r5 r6 r7 p0 p1 p2 p3 p4 p5 p6 p7 : Int) (w : World) :
  (Op.equalIn 10000 44 (.agg #[.int .i64 r0, .int .i64 r1, .int .i64 r2, .int .i64 r3, .int .i64 r4, .int .i64 r5, .int .i64 r6, .int .i64 r7]) (.agg #[.int .i64 p0, .int .i64 p1, .int .i64 p2, .int .i64 p3, .int .i64 p4, .int .i64 p5, .int .i64 p6, .int .i64 p7])).run Tryz.prog w = .ok (r0 == p0 && (r1 == p1 && (r2 == p2 && (r3 == p3 && (r4 == p4 && (r5 == p5 && (r6 == p6 && (r7 == p7)))))))) w := by
 obtain ⟨i, hi⟩ : ∃ i, Tryz.prog.info? 2 = some i := Option.isSome_iff_exists.1 (by kernel_rfl)
 have hc : Tryz.prog.cellsOf 2 = 1 := by kernel_rfl
 show (Op.equalIn (9999 + 1) _ _ _).run _ _ = _
 rw [run_equalIn_array w 9999 _ _ Tryz.underlying44 hi, hc]
 show (Op.eqItems (9998 + 1) 2 1 _ _ [0, 1, 2, 3, 4, 5, 6, 7]).run _ _ = _
 rw [eqStep 9998 _ _ 0 r0 p0 _ w rfl rfl]
 rw [eqStep 9998 _ _ 1 r1 p1 _ w rfl rfl]
 rw [eqStep 9998 _ _ 2 r2 p2 _ w rfl rfl]
 rw [eqStep 9998 _ _ 3 r3 p3 _ w rfl rfl]
 rw [eqStep 9998 _ _ 4 r4 p4 _ w rfl rfl]
 rw [eqStep 9998 _ _ 5 r5 p5 _ w rfl rfl]
 rw [eqStep 9998 _ _ 6 r6 p6 _ w rfl rfl]
 rw [eqStep 9998 _ _ 7 r7 p7 _ w rfl rfl]
 have hn : ∀ xs ys : Array Value, (Op.eqItems (9998 + 1) 2 1 xs ys []).run Tryz.prog w = .ok true w := fun xs ys => by simp [Op.eqItems]
 rw [hn]
 generalize (r0 == p0) = e0
 generalize (r1 == p1) = e1
 generalize (r2 == p2) = e2
 generalize (r3 == p3) = e3
 generalize (r4 == p4) = e4
 generalize (r5 == p5) = e5
 generalize (r6 == p6) = e6
 generalize (r7 == p7) = e7
 cases e0
 ·rfl
 cases e1
 ·rfl
 cases e2
 ·rfl
 cases e3
 ·rfl
 cases e4
 ·rfl
 cases e5
 ·rfl
 cases e6
 ·rfl
 cases e7
 ·rfl
 ·rfl

theorem eq8_iff (r0 r1 r2 r3 r4 r5 r6 r7 p0 p1 p2 p3 p4 p5 p6 p7 : Int) : (r0 == p0 && (r1 == p1 && (r2 == p2 && (r3 == p3 && (r4 == p4 && (r5 == p5 && (r6 == p6 && (r7 == p7)))))))) = true ↔ [r0, r1, r2, r3, r4, r5, r6, r7] = [p0, p1, p2, p3, p4, p5, p6, p7] := by simp
end
section
set_option maxHeartbeats 6400000 in
set_option maxRecDepth 100000 in
theorem xSame_len (l1 l2 : List (Int × Int)) (A1 A2 : Option Addr) (nl c1 c2 b1 b2 : Nat) (r0 r1 r2 r3 r4 r5 r6 r7 p0 p1 p2 p3 p4 p5 p6 p7 : Int) (w : World) (h1 : l1.length = nl) (h2 : l2.length = nl) (hnl : nl <= 100000) (hnl : nl <= 100000)
  (hO1 : w.ownsRow b1 94 2 (.slice A1 nl c1) nl (bkVs l1)) (hO2 : w.ownsRow b2 94 2 (.slice A2 nl c2) nl (bkVs l2)) (b : Bool) (hb : b = true ↔ [r0, r1, r2, r3, r4, r5, r6, r7] = [p0, p1, p2, p3, p4, p5, p6, p7] /\ l1 = l2) :
  Calls Tryz.prog 21 #[.agg #[.slice A1 nl c1, .int .i64 r0, .int .i64 r1, .int .i64 r2, .int .i64 r3, .int .i64 r4, .int .i64 r5, .int .i64 r6, .int .i64 r7], .agg #[.slice A2 nl c2, .int .i64 p0, .int .i64 p1, .int .i64 p2, .int .i64 p3, .int .i64 p4, .int .i64 p5, .int .i64 p6, .int .i64 p7]] w fun e w' => e = .returned (.bool b) /\ Below w.heap.size w w' := by
 have HX1 := hidp ((Held.new w 46 #[.slice A1 nl c1, .int .i64 r0, .int .i64 r1, .int .i64 r2, .int .i64 r3, .int .i64 r4, .int .i64 r5, .int .i64 r6, .int .i64 r7]).alloc (.cells #[.slice A2 nl c2, .int .i64 p0, .int .i64 p1, .int .i64 p2, .int .i64 p3, .int .i64 p4, .int .i64 p5, .int .i64 p6, .int .i64 p7] 46))
 have HX2 := hidp (Held.new2 w (.cells #[.slice A1 nl c1, .int .i64 r0, .int .i64 r1, .int .i64 r2, .int .i64 r3, .int .i64 r4, .int .i64 r5, .int .i64 r6, .int .i64 r7] 46) 46 #[.slice A2 nl c2, .int .i64 p0, .int .i64 p1, .int .i64 p2, .int .i64 p3, .int .i64 p4, .int .i64 p5, .int .i64 p6, .int .i64 p7])
 obtain ⟨x0, x1, x2, x3, x4, x5, x6, x7, x8⟩ := HX1.out.nine
 obtain ⟨y0, y1, y2, y3, y4, y5, y6, y7, y8⟩ := HX2.out.nine
 have HBW := hidp (Bnew (Bnew (B0 w) (.cells #[.slice A1 nl c1, .int .i64 r0, .int .i64 r1, .int .i64 r2, .int .i64 r3, .int .i64 r4, .int .i64 r5, .int .i64 r6, .int .i64 r7] 46)) (.cells #[.slice A2 nl c2, .int .i64 p0, .int .i64 p1, .int .i64 p2, .int .i64 p3, .int .i64 p4, .int .i64 p5, .int .i64 p6, .int .i64 p7] 46))
 have HO1 := hidp ((hO1.alloc (.cells #[.slice A1 nl c1, .int .i64 r0, .int .i64 r1, .int .i64 r2, .int .i64 r3, .int .i64 r4, .int .i64 r5, .int .i64 r6, .int .i64 r7] 46)).alloc (.cells #[.slice A2 nl c2, .int .i64 p0, .int .i64 p1, .int .i64 p2, .int .i64 p3, .int .i64 p4, .int .i64 p5, .int .i64 p6, .int .i64 p7] 46))
 have HO2 := hidp ((hO2.alloc (.cells #[.slice A1 nl c1, .int .i64 r0, .int .i64 r1, .int .i64 r2, .int .i64 r3, .int .i64 r4, .int .i64 r5, .int .i64 r6, .int .i64 r7] 46)).alloc (.cells #[.slice A2 nl c2, .int .i64 p0, .int .i64 p1, .int .i64 p2, .int .i64 p3, .int .i64 p4, .int .i64 p5, .int .i64 p6, .int .i64 p7] 46))
 have HL1 := hidp h1
 have HL2 := hidp h2
 obtain ⟨h11, h12⟩ := own_caps3 hO1
 obtain ⟨h21, h22⟩ := own_caps3 hO2
 have h12 : c1 <= 9223372036854775807 := h12
 have h22 : c2 <= 9223372036854775807 := h22
 have hei := eq8_iff r0 r1 r2 r3 r4 r5 r6 r7 p0 p1 p2 p3 p4 p5 p6 p7
 have he := fun W => eq8_run r0 r1 r2 r3 r4 r5 r6 r7 p0 p1 p2 p3 p4 p5 p6 p7 W
 obtain ⟨eb, heb⟩ : ∃ eb, (r0 == p0 && (r1 == p1 && (r2 == p2 && (r3 == p3 && (r4 == p4 && (r5 == p5 && (r6 == p6 && (r7 == p7)))))))) = eb := ⟨_, rfl⟩
 rw [heb] at hei
 simp only [heb] at he
 have q0 : ((nl : Int) != (nl : Int)) = false := by simp
 cases eb
 ·have HBF : Hid (b = false) := hidp (bool_no hb (fun h => by have := hei.2 h.1; cases this))
  clear hei heb hb h1 h2 hO1 hO2
  go_enter Tryz.func21, Tryz.ntmps21
  go_wp2_with fail
  go_ret
  exact ⟨by rw [HBF.out]; rfl, HBW.out⟩
 ·have HBC : Hid (b = true ↔ l1 = l2) := hidp (hb.trans ⟨fun h => h.2, fun h => ⟨hei.1 rfl, h⟩⟩)
  clear hei heb hb h1 h2 hO1 hO2
  go_enter Tryz.func21, Tryz.ntmps21
  go_wp2_with fail
  generalize (w.alloc (.cells #[.slice A1 nl c1, .int .i64 r0, .int .i64 r1, .int .i64 r2, .int .i64 r3, .int .i64 r4, .int .i64 r5, .int .i64 r6, .int .i64 r7] 46)).alloc (.cells #[.slice A2 nl c2, .int .i64 p0, .int .i64 p1, .int .i64 p2, .int .i64 p3, .int .i64 p4, .int .i64 p5, .int .i64 p6, .int .i64 p7] 46) = WL at *
  clear he x1 x2 x3 x4 x5 x6 x7 x8 y1 y2 y3 y4 y5 y6 y7 y8 q0
  go_loopw [5] (fun u5 wr => ∃ (i d : Nat), i <= nl /\ u5 = .int .i64 (i : Int) /\ Hid (l1.take i = l2.take i) /\ wr = WL.drewN d) (fun u5 _ => nl - (intOf u5).toNat)
  case atStart => exact ⟨0, 0, by omega, rfl, hidp rfl, rfl⟩
  case round =>
   obtain ⟨i, d, hi, rfl, HTE, rfl⟩ := hrel
   by_cases hlt : i < nl
   ·obtain ⟨x, hx⟩ : ∃ x, l1[i]? = some x := ⟨_, List.getElem?_eq_getElem (by have := HL1.out; omega)⟩
    obtain ⟨y, hy⟩ : ∃ y, l2[i]? = some y := ⟨_, List.getElem?_eq_getElem (by have := HL2.out; omega)⟩
    obtain ⟨g1, cv1, hv1, _, _⟩ := HO1.out.form (by omega)
    injection hv1 with hv1 _ hc1
    subst hv1
    subst hc1
    obtain ⟨g2, cv2, hv2, _, _⟩ := HO2.out.form (by omega)
    injection hv2 with hv2 _ hc2
    subst hv2
    subst hc2
    obtain ⟨p0, p1⟩ := own_block0 HO1.out HL1.out hx
    obtain ⟨q0, q1⟩ := own_block0 HO2.out HL2.out hy
    have HNE : Hid (x ≠ y -> ¬ l1 = l2) := hidp (fun h e => h (by rw [e, hy] at hx; exact (Option.some.inj hx).symm))
    have HSU : Hid (x = y -> l1.take (i + 1) = l2.take (i + 1)) := hidp (fun h => by rw [List.take_add_one, List.take_add_one, HTE.out, hx, hy, h])
    obtain ⟨a1, z1⟩ := x
    obtain ⟨a2, z2⟩ := y
    have t0 : decide ((i : Int) < nl) = true := decide_eq_true (by omega)
    have t0n : decide (i < nl) = true := decide_eq_true hlt
    simp only at p0 p1 q0 q1
    clear hx hy
    by_cases ha : a1 = a2
    ·subst ha
     by_cases hz : z1 = z2
     ·subst hz
      have HT1 := hidp (HSU.out rfl)
      go_wp2_with fail
      refine wp_region_held_drew (S := (fun w' => w'.cell? ⟨g1, i * 2, none⟩ = some (.int .i64 a1) /\ w'.cell? ⟨g1, i * 2 + 1, none⟩ = some (.int .i64 z1) /\ w'.cell? ⟨g2, i * 2, none⟩ = some (.int .i64 a1) /\ w'.cell? ⟨g2, i * 2 + 1, none⟩ = some (.int .i64 z1) /\ w'.cell? ⟨w.heap.size, 0, none⟩ = some (.slice (some ⟨g1, 0, none⟩) nl c1) /\ w'.cell? ⟨w.heap.size + 1, 0, none⟩ = some (.slice (some ⟨g2, 0, none⟩) nl c2))) (by kernel_rfl) ?_ (fun hHeld => ?_)
      ·(try dsimp only)
       first | exact ⟨p0, p1, q0, q1, x0, y0⟩ | exact hHeld
      refine tkz 0 ?_
      refine tkz 1 ?_
      refine tkz 2 ?_
      refine tkz 3 ?_
      refine tkz 4 ?_
      refine tkz 5 ?_
      refine tkz 6 ?_
      refine tkz 7 ?_
      refine tkz 8 ?_
      refine tkz 9 ?_
      refine tkz 10 ?_
      refine dnz ?_
      go_wp2_with fail
      go_roundw
      case rel => exact ⟨i + 1, d + 1, by omega, by go_num, HT1, rfl⟩
      case measure => simp [intOf]; omega
     ·have qz : (z1 == z2) = false := by simpa using hz
      have HBF : Hid (b = false) := hidp (bool_no HBC.out (HNE.out (fun e => hz (Prod.mk.inj e).2)))
      go_wp2_with fail
      refine wp_region_held_drew (S := (fun w' => w'.cell? ⟨g1, i * 2, none⟩ = some (.int .i64 a1) /\ w'.cell? ⟨g1, i * 2 + 1, none⟩ = some (.int .i64 z1) /\ w'.cell? ⟨g2, i * 2, none⟩ = some (.int .i64 a1) /\ w'.cell? ⟨g2, i * 2 + 1, none⟩ = some (.int .i64 z2) /\ w'.cell? ⟨w.heap.size, 0, none⟩ = some (.slice (some ⟨g1, 0, none⟩) nl c1) /\ w'.cell? ⟨w.heap.size + 1, 0, none⟩ = some (.slice (some ⟨g2, 0, none⟩) nl c2))) (by kernel_rfl) ?_ (fun hHeld => ?_)
      ·(try dsimp only)
       first | exact ⟨p0, p1, q0, q1, x0, y0⟩ | exact hHeld
      refine tkz 0 ?_
      refine tkz 1 ?_
      refine tkz 2 ?_
      refine tkz 3 ?_
      refine tkz 4 ?_
      refine tkz 5 ?_
      refine tkz 6 ?_
      refine tkz 7 ?_
      refine tkz 8 ?_
      refine tkz 9 ?_
      refine tkz 10 ?_
      refine dnz ?_
      go_wp2_with fail
      go_ret
      exact ⟨by rw [HBF.out]; rfl, Bdraw HBW.out (d + 1)⟩
    ·have qa : (a1 == a2) = false := by simpa using ha
     have HBF : Hid (b = false) := hidp (bool_no HBC.out (HNE.out (fun e => ha (Prod.mk.inj e).1)))
     go_wp2_with fail
     refine wp_region_held_drew (S := (fun w' => w'.cell? ⟨g1, i * 2, none⟩ = some (.int .i64 a1) /\ w'.cell? ⟨g1, i * 2 + 1, none⟩ = some (.int .i64 z1) /\ w'.cell? ⟨g2, i * 2, none⟩ = some (.int .i64 a2) /\ w'.cell? ⟨g2, i * 2 + 1, none⟩ = some (.int .i64 z2) /\ w'.cell? ⟨w.heap.size, 0, none⟩ = some (.slice (some ⟨g1, 0, none⟩) nl c1) /\ w'.cell? ⟨w.heap.size + 1, 0, none⟩ = some (.slice (some ⟨g2, 0, none⟩) nl c2))) (by kernel_rfl) ?_ (fun hHeld => ?_)
     ·(try dsimp only)
      first | exact ⟨p0, p1, q0, q1, x0, y0⟩ | exact hHeld
     refine tkz 0 ?_
     refine tkz 1 ?_
     refine tkz 2 ?_
     refine tkz 3 ?_
     refine tkz 4 ?_
     refine tkz 5 ?_
     refine tkz 6 ?_
     refine tkz 7 ?_
     refine tkz 8 ?_
     refine tkz 9 ?_
     refine tkz 10 ?_
     refine dnz ?_
     go_wp2_with fail
     go_ret
     exact ⟨by rw [HBF.out]; rfl, Bdraw HBW.out (d + 1)⟩
   ·have t0 : decide ((i : Int) < nl) = false := decide_eq_false (by omega)
    have t0n : decide (i < nl) = false := decide_eq_false hlt
    have HBT : Hid (b = true) := hidp (HBC.out.2 (by
     have h := HTE.out
     rwa [List.take_of_length_le (by have := HL1.out; omega), List.take_of_length_le (by have := HL2.out; omega)] at h))
    go_wp2_with fail
    go_ret
    exact ⟨by rw [HBT.out]; rfl, Bdraw HBW.out d⟩
set_option maxHeartbeats 1600000 in
theorem xSame_c (l1 l2 : List (Int × Int)) (A1 A2 : Option Addr) (n1 n2 c1 c2 b1 b2 : Nat) (r0 r1 r2 r3 r4 r5 r6 r7 p0 p1 p2 p3 p4 p5 p6 p7 : Int) (w : World) (h1 : l1.length = n1) (h2 : l2.length = n2) (hn1 : n1 <= 100000) (hn2 : n2 <= 100000)
  (hO1 : w.ownsRow b1 94 2 (.slice A1 n1 c1) n1 (bkVs l1)) (hO2 : w.ownsRow b2 94 2 (.slice A2 n2 c2) n2 (bkVs l2)) (b : Bool) (hb : b = true ↔ [r0, r1, r2, r3, r4, r5, r6, r7] = [p0, p1, p2, p3, p4, p5, p6, p7] /\ l1 = l2) :
  Calls Tryz.prog 21 #[.agg #[.slice A1 n1 c1, .int .i64 r0, .int .i64 r1, .int .i64 r2, .int .i64 r3, .int .i64 r4, .int .i64 r5, .int .i64 r6, .int .i64 r7], .agg #[.slice A2 n2 c2, .int .i64 p0, .int .i64 p1, .int .i64 p2, .int .i64 p3, .int .i64 p4, .int .i64 p5, .int .i64 p6, .int .i64 p7]] w fun e w' => e = .returned (.bool b) /\ Below w.heap.size w w' := by
 by_cases hne : n1 = n2
 ·subst hne
  exact xSame_len l1 l2 A1 A2 n1 c1 c2 b1 b2 r0 r1 r2 r3 r4 r5 r6 r7 p0 p1 p2 p3 p4 p5 p6 p7 w h1 h2 hn1 hn2 hO1 hO2 b hb
 ·have q0 : ((n1 : Int) != (n2 : Int)) = true := by simp; omega
  have q0n : (n1 != n2) = true := by simpa using hne
  have HBF : Hid (b = false) := hidp (bool_no hb (fun e => hne (by rw [<- h1, <- h2, e.2])))
  have HX1 := hidp ((Held.new w 46 #[.slice A1 n1 c1, .int .i64 r0, .int .i64 r1, .int .i64 r2, .int .i64 r3, .int .i64 r4, .int .i64 r5, .int .i64 r6, .int .i64 r7]).alloc (.cells #[.slice A2 n2 c2, .int .i64 p0, .int .i64 p1, .int .i64 p2, .int .i64 p3, .int .i64 p4, .int .i64 p5, .int .i64 p6, .int .i64 p7] 46))
  have HX2 := hidp (Held.new2 w (.cells #[.slice A1 n1 c1, .int .i64 r0, .int .i64 r1, .int .i64 r2, .int .i64 r3, .int .i64 r4, .int .i64 r5, .int .i64 r6, .int .i64 r7] 46) 46 #[.slice A2 n2 c2, .int .i64 p0, .int .i64 p1, .int .i64 p2, .int .i64 p3, .int .i64 p4, .int .i64 p5, .int .i64 p6, .int .i64 p7])
  obtain ⟨x0, x1, x2, x3, x4, x5, x6, x7, x8⟩ := HX1.out.nine
  obtain ⟨y0, y1, y2, y3, y4, y5, y6, y7, y8⟩ := HX2.out.nine
  have HBW := hidp (Bnew (Bnew (B0 w) (.cells #[.slice A1 n1 c1, .int .i64 r0, .int .i64 r1, .int .i64 r2, .int .i64 r3, .int .i64 r4, .int .i64 r5, .int .i64 r6, .int .i64 r7] 46)) (.cells #[.slice A2 n2 c2, .int .i64 p0, .int .i64 p1, .int .i64 p2, .int .i64 p3, .int .i64 p4, .int .i64 p5, .int .i64 p6, .int .i64 p7] 46))
  have HO1 := hidp ((hO1.alloc (.cells #[.slice A1 n1 c1, .int .i64 r0, .int .i64 r1, .int .i64 r2, .int .i64 r3, .int .i64 r4, .int .i64 r5, .int .i64 r6, .int .i64 r7] 46)).alloc (.cells #[.slice A2 n2 c2, .int .i64 p0, .int .i64 p1, .int .i64 p2, .int .i64 p3, .int .i64 p4, .int .i64 p5, .int .i64 p6, .int .i64 p7] 46))
  have HO2 := hidp ((hO2.alloc (.cells #[.slice A1 n1 c1, .int .i64 r0, .int .i64 r1, .int .i64 r2, .int .i64 r3, .int .i64 r4, .int .i64 r5, .int .i64 r6, .int .i64 r7] 46)).alloc (.cells #[.slice A2 n2 c2, .int .i64 p0, .int .i64 p1, .int .i64 p2, .int .i64 p3, .int .i64 p4, .int .i64 p5, .int .i64 p6, .int .i64 p7] 46))
  have HL1 := hidp h1
  have HL2 := hidp h2
  obtain ⟨h11, h12⟩ := own_caps3 hO1
  obtain ⟨h21, h22⟩ := own_caps3 hO2
  have h12 : c1 <= 9223372036854775807 := h12
  have h22 : c2 <= 9223372036854775807 := h22
  have hei := eq8_iff r0 r1 r2 r3 r4 r5 r6 r7 p0 p1 p2 p3 p4 p5 p6 p7
  have he := fun W => eq8_run r0 r1 r2 r3 r4 r5 r6 r7 p0 p1 p2 p3 p4 p5 p6 p7 W
  obtain ⟨eb, heb⟩ : ∃ eb, (r0 == p0 && (r1 == p1 && (r2 == p2 && (r3 == p3 && (r4 == p4 && (r5 == p5 && (r6 == p6 && (r7 == p7)))))))) = eb := ⟨_, rfl⟩
  rw [heb] at hei
  simp only [heb] at he
  clear hei heb hb h1 h2 hO1 hO2 hne he
  go_enter Tryz.func21, Tryz.ntmps21
  go_wp2_with fail
  go_ret
  exact ⟨by rw [HBF.out]; rfl, HBW.out⟩
end
end Go.Proofs.YtnmhdlpnimdffaaGreatDoor

namespace Go.Proofs.YtnmhdlpnimdffaaGreatDoor
open Go.ChangeShapes Go.WideShapes Go.ChangeAt Go.RowKit Go.Maps
set_option linter.unusedVariables false
set_option linter.unusedSimpArgs false
set_option maxRecDepth 100000
section
section
variable {W w : World} {O1 O2 : Ob} {A B G : Nat -> Prop} {s1 s2 : Vst}
theorem Duo.poke (h : Duo W O1 O2 A B G s1 s2 w) {p : Addr} (ha : ¬ A p.block) (hb : ¬ B p.block) (hW : W.heap.size <= p.block) (u : Value) : Duo W O1 O2 A B G s1 s2 (w.setCell p u) :=
 ⟨O1.turns h.i1 ((T0 (fun i => i = p.block) w).put (p := p) rfl u) (fun i hi e => ha (by rw [<- e]; exact hi)), O2.turns h.i2 ((T0 (fun i => i = p.block) w).put (p := p) rfl u) (fun i hi e => hb (by rw [<- e]; exact hi)), h.ab,
  fun g hg => ⟨by simp; exact (h.aG g hg).1, (h.aG g hg).2⟩, h.lo, Bput h.bel hW u⟩
theorem Duo.set9 {g : Nat} (h : Duo W O1 O2 A B G s1 s2 w) (ha : ¬ A g) (hb : ¬ B g) (hW : W.heap.size <= g) (a0 a1 a2 a3 a4 a5 a6 a7 a8 : Value) : Duo W O1 O2 A B G s1 s2 (set9 w g a0 a1 a2 a3 a4 a5 a6 a7 a8) :=
 ((((((((h.poke (p := ⟨g, 0, none⟩) ha hb hW a0).poke (p := ⟨g, 1, none⟩) ha hb hW a1).poke (p := ⟨g, 2, none⟩) ha hb hW a2).poke (p := ⟨g, 3, none⟩) ha hb hW a3).poke (p := ⟨g, 4, none⟩) ha hb hW a4).poke (p := ⟨g, 5, none⟩) ha hb hW a5).poke (p := ⟨g, 6, none⟩) ha hb hW a6).poke (p := ⟨g, 7, none⟩) ha hb hW a7).poke (p := ⟨g, 8, none⟩) ha hb hW a8
end
def wr9 (w : World) (g : Nat) (u : Value) (r0 r1 r2 r3 r4 r5 r6 r7 : Nat) : World := set9 w g u (.int .i64 (r0 : Int)) (.int .i64 (r1 : Int)) (.int .i64 (r2 : Int)) (.int .i64 (r3 : Int)) (.int .i64 (r4 : Int)) (.int .i64 (r5 : Int)) (.int .i64 (r6 : Int)) (.int .i64 (r7 : Int))
section
variable {W w WF : World} {O1 O2 : Ob} {A B G : Nat -> Prop} {s1 s2 : Vst} {g g2 r0 r1 r2 r3 r4 r5 r6 r7 : Nat} {t : TypeId} {cs : Array Value} {u : Value}
theorem held9 (hw : wr9 w g u r0 r1 r2 r3 r4 r5 r6 r7 = WF) {c0 c1 c2 c3 c4 c5 c6 c7 c8 : Value} (h : Held w g t #[c0, c1, c2, c3, c4, c5, c6, c7, c8]) : Held WF g t #[u, .int .i64 (r0 : Int), .int .i64 (r1 : Int), .int .i64 (r2 : Int), .int .i64 (r3 : Int), .int .i64 (r4 : Int), .int .i64 (r5 : Int), .int .i64 (r6 : Int), .int .i64 (r7 : Int)] := by
 subst hw
 exact h.set9 _ _ _ _ _ _ _ _ _
theorem far9 (hw : wr9 w g u r0 r1 r2 r3 r4 r5 r6 r7 = WF) (hne : g2 ≠ g) (h : Held w g2 t cs) : Held WF g2 t cs := by
 subst hw
 exact (heap_set9 hne _ _ _ _ _ _ _ _ _).trans h
theorem own9 (hw : wr9 w g u r0 r1 r2 r3 r4 r5 r6 r7 = WF) {base size n : Nat} {v : Value} {xs : List Value} (hne : v.ownBlock ≠ some g) (h : w.ownsRow base t size v n xs) : WF.ownsRow base t size v n xs := by
 subst hw
 exact own_set9 h (fun j hj e => hne (by rw [hj, e])) _ _ _ _ _ _ _ _ _
theorem duo9 (hw : wr9 w g u r0 r1 r2 r3 r4 r5 r6 r7 = WF) (ha : ¬ A g) (hb : ¬ B g) (hW : W.heap.size <= g) (h : Duo W O1 O2 A B G s1 s2 w) : Duo W O1 O2 A B G s1 s2 WF := by
 subst hw
 exact h.set9 ha hb hW _ _ _ _ _ _ _ _ _
end
theorem blocks_few15 {H : AuH} {n c : Nat} (HV : HeapV H n c) : (blocksOf H.parts).length <= 60000 := by
 have h1 := blocksOf_len H.parts
 have h2 : H.parts.length <= H.p * 33 := AuH.parts_len H.p
 have := HV.nums.2.2.2.1
 omega
theorem state_now {H : AuH} {n c : Nat} {K : Nat -> Option Nat} (HV : HeapV H n c) {st : Vst} (hok : VOk n st) (h32 : ∀ i x, K i = some x -> x < 2 ^ 32) (hvw : VW n K st) (hr : ∀ i, i < 10 -> (nowH H n K st).rule i) (ho : ∀ i, i < 8 -> (nowH H n K st).V (22 + i) = H.V (22 + i))
  (L : List (Int × Int)) (hL : blocksOf (nowH H n K st).parts = L) (r0 r1 r2 r3 r4 r5 r6 r7 : Nat) (h0 : H.V 22 = r0) (h1 : H.V 23 = r1) (h2 : H.V 24 = r2) (h3 : H.V 25 = r3) (h4 : H.V 26 = r4) (h5 : H.V 27 = r5) (h6 : H.V 28 = r6) (h7 : H.V 29 = r7) (w : World) (g cp : Nat) (hrow : RowF w g 53 n cp (valF (nowV K st.wr))) :
  Calls Tryz.prog 19 #[.agg #[.int .i64 (H.t : Int), .int .i64 (H.p : Int), .int .i64 (H.s : Int)], .slice (some ⟨g, 0, none⟩) n cp] w fun e w' => ∃ u, e = .returned (.tuple #[.agg #[u, .int .i64 (r0 : Int), .int .i64 (r1 : Int), .int .i64 (r2 : Int), .int .i64 (r3 : Int), .int .i64 (r4 : Int), .int .i64 (r5 : Int), .int .i64 (r6 : Int), .int .i64 (r7 : Int)], .bool true]) /\ w'.ownsRow w.heap.size 94 2 u L.length (bkVs L) /\ Below w.heap.size w w' := by
 have HV' := nowH_heap HV hok h32 (cp := cp) hrow.le hrow.max
 have hv' : IsVals w ⟨g, 0, none⟩ n (nowH H n K st).V := ⟨hrow.lt, fun i hi => by
  have e : (⟨g, 0, none⟩ : Addr).add i = ⟨g, i, none⟩ := by
   unfold Addr.add
   by_cases hz : i = 0
   ·rw [if_pos hz, hz]
   ·rw [if_neg hz]; simp
  have e2 : nowV K st.wr i = (nowH H n K st).V i := by
   show _ = curV n (getV n K st) H.V i
   rw [curV_in hi, hvw.at_ hi]
   rfl
  rw [e, hrow.cell hi]
  unfold valF
  rw [e2]⟩
 have hC := xCheckIs_yes HV' ⟨g, 0, none⟩ w hv' (m := 0) (b := true) (.inl ⟨rfl, rfl, hr⟩)
 have := xState_yes HV' ⟨g, 0, none⟩ 0 w hv' hC
 rw [hL, show (nowH H n K st).V 22 = r0 from (ho 0 (by omega)).trans h0, show (nowH H n K st).V 23 = r1 from (ho 1 (by omega)).trans h1, show (nowH H n K st).V 24 = r2 from (ho 2 (by omega)).trans h2, show (nowH H n K st).V 25 = r3 from (ho 3 (by omega)).trans h3, show (nowH H n K st).V 26 = r4 from (ho 4 (by omega)).trans h4, show (nowH H n K st).V 27 = r5 from (ho 5 (by omega)).trans h5, show (nowH H n K st).V 28 = r6 from (ho 6 (by omega)).trans h6, show (nowH H n K st).V 29 = r7 from (ho 7 (by omega)).trans h7] at this
 exact this
end
end Go.Proofs.YtnmhdlpnimdffaaGreatDoor

namespace Go.Proofs.YtnmhdlpnimdffaaGreatDoor
open Go.ChangeShapes Go.WideShapes Go.ChangeAt Go.RowKit
set_option linter.unusedVariables false
set_option linter.unusedSimpArgs false
set_option maxRecDepth 100000
section
structure Sl where
 a : Option Addr
 n : Nat
 c : Nat
instance : Inhabited Sl := ⟨⟨none, 0, 0⟩⟩
abbrev Sl.v (x : Sl) : Value := .slice x.a x.n x.c
def LongsAt (w : World) (u : Value) (l : List Int) : Prop :=
 ∃ A c, u = .slice A l.length c /\ l.length <= c /\ c <= maxLen /\ (∀ z ∈ l, -9223372036854775808 <= z /\ z <= 9223372036854775807) /\ (A = none -> l = [] /\ c = 0) /\
  ∀ ad, A = some ad -> (l ≠ [] -> ad.block < w.heap.size) /\ ∀ i z, l[i]? = some z -> w.cell? (ad.add i) = some (.int .i64 z)
theorem LongsAt.below {w w' : World} {u : Value} {l : List Int} (h : LongsAt w u l) (hb : Below w.heap.size w w') : LongsAt w' u l := by
 obtain ⟨A, c, h1, h2, h3, h4, h5, h6⟩ := h
 refine ⟨A, c, h1, h2, h3, h4, h5, fun ad e => ⟨fun hl => Nat.lt_of_lt_of_le ((h6 ad e).1 hl) hb.size, fun i z hz => ?_⟩⟩
 have hl : l ≠ [] := fun e => by rw [e] at hz; simp at hz
 exact (hb.cell (p := ad.add i) (by rw [block_of_add]; exact (h6 ad e).1 hl)).trans ((h6 ad e).2 i z hz)
def PksAt (w : World) (A : Option Addr) (T : Nat) (U : Nat -> Nat -> Sl) (Z : Nat -> Nat -> List Int) : Prop :=
 ∀ t, t < T -> ∃ ad, A = some ad /\ ad.block < w.heap.size /\ ∀ k, k < 9 -> w.cell? (ad.add (t * 9 + k)) = some (U t k).v /\ LongsAt w (U t k).v (Z t k)
theorem PksAt.below {w w' : World} {A : Option Addr} {T : Nat} {U : Nat -> Nat -> Sl} {Z : Nat -> Nat -> List Int} (h : PksAt w A T U Z) (hb : Below w.heap.size w w') : PksAt w' A T U Z := fun t ht => by
 obtain ⟨ad, e, h1, h2⟩ := h t ht
 exact ⟨ad, e, Nat.lt_of_lt_of_le h1 hb.size, fun k hk => ⟨(hb.cell (p := ad.add (t * 9 + k)) (by rw [block_of_add]; exact h1)).trans (h2 k hk).1, (h2 k hk).2.below hb⟩⟩
section
variable {H : Type} {enc : TypeId × Value -> H} {w : World} {base : Nat} {sp : Nat -> Bool} {held : Bool}
end
end
end Go.Proofs.YtnmhdlpnimdffaaGreatDoor

namespace Go.Proofs.YtnmhdlpnimdffaaGreatDoor
open Go.ChangeShapes Go.WideShapes Go.ChangeAt Go.RowKit
set_option linter.unusedVariables false
section
theorem run_append_none {P : Program} {w : World} (t ty e : TypeId) (i : TypeInfo) (ht : P.underlying t = some (.slice e)) (hi : P.info? e = some i) (A : Option Addr) (n cap c : Nat) (hn : n <= cap) :
  (Builtin.append_ #[t, t] ty #[.slice A n cap, .slice none 0 c]).run P w = .ok (.slice A n cap) w := by
 cases A <;> simp [Builtin.append_, run_underlying ht, sizeOf, typeInfo, hi, Builtin.firstCells, hn, Builtin.lenOf, storeCells]

theorem wpList_append_none {P : Program} {w : World} {ops : Array Oper} {rest : List Oper} {o : Oper} {a : Act} {Q : Exit -> Act -> World -> Prop} (hgd : o.guard = none) (s x : Operand) (t : TypeId)
  (ho : o.op = .call { callee := .builtin .append, args := #[s, x], argTypes := #[t, t] })
  (e : TypeId) (i : TypeInfo) (ht : P.underlying t = some (.slice e)) (hi : P.info? e = some i) (A : Option Addr) (n cap c : Nat) (hn : n <= cap)
  (hs : a.eval s = .slice A n cap) (hx : a.eval x = .slice none 0 c)
  (h : wpList P ops Q rest (a.put o.dst (.slice A n cap)) w) : wpList P ops Q (o :: rest) a w := by
 refine wpList_plain hgd fun K' hK' => ?_
 unfold Oper.wp
 simp [execOp, ho, resolve, invoke, builtin, hs, hx, run_append_none t o.type e i ht hi A n cap c hn, Result.andThen]
 exact hK' _ _ h
end
end Go.Proofs.YtnmhdlpnimdffaaGreatDoor
