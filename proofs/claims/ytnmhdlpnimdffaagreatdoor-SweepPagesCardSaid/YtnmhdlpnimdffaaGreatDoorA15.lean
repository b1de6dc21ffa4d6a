/-
  The page's example (nacrelaw24.live). Written by sweep/gen_live.py.
-/
import Derived.Test.YtnmhdlpnimdffaaGreatDoorA10
import Derived.Test.YtnmhdlpnimdffaaGreatDoorA11
import Derived.Test.YtnmhdlpnimdffaaGreatDoorA14
import Derived.Test.YtnmhdlpnimdffaaGreatDoorASpanRelease
namespace Go.Proofs.YtnmhdlpnimdffaaGreatDoor
open Go.ChangeShapes Go.WideShapes Go.ChangeAt Go.RowKit Go.Maps
set_option linter.unusedVariables false
set_option linter.unusedSimpArgs false
set_option maxRecDepth 100000
section
section
variable {W w : World} {O1 O2 : Ob} {A B G : Nat -> Prop} {s1 s2 : Vst}
theorem Duo.slots24 (h : Duo W O1 O2 A B G s1 s2 w) (hT : SlotsLaid W) : SlotsLaid w /\ ¬ A 0 /\ ¬ B 0 := by
 have hl : (0 : Nat) < W.heap.size := cell_lt16 (hT 0 (by omega))
 exact ⟨hT.below h.bel, fun x => by have := h.lo _ (.inl x); omega, fun x => by have := h.lo _ (.inr x); omega⟩
end
set_option maxHeartbeats 1600000 in
theorem Eight24_c (w : World) : Calls Tryz.prog 24 #[] w fun e w' => ∃ g, e = .returned (.tuple #[.agg #[.int .i64 1, .int .i64 8, .int .i64 10], .slice (some ⟨g, 0, none⟩) 82 82]) /\ Held w' g 53 ex14C /\ Below w.heap.size w w' /\ w.heap.size <= g := by
 have hmk := make82
 have HC := (Held.new w 23 #[.int .i64 0, .int .i64 0, .int .i64 0]).alloc (.cells (Array.replicate 82 (.int .u32 0)) 53)
 have HG := Held.new2 w (.cells #[.int .i64 0, .int .i64 0, .int .i64 0] 23) 53 (Array.replicate 82 (.int .u32 0))
 have g0 : _ = some (Value.int .u32 0) := (HG.cell 0).trans (by simp)
 have g1 : _ = some (Value.int .u32 0) := (HG.cell 5).trans (by simp)
 have g2 : _ = some (Value.int .u32 0) := (HG.cell 34).trans (by simp)
 have g3 : _ = some (Value.int .u32 0) := (HG.cell 77).trans (by simp)
 have f0 := HG.thawed
 obtain ⟨c0, c1, c2⟩ := HC.three
 have f1 := HC.thawed
 clear HC HG
 go_enter Tryz.func24, Tryz.ntmps24
 go_wp2
 refine bodyPost_ret (v := .tuple #[.agg #[.int .i64 1, .int .i64 8, .int .i64 10], .slice (some ⟨w.heap.size + 1, 0, none⟩) 82 82]) (by simp [results, Tryz.results24, go_sem]) rfl ⟨w.heap.size + 1, rfl, ?_, ?_, by omega⟩
 ·unfold ex14C
  exact Held.new2 w (.cells #[.int .i64 1, .int .i64 8, .int .i64 10] 23) 53 _
 ·exact Bnew (Bnew (B0 w) _) _

def ex24L : List Nat := ((((((((((ex14L.set 0 7).set 5 0).set 12 0).set 21 1).set 34 524307).set 35 1).set 39 1).set 40 113).set 77 2).set 4 2)
def ex24C : Array Value := ((((((((((ex14C.setIfInBounds 0 (.int .u32 7)).setIfInBounds 5 (.int .u32 0)).setIfInBounds 12 (.int .u32 0)).setIfInBounds 21 (.int .u32 1)).setIfInBounds 34 (.int .u32 524307)).setIfInBounds 35 (.int .u32 1)).setIfInBounds 39 (.int .u32 1)).setIfInBounds 40 (.int .u32 113)).setIfInBounds 77 (.int .u32 2)).setIfInBounds 4 (.int .u32 2))
theorem ex24_eq : ex24C.toList = valVs ex24L := by
 unfold ex24C ex24L
 simp only [Array.toList_setIfInBounds, ex14_eq]
 unfold valVs
 simp only [List.map_set]
 rfl
theorem ex24_n : ex24L.length = 82 := by decide
theorem ex24_32 : ∀ x ∈ ex24L, x < 2 ^ 32 := by decide
def ex24K : Nat -> Option Nat := fun i => ex24L[i]?
theorem ex24_cells {w : World} {g : Nat} {t : TypeId} (h : Held w g t ex24C) : ∀ j u, (valVs ex24L)[j]? = some u -> w.cell? ((⟨g, 0, none⟩ : Addr).add j) = some u := by
 intro j u hu
 have e : (⟨g, 0, none⟩ : Addr).add j = ⟨g, j, none⟩ := by
  unfold Addr.add
  by_cases hz : j = 0
  ·rw [if_pos hz, hz]
  ·rw [if_neg hz]; simp
 rw [e, h.cell j, <- hu, <- ex24_eq]
 simp
def ex24A : Vst := (sweepTo 82 ex24K 1 8 10 8 freshS).2
theorem ex24_all : sweepTo 82 ex24K 1 8 10 8 freshS = (1, ex24A) := by
 have h : (sweepTo 82 ex24K 1 8 10 8 freshS).1 = 1 := by decide +kernel
 unfold ex24A
 rw [<- h]
def ex24V (i : Nat) : Nat := if i = 0 then 8 else if i = 5 then 1 else if i = 34 then 129 else if i = 77 then 1 else 0
theorem ex24_fr : ∀ i, frV 1 8 i = ex24V i := fun i => by
 have e : frB 8 = 5 := by
  unfold frB
  rw [HM.logI_at ((8 : Nat) : Int) 3 (by decide) (by decide)]
  rfl
 unfold frV ex24V
 rw [e]
theorem ex24_now : ∀ i, i < 82 -> nowV ex24K ex24A.wr i = ex24V i := by decide +kernel
theorem ex24_g0 : getV 82 ex24K ex24A 0 = 8 := by decide +kernel
theorem ex24_g21 : getV 82 ex24K (getS 82 ex24K ex24A 0) 21 = 0 := by decide +kernel
theorem ex24_wr : ex24A.wr.length < 2 ^ 40 := by
 have h : ex24A.wr.length < 1000 := by decide +kernel
 omega
theorem ex24_heap {cp : Nat} (h1 : 82 <= cp) (h2 : cp <= maxLen) : HeapV (frH 1 8 10) 82 cp := ⟨by decide, rfl, h1, h2, fun i _ => frV_lt (t := 1) (p := 8) (by omega) (by omega) i⟩

set_option maxHeartbeats 6400000 in
theorem live24_c (w : World) (hT : SlotsLaid w) : Calls Tryz.prog 8 #[] w fun e w' => e = .returned (.bool true) /\ Below w.heap.size w w' := by
 have HTL := hidp hT
 have HALL := hidp ex24_all
 have HG0E := hidp ex24_g0
 have HG1E := hidp ex24_g21
 have HPG : Hid (∀ st : Vst, sweepP 82 ex24K 1 8 10 (-1) st = (false, st)) := hidp (fun st => by unfold sweepP pgB; rfl)
 have hXC : Hid (∀ (W : World) (g cp : Nat), RowF W g 53 82 cp (valF (nowV ex24K ex24A.wr)) -> Calls Tryz.prog 23 #[.agg #[.int .i64 1, .int .i64 8, .int .i64 10], .slice (some ⟨g, 0, none⟩) 82 cp] W fun e w' => e = .returned (.tuple #[.int .i64 0, .bool true]) /\ Below W.heap.size W w') := hidp (fun W g cp hrow => by
  have hv : IsVals W ⟨g, 0, none⟩ 82 (frH 1 8 10).V := ⟨hrow.lt, fun i hi => by
   have e : (⟨g, 0, none⟩ : Addr).add i = ⟨g, i, none⟩ := by
    unfold Addr.add
    by_cases hz : i = 0
    ·rw [if_pos hz, hz]
    ·rw [if_neg hz]; simp
   rw [e, hrow.cell hi]
   unfold valF
   rw [ex24_now i hi, <- ex24_fr i]
   rfl⟩
  exact xCheckIs_yes (ex24_heap hrow.le hrow.max) _ W hv (m := 0) (b := true) (.inl ⟨rfl, rfl, fr_rules (by omega) (by omega)⟩) W (by first | exact B0 _ | exact GrownBy.refl _ | constructor))
 go_enter Tryz.func8, Tryz.ntmps8
 go_wp2_with fail
 refine (Eight24_c _).mono ?_
 rintro e w1 ⟨NG, rfl, hg, hb, hlo⟩
 have hne : w1.heap.size ≠ NG := by have := hg.lt; omega
 have HG0 := hg.alloc (.cells #[.int .i64 1, .int .i64 8, .int .i64 10] 23)
 have g0 : _ = some (Value.int .u32 8) := (HG0.cell 0).trans (by rfl)
 have f0 := HG0.thawed 0
 have g5 : _ = some (Value.int .u32 1) := (HG0.cell 5).trans (by rfl)
 have f5 := HG0.thawed 5
 have g12 : _ = some (Value.int .u32 0) := (HG0.cell 12).trans (by rfl)
 have f12 := HG0.thawed 12
 have g21 : _ = some (Value.int .u32 0) := (HG0.cell 21).trans (by rfl)
 have f21 := HG0.thawed 21
 have g34 : _ = some (Value.int .u32 129) := (HG0.cell 34).trans (by rfl)
 have f34 := HG0.thawed 34
 have g35 : _ = some (Value.int .u32 0) := (HG0.cell 35).trans (by rfl)
 have f35 := HG0.thawed 35
 have g39 : _ = some (Value.int .u32 0) := (HG0.cell 39).trans (by rfl)
 have f39 := HG0.thawed 39
 have g40 : _ = some (Value.int .u32 0) := (HG0.cell 40).trans (by rfl)
 have f40 := HG0.thawed 40
 have g77 : _ = some (Value.int .u32 1) := (HG0.cell 77).trans (by rfl)
 have f77 := HG0.thawed 77
 have g4 : _ = some (Value.int .u32 0) := (HG0.cell 4).trans (by rfl)
 have f4 := HG0.thawed 4
 have HC : Hid (Held (((((((((((w1.alloc (.cells #[.int .i64 1, .int .i64 8, .int .i64 10] 23)).setCell ⟨NG, 0, none⟩ (.int .u32 7)).setCell ⟨NG, 5, none⟩ (.int .u32 0)).setCell ⟨NG, 12, none⟩ (.int .u32 0)).setCell ⟨NG, 21, none⟩ (.int .u32 1)).setCell ⟨NG, 34, none⟩ (.int .u32 524307)).setCell ⟨NG, 35, none⟩ (.int .u32 1)).setCell ⟨NG, 39, none⟩ (.int .u32 1)).setCell ⟨NG, 40, none⟩ (.int .u32 113)).setCell ⟨NG, 77, none⟩ (.int .u32 2)).setCell ⟨NG, 4, none⟩ (.int .u32 2)) w1.heap.size 23 #[.int .i64 1, .int .i64 8, .int .i64 10]) := hidp (((((((((((Held.new w1 23 #[.int .i64 1, .int .i64 8, .int .i64 10]).far (p := ⟨NG, 0, none⟩) hne (.int .u32 7)).far (p := ⟨NG, 5, none⟩) hne (.int .u32 0)).far (p := ⟨NG, 12, none⟩) hne (.int .u32 0)).far (p := ⟨NG, 21, none⟩) hne (.int .u32 1)).far (p := ⟨NG, 34, none⟩) hne (.int .u32 524307)).far (p := ⟨NG, 35, none⟩) hne (.int .u32 1)).far (p := ⟨NG, 39, none⟩) hne (.int .u32 1)).far (p := ⟨NG, 40, none⟩) hne (.int .u32 113)).far (p := ⟨NG, 77, none⟩) hne (.int .u32 2)).far (p := ⟨NG, 4, none⟩) hne (.int .u32 2))
 have HG : Hid (Held (((((((((((w1.alloc (.cells #[.int .i64 1, .int .i64 8, .int .i64 10] 23)).setCell ⟨NG, 0, none⟩ (.int .u32 7)).setCell ⟨NG, 5, none⟩ (.int .u32 0)).setCell ⟨NG, 12, none⟩ (.int .u32 0)).setCell ⟨NG, 21, none⟩ (.int .u32 1)).setCell ⟨NG, 34, none⟩ (.int .u32 524307)).setCell ⟨NG, 35, none⟩ (.int .u32 1)).setCell ⟨NG, 39, none⟩ (.int .u32 1)).setCell ⟨NG, 40, none⟩ (.int .u32 113)).setCell ⟨NG, 77, none⟩ (.int .u32 2)).setCell ⟨NG, 4, none⟩ (.int .u32 2)) NG 53 ex24C) := hidp ((((((((((HG0.put 0 (.int .u32 7)).put 5 (.int .u32 0)).put 12 (.int .u32 0)).put 21 (.int .u32 1)).put 34 (.int .u32 524307)).put 35 (.int .u32 1)).put 39 (.int .u32 1)).put 40 (.int .u32 113)).put 77 (.int .u32 2)).put 4 (.int .u32 2))
 have HB : Hid (Below w.heap.size w (((((((((((w1.alloc (.cells #[.int .i64 1, .int .i64 8, .int .i64 10] 23)).setCell ⟨NG, 0, none⟩ (.int .u32 7)).setCell ⟨NG, 5, none⟩ (.int .u32 0)).setCell ⟨NG, 12, none⟩ (.int .u32 0)).setCell ⟨NG, 21, none⟩ (.int .u32 1)).setCell ⟨NG, 34, none⟩ (.int .u32 524307)).setCell ⟨NG, 35, none⟩ (.int .u32 1)).setCell ⟨NG, 39, none⟩ (.int .u32 1)).setCell ⟨NG, 40, none⟩ (.int .u32 113)).setCell ⟨NG, 77, none⟩ (.int .u32 2)).setCell ⟨NG, 4, none⟩ (.int .u32 2))) := hidp (((((((((((Bnew hb (.cells #[.int .i64 1, .int .i64 8, .int .i64 10] 23)).setCell (p := ⟨NG, 0, none⟩) hlo (.int .u32 7)).setCell (p := ⟨NG, 5, none⟩) hlo (.int .u32 0)).setCell (p := ⟨NG, 12, none⟩) hlo (.int .u32 0)).setCell (p := ⟨NG, 21, none⟩) hlo (.int .u32 1)).setCell (p := ⟨NG, 34, none⟩) hlo (.int .u32 524307)).setCell (p := ⟨NG, 35, none⟩) hlo (.int .u32 1)).setCell (p := ⟨NG, 39, none⟩) hlo (.int .u32 1)).setCell (p := ⟨NG, 40, none⟩) hlo (.int .u32 113)).setCell (p := ⟨NG, 77, none⟩) hlo (.int .u32 2)).setCell (p := ⟨NG, 4, none⟩) hlo (.int .u32 2))
 clear HG0 hg hb hlo hne
 go_wp2_with fail
 clear g0 f0 g5 f5 g12 f12 g21 f21 g34 f34 g35 f35 g39 f39 g40 f40 g77 f77 g4 f4
 generalize hNC : w1.heap.size = NC at *
 generalize hW1 : (((((((((((w1.alloc (.cells #[.int .i64 1, .int .i64 8, .int .i64 10] 23)).setCell ⟨NG, 0, none⟩ (.int .u32 7)).setCell ⟨NG, 5, none⟩ (.int .u32 0)).setCell ⟨NG, 12, none⟩ (.int .u32 0)).setCell ⟨NG, 21, none⟩ (.int .u32 1)).setCell ⟨NG, 34, none⟩ (.int .u32 524307)).setCell ⟨NG, 35, none⟩ (.int .u32 1)).setCell ⟨NG, 39, none⟩ (.int .u32 1)).setCell ⟨NG, 40, none⟩ (.int .u32 113)).setCell ⟨NG, 77, none⟩ (.int .u32 2)).setCell ⟨NG, 4, none⟩ (.int .u32 2)) = ws at *
 clear hNC hW1
 obtain ⟨x0, x1, x2⟩ := HC.out.three
 refine (Whole_c (some ⟨NG, 0, none⟩) 82 ex24L 82 ex24_n (by omega) ex24_32 _ (fun _ => ⟨_, rfl, ex24_cells HG.out⟩)).mono ?_
 rintro e w3 ⟨b, o, rfl, hI, hB⟩
 have HD := hidp (duo_made (W := w) (G := fun i => i = NC) hI HB.out.size (Bgo HB.out hB) (fun i hi => by
  have h1 := HC.out.lt
  have h3 := hB.size
  rcases hi with rfl
  exact ⟨by omega, fun x => by have := hI.ge _ x; omega⟩))
 replace HC := hidp (HC.out.keep hB)
 clear hI hB HB HG
 rw [show (fun i => ex24L[i]?) = ex24K from rfl] at HD
 clear x0 x1 x2
 obtain ⟨x0, x1, x2⟩ := HC.out.three
 go_wp2_with fail
 refine (swAll_c (t := 1) (q := 8) (s := 10) (by omega) 8 (by omega) rfl (HD.out.slots24 HTL.out).1 (HD.out.slots24 HTL.out).2.1 HD.out.at1).mono ?_
 rintro e w2 ⟨rfl, h1, _⟩
 obtain ⟨A4, h2, h3⟩ := HD.out.left1 h1.left
 rw [HALL.out] at h2 ⊢
 dsimp only at h2 ⊢
 replace HC := hidp (h3.held rfl HC.out)
 replace HD : Hid (Duo w (vOb _ b 82 true ex24K) noOb A4 (fun _ => False) (fun i => i = NC) ex24A freshS w2) := hidp h2
 clear h1 h2 h3
 clear x0 x1 x2
 obtain ⟨x0, x1, x2⟩ := HC.out.three
 obtain ⟨o1, hI, _⟩ := HD.out.i1
 have HI := hidp hI
 clear hI
 go_wp2_with fail
 replace HI := hidp (HI.out.keep (Bdrew (B0 _)))
 replace HC := hidp (HC.out.keep (Bdrew (B0 _)))
 replace HD := hidp (HD.out.keep (Bdrew (B0 _)))
 refine wp_region_held_drew (S := (fun w' => w'.cell? ⟨NC, 0, none⟩ = some (.int .i64 1) /\ w'.cell? ⟨NC, 1, none⟩ = some (.int .i64 8) /\ w'.cell? ⟨NC, 2, none⟩ = some (.int .i64 10))) (by kernel_rfl) ?_ (fun hHeld => ?_)
 ·(try dsimp only)
  first | exact HC.out.three | exact hHeld
 refine tkz 0 ?_
 refine tkz 1 ?_
 refine rdz 2 fun K hK => ?_
 go_simp
 refine (vVals_some (by omega) ex24_wr _ HI.out).mono ?_
 rintro e w61 ⟨g, cp, rfl, _, hrow, hb⟩
 have HRF := hidp hrow
 replace HC := hidp (HC.out.keep hb)
 replace HD := hidp (HD.out.keep hb)
 clear hrow hb HI
 refine hK.out _ _ ?_ (fun hHeld => ?_)
 ·(try dsimp only)
  first | exact HC.out.three | exact hHeld
 clear hK K
 (try simp only [Act.put, gA, gB, gC, sA, sB, sC])
 refine rdz 3 fun K hK => ?_
 go_simp
 refine (hXC.out _ _ _ HRF.out).mono ?_
 rintro e w62 ⟨rfl, hb⟩
 replace HC := hidp (HC.out.keep hb)
 replace HD := hidp (HD.out.keep hb)
 clear hb HRF
 refine hK.out _ _ ?_ (fun hHeld => ?_)
 ·(try dsimp only)
  first | exact HC.out.three | exact hHeld
 clear hK K
 (try simp only [Act.put, gA, gB, gC, sA, sB, sC])
 refine tkz 4 ?_
 refine tkz 5 ?_
 refine tkz 6 ?_
 refine tkz 7 ?_
 refine tkz 8 ?_
 refine dnz ?_
 clear x0 x1 x2
 obtain ⟨x0, x1, x2⟩ := HC.out.three
 go_wp2_with fail
 refine (vGetA (by omega) 0 HD.out.at1).mono ?_
 rintro e w2 ⟨rfl, h1, _⟩
 obtain ⟨A4, h2, h3⟩ := HD.out.left1 h1.left
 rw [HG0E.out]
 replace HC := hidp (h3.held rfl HC.out)
 replace HD : Hid (Duo w (vOb _ b 82 true ex24K) noOb A4 (fun _ => False) (fun i => i = NC) (getS 82 ex24K ex24A 0) freshS w2) := hidp h2
 clear h1 h2 h3
 clear x0 x1 x2
 obtain ⟨x0, x1, x2⟩ := HC.out.three
 go_wp2_with fail
 refine (vGetA (by omega) 21 HD.out.at1).mono ?_
 rintro e w2 ⟨rfl, h1, _⟩
 obtain ⟨A4, h2, h3⟩ := HD.out.left1 h1.left
 rw [HG1E.out]
 replace HC := hidp (h3.held rfl HC.out)
 replace HD : Hid (Duo w (vOb _ b 82 true ex24K) noOb A4 (fun _ => False) (fun i => i = NC) _ freshS w2) := hidp h2
 clear h1 h2 h3
 clear x0 x1 x2
 obtain ⟨x0, x1, x2⟩ := HC.out.three
 go_wp2_with fail
 refine (swPage_c (t := 1) (q := 8) (s := 10) (by omega) (by omega) (-1) (by omega) (HD.out.slots24 HTL.out).1 (HD.out.slots24 HTL.out).2.1 HD.out.at1).mono ?_
 rintro e w2 ⟨rfl, h1, _⟩
 obtain ⟨A4, h2, h3⟩ := HD.out.left1 h1.left
 rw [HPG.out] at h2 ⊢
 dsimp only at h2 ⊢
 replace HC := hidp (h3.held rfl HC.out)
 replace HD : Hid (Duo w (vOb _ b 82 true ex24K) noOb A4 (fun _ => False) (fun i => i = NC) _ freshS w2) := hidp h2
 clear h1 h2 h3
 clear x0 x1 x2
 obtain ⟨x0, x1, x2⟩ := HC.out.three
 have HBE := hidp HD.out.bel
 go_wp2
 go_ret
 exact ⟨rfl, HBE.out⟩
end
section
section
variable {base b n : Nat} {wh all : Bool} {K : Nat -> Option Nat} {st : Vst} {w w0 : World} {A G : Nat -> Prop} {t q s : Int}

theorem wrap32_small {x : Int} (h0 : 0 <= x) (h1 : x < 4294967296) : IntKind.u32.wrap x = x := by
 show x % 4294967296 = x
 exact Int.emod_eq_of_lt h0 h1

set_option maxHeartbeats 6400000 in
theorem r15Release_0_off (hn : n < 2 ^ 40) (hq : q <= 1024) (p m : Nat) (hp : p <= 1024) (hm : m <= 1024) (hp0 : p = 0) (hr : ¬ ((p : Int) + (m : Int)) < q) (h : (rOb base b n all K).At w0 A G st w) :
  Calls Tryz.prog 47 #[.pointer (some ⟨b, 0, none⟩), .agg #[.int .i64 t, .int .i64 q, .int .i64 s], .int .i64 (p : Int), .int .i64 (m : Int)] w fun e w' => e = .returned (.tuple #[]) /\ (rOb base b n all K).At w0 A G (putS n (getS n K (addS n K t q s (p : Int) (m : Int) st) 0) 0 (add32 (getV n K (addS n K t q s (p : Int) (m : Int) st) 0) (m : Int))) w' /\ Stay G w w' := by
 have W0 := hidp ((WL.start h).new 23 #[.int .i64 t, .int .i64 q, .int .i64 s])
 have t0 : decide ((0 : Int) < (p : Int)) = false := decide_eq_false (by omega)
 have t0n : decide (0 < p) = false := decide_eq_false (by omega)
 have v4 : IntKind.i64.wrap ((p : Int) + (m : Int)) = ((p : Int) + (m : Int)) := i64_same (by omega) (by omega)
 have t1 : decide (((p : Int) + (m : Int)) < q) = false := decide_eq_false hr
 obtain ⟨x, hx⟩ : ∃ x, getV n K (addS n K t q s (p : Int) (m : Int) st) 0 = x := ⟨_, rfl⟩
 rw [hx]
 obtain ⟨y, hy⟩ : ∃ y, add32 x (m : Int) = y := ⟨_, rfl⟩
 rw [hy]
 have HY : Hid (y < 2 ^ 32) := hidp (by rw [<- hy]; exact add32_lt x _)
 have sm : IntKind.u32.wrap (m : Int) = (m : Int) := wrap32_small (by omega) (by omega)
 have sa : IntKind.u32.wrap ((x : Int) + (m : Int)) = (y : Int) := by have := wrap_add32 x (m : Int); rw [sm, hy] at this; exact this
 have HX := hidp hx
 clear hx hy
 clear h hp0
 go_enter Tryz.func47, Tryz.ntmps47
 obtain ⟨x0, x1, x2⟩ := W0.out.h0.three
 go_wp2_with fail
 refine (r14Add_c hn (by omega) (p : Int) (m : Int) W0.out.at_).mono ?_; rintro e w1 ⟨rfl, h1, h2⟩; have W1 := hidp (W0.out.call h1 h2); clear h1 h2 W0
 obtain ⟨x0, x1, x2⟩ := W1.out.h0.three
 go_wp2_with fail
 refine (rGetA hn _ W1.out.at_).mono ?_; rintro e w2 ⟨rfl, h1, h2⟩; have W2 := hidp (W1.out.call h1 h2); clear h1 h2 W1; rw [HX.out]
 obtain ⟨x0, x1, x2⟩ := W2.out.h0.three
 go_wp2_with fail
 refine (rPutA hn _ y HY.out W2.out.at_).mono ?_; rintro e w3 ⟨rfl, h1, h2⟩; have W3 := hidp (W2.out.call h1 h2); clear h1 h2 W2
 obtain ⟨x0, x1, x2⟩ := W3.out.h0.three
 go_wp2
 go_end0
 exact ⟨rfl, W3.out.fin⟩

set_option maxHeartbeats 6400000 in
theorem r15Release_0_no (hn : n < 2 ^ 40) (hq : q <= 1024) (p m : Nat) (hp : p <= 1024) (hm : m <= 1024) (hp0 : p = 0) (hr : ((p : Int) + (m : Int)) < q) (k2 l2 c2 : Int) (o2 : Bool) (hi2 : infoOf n K t q s ((p : Int) + (m : Int)) st = (k2, l2, c2, o2)) (hk2 : k2 ≠ 1) (s2 : Vst) (hs2 : (getS n K st (pageI t q s ((p : Int) + (m : Int)) 0)) = s2) (h : (rOb base b n all K).At w0 A G st w) :
  Calls Tryz.prog 47 #[.pointer (some ⟨b, 0, none⟩), .agg #[.int .i64 t, .int .i64 q, .int .i64 s], .int .i64 (p : Int), .int .i64 (m : Int)] w fun e w' => e = .returned (.tuple #[]) /\ (rOb base b n all K).At w0 A G (putS n (getS n K (addS n K t q s (p : Int) (m : Int) s2) 0) 0 (add32 (getV n K (addS n K t q s (p : Int) (m : Int) s2) 0) (m : Int))) w' /\ Stay G w w' := by
 have W0 := hidp ((WL.start h).new 23 #[.int .i64 t, .int .i64 q, .int .i64 s])
 have t0 : decide ((0 : Int) < (p : Int)) = false := decide_eq_false (by omega)
 have t0n : decide (0 < p) = false := decide_eq_false (by omega)
 have v4 : IntKind.i64.wrap ((p : Int) + (m : Int)) = ((p : Int) + (m : Int)) := i64_same (by omega) (by omega)
 have t1 : decide (((p : Int) + (m : Int)) < q) = true := decide_eq_true hr
 have HI2 := hidp hi2
 have v5 : IntKind.i64.wrap (((p : Int) + (m : Int)) - 1) = ((p : Int) + (m : Int)) - 1 := i64_same (by omega) (by omega)
 have u2 : (k2 == 1) = false := by simpa using hk2
 have HS2 := hidp hs2
 obtain ⟨x, hx⟩ : ∃ x, getV n K (addS n K t q s (p : Int) (m : Int) s2) 0 = x := ⟨_, rfl⟩
 rw [hx]
 obtain ⟨y, hy⟩ : ∃ y, add32 x (m : Int) = y := ⟨_, rfl⟩
 rw [hy]
 have HY : Hid (y < 2 ^ 32) := hidp (by rw [<- hy]; exact add32_lt x _)
 have sm : IntKind.u32.wrap (m : Int) = (m : Int) := wrap32_small (by omega) (by omega)
 have sa : IntKind.u32.wrap ((x : Int) + (m : Int)) = (y : Int) := by have := wrap_add32 x (m : Int); rw [sm, hy] at this; exact this
 have HX := hidp hx
 clear hx hy
 clear h hp0 hi2 hs2
 go_enter Tryz.func47, Tryz.ntmps47
 obtain ⟨x0, x1, x2⟩ := W0.out.h0.three
 go_wp2_with fail
 refine (r14Info_c hn ((p : Int) + (m : Int)) k2 l2 c2 o2 HI2.out W0.out.at_).mono ?_; rintro e w1 ⟨rfl, h1, h2⟩; have W1 := hidp (W0.out.call h1 h2); clear h1 h2 W0; rw [HS2.out] at W1
 generalize hNJ : w1.heap.size = NJ at *
 replace W1 := hidp (W1.out.new 68 #[.int .i64 k2, .int .i64 l2, .int .i64 c2])
 rw [hNJ] at W1
 obtain ⟨j0, j1, j2⟩ := W1.out.h0.three
 obtain ⟨x0, x1, x2⟩ := W1.out.h1.three
 go_wp2_with fail
 refine (r14Add_c hn (by omega) (p : Int) (m : Int) W1.out.at_).mono ?_; rintro e w2 ⟨rfl, h1, h2⟩; have W2 := hidp (W1.out.call h1 h2); clear h1 h2 W1
 obtain ⟨j0, j1, j2⟩ := W2.out.h0.three
 obtain ⟨x0, x1, x2⟩ := W2.out.h1.three
 go_wp2_with fail
 refine (rGetA hn _ W2.out.at_).mono ?_; rintro e w3 ⟨rfl, h1, h2⟩; have W3 := hidp (W2.out.call h1 h2); clear h1 h2 W2; rw [HX.out]
 obtain ⟨j0, j1, j2⟩ := W3.out.h0.three
 obtain ⟨x0, x1, x2⟩ := W3.out.h1.three
 go_wp2_with fail
 refine (rPutA hn _ y HY.out W3.out.at_).mono ?_; rintro e w4 ⟨rfl, h1, h2⟩; have W4 := hidp (W3.out.call h1 h2); clear h1 h2 W3
 obtain ⟨j0, j1, j2⟩ := W4.out.h0.three
 obtain ⟨x0, x1, x2⟩ := W4.out.h1.three
 go_wp2
 go_end0
 exact ⟨rfl, W4.out.fin⟩

set_option maxHeartbeats 6400000 in
theorem r15Release_0_yes (hn : n < 2 ^ 40) (hq : q <= 1024) (p m : Nat) (hp : p <= 1024) (hm : m <= 1024) (hp0 : p = 0) (hr : ((p : Int) + (m : Int)) < q) (k2 l2 c2 : Int) (o2 : Bool) (hi2 : infoOf n K t q s ((p : Int) + (m : Int)) st = (k2, l2, c2, o2)) (hk2 : k2 = 1) (dw : Int) (hdw : dropV n K t q s ((p : Int) + (m : Int)) (getS n K st (pageI t q s ((p : Int) + (m : Int)) 0)) = dw) (he0 : 0 <= dw) (he1 : dw <= 1024) (s2 : Vst) (hs2 : putS n (putS n (dropS n K t q s ((p : Int) + (m : Int)) (getS n K st (pageI t q s ((p : Int) + (m : Int)) 0))) (pageI t q s ((p : Int) + (m : Int)) 0) 0) (pageI t q s (((p : Int) + (m : Int)) - 1) 1) 0 = s2) (h : (rOb base b n all K).At w0 A G st w) :
  Calls Tryz.prog 47 #[.pointer (some ⟨b, 0, none⟩), .agg #[.int .i64 t, .int .i64 q, .int .i64 s], .int .i64 (p : Int), .int .i64 (m : Int)] w fun e w' => e = .returned (.tuple #[]) /\ (rOb base b n all K).At w0 A G (putS n (getS n K (addS n K t q s (p : Int) ((m : Int) + dw) s2) 0) 0 (add32 (getV n K (addS n K t q s (p : Int) ((m : Int) + dw) s2) 0) (m : Int))) w' /\ Stay G w w' := by
 have W0 := hidp ((WL.start h).new 23 #[.int .i64 t, .int .i64 q, .int .i64 s])
 have t0 : decide ((0 : Int) < (p : Int)) = false := decide_eq_false (by omega)
 have t0n : decide (0 < p) = false := decide_eq_false (by omega)
 have v4 : IntKind.i64.wrap ((p : Int) + (m : Int)) = ((p : Int) + (m : Int)) := i64_same (by omega) (by omega)
 have t1 : decide (((p : Int) + (m : Int)) < q) = true := decide_eq_true hr
 have HI2 := hidp hi2
 have v5 : IntKind.i64.wrap (((p : Int) + (m : Int)) - 1) = ((p : Int) + (m : Int)) - 1 := i64_same (by omega) (by omega)
 subst hk2
 have HDW := hidp hdw
 have HS2 := hidp hs2
 have v6 : IntKind.i64.wrap ((m : Int) + dw) = ((m : Int) + dw) := i64_same (by omega) (by omega)
 obtain ⟨x, hx⟩ : ∃ x, getV n K (addS n K t q s (p : Int) ((m : Int) + dw) s2) 0 = x := ⟨_, rfl⟩
 rw [hx]
 obtain ⟨y, hy⟩ : ∃ y, add32 x (m : Int) = y := ⟨_, rfl⟩
 rw [hy]
 have HY : Hid (y < 2 ^ 32) := hidp (by rw [<- hy]; exact add32_lt x _)
 have sm : IntKind.u32.wrap (m : Int) = (m : Int) := wrap32_small (by omega) (by omega)
 have sa : IntKind.u32.wrap ((x : Int) + (m : Int)) = (y : Int) := by have := wrap_add32 x (m : Int); rw [sm, hy] at this; exact this
 have HX := hidp hx
 clear hx hy
 clear h hp0 hi2 hs2 hdw
 go_enter Tryz.func47, Tryz.ntmps47
 obtain ⟨x0, x1, x2⟩ := W0.out.h0.three
 go_wp2_with fail
 refine (r14Info_c hn ((p : Int) + (m : Int)) 1 l2 c2 o2 HI2.out W0.out.at_).mono ?_; rintro e w1 ⟨rfl, h1, h2⟩; have W1 := hidp (W0.out.call h1 h2); clear h1 h2 W0
 generalize hNJ : w1.heap.size = NJ at *
 replace W1 := hidp (W1.out.new 68 #[.int .i64 1, .int .i64 l2, .int .i64 c2])
 rw [hNJ] at W1
 obtain ⟨j0, j1, j2⟩ := W1.out.h0.three
 obtain ⟨x0, x1, x2⟩ := W1.out.h1.three
 go_wp2_with fail
 refine (r14Drop_c hn (by omega) ((p : Int) + (m : Int)) W1.out.at_).mono ?_; rintro e w2 ⟨rfl, h1, h2⟩; have W2 := hidp (W1.out.call h1 h2); clear h1 h2 W1; rw [HDW.out]
 obtain ⟨j0, j1, j2⟩ := W2.out.h0.three
 obtain ⟨x0, x1, x2⟩ := W2.out.h1.three
 go_wp2_with fail
 refine (r7Info_c t q s ((p : Int) + (m : Int)) _).mono ?_; rintro e w3 ⟨rfl, hb⟩; have W3 := hidp (W2.out.keep hb); clear hb W2
 obtain ⟨j0, j1, j2⟩ := W3.out.h0.three
 obtain ⟨x0, x1, x2⟩ := W3.out.h1.three
 go_wp2_with fail
 refine (rPutA hn _ 0 (by omega) W3.out.at_).mono ?_; rintro e w4 ⟨rfl, h1, h2⟩; have W4 := hidp (W3.out.call h1 h2); clear h1 h2 W3
 obtain ⟨j0, j1, j2⟩ := W4.out.h0.three
 obtain ⟨x0, x1, x2⟩ := W4.out.h1.three
 go_wp2_with fail
 refine (r7Foot_c t q s (((p : Int) + (m : Int)) - 1) _).mono ?_; rintro e w5 ⟨rfl, hb⟩; have W5 := hidp (W4.out.keep hb); clear hb W4
 obtain ⟨j0, j1, j2⟩ := W5.out.h0.three
 obtain ⟨x0, x1, x2⟩ := W5.out.h1.three
 go_wp2_with fail
 refine (rPutA hn _ 0 (by omega) W5.out.at_).mono ?_; rintro e w6 ⟨rfl, h1, h2⟩; have W6 := hidp (W5.out.call h1 h2); clear h1 h2 W5; rw [HS2.out] at W6
 obtain ⟨j0, j1, j2⟩ := W6.out.h0.three
 obtain ⟨x0, x1, x2⟩ := W6.out.h1.three
 go_wp2_with fail
 refine (r14Add_c hn (by omega) (p : Int) ((m : Int) + dw) W6.out.at_).mono ?_; rintro e w7 ⟨rfl, h1, h2⟩; have W7 := hidp (W6.out.call h1 h2); clear h1 h2 W6
 obtain ⟨j0, j1, j2⟩ := W7.out.h0.three
 obtain ⟨x0, x1, x2⟩ := W7.out.h1.three
 go_wp2_with fail
 refine (rGetA hn _ W7.out.at_).mono ?_; rintro e w8 ⟨rfl, h1, h2⟩; have W8 := hidp (W7.out.call h1 h2); clear h1 h2 W7; rw [HX.out]
 obtain ⟨j0, j1, j2⟩ := W8.out.h0.three
 obtain ⟨x0, x1, x2⟩ := W8.out.h1.three
 go_wp2_with fail
 refine (rPutA hn _ y HY.out W8.out.at_).mono ?_; rintro e w9 ⟨rfl, h1, h2⟩; have W9 := hidp (W8.out.call h1 h2); clear h1 h2 W8
 obtain ⟨j0, j1, j2⟩ := W9.out.h0.three
 obtain ⟨x0, x1, x2⟩ := W9.out.h1.three
 go_wp2
 go_end0
 exact ⟨rfl, W9.out.fin⟩

set_option maxHeartbeats 6400000 in
theorem r15Release_no_off (hn : n < 2 ^ 40) (hq : q <= 1024) (p m : Nat) (hp : p <= 1024) (hm : m <= 1024) (hp0 : p ≠ 0) (f : Nat) (hf : getV n K st (pageI t q s ((p : Int) - 1) 1) = f) (k1 l1 c1 : Int) (o1 : Bool) (hi1 : infoOf n K t q s ((f : Int) - 1) (getS n K st (pageI t q s ((p : Int) - 1) 1)) = (k1, l1, c1, o1)) (hk1 : k1 ≠ 1) (s1 : Vst) (hs1 : (getS n K (getS n K st (pageI t q s ((p : Int) - 1) 1)) (pageI t q s ((f : Int) - 1) 0)) = s1) (hr : ¬ ((p : Int) + (m : Int)) < q) (h : (rOb base b n all K).At w0 A G st w) :
  Calls Tryz.prog 47 #[.pointer (some ⟨b, 0, none⟩), .agg #[.int .i64 t, .int .i64 q, .int .i64 s], .int .i64 (p : Int), .int .i64 (m : Int)] w fun e w' => e = .returned (.tuple #[]) /\ (rOb base b n all K).At w0 A G (putS n (getS n K (addS n K t q s (p : Int) (m : Int) s1) 0) 0 (add32 (getV n K (addS n K t q s (p : Int) (m : Int) s1) 0) (m : Int))) w' /\ Stay G w w' := by
 have W0 := hidp ((WL.start h).new 23 #[.int .i64 t, .int .i64 q, .int .i64 s])
 have t0 : decide ((0 : Int) < (p : Int)) = true := decide_eq_true (by omega)
 have hf32 : f < 2 ^ 32 := by rw [<- hf]; exact rAt_lt h _
 have HF := hidp hf
 have HI1 := hidp hi1
 have v0 : IntKind.i64.wrap ((p : Int) - 1) = (p : Int) - 1 := i64_same (by omega) (by omega)
 have v1 : IntKind.i64.wrap (f : Int) = (f : Int) := i64_same (by omega) (by omega)
 have v2 : IntKind.i64.wrap ((f : Int) - 1) = (f : Int) - 1 := i64_same (by omega) (by omega)
 have u1 : (k1 == 1) = false := by simpa using hk1
 have HS1 := hidp hs1
 have v4 : IntKind.i64.wrap ((p : Int) + (m : Int)) = ((p : Int) + (m : Int)) := i64_same (by omega) (by omega)
 have t1 : decide (((p : Int) + (m : Int)) < q) = false := decide_eq_false hr
 obtain ⟨x, hx⟩ : ∃ x, getV n K (addS n K t q s (p : Int) (m : Int) s1) 0 = x := ⟨_, rfl⟩
 rw [hx]
 obtain ⟨y, hy⟩ : ∃ y, add32 x (m : Int) = y := ⟨_, rfl⟩
 rw [hy]
 have HY : Hid (y < 2 ^ 32) := hidp (by rw [<- hy]; exact add32_lt x _)
 have sm : IntKind.u32.wrap (m : Int) = (m : Int) := wrap32_small (by omega) (by omega)
 have sa : IntKind.u32.wrap ((x : Int) + (m : Int)) = (y : Int) := by have := wrap_add32 x (m : Int); rw [sm, hy] at this; exact this
 have HX := hidp hx
 clear hx hy
 clear h hf hi1 hs1
 go_enter Tryz.func47, Tryz.ntmps47
 obtain ⟨x0, x1, x2⟩ := W0.out.h0.three
 go_wp2_with fail
 refine (r7Foot_c t q s ((p : Int) - 1) _).mono ?_; rintro e w1 ⟨rfl, hb⟩; have W1 := hidp (W0.out.keep hb); clear hb W0
 obtain ⟨x0, x1, x2⟩ := W1.out.h0.three
 go_wp2_with fail
 refine (rGetA hn _ W1.out.at_).mono ?_; rintro e w2 ⟨rfl, h1, h2⟩; have W2 := hidp (W1.out.call h1 h2); clear h1 h2 W1; rw [HF.out]
 obtain ⟨x0, x1, x2⟩ := W2.out.h0.three
 go_wp2_with fail
 refine (r14Info_c hn ((f : Int) - 1) k1 l1 c1 o1 HI1.out W2.out.at_).mono ?_; rintro e w3 ⟨rfl, h1, h2⟩; have W3 := hidp (W2.out.call h1 h2); clear h1 h2 W2; rw [HS1.out] at W3
 generalize hNI : w3.heap.size = NI at *
 replace W3 := hidp (W3.out.new 68 #[.int .i64 k1, .int .i64 l1, .int .i64 c1])
 rw [hNI] at W3
 obtain ⟨i0, i1, i2⟩ := W3.out.h0.three
 obtain ⟨x0, x1, x2⟩ := W3.out.h1.three
 go_wp2_with fail
 refine (r14Add_c hn (by omega) (p : Int) (m : Int) W3.out.at_).mono ?_; rintro e w4 ⟨rfl, h1, h2⟩; have W4 := hidp (W3.out.call h1 h2); clear h1 h2 W3
 obtain ⟨i0, i1, i2⟩ := W4.out.h0.three
 obtain ⟨x0, x1, x2⟩ := W4.out.h1.three
 go_wp2_with fail
 refine (rGetA hn _ W4.out.at_).mono ?_; rintro e w5 ⟨rfl, h1, h2⟩; have W5 := hidp (W4.out.call h1 h2); clear h1 h2 W4; rw [HX.out]
 obtain ⟨i0, i1, i2⟩ := W5.out.h0.three
 obtain ⟨x0, x1, x2⟩ := W5.out.h1.three
 go_wp2_with fail
 refine (rPutA hn _ y HY.out W5.out.at_).mono ?_; rintro e w6 ⟨rfl, h1, h2⟩; have W6 := hidp (W5.out.call h1 h2); clear h1 h2 W5
 obtain ⟨i0, i1, i2⟩ := W6.out.h0.three
 obtain ⟨x0, x1, x2⟩ := W6.out.h1.three
 go_wp2
 go_end0
 exact ⟨rfl, W6.out.fin⟩

set_option maxHeartbeats 6400000 in
theorem r15Release_no_no (hn : n < 2 ^ 40) (hq : q <= 1024) (p m : Nat) (hp : p <= 1024) (hm : m <= 1024) (hp0 : p ≠ 0) (f : Nat) (hf : getV n K st (pageI t q s ((p : Int) - 1) 1) = f) (k1 l1 c1 : Int) (o1 : Bool) (hi1 : infoOf n K t q s ((f : Int) - 1) (getS n K st (pageI t q s ((p : Int) - 1) 1)) = (k1, l1, c1, o1)) (hk1 : k1 ≠ 1) (s1 : Vst) (hs1 : (getS n K (getS n K st (pageI t q s ((p : Int) - 1) 1)) (pageI t q s ((f : Int) - 1) 0)) = s1) (hr : ((p : Int) + (m : Int)) < q) (k2 l2 c2 : Int) (o2 : Bool) (hi2 : infoOf n K t q s ((p : Int) + (m : Int)) s1 = (k2, l2, c2, o2)) (hk2 : k2 ≠ 1) (s2 : Vst) (hs2 : (getS n K s1 (pageI t q s ((p : Int) + (m : Int)) 0)) = s2) (h : (rOb base b n all K).At w0 A G st w) :
  Calls Tryz.prog 47 #[.pointer (some ⟨b, 0, none⟩), .agg #[.int .i64 t, .int .i64 q, .int .i64 s], .int .i64 (p : Int), .int .i64 (m : Int)] w fun e w' => e = .returned (.tuple #[]) /\ (rOb base b n all K).At w0 A G (putS n (getS n K (addS n K t q s (p : Int) (m : Int) s2) 0) 0 (add32 (getV n K (addS n K t q s (p : Int) (m : Int) s2) 0) (m : Int))) w' /\ Stay G w w' := by
 have W0 := hidp ((WL.start h).new 23 #[.int .i64 t, .int .i64 q, .int .i64 s])
 have t0 : decide ((0 : Int) < (p : Int)) = true := decide_eq_true (by omega)
 have hf32 : f < 2 ^ 32 := by rw [<- hf]; exact rAt_lt h _
 have HF := hidp hf
 have HI1 := hidp hi1
 have v0 : IntKind.i64.wrap ((p : Int) - 1) = (p : Int) - 1 := i64_same (by omega) (by omega)
 have v1 : IntKind.i64.wrap (f : Int) = (f : Int) := i64_same (by omega) (by omega)
 have v2 : IntKind.i64.wrap ((f : Int) - 1) = (f : Int) - 1 := i64_same (by omega) (by omega)
 have u1 : (k1 == 1) = false := by simpa using hk1
 have HS1 := hidp hs1
 have v4 : IntKind.i64.wrap ((p : Int) + (m : Int)) = ((p : Int) + (m : Int)) := i64_same (by omega) (by omega)
 have t1 : decide (((p : Int) + (m : Int)) < q) = true := decide_eq_true hr
 have HI2 := hidp hi2
 have v5 : IntKind.i64.wrap (((p : Int) + (m : Int)) - 1) = ((p : Int) + (m : Int)) - 1 := i64_same (by omega) (by omega)
 have u2 : (k2 == 1) = false := by simpa using hk2
 have HS2 := hidp hs2
 obtain ⟨x, hx⟩ : ∃ x, getV n K (addS n K t q s (p : Int) (m : Int) s2) 0 = x := ⟨_, rfl⟩
 rw [hx]
 obtain ⟨y, hy⟩ : ∃ y, add32 x (m : Int) = y := ⟨_, rfl⟩
 rw [hy]
 have HY : Hid (y < 2 ^ 32) := hidp (by rw [<- hy]; exact add32_lt x _)
 have sm : IntKind.u32.wrap (m : Int) = (m : Int) := wrap32_small (by omega) (by omega)
 have sa : IntKind.u32.wrap ((x : Int) + (m : Int)) = (y : Int) := by have := wrap_add32 x (m : Int); rw [sm, hy] at this; exact this
 have HX := hidp hx
 clear hx hy
 clear h hf hi1 hs1 hi2 hs2
 go_enter Tryz.func47, Tryz.ntmps47
 obtain ⟨x0, x1, x2⟩ := W0.out.h0.three
 go_wp2_with fail
 refine (r7Foot_c t q s ((p : Int) - 1) _).mono ?_; rintro e w1 ⟨rfl, hb⟩; have W1 := hidp (W0.out.keep hb); clear hb W0
 obtain ⟨x0, x1, x2⟩ := W1.out.h0.three
 go_wp2_with fail
 refine (rGetA hn _ W1.out.at_).mono ?_; rintro e w2 ⟨rfl, h1, h2⟩; have W2 := hidp (W1.out.call h1 h2); clear h1 h2 W1; rw [HF.out]
 obtain ⟨x0, x1, x2⟩ := W2.out.h0.three
 go_wp2_with fail
 refine (r14Info_c hn ((f : Int) - 1) k1 l1 c1 o1 HI1.out W2.out.at_).mono ?_; rintro e w3 ⟨rfl, h1, h2⟩; have W3 := hidp (W2.out.call h1 h2); clear h1 h2 W2; rw [HS1.out] at W3
 generalize hNI : w3.heap.size = NI at *
 replace W3 := hidp (W3.out.new 68 #[.int .i64 k1, .int .i64 l1, .int .i64 c1])
 rw [hNI] at W3
 obtain ⟨i0, i1, i2⟩ := W3.out.h0.three
 obtain ⟨x0, x1, x2⟩ := W3.out.h1.three
 go_wp2_with fail
 refine (r14Info_c hn ((p : Int) + (m : Int)) k2 l2 c2 o2 HI2.out W3.out.at_).mono ?_; rintro e w4 ⟨rfl, h1, h2⟩; have W4 := hidp (W3.out.call h1 h2); clear h1 h2 W3; rw [HS2.out] at W4
 generalize hNJ : w4.heap.size = NJ at *
 replace W4 := hidp (W4.out.new 68 #[.int .i64 k2, .int .i64 l2, .int .i64 c2])
 rw [hNJ] at W4
 obtain ⟨j0, j1, j2⟩ := W4.out.h0.three
 obtain ⟨i0, i1, i2⟩ := W4.out.h1.three
 obtain ⟨x0, x1, x2⟩ := W4.out.h2.three
 go_wp2_with fail
 refine (r14Add_c hn (by omega) (p : Int) (m : Int) W4.out.at_).mono ?_; rintro e w5 ⟨rfl, h1, h2⟩; have W5 := hidp (W4.out.call h1 h2); clear h1 h2 W4
 obtain ⟨j0, j1, j2⟩ := W5.out.h0.three
 obtain ⟨i0, i1, i2⟩ := W5.out.h1.three
 obtain ⟨x0, x1, x2⟩ := W5.out.h2.three
 go_wp2_with fail
 refine (rGetA hn _ W5.out.at_).mono ?_; rintro e w6 ⟨rfl, h1, h2⟩; have W6 := hidp (W5.out.call h1 h2); clear h1 h2 W5; rw [HX.out]
 obtain ⟨j0, j1, j2⟩ := W6.out.h0.three
 obtain ⟨i0, i1, i2⟩ := W6.out.h1.three
 obtain ⟨x0, x1, x2⟩ := W6.out.h2.three
 go_wp2_with fail
 refine (rPutA hn _ y HY.out W6.out.at_).mono ?_; rintro e w7 ⟨rfl, h1, h2⟩; have W7 := hidp (W6.out.call h1 h2); clear h1 h2 W6
 obtain ⟨j0, j1, j2⟩ := W7.out.h0.three
 obtain ⟨i0, i1, i2⟩ := W7.out.h1.three
 obtain ⟨x0, x1, x2⟩ := W7.out.h2.three
 go_wp2
 go_end0
 exact ⟨rfl, W7.out.fin⟩

set_option maxHeartbeats 6400000 in
theorem r15Release_no_yes (hn : n < 2 ^ 40) (hq : q <= 1024) (p m : Nat) (hp : p <= 1024) (hm : m <= 1024) (hp0 : p ≠ 0) (f : Nat) (hf : getV n K st (pageI t q s ((p : Int) - 1) 1) = f) (k1 l1 c1 : Int) (o1 : Bool) (hi1 : infoOf n K t q s ((f : Int) - 1) (getS n K st (pageI t q s ((p : Int) - 1) 1)) = (k1, l1, c1, o1)) (hk1 : k1 ≠ 1) (s1 : Vst) (hs1 : (getS n K (getS n K st (pageI t q s ((p : Int) - 1) 1)) (pageI t q s ((f : Int) - 1) 0)) = s1) (hr : ((p : Int) + (m : Int)) < q) (k2 l2 c2 : Int) (o2 : Bool) (hi2 : infoOf n K t q s ((p : Int) + (m : Int)) s1 = (k2, l2, c2, o2)) (hk2 : k2 = 1) (dw : Int) (hdw : dropV n K t q s ((p : Int) + (m : Int)) (getS n K s1 (pageI t q s ((p : Int) + (m : Int)) 0)) = dw) (he0 : 0 <= dw) (he1 : dw <= 1024) (s2 : Vst) (hs2 : putS n (putS n (dropS n K t q s ((p : Int) + (m : Int)) (getS n K s1 (pageI t q s ((p : Int) + (m : Int)) 0))) (pageI t q s ((p : Int) + (m : Int)) 0) 0) (pageI t q s (((p : Int) + (m : Int)) - 1) 1) 0 = s2) (h : (rOb base b n all K).At w0 A G st w) :
  Calls Tryz.prog 47 #[.pointer (some ⟨b, 0, none⟩), .agg #[.int .i64 t, .int .i64 q, .int .i64 s], .int .i64 (p : Int), .int .i64 (m : Int)] w fun e w' => e = .returned (.tuple #[]) /\ (rOb base b n all K).At w0 A G (putS n (getS n K (addS n K t q s (p : Int) ((m : Int) + dw) s2) 0) 0 (add32 (getV n K (addS n K t q s (p : Int) ((m : Int) + dw) s2) 0) (m : Int))) w' /\ Stay G w w' := by
 have W0 := hidp ((WL.start h).new 23 #[.int .i64 t, .int .i64 q, .int .i64 s])
 have t0 : decide ((0 : Int) < (p : Int)) = true := decide_eq_true (by omega)
 have hf32 : f < 2 ^ 32 := by rw [<- hf]; exact rAt_lt h _
 have HF := hidp hf
 have HI1 := hidp hi1
 have v0 : IntKind.i64.wrap ((p : Int) - 1) = (p : Int) - 1 := i64_same (by omega) (by omega)
 have v1 : IntKind.i64.wrap (f : Int) = (f : Int) := i64_same (by omega) (by omega)
 have v2 : IntKind.i64.wrap ((f : Int) - 1) = (f : Int) - 1 := i64_same (by omega) (by omega)
 have u1 : (k1 == 1) = false := by simpa using hk1
 have HS1 := hidp hs1
 have v4 : IntKind.i64.wrap ((p : Int) + (m : Int)) = ((p : Int) + (m : Int)) := i64_same (by omega) (by omega)
 have t1 : decide (((p : Int) + (m : Int)) < q) = true := decide_eq_true hr
 have HI2 := hidp hi2
 have v5 : IntKind.i64.wrap (((p : Int) + (m : Int)) - 1) = ((p : Int) + (m : Int)) - 1 := i64_same (by omega) (by omega)
 subst hk2
 have HDW := hidp hdw
 have HS2 := hidp hs2
 have v6 : IntKind.i64.wrap ((m : Int) + dw) = ((m : Int) + dw) := i64_same (by omega) (by omega)
 obtain ⟨x, hx⟩ : ∃ x, getV n K (addS n K t q s (p : Int) ((m : Int) + dw) s2) 0 = x := ⟨_, rfl⟩
 rw [hx]
 obtain ⟨y, hy⟩ : ∃ y, add32 x (m : Int) = y := ⟨_, rfl⟩
 rw [hy]
 have HY : Hid (y < 2 ^ 32) := hidp (by rw [<- hy]; exact add32_lt x _)
 have sm : IntKind.u32.wrap (m : Int) = (m : Int) := wrap32_small (by omega) (by omega)
 have sa : IntKind.u32.wrap ((x : Int) + (m : Int)) = (y : Int) := by have := wrap_add32 x (m : Int); rw [sm, hy] at this; exact this
 have HX := hidp hx
 clear hx hy
 clear h hf hi1 hs1 hi2 hs2 hdw
 go_enter Tryz.func47, Tryz.ntmps47
 obtain ⟨x0, x1, x2⟩ := W0.out.h0.three
 go_wp2_with fail
 refine (r7Foot_c t q s ((p : Int) - 1) _).mono ?_; rintro e w1 ⟨rfl, hb⟩; have W1 := hidp (W0.out.keep hb); clear hb W0
 obtain ⟨x0, x1, x2⟩ := W1.out.h0.three
 go_wp2_with fail
 refine (rGetA hn _ W1.out.at_).mono ?_; rintro e w2 ⟨rfl, h1, h2⟩; have W2 := hidp (W1.out.call h1 h2); clear h1 h2 W1; rw [HF.out]
 obtain ⟨x0, x1, x2⟩ := W2.out.h0.three
 go_wp2_with fail
 refine (r14Info_c hn ((f : Int) - 1) k1 l1 c1 o1 HI1.out W2.out.at_).mono ?_; rintro e w3 ⟨rfl, h1, h2⟩; have W3 := hidp (W2.out.call h1 h2); clear h1 h2 W2; rw [HS1.out] at W3
 generalize hNI : w3.heap.size = NI at *
 replace W3 := hidp (W3.out.new 68 #[.int .i64 k1, .int .i64 l1, .int .i64 c1])
 rw [hNI] at W3
 obtain ⟨i0, i1, i2⟩ := W3.out.h0.three
 obtain ⟨x0, x1, x2⟩ := W3.out.h1.three
 go_wp2_with fail
 refine (r14Info_c hn ((p : Int) + (m : Int)) 1 l2 c2 o2 HI2.out W3.out.at_).mono ?_; rintro e w4 ⟨rfl, h1, h2⟩; have W4 := hidp (W3.out.call h1 h2); clear h1 h2 W3
 generalize hNJ : w4.heap.size = NJ at *
 replace W4 := hidp (W4.out.new 68 #[.int .i64 1, .int .i64 l2, .int .i64 c2])
 rw [hNJ] at W4
 obtain ⟨j0, j1, j2⟩ := W4.out.h0.three
 obtain ⟨i0, i1, i2⟩ := W4.out.h1.three
 obtain ⟨x0, x1, x2⟩ := W4.out.h2.three
 go_wp2_with fail
 refine (r14Drop_c hn (by omega) ((p : Int) + (m : Int)) W4.out.at_).mono ?_; rintro e w5 ⟨rfl, h1, h2⟩; have W5 := hidp (W4.out.call h1 h2); clear h1 h2 W4; rw [HDW.out]
 obtain ⟨j0, j1, j2⟩ := W5.out.h0.three
 obtain ⟨i0, i1, i2⟩ := W5.out.h1.three
 obtain ⟨x0, x1, x2⟩ := W5.out.h2.three
 go_wp2_with fail
 refine (r7Info_c t q s ((p : Int) + (m : Int)) _).mono ?_; rintro e w6 ⟨rfl, hb⟩; have W6 := hidp (W5.out.keep hb); clear hb W5
 obtain ⟨j0, j1, j2⟩ := W6.out.h0.three
 obtain ⟨i0, i1, i2⟩ := W6.out.h1.three
 obtain ⟨x0, x1, x2⟩ := W6.out.h2.three
 go_wp2_with fail
 refine (rPutA hn _ 0 (by omega) W6.out.at_).mono ?_; rintro e w7 ⟨rfl, h1, h2⟩; have W7 := hidp (W6.out.call h1 h2); clear h1 h2 W6
 obtain ⟨j0, j1, j2⟩ := W7.out.h0.three
 obtain ⟨i0, i1, i2⟩ := W7.out.h1.three
 obtain ⟨x0, x1, x2⟩ := W7.out.h2.three
 go_wp2_with fail
 refine (r7Foot_c t q s (((p : Int) + (m : Int)) - 1) _).mono ?_; rintro e w8 ⟨rfl, hb⟩; have W8 := hidp (W7.out.keep hb); clear hb W7
 obtain ⟨j0, j1, j2⟩ := W8.out.h0.three
 obtain ⟨i0, i1, i2⟩ := W8.out.h1.three
 obtain ⟨x0, x1, x2⟩ := W8.out.h2.three
 go_wp2_with fail
 refine (rPutA hn _ 0 (by omega) W8.out.at_).mono ?_; rintro e w9 ⟨rfl, h1, h2⟩; have W9 := hidp (W8.out.call h1 h2); clear h1 h2 W8; rw [HS2.out] at W9
 obtain ⟨j0, j1, j2⟩ := W9.out.h0.three
 obtain ⟨i0, i1, i2⟩ := W9.out.h1.three
 obtain ⟨x0, x1, x2⟩ := W9.out.h2.three
 go_wp2_with fail
 refine (r14Add_c hn (by omega) (p : Int) ((m : Int) + dw) W9.out.at_).mono ?_; rintro e w10 ⟨rfl, h1, h2⟩; have W10 := hidp (W9.out.call h1 h2); clear h1 h2 W9
 obtain ⟨j0, j1, j2⟩ := W10.out.h0.three
 obtain ⟨i0, i1, i2⟩ := W10.out.h1.three
 obtain ⟨x0, x1, x2⟩ := W10.out.h2.three
 go_wp2_with fail
 refine (rGetA hn _ W10.out.at_).mono ?_; rintro e w11 ⟨rfl, h1, h2⟩; have W11 := hidp (W10.out.call h1 h2); clear h1 h2 W10; rw [HX.out]
 obtain ⟨j0, j1, j2⟩ := W11.out.h0.three
 obtain ⟨i0, i1, i2⟩ := W11.out.h1.three
 obtain ⟨x0, x1, x2⟩ := W11.out.h2.three
 go_wp2_with fail
 refine (rPutA hn _ y HY.out W11.out.at_).mono ?_; rintro e w12 ⟨rfl, h1, h2⟩; have W12 := hidp (W11.out.call h1 h2); clear h1 h2 W11
 obtain ⟨j0, j1, j2⟩ := W12.out.h0.three
 obtain ⟨i0, i1, i2⟩ := W12.out.h1.three
 obtain ⟨x0, x1, x2⟩ := W12.out.h2.three
 go_wp2
 go_end0
 exact ⟨rfl, W12.out.fin⟩

set_option maxHeartbeats 6400000 in
theorem r15Release_yes_off (hn : n < 2 ^ 40) (hq : q <= 1024) (p m : Nat) (hp : p <= 1024) (hm : m <= 1024) (hp0 : p ≠ 0) (f : Nat) (hf : getV n K st (pageI t q s ((p : Int) - 1) 1) = f) (k1 l1 c1 : Int) (o1 : Bool) (hi1 : infoOf n K t q s ((f : Int) - 1) (getS n K st (pageI t q s ((p : Int) - 1) 1)) = (k1, l1, c1, o1)) (hk1 : k1 = 1) (dv : Int) (hdv : dropV n K t q s ((f : Int) - 1) (getS n K (getS n K st (pageI t q s ((p : Int) - 1) 1)) (pageI t q s ((f : Int) - 1) 0)) = dv) (hd0 : 0 <= dv) (hd1 : dv <= 1024) (s1 : Vst) (hs1 : putS n (putS n (dropS n K t q s ((f : Int) - 1) (getS n K (getS n K st (pageI t q s ((p : Int) - 1) 1)) (pageI t q s ((f : Int) - 1) 0))) (pageI t q s (p : Int) 0) 0) (pageI t q s ((p : Int) - 1) 1) 0 = s1) (hr : ¬ ((p : Int) + (m : Int)) < q) (h : (rOb base b n all K).At w0 A G st w) :
  Calls Tryz.prog 47 #[.pointer (some ⟨b, 0, none⟩), .agg #[.int .i64 t, .int .i64 q, .int .i64 s], .int .i64 (p : Int), .int .i64 (m : Int)] w fun e w' => e = .returned (.tuple #[]) /\ (rOb base b n all K).At w0 A G (putS n (getS n K (addS n K t q s ((f : Int) - 1) ((m : Int) + dv) s1) 0) 0 (add32 (getV n K (addS n K t q s ((f : Int) - 1) ((m : Int) + dv) s1) 0) (m : Int))) w' /\ Stay G w w' := by
 have W0 := hidp ((WL.start h).new 23 #[.int .i64 t, .int .i64 q, .int .i64 s])
 have t0 : decide ((0 : Int) < (p : Int)) = true := decide_eq_true (by omega)
 have hf32 : f < 2 ^ 32 := by rw [<- hf]; exact rAt_lt h _
 have HF := hidp hf
 have HI1 := hidp hi1
 have v0 : IntKind.i64.wrap ((p : Int) - 1) = (p : Int) - 1 := i64_same (by omega) (by omega)
 have v1 : IntKind.i64.wrap (f : Int) = (f : Int) := i64_same (by omega) (by omega)
 have v2 : IntKind.i64.wrap ((f : Int) - 1) = (f : Int) - 1 := i64_same (by omega) (by omega)
 subst hk1
 have HDV := hidp hdv
 have HS1 := hidp hs1
 have v3 : IntKind.i64.wrap ((m : Int) + dv) = (m : Int) + dv := i64_same (by omega) (by omega)
 have v4 : IntKind.i64.wrap ((p : Int) + (m : Int)) = ((p : Int) + (m : Int)) := i64_same (by omega) (by omega)
 have t1 : decide (((p : Int) + (m : Int)) < q) = false := decide_eq_false hr
 obtain ⟨x, hx⟩ : ∃ x, getV n K (addS n K t q s ((f : Int) - 1) ((m : Int) + dv) s1) 0 = x := ⟨_, rfl⟩
 rw [hx]
 obtain ⟨y, hy⟩ : ∃ y, add32 x (m : Int) = y := ⟨_, rfl⟩
 rw [hy]
 have HY : Hid (y < 2 ^ 32) := hidp (by rw [<- hy]; exact add32_lt x _)
 have sm : IntKind.u32.wrap (m : Int) = (m : Int) := wrap32_small (by omega) (by omega)
 have sa : IntKind.u32.wrap ((x : Int) + (m : Int)) = (y : Int) := by have := wrap_add32 x (m : Int); rw [sm, hy] at this; exact this
 have HX := hidp hx
 clear hx hy
 clear h hf hi1 hs1 hdv
 go_enter Tryz.func47, Tryz.ntmps47
 obtain ⟨x0, x1, x2⟩ := W0.out.h0.three
 go_wp2_with fail
 refine (r7Foot_c t q s ((p : Int) - 1) _).mono ?_; rintro e w1 ⟨rfl, hb⟩; have W1 := hidp (W0.out.keep hb); clear hb W0
 obtain ⟨x0, x1, x2⟩ := W1.out.h0.three
 go_wp2_with fail
 refine (rGetA hn _ W1.out.at_).mono ?_; rintro e w2 ⟨rfl, h1, h2⟩; have W2 := hidp (W1.out.call h1 h2); clear h1 h2 W1; rw [HF.out]
 obtain ⟨x0, x1, x2⟩ := W2.out.h0.three
 go_wp2_with fail
 refine (r14Info_c hn ((f : Int) - 1) 1 l1 c1 o1 HI1.out W2.out.at_).mono ?_; rintro e w3 ⟨rfl, h1, h2⟩; have W3 := hidp (W2.out.call h1 h2); clear h1 h2 W2
 generalize hNI : w3.heap.size = NI at *
 replace W3 := hidp (W3.out.new 68 #[.int .i64 1, .int .i64 l1, .int .i64 c1])
 rw [hNI] at W3
 obtain ⟨i0, i1, i2⟩ := W3.out.h0.three
 obtain ⟨x0, x1, x2⟩ := W3.out.h1.three
 go_wp2_with fail
 refine (r14Drop_c hn (by omega) ((f : Int) - 1) W3.out.at_).mono ?_; rintro e w4 ⟨rfl, h1, h2⟩; have W4 := hidp (W3.out.call h1 h2); clear h1 h2 W3; rw [HDV.out]
 obtain ⟨i0, i1, i2⟩ := W4.out.h0.three
 obtain ⟨x0, x1, x2⟩ := W4.out.h1.three
 go_wp2_with fail
 refine (r7Info_c t q s (p : Int) _).mono ?_; rintro e w5 ⟨rfl, hb⟩; have W5 := hidp (W4.out.keep hb); clear hb W4
 obtain ⟨i0, i1, i2⟩ := W5.out.h0.three
 obtain ⟨x0, x1, x2⟩ := W5.out.h1.three
 go_wp2_with fail
 refine (rPutA hn _ 0 (by omega) W5.out.at_).mono ?_; rintro e w6 ⟨rfl, h1, h2⟩; have W6 := hidp (W5.out.call h1 h2); clear h1 h2 W5
 obtain ⟨i0, i1, i2⟩ := W6.out.h0.three
 obtain ⟨x0, x1, x2⟩ := W6.out.h1.three
 go_wp2_with fail
 refine (r7Foot_c t q s ((p : Int) - 1) _).mono ?_; rintro e w7 ⟨rfl, hb⟩; have W7 := hidp (W6.out.keep hb); clear hb W6
 obtain ⟨i0, i1, i2⟩ := W7.out.h0.three
 obtain ⟨x0, x1, x2⟩ := W7.out.h1.three
 go_wp2_with fail
 refine (rPutA hn _ 0 (by omega) W7.out.at_).mono ?_; rintro e w8 ⟨rfl, h1, h2⟩; have W8 := hidp (W7.out.call h1 h2); clear h1 h2 W7; rw [HS1.out] at W8
 obtain ⟨i0, i1, i2⟩ := W8.out.h0.three
 obtain ⟨x0, x1, x2⟩ := W8.out.h1.three
 go_wp2_with fail
 refine (r14Add_c hn (by omega) ((f : Int) - 1) ((m : Int) + dv) W8.out.at_).mono ?_; rintro e w9 ⟨rfl, h1, h2⟩; have W9 := hidp (W8.out.call h1 h2); clear h1 h2 W8
 obtain ⟨i0, i1, i2⟩ := W9.out.h0.three
 obtain ⟨x0, x1, x2⟩ := W9.out.h1.three
 go_wp2_with fail
 refine (rGetA hn _ W9.out.at_).mono ?_; rintro e w10 ⟨rfl, h1, h2⟩; have W10 := hidp (W9.out.call h1 h2); clear h1 h2 W9; rw [HX.out]
 obtain ⟨i0, i1, i2⟩ := W10.out.h0.three
 obtain ⟨x0, x1, x2⟩ := W10.out.h1.three
 go_wp2_with fail
 refine (rPutA hn _ y HY.out W10.out.at_).mono ?_; rintro e w11 ⟨rfl, h1, h2⟩; have W11 := hidp (W10.out.call h1 h2); clear h1 h2 W10
 obtain ⟨i0, i1, i2⟩ := W11.out.h0.three
 obtain ⟨x0, x1, x2⟩ := W11.out.h1.three
 go_wp2
 go_end0
 exact ⟨rfl, W11.out.fin⟩

set_option maxHeartbeats 6400000 in
theorem r15Release_yes_no (hn : n < 2 ^ 40) (hq : q <= 1024) (p m : Nat) (hp : p <= 1024) (hm : m <= 1024) (hp0 : p ≠ 0) (f : Nat) (hf : getV n K st (pageI t q s ((p : Int) - 1) 1) = f) (k1 l1 c1 : Int) (o1 : Bool) (hi1 : infoOf n K t q s ((f : Int) - 1) (getS n K st (pageI t q s ((p : Int) - 1) 1)) = (k1, l1, c1, o1)) (hk1 : k1 = 1) (dv : Int) (hdv : dropV n K t q s ((f : Int) - 1) (getS n K (getS n K st (pageI t q s ((p : Int) - 1) 1)) (pageI t q s ((f : Int) - 1) 0)) = dv) (hd0 : 0 <= dv) (hd1 : dv <= 1024) (s1 : Vst) (hs1 : putS n (putS n (dropS n K t q s ((f : Int) - 1) (getS n K (getS n K st (pageI t q s ((p : Int) - 1) 1)) (pageI t q s ((f : Int) - 1) 0))) (pageI t q s (p : Int) 0) 0) (pageI t q s ((p : Int) - 1) 1) 0 = s1) (hr : ((p : Int) + (m : Int)) < q) (k2 l2 c2 : Int) (o2 : Bool) (hi2 : infoOf n K t q s ((p : Int) + (m : Int)) s1 = (k2, l2, c2, o2)) (hk2 : k2 ≠ 1) (s2 : Vst) (hs2 : (getS n K s1 (pageI t q s ((p : Int) + (m : Int)) 0)) = s2) (h : (rOb base b n all K).At w0 A G st w) :
  Calls Tryz.prog 47 #[.pointer (some ⟨b, 0, none⟩), .agg #[.int .i64 t, .int .i64 q, .int .i64 s], .int .i64 (p : Int), .int .i64 (m : Int)] w fun e w' => e = .returned (.tuple #[]) /\ (rOb base b n all K).At w0 A G (putS n (getS n K (addS n K t q s ((f : Int) - 1) ((m : Int) + dv) s2) 0) 0 (add32 (getV n K (addS n K t q s ((f : Int) - 1) ((m : Int) + dv) s2) 0) (m : Int))) w' /\ Stay G w w' := by
 have W0 := hidp ((WL.start h).new 23 #[.int .i64 t, .int .i64 q, .int .i64 s])
 have t0 : decide ((0 : Int) < (p : Int)) = true := decide_eq_true (by omega)
 have hf32 : f < 2 ^ 32 := by rw [<- hf]; exact rAt_lt h _
 have HF := hidp hf
 have HI1 := hidp hi1
 have v0 : IntKind.i64.wrap ((p : Int) - 1) = (p : Int) - 1 := i64_same (by omega) (by omega)
 have v1 : IntKind.i64.wrap (f : Int) = (f : Int) := i64_same (by omega) (by omega)
 have v2 : IntKind.i64.wrap ((f : Int) - 1) = (f : Int) - 1 := i64_same (by omega) (by omega)
 subst hk1
 have HDV := hidp hdv
 have HS1 := hidp hs1
 have v3 : IntKind.i64.wrap ((m : Int) + dv) = (m : Int) + dv := i64_same (by omega) (by omega)
 have v4 : IntKind.i64.wrap ((p : Int) + (m : Int)) = ((p : Int) + (m : Int)) := i64_same (by omega) (by omega)
 have t1 : decide (((p : Int) + (m : Int)) < q) = true := decide_eq_true hr
 have HI2 := hidp hi2
 have v5 : IntKind.i64.wrap (((p : Int) + (m : Int)) - 1) = ((p : Int) + (m : Int)) - 1 := i64_same (by omega) (by omega)
 have u2 : (k2 == 1) = false := by simpa using hk2
 have HS2 := hidp hs2
 obtain ⟨x, hx⟩ : ∃ x, getV n K (addS n K t q s ((f : Int) - 1) ((m : Int) + dv) s2) 0 = x := ⟨_, rfl⟩
 rw [hx]
 obtain ⟨y, hy⟩ : ∃ y, add32 x (m : Int) = y := ⟨_, rfl⟩
 rw [hy]
 have HY : Hid (y < 2 ^ 32) := hidp (by rw [<- hy]; exact add32_lt x _)
 have sm : IntKind.u32.wrap (m : Int) = (m : Int) := wrap32_small (by omega) (by omega)
 have sa : IntKind.u32.wrap ((x : Int) + (m : Int)) = (y : Int) := by have := wrap_add32 x (m : Int); rw [sm, hy] at this; exact this
 have HX := hidp hx
 clear hx hy
 clear h hf hi1 hs1 hdv hi2 hs2
 go_enter Tryz.func47, Tryz.ntmps47
 obtain ⟨x0, x1, x2⟩ := W0.out.h0.three
 go_wp2_with fail
 refine (r7Foot_c t q s ((p : Int) - 1) _).mono ?_; rintro e w1 ⟨rfl, hb⟩; have W1 := hidp (W0.out.keep hb); clear hb W0
 obtain ⟨x0, x1, x2⟩ := W1.out.h0.three
 go_wp2_with fail
 refine (rGetA hn _ W1.out.at_).mono ?_; rintro e w2 ⟨rfl, h1, h2⟩; have W2 := hidp (W1.out.call h1 h2); clear h1 h2 W1; rw [HF.out]
 obtain ⟨x0, x1, x2⟩ := W2.out.h0.three
 go_wp2_with fail
 refine (r14Info_c hn ((f : Int) - 1) 1 l1 c1 o1 HI1.out W2.out.at_).mono ?_; rintro e w3 ⟨rfl, h1, h2⟩; have W3 := hidp (W2.out.call h1 h2); clear h1 h2 W2
 generalize hNI : w3.heap.size = NI at *
 replace W3 := hidp (W3.out.new 68 #[.int .i64 1, .int .i64 l1, .int .i64 c1])
 rw [hNI] at W3
 obtain ⟨i0, i1, i2⟩ := W3.out.h0.three
 obtain ⟨x0, x1, x2⟩ := W3.out.h1.three
 go_wp2_with fail
 refine (r14Drop_c hn (by omega) ((f : Int) - 1) W3.out.at_).mono ?_; rintro e w4 ⟨rfl, h1, h2⟩; have W4 := hidp (W3.out.call h1 h2); clear h1 h2 W3; rw [HDV.out]
 obtain ⟨i0, i1, i2⟩ := W4.out.h0.three
 obtain ⟨x0, x1, x2⟩ := W4.out.h1.three
 go_wp2_with fail
 refine (r7Info_c t q s (p : Int) _).mono ?_; rintro e w5 ⟨rfl, hb⟩; have W5 := hidp (W4.out.keep hb); clear hb W4
 obtain ⟨i0, i1, i2⟩ := W5.out.h0.three
 obtain ⟨x0, x1, x2⟩ := W5.out.h1.three
 go_wp2_with fail
 refine (rPutA hn _ 0 (by omega) W5.out.at_).mono ?_; rintro e w6 ⟨rfl, h1, h2⟩; have W6 := hidp (W5.out.call h1 h2); clear h1 h2 W5
 obtain ⟨i0, i1, i2⟩ := W6.out.h0.three
 obtain ⟨x0, x1, x2⟩ := W6.out.h1.three
 go_wp2_with fail
 refine (r7Foot_c t q s ((p : Int) - 1) _).mono ?_; rintro e w7 ⟨rfl, hb⟩; have W7 := hidp (W6.out.keep hb); clear hb W6
 obtain ⟨i0, i1, i2⟩ := W7.out.h0.three
 obtain ⟨x0, x1, x2⟩ := W7.out.h1.three
 go_wp2_with fail
 refine (rPutA hn _ 0 (by omega) W7.out.at_).mono ?_; rintro e w8 ⟨rfl, h1, h2⟩; have W8 := hidp (W7.out.call h1 h2); clear h1 h2 W7; rw [HS1.out] at W8
 obtain ⟨i0, i1, i2⟩ := W8.out.h0.three
 obtain ⟨x0, x1, x2⟩ := W8.out.h1.three
 go_wp2_with fail
 refine (r14Info_c hn ((p : Int) + (m : Int)) k2 l2 c2 o2 HI2.out W8.out.at_).mono ?_; rintro e w9 ⟨rfl, h1, h2⟩; have W9 := hidp (W8.out.call h1 h2); clear h1 h2 W8; rw [HS2.out] at W9
 generalize hNJ : w9.heap.size = NJ at *
 replace W9 := hidp (W9.out.new 68 #[.int .i64 k2, .int .i64 l2, .int .i64 c2])
 rw [hNJ] at W9
 obtain ⟨j0, j1, j2⟩ := W9.out.h0.three
 obtain ⟨i0, i1, i2⟩ := W9.out.h1.three
 obtain ⟨x0, x1, x2⟩ := W9.out.h2.three
 go_wp2_with fail
 refine (r14Add_c hn (by omega) ((f : Int) - 1) ((m : Int) + dv) W9.out.at_).mono ?_; rintro e w10 ⟨rfl, h1, h2⟩; have W10 := hidp (W9.out.call h1 h2); clear h1 h2 W9
 obtain ⟨j0, j1, j2⟩ := W10.out.h0.three
 obtain ⟨i0, i1, i2⟩ := W10.out.h1.three
 obtain ⟨x0, x1, x2⟩ := W10.out.h2.three
 go_wp2_with fail
 refine (rGetA hn _ W10.out.at_).mono ?_; rintro e w11 ⟨rfl, h1, h2⟩; have W11 := hidp (W10.out.call h1 h2); clear h1 h2 W10; rw [HX.out]
 obtain ⟨j0, j1, j2⟩ := W11.out.h0.three
 obtain ⟨i0, i1, i2⟩ := W11.out.h1.three
 obtain ⟨x0, x1, x2⟩ := W11.out.h2.three
 go_wp2_with fail
 refine (rPutA hn _ y HY.out W11.out.at_).mono ?_; rintro e w12 ⟨rfl, h1, h2⟩; have W12 := hidp (W11.out.call h1 h2); clear h1 h2 W11
 obtain ⟨j0, j1, j2⟩ := W12.out.h0.three
 obtain ⟨i0, i1, i2⟩ := W12.out.h1.three
 obtain ⟨x0, x1, x2⟩ := W12.out.h2.three
 go_wp2
 go_end0
 exact ⟨rfl, W12.out.fin⟩

set_option maxHeartbeats 6400000 in
theorem r15Release_yes_yes (hn : n < 2 ^ 40) (hq : q <= 1024) (p m : Nat) (hp : p <= 1024) (hm : m <= 1024) (hp0 : p ≠ 0) (f : Nat) (hf : getV n K st (pageI t q s ((p : Int) - 1) 1) = f) (k1 l1 c1 : Int) (o1 : Bool) (hi1 : infoOf n K t q s ((f : Int) - 1) (getS n K st (pageI t q s ((p : Int) - 1) 1)) = (k1, l1, c1, o1)) (hk1 : k1 = 1) (dv : Int) (hdv : dropV n K t q s ((f : Int) - 1) (getS n K (getS n K st (pageI t q s ((p : Int) - 1) 1)) (pageI t q s ((f : Int) - 1) 0)) = dv) (hd0 : 0 <= dv) (hd1 : dv <= 1024) (s1 : Vst) (hs1 : putS n (putS n (dropS n K t q s ((f : Int) - 1) (getS n K (getS n K st (pageI t q s ((p : Int) - 1) 1)) (pageI t q s ((f : Int) - 1) 0))) (pageI t q s (p : Int) 0) 0) (pageI t q s ((p : Int) - 1) 1) 0 = s1) (hr : ((p : Int) + (m : Int)) < q) (k2 l2 c2 : Int) (o2 : Bool) (hi2 : infoOf n K t q s ((p : Int) + (m : Int)) s1 = (k2, l2, c2, o2)) (hk2 : k2 = 1) (dw : Int) (hdw : dropV n K t q s ((p : Int) + (m : Int)) (getS n K s1 (pageI t q s ((p : Int) + (m : Int)) 0)) = dw) (he0 : 0 <= dw) (he1 : dw <= 1024) (s2 : Vst) (hs2 : putS n (putS n (dropS n K t q s ((p : Int) + (m : Int)) (getS n K s1 (pageI t q s ((p : Int) + (m : Int)) 0))) (pageI t q s ((p : Int) + (m : Int)) 0) 0) (pageI t q s (((p : Int) + (m : Int)) - 1) 1) 0 = s2) (h : (rOb base b n all K).At w0 A G st w) :
  Calls Tryz.prog 47 #[.pointer (some ⟨b, 0, none⟩), .agg #[.int .i64 t, .int .i64 q, .int .i64 s], .int .i64 (p : Int), .int .i64 (m : Int)] w fun e w' => e = .returned (.tuple #[]) /\ (rOb base b n all K).At w0 A G (putS n (getS n K (addS n K t q s ((f : Int) - 1) (((m : Int) + dv) + dw) s2) 0) 0 (add32 (getV n K (addS n K t q s ((f : Int) - 1) (((m : Int) + dv) + dw) s2) 0) (m : Int))) w' /\ Stay G w w' := by
 have W0 := hidp ((WL.start h).new 23 #[.int .i64 t, .int .i64 q, .int .i64 s])
 have t0 : decide ((0 : Int) < (p : Int)) = true := decide_eq_true (by omega)
 have hf32 : f < 2 ^ 32 := by rw [<- hf]; exact rAt_lt h _
 have HF := hidp hf
 have HI1 := hidp hi1
 have v0 : IntKind.i64.wrap ((p : Int) - 1) = (p : Int) - 1 := i64_same (by omega) (by omega)
 have v1 : IntKind.i64.wrap (f : Int) = (f : Int) := i64_same (by omega) (by omega)
 have v2 : IntKind.i64.wrap ((f : Int) - 1) = (f : Int) - 1 := i64_same (by omega) (by omega)
 subst hk1
 have HDV := hidp hdv
 have HS1 := hidp hs1
 have v3 : IntKind.i64.wrap ((m : Int) + dv) = (m : Int) + dv := i64_same (by omega) (by omega)
 have v4 : IntKind.i64.wrap ((p : Int) + (m : Int)) = ((p : Int) + (m : Int)) := i64_same (by omega) (by omega)
 have t1 : decide (((p : Int) + (m : Int)) < q) = true := decide_eq_true hr
 have HI2 := hidp hi2
 have v5 : IntKind.i64.wrap (((p : Int) + (m : Int)) - 1) = ((p : Int) + (m : Int)) - 1 := i64_same (by omega) (by omega)
 subst hk2
 have HDW := hidp hdw
 have HS2 := hidp hs2
 have v6 : IntKind.i64.wrap (((m : Int) + dv) + dw) = (((m : Int) + dv) + dw) := i64_same (by omega) (by omega)
 obtain ⟨x, hx⟩ : ∃ x, getV n K (addS n K t q s ((f : Int) - 1) (((m : Int) + dv) + dw) s2) 0 = x := ⟨_, rfl⟩
 rw [hx]
 obtain ⟨y, hy⟩ : ∃ y, add32 x (m : Int) = y := ⟨_, rfl⟩
 rw [hy]
 have HY : Hid (y < 2 ^ 32) := hidp (by rw [<- hy]; exact add32_lt x _)
 have sm : IntKind.u32.wrap (m : Int) = (m : Int) := wrap32_small (by omega) (by omega)
 have sa : IntKind.u32.wrap ((x : Int) + (m : Int)) = (y : Int) := by have := wrap_add32 x (m : Int); rw [sm, hy] at this; exact this
 have HX := hidp hx
 clear hx hy
 clear h hf hi1 hs1 hdv hi2 hs2 hdw
 go_enter Tryz.func47, Tryz.ntmps47
 obtain ⟨x0, x1, x2⟩ := W0.out.h0.three
 go_wp2_with fail
 refine (r7Foot_c t q s ((p : Int) - 1) _).mono ?_; rintro e w1 ⟨rfl, hb⟩; have W1 := hidp (W0.out.keep hb); clear hb W0
 obtain ⟨x0, x1, x2⟩ := W1.out.h0.three
 go_wp2_with fail
 refine (rGetA hn _ W1.out.at_).mono ?_; rintro e w2 ⟨rfl, h1, h2⟩; have W2 := hidp (W1.out.call h1 h2); clear h1 h2 W1; rw [HF.out]
 obtain ⟨x0, x1, x2⟩ := W2.out.h0.three
 go_wp2_with fail
 refine (r14Info_c hn ((f : Int) - 1) 1 l1 c1 o1 HI1.out W2.out.at_).mono ?_; rintro e w3 ⟨rfl, h1, h2⟩; have W3 := hidp (W2.out.call h1 h2); clear h1 h2 W2
 generalize hNI : w3.heap.size = NI at *
 replace W3 := hidp (W3.out.new 68 #[.int .i64 1, .int .i64 l1, .int .i64 c1])
 rw [hNI] at W3
 obtain ⟨i0, i1, i2⟩ := W3.out.h0.three
 obtain ⟨x0, x1, x2⟩ := W3.out.h1.three
 go_wp2_with fail
 refine (r14Drop_c hn (by omega) ((f : Int) - 1) W3.out.at_).mono ?_; rintro e w4 ⟨rfl, h1, h2⟩; have W4 := hidp (W3.out.call h1 h2); clear h1 h2 W3; rw [HDV.out]
 obtain ⟨i0, i1, i2⟩ := W4.out.h0.three
 obtain ⟨x0, x1, x2⟩ := W4.out.h1.three
 go_wp2_with fail
 refine (r7Info_c t q s (p : Int) _).mono ?_; rintro e w5 ⟨rfl, hb⟩; have W5 := hidp (W4.out.keep hb); clear hb W4
 obtain ⟨i0, i1, i2⟩ := W5.out.h0.three
 obtain ⟨x0, x1, x2⟩ := W5.out.h1.three
 go_wp2_with fail
 refine (rPutA hn _ 0 (by omega) W5.out.at_).mono ?_; rintro e w6 ⟨rfl, h1, h2⟩; have W6 := hidp (W5.out.call h1 h2); clear h1 h2 W5
 obtain ⟨i0, i1, i2⟩ := W6.out.h0.three
 obtain ⟨x0, x1, x2⟩ := W6.out.h1.three
 go_wp2_with fail
 refine (r7Foot_c t q s ((p : Int) - 1) _).mono ?_; rintro e w7 ⟨rfl, hb⟩; have W7 := hidp (W6.out.keep hb); clear hb W6
 obtain ⟨i0, i1, i2⟩ := W7.out.h0.three
 obtain ⟨x0, x1, x2⟩ := W7.out.h1.three
 go_wp2_with fail
 refine (rPutA hn _ 0 (by omega) W7.out.at_).mono ?_; rintro e w8 ⟨rfl, h1, h2⟩; have W8 := hidp (W7.out.call h1 h2); clear h1 h2 W7; rw [HS1.out] at W8
 obtain ⟨i0, i1, i2⟩ := W8.out.h0.three
 obtain ⟨x0, x1, x2⟩ := W8.out.h1.three
 go_wp2_with fail
 refine (r14Info_c hn ((p : Int) + (m : Int)) 1 l2 c2 o2 HI2.out W8.out.at_).mono ?_; rintro e w9 ⟨rfl, h1, h2⟩; have W9 := hidp (W8.out.call h1 h2); clear h1 h2 W8
 generalize hNJ : w9.heap.size = NJ at *
 replace W9 := hidp (W9.out.new 68 #[.int .i64 1, .int .i64 l2, .int .i64 c2])
 rw [hNJ] at W9
 obtain ⟨j0, j1, j2⟩ := W9.out.h0.three
 obtain ⟨i0, i1, i2⟩ := W9.out.h1.three
 obtain ⟨x0, x1, x2⟩ := W9.out.h2.three
 go_wp2_with fail
 refine (r14Drop_c hn (by omega) ((p : Int) + (m : Int)) W9.out.at_).mono ?_; rintro e w10 ⟨rfl, h1, h2⟩; have W10 := hidp (W9.out.call h1 h2); clear h1 h2 W9; rw [HDW.out]
 obtain ⟨j0, j1, j2⟩ := W10.out.h0.three
 obtain ⟨i0, i1, i2⟩ := W10.out.h1.three
 obtain ⟨x0, x1, x2⟩ := W10.out.h2.three
 go_wp2_with fail
 refine (r7Info_c t q s ((p : Int) + (m : Int)) _).mono ?_; rintro e w11 ⟨rfl, hb⟩; have W11 := hidp (W10.out.keep hb); clear hb W10
 obtain ⟨j0, j1, j2⟩ := W11.out.h0.three
 obtain ⟨i0, i1, i2⟩ := W11.out.h1.three
 obtain ⟨x0, x1, x2⟩ := W11.out.h2.three
 go_wp2_with fail
 refine (rPutA hn _ 0 (by omega) W11.out.at_).mono ?_; rintro e w12 ⟨rfl, h1, h2⟩; have W12 := hidp (W11.out.call h1 h2); clear h1 h2 W11
 obtain ⟨j0, j1, j2⟩ := W12.out.h0.three
 obtain ⟨i0, i1, i2⟩ := W12.out.h1.three
 obtain ⟨x0, x1, x2⟩ := W12.out.h2.three
 go_wp2_with fail
 refine (r7Foot_c t q s (((p : Int) + (m : Int)) - 1) _).mono ?_; rintro e w13 ⟨rfl, hb⟩; have W13 := hidp (W12.out.keep hb); clear hb W12
 obtain ⟨j0, j1, j2⟩ := W13.out.h0.three
 obtain ⟨i0, i1, i2⟩ := W13.out.h1.three
 obtain ⟨x0, x1, x2⟩ := W13.out.h2.three
 go_wp2_with fail
 refine (rPutA hn _ 0 (by omega) W13.out.at_).mono ?_; rintro e w14 ⟨rfl, h1, h2⟩; have W14 := hidp (W13.out.call h1 h2); clear h1 h2 W13; rw [HS2.out] at W14
 obtain ⟨j0, j1, j2⟩ := W14.out.h0.three
 obtain ⟨i0, i1, i2⟩ := W14.out.h1.three
 obtain ⟨x0, x1, x2⟩ := W14.out.h2.three
 go_wp2_with fail
 refine (r14Add_c hn (by omega) ((f : Int) - 1) (((m : Int) + dv) + dw) W14.out.at_).mono ?_; rintro e w15 ⟨rfl, h1, h2⟩; have W15 := hidp (W14.out.call h1 h2); clear h1 h2 W14
 obtain ⟨j0, j1, j2⟩ := W15.out.h0.three
 obtain ⟨i0, i1, i2⟩ := W15.out.h1.three
 obtain ⟨x0, x1, x2⟩ := W15.out.h2.three
 go_wp2_with fail
 refine (rGetA hn _ W15.out.at_).mono ?_; rintro e w16 ⟨rfl, h1, h2⟩; have W16 := hidp (W15.out.call h1 h2); clear h1 h2 W15; rw [HX.out]
 obtain ⟨j0, j1, j2⟩ := W16.out.h0.three
 obtain ⟨i0, i1, i2⟩ := W16.out.h1.three
 obtain ⟨x0, x1, x2⟩ := W16.out.h2.three
 go_wp2_with fail
 refine (rPutA hn _ y HY.out W16.out.at_).mono ?_; rintro e w17 ⟨rfl, h1, h2⟩; have W17 := hidp (W16.out.call h1 h2); clear h1 h2 W16
 obtain ⟨j0, j1, j2⟩ := W17.out.h0.three
 obtain ⟨i0, i1, i2⟩ := W17.out.h1.three
 obtain ⟨x0, x1, x2⟩ := W17.out.h2.three
 go_wp2
 go_end0
 exact ⟨rfl, W17.out.fin⟩

theorem r15Release_c (hn : n < 2 ^ 40) (hq : q <= 1024) (p m : Nat) (hp : p <= 1024) (hm : m <= 1024) (h : (rOb base b n all K).At w0 A G st w) :
  Calls Tryz.prog 47 #[.pointer (some ⟨b, 0, none⟩), .agg #[.int .i64 t, .int .i64 q, .int .i64 s], .int .i64 (p : Int), .int .i64 (m : Int)] w fun e w' => e = .returned (.tuple #[]) /\ (rOb base b n all K).At w0 A G (releaseS n K t q s p m st) w' /\ Stay G w w' := by
 by_cases h0 : p = 0
 ·by_cases hr : ((p : Int) + (m : Int)) < q
  ·obtain ⟨⟨k2, l2, c2, o2⟩, hi2⟩ : ∃ x, infoOf n K t q s ((p : Int) + (m : Int)) st = x := ⟨_, rfl⟩
   by_cases h2 : k2 = 1
   ·have d2 := dropV_few (n := n) (K := K) (t := t) (q := q) (s := s) ((p : Int) + (m : Int)) (getS n K st (pageI t q s ((p : Int) + (m : Int)) 0))
    have hR := relR_yes (n := n) (K := K) (t := t) (q := q) (s := s) (r := p + m) (st := st) (by rw [Int.natCast_add]; exact hr) (by rw [Int.natCast_add, hi2]; exact h2)
    rw [Int.natCast_add] at hR
    rw [releaseS_of (relL_zero h0) hR (x := (m : Int) + dropV n K t q s ((p : Int) + (m : Int)) (getS n K st (pageI t q s ((p : Int) + (m : Int)) 0))) (by omega)]
    exact r15Release_0_yes hn hq p m hp hm h0 hr k2 l2 c2 o2 hi2 h2 _ rfl d2.1 d2.2 _ rfl h
   ·have hR := relR_no (n := n) (K := K) (t := t) (q := q) (s := s) (r := p + m) (st := st) (by rw [Int.natCast_add]; exact hr) (by rw [Int.natCast_add, hi2]; exact h2)
    rw [Int.natCast_add] at hR
    rw [releaseS_of (relL_zero h0) hR (x := (m : Int)) (by omega)]
    exact r15Release_0_no hn hq p m hp hm h0 hr k2 l2 c2 o2 hi2 h2 _ rfl h
  ·have hR := relR_off (n := n) (K := K) (t := t) (q := q) (s := s) (r := p + m) (st := st) (by rw [Int.natCast_add]; exact hr)
   rw [releaseS_of (relL_zero h0) hR (x := (m : Int)) (by omega)]
   exact r15Release_0_off hn hq p m hp hm h0 hr h
 ·obtain ⟨f, hf⟩ : ∃ f, getV n K st (pageI t q s ((p : Int) - 1) 1) = f := ⟨_, rfl⟩
  obtain ⟨⟨k1, l1, c1, o1⟩, hi1⟩ : ∃ x, infoOf n K t q s ((f : Int) - 1) (getS n K st (pageI t q s ((p : Int) - 1) 1)) = x := ⟨_, rfl⟩
  by_cases h1 : k1 = 1
  ·have d1 := dropV_few (n := n) (K := K) (t := t) (q := q) (s := s) ((f : Int) - 1) (getS n K (getS n K st (pageI t q s ((p : Int) - 1) 1)) (pageI t q s ((f : Int) - 1) 0))
   by_cases hr : ((p : Int) + (m : Int)) < q
   ·obtain ⟨⟨k2, l2, c2, o2⟩, hi2⟩ : ∃ x, infoOf n K t q s ((p : Int) + (m : Int)) (putS n (putS n (dropS n K t q s ((f : Int) - 1) (getS n K (getS n K st (pageI t q s ((p : Int) - 1) 1)) (pageI t q s ((f : Int) - 1) 0))) (pageI t q s (p : Int) 0) 0) (pageI t q s ((p : Int) - 1) 1) 0) = x := ⟨_, rfl⟩
    by_cases h2 : k2 = 1
    ·have d2 := dropV_few (n := n) (K := K) (t := t) (q := q) (s := s) ((p : Int) + (m : Int)) (getS n K (putS n (putS n (dropS n K t q s ((f : Int) - 1) (getS n K (getS n K st (pageI t q s ((p : Int) - 1) 1)) (pageI t q s ((f : Int) - 1) 0))) (pageI t q s (p : Int) 0) 0) (pageI t q s ((p : Int) - 1) 1) 0) (pageI t q s ((p : Int) + (m : Int)) 0))
     have hR := relR_yes (n := n) (K := K) (t := t) (q := q) (s := s) (r := p + m) (st := (putS n (putS n (dropS n K t q s ((f : Int) - 1) (getS n K (getS n K st (pageI t q s ((p : Int) - 1) 1)) (pageI t q s ((f : Int) - 1) 0))) (pageI t q s (p : Int) 0) 0) (pageI t q s ((p : Int) - 1) 1) 0)) (by rw [Int.natCast_add]; exact hr) (by rw [Int.natCast_add, hi2]; exact h2)
     rw [Int.natCast_add] at hR
     rw [releaseS_of (relL_yes h0 hf (by rw [hi1]; exact h1)) hR (x := ((m : Int) + dropV n K t q s ((f : Int) - 1) (getS n K (getS n K st (pageI t q s ((p : Int) - 1) 1)) (pageI t q s ((f : Int) - 1) 0))) + dropV n K t q s ((p : Int) + (m : Int)) (getS n K (putS n (putS n (dropS n K t q s ((f : Int) - 1) (getS n K (getS n K st (pageI t q s ((p : Int) - 1) 1)) (pageI t q s ((f : Int) - 1) 0))) (pageI t q s (p : Int) 0) 0) (pageI t q s ((p : Int) - 1) 1) 0) (pageI t q s ((p : Int) + (m : Int)) 0))) (by omega)]
     exact r15Release_yes_yes hn hq p m hp hm h0 f hf k1 l1 c1 o1 hi1 h1 _ rfl d1.1 d1.2 _ rfl hr k2 l2 c2 o2 hi2 h2 _ rfl d2.1 d2.2 _ rfl h
    ·have hR := relR_no (n := n) (K := K) (t := t) (q := q) (s := s) (r := p + m) (st := (putS n (putS n (dropS n K t q s ((f : Int) - 1) (getS n K (getS n K st (pageI t q s ((p : Int) - 1) 1)) (pageI t q s ((f : Int) - 1) 0))) (pageI t q s (p : Int) 0) 0) (pageI t q s ((p : Int) - 1) 1) 0)) (by rw [Int.natCast_add]; exact hr) (by rw [Int.natCast_add, hi2]; exact h2)
     rw [Int.natCast_add] at hR
     rw [releaseS_of (relL_yes h0 hf (by rw [hi1]; exact h1)) hR (x := ((m : Int) + dropV n K t q s ((f : Int) - 1) (getS n K (getS n K st (pageI t q s ((p : Int) - 1) 1)) (pageI t q s ((f : Int) - 1) 0)))) (by omega)]
     exact r15Release_yes_no hn hq p m hp hm h0 f hf k1 l1 c1 o1 hi1 h1 _ rfl d1.1 d1.2 _ rfl hr k2 l2 c2 o2 hi2 h2 _ rfl h
   ·have hR := relR_off (n := n) (K := K) (t := t) (q := q) (s := s) (r := p + m) (st := (putS n (putS n (dropS n K t q s ((f : Int) - 1) (getS n K (getS n K st (pageI t q s ((p : Int) - 1) 1)) (pageI t q s ((f : Int) - 1) 0))) (pageI t q s (p : Int) 0) 0) (pageI t q s ((p : Int) - 1) 1) 0)) (by rw [Int.natCast_add]; exact hr)
    rw [releaseS_of (relL_yes h0 hf (by rw [hi1]; exact h1)) hR (x := ((m : Int) + dropV n K t q s ((f : Int) - 1) (getS n K (getS n K st (pageI t q s ((p : Int) - 1) 1)) (pageI t q s ((f : Int) - 1) 0)))) (by omega)]
    exact r15Release_yes_off hn hq p m hp hm h0 f hf k1 l1 c1 o1 hi1 h1 _ rfl d1.1 d1.2 _ rfl hr h
  ·by_cases hr : ((p : Int) + (m : Int)) < q
   ·obtain ⟨⟨k2, l2, c2, o2⟩, hi2⟩ : ∃ x, infoOf n K t q s ((p : Int) + (m : Int)) (getS n K (getS n K st (pageI t q s ((p : Int) - 1) 1)) (pageI t q s ((f : Int) - 1) 0)) = x := ⟨_, rfl⟩
    by_cases h2 : k2 = 1
    ·have d2 := dropV_few (n := n) (K := K) (t := t) (q := q) (s := s) ((p : Int) + (m : Int)) (getS n K (getS n K (getS n K st (pageI t q s ((p : Int) - 1) 1)) (pageI t q s ((f : Int) - 1) 0)) (pageI t q s ((p : Int) + (m : Int)) 0))
     have hR := relR_yes (n := n) (K := K) (t := t) (q := q) (s := s) (r := p + m) (st := (getS n K (getS n K st (pageI t q s ((p : Int) - 1) 1)) (pageI t q s ((f : Int) - 1) 0))) (by rw [Int.natCast_add]; exact hr) (by rw [Int.natCast_add, hi2]; exact h2)
     rw [Int.natCast_add] at hR
     rw [releaseS_of (relL_no h0 hf (by rw [hi1]; exact h1)) hR (x := (m : Int) + dropV n K t q s ((p : Int) + (m : Int)) (getS n K (getS n K (getS n K st (pageI t q s ((p : Int) - 1) 1)) (pageI t q s ((f : Int) - 1) 0)) (pageI t q s ((p : Int) + (m : Int)) 0))) (by omega)]
     exact r15Release_no_yes hn hq p m hp hm h0 f hf k1 l1 c1 o1 hi1 h1 _ rfl hr k2 l2 c2 o2 hi2 h2 _ rfl d2.1 d2.2 _ rfl h
    ·have hR := relR_no (n := n) (K := K) (t := t) (q := q) (s := s) (r := p + m) (st := (getS n K (getS n K st (pageI t q s ((p : Int) - 1) 1)) (pageI t q s ((f : Int) - 1) 0))) (by rw [Int.natCast_add]; exact hr) (by rw [Int.natCast_add, hi2]; exact h2)
     rw [Int.natCast_add] at hR
     rw [releaseS_of (relL_no h0 hf (by rw [hi1]; exact h1)) hR (x := (m : Int)) (by omega)]
     exact r15Release_no_no hn hq p m hp hm h0 f hf k1 l1 c1 o1 hi1 h1 _ rfl hr k2 l2 c2 o2 hi2 h2 _ rfl h
   ·have hR := relR_off (n := n) (K := K) (t := t) (q := q) (s := s) (r := p + m) (st := (getS n K (getS n K st (pageI t q s ((p : Int) - 1) 1)) (pageI t q s ((f : Int) - 1) 0))) (by rw [Int.natCast_add]; exact hr)
    rw [releaseS_of (relL_no h0 hf (by rw [hi1]; exact h1)) hR (x := (m : Int)) (by omega)]
    exact r15Release_no_off hn hq p m hp hm h0 f hf k1 l1 c1 o1 hi1 h1 _ rfl hr h
end
end
end Go.Proofs.YtnmhdlpnimdffaaGreatDoor
