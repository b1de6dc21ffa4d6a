/-
  The page's example (nacrelaw13.live).
-/
import Derived.Test.YthiobfghanlelaaLinkWalk
import Derived.Test.YthiobfghanlelaaLinkRWalk
import Derived.Test.YthiobfghanlelaaDuo
namespace Go.Proofs.Ythiobfghanlelaa
open Go.ChangeShapes Go.WideShapes Go.ChangeAt Go.RowKit Go.Maps
set_option linter.unusedVariables false
set_option linter.unusedSimpArgs false
set_option maxRecDepth 100000

theorem few_c (t q s : Int) (w : World) : Calls Try.prog 6 #[.agg #[.int .i64 t, .int .i64 q, .int .i64 s]] w fun e w' => e = .returned (.bool (decide (q ≤ 64))) ∧ Below w.heap.size w w' := by
  go_enter Try.func6, Try.ntmps6
  go_wp2
  go_ret
  exact ⟨rfl, Bnew (B0 _) _⟩
theorem make58 (w : World) : (Instr.makeSlice 24 (.int .i64 58) (.int .i64 58)).run Try.prog w = .ok (.slice (some ⟨w.heap.size, 0, none⟩) 58 58) (w.alloc (.cells (Array.replicate 58 (.int .u32 0)) 54)) := by kernel_rfl
def exK : Nat → Option Nat := fun i => (List.replicate 58 0)[i]?
def exS : Vst := ⟨[2], [(48, 0), (49, 0), (2, 3)], false, 0⟩
theorem ex_push : pushI 58 exK 1 4 10 2 2 freshS = exS := by rfl
theorem ex_get2 : getV 58 exK exS 2 = 3 ∧ getS 58 exK exS 2 = exS := ⟨by decide, by rfl⟩
theorem ex_next : pageI 1 4 10 2 2 = 48 := by decide
theorem ex_get48 : getV 58 exK exS 48 = 0 ∧ getS 58 exK exS 48 = exS := ⟨by decide, by rfl⟩
theorem ex_walk : walkL 58 exK 1 4 10 2 exS = [2] := by rfl

set_option maxHeartbeats 1600000 in
theorem live_c (w : World) : Calls Try.prog 7 #[] w fun e w' => e = .returned (.bool true) ∧ Below w.heap.size w w' := by
  have hmk := make58
  have HC0 := hidp ((Held.new w 23 #[.int .i64 1, .int .i64 4, .int .i64 10]).alloc (.cells (Array.replicate 58 (.int .u32 0)) 54))
  have HH := hidp (Held.new2 w (.cells #[.int .i64 1, .int .i64 4, .int .i64 10] 23) 54 (Array.replicate 58 (.int .u32 0)))
  have HB0 := hidp (Bnew (Bnew (B0 w) (.cells #[.int .i64 1, .int .i64 4, .int .i64 10] 23)) (.cells (Array.replicate 58 (.int .u32 0)) 54))
  have HSZ : Hid (((w.alloc (.cells #[.int .i64 1, .int .i64 4, .int .i64 10] 23)).alloc (.cells (Array.replicate 58 (.int .u32 0)) 54)).heap.size = w.heap.size + 2) := hidp (by simp)
  obtain ⟨x0, x1, x2⟩ := HC0.out.three
  go_enter Try.func7, Try.ntmps7
  go_wp2_with fail
  generalize hw0 : (w.alloc (.cells #[.int .i64 1, .int .i64 4, .int .i64 10] 23)).alloc (.cells (Array.replicate 58 (.int .u32 0)) 54) = W0 at *
  refine (Whole_c (some ⟨w.heap.size + 1, 0, none⟩) 58 (List.replicate 58 0) 58 (by simp) (by omega) (by simp) W0 (fun _ => ⟨_, rfl, fun j u hu => ?_⟩)).mono ?_
  · have hj : j < 58 := by
      rcases Nat.lt_or_ge j 58 with h1 | h1
      · exact h1
      · rw [List.getElem?_eq_none (by simp [valVs]; omega)] at hu; cases hu
    have e : (⟨w.heap.size + 1, 0, none⟩ : Addr).add j = ⟨w.heap.size + 1, j, none⟩ := by
      unfold Addr.add
      by_cases hz : j = 0
      · rw [if_pos hz, hz]
      · rw [if_neg hz]; simp
    rw [e, HH.out.cell j]
    simp only [valVs, List.map_replicate, List.getElem?_replicate, hj, if_true] at hu
    rw [Array.getElem?_replicate, if_pos hj]
    exact hu
  rintro e w1 ⟨b, o, rfl, hI, hB⟩
  have HD1 := hidp (duo_made (W := w) (G := fun g => g = w.heap.size) hI (by have := HSZ.out; omega) (Bgo HB0.out hB) (fun g hg => by
    subst hg
    exact ⟨by have := hB.size; have := HSZ.out; omega, fun x => by have := hI.ge _ x; have := HSZ.out; omega⟩))
  have HC1 := hidp (HC0.out.keep hB)
  obtain ⟨x0, x1, x2⟩ := HC1.out.three
  clear hI hB HC0 HH HB0
  go_wp2_with fail
  refine (lkPush_c (by omega) (by omega) (2 : Int) HD1.out.at1).mono ?_
  rintro e w2 ⟨rfl, h1, _⟩
  obtain ⟨A2, h2, h3⟩ := HD1.out.left1 h1.left
  rw [show (fun i => (List.replicate 58 0)[i]?) = exK from rfl, ex_push] at h2
  have HD2 := hidp h2
  have HC2 := hidp (h3.held rfl HC1.out)
  obtain ⟨x0, x1, x2⟩ := HC2.out.three
  clear h1 h2 h3 HD1 HC1
  go_wp2_with fail
  refine (vGetA (by omega) (2 : Int) HD2.out.at1).mono ?_
  rintro e w3 ⟨rfl, h1, _⟩
  obtain ⟨A3, h2, h3⟩ := HD2.out.left1 h1.left
  rw [ex_get2.2] at h2
  rw [ex_get2.1]
  have HD3 := hidp h2
  have HC3 := hidp (h3.held rfl HC2.out)
  obtain ⟨x0, x1, x2⟩ := HC3.out.three
  clear h1 h2 h3 HD2 HC2
  go_wp2_with fail
  refine (r7Next_c 1 4 10 2 _).mono ?_
  rintro e w4 ⟨rfl, hb⟩
  rw [ex_next]
  have HD4 := hidp (HD3.out.keep hb)
  have HC4 := hidp (HC3.out.keep hb)
  obtain ⟨x0, x1, x2⟩ := HC4.out.three
  clear hb HD3 HC3
  go_wp2_with fail
  refine (vGetA (by omega) (48 : Int) HD4.out.at1).mono ?_
  rintro e w5 ⟨rfl, h1, _⟩
  obtain ⟨A5, h2, h3⟩ := HD4.out.left1 h1.left
  rw [ex_get48.2] at h2
  rw [ex_get48.1]
  have HD5 := hidp h2
  have HC5 := hidp (h3.held rfl HC4.out)
  obtain ⟨x0, x1, x2⟩ := HC5.out.three
  clear h1 h2 h3 HD4 HC4
  go_wp2_with fail
  refine (lkWalk_c (by omega) (by omega) HD5.out.at1).mono ?_
  intro e w6 hw
  obtain ⟨u, A6, rfl, ho, hd, _⟩ := HD5.out.walk1 hw
  rw [ex_walk] at ho
  have HR6 := hidp ((rowV_nat6 ho).alloc (.cells #[.int .i64 2] 3))
  have HB6 := hidp hd.bel
  have HL6 := hidp (RowV.lit w6 #[.int .i64 2] 3 1 rfl (by unfold maxLen; omega))
  clear hw ho hd HD5 HC5 x0 x1 x2
  go_wp2_with fail
  refine (Ints_same [2] _ _ _ HR6.out HL6.out).mono ?_
  rintro e w7 ⟨rfl, j, rfl⟩
  go_wp2
  go_ret
  exact ⟨rfl, Bdraw (Bnew HB6.out _) j⟩
end Go.Proofs.Ythiobfghanlelaa
