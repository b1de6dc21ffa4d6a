/-
  The page's example (nacrelaw14.live).
-/
import Derived.Test.YtpndfhdedmdoeaaBinFind
import Derived.Test.YtpndfhdedmdoeaaBinRFind
import Derived.Test.YtpndfhdedmdoeaaDuo
namespace Go.Proofs.Ytpndfhdedmdoeaa
open Go.ChangeShapes Go.WideShapes Go.ChangeAt Go.RowKit Go.Maps
set_option linter.unusedVariables false
set_option linter.unusedSimpArgs false
set_option maxRecDepth 100000

theorem few14_c (t q s : Int) (w : World) : Calls Try.prog 6 #[.agg #[.int .i64 t, .int .i64 q, .int .i64 s]] w fun e w' => e = .returned (.bool (decide (q ≤ 64))) ∧ Below w.heap.size w w' := by
  go_enter Try.func6, Try.ntmps6
  go_wp2
  go_ret
  exact ⟨rfl, Bnew (B0 _) _⟩
theorem make82 (w : World) : (Instr.makeSlice 24 (.int .i64 82) (.int .i64 82)).run Try.prog w = .ok (.slice (some ⟨w.heap.size, 0, none⟩) 82 82) (w.alloc (.cells (Array.replicate 82 (.int .u32 0)) 62)) := by kernel_rfl
/-- the example's values -/
def ex14L : List Nat := ((((List.replicate 82 0).set 0 8).set 5 1).set 34 129).set 77 1
def ex14C : Array Value := ((((Array.replicate 82 (Value.int .u32 0)).setIfInBounds 0 (.int .u32 8)).setIfInBounds 5 (.int .u32 1)).setIfInBounds 34 (.int .u32 129)).setIfInBounds 77 (.int .u32 1)
theorem ex14_eq : ex14C.toList = valVs ex14L := by
  unfold ex14C ex14L valVs
  simp only [Array.toList_setIfInBounds, Array.toList_replicate, List.map_set, List.map_replicate]
  rfl
def ex14K : Nat → Option Nat := fun i => ex14L[i]?
theorem ex14_find5 : (findI 82 ex14K 1 8 10 5 freshS).1 = some 0 := by decide +kernel
theorem ex14_find9 (st : Vst) : findI 82 ex14K 1 8 10 9 st = (none, st) := findI_no (by omega)
theorem ex14_of : ofI 5 = 2 := by decide +kernel

set_option maxHeartbeats 1600000 in
theorem Eight14_c (w : World) : Calls Try.prog 25 #[] w fun e w' => ∃ g, e = .returned (.tuple #[.agg #[.int .i64 1, .int .i64 8, .int .i64 10], .slice (some ⟨g, 0, none⟩) 82 82]) ∧ Held w' g 62 ex14C ∧ Below w.heap.size w w' := by
  have hmk := make82
  have HC := (Held.new w 23 #[.int .i64 0, .int .i64 0, .int .i64 0]).alloc (.cells (Array.replicate 82 (.int .u32 0)) 62)
  have HG := Held.new2 w (.cells #[.int .i64 0, .int .i64 0, .int .i64 0] 23) 62 (Array.replicate 82 (.int .u32 0))
  have g0 : _ = some (Value.int .u32 0) := (HG.cell 0).trans (by simp)
  have g1 : _ = some (Value.int .u32 0) := (HG.cell 5).trans (by simp)
  have g2 : _ = some (Value.int .u32 0) := (HG.cell 34).trans (by simp)
  have g3 : _ = some (Value.int .u32 0) := (HG.cell 77).trans (by simp)
  have f0 := HG.thawed
  obtain ⟨c0, c1, c2⟩ := HC.three
  have f1 := HC.thawed
  clear HC HG
  go_enter Try.func25, Try.ntmps25
  go_wp2
  refine bodyPost_ret (v := .tuple #[.agg #[.int .i64 1, .int .i64 8, .int .i64 10], .slice (some ⟨w.heap.size + 1, 0, none⟩) 82 82]) (by simp [results, Try.results25, go_sem]) rfl ⟨w.heap.size + 1, rfl, ?_, ?_⟩
  · unfold ex14C
    exact Held.new2 w (.cells #[.int .i64 1, .int .i64 8, .int .i64 10] 23) 62 _
  · exact Bnew (Bnew (B0 w) _) _
end Go.Proofs.Ytpndfhdedmdoeaa
