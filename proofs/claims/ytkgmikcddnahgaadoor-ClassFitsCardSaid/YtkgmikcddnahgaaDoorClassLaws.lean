/-
  The page's examples; the walks of ClassTables and ClassOf.
-/
import Derived.Test.YtkgmikcddnahgaaDoorClassTable
import Derived.Test.YtkgmikcddnahgaaDoorLaid
namespace Go.Proofs.YtkgmikcddnahgaaDoor
open Go.ChangeShapes Go.WideShapes Go.ChangeAt Go.RowKit
set_option linter.unusedVariables false
set_option linter.unusedSimpArgs false

theorem RowV.alloc {w : World} {v : Value} {xs : List Value} (h : RowV w v xs) (o : Obj) : RowV (w.alloc o) v xs := h.below (Bnew (B0 _) _)

def exL : List Int := [32, 48, 64, 96, 128, 192, 256, 336, 512]
def exV : Array Value := #[.int .i64 32, .int .i64 48, .int .i64 64, .int .i64 96, .int .i64 128, .int .i64 192, .int .i64 256, .int .i64 336, .int .i64 512]
theorem exRow (w : World) : RowV (w.alloc (.cells exV 2)) (.slice (some ⟨w.heap.size, 0, none⟩) 9 9) (exL.map (Value.int .i64)) := by
  refine RowV.of_own (base := w.heap.size) (e := 2) ?_
  exact World.ownsRow_lit (base := w.heap.size) (e := 2) (size := 1) w exV 9 (Nat.le_refl _) (by unfold maxLen; omega) rfl
theorem ex_table : tableL 10 = exL := by decide +kernel
theorem ex_33 : classK 10 33 = 1 ∧ classB 10 33 = true := by decide +kernel
theorem ex_513 : classK 10 513 = 0 ∧ classB 10 513 = false := by decide +kernel

set_option maxHeartbeats 800000 in
theorem live_c (w : World) (hT : SlotsLaid w) : Calls Tryd.prog 13 #[] w (Keeps w) := by
  have HT := hidp hT
  clear hT
  go_enter Tryd.func13, Tryd.ntmps13
  go_wp2_with fail
  refine (clOf_c 10 33 _ HT.out).mono ?_
  rintro e w1 ⟨rfl, hb1⟩
  rw [ex_33.1, ex_33.2]
  have HT1 := hidp (HT.out.below hb1)
  go_wp2_with fail
  refine (clOf_c 10 513 _ HT1.out).mono ?_
  rintro e w2 ⟨rfl, hb2⟩
  rw [ex_513.1, ex_513.2]
  have HT2 := hidp (HT1.out.below hb2)
  go_wp2_with fail
  refine (clTable_c 10 _ HT2.out).mono ?_
  rintro e w3 ⟨v, rfl, hr, hb3⟩
  rw [ex_table] at hr
  have HR := hidp (hr.alloc (.cells exV 2))
  clear hr
  go_wp2_with fail
  refine (Longs_same exL v _ _ HR.out (exRow w3)).mono ?_
  rintro e w4 ⟨rfl, n, rfl⟩
  go_wp2
  go_ret
  refine ⟨rfl, ?_⟩
  exact Bdraw (Bnew (Bgo (Bgo (Bgo (B0 _) hb1) hb2) hb3) _) _

set_option maxHeartbeats 800000 in
theorem ClassTables_calls (s k : Int) (h0 : -9223372036854775808 ≤ k) (h1 : k ≤ 9223372036854775807) (w : World) (hT : SlotsLaid w) :
    Calls Tryd.prog 3 #[.int .i64 s, .int .i64 k] w (Keeps w) := by
  have HT := hidp hT
  clear hT
  go_enter Tryd.func3, Tryd.ntmps3
  go_wp2_with fail
  refine (clSlots_c k h0 h1 _ HT.out).mono ?_
  rintro e w' ⟨rfl, rfl⟩
  go_wp2_with fail
  refine (r5Slots_c k h0 h1 _).mono ?_
  rintro e w' ⟨rfl, rfl⟩
  go_wp2_with fail
  refine (clSize_c s k h0 h1 _ HT.out).mono ?_
  rintro e w1 ⟨rfl, hb1⟩
  have HT1 := hidp (HT.out.below hb1)
  go_wp2_with fail
  refine (r5Size_c s k h0 h1 _).mono ?_
  rintro e w2 ⟨rfl, hb2⟩
  have HT2 := hidp (HT1.out.below hb2)
  go_wp2_with fail
  refine (clTable_c s _ HT2.out).mono ?_
  rintro e w3 ⟨v, rfl, hr, hb3⟩
  have HT3 := hidp (HT2.out.below hb3)
  have HR := hidp hr
  clear hr
  go_wp2_with fail
  refine (r5Table_c s _).mono ?_
  rintro e w4 ⟨u, rfl, hr4, hb4⟩
  have HT4 := hidp (HT3.out.below hb4)
  have HR4 := hidp hr4
  have HR3 := hidp (HR.out.below hb4)
  clear hr4
  go_wp2_with fail
  refine (Longs_same (tableL s) v u _ HR3.out HR4.out).mono ?_
  rintro e w5 ⟨rfl, n, rfl⟩
  go_wp2_with fail
  refine (live_c _ (HT4.out.drewN n)).mono ?_
  rintro e w6 ⟨rfl, hb6⟩
  go_wp2
  go_ret
  refine ⟨rfl, ?_⟩
  exact Bgo (Bdraw (Bgo (Bgo (Bgo (Bgo (B0 _) hb1) hb2) hb3) hb4) _) hb6

set_option maxHeartbeats 800000 in
theorem ClassOf_calls (s z : Int) (w : World) (hT : SlotsLaid w) :
    Calls Tryd.prog 4 #[.int .i64 s, .int .i64 z] w (Keeps w) := by
  have HT := hidp hT
  clear hT
  go_enter Tryd.func4, Tryd.ntmps4
  go_wp2_with fail
  refine (clOf_c s z _ HT.out).mono ?_
  rintro e w1 ⟨rfl, hb1⟩
  have HT1 := hidp (HT.out.below hb1)
  go_wp2_with fail
  refine (r5Of_c s z _).mono ?_
  rintro e w2 ⟨rfl, hb2⟩
  have HT2 := hidp (HT1.out.below hb2)
  go_wp2_with fail
  refine (live_c _ HT2.out).mono ?_
  rintro e w6 ⟨rfl, hb6⟩
  go_wp2
  go_ret
  refine ⟨?_, Bgo (Bgo (Bgo (B0 _) hb1) hb2) hb6⟩
  simp

end Go.Proofs.YtkgmikcddnahgaaDoor
