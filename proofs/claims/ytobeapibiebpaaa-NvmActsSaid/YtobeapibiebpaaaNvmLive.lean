/-
  The page's examples (nacrelaw10.live), and few.
-/
import Derived.Test.YtobeapibiebpaaaNvmDo
namespace Go.Proofs.Ytobeapibiebpaaa
open Go.ChangeShapes Go.WideShapes Go.ChangeAt Go.RowKit Go.Maps
set_option linter.unusedVariables false
set_option linter.unusedSimpArgs false

theorem few_c (A B : Option Addr) (n c m d : Nat) (w : World) :
    Calls Try.prog 7 #[.slice A n c, .slice B m d] w fun e w' => e = .returned (.bool (decide (n ≤ 64 ∧ m ≤ 200))) ∧ w' = w := by
  by_cases h1 : n ≤ 64
  · have t1 : decide ((n : Int) ≤ 64) = true := decide_eq_true (by omega)
    by_cases h2 : m ≤ 200
    · have t2 : decide ((m : Int) ≤ 200) = true := decide_eq_true (by omega)
      rw [decide_eq_true (p := n ≤ 64 ∧ m ≤ 200) ⟨h1, h2⟩]
      go_enter Try.func7, Try.ntmps7
      go_wp2
      go_ret
      exact ⟨by first | rfl | (simp; omega), rfl⟩
    · have t2 : decide ((m : Int) ≤ 200) = false := decide_eq_false (by omega)
      rw [decide_eq_false (p := n ≤ 64 ∧ m ≤ 200) (by omega)]
      go_enter Try.func7, Try.ntmps7
      go_wp2
      go_ret
      exact ⟨by first | rfl | (simp; omega), rfl⟩
  · have t1 : decide ((n : Int) ≤ 64) = false := decide_eq_false (by omega)
    rw [decide_eq_false (p := n ≤ 64 ∧ m ≤ 200) (by omega)]
    go_enter Try.func7, Try.ntmps7
    go_wp2
    go_ret
    exact ⟨by first | rfl | (simp; omega), rfl⟩

theorem live_1 : (storeS 8 (newS fun _ => 0) 3 9).K = fun _ => 0 := rfl
theorem live_2 : loadV 8 (newS fun _ => 0) 3 = 0 ∧ hasW 8 3 = true := by decide
theorem live_3 : (pendL (8 / 8) (flushS 8 (storeS 8 (newS fun _ => 0) 3 9) 0 3).P 0).length = 1 := by decide
theorem live_4 : loadV 8 (newS (fenceS 8 (flushS 8 (storeS 8 (newS fun _ => 0) 3 9) 0 3) 0).K) 3 = 9 := by decide
theorem make8 (w : World) : (Instr.makeSlice 22 (.int .i64 8) (.int .i64 8)).run Try.prog w = .ok (.slice (some ⟨w.heap.size, 0, none⟩) 8 8) (w.alloc (.cells #[.int .u64 0, .int .u64 0, .int .u64 0, .int .u64 0, .int .u64 0, .int .u64 0, .int .u64 0, .int .u64 0] 30)) := by kernel_rfl
theorem wf_0 : Hid ((Lit.int .i64 0).wf = true) := hidp (by decide)
set_option maxHeartbeats 1600000 in
theorem live_c (w : World) : Calls Try.prog 8 #[] w (Keeps w) := by
  have hmk := make8
  go_enter Try.func8, Try.ntmps8
  go_wp2_with fail
  refine (New_yes ⟨w.heap.size, 0, none⟩ 8 8 (fun _ => 0) (by omega) (by omega) (by omega) (by intro i; show (0 : Nat) < 2 ^ 64; decide) _ (by simp) (fun j hj => by
    rw [add_at, Held.cell (Held.new w 30 #[.int .u64 0, .int .u64 0, .int .u64 0, .int .u64 0, .int .u64 0, .int .u64 0, .int .u64 0, .int .u64 0]) j]
    match j, hj with
    | 0, _ | 1, _ | 2, _ | 3, _ | 4, _ | 5, _ | 6, _ | 7, _ => rfl)).mono ?_
  rintro e w1 ⟨o, hn, rfl, hI, ob, og, oh, om, hB⟩
  have HN := hidp hn
  have HB := hidp (Bgo (Bnew (B0 w) _) hB)
  have HF : Hid (∀ i, o.F i → w.heap.size ≤ i) := hidp (fun i hi => by
    simp at og oh om
    rcases hi with rfl | rfl | rfl <;> omega)
  have HI := hidp hI
  clear hn hI hB ob og oh om hmk
  go_wp2_with fail
  refine (Store_c o 0 _ 3 9 (by decide) _ HI.out).mono ?_
  rintro e w2 ⟨rfl, hI2, hT2⟩
  have HI2 := hidp hI2
  have HT2 := hidp hT2
  clear hI2 hT2
  go_wp2_with fail
  refine (Crash_m o 0 _ _ HI2.out).mono ?_
  rintro e w3 ⟨rfl, hI3, hT3⟩
  rw [HN.out, live_1] at hI3
  have HI3 := hidp hI3
  have HT3 := hidp hT3
  clear hI3 hT3
  go_wp2_with fail
  refine (Load_c o 0 _ 3 _ HI3.out).mono ?_
  rintro e w4 ⟨rfl, rfl⟩
  rw [HN.out, live_2.1, live_2.2]
  go_wp2_with fail
  refine (Store_c o 0 _ 3 9 (by decide) _ HI3.out).mono ?_
  rintro e w5 ⟨rfl, hI5, hT5⟩
  rw [HN.out] at hI5
  have HI5 := hidp hI5
  have HT5 := hidp hT5
  clear hI5 hT5
  go_wp2_with fail
  refine (Flush_c o 0 _ 0 3 _ (by omega) HI5.out).mono ?_
  rintro e w6 ⟨rfl, hI6, hT6⟩
  rw [HN.out] at hI6
  have HI6 := hidp hI6
  have HT6 := hidp hT6
  clear hI6 hT6
  go_wp2_with fail
  refine (Fence_m o _ _ 0 wf_0.out (by omega) _ HI6.out).mono ?_
  rintro e w7 ⟨rfl, hI7, hT7⟩
  rw [HN.out] at hI7 ⊢
  rw [live_3]
  have HI7 := hidp hI7
  have HT7 := hidp hT7
  clear hI7 hT7
  go_wp2_with fail
  refine (Crash_m o _ _ _ HI7.out).mono ?_
  rintro e w8 ⟨rfl, hI8, hT8⟩
  have HI8 := hidp hI8
  have HT8 := hidp hT8
  clear hI8 hT8
  go_wp2_with fail
  refine (Load_c o _ _ 3 _ HI8.out).mono ?_
  rintro e w9 ⟨rfl, rfl⟩
  rw [HN.out, live_4, live_2.2]
  go_wp2
  go_ret
  exact ⟨rfl, ((((((HT2.out.trans HT3.out).trans HT5.out).trans HT6.out).trans HT7.out).trans HT8.out)).below HB.out HF.out⟩
end Go.Proofs.Ytobeapibiebpaaa
