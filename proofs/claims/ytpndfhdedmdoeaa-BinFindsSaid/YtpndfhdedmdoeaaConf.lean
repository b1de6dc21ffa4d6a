/-
  Contracts of the functions of package conf and of the document's answers to it.
-/
import Derived.Test.YtpndfhdedmdoeaaHalf
namespace Go.Proofs.Ytpndfhdedmdoeaa
open Go.ChangeShapes Go.WideShapes Go.ChangeAt Go.RowKit
set_option linter.unusedVariables false

/-- a number beyond its ends -/
def outB (v l m : Int) : Bool := decide (v < l ∨ m < v)
theorem outB_lt {v l m : Int} (h : v < l) : outB v l m = true := by unfold outB; simp [h]
theorem outB_gt {v l m : Int} (h : m < v) : outB v l m = true := by unfold outB; simp [h]
theorem outB_no {v l m : Int} (h : l ≤ v) (h' : v ≤ m) : outB v l m = false := by unfold outB; exact decide_eq_false (by omega)
/-- a right configuration -/
def rightB (t p s : Int) : Bool := !(outB t 1 16) && (!(outB p 4 1024) && !(outB s 10 20))
theorem rightB_iff (t p s : Int) : rightB t p s = true ↔ (1 ≤ t ∧ t ≤ 16) ∧ (4 ≤ p ∧ p ≤ 1024) ∧ 10 ≤ s ∧ s ≤ 20 := by
  unfold rightB outB
  simp only [Bool.and_eq_true, Bool.not_eq_true', decide_eq_false_iff_not]
  omega

theorem cfWrong_c (a v l m : Int) (w : World) :
    Calls Try.prog 121 #[.agg #[.int .i64 a, .int .i64 v, .int .i64 l, .int .i64 m]] w fun e w' => e = .returned (.bool (outB v l m)) ∧ Below w.heap.size w w' := by
  by_cases h0 : v < l
  · have H := hidp (outB_lt (m := m) h0)
    go_enter Try.func121, Try.ntmps121
    go_wp2
    go_ret
    exact ⟨by rw [H.out]; rfl, Bnew (B0 _) _⟩
  · by_cases h1 : m < v
    · have H := hidp (outB_gt (l := l) h1)
      go_enter Try.func121, Try.ntmps121
      go_wp2
      go_ret
      exact ⟨by rw [H.out]; rfl, Bnew (B0 _) _⟩
    · have H := hidp (outB_no (v := v) (l := l) (m := m) (by omega) (by omega))
      go_enter Try.func121, Try.ntmps121
      go_wp2
      go_ret
      exact ⟨by rw [H.out]; rfl, Bnew (B0 _) _⟩

/-- the three numbers, flat -/
def numV (t p s : Int) : Array Value := #[.int .i64 0, .int .i64 t, .int .i64 1, .int .i64 16, .int .i64 16, .int .i64 p, .int .i64 4, .int .i64 1024, .int .i64 32, .int .i64 s, .int .i64 10, .int .i64 20]
theorem cfNumbers_c (t p s : Int) (w : World) :
    Calls Try.prog 120 #[.agg #[.int .i64 t, .int .i64 p, .int .i64 s]] w fun e w' => e = .returned (.agg #[.int .i64 0, .int .i64 t, .int .i64 1, .int .i64 16, .int .i64 16, .int .i64 p, .int .i64 4, .int .i64 1024, .int .i64 32, .int .i64 s, .int .i64 10, .int .i64 20]) ∧ Below w.heap.size w w' := by
  go_enter Try.func120, Try.ntmps120
  go_wp2
  exact bodyPost_ret (v := .agg #[.int .i64 0, .int .i64 t, .int .i64 1, .int .i64 16, .int .i64 16, .int .i64 p, .int .i64 4, .int .i64 1024, .int .i64 32, .int .i64 s, .int .i64 10, .int .i64 20]) (by simp [results, Try.results120, go_sem]) rfl ⟨rfl, Bnew (Bnew (B0 _) _) _⟩

theorem num_cells {t p s : Int} {g : Nat} {T : TypeId} {w : World} (h : Held w g T (numV t p s)) : w.cell? ⟨g, 0, none⟩ = some (.int .i64 0) ∧ w.cell? ⟨g, 1, none⟩ = some (.int .i64 t) ∧ w.cell? ⟨g, 2, none⟩ = some (.int .i64 1) ∧ w.cell? ⟨g, 3, none⟩ = some (.int .i64 16) ∧ w.cell? ⟨g, 4, none⟩ = some (.int .i64 16) ∧ w.cell? ⟨g, 5, none⟩ = some (.int .i64 p) ∧ w.cell? ⟨g, 6, none⟩ = some (.int .i64 4) ∧ w.cell? ⟨g, 7, none⟩ = some (.int .i64 1024) ∧ w.cell? ⟨g, 8, none⟩ = some (.int .i64 32) ∧ w.cell? ⟨g, 9, none⟩ = some (.int .i64 s) ∧ w.cell? ⟨g, 10, none⟩ = some (.int .i64 10) ∧ w.cell? ⟨g, 11, none⟩ = some (.int .i64 20) :=
  ⟨h.cell 0, h.cell 1, h.cell 2, h.cell 3, h.cell 4, h.cell 5, h.cell 6, h.cell 7, h.cell 8, h.cell 9, h.cell 10, h.cell 11⟩
/-- the number at which it is told that a configuration is not right -/
def idxI (t p s : Int) : Int := if outB t 1 16 then 0 else if outB p 4 1024 then 1 else if outB s 10 20 then 2 else -1
set_option maxHeartbeats 1600000 in
theorem cfIndex_c (t p s : Int) (g : Nat) (w : World) (hc : Held w g 141 (numV t p s)) :
    Calls Try.prog 126 #[.slice (some ⟨g, 0, none⟩) 3 3, .func (.func 121) #[] #[]] w fun e w' => e = .returned (.int .i64 (idxI t p s)) ∧ Below w.heap.size w w' := by
  obtain ⟨c0, c1, c2, c3, c4, c5, c6, c7, c8, c9, c10, c11⟩ := num_cells hc
  cases h0 : outB t 1 16
  · cases h1 : outB p 4 1024
    · cases h2 : outB s 10 20
      · have HX0 := hidp h0
        have HX1 := hidp h1
        have HX2 := hidp h2
        have HI : Hid (idxI t p s = -1) := hidp (by unfold idxI; simp [h0, h1, h2])
        clear h0 h1 h2
        go_enter Try.func126, Try.ntmps126
        go_wp2
        refine wp_loop_rounds 4 ?_
        rw [rounds_succ]
        go_wp2_with fail
        refine (cfWrong_c 0 t 1 16 _).mono ?_
        rintro e w1 ⟨rfl, hb0⟩
        rw [HX0.out]
        have hc1 := hc.keep hb0
        clear c0 c1 c2 c3 c4 c5 c6 c7 c8 c9 c10 c11
        obtain ⟨d0, d1, d2, d3, d4, d5, d6, d7, d8, d9, d10, d11⟩ := num_cells hc1
        go_wp2_with fail
        rw [rounds_succ]
        go_wp2_with fail
        refine (cfWrong_c 16 p 4 1024 _).mono ?_
        rintro e w2 ⟨rfl, hb1⟩
        rw [HX1.out]
        have hc2 := hc1.keep hb1
        clear d0 d1 d2 d3 d4 d5 d6 d7 d8 d9 d10 d11
        obtain ⟨d0, d1, d2, d3, d4, d5, d6, d7, d8, d9, d10, d11⟩ := num_cells hc2
        go_wp2_with fail
        rw [rounds_succ]
        go_wp2_with fail
        refine (cfWrong_c 32 s 10 20 _).mono ?_
        rintro e w3 ⟨rfl, hb2⟩
        rw [HX2.out]
        have hc3 := hc2.keep hb2
        clear d0 d1 d2 d3 d4 d5 d6 d7 d8 d9 d10 d11
        obtain ⟨d0, d1, d2, d3, d4, d5, d6, d7, d8, d9, d10, d11⟩ := num_cells hc3
        go_wp2_with fail
        rw [rounds_succ]
        go_wp2
        go_ret
        exact ⟨by rw [HI.out]; rfl, Bgo (Bgo (Bgo (B0 _) hb0) hb1) hb2⟩
      · have HX0 := hidp h0
        have HX1 := hidp h1
        have HX2 := hidp h2
        have HI : Hid (idxI t p s = 2) := hidp (by unfold idxI; simp [h0, h1, h2])
        clear h0 h1 h2
        go_enter Try.func126, Try.ntmps126
        go_wp2
        refine wp_loop_rounds 3 ?_
        rw [rounds_succ]
        go_wp2_with fail
        refine (cfWrong_c 0 t 1 16 _).mono ?_
        rintro e w1 ⟨rfl, hb0⟩
        rw [HX0.out]
        have hc1 := hc.keep hb0
        clear c0 c1 c2 c3 c4 c5 c6 c7 c8 c9 c10 c11
        obtain ⟨d0, d1, d2, d3, d4, d5, d6, d7, d8, d9, d10, d11⟩ := num_cells hc1
        go_wp2_with fail
        rw [rounds_succ]
        go_wp2_with fail
        refine (cfWrong_c 16 p 4 1024 _).mono ?_
        rintro e w2 ⟨rfl, hb1⟩
        rw [HX1.out]
        have hc2 := hc1.keep hb1
        clear d0 d1 d2 d3 d4 d5 d6 d7 d8 d9 d10 d11
        obtain ⟨d0, d1, d2, d3, d4, d5, d6, d7, d8, d9, d10, d11⟩ := num_cells hc2
        go_wp2_with fail
        rw [rounds_succ]
        go_wp2_with fail
        refine (cfWrong_c 32 s 10 20 _).mono ?_
        rintro e w3 ⟨rfl, hb2⟩
        rw [HX2.out]
        have hc3 := hc2.keep hb2
        clear d0 d1 d2 d3 d4 d5 d6 d7 d8 d9 d10 d11
        obtain ⟨d0, d1, d2, d3, d4, d5, d6, d7, d8, d9, d10, d11⟩ := num_cells hc3
        go_wp2
        go_ret
        exact ⟨by rw [HI.out]; rfl, Bgo (Bgo (Bgo (B0 _) hb0) hb1) hb2⟩
    · have HX0 := hidp h0
      have HX1 := hidp h1
      have HI : Hid (idxI t p s = 1) := hidp (by unfold idxI; simp [h0, h1])
      clear h0 h1
      go_enter Try.func126, Try.ntmps126
      go_wp2
      refine wp_loop_rounds 2 ?_
      rw [rounds_succ]
      go_wp2_with fail
      refine (cfWrong_c 0 t 1 16 _).mono ?_
      rintro e w1 ⟨rfl, hb0⟩
      rw [HX0.out]
      have hc1 := hc.keep hb0
      clear c0 c1 c2 c3 c4 c5 c6 c7 c8 c9 c10 c11
      obtain ⟨d0, d1, d2, d3, d4, d5, d6, d7, d8, d9, d10, d11⟩ := num_cells hc1
      go_wp2_with fail
      rw [rounds_succ]
      go_wp2_with fail
      refine (cfWrong_c 16 p 4 1024 _).mono ?_
      rintro e w2 ⟨rfl, hb1⟩
      rw [HX1.out]
      have hc2 := hc1.keep hb1
      clear d0 d1 d2 d3 d4 d5 d6 d7 d8 d9 d10 d11
      obtain ⟨d0, d1, d2, d3, d4, d5, d6, d7, d8, d9, d10, d11⟩ := num_cells hc2
      go_wp2
      go_ret
      exact ⟨by rw [HI.out]; rfl, Bgo (Bgo (B0 _) hb0) hb1⟩
  · have HX0 := hidp h0
    have HI : Hid (idxI t p s = 0) := hidp (by unfold idxI; simp [h0])
    clear h0
    go_enter Try.func126, Try.ntmps126
    go_wp2
    refine wp_loop_rounds 1 ?_
    rw [rounds_succ]
    go_wp2_with fail
    refine (cfWrong_c 0 t 1 16 _).mono ?_
    rintro e w1 ⟨rfl, hb0⟩
    rw [HX0.out]
    have hc1 := hc.keep hb0
    clear c0 c1 c2 c3 c4 c5 c6 c7 c8 c9 c10 c11
    obtain ⟨d0, d1, d2, d3, d4, d5, d6, d7, d8, d9, d10, d11⟩ := num_cells hc1
    go_wp2
    go_ret
    exact ⟨by rw [HI.out]; rfl, Bgo (B0 _) hb0⟩

theorem idx_right {t p s : Int} (h : rightB t p s = true) : idxI t p s = -1 := by
  unfold rightB at h
  unfold idxI
  cases h0 : outB t 1 16 <;> cases h1 : outB p 4 1024 <;> cases h2 : outB s 10 20 <;> simp_all
theorem idx_wrong {t p s : Int} (h : rightB t p s = false) : ∃ k : Int, idxI t p s = k ∧ 0 ≤ k ∧ k ≤ 2 := by
  unfold rightB at h
  unfold idxI
  cases h0 : outB t 1 16 <;> cases h1 : outB p 4 1024 <;> cases h2 : outB s 10 20 <;> simp_all

theorem cfContains_c (t p s : Int) (g : Nat) (w : World) (hc : Held w g 141 (numV t p s)) :
    Calls Try.prog 122 #[.slice (some ⟨g, 0, none⟩) 3 3, .func (.func 121) #[] #[]] w fun e w' => e = .returned (.bool (!rightB t p s)) ∧ Below w.heap.size w w' := by
  cases hr : rightB t p s
  · obtain ⟨k, hk, h0, h2⟩ := idx_wrong hr
    have HK := hidp hk
    clear hk
    go_enter Try.func122, Try.ntmps122
    go_wp2_with fail
    refine (cfIndex_c t p s g _ hc).mono ?_
    rintro e w1 ⟨rfl, hb⟩
    rw [HK.out]
    go_wp2
    go_ret
    exact ⟨by first | rfl | trivial, hb⟩
  · have HK := hidp (idx_right hr)
    go_enter Try.func122, Try.ntmps122
    go_wp2_with fail
    refine (cfIndex_c t p s g _ hc).mono ?_
    rintro e w1 ⟨rfl, hb⟩
    rw [HK.out]
    go_wp2
    go_ret
    exact ⟨by first | rfl | trivial, hb⟩

/-- how it is told: 0, or 1 for ErrArg -/
def checkI (t p s : Int) : Int := if rightB t p s then 0 else 1
theorem check_yes {t p s : Int} (h : rightB t p s = true) : checkI t p s = 0 := by unfold checkI; rw [h]; rfl
theorem check_no {t p s : Int} (h : rightB t p s = false) : checkI t p s = 1 := by unfold checkI; rw [h]; rfl
theorem cfCheck_c (t p s : Int) (w : World) :
    Calls Try.prog 115 #[.agg #[.int .i64 t, .int .i64 p, .int .i64 s]] w fun e w' => e = .returned (.int .i64 (checkI t p s)) ∧ Below w.heap.size w w' := by
  cases hr : rightB t p s
  · have HK := hidp (check_no hr)
    have HR := hidp hr
    clear hr
    go_enter Try.func115, Try.ntmps115
    go_wp2_with fail
    refine (cfNumbers_c t p s _).mono ?_
    rintro e w1 ⟨rfl, hb1⟩
    go_wp2_with fail
    refine (cfContains_c t p s _ _ (Held.new w1 _ _)).mono ?_
    rintro e w2 ⟨rfl, hb2⟩
    rw [HR.out]
    go_wp2
    go_ret
    exact ⟨by rw [HK.out]; rfl, Bgo (Bnew (Bgo (Bnew (B0 _) _) hb1) _) hb2⟩
  · have HK := hidp (check_yes hr)
    have HR := hidp hr
    clear hr
    go_enter Try.func115, Try.ntmps115
    go_wp2_with fail
    refine (cfNumbers_c t p s _).mono ?_
    rintro e w1 ⟨rfl, hb1⟩
    go_wp2_with fail
    refine (cfContains_c t p s _ _ (Held.new w1 _ _)).mono ?_
    rintro e w2 ⟨rfl, hb2⟩
    rw [HR.out]
    go_wp2
    go_ret
    exact ⟨by rw [HK.out]; rfl, Bgo (Bnew (Bgo (Bnew (B0 _) _) hb1) _) hb2⟩
end Go.Proofs.Ytpndfhdedmdoeaa
