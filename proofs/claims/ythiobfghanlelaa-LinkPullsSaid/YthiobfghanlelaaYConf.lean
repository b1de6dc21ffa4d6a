/-
  Contracts of the functions of package conf and of the document's answers to it.
-/
import Derived.Test.YthiobfghanlelaaYHalf
import Derived.Deep.RegionHeld3
import Derived.IntWalk
import Derived.KernelRfl
namespace Go.Proofs.Ythiobfghanlelaa
open Go.ChangeShapes Go.WideShapes Go.ChangeAt Go.RowKit
set_option linter.unusedVariables false

/-- a number beyond its ends -/
def outB (v l m : Int) : Bool := decide (v < l ∨ m < v)
theorem outB_lt {v l m : Int} (h : v < l) : outB v l m = true := by unfold outB; simp [h]
theorem outB_gt {v l m : Int} (h : m < v) : outB v l m = true := by unfold outB; simp [h]
theorem outB_no {v l m : Int} (h : l ≤ v) (h' : v ≤ m) : outB v l m = false := by unfold outB; exact decide_eq_false (by omega)
/-- a right configuration -/
def rightB (t p s : Int) : Bool := !(outB t 1 16) && (!(outB p 4 1024) && !(outB s 10 20))
theorem rightB_iff (t p s : Int) : rightB t p s = true ↔ (1 ≤ t ∧ t ≤ 16) ∧ (4 ≤ p ∧ p ≤ 1024) ∧ 10 ≤ s ∧ s ≤ 20 := by
  unfold rightB outB
  simp only [Bool.and_eq_true, Bool.not_eq_true', decide_eq_false_iff_not]
  omega

theorem cfWrong_c (a v l m : Int) (w : World) :
    Calls Try.prog 97 #[.agg #[.int .i64 a, .int .i64 v, .int .i64 l, .int .i64 m]] w fun e w' => e = .returned (.bool (outB v l m)) ∧ Below w.heap.size w w' := by
  by_cases h0 : v < l
  · have H := hidp (outB_lt (m := m) h0)
    go_enter Try.func97, Try.ntmps97
    go_wp2
    go_ret
    exact ⟨by rw [H.out]; rfl, Bnew (B0 _) _⟩
  · by_cases h1 : m < v
    · have H := hidp (outB_gt (l := l) h1)
      go_enter Try.func97, Try.ntmps97
      go_wp2
      go_ret
      exact ⟨by rw [H.out]; rfl, Bnew (B0 _) _⟩
    · have H := hidp (outB_no (v := v) (l := l) (m := m) (by omega) (by omega))
      go_enter Try.func97, Try.ntmps97
      go_wp2
      go_ret
      exact ⟨by rw [H.out]; rfl, Bnew (B0 _) _⟩

/-- the three numbers, flat -/
def numV (t p s : Int) : Array Value := #[.int .i64 0, .int .i64 t, .int .i64 1, .int .i64 16, .int .i64 16, .int .i64 p, .int .i64 4, .int .i64 1024, .int .i64 32, .int .i64 s, .int .i64 10, .int .i64 20]
theorem cfNumbers_c (t p s : Int) (w : World) :
    Calls Try.prog 96 #[.agg #[.int .i64 t, .int .i64 p, .int .i64 s]] w fun e w' => e = .returned (.agg #[.int .i64 0, .int .i64 t, .int .i64 1, .int .i64 16, .int .i64 16, .int .i64 p, .int .i64 4, .int .i64 1024, .int .i64 32, .int .i64 s, .int .i64 10, .int .i64 20]) ∧ Below w.heap.size w w' := by
  go_enter Try.func96, Try.ntmps96
  go_wp2
  exact bodyPost_ret (v := .agg #[.int .i64 0, .int .i64 t, .int .i64 1, .int .i64 16, .int .i64 16, .int .i64 p, .int .i64 4, .int .i64 1024, .int .i64 32, .int .i64 s, .int .i64 10, .int .i64 20]) (by simp [results, Try.results96, go_sem]) rfl ⟨rfl, Bnew (Bnew (B0 _) _) _⟩

theorem num_cells {t p s : Int} {g : Nat} {T : TypeId} {w : World} (h : Held w g T (numV t p s)) : w.cell? ⟨g, 0, none⟩ = some (.int .i64 0) ∧ w.cell? ⟨g, 1, none⟩ = some (.int .i64 t) ∧ w.cell? ⟨g, 2, none⟩ = some (.int .i64 1) ∧ w.cell? ⟨g, 3, none⟩ = some (.int .i64 16) ∧ w.cell? ⟨g, 4, none⟩ = some (.int .i64 16) ∧ w.cell? ⟨g, 5, none⟩ = some (.int .i64 p) ∧ w.cell? ⟨g, 6, none⟩ = some (.int .i64 4) ∧ w.cell? ⟨g, 7, none⟩ = some (.int .i64 1024) ∧ w.cell? ⟨g, 8, none⟩ = some (.int .i64 32) ∧ w.cell? ⟨g, 9, none⟩ = some (.int .i64 s) ∧ w.cell? ⟨g, 10, none⟩ = some (.int .i64 10) ∧ w.cell? ⟨g, 11, none⟩ = some (.int .i64 20) :=
  ⟨h.cell 0, h.cell 1, h.cell 2, h.cell 3, h.cell 4, h.cell 5, h.cell 6, h.cell 7, h.cell 8, h.cell 9, h.cell 10, h.cell 11⟩
/-- the number at which it is told that a configuration is not right -/
def idxI (t p s : Int) : Int := if outB t 1 16 then 0 else if outB p 4 1024 then 1 else if outB s 10 20 then 2 else -1
set_option maxHeartbeats 1600000 in
theorem cfIndex_c (t p s : Int) (g : Nat) (w : World) (hc : Held w g 127 (numV t p s)) :
    Calls Try.prog 101 #[.slice (some ⟨g, 0, none⟩) 3 3, .func (.func 97) #[] #[]] w fun e w' => e = .returned (.int .i64 (idxI t p s)) ∧ Below w.heap.size w w' := by
  obtain ⟨c0, c1, c2, c3, c4, c5, c6, c7, c8, c9, c10, c11⟩ := num_cells hc
  cases h0 : outB t 1 16
  · cases h1 : outB p 4 1024
    · cases h2 : outB s 10 20
      · have HX0 := hidp h0
        have HX1 := hidp h1
        have HX2 := hidp h2
        have HI : Hid (idxI t p s = -1) := hidp (by unfold idxI; simp [h0, h1, h2])
        clear h0 h1 h2
        go_enter Try.func101, Try.ntmps101
        go_wp2
        refine wp_loop_rounds 4 ?_
        rw [rounds_succ]
        go_wp2_with fail
        refine (cfWrong_c 0 t 1 16 _).mono ?_
        rintro e w1 ⟨rfl, hb0⟩
        rw [HX0.out]
        have hc1 := hc.keep hb0
        clear c0 c1 c2 c3 c4 c5 c6 c7 c8 c9 c10 c11
        obtain ⟨d0, d1, d2, d3, d4, d5, d6, d7, d8, d9, d10, d11⟩ := num_cells hc1
        go_wp2_with fail
        rw [rounds_succ]
        go_wp2_with fail
        refine (cfWrong_c 16 p 4 1024 _).mono ?_
        rintro e w2 ⟨rfl, hb1⟩
        rw [HX1.out]
        have hc2 := hc1.keep hb1
        clear d0 d1 d2 d3 d4 d5 d6 d7 d8 d9 d10 d11
        obtain ⟨d0, d1, d2, d3, d4, d5, d6, d7, d8, d9, d10, d11⟩ := num_cells hc2
        go_wp2_with fail
        rw [rounds_succ]
        go_wp2_with fail
        refine (cfWrong_c 32 s 10 20 _).mono ?_
        rintro e w3 ⟨rfl, hb2⟩
        rw [HX2.out]
        have hc3 := hc2.keep hb2
        clear d0 d1 d2 d3 d4 d5 d6 d7 d8 d9 d10 d11
        obtain ⟨d0, d1, d2, d3, d4, d5, d6, d7, d8, d9, d10, d11⟩ := num_cells hc3
        go_wp2_with fail
        rw [rounds_succ]
        go_wp2
        go_ret
        exact ⟨by rw [HI.out]; rfl, Bgo (Bgo (Bgo (B0 _) hb0) hb1) hb2⟩
      · have HX0 := hidp h0
        have HX1 := hidp h1
        have HX2 := hidp h2
        have HI : Hid (idxI t p s = 2) := hidp (by unfold idxI; simp [h0, h1, h2])
        clear h0 h1 h2
        go_enter Try.func101, Try.ntmps101
        go_wp2
        refine wp_loop_rounds 3 ?_
        rw [rounds_succ]
        go_wp2_with fail
        refine (cfWrong_c 0 t 1 16 _).mono ?_
        rintro e w1 ⟨rfl, hb0⟩
        rw [HX0.out]
        have hc1 := hc.keep hb0
        clear c0 c1 c2 c3 c4 c5 c6 c7 c8 c9 c10 c11
        obtain ⟨d0, d1, d2, d3, d4, d5, d6, d7, d8, d9, d10, d11⟩ := num_cells hc1
        go_wp2_with fail
        rw [rounds_succ]
        go_wp2_with fail
        refine (cfWrong_c 16 p 4 1024 _).mono ?_
        rintro e w2 ⟨rfl, hb1⟩
        rw [HX1.out]
        have hc2 := hc1.keep hb1
        clear d0 d1 d2 d3 d4 d5 d6 d7 d8 d9 d10 d11
        obtain ⟨d0, d1, d2, d3, d4, d5, d6, d7, d8, d9, d10, d11⟩ := num_cells hc2
        go_wp2_with fail
        rw [rounds_succ]
        go_wp2_with fail
        refine (cfWrong_c 32 s 10 20 _).mono ?_
        rintro e w3 ⟨rfl, hb2⟩
        rw [HX2.out]
        have hc3 := hc2.keep hb2
        clear d0 d1 d2 d3 d4 d5 d6 d7 d8 d9 d10 d11
        obtain ⟨d0, d1, d2, d3, d4, d5, d6, d7, d8, d9, d10, d11⟩ := num_cells hc3
        go_wp2
        go_ret
        exact ⟨by rw [HI.out]; rfl, Bgo (Bgo (Bgo (B0 _) hb0) hb1) hb2⟩
    · have HX0 := hidp h0
      have HX1 := hidp h1
      have HI : Hid (idxI t p s = 1) := hidp (by unfold idxI; simp [h0, h1])
      clear h0 h1
      go_enter Try.func101, Try.ntmps101
      go_wp2
      refine wp_loop_rounds 2 ?_
      rw [rounds_succ]
      go_wp2_with fail
      refine (cfWrong_c 0 t 1 16 _).mono ?_
      rintro e w1 ⟨rfl, hb0⟩
      rw [HX0.out]
      have hc1 := hc.keep hb0
      clear c0 c1 c2 c3 c4 c5 c6 c7 c8 c9 c10 c11
      obtain ⟨d0, d1, d2, d3, d4, d5, d6, d7, d8, d9, d10, d11⟩ := num_cells hc1
      go_wp2_with fail
      rw [rounds_succ]
      go_wp2_with fail
      refine (cfWrong_c 16 p 4 1024 _).mono ?_
      rintro e w2 ⟨rfl, hb1⟩
      rw [HX1.out]
      have hc2 := hc1.keep hb1
      clear d0 d1 d2 d3 d4 d5 d6 d7 d8 d9 d10 d11
      obtain ⟨d0, d1, d2, d3, d4, d5, d6, d7, d8, d9, d10, d11⟩ := num_cells hc2
      go_wp2
      go_ret
      exact ⟨by rw [HI.out]; rfl, Bgo (Bgo (B0 _) hb0) hb1⟩
  · have HX0 := hidp h0
    have HI : Hid (idxI t p s = 0) := hidp (by unfold idxI; simp [h0])
    clear h0
    go_enter Try.func101, Try.ntmps101
    go_wp2
    refine wp_loop_rounds 1 ?_
    rw [rounds_succ]
    go_wp2_with fail
    refine (cfWrong_c 0 t 1 16 _).mono ?_
    rintro e w1 ⟨rfl, hb0⟩
    rw [HX0.out]
    have hc1 := hc.keep hb0
    clear c0 c1 c2 c3 c4 c5 c6 c7 c8 c9 c10 c11
    obtain ⟨d0, d1, d2, d3, d4, d5, d6, d7, d8, d9, d10, d11⟩ := num_cells hc1
    go_wp2
    go_ret
    exact ⟨by rw [HI.out]; rfl, Bgo (B0 _) hb0⟩

theorem idx_right {t p s : Int} (h : rightB t p s = true) : idxI t p s = -1 := by
  unfold rightB at h
  unfold idxI
  cases h0 : outB t 1 16 <;> cases h1 : outB p 4 1024 <;> cases h2 : outB s 10 20 <;> simp_all
theorem idx_wrong {t p s : Int} (h : rightB t p s = false) : ∃ k : Int, idxI t p s = k ∧ 0 ≤ k ∧ k ≤ 2 := by
  unfold rightB at h
  unfold idxI
  cases h0 : outB t 1 16 <;> cases h1 : outB p 4 1024 <;> cases h2 : outB s 10 20 <;> simp_all

theorem cfContains_c (t p s : Int) (g : Nat) (w : World) (hc : Held w g 127 (numV t p s)) :
    Calls Try.prog 98 #[.slice (some ⟨g, 0, none⟩) 3 3, .func (.func 97) #[] #[]] w fun e w' => e = .returned (.bool (!rightB t p s)) ∧ Below w.heap.size w w' := by
  cases hr : rightB t p s
  · obtain ⟨k, hk, h0, h2⟩ := idx_wrong hr
    have HK := hidp hk
    clear hk
    go_enter Try.func98, Try.ntmps98
    go_wp2_with fail
    refine (cfIndex_c t p s g _ hc).mono ?_
    rintro e w1 ⟨rfl, hb⟩
    rw [HK.out]
    go_wp2
    go_ret
    exact ⟨by first | rfl | trivial, hb⟩
  · have HK := hidp (idx_right hr)
    go_enter Try.func98, Try.ntmps98
    go_wp2_with fail
    refine (cfIndex_c t p s g _ hc).mono ?_
    rintro e w1 ⟨rfl, hb⟩
    rw [HK.out]
    go_wp2
    go_ret
    exact ⟨by first | rfl | trivial, hb⟩

/-- how it is told: 0, or 1 for ErrArg -/
def checkI (t p s : Int) : Int := if rightB t p s then 0 else 1
theorem check_yes {t p s : Int} (h : rightB t p s = true) : checkI t p s = 0 := by unfold checkI; rw [h]; rfl
theorem check_no {t p s : Int} (h : rightB t p s = false) : checkI t p s = 1 := by unfold checkI; rw [h]; rfl
theorem cfCheck_c (t p s : Int) (w : World) :
    Calls Try.prog 90 #[.agg #[.int .i64 t, .int .i64 p, .int .i64 s]] w fun e w' => e = .returned (.int .i64 (checkI t p s)) ∧ Below w.heap.size w w' := by
  cases hr : rightB t p s
  · have HK := hidp (check_no hr)
    have HR := hidp hr
    clear hr
    go_enter Try.func90, Try.ntmps90
    go_wp2_with fail
    refine (cfNumbers_c t p s _).mono ?_
    rintro e w1 ⟨rfl, hb1⟩
    go_wp2_with fail
    refine (cfContains_c t p s _ _ (Held.new w1 _ _)).mono ?_
    rintro e w2 ⟨rfl, hb2⟩
    rw [HR.out]
    go_wp2
    go_ret
    exact ⟨by rw [HK.out]; rfl, Bgo (Bnew (Bgo (Bnew (B0 _) _) hb1) _) hb2⟩
  · have HK := hidp (check_yes hr)
    have HR := hidp hr
    clear hr
    go_enter Try.func90, Try.ntmps90
    go_wp2_with fail
    refine (cfNumbers_c t p s _).mono ?_
    rintro e w1 ⟨rfl, hb1⟩
    go_wp2_with fail
    refine (cfContains_c t p s _ _ (Held.new w1 _ _)).mono ?_
    rintro e w2 ⟨rfl, hb2⟩
    rw [HR.out]
    go_wp2
    go_ret
    exact ⟨by rw [HK.out]; rfl, Bgo (Bnew (Bgo (Bnew (B0 _) _) hb1) _) hb2⟩
end Go.Proofs.Ythiobfghanlelaa

/-
  Contracts of conf's and nacreref04's pages, bytes and words.
-/
namespace Go.Proofs.Ythiobfghanlelaa
open Go.ChangeShapes Go.WideShapes Go.ChangeAt Go.RowKit
set_option linter.unusedVariables false

theorem rightB_mk {t p s : Int} (h : (1 ≤ t ∧ t ≤ 16) ∧ (4 ≤ p ∧ p ≤ 1024) ∧ 10 ≤ s ∧ s ≤ 20) : rightB t p s = true := (rightB_iff t p s).2 h
theorem rightB_not {t p s : Int} (h : ¬ ((1 ≤ t ∧ t ≤ 16) ∧ (4 ≤ p ∧ p ≤ 1024) ∧ 10 ≤ s ∧ s ≤ 20)) : rightB t p s = false := by
  cases hr : rightB t p s
  · rfl
  · exact absurd ((rightB_iff t p s).1 hr) h

/-! the document's answers -/
theorem r4Right_c (t p s : Int) (w : World) :
    Calls Try.prog 53 #[.agg #[.int .i64 t, .int .i64 p, .int .i64 s]] w fun e w' => e = .returned (.bool (rightB t p s)) ∧ Below w.heap.size w w' := by
  by_cases a1 : 1 ≤ t
  · by_cases a2 : t ≤ 16
    · by_cases a3 : 4 ≤ p
      · by_cases a4 : p ≤ 1024
        · by_cases a5 : 10 ≤ s
          · by_cases a6 : s ≤ 20
            · have H := hidp (rightB_mk (t := t) (p := p) (s := s) (by omega))
              go_enter Try.func53, Try.ntmps53
              go_wp2
              go_ret
              exact ⟨by rw [H.out]; rfl, Bnew (B0 _) _⟩
            · have H := hidp (rightB_not (t := t) (p := p) (s := s) (by omega))
              go_enter Try.func53, Try.ntmps53
              go_wp2
              go_ret
              exact ⟨by rw [H.out]; rfl, Bnew (B0 _) _⟩
          · have H := hidp (rightB_not (t := t) (p := p) (s := s) (by omega))
            go_enter Try.func53, Try.ntmps53
            go_wp2
            go_ret
            exact ⟨by rw [H.out]; rfl, Bnew (B0 _) _⟩
        · have H := hidp (rightB_not (t := t) (p := p) (s := s) (by omega))
          go_enter Try.func53, Try.ntmps53
          go_wp2
          go_ret
          exact ⟨by rw [H.out]; rfl, Bnew (B0 _) _⟩
      · have H := hidp (rightB_not (t := t) (p := p) (s := s) (by omega))
        go_enter Try.func53, Try.ntmps53
        go_wp2
        go_ret
        exact ⟨by rw [H.out]; rfl, Bnew (B0 _) _⟩
    · have H := hidp (rightB_not (t := t) (p := p) (s := s) (by omega))
      go_enter Try.func53, Try.ntmps53
      go_wp2
      go_ret
      exact ⟨by rw [H.out]; rfl, Bnew (B0 _) _⟩
  · have H := hidp (rightB_not (t := t) (p := p) (s := s) (by omega))
    go_enter Try.func53, Try.ntmps53
    go_wp2
    go_ret
    exact ⟨by rw [H.out]; rfl, Bnew (B0 _) _⟩

/-- how many bytes a page has; 0 where the configuration is not right -/
def pageN (t p s : Int) : Nat := if rightB t p s then 2 ^ s.toNat else 0
/-- how many all pages have -/
def bytesN (t p s : Int) : Nat := if rightB t p s then p.toNat * 2 ^ s.toNat else 0
theorem page_yes {t p s : Int} (h : rightB t p s = true) : pageN t p s = 2 ^ s.toNat := by unfold pageN; rw [if_pos h]
theorem page_no {t p s : Int} (h : rightB t p s = false) : pageN t p s = 0 := by unfold pageN; rw [h]; rfl
theorem bytes_yes {t p s : Int} (h : rightB t p s = true) : bytesN t p s = p.toNat * 2 ^ s.toNat := by unfold bytesN; rw [if_pos h]
theorem bytes_no {t p s : Int} (h : rightB t p s = false) : bytesN t p s = 0 := by unfold bytesN; rw [h]; rfl
theorem pow_bounds (k : Nat) (h : k ≤ 20) : 1 ≤ 2 ^ k ∧ 2 ^ k ≤ 1048576 := ⟨Nat.one_le_two_pow, by have := Nat.pow_le_pow_right (show 0 < 2 by omega) h; omega⟩
theorem pow_next (k : Nat) : 2 ^ (k + 1) = 2 ^ k * 2 := Nat.pow_succ 2 k

theorem r4Page_c (t p s : Int) (w : World) :
    Calls Try.prog 94 #[.agg #[.int .i64 t, .int .i64 p, .int .i64 s]] w fun e w' => e = .returned (.int .i64 ((pageN t p s : Nat) : Int)) ∧ Below w.heap.size w w' := by
  cases hr : rightB t p s
  · have HP := hidp (page_no hr)
    have HR := hidp hr
    clear hr
    go_enter Try.func94, Try.ntmps94
    go_wp2_with fail
    refine (r4Right_c t p s _).mono ?_
    rintro e w1 ⟨rfl, hb1⟩
    rw [HR.out]
    go_wp2
    go_ret
    exact ⟨by rw [HP.out]; rfl, Bgo (Bnew (B0 _) _) hb1⟩
  · have HP := hidp (page_yes hr)
    have HR := hidp hr
    obtain ⟨_, _, hs, hs'⟩ := (rightB_iff t p s).1 hr
    clear hr
    go_enter Try.func94, Try.ntmps94
    go_wp2_with fail
    have hc := Held.new w 23 #[.int .i64 t, .int .i64 p, .int .i64 s]
    refine (r4Right_c t p s _).mono ?_
    rintro e w1 ⟨rfl, hb1⟩
    rw [HR.out]
    obtain ⟨c0, c1, c2⟩ := (hc.keep hb1).three
    go_wp2
    go_loop [3, 4] (fun n i => ∃ k : Nat, (k : Int) ≤ s ∧ i = .int .i64 k ∧ n = .int .i64 ((2 ^ k : Nat) : Int)) (fun _ i => 64 - (intOf i).toNat)
    case atStart => exact ⟨0, by omega, rfl, rfl⟩
    case round =>
      obtain ⟨k, hk, rfl, rfl⟩ := hrel
      obtain ⟨b1, b2⟩ := pow_bounds k (by omega)
      by_cases hlt : (k : Int) < s
      · have HS := hidp (pow_next k)
        obtain ⟨m, hm⟩ : ∃ m, m = 2 ^ k := ⟨_, rfl⟩
        rw [← hm] at b1 b2 HS
        rw [← hm]
        have HM := hidp hm
        clear hm
        go_wp2
        go_round
        case rel => exact ⟨k + 1, by omega, by go_num, by rw [HS.out]; go_num⟩
        case measure => simp [intOf]; omega
      · obtain rfl : s = k := by omega
        go_wp2
        go_ret
        exact ⟨by rw [HP.out]; rfl, Bgo (Bnew (B0 _) _) hb1⟩

end Go.Proofs.Ythiobfghanlelaa

/-
  Contracts of conf's and nacreref04's bytes and words.
-/
namespace Go.Proofs.Ythiobfghanlelaa
open Go.ChangeShapes Go.WideShapes Go.ChangeAt Go.RowKit
set_option linter.unusedVariables false

theorem shl_one : ∀ k : Nat, k ≤ 20 → IntKind.i64.wrap (2 ^ k) = ((2 ^ k : Nat) : Int) := by
  intro k hk
  have := pow_bounds k hk
  have e : ((2 : Int) ^ k) = ((2 ^ k : Nat) : Int) := by norm_cast
  rw [e]
  generalize 2 ^ k = g at *
  simp only [IntKind.wrap, IntKind.bits, IntKind.signed]
  simp
  omega
theorem shl_num (p : Int) (k : Nat) (hp : 4 ≤ p) (hp' : p ≤ 1024) (hk : k ≤ 20) : IntKind.i64.wrap (p * 2 ^ k) = ((p.toNat * 2 ^ k : Nat) : Int) := by
  have hb := pow_bounds k hk
  obtain ⟨q, rfl⟩ : ∃ q : Nat, p = q := ⟨p.toNat, by omega⟩
  have e : ((q : Int) * (2 : Int) ^ k) = ((q * 2 ^ k : Nat) : Int) := by norm_cast
  rw [e, Int.toNat_natCast]
  generalize 2 ^ k = g at *
  have h1 : q * g ≤ 1024 * 1048576 := Nat.mul_le_mul (by omega) hb.2
  simp only [IntKind.wrap, IntKind.bits, IntKind.signed]
  simp
  omega
theorem ret_word {k : IntKind} {a b : Int} {c : Bool} (h : a = b) : Ending.returned (.tuple #[.int k a, .bool c]) = .returned (.tuple #[.int k b, .bool c]) := by rw [h]
theorem bytes_page {t p s : Int} (h : rightB t p s = true) : IntKind.i64.wrap (((pageN t p s : Nat) : Int) * p) = ((bytesN t p s : Nat) : Int) := by
  obtain ⟨_, ⟨hp, hp'⟩, hs, hs'⟩ := (rightB_iff t p s).1 h
  rw [page_yes h, bytes_yes h]
  obtain ⟨b1, b2⟩ := pow_bounds s.toNat (by omega)
  obtain ⟨k, rfl⟩ : ∃ k : Nat, p = k := ⟨p.toNat, by omega⟩
  generalize 2 ^ s.toNat = g at *
  have h1 : k * g ≤ 1024 * 1048576 := Nat.mul_le_mul (by omega) b2
  have h2 : ((g : Int) * (k : Int)) = ((k * g : Nat) : Int) := by rw [Nat.mul_comm]; norm_cast
  rw [h2, Int.toNat_natCast]
  simp only [IntKind.wrap, IntKind.bits, IntKind.signed]
  simp
  omega

/-- a configuration's word; 0 where it is not right -/
def wordN (t p s : Int) : Nat := if rightB t p s then t.toNat + p.toNat * 65536 + s.toNat * 4294967296 else 0
theorem word_yes {t p s : Int} (h : rightB t p s = true) : wordN t p s = t.toNat + p.toNat * 65536 + s.toNat * 4294967296 := by unfold wordN; rw [if_pos h]
theorem word_no {t p s : Int} (h : rightB t p s = false) : wordN t p s = 0 := by unfold wordN; rw [h]; rfl

/-- put into a field of a word that has nothing there, nor above -/
theorem put_new (x a v : Nat) (ha : a + 16 ≤ 64) (hx : x < 2 ^ a) (hv : v < 65536) : HM.putN x a 16 v = x + v * 2 ^ a := by
  have hx64 : x < 2 ^ 64 := Nat.lt_of_lt_of_le hx (Nat.pow_le_pow_right (by omega) (by omega))
  have h1 : x + v * 2 ^ a = 2 ^ a * v + x := by rw [Nat.mul_comm, Nat.add_comm]
  have hlt : 2 ^ a * v + x < 2 ^ 64 := by
    have e : (2 : Nat) ^ 64 = 2 ^ a * 2 ^ (64 - a) := by rw [← Nat.pow_add]; congr 1; omega
    have e2 : (2 : Nat) ^ 16 ≤ 2 ^ (64 - a) := Nat.pow_le_pow_right (by omega) (by omega)
    have e3 : 2 ^ a * (v + 1) ≤ 2 ^ a * 2 ^ (64 - a) := Nat.mul_le_mul_left _ (by omega)
    rw [Nat.mul_succ] at e3
    rw [e]
    omega
  rw [h1]
  apply Nat.eq_of_testBit_eq
  intro i
  by_cases hi : i < 64
  · rw [HM.bit_putN x a 16 v i ha hv hi, Nat.testBit_two_pow_mul_add _ hx]
    by_cases h2 : i < a
    · rw [if_neg (by omega), if_pos h2]
    · rw [if_neg h2]
      by_cases h3 : i < a + 16
      · rw [if_pos ⟨by omega, h3⟩]
      · rw [if_neg (by omega), Nat.testBit_lt_two_pow (Nat.lt_of_lt_of_le hx (Nat.pow_le_pow_right (by omega) (by omega))), Nat.testBit_lt_two_pow (Nat.lt_of_lt_of_le hv (show 65536 ≤ 2 ^ (i - a) from Nat.pow_le_pow_right (n := 2) (by omega) (show 16 ≤ i - a by omega)))]
  · rw [HM.bit_high (HM.putN_lt x a 16 v ha hv) (by omega), HM.bit_high hlt (by omega)]
end Go.Proofs.Ythiobfghanlelaa
