/-
  Contracts of the functions of package conf and of the document's answers to it.
-/
import Derived.Test.YtnamlhkccgnbfaaGreatJ02
import Derived.Deep.RegionHeld3
import Derived.IntWalk
import Derived.KernelRfl
namespace Go.Proofs.YtnamlhkccgnbfaaGreat
open Go.ChangeShapes Go.WideShapes Go.ChangeAt Go.RowKit
set_option linter.unusedVariables false
section
def outB (v l m : Int) : Bool := decide (v < l ∨ m < v)
theorem outB_lt {v l m : Int} (h : v < l) : outB v l m = true := by unfold outB; simp [h]
theorem outB_gt {v l m : Int} (h : m < v) : outB v l m = true := by unfold outB; simp [h]
theorem outB_no {v l m : Int} (h : l ≤ v) (h' : v ≤ m) : outB v l m = false := by unfold outB; exact decide_eq_false (by omega)
def rightB (t p s : Int) : Bool := !(outB t 1 16) && (!(outB p 4 1024) && !(outB s 10 20))
theorem rightB_iff (t p s : Int) : rightB t p s = true ↔ (1 ≤ t ∧ t ≤ 16) ∧ (4 ≤ p ∧ p ≤ 1024) ∧ 10 ≤ s ∧ s ≤ 20 := by
  unfold rightB outB
  simp only [Bool.and_eq_true, Bool.not_eq_true', decide_eq_false_iff_not]
  omega

theorem cfWrong_c (a v l m : Int) (w : World) :
    Calls Tryz.prog 149 #[.agg #[.int .i64 a, .int .i64 v, .int .i64 l, .int .i64 m]] w fun e w' => e = .returned (.bool (outB v l m)) ∧ Below w.heap.size w w' := by
  by_cases h0 : v < l
  · have H := hidp (outB_lt (m := m) h0)
    go_enter Tryz.func149, Tryz.ntmps149
    go_wp2
    go_ret
    exact ⟨by rw [H.out]; rfl, Bnew (B0 _) _⟩
  · by_cases h1 : m < v
    · have H := hidp (outB_gt (l := l) h1)
      go_enter Tryz.func149, Tryz.ntmps149
      go_wp2
      go_ret
      exact ⟨by rw [H.out]; rfl, Bnew (B0 _) _⟩
    · have H := hidp (outB_no (v := v) (l := l) (m := m) (by omega) (by omega))
      go_enter Tryz.func149, Tryz.ntmps149
      go_wp2
      go_ret
      exact ⟨by rw [H.out]; rfl, Bnew (B0 _) _⟩

def numV (t p s : Int) : Array Value := #[.int .i64 0, .int .i64 t, .int .i64 1, .int .i64 16, .int .i64 16, .int .i64 p, .int .i64 4, .int .i64 1024, .int .i64 32, .int .i64 s, .int .i64 10, .int .i64 20]
theorem cfNumbers_c (t p s : Int) (w : World) :
    Calls Tryz.prog 148 #[.agg #[.int .i64 t, .int .i64 p, .int .i64 s]] w fun e w' => e = .returned (.agg #[.int .i64 0, .int .i64 t, .int .i64 1, .int .i64 16, .int .i64 16, .int .i64 p, .int .i64 4, .int .i64 1024, .int .i64 32, .int .i64 s, .int .i64 10, .int .i64 20]) ∧ Below w.heap.size w w' := by
  go_enter Tryz.func148, Tryz.ntmps148
  go_wp2
  exact bodyPost_ret (v := .agg #[.int .i64 0, .int .i64 t, .int .i64 1, .int .i64 16, .int .i64 16, .int .i64 p, .int .i64 4, .int .i64 1024, .int .i64 32, .int .i64 s, .int .i64 10, .int .i64 20]) (by simp [results, Tryz.results148, go_sem]) rfl ⟨rfl, Bnew (Bnew (B0 _) _) _⟩

theorem num_cells {t p s : Int} {g : Nat} {T : TypeId} {w : World} (h : Held w g T (numV t p s)) : w.cell? ⟨g, 0, none⟩ = some (.int .i64 0) ∧ w.cell? ⟨g, 1, none⟩ = some (.int .i64 t) ∧ w.cell? ⟨g, 2, none⟩ = some (.int .i64 1) ∧ w.cell? ⟨g, 3, none⟩ = some (.int .i64 16) ∧ w.cell? ⟨g, 4, none⟩ = some (.int .i64 16) ∧ w.cell? ⟨g, 5, none⟩ = some (.int .i64 p) ∧ w.cell? ⟨g, 6, none⟩ = some (.int .i64 4) ∧ w.cell? ⟨g, 7, none⟩ = some (.int .i64 1024) ∧ w.cell? ⟨g, 8, none⟩ = some (.int .i64 32) ∧ w.cell? ⟨g, 9, none⟩ = some (.int .i64 s) ∧ w.cell? ⟨g, 10, none⟩ = some (.int .i64 10) ∧ w.cell? ⟨g, 11, none⟩ = some (.int .i64 20) :=
  ⟨h.cell 0, h.cell 1, h.cell 2, h.cell 3, h.cell 4, h.cell 5, h.cell 6, h.cell 7, h.cell 8, h.cell 9, h.cell 10, h.cell 11⟩
def idxI (t p s : Int) : Int := if outB t 1 16 then 0 else if outB p 4 1024 then 1 else if outB s 10 20 then 2 else -1
set_option maxHeartbeats 1600000 in
theorem cfIndex_c (t p s : Int) (g : Nat) (w : World) (hc : Held w g 166 (numV t p s)) :
    Calls Tryz.prog 151 #[.slice (some ⟨g, 0, none⟩) 3 3, .func (.func 149) #[] #[]] w fun e w' => e = .returned (.int .i64 (idxI t p s)) ∧ Below w.heap.size w w' := by
  obtain ⟨c0, c1, c2, c3, c4, c5, c6, c7, c8, c9, c10, c11⟩ := num_cells hc
  cases h0 : outB t 1 16
  · cases h1 : outB p 4 1024
    · cases h2 : outB s 10 20
      · have HX0 := hidp h0
        have HX1 := hidp h1
        have HX2 := hidp h2
        have HI : Hid (idxI t p s = -1) := hidp (by unfold idxI; simp [h0, h1, h2])
        clear h0 h1 h2
        go_enter Tryz.func151, Tryz.ntmps151
        go_wp2
        refine wp_loop_rounds 4 ?_
        rw [rounds_succ]
        go_wp2_with fail
        refine (cfWrong_c 0 t 1 16 _).mono ?_
        rintro e w1 ⟨rfl, hb0⟩
        rw [HX0.out]
        have hc1 := hc.keep hb0
        clear c0 c1 c2 c3 c4 c5 c6 c7 c8 c9 c10 c11
        obtain ⟨d0, d1, d2, d3, d4, d5, d6, d7, d8, d9, d10, d11⟩ := num_cells hc1
        go_wp2_with fail
        rw [rounds_succ]
        go_wp2_with fail
        refine (cfWrong_c 16 p 4 1024 _).mono ?_
        rintro e w2 ⟨rfl, hb1⟩
        rw [HX1.out]
        have hc2 := hc1.keep hb1
        clear d0 d1 d2 d3 d4 d5 d6 d7 d8 d9 d10 d11
        obtain ⟨d0, d1, d2, d3, d4, d5, d6, d7, d8, d9, d10, d11⟩ := num_cells hc2
        go_wp2_with fail
        rw [rounds_succ]
        go_wp2_with fail
        refine (cfWrong_c 32 s 10 20 _).mono ?_
        rintro e w3 ⟨rfl, hb2⟩
        rw [HX2.out]
        have hc3 := hc2.keep hb2
        clear d0 d1 d2 d3 d4 d5 d6 d7 d8 d9 d10 d11
        obtain ⟨d0, d1, d2, d3, d4, d5, d6, d7, d8, d9, d10, d11⟩ := num_cells hc3
        go_wp2_with fail
        rw [rounds_succ]
        go_wp2
        go_ret
        exact ⟨by rw [HI.out]; rfl, Bgo (Bgo (Bgo (B0 _) hb0) hb1) hb2⟩
      · have HX0 := hidp h0
        have HX1 := hidp h1
        have HX2 := hidp h2
        have HI : Hid (idxI t p s = 2) := hidp (by unfold idxI; simp [h0, h1, h2])
        clear h0 h1 h2
        go_enter Tryz.func151, Tryz.ntmps151
        go_wp2
        refine wp_loop_rounds 3 ?_
        rw [rounds_succ]
        go_wp2_with fail
        refine (cfWrong_c 0 t 1 16 _).mono ?_
        rintro e w1 ⟨rfl, hb0⟩
        rw [HX0.out]
        have hc1 := hc.keep hb0
        clear c0 c1 c2 c3 c4 c5 c6 c7 c8 c9 c10 c11
        obtain ⟨d0, d1, d2, d3, d4, d5, d6, d7, d8, d9, d10, d11⟩ := num_cells hc1
        go_wp2_with fail
        rw [rounds_succ]
        go_wp2_with fail
        refine (cfWrong_c 16 p 4 1024 _).mono ?_
        rintro e w2 ⟨rfl, hb1⟩
        rw [HX1.out]
        have hc2 := hc1.keep hb1
        clear d0 d1 d2 d3 d4 d5 d6 d7 d8 d9 d10 d11
        obtain ⟨d0, d1, d2, d3, d4, d5, d6, d7, d8, d9, d10, d11⟩ := num_cells hc2
        go_wp2_with fail
        rw [rounds_succ]
        go_wp2_with fail
        refine (cfWrong_c 32 s 10 20 _).mono ?_
        rintro e w3 ⟨rfl, hb2⟩
        rw [HX2.out]
        have hc3 := hc2.keep hb2
        clear d0 d1 d2 d3 d4 d5 d6 d7 d8 d9 d10 d11
        obtain ⟨d0, d1, d2, d3, d4, d5, d6, d7, d8, d9, d10, d11⟩ := num_cells hc3
        go_wp2
        go_ret
        exact ⟨by rw [HI.out]; rfl, Bgo (Bgo (Bgo (B0 _) hb0) hb1) hb2⟩
    · have HX0 := hidp h0
      have HX1 := hidp h1
      have HI : Hid (idxI t p s = 1) := hidp (by unfold idxI; simp [h0, h1])
      clear h0 h1
      go_enter Tryz.func151, Tryz.ntmps151
      go_wp2
      refine wp_loop_rounds 2 ?_
      rw [rounds_succ]
      go_wp2_with fail
      refine (cfWrong_c 0 t 1 16 _).mono ?_
      rintro e w1 ⟨rfl, hb0⟩
      rw [HX0.out]
      have hc1 := hc.keep hb0
      clear c0 c1 c2 c3 c4 c5 c6 c7 c8 c9 c10 c11
      obtain ⟨d0, d1, d2, d3, d4, d5, d6, d7, d8, d9, d10, d11⟩ := num_cells hc1
      go_wp2_with fail
      rw [rounds_succ]
      go_wp2_with fail
      refine (cfWrong_c 16 p 4 1024 _).mono ?_
      rintro e w2 ⟨rfl, hb1⟩
      rw [HX1.out]
      have hc2 := hc1.keep hb1
      clear d0 d1 d2 d3 d4 d5 d6 d7 d8 d9 d10 d11
      obtain ⟨d0, d1, d2, d3, d4, d5, d6, d7, d8, d9, d10, d11⟩ := num_cells hc2
      go_wp2
      go_ret
      exact ⟨by rw [HI.out]; rfl, Bgo (Bgo (B0 _) hb0) hb1⟩
  · have HX0 := hidp h0
    have HI : Hid (idxI t p s = 0) := hidp (by unfold idxI; simp [h0])
    clear h0
    go_enter Tryz.func151, Tryz.ntmps151
    go_wp2
    refine wp_loop_rounds 1 ?_
    rw [rounds_succ]
    go_wp2_with fail
    refine (cfWrong_c 0 t 1 16 _).mono ?_
    rintro e w1 ⟨rfl, hb0⟩
    rw [HX0.out]
    have hc1 := hc.keep hb0
    clear c0 c1 c2 c3 c4 c5 c6 c7 c8 c9 c10 c11
    obtain ⟨d0, d1, d2, d3, d4, d5, d6, d7, d8, d9, d10, d11⟩ := num_cells hc1
    go_wp2
    go_ret
    exact ⟨by rw [HI.out]; rfl, Bgo (B0 _) hb0⟩

theorem idx_right {t p s : Int} (h : rightB t p s = true) : idxI t p s = -1 := by
  unfold rightB at h
  unfold idxI
  cases h0 : outB t 1 16 <;> cases h1 : outB p 4 1024 <;> cases h2 : outB s 10 20 <;> simp_all
theorem idx_wrong {t p s : Int} (h : rightB t p s = false) : ∃ k : Int, idxI t p s = k ∧ 0 ≤ k ∧ k ≤ 2 := by
  unfold rightB at h
  unfold idxI
  cases h0 : outB t 1 16 <;> cases h1 : outB p 4 1024 <;> cases h2 : outB s 10 20 <;> simp_all

theorem cfContains_c (t p s : Int) (g : Nat) (w : World) (hc : Held w g 166 (numV t p s)) :
    Calls Tryz.prog 150 #[.slice (some ⟨g, 0, none⟩) 3 3, .func (.func 149) #[] #[]] w fun e w' => e = .returned (.bool (!rightB t p s)) ∧ Below w.heap.size w w' := by
  cases hr : rightB t p s
  · obtain ⟨k, hk, h0, h2⟩ := idx_wrong hr
    have HK := hidp hk
    clear hk
    go_enter Tryz.func150, Tryz.ntmps150
    go_wp2_with fail
    refine (cfIndex_c t p s g _ hc).mono ?_
    rintro e w1 ⟨rfl, hb⟩
    rw [HK.out]
    go_wp2
    go_ret
    exact ⟨by first | rfl | trivial, hb⟩
  · have HK := hidp (idx_right hr)
    go_enter Tryz.func150, Tryz.ntmps150
    go_wp2_with fail
    refine (cfIndex_c t p s g _ hc).mono ?_
    rintro e w1 ⟨rfl, hb⟩
    rw [HK.out]
    go_wp2
    go_ret
    exact ⟨by first | rfl | trivial, hb⟩

def checkI (t p s : Int) : Int := if rightB t p s then 0 else 1
theorem check_yes {t p s : Int} (h : rightB t p s = true) : checkI t p s = 0 := by unfold checkI; rw [h]; rfl
theorem check_no {t p s : Int} (h : rightB t p s = false) : checkI t p s = 1 := by unfold checkI; rw [h]; rfl
theorem cfCheck_c (t p s : Int) (w : World) :
    Calls Tryz.prog 144 #[.agg #[.int .i64 t, .int .i64 p, .int .i64 s]] w fun e w' => e = .returned (.int .i64 (checkI t p s)) ∧ Below w.heap.size w w' := by
  cases hr : rightB t p s
  · have HK := hidp (check_no hr)
    have HR := hidp hr
    clear hr
    go_enter Tryz.func144, Tryz.ntmps144
    go_wp2_with fail
    refine (cfNumbers_c t p s _).mono ?_
    rintro e w1 ⟨rfl, hb1⟩
    go_wp2_with fail
    refine (cfContains_c t p s _ _ (Held.new w1 _ _)).mono ?_
    rintro e w2 ⟨rfl, hb2⟩
    rw [HR.out]
    go_wp2
    go_ret
    exact ⟨by rw [HK.out]; rfl, Bgo (Bnew (Bgo (Bnew (B0 _) _) hb1) _) hb2⟩
  · have HK := hidp (check_yes hr)
    have HR := hidp hr
    clear hr
    go_enter Tryz.func144, Tryz.ntmps144
    go_wp2_with fail
    refine (cfNumbers_c t p s _).mono ?_
    rintro e w1 ⟨rfl, hb1⟩
    go_wp2_with fail
    refine (cfContains_c t p s _ _ (Held.new w1 _ _)).mono ?_
    rintro e w2 ⟨rfl, hb2⟩
    rw [HR.out]
    go_wp2
    go_ret
    exact ⟨by rw [HK.out]; rfl, Bgo (Bnew (Bgo (Bnew (B0 _) _) hb1) _) hb2⟩
end
section
theorem rightB_mk {t p s : Int} (h : (1 ≤ t ∧ t ≤ 16) ∧ (4 ≤ p ∧ p ≤ 1024) ∧ 10 ≤ s ∧ s ≤ 20) : rightB t p s = true := (rightB_iff t p s).2 h
theorem rightB_not {t p s : Int} (h : ¬ ((1 ≤ t ∧ t ≤ 16) ∧ (4 ≤ p ∧ p ≤ 1024) ∧ 10 ≤ s ∧ s ≤ 20)) : rightB t p s = false := by
  cases hr : rightB t p s
  · rfl
  · exact absurd ((rightB_iff t p s).1 hr) h

theorem r4Right_c (t p s : Int) (w : World) :
    Calls Tryz.prog 66 #[.agg #[.int .i64 t, .int .i64 p, .int .i64 s]] w fun e w' => e = .returned (.bool (rightB t p s)) ∧ Below w.heap.size w w' := by
  by_cases a1 : 1 ≤ t
  · by_cases a2 : t ≤ 16
    · by_cases a3 : 4 ≤ p
      · by_cases a4 : p ≤ 1024
        · by_cases a5 : 10 ≤ s
          · by_cases a6 : s ≤ 20
            · have H := hidp (rightB_mk (t := t) (p := p) (s := s) (by omega))
              go_enter Tryz.func66, Tryz.ntmps66
              go_wp2
              go_ret
              exact ⟨by rw [H.out]; rfl, Bnew (B0 _) _⟩
            · have H := hidp (rightB_not (t := t) (p := p) (s := s) (by omega))
              go_enter Tryz.func66, Tryz.ntmps66
              go_wp2
              go_ret
              exact ⟨by rw [H.out]; rfl, Bnew (B0 _) _⟩
          · have H := hidp (rightB_not (t := t) (p := p) (s := s) (by omega))
            go_enter Tryz.func66, Tryz.ntmps66
            go_wp2
            go_ret
            exact ⟨by rw [H.out]; rfl, Bnew (B0 _) _⟩
        · have H := hidp (rightB_not (t := t) (p := p) (s := s) (by omega))
          go_enter Tryz.func66, Tryz.ntmps66
          go_wp2
          go_ret
          exact ⟨by rw [H.out]; rfl, Bnew (B0 _) _⟩
      · have H := hidp (rightB_not (t := t) (p := p) (s := s) (by omega))
        go_enter Tryz.func66, Tryz.ntmps66
        go_wp2
        go_ret
        exact ⟨by rw [H.out]; rfl, Bnew (B0 _) _⟩
    · have H := hidp (rightB_not (t := t) (p := p) (s := s) (by omega))
      go_enter Tryz.func66, Tryz.ntmps66
      go_wp2
      go_ret
      exact ⟨by rw [H.out]; rfl, Bnew (B0 _) _⟩
  · have H := hidp (rightB_not (t := t) (p := p) (s := s) (by omega))
    go_enter Tryz.func66, Tryz.ntmps66
    go_wp2
    go_ret
    exact ⟨by rw [H.out]; rfl, Bnew (B0 _) _⟩

def pageN (t p s : Int) : Nat := if rightB t p s then 2 ^ s.toNat else 0
def bytesN (t p s : Int) : Nat := if rightB t p s then p.toNat * 2 ^ s.toNat else 0
theorem page_yes {t p s : Int} (h : rightB t p s = true) : pageN t p s = 2 ^ s.toNat := by unfold pageN; rw [if_pos h]
theorem page_no {t p s : Int} (h : rightB t p s = false) : pageN t p s = 0 := by unfold pageN; rw [h]; rfl
theorem bytes_yes {t p s : Int} (h : rightB t p s = true) : bytesN t p s = p.toNat * 2 ^ s.toNat := by unfold bytesN; rw [if_pos h]
theorem bytes_no {t p s : Int} (h : rightB t p s = false) : bytesN t p s = 0 := by unfold bytesN; rw [h]; rfl
theorem pow_bounds (k : Nat) (h : k ≤ 20) : 1 ≤ 2 ^ k ∧ 2 ^ k ≤ 1048576 := ⟨Nat.one_le_two_pow, by have := Nat.pow_le_pow_right (show 0 < 2 by omega) h; omega⟩
theorem pow_next (k : Nat) : 2 ^ (k + 1) = 2 ^ k * 2 := Nat.pow_succ 2 k

theorem r4Page_c (t p s : Int) (w : World) :
    Calls Tryz.prog 142 #[.agg #[.int .i64 t, .int .i64 p, .int .i64 s]] w fun e w' => e = .returned (.int .i64 ((pageN t p s : Nat) : Int)) ∧ Below w.heap.size w w' := by
  cases hr : rightB t p s
  · have HP := hidp (page_no hr)
    have HR := hidp hr
    clear hr
    go_enter Tryz.func142, Tryz.ntmps142
    go_wp2_with fail
    refine (r4Right_c t p s _).mono ?_
    rintro e w1 ⟨rfl, hb1⟩
    rw [HR.out]
    go_wp2
    go_ret
    exact ⟨by rw [HP.out]; rfl, Bgo (Bnew (B0 _) _) hb1⟩
  · have HP := hidp (page_yes hr)
    have HR := hidp hr
    obtain ⟨_, _, hs, hs'⟩ := (rightB_iff t p s).1 hr
    clear hr
    go_enter Tryz.func142, Tryz.ntmps142
    go_wp2_with fail
    have hc := Held.new w 23 #[.int .i64 t, .int .i64 p, .int .i64 s]
    refine (r4Right_c t p s _).mono ?_
    rintro e w1 ⟨rfl, hb1⟩
    rw [HR.out]
    obtain ⟨c0, c1, c2⟩ := (hc.keep hb1).three
    go_wp2
    go_loop [3, 4] (fun n i => ∃ k : Nat, (k : Int) ≤ s ∧ i = .int .i64 k ∧ n = .int .i64 ((2 ^ k : Nat) : Int)) (fun _ i => 64 - (intOf i).toNat)
    case atStart => exact ⟨0, by omega, rfl, rfl⟩
    case round =>
      obtain ⟨k, hk, rfl, rfl⟩ := hrel
      obtain ⟨b1, b2⟩ := pow_bounds k (by omega)
      by_cases hlt : (k : Int) < s
      · have HS := hidp (pow_next k)
        obtain ⟨m, hm⟩ : ∃ m, m = 2 ^ k := ⟨_, rfl⟩
        rw [← hm] at b1 b2 HS
        rw [← hm]
        have HM := hidp hm
        clear hm
        go_wp2
        go_round
        case rel => exact ⟨k + 1, by omega, by go_num, by rw [HS.out]; go_num⟩
        case measure => simp [intOf]; omega
      · obtain rfl : s = k := by omega
        go_wp2
        go_ret
        exact ⟨by rw [HP.out]; rfl, Bgo (Bnew (B0 _) _) hb1⟩
end
end Go.Proofs.YtnamlhkccgnbfaaGreat

namespace Go.Proofs.YtnamlhkccgnbfaaGreat
set_option linter.unusedVariables false
section
def lT (t p s : Int) : Int := if rightB t p s then t else 0
def lP (t p s : Int) : Int := if rightB t p s then p else 0
def lS (t p s : Int) : Int := if rightB t p s then s else 0
def lA (t p s : Int) : Int := if rightB t p s then 30 + 4 * t else 0
def lC (t p s : Int) : Int := if rightB t p s then 30 + 4 * t + 6 * p else 0
def lM (t p s : Int) : Int := if rightB t p s then (16 + (30 + 4 * t + 6 * p) + 7) / 8 * 8 else 0
def lK (t p s : Int) : Int := if rightB t p s then t + 1 else 0
def lW (t p s : Int) : Int := lM t p s + lK t p s * 120

structure Laid7 (t p s T P S A C M K : Int) : Prop where
  hT : lT t p s = T
  hP : lP t p s = P
  hS : lS t p s = S
  hA : lA t p s = A
  hC : lC t p s = C
  hM : lM t p s = M
  hK : lK t p s = K
theorem lay_yes {t p s : Int} (h : rightB t p s = true) : Laid7 t p s t p s (30 + 4 * t) (30 + 4 * t + 6 * p) ((16 + (30 + 4 * t + 6 * p) + 7) / 8 * 8) (t + 1) := by
  constructor <;> simp [lT, lP, lS, lA, lC, lM, lK, h]
theorem lay_no {t p s : Int} (h : rightB t p s = false) : Laid7 t p s 0 0 0 0 0 0 0 := by
  constructor <;> simp [lT, lP, lS, lA, lC, lM, lK, h]
theorem lay_bounds (t p s : Int) : (0 ≤ lT t p s ∧ lT t p s ≤ 16) ∧ (0 ≤ lP t p s ∧ lP t p s ≤ 1024) ∧ (0 ≤ lA t p s ∧ lA t p s ≤ 94) ∧ (0 ≤ lC t p s ∧ lC t p s ≤ 6238) ∧ (0 ≤ lM t p s ∧ lM t p s ≤ 6256) ∧ (0 ≤ lK t p s ∧ lK t p s ≤ 17) ∧ lM t p s % 8 = 0 := by
  cases hr : rightB t p s
  · obtain ⟨h1, h2, h3, h4, h5, h6, h7⟩ := lay_no hr
    omega
  · obtain ⟨h1, h2, h3, h4, h5, h6, h7⟩ := lay_yes hr
    have := (rightB_iff t p s).1 hr
    omega
def nthI (f n e i : Int) : Int := if f = -1 ∨ i < 0 ∨ n ≤ i then -1 else f + i * e
theorem nth_off {f n e i : Int} (h : f = -1 ∨ i < 0 ∨ n ≤ i) : nthI f n e i = -1 := by unfold nthI; rw [if_pos h]
theorem nth_on {f n e i : Int} (h : ¬ f = -1) (h0 : 0 ≤ i) (h1 : i < n) : nthI f n e i = f + i * e := by unfold nthI; rw [if_neg (by omega)]
theorem nth_bounds {f n e i B : Int} (hf : -1 ≤ f) (hB : f ≤ B) (he : 0 ≤ e) (hn : 0 ≤ n) : -1 ≤ nthI f n e i ∧ nthI f n e i ≤ B + n * e := by
  have h2 := Int.mul_nonneg hn he
  by_cases h : f = -1 ∨ i < 0 ∨ n ≤ i
  · rw [nth_off h]; omega
  · rw [nth_on (by omega) (by omega) (by omega)]
    have h1 := Int.mul_nonneg (show 0 ≤ i by omega) he
    have h3 := Int.mul_le_mul_of_nonneg_right (show i ≤ n by omega) he
    omega

def pageI (t p s q b : Int) : Int := nthI (nthI (lA t p s) (lP t p s) 6 q) 6 1 b
def makerI (t p s m b : Int) : Int := nthI (nthI (lM t p s) (lK t p s) 120 m) 120 1 b
def logI (t p s m i : Int) : Int := nthI (makerI t p s m 24) 96 1 i

theorem pcell_no {t p s q b : Int} (h : ¬ (rightB t p s = true ∧ 0 ≤ q ∧ q < p)) : pageI t p s q b = -1 := by
  have h1 : nthI (lA t p s) (lP t p s) 6 q = -1 := by
    apply nth_off
    cases hr : rightB t p s
    · have := lay_no hr; have := this.hP; omega
    · have := (lay_yes hr).hP; rw [hr] at h; simp at h; omega
  unfold pageI
  exact nth_off (.inl h1)
theorem pcell_yes {t p s q b : Int} (hr : rightB t p s = true) (h0 : 0 ≤ q) (h1 : q < p) (h2 : 0 ≤ b) (h3 : b < 6) : pageI t p s q b = 30 + 4 * t + 6 * q + b := by
  obtain ⟨e1, e2, e3, e4, e5, e6, e7⟩ := lay_yes hr
  have := (rightB_iff t p s).1 hr
  unfold pageI
  rw [nth_on (f := lA t p s) (by omega) h0 (by omega), nth_on (by omega) h2 h3, e4]
  omega
def partT (q r : Int) : Int × Int × Int := if r < 16 then (4, q, r) else if r = 16 then (5, q, 0) else if 24 ≤ r then (6, q, r - 24) else (0, 0, 0)
def atT (t p s w : Int) : Int × Int × Int :=
  if w < 0 ∨ lW t p s ≤ w then (0, 0, 0) else if w < 8 then (1, w, 0) else if w = 8 then (2, 0, 0)
  else if lM t p s ≤ w then partT ((w - lM t p s) / 120) ((w - lM t p s) % 120)
  else if 16 ≤ w ∧ w - 16 < lC t p s then (3, w - 16, 0) else (0, 0, 0)
section
variable {t p s w : Int}
theorem words_right (h0 : 0 ≤ w) (h : w < lW t p s) : rightB t p s = true := by
  cases hr : rightB t p s
  · have h1 := (lay_no hr).hM; have h2 := (lay_no hr).hK; unfold lW at h; omega
  · rfl
theorem first_far (hr : rightB t p s = true) : 64 ≤ lM t p s ∧ 16 + lC t p s ≤ lM t p s ∧ lM t p s < 24 + lC t p s ∧ 58 ≤ lC t p s ∧ lM t p s % 8 = 0 ∧ lW t p s = lM t p s + (t + 1) * 120 := by
  obtain ⟨e1, e2, e3, e4, e5, e6, e7⟩ := lay_yes hr
  have := (rightB_iff t p s).1 hr
  unfold lW
  rw [e7]
  omega
theorem at_maker (h' : w < lW t p s) (hM : lM t p s ≤ w) : atT t p s w = partT ((w - lM t p s) / 120) ((w - lM t p s) % 120) := by
  have hb := lay_bounds t p s
  have hr := words_right (by omega) h'
  have := first_far hr
  unfold atT
  rw [if_neg (by omega), if_neg (by omega), if_neg (by omega), if_pos hM]
theorem at_of {k i : Int} (hr : rightB t p s = true) (h0 : 0 ≤ k) (h1 : k ≤ t) (hi : 0 ≤ i) (hi' : i < 120) (hw : w - (lM t p s + k * 120) = i) : atT t p s w = partT k i := by
  have hf := first_far hr
  rw [at_maker (by omega) (by omega)]
  congr 1
  · omega
  · omega
end
end
end Go.Proofs.YtnamlhkccgnbfaaGreat

namespace Go.Proofs.YtnamlhkccgnbfaaGreat
open Go.ChangeShapes Go.WideShapes Go.ChangeAt Go.RowKit Go.Maps
set_option linter.unusedVariables false
set_option maxRecDepth 100000
section
def pgB (P p : Int) : Bool := decide (0 ≤ p) && decide (p < P)
theorem pgB_iff (P p : Int) : pgB P p = true ↔ 0 ≤ p ∧ p < P := by unfold pgB; simp
section
variable (n : Nat) (K : Nat → Option Nat) (t q s hd : Int)
def push1 (k : Nat) (st : Vst) : Vst := putS n (putS n (getS n K st hd) (pageI t q s (k : Int) 2) (getV n K st hd)) (pageI t q s (k : Int) 3) 0
def push2 (k : Nat) (st : Vst) : Vst := if getV n K st hd = 0 then push1 n K t q s hd k st else putS n (push1 n K t q s hd k st) (pageI t q s ((getV n K st hd : Nat) - 1 : Int) 3) (k + 1)
def pushS (k : Nat) (st : Vst) : Vst := putS n (push2 n K t q s hd k st) hd (k + 1)
def pushI (p : Int) (st : Vst) : Vst := if pgB q p then pushS n K t q s hd p.toNat st else st

def pullN (k : Nat) (st : Vst) : Nat := getV n K st (pageI t q s (k : Int) 2)
def pullB (k : Nat) (st : Vst) : Nat := getV n K (getS n K st (pageI t q s (k : Int) 2)) (pageI t q s (k : Int) 3)
def pull0 (k : Nat) (st : Vst) : Vst := getS n K (getS n K st (pageI t q s (k : Int) 2)) (pageI t q s (k : Int) 3)
def pull1 (k : Nat) (st : Vst) : Vst := if pullB n K t q s k st = 0 then putS n (pull0 n K t q s k st) hd (pullN n K t q s k st) else putS n (pull0 n K t q s k st) (pageI t q s ((pullB n K t q s k st : Nat) - 1 : Int) 2) (pullN n K t q s k st)
def pull2 (k : Nat) (st : Vst) : Vst := if pullN n K t q s k st = 0 then pull1 n K t q s hd k st else putS n (pull1 n K t q s hd k st) (pageI t q s ((pullN n K t q s k st : Nat) - 1 : Int) 3) (pullB n K t q s k st)
def pullS (k : Nat) (st : Vst) : Vst := putS n (putS n (pull2 n K t q s hd k st) (pageI t q s (k : Int) 2) 0) (pageI t q s (k : Int) 3) 0
def pullI (p : Int) (st : Vst) : Vst := if pgB q p then pullS n K t q s hd p.toNat st else st

def walkF : Nat → Nat → Vst → List Nat × Vst
  | 0, _, st => ([], st)
  | m + 1, l, st => if 1 ≤ l ∧ (l : Int) ≤ q then
      let r := walkF m (getV n K st (pageI t q s ((l : Int) - 1) 2)) (getS n K st (pageI t q s ((l : Int) - 1) 2))
      ((l - 1) :: r.1, r.2)
    else ([], st)
def walkL (st : Vst) : List Nat := (walkF n K t q s q.toNat (getV n K st hd) (getS n K st hd)).1
def walkS (st : Vst) : Vst := (walkF n K t q s q.toNat (getV n K st hd) (getS n K st hd)).2
theorem walkF_step {m l : Nat} {st : Vst} (h : 1 ≤ l ∧ (l : Int) ≤ q) : walkF n K t q s (m + 1) l st = ((l - 1) :: (walkF n K t q s m (getV n K st (pageI t q s ((l : Int) - 1) 2)) (getS n K st (pageI t q s ((l : Int) - 1) 2))).1, (walkF n K t q s m (getV n K st (pageI t q s ((l : Int) - 1) 2)) (getS n K st (pageI t q s ((l : Int) - 1) 2))).2) := by
  rw [walkF, if_pos h]
theorem walkF_end {m l : Nat} {st : Vst} (h : ¬ (1 ≤ l ∧ (l : Int) ≤ q)) : walkF n K t q s m l st = ([], st) := by
  cases m with
  | zero => rfl
  | succ m => rw [walkF, if_neg h]
end
section
variable {n : Nat} {K : Nat → Option Nat} {t q s hd : Int} {m l0 l : Nat} {st0 st : Vst} {out : List Nat}
theorem pgB_nat {k : Nat} {st : Vst} (h : pgB q (k : Int) = true) : pushI n K t q s hd (k : Int) st = pushS n K t q s hd k st ∧ pullI n K t q s hd (k : Int) st = pullS n K t q s hd k st := by
  unfold pushI pullI
  rw [if_pos h, if_pos h]
  exact ⟨rfl, rfl⟩
theorem pgB_none {p : Int} {st : Vst} (h : pgB q p = false) : pushI n K t q s hd p st = st ∧ pullI n K t q s hd p st = st := by
  unfold pushI pullI
  rw [if_neg (by simp [h]), if_neg (by simp [h])]
  exact ⟨rfl, rfl⟩
theorem getV_lt {a : Int} (hk : VOk n st) (h32 : ∀ i x, K i = some x → x < 2 ^ 32) : getV n K st a < 2 ^ 32 := by
  by_cases ho : opn n st a = true
  · obtain ⟨i, rfl, hi, hl⟩ := opn_at ho
    cases hp : pos st.wr i with
    | some k =>
      rw [getV_put ho hp]
      have h1 := (pos_some hp).1
      have h2 : (st.wr[k]'h1) ∈ st.wr := List.getElem_mem h1
      have h3 := (hk.wrLt _ h2).2
      unfold atW
      simp only [List.getD, List.getElem?_eq_getElem h1, Option.getD_some]
      exact h3
    | none =>
      cases hK : K i with
      | some v => rw [getV_known ho hp hK]; exact h32 i v hK
      | none => rw [getV_lost ho hp hK]; omega
  · rw [getV_no (by simpa using ho)]; omega
end

section
variable {base b n : Nat} {wh all : Bool} {K : Nat → Option Nat} {st s' : Vst} {w ws w0 w' : World} {A G : Nat → Prop} {N : Nat} {T : TypeId} {cs : Array Value} {O : Ob}
theorem vAt_lt (h : (vOb base b n wh K).At w0 A G st w) (a : Int) : getV n K st a < 2 ^ 32 := by
  obtain ⟨B, ⟨o, h1, _⟩, _⟩ := h
  exact getV_lt h1.ok h1.k32
structure WK (O : Ob) (w0 : World) (A G : Nat → Prop) (ws : World) (N : Nat) (T : TypeId) (cs : Array Value) (st : Vst) (w : World) : Prop where
  at_ : O.At w0 A (And1 G N) st w
  held : Held w N T cs
  stay : Stay G ws w
theorem WK.one (h : O.At w0 A G st ws) (T : TypeId) (cs : Array Value) : WK O w0 A G ws ws.heap.size T cs st (ws.alloc (.cells cs T)) := ⟨h.box _, Held.new _ _ _, Stay.of_below (Bnew (B0 _) _) G⟩
theorem WK.two (h : O.At w0 A G st ws) (o : Obj) (T : TypeId) (cs : Array Value) : WK O w0 A G ws (ws.heap.size + 1) T cs st ((ws.alloc o).alloc (.cells cs T)) :=
  ⟨by have := (h.alloc o).box (.cells cs T); simpa using this, Held.new2 _ _ _ _, Stay.of_below (Bnew (Bnew (B0 _) _) _) G⟩
theorem WK.keep (h : WK O w0 A G ws N T cs st w) (hb : Below w.heap.size w w') : WK O w0 A G ws N T cs st w' := ⟨h.at_.keep hb, h.held.keep hb, h.stay.trans (Stay.of_below hb G)⟩
theorem WK.drew (h : WK O w0 A G ws N T cs st w) : WK O w0 A G ws N T cs st w.drew := h.keep (Bdrew (B0 w))
theorem WK.call (h : WK O w0 A G ws N T cs st w) (h1 : O.At w0 A (And1 G N) s' w') (h2 : Stay (And1 G N) w w') : WK O w0 A G ws N T cs s' w' :=
  ⟨h1, h2.held (.inr rfl) h.held, h.stay.trans (h2.less fun g x => .inl x)⟩
theorem WK.fin (h : WK O w0 A G ws N T cs st w) : O.At w0 A G st w ∧ Stay G ws w := ⟨h.at_.less fun g x => .inl x, h.stay⟩
end
end
end Go.Proofs.YtnamlhkccgnbfaaGreat

namespace Go.Proofs.YtnamlhkccgnbfaaGreat
open Go.ChangeShapes Go.WideShapes Go.ChangeAt Go.RowKit
set_option linter.unusedVariables false
set_option linter.unusedSimpArgs false
section
def infoP (k l c : Int) : Prop := (k = 0 ∧ l = 0 ∧ c = 0) ∨ ((k = 1 ∨ k = 2) ∧ 1 ≤ l ∧ l ≤ 1024 ∧ c = 0) ∨ (k = 3 ∧ l = 1 ∧ 0 ≤ c ∧ c ≤ 8)
instance (k l c : Int) : Decidable (infoP k l c) := by unfold infoP; infer_instance
def infoB (k l c : Int) : Bool := decide (infoP k l c)
theorem infoB_yes {k l c : Int} (h : infoP k l c) : infoB k l c = true := decide_eq_true h
theorem infoB_iff {k l c : Int} (h : infoB k l c = true) : infoP k l c := of_decide_eq_true h
def infoV (k l c : Int) : Nat := if infoB k l c then k.toNat + 16 * l.toNat + 65536 * c.toNat else 0
theorem infoV_yes {k l c : Int} (h : infoB k l c = true) : infoV k l c = k.toNat + 16 * l.toNat + 65536 * c.toNat := by unfold infoV; rw [if_pos h]
theorem infoV_no {k l c : Int} (h : infoB k l c = false) : infoV k l c = 0 := by unfold infoV; rw [h]; rfl

set_option maxHeartbeats 1600000 in
theorem inIsRight_c (k l c : Int) (w : World) :
    Calls Tryz.prog 123 #[.agg #[.int .i64 k, .int .i64 l, .int .i64 c]] w fun e w' => e = .returned (.bool (infoB k l c)) ∧ Below w.heap.size w w' := by
  have hC : ∃ b, infoB k l c = b := ⟨_, rfl⟩
  obtain ⟨b, hb⟩ := hC
  rw [hb]
  have hcase : (k = 3 ∧ l ≠ 1 ∧ b = false) ∨ (k = 3 ∧ l = 1 ∧ c < 0 ∧ b = false) ∨ (k = 3 ∧ l = 1 ∧ 0 ≤ c ∧ 9 ≤ c ∧ b = false) ∨ (k = 3 ∧ l = 1 ∧ 0 ≤ c ∧ c < 9 ∧ b = true) ∨
      ((k = 1 ∨ k = 2) ∧ l < 1 ∧ b = false) ∨ ((k = 1 ∨ k = 2) ∧ 1 ≤ l ∧ 1024 < l ∧ b = false) ∨ ((k = 1 ∨ k = 2) ∧ 1 ≤ l ∧ l ≤ 1024 ∧ c ≠ 0 ∧ b = false) ∨ ((k = 1 ∨ k = 2) ∧ 1 ≤ l ∧ l ≤ 1024 ∧ c = 0 ∧ b = true) ∨
      (k = 0 ∧ l ≠ 0 ∧ b = false) ∨ (k = 0 ∧ l = 0 ∧ c ≠ 0 ∧ b = false) ∨ (k = 0 ∧ l = 0 ∧ c = 0 ∧ b = true) ∨ (k ≠ 0 ∧ k ≠ 1 ∧ k ≠ 2 ∧ k ≠ 3 ∧ b = false) := by
    cases b
    · have h : ¬ infoP k l c := of_decide_eq_false hb
      unfold infoP at h
      simp only [and_true, reduceCtorEq, and_false, or_false, false_or]
      omega
    · have h : infoP k l c := infoB_iff hb
      unfold infoP at h
      simp only [and_true, reduceCtorEq, and_false, or_false, false_or]
      omega
  clear hb
  rcases hcase with ⟨rfl, h1, rfl⟩ | ⟨rfl, rfl, h1, rfl⟩ | ⟨rfl, rfl, h1, h2, rfl⟩ | ⟨rfl, rfl, h1, h2, rfl⟩ | ⟨rfl | rfl, h1, rfl⟩ | ⟨rfl | rfl, h1, h2, rfl⟩ | ⟨rfl | rfl, h1, h2, h3, rfl⟩ | ⟨rfl | rfl, h1, h2, rfl, rfl⟩ | ⟨rfl, h1, rfl⟩ | ⟨rfl, rfl, h1, rfl⟩ | ⟨rfl, rfl, rfl, rfl⟩ | ⟨h0, h1, h2, h3, rfl⟩
  all_goals
    go_enter Tryz.func123, Tryz.ntmps123
    go_wp2
    go_ret
    refine ⟨by first | rfl | (refine ret_bool ?_; simp; done) | (refine ret_bool ?_; simp; omega), ?_⟩
    repeat (first | exact B0 _ | (with_reducible refine Bdrew ?_) | (with_reducible refine Bdraw ?_ _) | (with_reducible refine Bnew ?_ _) | (refine Bput ?_ (Nat.le_refl _) _))
set_option maxHeartbeats 1600000 in
theorem r9Right_c (k l c : Int) (w : World) :
    Calls Tryz.prog 128 #[.agg #[.int .i64 k, .int .i64 l, .int .i64 c]] w fun e w' => e = .returned (.bool (infoB k l c)) ∧ Below w.heap.size w w' := by
  have hC : ∃ b, infoB k l c = b := ⟨_, rfl⟩
  obtain ⟨b, hb⟩ := hC
  rw [hb]
  have hcase : (k = 3 ∧ l ≠ 1 ∧ b = false) ∨ (k = 3 ∧ l = 1 ∧ c < 0 ∧ b = false) ∨ (k = 3 ∧ l = 1 ∧ 0 ≤ c ∧ 8 < c ∧ b = false) ∨ (k = 3 ∧ l = 1 ∧ 0 ≤ c ∧ c ≤ 8 ∧ b = true) ∨
      ((k = 1 ∨ k = 2) ∧ l < 1 ∧ b = false) ∨ ((k = 1 ∨ k = 2) ∧ 1 ≤ l ∧ 1024 < l ∧ b = false) ∨ ((k = 1 ∨ k = 2) ∧ 1 ≤ l ∧ l ≤ 1024 ∧ c ≠ 0 ∧ b = false) ∨ ((k = 1 ∨ k = 2) ∧ 1 ≤ l ∧ l ≤ 1024 ∧ c = 0 ∧ b = true) ∨
      (k = 0 ∧ l ≠ 0 ∧ b = false) ∨ (k = 0 ∧ l = 0 ∧ c ≠ 0 ∧ b = false) ∨ (k = 0 ∧ l = 0 ∧ c = 0 ∧ b = true) ∨ (k ≠ 0 ∧ k ≠ 1 ∧ k ≠ 2 ∧ k ≠ 3 ∧ b = false) := by
    cases b
    · have h : ¬ infoP k l c := of_decide_eq_false hb
      unfold infoP at h
      simp only [and_true, reduceCtorEq, and_false, or_false, false_or]
      omega
    · have h : infoP k l c := infoB_iff hb
      unfold infoP at h
      simp only [and_true, reduceCtorEq, and_false, or_false, false_or]
      omega
  clear hb
  rcases hcase with ⟨rfl, h1, rfl⟩ | ⟨rfl, rfl, h1, rfl⟩ | ⟨rfl, rfl, h1, h2, rfl⟩ | ⟨rfl, rfl, h1, h2, rfl⟩ | ⟨rfl | rfl, h1, rfl⟩ | ⟨rfl | rfl, h1, h2, rfl⟩ | ⟨rfl | rfl, h1, h2, h3, rfl⟩ | ⟨rfl | rfl, h1, h2, rfl, rfl⟩ | ⟨rfl, h1, rfl⟩ | ⟨rfl, rfl, h1, rfl⟩ | ⟨rfl, rfl, rfl, rfl⟩ | ⟨h0, h1, h2, h3, rfl⟩
  all_goals
    go_enter Tryz.func128, Tryz.ntmps128
    go_wp2
    go_ret
    refine ⟨by first | rfl | (refine ret_bool ?_; simp; done) | (refine ret_bool ?_; simp; omega), ?_⟩
    repeat (first | exact B0 _ | (with_reducible refine Bdrew ?_) | (with_reducible refine Bdraw ?_ _) | (with_reducible refine Bnew ?_ _) | (refine Bput ?_ (Nat.le_refl _) _))
end
section
theorem putN_new (x a k v : Nat) (ha : a + k ≤ 64) (hx : x < 2 ^ a) (hv : v < 2 ^ k) : HM.putN x a k v = x + v * 2 ^ a := by
  have hx64 : x < 2 ^ 64 := Nat.lt_of_lt_of_le hx (Nat.pow_le_pow_right (by omega) (by omega))
  have h1 : x + v * 2 ^ a = 2 ^ a * v + x := by rw [Nat.mul_comm, Nat.add_comm]
  have hlt : 2 ^ a * v + x < 2 ^ 64 := by
    have e : (2 : Nat) ^ 64 = 2 ^ a * 2 ^ (64 - a) := by rw [← Nat.pow_add]; congr 1; omega
    have e2 : (2 : Nat) ^ k ≤ 2 ^ (64 - a) := Nat.pow_le_pow_right (by omega) (by omega)
    have e3 : 2 ^ a * (v + 1) ≤ 2 ^ a * 2 ^ (64 - a) := Nat.mul_le_mul_left _ (by omega)
    rw [Nat.mul_succ] at e3
    rw [e]
    omega
  rw [h1]
  apply Nat.eq_of_testBit_eq
  intro i
  by_cases hi : i < 64
  · rw [HM.bit_putN x a k v i ha hv hi, Nat.testBit_two_pow_mul_add _ hx]
    by_cases h2 : i < a
    · rw [if_neg (by omega), if_pos h2]
    · rw [if_neg h2]
      by_cases h3 : i < a + k
      · rw [if_pos ⟨by omega, h3⟩]
      · rw [if_neg (by omega), Nat.testBit_lt_two_pow (Nat.lt_of_lt_of_le hx (Nat.pow_le_pow_right (by omega) (by omega))), Nat.testBit_lt_two_pow (Nat.lt_of_lt_of_le hv (Nat.pow_le_pow_right (by omega) (by omega)))]
  · rw [HM.bit_high (HM.putN_lt x a k v ha hv) (by omega), HM.bit_high hlt (by omega)]
theorem putNew_c (x a k v : Nat) (hk : 1 ≤ k) (ha : a + k ≤ 64) (hx : x < 2 ^ a) (hv : v < 2 ^ k) (y : Nat) (hy : x + v * 2 ^ a = y) (w : World) :
    Calls Tryz.prog 124 #[.int .u64 (x : Int), .int .i64 (a : Int), .int .i64 (k : Int), .int .u64 (v : Int)] w fun e w' => e = .returned (.tuple #[.int .u64 (y : Int), .bool true]) ∧ ∃ n, w' = w.drewN n := by
  have hx64 : x < 2 ^ 64 := Nat.lt_of_lt_of_le hx (Nat.pow_le_pow_right (by omega) (by omega))
  have hv64 : v < 2 ^ 64 := Nat.lt_of_lt_of_le hv (Nat.pow_le_pow_right (by omega) (by omega))
  refine (Put_c x v a k hx64 hv64 (by omega) (by omega) (by omega) (by omega) w).mono ?_
  rintro e w' ⟨rfl, hw⟩
  have hok : putOk a k v = true := by
    unfold putOk
    rw [fieldB_yes (by omega) (by omega) (by omega)]
    simpa using hv
  have e1 : putI x a k v = y := by
    unfold putI
    rw [if_pos hok]
    exact (putN_new x a k v ha hx hv).trans hy
  rw [hok, e1]
  exact ⟨rfl, hw⟩
theorem ret_half {k : IntKind} {a b : Int} {c : Bool} (h : a = b) : Ending.returned (.tuple #[.int k a, .bool c]) = .returned (.tuple #[.int k b, .bool c]) := by rw [h]

theorem inPut_c (k l c : Int) (w : World) :
    Calls Tryz.prog 84 #[.agg #[.int .i64 k, .int .i64 l, .int .i64 c]] w fun e w' => e = .returned (.tuple #[.int .u32 ((infoV k l c : Nat) : Int), .bool (infoB k l c)]) ∧ Below w.heap.size w w' := by
  cases hr : infoB k l c
  · have HP := hidp (infoV_no hr)
    have HR := hidp hr
    clear hr
    go_enter Tryz.func84, Tryz.ntmps84
    go_wp2_with fail
    refine (inIsRight_c k l c _).mono ?_
    rintro e w1 ⟨rfl, hb1⟩
    rw [HR.out]
    go_wp2
    go_ret2
    exact ⟨by rw [HP.out]; rfl, Bgo (Bnew (B0 _) _) hb1⟩
  · have HP := hidp (infoV_yes hr)
    have HR := hidp hr
    have hi := infoB_iff hr
    clear hr
    have hb : 0 ≤ k ∧ k ≤ 3 ∧ 0 ≤ l ∧ l ≤ 1024 ∧ 0 ≤ c ∧ c ≤ 8 := by unfold infoP at hi; omega
    obtain ⟨k0, k3, l0, l1, c0, c8⟩ := hb
    clear hi
    obtain ⟨k, rfl⟩ : ∃ n : Nat, k = n := ⟨k.toNat, by omega⟩
    obtain ⟨l, rfl⟩ : ∃ n : Nat, l = n := ⟨l.toNat, by omega⟩
    obtain ⟨c, rfl⟩ : ∃ n : Nat, c = n := ⟨c.toNat, by omega⟩
    go_enter Tryz.func84, Tryz.ntmps84
    go_wp2_with fail
    have hc := Held.new w 103 #[.int .i64 (k : Int), .int .i64 (l : Int), .int .i64 (c : Int)]
    refine (inIsRight_c k l c _).mono ?_
    rintro e w1 ⟨rfl, hb1⟩
    rw [HR.out]
    obtain ⟨c0, c1, c2⟩ := (hc.keep hb1).three
    go_wp2_with fail
    refine (putNew_c 0 0 4 k (by omega) (by omega) (by omega) (by omega) k (by omega) _).mono ?_
    rintro e w2 ⟨rfl, n2, rfl⟩
    go_wp2_with fail
    refine (putNew_c k 4 12 l (by omega) (by omega) (by omega) (by omega) (k + l * 16) (by omega) _).mono ?_
    rintro e w2 ⟨rfl, n3, rfl⟩
    go_wp2_with fail
    refine (putNew_c (k + l * 16) 16 4 c (by omega) (by omega) (by omega) (by omega) (k + l * 16 + c * 65536) (by omega) _).mono ?_
    rintro e w2 ⟨rfl, n4, rfl⟩
    go_wp2_with fail
    refine (Lo_c (k + l * 16 + c * 65536) (by omega) _).mono ?_
    rintro e w2 ⟨rfl, rfl⟩
    go_wp2
    go_ret2
    refine ⟨ret_half (by rw [HP.out]; omega), ?_⟩
    repeat (first | exact B0 _ | (with_reducible refine Bdrew ?_) | (with_reducible refine Bdraw ?_ _) | (with_reducible refine Bgo ?_ hb1) | (with_reducible refine Bnew ?_ _))
end
section
theorem inGet1_c (x a k : Nat) (v : Nat) (g : Nat) (w : World) (hx : x < 2 ^ 32) (hk : 1 ≤ k) (ha : a + k ≤ 64) (hv : x / 2 ^ a % 2 ^ k = v) (hc : Held w g 142 #[.int .u64 (x : Int)]) :
    Calls Tryz.prog 130 #[.int .i64 (a : Int), .int .i64 (k : Int), .pointer (some ⟨g, 0, none⟩)] w fun e w' => e = .returned (.int .i64 (v : Int)) ∧ ∃ n, w' = w.drewN n := by
  have c0 : w.cell? ⟨g, 0, none⟩ = some (.int .u64 (x : Int)) := hc.cell 0
  have hb : v < 4294967296 := by
    have h1 : x / 2 ^ a % 2 ^ k ≤ x / 2 ^ a := Nat.mod_le _ _
    have h2 : x / 2 ^ a ≤ x := Nat.div_le_self _ _
    omega
  have HG : Hid (getI x a k = v) := by
    refine hidp ?_
    unfold getI HM.getN
    rw [if_pos (fieldB_yes (by omega) (by omega) (by omega))]
    simpa using hv
  clear hv
  go_enter Tryz.func130, Tryz.ntmps130
  go_wp2_with fail
  refine (Get_c x a k (by omega) (by omega) (by omega) (by omega) (by omega) _).mono ?_
  rintro e w1 ⟨rfl, n1, rfl⟩
  rw [HG.out]
  go_wp2
  go_ret
  exact ⟨rfl, n1, rfl⟩

theorem inGet_yes (v k l c : Nat) (hv : v < 2 ^ 32) (h1 : v % 16 = k) (h2 : v / 16 % 4096 = l) (h3 : v / 65536 % 16 = c) (hr : infoB k l c = true) (hw : infoV k l c = v) (w : World) :
    Calls Tryz.prog 97 #[.int .u32 (v : Int)] w fun e w' => e = .returned (.tuple #[.agg #[.int .i64 (k : Int), .int .i64 (l : Int), .int .i64 (c : Int)], .bool true]) ∧ Below w.heap.size w w' := by
  have HR := hidp hr
  have HW := hidp hw; clear hw
  have H1 := hidp (show v / 2 ^ 0 % 2 ^ 4 = k by omega)
  have H2 := hidp (show v / 2 ^ 4 % 2 ^ 12 = l by omega)
  have H3 := hidp (show v / 2 ^ 16 % 2 ^ 4 = c by omega)
  clear hr h1 h2 h3
  go_enter Tryz.func97, Tryz.ntmps97
  go_wp2_with fail
  refine (Join_c 0 v (by omega) hv _).mono ?_
  rintro e w1 ⟨rfl, rfl⟩
  rw [show 0 * 4294967296 + v = v from by omega]
  have hc := Held.new2 w (.cells #[.int .i64 0, .int .i64 0, .int .i64 0] 103) 142 #[.int .u64 (v : Int)]
  have hr0 := (Held.new w 103 #[.int .i64 0, .int .i64 0, .int .i64 0]).alloc (.cells #[.int .u64 (v : Int)] 142)
  go_wp2_with fail
  refine (inGet1_c v 0 4 k _ _ hv (by omega) (by omega) H1.out hc).mono ?_
  rintro e w1 ⟨rfl, n1, rfl⟩
  go_wp2_with fail
  refine (inGet1_c v 4 12 l _ _ hv (by omega) (by omega) H2.out (hc.drewN n1)).mono ?_
  rintro e w1 ⟨rfl, n2, rfl⟩
  go_wp2_with fail
  refine (inGet1_c v 16 4 c _ _ hv (by omega) (by omega) H3.out (hc.drewN (n1 + n2))).mono ?_
  rintro e w1 ⟨rfl, n3, rfl⟩
  go_wp2_with fail
  refine (inPut_c k l c _).mono ?_
  rintro e w6 ⟨rfl, hb⟩
  rw [HR.out, HW.out]
  obtain ⟨hcl, hfr⟩ := bcell hb
  have hz := hb.size
  simp only [World.size_alloc, World.heap_drewN] at hz
  have z := ((hr0.drewN (n1 + n2 + n3)).alloc (.cells #[.int .i64 (k : Int), .int .i64 (l : Int), .int .i64 (c : Int)] 103)).keep hb
  obtain ⟨q0, q1, q2⟩ := (((z.put 0 (.int .i64 (k : Int))).put 1 (.int .i64 (l : Int))).put 2 (.int .i64 (c : Int))).three
  go_wp2
  refine bodyPost_ret (v := .tuple #[.agg #[.int .i64 (k : Int), .int .i64 (l : Int), .int .i64 (c : Int)], .bool true]) (by simp [results, Tryz.results97, go_sem, hcl, q0, q1, q2]) rfl ⟨rfl, ?_⟩
  (repeat (first | exact B0 _ | (with_reducible refine Below.setCell ?_ (by first | (simp; done) | (simp; omega)) _) | (with_reducible refine Bgo ?_ hb) | (with_reducible refine below_draws ?_ _) | (with_reducible refine Below.alloc ?_ (by first | (simp; done) | (simp; omega)) _)))

theorem inGet_no1 (v k l c m : Nat) (hv : v < 2 ^ 32) (h1 : v % 16 = k) (h2 : v / 16 % 4096 = l) (h3 : v / 65536 % 16 = c) (hr : infoB k l c = false) (hw : infoV k l c = m) (w : World) :
    Calls Tryz.prog 97 #[.int .u32 (v : Int)] w fun e w' => e = .returned (.tuple #[.agg #[.int .i64 0, .int .i64 0, .int .i64 0], .bool false]) ∧ Below w.heap.size w w' := by
  have HR := hidp hr
  have HW := hidp hw; clear hw
  have H1 := hidp (show v / 2 ^ 0 % 2 ^ 4 = k by omega)
  have H2 := hidp (show v / 2 ^ 4 % 2 ^ 12 = l by omega)
  have H3 := hidp (show v / 2 ^ 16 % 2 ^ 4 = c by omega)
  clear hr h1 h2 h3
  go_enter Tryz.func97, Tryz.ntmps97
  go_wp2_with fail
  refine (Join_c 0 v (by omega) hv _).mono ?_
  rintro e w1 ⟨rfl, rfl⟩
  rw [show 0 * 4294967296 + v = v from by omega]
  have hc := Held.new2 w (.cells #[.int .i64 0, .int .i64 0, .int .i64 0] 103) 142 #[.int .u64 (v : Int)]
  have hr0 := (Held.new w 103 #[.int .i64 0, .int .i64 0, .int .i64 0]).alloc (.cells #[.int .u64 (v : Int)] 142)
  go_wp2_with fail
  refine (inGet1_c v 0 4 k _ _ hv (by omega) (by omega) H1.out hc).mono ?_
  rintro e w1 ⟨rfl, n1, rfl⟩
  go_wp2_with fail
  refine (inGet1_c v 4 12 l _ _ hv (by omega) (by omega) H2.out (hc.drewN n1)).mono ?_
  rintro e w1 ⟨rfl, n2, rfl⟩
  go_wp2_with fail
  refine (inGet1_c v 16 4 c _ _ hv (by omega) (by omega) H3.out (hc.drewN (n1 + n2))).mono ?_
  rintro e w1 ⟨rfl, n3, rfl⟩
  go_wp2_with fail
  refine (inPut_c k l c _).mono ?_
  rintro e w6 ⟨rfl, hb⟩
  rw [HR.out, HW.out]
  obtain ⟨hcl, hfr⟩ := bcell hb
  have hz := hb.size
  simp only [World.size_alloc, World.heap_drewN] at hz
  have z := ((hr0.drewN (n1 + n2 + n3)).alloc (.cells #[.int .i64 (k : Int), .int .i64 (l : Int), .int .i64 (c : Int)] 103)).keep hb
  obtain ⟨q0, q1, q2⟩ := (((z.put 0 (.int .i64 0)).put 1 (.int .i64 0)).put 2 (.int .i64 0)).three
  go_wp2
  refine bodyPost_ret (v := .tuple #[.agg #[.int .i64 0, .int .i64 0, .int .i64 0], .bool false]) (by simp [results, Tryz.results97, go_sem, hcl, q0, q1, q2]) rfl ⟨rfl, ?_⟩
  (repeat (first | exact B0 _ | (with_reducible refine Below.setCell ?_ (by first | (simp; done) | (simp; omega)) _) | (with_reducible refine Bgo ?_ hb) | (with_reducible refine below_draws ?_ _) | (with_reducible refine Below.alloc ?_ (by first | (simp; done) | (simp; omega)) _)))

theorem inGet_no2 (v k l c m : Nat) (hv : v < 2 ^ 32) (h1 : v % 16 = k) (h2 : v / 16 % 4096 = l) (h3 : v / 65536 % 16 = c) (hr : infoB k l c = true) (hw : infoV k l c = m) (hn : m ≠ v) (w : World) :
    Calls Tryz.prog 97 #[.int .u32 (v : Int)] w fun e w' => e = .returned (.tuple #[.agg #[.int .i64 0, .int .i64 0, .int .i64 0], .bool false]) ∧ Below w.heap.size w w' := by
  have HR := hidp hr
  have HW := hidp hw; clear hw
  have H1 := hidp (show v / 2 ^ 0 % 2 ^ 4 = k by omega)
  have H2 := hidp (show v / 2 ^ 4 % 2 ^ 12 = l by omega)
  have H3 := hidp (show v / 2 ^ 16 % 2 ^ 4 = c by omega)
  clear hr h1 h2 h3
  go_enter Tryz.func97, Tryz.ntmps97
  go_wp2_with fail
  refine (Join_c 0 v (by omega) hv _).mono ?_
  rintro e w1 ⟨rfl, rfl⟩
  rw [show 0 * 4294967296 + v = v from by omega]
  have hc := Held.new2 w (.cells #[.int .i64 0, .int .i64 0, .int .i64 0] 103) 142 #[.int .u64 (v : Int)]
  have hr0 := (Held.new w 103 #[.int .i64 0, .int .i64 0, .int .i64 0]).alloc (.cells #[.int .u64 (v : Int)] 142)
  go_wp2_with fail
  refine (inGet1_c v 0 4 k _ _ hv (by omega) (by omega) H1.out hc).mono ?_
  rintro e w1 ⟨rfl, n1, rfl⟩
  go_wp2_with fail
  refine (inGet1_c v 4 12 l _ _ hv (by omega) (by omega) H2.out (hc.drewN n1)).mono ?_
  rintro e w1 ⟨rfl, n2, rfl⟩
  go_wp2_with fail
  refine (inGet1_c v 16 4 c _ _ hv (by omega) (by omega) H3.out (hc.drewN (n1 + n2))).mono ?_
  rintro e w1 ⟨rfl, n3, rfl⟩
  go_wp2_with fail
  refine (inPut_c k l c _).mono ?_
  rintro e w6 ⟨rfl, hb⟩
  rw [HR.out, HW.out]
  obtain ⟨hcl, hfr⟩ := bcell hb
  have hz := hb.size
  simp only [World.size_alloc, World.heap_drewN] at hz
  have z := ((hr0.drewN (n1 + n2 + n3)).alloc (.cells #[.int .i64 (k : Int), .int .i64 (l : Int), .int .i64 (c : Int)] 103)).keep hb
  obtain ⟨q0, q1, q2⟩ := (((z.put 0 (.int .i64 0)).put 1 (.int .i64 0)).put 2 (.int .i64 0)).three
  have t0 : ((m : Int) != v) = true := by simp; omega
  have t1 : ((m : Int) == v) = false := by simp; omega
  have t2 : (m == v) = false := by simp; omega
  clear hn
  go_wp2
  refine bodyPost_ret (v := .tuple #[.agg #[.int .i64 0, .int .i64 0, .int .i64 0], .bool false]) (by simp [results, Tryz.results97, go_sem, hcl, q0, q1, q2]) rfl ⟨rfl, ?_⟩
  (repeat (first | exact B0 _ | (with_reducible refine Below.setCell ?_ (by first | (simp; done) | (simp; omega)) _) | (with_reducible refine Bgo ?_ hb) | (with_reducible refine below_draws ?_ _) | (with_reducible refine Below.alloc ?_ (by first | (simp; done) | (simp; omega)) _)))


def infoG (v : Nat) : Int × Int × Int × Bool :=
  if infoB (v % 16 : Nat) (v / 16 % 4096 : Nat) (v / 65536 : Nat) then ((v % 16 : Nat), (v / 16 % 4096 : Nat), (v / 65536 : Nat), true) else (0, 0, 0, false)
theorem infoG_yes {v : Nat} (h : infoB (v % 16 : Nat) (v / 16 % 4096 : Nat) (v / 65536 : Nat) = true) : infoG v = (((v % 16 : Nat) : Int), ((v / 16 % 4096 : Nat) : Int), ((v / 65536 : Nat) : Int), true) := by unfold infoG; rw [if_pos h]
theorem infoG_no {v : Nat} (h : infoB (v % 16 : Nat) (v / 16 % 4096 : Nat) (v / 65536 : Nat) = false) : infoG v = (0, 0, 0, false) := by unfold infoG; rw [h]; rfl
theorem infoG_split (v : Nat) : (infoB (v % 16 : Nat) (v / 16 % 4096 : Nat) (v / 65536 % 16 : Nat) = true ∧ infoV (v % 16 : Nat) (v / 16 % 4096 : Nat) (v / 65536 % 16 : Nat) = v) ↔ infoB (v % 16 : Nat) (v / 16 % 4096 : Nat) (v / 65536 : Nat) = true := by
  constructor
  · rintro ⟨h1, h2⟩
    rw [infoV_yes h1] at h2
    simp only [Int.toNat_natCast] at h2
    have e : v / 65536 % 16 = v / 65536 := by omega
    rw [e] at h1
    exact h1
  · intro h
    have h' := infoB_iff h
    unfold infoP at h'
    have e : v / 65536 % 16 = v / 65536 := by omega
    rw [e]
    refine ⟨h, ?_⟩
    rw [infoV_yes h]
    simp only [Int.toNat_natCast]
    omega
theorem infoG_back {v : Nat} {k l c : Int} (h : infoG v = (k, l, c, true)) : infoB k l c = true ∧ infoV k l c = v := by
  cases hr : infoB (v % 16 : Nat) (v / 16 % 4096 : Nat) (v / 65536 : Nat)
  · rw [infoG_no hr] at h; simp at h
  · rw [infoG_yes hr] at h
    simp only [Prod.mk.injEq, and_true] at h
    obtain ⟨rfl, rfl, rfl⟩ := h
    have h2 := (infoG_split v).2 hr
    have h3 := infoB_iff hr
    unfold infoP at h3
    have e : v / 65536 % 16 = v / 65536 := by omega
    rw [e] at h2
    exact h2
theorem infoG_none {v : Nat} {k l c : Int} (h : infoG v = (k, l, c, false)) : k = 0 ∧ l = 0 ∧ c = 0 := by
  cases hr : infoB (v % 16 : Nat) (v / 16 % 4096 : Nat) (v / 65536 : Nat)
  · rw [infoG_no hr] at h
    simp only [Prod.mk.injEq, and_true] at h
    omega
  · rw [infoG_yes hr] at h; simp at h
theorem infoG_put {k l c : Int} (h : infoB k l c = true) : infoG (infoV k l c) = (k, l, c, true) := by
  have hi := infoB_iff h
  unfold infoP at hi
  rw [infoV_yes h]
  have e1 : (k.toNat + 16 * l.toNat + 65536 * c.toNat) % 16 = k.toNat := by omega
  have e2 : (k.toNat + 16 * l.toNat + 65536 * c.toNat) / 16 % 4096 = l.toNat := by omega
  have e3 : (k.toNat + 16 * l.toNat + 65536 * c.toNat) / 65536 = c.toNat := by omega
  unfold infoG
  rw [e1, e2, e3, show ((k.toNat : Nat) : Int) = k by omega, show ((l.toNat : Nat) : Int) = l by omega, show ((c.toNat : Nat) : Int) = c by omega, if_pos h]
theorem infoV_lt (k l c : Int) : infoV k l c < 2 ^ 32 := by
  cases hr : infoB k l c
  · rw [infoV_no hr]; omega
  · have hi := infoB_iff hr
    unfold infoP at hi
    rw [infoV_yes hr]
    omega
theorem inGet_c (v : Nat) (k l c : Int) (b : Bool) (hv : v < 2 ^ 32) (h : infoG v = (k, l, c, b)) (w : World) :
    Calls Tryz.prog 97 #[.int .u32 (v : Int)] w fun e w' => e = .returned (.tuple #[.agg #[.int .i64 k, .int .i64 l, .int .i64 c], .bool b]) ∧ Below w.heap.size w w' := by
  have hs := infoG_split v
  cases hr : infoB (v % 16 : Nat) (v / 16 % 4096 : Nat) (v / 65536 : Nat)
  · rw [infoG_no hr] at h
    simp only [Prod.mk.injEq] at h
    obtain ⟨rfl, rfl, rfl, rfl⟩ := h
    rw [hr] at hs
    cases h5 : infoB (v % 16 : Nat) (v / 16 % 4096 : Nat) (v / 65536 % 16 : Nat)
    · exact inGet_no1 v _ _ _ _ hv rfl rfl rfl h5 rfl w
    · refine inGet_no2 v _ _ _ _ hv rfl rfl rfl h5 rfl (fun h6 => ?_) w
      have := hs.1 ⟨h5, h6⟩
      cases this
  · rw [infoG_yes hr] at h
    simp only [Prod.mk.injEq] at h
    obtain ⟨rfl, rfl, rfl, rfl⟩ := h
    obtain ⟨h5, h6⟩ := hs.2 hr
    have hi := infoB_iff hr
    unfold infoP at hi
    have e : v / 65536 % 16 = v / 65536 := by omega
    have := inGet_yes v _ _ _ hv rfl rfl rfl h5 h6 w
    rw [e] at this
    exact this

theorem r9Get_yes (v k l c : Nat) (hv : v < 2 ^ 32) (h1 : v % 16 = k) (h2 : v / 16 % 4096 = l) (h3 : v / 65536 = c) (hr : infoB k l c = true) (w : World) :
    Calls Tryz.prog 96 #[.int .u32 (v : Int)] w fun e w' => e = .returned (.tuple #[.agg #[.int .i64 (k : Int), .int .i64 (l : Int), .int .i64 (c : Int)], .bool true]) ∧ Below w.heap.size w w' := by
  have HR := hidp hr
  clear hr
  have e1 : ((v : Int).tmod 16) = (k : Int) := by rw [Int.tmod_eq_emod_of_nonneg (by omega)]; omega
  have e2 : (((v : Int) / 16).tmod 4096) = (l : Int) := by rw [Int.tmod_eq_emod_of_nonneg (by omega)]; omega
  have e3 : ((v : Int) / 65536) = (c : Int) := by omega
  go_enter Tryz.func96, Tryz.ntmps96
  go_wp2_with fail
  refine (r9Right_c k l c _).mono ?_
  rintro e w6 ⟨rfl, hb⟩
  rw [HR.out]
  obtain ⟨hcl, hfr⟩ := bcell hb
  have hz := hb.size
  simp only [World.size_alloc, World.heap_drewN] at hz
  have z := ((Held.new w 103 #[.int .i64 0, .int .i64 0, .int .i64 0]).alloc (.cells #[.int .i64 (k : Int), .int .i64 (l : Int), .int .i64 (c : Int)] 103)).keep hb
  obtain ⟨q0, q1, q2⟩ := (((z.put 0 (.int .i64 (k : Int))).put 1 (.int .i64 (l : Int))).put 2 (.int .i64 (c : Int))).three
  go_wp2
  refine bodyPost_ret (v := .tuple #[.agg #[.int .i64 (k : Int), .int .i64 (l : Int), .int .i64 (c : Int)], .bool true]) (by simp [results, Tryz.results96, go_sem, hcl, q0, q1, q2]) rfl ⟨rfl, ?_⟩
  (repeat (first | exact B0 _ | (with_reducible refine Below.setCell ?_ (by first | (simp; done) | (simp; omega)) _) | (with_reducible refine Bgo ?_ hb) | (with_reducible refine below_draws ?_ _) | (with_reducible refine Below.alloc ?_ (by first | (simp; done) | (simp; omega)) _)))

theorem r9Get_no (v k l c : Nat) (hv : v < 2 ^ 32) (h1 : v % 16 = k) (h2 : v / 16 % 4096 = l) (h3 : v / 65536 = c) (hr : infoB k l c = false) (w : World) :
    Calls Tryz.prog 96 #[.int .u32 (v : Int)] w fun e w' => e = .returned (.tuple #[.agg #[.int .i64 0, .int .i64 0, .int .i64 0], .bool false]) ∧ Below w.heap.size w w' := by
  have HR := hidp hr
  clear hr
  have e1 : ((v : Int).tmod 16) = (k : Int) := by rw [Int.tmod_eq_emod_of_nonneg (by omega)]; omega
  have e2 : (((v : Int) / 16).tmod 4096) = (l : Int) := by rw [Int.tmod_eq_emod_of_nonneg (by omega)]; omega
  have e3 : ((v : Int) / 65536) = (c : Int) := by omega
  go_enter Tryz.func96, Tryz.ntmps96
  go_wp2_with fail
  refine (r9Right_c k l c _).mono ?_
  rintro e w6 ⟨rfl, hb⟩
  rw [HR.out]
  obtain ⟨hcl, hfr⟩ := bcell hb
  have hz := hb.size
  simp only [World.size_alloc, World.heap_drewN] at hz
  have z := ((Held.new w 103 #[.int .i64 0, .int .i64 0, .int .i64 0]).alloc (.cells #[.int .i64 (k : Int), .int .i64 (l : Int), .int .i64 (c : Int)] 103)).keep hb
  obtain ⟨q0, q1, q2⟩ := (((z.put 0 (.int .i64 0)).put 1 (.int .i64 0)).put 2 (.int .i64 0)).three
  go_wp2
  refine bodyPost_ret (v := .tuple #[.agg #[.int .i64 0, .int .i64 0, .int .i64 0], .bool false]) (by simp [results, Tryz.results96, go_sem, hcl, q0, q1, q2]) rfl ⟨rfl, ?_⟩
  (repeat (first | exact B0 _ | (with_reducible refine Below.setCell ?_ (by first | (simp; done) | (simp; omega)) _) | (with_reducible refine Bgo ?_ hb) | (with_reducible refine below_draws ?_ _) | (with_reducible refine Below.alloc ?_ (by first | (simp; done) | (simp; omega)) _)))

theorem r9Get_c (v : Nat) (k l c : Int) (b : Bool) (hv : v < 2 ^ 32) (h : infoG v = (k, l, c, b)) (w : World) :
    Calls Tryz.prog 96 #[.int .u32 (v : Int)] w fun e w' => e = .returned (.tuple #[.agg #[.int .i64 k, .int .i64 l, .int .i64 c], .bool b]) ∧ Below w.heap.size w w' := by
  cases hr : infoB (v % 16 : Nat) (v / 16 % 4096 : Nat) (v / 65536 : Nat)
  · rw [infoG_no hr] at h
    simp only [Prod.mk.injEq] at h
    obtain ⟨rfl, rfl, rfl, rfl⟩ := h
    exact r9Get_no v _ _ _ hv rfl rfl rfl hr w
  · rw [infoG_yes hr] at h
    simp only [Prod.mk.injEq] at h
    obtain ⟨rfl, rfl, rfl, rfl⟩ := h
    exact r9Get_yes v _ _ _ hv rfl rfl rfl hr w
end
end Go.Proofs.YtnamlhkccgnbfaaGreat

namespace Go.Proofs.YtnamlhkccgnbfaaGreat
open Go.ChangeShapes Go.WideShapes Go.ChangeAt Go.RowKit Go.Maps
set_option linter.unusedVariables false
set_option linter.unusedSimpArgs false
section
def ofI (n : Int) : Int := if n < 1 ∨ 1024 < n then -1 else HM.logI n
theorem ofI_nat {n : Nat} (h1 : 1 ≤ n) (h2 : n ≤ 1024) : ∃ k : Nat, ofI (n : Int) = k ∧ k ≤ 10 ∧ 2 ^ k ≤ n ∧ n < 2 ^ (k + 1) := by
  have h : ∃ k : Nat, k ≤ 10 ∧ 2 ^ k ≤ n ∧ n < 2 ^ (k + 1) := by
    rcases Nat.lt_or_ge n 1024 with h3 | h3
    · refine ⟨Nat.log2 n, ?_, Nat.log2_self_le (by omega), Nat.lt_log2_self⟩
      have := Nat.log2_lt (n := n) (k := 10) (by omega)
      have := this.2 h3
      omega
    · exact ⟨10, by omega, by omega, by omega⟩
  obtain ⟨k, hk, ha, hb⟩ := h
  refine ⟨k, ?_, hk, ha, hb⟩
  unfold ofI
  rw [if_neg (by omega)]
  exact HM.logI_at (n : Int) k (by
    have e : ((n : Int) / 2 ^ k) = ((n / 2 ^ k : Nat) : Int) := by push_cast; rfl
    rw [e]
    have := Nat.div_le_div_right (c := 2 ^ k) ha
    rw [Nat.div_self (Nat.two_pow_pos k)] at this
    omega) (by
    have e : ((n : Int) / 2 ^ (k + 1)) = ((n / 2 ^ (k + 1) : Nat) : Int) := by push_cast; rfl
    rw [e, Nat.div_eq_of_lt hb]
    omega)

def fitB (nn : Int) (v : Nat) : Bool := decide ((infoG v).1 = 1) && decide (nn ≤ (infoG v).2.1)
section
variable (n : Nat) (K : Nat → Option Nat) (t q s nn : Int)
def lookF : Nat → Nat → Vst → Option Nat × Vst
  | 0, _, st => (none, st)
  | m + 1, l, st => if 1 ≤ l ∧ (l : Int) ≤ q then
      (if fitB nn (getV n K st (pageI t q s ((l : Int) - 1) 0)) = true then (some (l - 1), getS n K st (pageI t q s ((l : Int) - 1) 0))
       else lookF m (getV n K (getS n K st (pageI t q s ((l : Int) - 1) 0)) (pageI t q s ((l : Int) - 1) 2)) (getS n K (getS n K st (pageI t q s ((l : Int) - 1) 0)) (pageI t q s ((l : Int) - 1) 2)))
    else (none, st)
def nextF : Nat → Nat → Vst → Option Nat × Vst
  | 0, _, st => (none, st)
  | j + 1, k, st => if 1 ≤ getV n K st ((2 + k : Nat) : Int) ∧ ((getV n K st ((2 + k : Nat) : Int) : Nat) : Int) ≤ q then (some (getV n K st ((2 + k : Nat) : Int) - 1), getS n K st ((2 + k : Nat) : Int))
    else nextF j (k + 1) (getS n K st ((2 + k : Nat) : Int))
def findF (k : Nat) (st : Vst) : Option Nat × Vst :=
  let r := lookF n K t q s nn q.toNat (getV n K st ((2 + k : Nat) : Int)) (getS n K st ((2 + k : Nat) : Int))
  match r.1 with
  | some p => (some p, r.2)
  | none => nextF n K q (11 - (k + 1)) (k + 1) r.2
theorem lookF_end {m l : Nat} {st : Vst} (h : ¬ (1 ≤ l ∧ (l : Int) ≤ q)) : lookF n K t q s nn m l st = (none, st) := by
  cases m with
  | zero => rfl
  | succ m => rw [lookF, if_neg h]
theorem lookF_found {m l : Nat} {st : Vst} (h : 1 ≤ l ∧ (l : Int) ≤ q) (hv : fitB nn (getV n K st (pageI t q s ((l : Int) - 1) 0)) = true) : lookF n K t q s nn (m + 1) l st = (some (l - 1), getS n K st (pageI t q s ((l : Int) - 1) 0)) := by
  rw [lookF, if_pos h, if_pos hv]
theorem lookF_step {m l : Nat} {st : Vst} (h : 1 ≤ l ∧ (l : Int) ≤ q) (hv : fitB nn (getV n K st (pageI t q s ((l : Int) - 1) 0)) = false) :
    lookF n K t q s nn (m + 1) l st = lookF n K t q s nn m (getV n K (getS n K st (pageI t q s ((l : Int) - 1) 0)) (pageI t q s ((l : Int) - 1) 2)) (getS n K (getS n K st (pageI t q s ((l : Int) - 1) 0)) (pageI t q s ((l : Int) - 1) 2)) := by
  rw [lookF, if_pos h, if_neg (by rw [hv]; simp)]
theorem nextF_found {j k : Nat} {st : Vst} (h : 1 ≤ getV n K st ((2 + k : Nat) : Int) ∧ ((getV n K st ((2 + k : Nat) : Int) : Nat) : Int) ≤ q) : nextF n K q (j + 1) k st = (some (getV n K st ((2 + k : Nat) : Int) - 1), getS n K st ((2 + k : Nat) : Int)) := by
  rw [nextF, if_pos h]
theorem nextF_step {j k : Nat} {st : Vst} (h : ¬ (1 ≤ getV n K st ((2 + k : Nat) : Int) ∧ ((getV n K st ((2 + k : Nat) : Int) : Nat) : Int) ≤ q)) : nextF n K q (j + 1) k st = nextF n K q j (k + 1) (getS n K st ((2 + k : Nat) : Int)) := by
  rw [nextF, if_neg h]
end

def binH (nn : Int) : Int := nthI 2 11 1 (ofI nn)
theorem binH_nat {nn k : Nat} (h : ofI (nn : Int) = (k : Int)) (hk : k ≤ 10) : binH (nn : Int) = ((2 + k : Nat) : Int) := by
  unfold binH
  rw [h, nth_on (by omega) (by omega) (by omega)]
  push_cast
  omega
section
variable (n : Nat) (K : Nat → Option Nat) (t q s : Int)
def infoOf (p : Int) (st : Vst) : Int × Int × Int × Bool := infoG (getV n K st (pageI t q s p 0))
def dropV (p : Int) (st : Vst) : Int := if pgB q p then (if (infoOf n K t q s p st).1 = 1 then (infoOf n K t q s p st).2.1 else 0) else 0
def dropS (p : Int) (st : Vst) : Vst := if pgB q p then (if (infoOf n K t q s p st).1 = 1 then pullI n K t q s (binH (infoOf n K t q s p st).2.1) p (getS n K st (pageI t q s p 0)) else getS n K st (pageI t q s p 0)) else st
def addS (p nn : Int) (st : Vst) : Vst := if pgB q p = true ∧ 1 ≤ nn ∧ nn ≤ q - p then pushI n K t q s (binH nn) p (putS n (putS n st (pageI t q s p 0) (infoV 1 nn 0)) (pageI t q s (p + nn - 1) 1) (p.toNat + 1)) else st
end
def foundI (o : Option Nat) : Int := match o with
  | some p => (p : Int)
  | none => 0
def findI (n : Nat) (K : Nat → Option Nat) (t q s nn : Int) (st : Vst) : Option Nat × Vst := if 1 ≤ nn ∧ nn ≤ q then findF n K t q s nn (ofI nn).toNat st else (none, st)
theorem findI_no {n : Nat} {K : Nat → Option Nat} {t q s nn : Int} {st : Vst} (h : ¬ (1 ≤ nn ∧ nn ≤ q)) : findI n K t q s nn st = (none, st) := by unfold findI; rw [if_neg h]
theorem findI_yes {n : Nat} {K : Nat → Option Nat} {t q s nn : Int} {st : Vst} {own : Nat} (ho : ofI nn = (own : Int)) (h1 : 1 ≤ nn) (h2 : nn ≤ q) : findI n K t q s nn st = findF n K t q s nn own st := by
  unfold findI
  rw [if_pos ⟨h1, h2⟩, ho, Int.toNat_natCast]
end
section
def add32 (a : Nat) (m : Int) : Nat := (((a : Int) + m) % 4294967296).toNat
def sub32 (a : Nat) (m : Int) : Nat := (((a : Int) - m) % 4294967296).toNat
theorem add32_lt (a : Nat) (m : Int) : add32 a m < 2 ^ 32 := by unfold add32; have := Int.emod_lt_of_pos ((a : Int) + m) (show (0 : Int) < 4294967296 by omega); have := Int.emod_nonneg ((a : Int) + m) (show (4294967296 : Int) ≠ 0 by omega); omega
theorem sub32_lt (a : Nat) (m : Int) : sub32 a m < 2 ^ 32 := by unfold sub32; have := Int.emod_lt_of_pos ((a : Int) - m) (show (0 : Int) < 4294967296 by omega); have := Int.emod_nonneg ((a : Int) - m) (show (4294967296 : Int) ≠ 0 by omega); omega
theorem add32_small {a m : Nat} (h : a + m < 4294967296) : add32 a m = a + m := by unfold add32; rw [Int.emod_eq_of_lt (by omega) (by omega)]; omega
theorem sub32_small {a m : Nat} (h : m ≤ a) (h2 : a < 4294967296) : sub32 a m = a - m := by unfold sub32; rw [Int.emod_eq_of_lt (by omega) (by omega)]; omega
section
variable (n : Nat) (K : Nat → Option Nat) (t q s : Int)
def usedS (p m : Nat) (st : Vst) : Vst := putS n (putS n st (pageI t q s p 0) (infoV 2 (m : Int) 0)) (pageI t q s ((p : Int) + (m : Int) - 1) 1) (p + 1)
def restS (p m : Nat) (l : Int) (st : Vst) : Vst := if (m : Int) < l then addS n K t q s ((p : Int) + (m : Int)) (l - (m : Int)) st else st
def lessS (m : Nat) (st : Vst) : Vst := putS n (getS n K st 0) 0 (sub32 (getV n K st 0) (m : Int))
def moreS (m : Nat) (st : Vst) : Vst := putS n (getS n K st 0) 0 (add32 (getV n K st 0) (m : Int))
def takeS (p m : Nat) (st : Vst) : Vst := lessS n K m (restS n K t q s p m (dropV n K t q s p st) (usedS n t q s p m (dropS n K t q s p st)))
def takeI (m : Int) (st : Vst) : Option Nat × Vst := match (findI n K t q s m st).1 with
  | some p => (some p, takeS n K t q s p m.toNat (findI n K t q s m st).2)
  | none => (none, (findI n K t q s m st).2)
def relL (p : Nat) (st : Vst) : Vst × Int × Int := if p = 0 then (st, (p : Int), 0) else
  (let f : Int := ((getV n K st (pageI t q s ((p : Int) - 1) 1) : Nat) : Int)
   let st1 := getS n K st (pageI t q s ((p : Int) - 1) 1)
   let st2 := getS n K st1 (pageI t q s (f - 1) 0)
   if (infoOf n K t q s (f - 1) st1).1 = 1 then (putS n (putS n (dropS n K t q s (f - 1) st2) (pageI t q s p 0) 0) (pageI t q s ((p : Int) - 1) 1) 0, f - 1, dropV n K t q s (f - 1) st2)
   else (st2, (p : Int), 0))
def relR (r : Nat) (st : Vst) : Vst × Int := if (r : Int) < q then
  (let st1 := getS n K st (pageI t q s r 0)
   if (infoOf n K t q s r st).1 = 1 then (putS n (putS n (dropS n K t q s r st1) (pageI t q s r 0) 0) (pageI t q s ((r : Int) - 1) 1) 0, dropV n K t q s r st1)
   else (st1, 0))
  else (st, 0)
def releaseS (p m : Nat) (st : Vst) : Vst :=
  moreS n K m (addS n K t q s (relL n K t q s p st).2.1 ((m : Int) + (relL n K t q s p st).2.2 + (relR n K t q s (p + m) (relL n K t q s p st).1).2) (relR n K t q s (p + m) (relL n K t q s p st).1).1)
def shrinkS (p l m : Nat) (st : Vst) : Vst := releaseS n K t q s (p + m) (l - m) (usedS n t q s p m st)
def growB (p l : Nat) (m : Int) (st : Vst) : Bool := decide (((p + l : Nat) : Int) < q) && decide ((infoOf n K t q s ((p + l : Nat) : Int) st).1 = 1) && decide (m - (l : Int) ≤ (infoOf n K t q s ((p + l : Nat) : Int) st).2.1)
def growS (p l : Nat) (m : Int) (st : Vst) : Vst :=
  let r : Nat := p + l
  if ((r : Nat) : Int) < q then
    (let st1 := getS n K st (pageI t q s r 0)
     if growB n K t q s p l m st = true then
       lessS n K (m.toNat - l) (restS n K t q s p m.toNat ((l : Int) + (infoOf n K t q s r st).2.1) (usedS n t q s p m.toNat (putS n (putS n (dropS n K t q s r st1) (pageI t q s r 0) 0) (pageI t q s ((r : Int) - 1) 1) 0)))
     else st1)
  else st
end
end
end Go.Proofs.YtnamlhkccgnbfaaGreat

namespace Go.Proofs.YtnamlhkccgnbfaaGreat
open Go.ChangeShapes Go.WideShapes Go.ChangeAt Go.RowKit Go.Maps
set_option linter.unusedVariables false
set_option linter.unusedSimpArgs false
set_option maxRecDepth 100000
section
structure Blk where
  n : Nat
  t : TypeId
  cs : Array Value
def GB (G : Nat → Prop) (L : List Blk) : Nat → Prop := fun g => G g ∨ ∃ x, x ∈ L ∧ x.n = g

structure WL (O : Ob) (w0 : World) (A G : Nat → Prop) (ws : World) (L : List Blk) (st : Vst) (w : World) : Prop where
  at_ : O.At w0 A (GB G L) st w
  held : ∀ x ∈ L, Held w x.n x.t x.cs
  stay : Stay G ws w
  lo : ∀ x ∈ L, ws.heap.size ≤ x.n
  nd : (L.map (·.n)).Nodup

section
variable {O : Ob} {w0 ws w w' : World} {A G : Nat → Prop} {L : List Blk} {x y z : Blk} {st s' : Vst}
theorem WL.start (h : O.At w0 A G st ws) : WL O w0 A G ws [] st ws :=
  ⟨h.less (fun g hg => by
    rcases hg with hg | ⟨x, hx, _⟩
    · exact hg
    · exact absurd hx (List.not_mem_nil)), fun x hx => absurd hx (List.not_mem_nil), Stay.of_below (B0 _) G, fun x hx => absurd hx (List.not_mem_nil), List.nodup_nil⟩
theorem WL.keep (h : WL O w0 A G ws L st w) (hb : Below w.heap.size w w') : WL O w0 A G ws L st w' :=
  ⟨h.at_.keep hb, fun x hx => (h.held x hx).keep hb, h.stay.trans (Stay.of_below hb G), h.lo, h.nd⟩
theorem WL.drew (h : WL O w0 A G ws L st w) : WL O w0 A G ws L st w.drew := h.keep (Bdrew (B0 w))
theorem WL.drewN (h : WL O w0 A G ws L st w) (k : Nat) : WL O w0 A G ws L st (w.drewN k) := h.keep (Bdraw (B0 w) k)
theorem WL.alloc (h : WL O w0 A G ws L st w) (o : Obj) : WL O w0 A G ws L st (w.alloc o) := h.keep (Bnew (B0 w) o)
theorem WL.call (h : WL O w0 A G ws L st w) (h1 : O.At w0 A (GB G L) s' w') (h2 : Stay (GB G L) w w') : WL O w0 A G ws L s' w' :=
  ⟨h1, fun x hx => h2.held (.inr ⟨x, hx, rfl⟩) (h.held x hx), h.stay.trans (h2.less fun g x => .inl x), h.lo, h.nd⟩
theorem WL.fin (h : WL O w0 A G ws L st w) : O.At w0 A G st w ∧ Stay G ws w := ⟨h.at_.less fun g x => .inl x, h.stay⟩
theorem WL.new (h : WL O w0 A G ws L st w) (t : TypeId) (cs : Array Value) : WL O w0 A G ws (⟨w.heap.size, t, cs⟩ :: L) st (w.alloc (.cells cs t)) := by
  have hk := h.alloc (.cells cs t)
  refine ⟨(h.at_.box (.cells cs t)).less (fun g hg => ?_), fun x hx => ?_, hk.stay, fun x hx => ?_, ?_⟩
  · rcases hg with hg | ⟨x, hx, rfl⟩
    · exact .inl (.inl hg)
    · rcases List.mem_cons.1 hx with rfl | hx
      · exact .inr rfl
      · exact .inl (.inr ⟨x, hx, rfl⟩)
  · rcases List.mem_cons.1 hx with rfl | hx
    · exact Held.new w t cs
    · exact hk.held x hx
  · rcases List.mem_cons.1 hx with rfl | hx
    · exact h.stay.1
    · exact h.lo x hx
  · rw [List.map_cons]
    refine List.nodup_cons.2 ⟨fun hm => ?_, h.nd⟩
    obtain ⟨x, hx, e⟩ := List.mem_map.1 hm
    have h1 := (h.held x hx).lt
    have e : x.n = w.heap.size := e
    omega
theorem WL.drop (h : WL O w0 A G ws (x :: L) st w) : WL O w0 A G ws L st w :=
  ⟨h.at_.less (fun g hg => by
    rcases hg with hg | ⟨y, hy, rfl⟩
    · exact .inl hg
    · exact .inr ⟨y, List.mem_cons_of_mem _ hy, rfl⟩), fun y hy => h.held y (List.mem_cons_of_mem _ hy), h.stay, fun y hy => h.lo y (List.mem_cons_of_mem _ hy), (List.nodup_cons.1 h.nd).2⟩
theorem WL.put (h : WL O w0 A G ws (x :: L) st w) (i : Nat) (v : Value) : WL O w0 A G ws (⟨x.n, x.t, x.cs.setIfInBounds i v⟩ :: L) st (w.setCell ⟨x.n, i, none⟩ v) := by
  have hnd := List.nodup_cons.1 h.nd
  have hlo := h.lo x (List.mem_cons_self ..)
  refine ⟨(h.at_.put (p := ⟨x.n, i, none⟩) (.inr ⟨x, List.mem_cons_self .., rfl⟩) v).less (fun g hg => ?_), fun y hy => ?_, ⟨by simp; exact h.stay.1, fun g hg hl => (Below.heap_setCell w ⟨x.n, i, none⟩ v g (fun e => by have e : g = x.n := e; omega)).trans (h.stay.2 g hg hl)⟩, fun y hy => ?_, h.nd⟩
  · rcases hg with hg | ⟨y, hy, rfl⟩
    · exact .inl hg
    · rcases List.mem_cons.1 hy with rfl | hy
      · exact .inr ⟨x, List.mem_cons_self .., rfl⟩
      · exact .inr ⟨y, List.mem_cons_of_mem _ hy, rfl⟩
  · rcases List.mem_cons.1 hy with rfl | hy
    · exact (h.held x (List.mem_cons_self ..)).put i v
    · refine (h.held y (List.mem_cons_of_mem _ hy)).far (p := ⟨x.n, i, none⟩) (fun e => hnd.1 ?_) v
      have e : y.n = x.n := e
      exact List.mem_map.2 ⟨y, hy, e⟩
  · rcases List.mem_cons.1 hy with rfl | hy
    · exact hlo
    · exact h.lo y (List.mem_cons_of_mem _ hy)
theorem WL.swap (h : WL O w0 A G ws (x :: y :: L) st w) : WL O w0 A G ws (y :: x :: L) st w := by
  refine ⟨h.at_.less (fun g hg => ?_), fun z hz => h.held z (by simp at hz ⊢; rcases hz with e | e | e <;> simp [e]), h.stay, fun z hz => h.lo z (by simp at hz ⊢; rcases hz with e | e | e <;> simp [e]), ?_⟩
  · rcases hg with hg | ⟨z, hz, e⟩
    · exact .inl hg
    · exact .inr ⟨z, by simp at hz ⊢; rcases hz with e | e | e <;> simp [e], e⟩
  · have := h.nd
    simp only [List.map_cons, List.nodup_cons, List.mem_cons, not_or] at this ⊢
    exact ⟨⟨fun e => this.1.1 e.symm, this.2.1⟩, this.1.2, this.2.2⟩
theorem WL.h0 (h : WL O w0 A G ws (x :: L) st w) : Held w x.n x.t x.cs := h.held x (List.mem_cons_self ..)
theorem WL.h1 (h : WL O w0 A G ws (x :: y :: L) st w) : Held w y.n y.t y.cs := h.held y (List.mem_cons_of_mem _ (List.mem_cons_self ..))
theorem WL.h2 (h : WL O w0 A G ws (x :: y :: z :: L) st w) : Held w z.n z.t z.cs := h.held z (List.mem_cons_of_mem _ (List.mem_cons_of_mem _ (List.mem_cons_self ..)))
theorem vWL_lt {base b n : Nat} {wh : Bool} {K : Nat → Option Nat} (h : WL (vOb base b n wh K) w0 A G ws L st w) (a : Int) : getV n K st a < 2 ^ 32 := vAt_lt h.at_ a
end
end
end Go.Proofs.YtnamlhkccgnbfaaGreat
