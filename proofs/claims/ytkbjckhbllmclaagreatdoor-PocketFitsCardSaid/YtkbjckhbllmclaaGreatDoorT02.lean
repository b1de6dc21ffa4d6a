/-
  Contracts of the functions of package conf and of the document's answers to it.
-/
import Derived.Test.YtkbjckhbllmclaaGreatDoorT01
import Derived.Deep.RegionHeld3
import Derived.IntWalk
import Derived.KernelRfl
namespace Go.Proofs.YtkbjckhbllmclaaGreatDoor
open Go.ChangeShapes Go.WideShapes Go.ChangeAt Go.RowKit
set_option linter.unusedVariables false
section
def outB (v l m : Int) : Bool := decide (v < l ∨ m < v)
theorem outB_lt {v l m : Int} (h : v < l) : outB v l m = true := by unfold outB; simp [h]
theorem outB_gt {v l m : Int} (h : m < v) : outB v l m = true := by unfold outB; simp [h]
theorem outB_no {v l m : Int} (h : l ≤ v) (h' : v ≤ m) : outB v l m = false := by unfold outB; exact decide_eq_false (by omega)
def rightB (t p s : Int) : Bool := !(outB t 1 16) && (!(outB p 4 1024) && !(outB s 10 20))
theorem rightB_iff (t p s : Int) : rightB t p s = true ↔ (1 ≤ t ∧ t ≤ 16) ∧ (4 ≤ p ∧ p ≤ 1024) ∧ 10 ≤ s ∧ s ≤ 20 := by
  unfold rightB outB
  simp only [Bool.and_eq_true, Bool.not_eq_true', decide_eq_false_iff_not]
  omega

theorem cfWrong_c (a v l m : Int) (w : World) :
    Calls Tryz.prog 134 #[.agg #[.int .i64 a, .int .i64 v, .int .i64 l, .int .i64 m]] w fun e w' => e = .returned (.bool (outB v l m)) ∧ Below w.heap.size w w' := by
  by_cases h0 : v < l
  · have H := hidp (outB_lt (m := m) h0)
    go_enter Tryz.func134, Tryz.ntmps134
    go_wp2
    go_ret
    exact ⟨by rw [H.out]; rfl, Bnew (B0 _) _⟩
  · by_cases h1 : m < v
    · have H := hidp (outB_gt (l := l) h1)
      go_enter Tryz.func134, Tryz.ntmps134
      go_wp2
      go_ret
      exact ⟨by rw [H.out]; rfl, Bnew (B0 _) _⟩
    · have H := hidp (outB_no (v := v) (l := l) (m := m) (by omega) (by omega))
      go_enter Tryz.func134, Tryz.ntmps134
      go_wp2
      go_ret
      exact ⟨by rw [H.out]; rfl, Bnew (B0 _) _⟩

def numV (t p s : Int) : Array Value := #[.int .i64 0, .int .i64 t, .int .i64 1, .int .i64 16, .int .i64 16, .int .i64 p, .int .i64 4, .int .i64 1024, .int .i64 32, .int .i64 s, .int .i64 10, .int .i64 20]
theorem cfNumbers_c (t p s : Int) (w : World) :
    Calls Tryz.prog 133 #[.agg #[.int .i64 t, .int .i64 p, .int .i64 s]] w fun e w' => e = .returned (.agg #[.int .i64 0, .int .i64 t, .int .i64 1, .int .i64 16, .int .i64 16, .int .i64 p, .int .i64 4, .int .i64 1024, .int .i64 32, .int .i64 s, .int .i64 10, .int .i64 20]) ∧ Below w.heap.size w w' := by
  go_enter Tryz.func133, Tryz.ntmps133
  go_wp2
  exact bodyPost_ret (v := .agg #[.int .i64 0, .int .i64 t, .int .i64 1, .int .i64 16, .int .i64 16, .int .i64 p, .int .i64 4, .int .i64 1024, .int .i64 32, .int .i64 s, .int .i64 10, .int .i64 20]) (by simp [results, Tryz.results133, go_sem]) rfl ⟨rfl, Bnew (Bnew (B0 _) _) _⟩

theorem num_cells {t p s : Int} {g : Nat} {T : TypeId} {w : World} (h : Held w g T (numV t p s)) : w.cell? ⟨g, 0, none⟩ = some (.int .i64 0) ∧ w.cell? ⟨g, 1, none⟩ = some (.int .i64 t) ∧ w.cell? ⟨g, 2, none⟩ = some (.int .i64 1) ∧ w.cell? ⟨g, 3, none⟩ = some (.int .i64 16) ∧ w.cell? ⟨g, 4, none⟩ = some (.int .i64 16) ∧ w.cell? ⟨g, 5, none⟩ = some (.int .i64 p) ∧ w.cell? ⟨g, 6, none⟩ = some (.int .i64 4) ∧ w.cell? ⟨g, 7, none⟩ = some (.int .i64 1024) ∧ w.cell? ⟨g, 8, none⟩ = some (.int .i64 32) ∧ w.cell? ⟨g, 9, none⟩ = some (.int .i64 s) ∧ w.cell? ⟨g, 10, none⟩ = some (.int .i64 10) ∧ w.cell? ⟨g, 11, none⟩ = some (.int .i64 20) :=
  ⟨h.cell 0, h.cell 1, h.cell 2, h.cell 3, h.cell 4, h.cell 5, h.cell 6, h.cell 7, h.cell 8, h.cell 9, h.cell 10, h.cell 11⟩
def idxI (t p s : Int) : Int := if outB t 1 16 then 0 else if outB p 4 1024 then 1 else if outB s 10 20 then 2 else -1
set_option maxHeartbeats 1600000 in
theorem cfIndex_c (t p s : Int) (g : Nat) (w : World) (hc : Held w g 134 (numV t p s)) :
    Calls Tryz.prog 138 #[.slice (some ⟨g, 0, none⟩) 3 3, .func (.func 134) #[] #[]] w fun e w' => e = .returned (.int .i64 (idxI t p s)) ∧ Below w.heap.size w w' := by
  obtain ⟨c0, c1, c2, c3, c4, c5, c6, c7, c8, c9, c10, c11⟩ := num_cells hc
  cases h0 : outB t 1 16
  · cases h1 : outB p 4 1024
    · cases h2 : outB s 10 20
      · have HX0 := hidp h0
        have HX1 := hidp h1
        have HX2 := hidp h2
        have HI : Hid (idxI t p s = -1) := hidp (by unfold idxI; simp [h0, h1, h2])
        clear h0 h1 h2
        go_enter Tryz.func138, Tryz.ntmps138
        go_wp2
        refine wp_loop_rounds 4 ?_
        rw [rounds_succ]
        go_wp2_with fail
        refine (cfWrong_c 0 t 1 16 _).mono ?_
        rintro e w1 ⟨rfl, hb0⟩
        rw [HX0.out]
        have hc1 := hc.keep hb0
        clear c0 c1 c2 c3 c4 c5 c6 c7 c8 c9 c10 c11
        obtain ⟨d0, d1, d2, d3, d4, d5, d6, d7, d8, d9, d10, d11⟩ := num_cells hc1
        go_wp2_with fail
        rw [rounds_succ]
        go_wp2_with fail
        refine (cfWrong_c 16 p 4 1024 _).mono ?_
        rintro e w2 ⟨rfl, hb1⟩
        rw [HX1.out]
        have hc2 := hc1.keep hb1
        clear d0 d1 d2 d3 d4 d5 d6 d7 d8 d9 d10 d11
        obtain ⟨d0, d1, d2, d3, d4, d5, d6, d7, d8, d9, d10, d11⟩ := num_cells hc2
        go_wp2_with fail
        rw [rounds_succ]
        go_wp2_with fail
        refine (cfWrong_c 32 s 10 20 _).mono ?_
        rintro e w3 ⟨rfl, hb2⟩
        rw [HX2.out]
        have hc3 := hc2.keep hb2
        clear d0 d1 d2 d3 d4 d5 d6 d7 d8 d9 d10 d11
        obtain ⟨d0, d1, d2, d3, d4, d5, d6, d7, d8, d9, d10, d11⟩ := num_cells hc3
        go_wp2_with fail
        rw [rounds_succ]
        go_wp2
        go_ret
        exact ⟨by rw [HI.out]; rfl, Bgo (Bgo (Bgo (B0 _) hb0) hb1) hb2⟩
      · have HX0 := hidp h0
        have HX1 := hidp h1
        have HX2 := hidp h2
        have HI : Hid (idxI t p s = 2) := hidp (by unfold idxI; simp [h0, h1, h2])
        clear h0 h1 h2
        go_enter Tryz.func138, Tryz.ntmps138
        go_wp2
        refine wp_loop_rounds 3 ?_
        rw [rounds_succ]
        go_wp2_with fail
        refine (cfWrong_c 0 t 1 16 _).mono ?_
        rintro e w1 ⟨rfl, hb0⟩
        rw [HX0.out]
        have hc1 := hc.keep hb0
        clear c0 c1 c2 c3 c4 c5 c6 c7 c8 c9 c10 c11
        obtain ⟨d0, d1, d2, d3, d4, d5, d6, d7, d8, d9, d10, d11⟩ := num_cells hc1
        go_wp2_with fail
        rw [rounds_succ]
        go_wp2_with fail
        refine (cfWrong_c 16 p 4 1024 _).mono ?_
        rintro e w2 ⟨rfl, hb1⟩
        rw [HX1.out]
        have hc2 := hc1.keep hb1
        clear d0 d1 d2 d3 d4 d5 d6 d7 d8 d9 d10 d11
        obtain ⟨d0, d1, d2, d3, d4, d5, d6, d7, d8, d9, d10, d11⟩ := num_cells hc2
        go_wp2_with fail
        rw [rounds_succ]
        go_wp2_with fail
        refine (cfWrong_c 32 s 10 20 _).mono ?_
        rintro e w3 ⟨rfl, hb2⟩
        rw [HX2.out]
        have hc3 := hc2.keep hb2
        clear d0 d1 d2 d3 d4 d5 d6 d7 d8 d9 d10 d11
        obtain ⟨d0, d1, d2, d3, d4, d5, d6, d7, d8, d9, d10, d11⟩ := num_cells hc3
        go_wp2
        go_ret
        exact ⟨by rw [HI.out]; rfl, Bgo (Bgo (Bgo (B0 _) hb0) hb1) hb2⟩
    · have HX0 := hidp h0
      have HX1 := hidp h1
      have HI : Hid (idxI t p s = 1) := hidp (by unfold idxI; simp [h0, h1])
      clear h0 h1
      go_enter Tryz.func138, Tryz.ntmps138
      go_wp2
      refine wp_loop_rounds 2 ?_
      rw [rounds_succ]
      go_wp2_with fail
      refine (cfWrong_c 0 t 1 16 _).mono ?_
      rintro e w1 ⟨rfl, hb0⟩
      rw [HX0.out]
      have hc1 := hc.keep hb0
      clear c0 c1 c2 c3 c4 c5 c6 c7 c8 c9 c10 c11
      obtain ⟨d0, d1, d2, d3, d4, d5, d6, d7, d8, d9, d10, d11⟩ := num_cells hc1
      go_wp2_with fail
      rw [rounds_succ]
      go_wp2_with fail
      refine (cfWrong_c 16 p 4 1024 _).mono ?_
      rintro e w2 ⟨rfl, hb1⟩
      rw [HX1.out]
      have hc2 := hc1.keep hb1
      clear d0 d1 d2 d3 d4 d5 d6 d7 d8 d9 d10 d11
      obtain ⟨d0, d1, d2, d3, d4, d5, d6, d7, d8, d9, d10, d11⟩ := num_cells hc2
      go_wp2
      go_ret
      exact ⟨by rw [HI.out]; rfl, Bgo (Bgo (B0 _) hb0) hb1⟩
  · have HX0 := hidp h0
    have HI : Hid (idxI t p s = 0) := hidp (by unfold idxI; simp [h0])
    clear h0
    go_enter Tryz.func138, Tryz.ntmps138
    go_wp2
    refine wp_loop_rounds 1 ?_
    rw [rounds_succ]
    go_wp2_with fail
    refine (cfWrong_c 0 t 1 16 _).mono ?_
    rintro e w1 ⟨rfl, hb0⟩
    rw [HX0.out]
    have hc1 := hc.keep hb0
    clear c0 c1 c2 c3 c4 c5 c6 c7 c8 c9 c10 c11
    obtain ⟨d0, d1, d2, d3, d4, d5, d6, d7, d8, d9, d10, d11⟩ := num_cells hc1
    go_wp2
    go_ret
    exact ⟨by rw [HI.out]; rfl, Bgo (B0 _) hb0⟩

theorem idx_right {t p s : Int} (h : rightB t p s = true) : idxI t p s = -1 := by
  unfold rightB at h
  unfold idxI
  cases h0 : outB t 1 16 <;> cases h1 : outB p 4 1024 <;> cases h2 : outB s 10 20 <;> simp_all
theorem idx_wrong {t p s : Int} (h : rightB t p s = false) : ∃ k : Int, idxI t p s = k ∧ 0 ≤ k ∧ k ≤ 2 := by
  unfold rightB at h
  unfold idxI
  cases h0 : outB t 1 16 <;> cases h1 : outB p 4 1024 <;> cases h2 : outB s 10 20 <;> simp_all

theorem cfContains_c (t p s : Int) (g : Nat) (w : World) (hc : Held w g 134 (numV t p s)) :
    Calls Tryz.prog 135 #[.slice (some ⟨g, 0, none⟩) 3 3, .func (.func 134) #[] #[]] w fun e w' => e = .returned (.bool (!rightB t p s)) ∧ Below w.heap.size w w' := by
  cases hr : rightB t p s
  · obtain ⟨k, hk, h0, h2⟩ := idx_wrong hr
    have HK := hidp hk
    clear hk
    go_enter Tryz.func135, Tryz.ntmps135
    go_wp2_with fail
    refine (cfIndex_c t p s g _ hc).mono ?_
    rintro e w1 ⟨rfl, hb⟩
    rw [HK.out]
    go_wp2
    go_ret
    exact ⟨by first | rfl | trivial, hb⟩
  · have HK := hidp (idx_right hr)
    go_enter Tryz.func135, Tryz.ntmps135
    go_wp2_with fail
    refine (cfIndex_c t p s g _ hc).mono ?_
    rintro e w1 ⟨rfl, hb⟩
    rw [HK.out]
    go_wp2
    go_ret
    exact ⟨by first | rfl | trivial, hb⟩

def checkI (t p s : Int) : Int := if rightB t p s then 0 else 1
theorem check_yes {t p s : Int} (h : rightB t p s = true) : checkI t p s = 0 := by unfold checkI; rw [h]; rfl
theorem check_no {t p s : Int} (h : rightB t p s = false) : checkI t p s = 1 := by unfold checkI; rw [h]; rfl
theorem cfCheck_c (t p s : Int) (w : World) :
    Calls Tryz.prog 123 #[.agg #[.int .i64 t, .int .i64 p, .int .i64 s]] w fun e w' => e = .returned (.int .i64 (checkI t p s)) ∧ Below w.heap.size w w' := by
  cases hr : rightB t p s
  · have HK := hidp (check_no hr)
    have HR := hidp hr
    clear hr
    go_enter Tryz.func123, Tryz.ntmps123
    go_wp2_with fail
    refine (cfNumbers_c t p s _).mono ?_
    rintro e w1 ⟨rfl, hb1⟩
    go_wp2_with fail
    refine (cfContains_c t p s _ _ (Held.new w1 _ _)).mono ?_
    rintro e w2 ⟨rfl, hb2⟩
    rw [HR.out]
    go_wp2
    go_ret
    exact ⟨by rw [HK.out]; rfl, Bgo (Bnew (Bgo (Bnew (B0 _) _) hb1) _) hb2⟩
  · have HK := hidp (check_yes hr)
    have HR := hidp hr
    clear hr
    go_enter Tryz.func123, Tryz.ntmps123
    go_wp2_with fail
    refine (cfNumbers_c t p s _).mono ?_
    rintro e w1 ⟨rfl, hb1⟩
    go_wp2_with fail
    refine (cfContains_c t p s _ _ (Held.new w1 _ _)).mono ?_
    rintro e w2 ⟨rfl, hb2⟩
    rw [HR.out]
    go_wp2
    go_ret
    exact ⟨by rw [HK.out]; rfl, Bgo (Bnew (Bgo (Bnew (B0 _) _) hb1) _) hb2⟩
end
section
theorem rightB_mk {t p s : Int} (h : (1 ≤ t ∧ t ≤ 16) ∧ (4 ≤ p ∧ p ≤ 1024) ∧ 10 ≤ s ∧ s ≤ 20) : rightB t p s = true := (rightB_iff t p s).2 h
theorem rightB_not {t p s : Int} (h : ¬ ((1 ≤ t ∧ t ≤ 16) ∧ (4 ≤ p ∧ p ≤ 1024) ∧ 10 ≤ s ∧ s ≤ 20)) : rightB t p s = false := by
  cases hr : rightB t p s
  · rfl
  · exact absurd ((rightB_iff t p s).1 hr) h

theorem r4Right_c (t p s : Int) (w : World) :
    Calls Tryz.prog 33 #[.agg #[.int .i64 t, .int .i64 p, .int .i64 s]] w fun e w' => e = .returned (.bool (rightB t p s)) ∧ Below w.heap.size w w' := by
  by_cases a1 : 1 ≤ t
  · by_cases a2 : t ≤ 16
    · by_cases a3 : 4 ≤ p
      · by_cases a4 : p ≤ 1024
        · by_cases a5 : 10 ≤ s
          · by_cases a6 : s ≤ 20
            · have H := hidp (rightB_mk (t := t) (p := p) (s := s) (by omega))
              go_enter Tryz.func33, Tryz.ntmps33
              go_wp2
              go_ret
              exact ⟨by rw [H.out]; rfl, Bnew (B0 _) _⟩
            · have H := hidp (rightB_not (t := t) (p := p) (s := s) (by omega))
              go_enter Tryz.func33, Tryz.ntmps33
              go_wp2
              go_ret
              exact ⟨by rw [H.out]; rfl, Bnew (B0 _) _⟩
          · have H := hidp (rightB_not (t := t) (p := p) (s := s) (by omega))
            go_enter Tryz.func33, Tryz.ntmps33
            go_wp2
            go_ret
            exact ⟨by rw [H.out]; rfl, Bnew (B0 _) _⟩
        · have H := hidp (rightB_not (t := t) (p := p) (s := s) (by omega))
          go_enter Tryz.func33, Tryz.ntmps33
          go_wp2
          go_ret
          exact ⟨by rw [H.out]; rfl, Bnew (B0 _) _⟩
      · have H := hidp (rightB_not (t := t) (p := p) (s := s) (by omega))
        go_enter Tryz.func33, Tryz.ntmps33
        go_wp2
        go_ret
        exact ⟨by rw [H.out]; rfl, Bnew (B0 _) _⟩
    · have H := hidp (rightB_not (t := t) (p := p) (s := s) (by omega))
      go_enter Tryz.func33, Tryz.ntmps33
      go_wp2
      go_ret
      exact ⟨by rw [H.out]; rfl, Bnew (B0 _) _⟩
  · have H := hidp (rightB_not (t := t) (p := p) (s := s) (by omega))
    go_enter Tryz.func33, Tryz.ntmps33
    go_wp2
    go_ret
    exact ⟨by rw [H.out]; rfl, Bnew (B0 _) _⟩

def pageN (t p s : Int) : Nat := if rightB t p s then 2 ^ s.toNat else 0
def bytesN (t p s : Int) : Nat := if rightB t p s then p.toNat * 2 ^ s.toNat else 0
theorem page_yes {t p s : Int} (h : rightB t p s = true) : pageN t p s = 2 ^ s.toNat := by unfold pageN; rw [if_pos h]
theorem page_no {t p s : Int} (h : rightB t p s = false) : pageN t p s = 0 := by unfold pageN; rw [h]; rfl
theorem bytes_yes {t p s : Int} (h : rightB t p s = true) : bytesN t p s = p.toNat * 2 ^ s.toNat := by unfold bytesN; rw [if_pos h]
theorem bytes_no {t p s : Int} (h : rightB t p s = false) : bytesN t p s = 0 := by unfold bytesN; rw [h]; rfl
theorem pow_bounds (k : Nat) (h : k ≤ 20) : 1 ≤ 2 ^ k ∧ 2 ^ k ≤ 1048576 := ⟨Nat.one_le_two_pow, by have := Nat.pow_le_pow_right (show 0 < 2 by omega) h; omega⟩
theorem pow_next (k : Nat) : 2 ^ (k + 1) = 2 ^ k * 2 := Nat.pow_succ 2 k

theorem r4Page_c (t p s : Int) (w : World) :
    Calls Tryz.prog 25 #[.agg #[.int .i64 t, .int .i64 p, .int .i64 s]] w fun e w' => e = .returned (.int .i64 ((pageN t p s : Nat) : Int)) ∧ Below w.heap.size w w' := by
  cases hr : rightB t p s
  · have HP := hidp (page_no hr)
    have HR := hidp hr
    clear hr
    go_enter Tryz.func25, Tryz.ntmps25
    go_wp2_with fail
    refine (r4Right_c t p s _).mono ?_
    rintro e w1 ⟨rfl, hb1⟩
    rw [HR.out]
    go_wp2
    go_ret
    exact ⟨by rw [HP.out]; rfl, Bgo (Bnew (B0 _) _) hb1⟩
  · have HP := hidp (page_yes hr)
    have HR := hidp hr
    obtain ⟨_, _, hs, hs'⟩ := (rightB_iff t p s).1 hr
    clear hr
    go_enter Tryz.func25, Tryz.ntmps25
    go_wp2_with fail
    have hc := Held.new w 23 #[.int .i64 t, .int .i64 p, .int .i64 s]
    refine (r4Right_c t p s _).mono ?_
    rintro e w1 ⟨rfl, hb1⟩
    rw [HR.out]
    obtain ⟨c0, c1, c2⟩ := (hc.keep hb1).three
    go_wp2
    go_loop [3, 4] (fun n i => ∃ k : Nat, (k : Int) ≤ s ∧ i = .int .i64 k ∧ n = .int .i64 ((2 ^ k : Nat) : Int)) (fun _ i => 64 - (intOf i).toNat)
    case atStart => exact ⟨0, by omega, rfl, rfl⟩
    case round =>
      obtain ⟨k, hk, rfl, rfl⟩ := hrel
      obtain ⟨b1, b2⟩ := pow_bounds k (by omega)
      by_cases hlt : (k : Int) < s
      · have HS := hidp (pow_next k)
        obtain ⟨m, hm⟩ : ∃ m, m = 2 ^ k := ⟨_, rfl⟩
        rw [← hm] at b1 b2 HS
        rw [← hm]
        have HM := hidp hm
        clear hm
        go_wp2
        go_round
        case rel => exact ⟨k + 1, by omega, by go_num, by rw [HS.out]; go_num⟩
        case measure => simp [intOf]; omega
      · obtain rfl : s = k := by omega
        go_wp2
        go_ret
        exact ⟨by rw [HP.out]; rfl, Bgo (Bnew (B0 _) _) hb1⟩
end
end Go.Proofs.YtkbjckhbllmclaaGreatDoor

namespace Go.Proofs.YtkbjckhbllmclaaGreatDoor
set_option linter.unusedVariables false
section
def slotN (k : Nat) : Nat := ([32, 21, 16, 10, 8, 5, 4, 3, 2] : List Nat).getD k 0
def slotI (k : Int) : Nat := if 0 ≤ k then slotN k.toNat else 0
theorem slotI_nat (k : Nat) : slotI (k : Int) = slotN k := by unfold slotI; simp
theorem slotN_out {k : Nat} (h : 9 ≤ k) : slotN k = 0 := by unfold slotN; simp [List.getD, List.getElem?_eq_none (show ([32, 21, 16, 10, 8, 5, 4, 3, 2] : List Nat).length ≤ k by simpa using h)]
theorem slotI_out {k : Int} (h : k < 0 ∨ 9 ≤ k) : slotI k = 0 := by
  unfold slotI
  split
  · exact slotN_out (by omega)
  · rfl
theorem slotN_in {k : Nat} (h : k < 9) : 2 ≤ slotN k ∧ slotN k ≤ 32 := by
  have : ∀ j, j < 9 → 2 ≤ slotN j ∧ slotN j ≤ 32 := by decide
  exact this k h
theorem slotI_le (k : Int) : slotI k ≤ 32 := by
  by_cases h : 0 ≤ k ∧ k < 9
  · have := slotN_in (k := k.toNat) (by omega)
    unfold slotI; rw [if_pos h.1]; omega
  · rw [slotI_out (by omega)]; omega
theorem slotI_zero {k : Int} : slotI k = 0 ↔ k < 0 ∨ 9 ≤ k := by
  constructor
  · intro h
    by_cases hk : 0 ≤ k ∧ k < 9
    · have := slotN_in (k := k.toNat) (by omega)
      unfold slotI at h; rw [if_pos hk.1] at h; omega
    · omega
  · exact slotI_out

def pageS (s : Int) : Nat := pageN 1 4 s
theorem pageS_no {s : Int} (h : s < 10 ∨ 20 < s) : pageS s = 0 := page_no (rightB_not (by omega))
theorem pageS_yes {s : Int} (h : 10 ≤ s ∧ s ≤ 20) : pageS s = 2 ^ s.toNat := page_yes (rightB_mk (by omega))
theorem pageS_le (s : Int) : pageS s ≤ 1048576 := by
  by_cases h : 10 ≤ s ∧ s ≤ 20
  · rw [pageS_yes h]
    exact (pow_bounds _ (by omega)).2
  · rw [pageS_no (by omega)]; omega
def sizeN (s k : Int) : Nat := pageS s / slotI k - pageS s / slotI k % 16
theorem sizeN_le (s k : Int) : sizeN s k ≤ 1048576 := by
  have h1 := pageS_le s
  have h2 := Nat.div_le_self (pageS s) (slotI k)
  unfold sizeN
  generalize pageS s / slotI k = q at *
  omega
theorem sizes_all : ∀ s : Nat, s < 11 → ∀ k : Nat, k < 9 →
    let z := 2 ^ (s + 10) / slotN k - 2 ^ (s + 10) / slotN k % 16
    z % 16 = 0 ∧ 16 ≤ z ∧ z * slotN k ≤ 2 ^ (s + 10) ∧ z ≤ 2 ^ (s + 10) / 2 ∧ (k = 8 → z = 2 ^ (s + 10) / 2) ∧
      (0 < k → 2 ^ (s + 10) / slotN (k - 1) - 2 ^ (s + 10) / slotN (k - 1) % 16 < z) := by decide +kernel

theorem size_at {s : Int} (h : 10 ≤ s ∧ s ≤ 20) (k : Nat) : sizeN s (k : Int) = 2 ^ (s.toNat - 10 + 10) / slotN k - 2 ^ (s.toNat - 10 + 10) / slotN k % 16 := by
  unfold sizeN
  rw [pageS_yes h, slotI_nat, show s.toNat - 10 + 10 = s.toNat by omega]
theorem size_facts {s : Int} (h : 10 ≤ s ∧ s ≤ 20) {k : Nat} (hk : k < 9) :
    sizeN s (k : Int) % 16 = 0 ∧ 16 ≤ sizeN s (k : Int) ∧ sizeN s (k : Int) * slotN k ≤ pageS s ∧ sizeN s (k : Int) ≤ pageS s / 2 ∧ (k = 8 → sizeN s (k : Int) = pageS s / 2) ∧
      (0 < k → sizeN s ((k - 1 : Nat) : Int) < sizeN s (k : Int)) := by
  have := sizes_all (s.toNat - 10) (by omega) k hk
  simp only [] at this
  rw [size_at h k, size_at h (k - 1), pageS_yes h, show s.toNat = s.toNat - 10 + 10 by omega]
  simpa using this
theorem size_pos {s : Int} (h : 10 ≤ s ∧ s ≤ 20) {k : Nat} (hk : k < 9) : 0 < sizeN s (k : Int) := by
  have := (size_facts h hk).2.1
  omega
end
section
def addrB (t p s i o : Int) : Bool := rightB t p s && decide ((0 ≤ i ∧ i < p) ∧ 0 ≤ o ∧ o < (pageN t p s : Int))
def addrI (t p s i o : Int) : Int := if addrB t p s i o then (i + 1) * (pageN t p s : Int) + o else 0
def spotB (t p s a : Int) : Bool := decide ((pageN t p s : Int) ≤ a ∧ a - pageN t p s < (bytesN t p s : Int))
def spotP (t p s a : Int) : Int := if spotB t p s a then a / (pageN t p s : Int) - 1 else 0
def spotO (t p s a : Int) : Int := if spotB t p s a then a % (pageN t p s : Int) else 0
def addrW (i o : Int) (g : Nat) : Int := IntKind.i64.wrap (IntKind.i64.wrap (IntKind.i64.wrap (i + 1) * (g : Int)) + o)

theorem i64_same {x : Int} (h : -9223372036854775808 ≤ x) (h' : x ≤ 9223372036854775807) : IntKind.i64.wrap x = x := by
  simp only [IntKind.wrap, IntKind.bits, IntKind.signed]; simp; omega

theorem right_nums {t p s : Int} (h : rightB t p s = true) : ∃ g q : Nat, pageN t p s = g ∧ p = q ∧ bytesN t p s = q * g ∧ 4 ≤ q ∧ q ≤ 1024 ∧ 1024 ≤ g ∧ g ≤ 1048576 ∧ g = 2 ^ s.toNat ∧ 10 ≤ s ∧ s ≤ 20 ∧ q * g ≤ 1073741824 := by
  obtain ⟨_, ⟨hp, hp'⟩, hs, hs'⟩ := (rightB_iff t p s).1 h
  refine ⟨2 ^ s.toNat, p.toNat, page_yes h, by omega, bytes_yes h, by omega, by omega, ?_, ?_, rfl, hs, hs', ?_⟩
  · have := Nat.pow_le_pow_right (show 0 < 2 by omega) (show 10 ≤ s.toNat by omega)
    omega
  · exact (pow_bounds _ (by omega)).2
  · have h1 := (pow_bounds s.toNat (by omega)).2
    have h2 : p.toNat * 2 ^ s.toNat ≤ 1024 * 1048576 := Nat.mul_le_mul (by omega) h1
    omega
theorem wrong_nums {t p s : Int} (h : rightB t p s = false) : pageN t p s = 0 ∧ bytesN t p s = 0 := ⟨page_no h, bytes_no h⟩

theorem spot_right {t p s a : Int} (h : spotB t p s a = true) : rightB t p s = true := by
  cases hr : rightB t p s
  · obtain ⟨h1, h2⟩ := wrong_nums hr
    unfold spotB at h
    rw [h1, h2] at h
    simp at h
    omega
  · rfl
theorem split_at {g i o : Int} (hg : 0 < g) (ho : 0 ≤ o) (ho' : o < g) : ((i + 1) * g + o) / g = i + 1 ∧ ((i + 1) * g + o) % g = o := by
  constructor
  · rw [Int.add_comm, Int.add_mul_ediv_right _ _ (by omega), Int.ediv_eq_zero_of_lt ho ho']; omega
  · rw [Int.add_comm, Int.add_mul_emod_self_right, Int.emod_eq_of_lt ho ho']
theorem mul_bounds {i q g : Int} (h0 : 0 ≤ i) (hi : i < q) (hg : 0 < g) : g ≤ (i + 1) * g ∧ (i + 1) * g ≤ q * g := by
  have h1 : (0 : Int) ≤ i * g := Int.mul_nonneg h0 (by omega)
  have h2 : (i + 1) * g ≤ q * g := Int.mul_le_mul_of_nonneg_right (by omega) (by omega)
  have h3 : (i + 1) * g = i * g + g := by rw [Int.add_mul]; omega
  omega

theorem addr_parts {t p s i o : Int} (h : addrB t p s i o = true) : rightB t p s = true ∧ (0 ≤ i ∧ i < p) ∧ 0 ≤ o ∧ o < (pageN t p s : Int) := by
  unfold addrB at h
  simpa using h
theorem addr_yes {t p s i o : Int} (h : addrB t p s i o = true) :
    addrW i o (pageN t p s) = addrI t p s i o ∧ spotB t p s (addrI t p s i o) = true ∧ spotP t p s (addrI t p s i o) = i ∧ spotO t p s (addrI t p s i o) = o ∧ 1024 ≤ addrI t p s i o ∧ addrI t p s i o ≤ 1075838976 := by
  obtain ⟨hr, ⟨hi, hi'⟩, ho, ho'⟩ := addr_parts h
  obtain ⟨g, q, hg, rfl, hb, q1, q2, g1, g2, _, _, _, qg⟩ := right_nums hr
  rw [hg] at ho'
  have hm := mul_bounds hi hi' (show (0 : Int) < g by omega)
  have hsp := split_at (i := i) (show (0 : Int) < g by omega) ho ho'
  have hqg : ((q * g : Nat) : Int) = (q : Int) * (g : Int) := by push_cast; rfl
  have hI : addrI t q s i o = (i + 1) * (g : Int) + o := by unfold addrI; rw [if_pos h, hg]
  have hB : spotB t q s ((i + 1) * (g : Int) + o) = true := by
    unfold spotB
    rw [hg, hb, decide_eq_true_iff, hqg]
    omega
  rw [hI]
  refine ⟨?_, hB, ?_, ?_, by omega, by omega⟩
  · unfold addrW
    rw [hg, i64_same (x := i + 1) (by omega) (by omega), i64_same (x := (i + 1) * (g : Int)) (by omega) (by omega), i64_same (by omega) (by omega)]
  · unfold spotP
    rw [if_pos hB, hg, hsp.1]
    omega
  · unfold spotO
    rw [if_pos hB, hg, hsp.2]
theorem spot_parts {t p s a : Int} (h : spotB t p s a = true) :
    addrB t p s (spotP t p s a) (spotO t p s a) = true ∧ addrI t p s (spotP t p s a) (spotO t p s a) = a ∧ 1024 ≤ a ∧ a ≤ 1074790400 ∧ (0 ≤ spotP t p s a ∧ spotP t p s a < 1024) ∧ 0 ≤ spotO t p s a ∧ spotO t p s a < 1048576 := by
  have hr := spot_right h
  have h' := h
  unfold spotB at h'
  rw [decide_eq_true_iff] at h'
  obtain ⟨g, q, hg, rfl, hb, q1, q2, g1, g2, _, _, _, qg⟩ := right_nums hr
  rw [hg, hb] at h'
  have hP : spotP t q s a = a / (g : Int) - 1 := by unfold spotP; rw [if_pos h, hg]
  have hO : spotO t q s a = a % (g : Int) := by unfold spotO; rw [if_pos h, hg]
  rw [hP, hO]
  have hqg : ((q * g : Nat) : Int) = (q : Int) * (g : Int) := by push_cast; rfl
  have m0 := Int.emod_nonneg a (show (g : Int) ≠ 0 by omega)
  have m1 := Int.emod_lt_of_pos a (show (0 : Int) < g by omega)
  have d1 : 1 ≤ a / (g : Int) := (Int.le_ediv_iff_mul_le (by omega)).2 (by omega)
  have d2 : a / (g : Int) < (q : Int) + 1 := by
    refine (Int.ediv_lt_iff_lt_mul (by omega)).2 ?_
    rw [Int.add_mul]
    omega
  have hB : addrB t q s (a / (g : Int) - 1) (a % (g : Int)) = true := by
    unfold addrB
    rw [hr, hg, Bool.true_and, decide_eq_true_iff]
    exact ⟨⟨by omega, by omega⟩, m0, m1⟩
  refine ⟨hB, ?_, by omega, by omega, by omega, by omega⟩
  unfold addrI
  rw [if_pos hB, hg, Int.sub_add_cancel, Int.mul_comm]
  exact Int.mul_ediv_add_emod a g
theorem addr_no {t p s i o : Int} (h : addrB t p s i o = false) {a : Int} (hs : spotB t p s a = true) : ¬ (spotP t p s a = i ∧ spotO t p s a = o) := by
  rintro ⟨rfl, rfl⟩
  rw [(spot_parts hs).1] at h
  cases h
theorem addrI_no {t p s i o : Int} (h : addrB t p s i o = false) : addrI t p s i o = 0 := by unfold addrI; rw [h]; rfl
theorem spot_no {t p s a : Int} (h : spotB t p s a = false) : spotP t p s a = 0 ∧ spotO t p s a = 0 := by unfold spotP spotO; rw [h]; exact ⟨rfl, rfl⟩

def slotB (t p s k o : Int) : Bool := rightB t p s && decide (0 < sizeN s k ∧ 0 ≤ o ∧ o % (sizeN s k : Int) = 0 ∧ o / (sizeN s k : Int) < (slotI k : Int))
def slotR (t p s k o : Int) : Int := if slotB t p s k o then o / (sizeN s k : Int) else 0
theorem slotR_no {t p s k o : Int} (h : slotB t p s k o = false) : slotR t p s k o = 0 := by unfold slotR; rw [h]; rfl
theorem slot_at {t p s k o : Int} (hr : rightB t p s = true) (i : Nat) (hi : i < slotI k) (ho : o = (i : Int) * (sizeN s k : Int)) : slotB t p s k o = true ∧ slotR t p s k o = i := by
  have h' := (rightB_iff t p s).1 hr
  have hk : 0 ≤ k ∧ k < 9 := by
    have := mt (slotI_zero (k := k)).2 (by omega)
    omega
  obtain ⟨k, rfl⟩ : ∃ n : Nat, k = n := ⟨k.toNat, by omega⟩
  have hz := size_pos (s := s) h'.2.2 (k := k) (by omega)
  have e1 : o / (sizeN s (k : Int) : Int) = (i : Int) := by rw [ho]; exact Int.mul_ediv_cancel _ (by omega)
  have e2 : o % (sizeN s (k : Int) : Int) = 0 := by rw [ho]; exact Int.mul_emod_left _ _
  have e3 : 0 ≤ o := by rw [ho]; exact Int.mul_nonneg (by omega) (by omega)
  have hB : slotB t p s (k : Int) o = true := by
    unfold slotB
    rw [hr, Bool.true_and, decide_eq_true_iff, e1]
    exact ⟨hz, e3, e2, by omega⟩
  refine ⟨hB, ?_⟩
  unfold slotR
  rw [if_pos hB, e1]
theorem slot_parts {t p s k o : Int} (h : slotB t p s k o = true) : rightB t p s = true ∧ ∃ i : Nat, i < slotI k ∧ o = (i : Int) * (sizeN s k : Int) ∧ slotR t p s k o = i := by
  have hh := h
  unfold slotB at hh
  simp only [Bool.and_eq_true, decide_eq_true_eq] at hh
  obtain ⟨hr, h1, h2, h3, h4⟩ := hh
  refine ⟨hr, (o / (sizeN s k : Int)).toNat, ?_, ?_, ?_⟩
  · have := Int.ediv_nonneg h2 (show (0 : Int) ≤ sizeN s k by omega)
    omega
  · have h5 := Int.ediv_nonneg h2 (show (0 : Int) ≤ sizeN s k by omega)
    have h6 := Int.mul_ediv_add_emod o (sizeN s k)
    rw [Int.toNat_of_nonneg h5, Int.mul_comm]
    omega
  · have h5 := Int.ediv_nonneg h2 (show (0 : Int) ≤ sizeN s k by omega)
    unfold slotR
    rw [if_pos h, Int.toNat_of_nonneg h5]
theorem slot_in {s k : Int} (hs : 10 ≤ s ∧ s ≤ 20) {i : Nat} (hi : i < slotI k) : (i + 1) * sizeN s k ≤ pageS s ∧ 16 ≤ sizeN s k ∧ slotI k * sizeN s k ≤ pageS s := by
  have hk : 0 ≤ k ∧ k < 9 := by
    have := mt (slotI_zero (k := k)).2 (by omega)
    omega
  obtain ⟨k, rfl⟩ : ∃ n : Nat, k = n := ⟨k.toNat, by omega⟩
  obtain ⟨_, h16, hle, _⟩ := size_facts hs (k := k) (by omega)
  rw [slotI_nat] at hi ⊢
  have h1 : (i + 1) * sizeN s (k : Int) ≤ slotN k * sizeN s (k : Int) := Nat.mul_le_mul_right _ hi
  rw [Nat.mul_comm] at hle
  exact ⟨by omega, h16, hle⟩

def atB (t p s k i j : Int) : Bool := decide (0 ≤ j ∧ j < (slotI k : Int)) && addrB t p s i (j * (sizeN s k : Int))
def atI (t p s k i j : Int) : Int := if atB t p s k i j then addrI t p s i (j * (sizeN s k : Int)) else 0
theorem at_out {t p s k i j : Int} (h : ¬ (0 ≤ j ∧ j < (slotI k : Int))) : atB t p s k i j = false ∧ atI t p s k i j = 0 := by
  have : atB t p s k i j = false := by unfold atB; simp only [decide_eq_false h, Bool.false_and]
  exact ⟨this, by unfold atI; rw [this]; rfl⟩
theorem at_in {t p s k i j : Int} (h : 0 ≤ j ∧ j < (slotI k : Int)) : atB t p s k i j = addrB t p s i (j * (sizeN s k : Int)) ∧ atI t p s k i j = addrI t p s i (j * (sizeN s k : Int)) := by
  have : atB t p s k i j = addrB t p s i (j * (sizeN s k : Int)) := by unfold atB; simp only [decide_eq_true h, Bool.true_and]
  refine ⟨this, ?_⟩
  unfold atI
  rw [this]
  cases hb : addrB t p s i (j * (sizeN s k : Int))
  · rw [addrI_no hb]; rfl
  · rfl
end
end Go.Proofs.YtkbjckhbllmclaaGreatDoor

namespace Go.Proofs.YtkbjckhbllmclaaGreatDoor
open Go.ChangeShapes Go.WideShapes Go.ChangeAt Go.RowKit
set_option linter.unusedVariables false
section
structure AuH where
  t : Nat
  p : Nat
  s : Nat
  V : Nat → Nat

namespace AuH
variable (H : AuH)
def cel (q b : Nat) : Nat := H.V (30 + 4 * H.t + 6 * q + b)
def K (q : Nat) : Int := (infoG (H.cel q 0)).1
def L (q : Nat) : Int := (infoG (H.cel q 0)).2.1
def Cl (q : Nat) : Int := (infoG (H.cel q 0)).2.2.1
def ok (q : Nat) : Bool := (infoG (H.cel q 0)).2.2.2
def ln (q : Nat) : Nat := (H.L q).toNat
theorem info_eq (q : Nat) : infoG (H.cel q 0) = (H.K q, H.L q, H.Cl q, H.ok q) := rfl
theorem infoP_at (q : Nat) : infoP (H.K q) (H.L q) (H.Cl q) := by
  cases hb : H.ok q
  · have h := H.info_eq q
    rw [hb] at h
    exact .inl (infoG_none h)
  · have h := H.info_eq q
    rw [hb] at h
    exact infoB_iff (infoG_back h).1
theorem ok_of (q : Nat) (h : H.K q ≠ 0) : H.ok q = true := by
  cases hb : H.ok q
  · have h2 := H.info_eq q
    rw [hb] at h2
    exact absurd (infoG_none h2).1 h
  · rfl
theorem K_cases (q : Nat) : (H.K q = 0 ∧ H.ln q = 0 ∧ H.Cl q = 0) ∨ ((H.K q = 1 ∨ H.K q = 2) ∧ 1 ≤ H.ln q ∧ H.ln q ≤ 1024 ∧ H.Cl q = 0) ∨ (H.K q = 3 ∧ H.ln q = 1 ∧ 0 ≤ H.Cl q ∧ H.Cl q ≤ 8) := by
  have h := H.infoP_at q
  unfold infoP at h
  unfold ln
  omega
theorem L_ln (q : Nat) : H.L q = (H.ln q : Int) := by
  have h := H.infoP_at q
  unfold infoP at h
  unfold ln
  omega
theorem K_zero (q : Nat) (h : H.cel q 0 = 0) : H.K q = 0 ∧ H.ok q = true := by
  have e : infoG 0 = (0, 0, 0, true) := by decide
  unfold K ok
  rw [h, e]
  exact ⟨rfl, rfl⟩
theorem ln_pos (q : Nat) (h : H.K q ≠ 0) : 1 ≤ H.ln q ∧ H.ln q ≤ 1024 := by
  have := H.K_cases q
  omega

def can (q : Nat) : Bool := decide (q < H.p ∧ H.K q ≠ 0 ∧ q + H.ln q ≤ H.p)
def nx (q : Nat) : Nat := q + H.ln q
theorem can_iff (q : Nat) : H.can q = true ↔ q < H.p ∧ H.K q ≠ 0 ∧ q + H.ln q ≤ H.p := by unfold can; exact decide_eq_true_iff
theorem can_no (q : Nat) : H.can q = false ↔ ¬ (q < H.p ∧ H.K q ≠ 0 ∧ q + H.ln q ≤ H.p) := by unfold can; exact decide_eq_false_iff_not
theorem nx_gt {q : Nat} (h : H.can q = true) : q < H.nx q ∧ H.nx q ≤ H.p := by
  have h := (H.can_iff q).1 h
  have := H.ln_pos q h.2.1
  unfold nx
  omega

inductive At : Nat → Prop where
  | zero : At 0
  | step {q : Nat} : At q → H.can q = true → At (H.nx q)
variable {H}
theorem At.le {q : Nat} (h : H.At q) : q ≤ H.p := by
  cases h with
  | zero => omega
  | step h hc => exact (H.nx_gt hc).2
theorem At.chain : ∀ (n a b : Nat), a + b ≤ n → H.At a → H.At b → a < b → H.can a = true ∧ H.nx a ≤ b := by
  intro n
  induction n with
  | zero => intro a b h _ _ hl; omega
  | succ n ih =>
    intro a b h ha hb hl
    cases hb with
    | zero => omega
    | step hb0 hc =>
      rename_i b0
      have h0 := H.nx_gt hc
      rcases Nat.lt_trichotomy a b0 with h1 | h1 | h1
      · have := ih a b0 (by omega) ha hb0 h1
        exact ⟨this.1, by omega⟩
      · subst h1
        exact ⟨hc, Nat.le_refl _⟩
      · have := ih b0 a (by omega) hb0 ha h1
        omega
theorem At.next {a b : Nat} (ha : H.At a) (hb : H.At b) (h : a < b) : H.can a = true ∧ H.nx a ≤ b := At.chain _ a b (Nat.le_refl _) ha hb h
theorem At.cover {x : Nat} (h : H.At x) : ∀ q, q < x → ∃ a, H.At a ∧ H.can a = true ∧ a ≤ q ∧ q < H.nx a := by
  induction h with
  | zero => intro q hq; omega
  | step h hc ih =>
    rename_i a
    intro q hq
    rcases Nat.lt_or_ge q a with h1 | h1
    · exact ih q h1
    · exact ⟨a, h, hc, h1, hq⟩
variable (H)
def Bare (x : Nat) : Prop := ∀ a, H.At a → H.can a = true → a < x → ∀ q, a < q → q < H.nx a → H.cel q 0 = 0
def Tiled : Prop := H.At H.p ∧ H.Bare H.p
variable {H}
theorem Bare.step {a : Nat} (h : H.Bare a) (ha : H.At a) (hb : ∀ q, a < q → q < H.nx a → H.cel q 0 = 0) : H.Bare (H.nx a) := by
  intro b hb1 hb2 hb3 q h1 h2
  rcases Nat.lt_trichotomy b a with h3 | h3 | h3
  · exact h b hb1 hb2 h3 q h1 h2
  · subst h3; exact hb q h1 h2
  · have := (At.next ha hb1 h3).2; omega
theorem not_tiled_end {a : Nat} (ha : H.At a) (hc : H.can a = false) (h : a ≠ H.p) : ¬ H.Tiled := by
  rintro ⟨h1, _⟩
  have := At.next ha h1 (by have := ha.le; omega)
  rw [this.1] at hc
  cases hc
theorem not_tiled_in {a q : Nat} (ha : H.At a) (hc : H.can a = true) (h1 : a < q) (h2 : q < H.nx a) (h : H.cel q 0 ≠ 0) : ¬ H.Tiled := by
  rintro ⟨_, hb⟩
  exact h (hb a ha hc (by have := (H.can_iff a).1 hc; omega) q h1 h2)
theorem tiled_of {a : Nat} (ha : H.At a) (hb : H.Bare a) (h : a = H.p) : H.Tiled := by subst h; exact ⟨ha, hb⟩

theorem Tiled.start (h : H.Tiled) {q : Nat} (hq : q < H.p) (hk : H.K q ≠ 0) : H.At q ∧ H.can q = true := by
  obtain ⟨a, h1, h2, h3, h4⟩ := h.1.cover q hq
  rcases Nat.eq_or_lt_of_le h3 with h5 | h5
  · subst h5; exact ⟨h1, h2⟩
  · exact absurd (H.K_zero q (h.2 a h1 h2 (by omega) q h5 h4)).1 hk
theorem Tiled.at_can (h : H.Tiled) {q : Nat} (ha : H.At q) (hq : q < H.p) : H.can q = true := (At.next ha h.1 hq).1
theorem Tiled.can_eq (h : H.Tiled) {q : Nat} (ha : H.At q) : H.can q = decide (q < H.p) := by
  by_cases hq : q < H.p
  · rw [h.at_can ha hq, decide_eq_true hq]
  · rw [decide_eq_false hq]; exact (H.can_no q).2 (by omega)
theorem Tiled.at_K (h : H.Tiled) {q : Nat} (ha : H.At q) (hq : q < H.p) : H.K q ≠ 0 := ((H.can_iff q).1 (h.at_can ha hq)).2.1
theorem Tiled.inside (h : H.Tiled) {a q : Nat} (ha : H.At a) (h0 : a < H.p) (h1 : a < q) (h2 : q < H.nx a) : H.K q = 0 := (H.K_zero q (h.2 a ha (h.at_can ha h0) h0 q h1 h2)).1
theorem Tiled.cover (h : H.Tiled) {q : Nat} (hq : q < H.p) : ∃ a, H.At a ∧ a < H.p ∧ H.K a ≠ 0 ∧ a ≤ q ∧ q < H.nx a := by
  obtain ⟨a, h1, h2, h3, h4⟩ := h.1.cover q hq
  exact ⟨a, h1, by omega, h.at_K h1 (by omega), h3, h4⟩
theorem Tiled.step {R : Nat → Prop} (h : H.Tiled) {a : Nat} (ha : H.At a) (h0 : a < H.p) (h1 : ∀ q, q < a → H.K q ≠ 0 → R q) (h2 : R a) : ∀ q, q < H.nx a → H.K q ≠ 0 → R q := by
  intro q hq hk
  rcases Nat.lt_trichotomy q a with h3 | h3 | h3
  · exact h1 q h3 hk
  · subst h3; exact h2
  · exact absurd (h.inside ha h0 h3 hq) hk
def sumTo (f : Nat → Nat) : Nat → Nat
  | 0 => 0
  | n + 1 => sumTo f n + f n
theorem sumTo_skip (f : Nat → Nat) (a : Nat) : ∀ n, (∀ q, a ≤ q → q < a + n → f q = 0) → sumTo f (a + n) = sumTo f a
  | 0, _ => rfl
  | n + 1, h => by
    show sumTo f (a + n) + f (a + n) = _
    rw [sumTo_skip f a n (fun q h1 h2 => h q h1 (by omega)), h (a + n) (by omega) (by omega)]
    omega
theorem Tiled.sum {f : Nat → Nat} (h : H.Tiled) {a : Nat} (ha : H.At a) (h0 : a < H.p) (hf : ∀ q, q < H.p → H.K q = 0 → f q = 0) : sumTo f (H.nx a) = sumTo f a + f a := by
  have h1 := H.ln_pos a (h.at_K ha h0)
  have h2 := (H.nx_gt (h.at_can ha h0)).2
  have e : H.nx a = (a + 1) + (H.ln a - 1) := by unfold nx; omega
  rw [e, sumTo_skip f (a + 1) _ (fun q h3 h4 => hf q (by omega) (h.inside ha h0 (by omega) (by omega)))]
  rfl
theorem sumTo_le (f : Nat → Nat) (m : Nat) : ∀ n, (∀ q, q < n → f q ≤ m) → sumTo f n ≤ n * m
  | 0, _ => by simp [sumTo]
  | n + 1, h => by
    have h1 := sumTo_le f m n (fun q hq => h q (by omega))
    have h2 := h n (by omega)
    show sumTo f n + f n ≤ (n + 1) * m
    rw [Nat.succ_mul]
    omega
def catTo {α : Type} (f : Nat → List α) : Nat → List α
  | 0 => []
  | n + 1 => catTo f n ++ f n
theorem catTo_skip {α : Type} (f : Nat → List α) (a : Nat) : ∀ n, (∀ q, a ≤ q → q < a + n → f q = []) → catTo f (a + n) = catTo f a
  | 0, _ => rfl
  | n + 1, h => by
    show catTo f (a + n) ++ f (a + n) = _
    rw [catTo_skip f a n (fun q h1 h2 => h q h1 (by omega)), h (a + n) (by omega) (by omega), List.append_nil]
theorem Tiled.cat {α : Type} {f : Nat → List α} (h : H.Tiled) {a : Nat} (ha : H.At a) (h0 : a < H.p) (hf : ∀ q, q < H.p → H.K q = 0 → f q = []) : catTo f (H.nx a) = catTo f a ++ f a := by
  have h1 := H.ln_pos a (h.at_K ha h0)
  have h2 := (H.nx_gt (h.at_can ha h0)).2
  have e : H.nx a = (a + 1) + (H.ln a - 1) := by unfold nx; omega
  rw [e, catTo_skip f (a + 1) _ (fun q h3 h4 => hf q (by omega) (h.inside ha h0 (by omega) (by omega)))]
  rfl
end AuH

theorem gA {α : Type} {xs : List α} {i : Nat} (h : i < xs.toArray.size) : xs.toArray[i] = xs[i]'(by simpa using h) := List.getElem_toArray h
theorem gB {α : Type} (a : α) (l : List α) (h : 0 < (a :: l).length) : (a :: l)[0]'h = a := List.getElem_cons_zero a l h
theorem gC {α : Type} (a : α) (l : List α) (i : Nat) (h : i + 1 < (a :: l).length) : (a :: l)[i + 1]'h = l[i]'(Nat.lt_of_succ_lt_succ h) := List.getElem_cons_succ a l i h
theorem sA {α : Type} (l : List α) (i : Nat) (a : α) : l.toArray.setIfInBounds i a = (l.set i a).toArray := List.setIfInBounds_toArray l i a
theorem sB {α : Type} {x : α} {xs : List α} {a : α} : (x :: xs).set 0 a = a :: xs := List.set_cons_zero
theorem sC {α : Type} {x : α} {xs : List α} {i : Nat} {a : α} : (x :: xs).set (i + 1) a = x :: xs.set i a := List.set_cons_succ
section
variable {P : Program} {ops : Array Oper} {Q : Exit → Act → World → Prop} {md : Region.Mode} {S : World → Prop} {i : Nat} {oi : Oper} {v : Value} {fuel : Nat} {listed : Array Bool} {a : Act} {w : World}
theorem tkO (hi : ops[i]? = some oi) (h3 : (Region.noSelect ops && Region.free md ops listed i && (Region.ready md ops listed).contains i) = true) (hQ : ∀ c a w, Q (.panic c) (a.put oi.dst v) w → Q (.panic c) a w)
    (hw : Region.wanted oi (yielded ops a.tmps) = true) (hy : ∀ w, S w → (execOp a.eval oi).run P w = .ok (.value v) w) (hS : S w) (h : wpAnyH P md ops Q S fuel (listed.setIfInBounds i true) (a.put oi.dst v) w) : wpAnyH P md ops Q S (fuel + 1) listed a w := by
  rw [Bool.and_eq_true, Bool.and_eq_true] at h3
  exact wpAnyH_take hi h3.1.1 h3.1.2 h3.2 hQ (Or.inl ⟨hw, hy⟩) hS h
theorem skO (hi : ops[i]? = some oi) (h3 : (Region.noSelect ops && Region.free md ops listed i && (Region.ready md ops listed).contains i) = true) (hQ : ∀ c a w, Q (.panic c) (a.put oi.dst undef) w → Q (.panic c) a w)
    (hw : Region.wanted oi (yielded ops a.tmps) = false) (hS : S w) (h : wpAnyH P md ops Q S fuel (listed.setIfInBounds i true) (a.put oi.dst undef) w) : wpAnyH P md ops Q S (fuel + 1) listed a w := by
  rw [Bool.and_eq_true, Bool.and_eq_true] at h3
  exact wpAnyH_take hi h3.1.1 h3.1.2 h3.2 hQ (Or.inr ⟨hw, rfl⟩) hS h
end
section
variable {P : Program} {ops : Array Oper} {Q : Exit → Act → World → Prop} {md : Region.Mode} {S : World → Prop} {fuel : Nat} {listed listed' : Array Bool} {a a' : Act} {w : World} {oi : Oper} {v : Value}
theorem tkz (i : Nat) (h : wpAnyH P md ops Q S fuel listed' a' w) (hi : ops[i]? = some oi := by rfl) (h3 : (Region.noSelect ops && Region.free md ops listed i && (Region.ready md ops listed).contains i) = true := by kernel_rfl) (hQ : ∀ c a w, Q (.panic c) (a.put oi.dst v) w → Q (.panic c) a w := by exact fun _ _ _ h => h)
    (hw : Region.wanted oi (yielded ops a.tmps) = true := by rfl) (hy : ∀ w, S w → (execOp a.eval oi).run P w = .ok (.value v) w := by intro w hSw; (try dsimp only at hSw); go_simp; (try with_reducible rfl)) (hS : S w := by assumption) (hl : listed.setIfInBounds i true = listed' := by (try simp only [sA, sB, sC]); rfl) (ha : a.put oi.dst v = a' := by (try simp only [Act.put, gA, gB, gC, sA, sB, sC]); rfl) : wpAnyH P md ops Q S (fuel + 1) listed a w := by
  subst hl ha
  exact tkO hi h3 hQ hw hy hS h
end
end
end Go.Proofs.YtkbjckhbllmclaaGreatDoor

namespace Go.Proofs.YtkbjckhbllmclaaGreatDoor
set_option linter.unusedVariables false
section
def lT (t p s : Int) : Int := if rightB t p s then t else 0
def lP (t p s : Int) : Int := if rightB t p s then p else 0
def lS (t p s : Int) : Int := if rightB t p s then s else 0
def lA (t p s : Int) : Int := if rightB t p s then 30 + 4 * t else 0
def lC (t p s : Int) : Int := if rightB t p s then 30 + 4 * t + 6 * p else 0
def lM (t p s : Int) : Int := if rightB t p s then (16 + (30 + 4 * t + 6 * p) + 7) / 8 * 8 else 0
def lK (t p s : Int) : Int := if rightB t p s then t + 1 else 0
def lW (t p s : Int) : Int := lM t p s + lK t p s * 120

structure Laid7 (t p s T P S A C M K : Int) : Prop where
  hT : lT t p s = T
  hP : lP t p s = P
  hS : lS t p s = S
  hA : lA t p s = A
  hC : lC t p s = C
  hM : lM t p s = M
  hK : lK t p s = K
theorem lay_yes {t p s : Int} (h : rightB t p s = true) : Laid7 t p s t p s (30 + 4 * t) (30 + 4 * t + 6 * p) ((16 + (30 + 4 * t + 6 * p) + 7) / 8 * 8) (t + 1) := by
  constructor <;> simp [lT, lP, lS, lA, lC, lM, lK, h]
theorem lay_no {t p s : Int} (h : rightB t p s = false) : Laid7 t p s 0 0 0 0 0 0 0 := by
  constructor <;> simp [lT, lP, lS, lA, lC, lM, lK, h]
theorem lay_bounds (t p s : Int) : (0 ≤ lT t p s ∧ lT t p s ≤ 16) ∧ (0 ≤ lP t p s ∧ lP t p s ≤ 1024) ∧ (0 ≤ lA t p s ∧ lA t p s ≤ 94) ∧ (0 ≤ lC t p s ∧ lC t p s ≤ 6238) ∧ (0 ≤ lM t p s ∧ lM t p s ≤ 6256) ∧ (0 ≤ lK t p s ∧ lK t p s ≤ 17) ∧ lM t p s % 8 = 0 := by
  cases hr : rightB t p s
  · obtain ⟨h1, h2, h3, h4, h5, h6, h7⟩ := lay_no hr
    omega
  · obtain ⟨h1, h2, h3, h4, h5, h6, h7⟩ := lay_yes hr
    have := (rightB_iff t p s).1 hr
    omega
def nthI (f n e i : Int) : Int := if f = -1 ∨ i < 0 ∨ n ≤ i then -1 else f + i * e
theorem nth_off {f n e i : Int} (h : f = -1 ∨ i < 0 ∨ n ≤ i) : nthI f n e i = -1 := by unfold nthI; rw [if_pos h]
theorem nth_on {f n e i : Int} (h : ¬ f = -1) (h0 : 0 ≤ i) (h1 : i < n) : nthI f n e i = f + i * e := by unfold nthI; rw [if_neg (by omega)]
theorem nth_bounds {f n e i B : Int} (hf : -1 ≤ f) (hB : f ≤ B) (he : 0 ≤ e) (hn : 0 ≤ n) : -1 ≤ nthI f n e i ∧ nthI f n e i ≤ B + n * e := by
  have h2 := Int.mul_nonneg hn he
  by_cases h : f = -1 ∨ i < 0 ∨ n ≤ i
  · rw [nth_off h]; omega
  · rw [nth_on (by omega) (by omega) (by omega)]
    have h1 := Int.mul_nonneg (show 0 ≤ i by omega) he
    have h3 := Int.mul_le_mul_of_nonneg_right (show i ≤ n by omega) he
    omega

def pageI (t p s q b : Int) : Int := nthI (nthI (lA t p s) (lP t p s) 6 q) 6 1 b
def makerI (t p s m b : Int) : Int := nthI (nthI (lM t p s) (lK t p s) 120 m) 120 1 b
def logI (t p s m i : Int) : Int := nthI (makerI t p s m 24) 96 1 i

theorem pcell_no {t p s q b : Int} (h : ¬ (rightB t p s = true ∧ 0 ≤ q ∧ q < p)) : pageI t p s q b = -1 := by
  have h1 : nthI (lA t p s) (lP t p s) 6 q = -1 := by
    apply nth_off
    cases hr : rightB t p s
    · have := lay_no hr; have := this.hP; omega
    · have := (lay_yes hr).hP; rw [hr] at h; simp at h; omega
  unfold pageI
  exact nth_off (.inl h1)
theorem pcell_yes {t p s q b : Int} (hr : rightB t p s = true) (h0 : 0 ≤ q) (h1 : q < p) (h2 : 0 ≤ b) (h3 : b < 6) : pageI t p s q b = 30 + 4 * t + 6 * q + b := by
  obtain ⟨e1, e2, e3, e4, e5, e6, e7⟩ := lay_yes hr
  have := (rightB_iff t p s).1 hr
  unfold pageI
  rw [nth_on (f := lA t p s) (by omega) h0 (by omega), nth_on (by omega) h2 h3, e4]
  omega
def partT (q r : Int) : Int × Int × Int := if r < 16 then (4, q, r) else if r = 16 then (5, q, 0) else if 24 ≤ r then (6, q, r - 24) else (0, 0, 0)
def atT (t p s w : Int) : Int × Int × Int :=
  if w < 0 ∨ lW t p s ≤ w then (0, 0, 0) else if w < 8 then (1, w, 0) else if w = 8 then (2, 0, 0)
  else if lM t p s ≤ w then partT ((w - lM t p s) / 120) ((w - lM t p s) % 120)
  else if 16 ≤ w ∧ w - 16 < lC t p s then (3, w - 16, 0) else (0, 0, 0)
section
variable {t p s w : Int}
theorem words_right (h0 : 0 ≤ w) (h : w < lW t p s) : rightB t p s = true := by
  cases hr : rightB t p s
  · have h1 := (lay_no hr).hM; have h2 := (lay_no hr).hK; unfold lW at h; omega
  · rfl
theorem first_far (hr : rightB t p s = true) : 64 ≤ lM t p s ∧ 16 + lC t p s ≤ lM t p s ∧ lM t p s < 24 + lC t p s ∧ 58 ≤ lC t p s ∧ lM t p s % 8 = 0 ∧ lW t p s = lM t p s + (t + 1) * 120 := by
  obtain ⟨e1, e2, e3, e4, e5, e6, e7⟩ := lay_yes hr
  have := (rightB_iff t p s).1 hr
  unfold lW
  rw [e7]
  omega
theorem at_maker (h' : w < lW t p s) (hM : lM t p s ≤ w) : atT t p s w = partT ((w - lM t p s) / 120) ((w - lM t p s) % 120) := by
  have hb := lay_bounds t p s
  have hr := words_right (by omega) h'
  have := first_far hr
  unfold atT
  rw [if_neg (by omega), if_neg (by omega), if_neg (by omega), if_pos hM]
theorem at_of {k i : Int} (hr : rightB t p s = true) (h0 : 0 ≤ k) (h1 : k ≤ t) (hi : 0 ≤ i) (hi' : i < 120) (hw : w - (lM t p s + k * 120) = i) : atT t p s w = partT k i := by
  have hf := first_far hr
  rw [at_maker (by omega) (by omega)]
  congr 1
  · omega
  · omega
end
end
end Go.Proofs.YtkbjckhbllmclaaGreatDoor

namespace Go.Proofs.YtkbjckhbllmclaaGreatDoor
open Go.ChangeShapes Go.WideShapes Go.ChangeAt Go.RowKit
set_option linter.unusedVariables false
set_option linter.unusedSimpArgs false
section
theorem Held.seven {w : World} {g : Nat} {t : TypeId} {c0 c1 c2 c3 c4 c5 c6 : Value} (h : Held w g t #[c0, c1, c2, c3, c4, c5, c6]) : w.cell? ⟨g, 0, none⟩ = some c0 ∧ w.cell? ⟨g, 1, none⟩ = some c1 ∧ w.cell? ⟨g, 2, none⟩ = some c2 ∧ w.cell? ⟨g, 3, none⟩ = some c3 ∧ w.cell? ⟨g, 4, none⟩ = some c4 ∧ w.cell? ⟨g, 5, none⟩ = some c5 ∧ w.cell? ⟨g, 6, none⟩ = some c6 :=
  ⟨h.cell 0, h.cell 1, h.cell 2, h.cell 3, h.cell 4, h.cell 5, h.cell 6⟩
theorem Held.thawed7 {w : World} {g : Nat} {t : TypeId} {cs : Array Value} (h : Held w g t cs) : w.frozen? ⟨g, 0, none⟩ = false ∧ w.frozen? ⟨g, 1, none⟩ = false ∧ w.frozen? ⟨g, 2, none⟩ = false ∧ w.frozen? ⟨g, 3, none⟩ = false ∧ w.frozen? ⟨g, 4, none⟩ = false ∧ w.frozen? ⟨g, 5, none⟩ = false ∧ w.frozen? ⟨g, 6, none⟩ = false :=
  ⟨h.thawed 0, h.thawed 1, h.thawed 2, h.thawed 3, h.thawed 4, h.thawed 5, h.thawed 6⟩

theorem plNth_c (f n e i : Int) (f0 : -1 ≤ f) (f1 : f ≤ 20000) (n0 : 0 ≤ n) (n1 : n ≤ 10000) (e0 : 0 ≤ e) (e1 : e ≤ 120) (w : World) :
    Calls Tryz.prog 121 #[.int .i64 f, .int .i64 n, .int .i64 e, .int .i64 i] w fun z w' => z = .returned (.int .i64 (nthI f n e i)) ∧ w = w' := by
  by_cases c0 : f = -1
  · subst c0
    have HN := hidp (nth_off (f := -1) (n := n) (e := e) (i := i) (.inl rfl))
    go_enter Tryz.func121, Tryz.ntmps121
    go_wp2
    go_ret
    exact ⟨by rw [HN.out]; rfl, rfl⟩
  · have q0 : (f == -1) = false := by simpa using c0
    by_cases c1 : i < 0
    · have HN := hidp (nth_off (f := f) (n := n) (e := e) (i := i) (.inr (.inl c1)))
      go_enter Tryz.func121, Tryz.ntmps121
      go_wp2
      go_ret
      exact ⟨by rw [HN.out]; rfl, rfl⟩
    · by_cases c2 : n ≤ i
      · have HN := hidp (nth_off (f := f) (n := n) (e := e) (i := i) (.inr (.inr c2)))
        go_enter Tryz.func121, Tryz.ntmps121
        go_wp2
        go_ret
        exact ⟨by rw [HN.out]; rfl, rfl⟩
      · have HN := hidp (nth_on (f := f) (n := n) (e := e) (i := i) c0 (by omega) (by omega))
        have p0 : 0 ≤ i * e := Int.mul_nonneg (by omega) e0
        have p1 : i * e ≤ 10000 * 120 := Int.mul_le_mul (by omega) e1 e0 (by omega)
        obtain ⟨y, hy⟩ : ∃ y, i * e = y := ⟨_, rfl⟩
        have HY := hidp hy
        rw [hy] at p0 p1
        go_enter Tryz.func121, Tryz.ntmps121
        go_wp2
        go_ret
        exact ⟨by rw [HN.out, HY.out]; rfl, rfl⟩

theorem plLine_c (i : Nat) (h : i ≤ 10000) (w : World) :
    Calls Tryz.prog 131 #[.int .i64 (i : Int)] w fun z w' => z = .returned (.int .i64 (((i + 7) / 8 * 8 : Nat) : Int)) ∧ w = w' := by
  go_enter Tryz.func131, Tryz.ntmps131
  go_wp2
  go_ret
  refine ⟨ret_int ?_, rfl⟩
  simp
  omega
theorem plLineI_c (i y : Int) (h0 : 0 ≤ i) (h : i ≤ 10000) (hy : (i + 7) / 8 * 8 = y) (w : World) :
    Calls Tryz.prog 131 #[.int .i64 i] w fun z w' => z = .returned (.int .i64 y) ∧ w = w' := by
  obtain ⟨n, rfl⟩ : ∃ n : Nat, i = n := ⟨i.toNat, by omega⟩
  have e : y = (((n + 7) / 8 * 8 : Nat) : Int) := by omega
  rw [e]
  exact plLine_c n (by omega) w

set_option maxHeartbeats 1600000 in
theorem plLayout_no (t p s : Int) (hr : rightB t p s = false) (w : World) :
    Calls Tryz.prog 120 #[.agg #[.int .i64 t, .int .i64 p, .int .i64 s]] w fun z w' => z = .returned (.agg #[.int .i64 0, .int .i64 0, .int .i64 0, .int .i64 0, .int .i64 0, .int .i64 0, .int .i64 0]) ∧ Below w.heap.size w w' := by
  have HK := hidp (check_no hr)
  have hl := Held.new2 w (.cells #[.int .i64 t, .int .i64 p, .int .i64 s] 23) 122 #[.int .i64 0, .int .i64 0, .int .i64 0, .int .i64 0, .int .i64 0, .int .i64 0, .int .i64 0]
  clear hr
  go_enter Tryz.func120, Tryz.ntmps120
  go_wp2_with fail
  refine (cfCheck_c t p s _).mono ?_
  rintro e w1 ⟨rfl, hb1⟩
  rw [HK.out]
  have hz := hb1.size
  have hl1 := hl.keep hb1
  obtain ⟨z0, z1, z2, z3, z4, z5, z6⟩ := hl1.seven
  obtain ⟨f0, f1, f2, f3, f4, f5, f6⟩ := hl1.thawed7
  go_wp2
  refine bodyPost_ret (v := .agg #[.int .i64 0, .int .i64 0, .int .i64 0, .int .i64 0, .int .i64 0, .int .i64 0, .int .i64 0]) (by simp [results, Tryz.results120, go_sem, z0, z1, z2, z3, z4, z5, z6]) rfl ⟨rfl, ?_⟩
  exact Bput (Bput (Bput (Bput (Bput (Bput (Bput (Bgo (Bnew (Bnew (B0 _) _) _) hb1) (Nat.le_succ _) _) (Nat.le_succ _) _) (Nat.le_succ _) _) (Nat.le_succ _) _) (Nat.le_succ _) _) (Nat.le_succ _) _) (Nat.le_succ _) _

set_option maxHeartbeats 1600000 in
theorem plLayout_yes (a b : Nat) (s : Int) (hr : rightB a b s = true) (w : World) :
    Calls Tryz.prog 120 #[.agg #[.int .i64 (a : Int), .int .i64 (b : Int), .int .i64 s]] w fun z w' => z = .returned (.agg #[.int .i64 (a : Int), .int .i64 (b : Int), .int .i64 s, .int .i64 (30 + 4 * a : Int), .int .i64 (30 + 4 * a + 6 * b : Int), .int .i64 ((16 + (30 + 4 * a + 6 * b) + 7) / 8 * 8 : Int), .int .i64 (a + 1 : Int)]) ∧ Below w.heap.size w w' := by
  have HK := hidp (check_yes hr)
  have hn := (rightB_iff a b s).1 hr
  have a1 : a ≤ 16 := by omega
  have b1 : b ≤ 1024 := by omega
  obtain ⟨y, hy⟩ : ∃ y : Int, ((16 + (30 + 4 * (a : Int) + 6 * (b : Int)) + 7) / 8 * 8 : Int) = y := ⟨_, rfl⟩
  have HY := hidp hy
  rw [hy]
  have hd := (Held.new w 23 #[.int .i64 a, .int .i64 b, .int .i64 s]).alloc (.cells #[.int .i64 0, .int .i64 0, .int .i64 0, .int .i64 0, .int .i64 0, .int .i64 0, .int .i64 0] 122)
  have hl := Held.new2 w (.cells #[.int .i64 a, .int .i64 b, .int .i64 s] 23) 122 #[.int .i64 0, .int .i64 0, .int .i64 0, .int .i64 0, .int .i64 0, .int .i64 0, .int .i64 0]
  clear hr hn hy
  go_enter Tryz.func120, Tryz.ntmps120
  go_wp2_with fail
  refine (cfCheck_c a b s _).mono ?_
  rintro e w1 ⟨rfl, hb1⟩
  rw [HK.out]
  have hz := hb1.size
  have hd1 := hd.keep hb1
  have hl1 := hl.keep hb1
  obtain ⟨x0, x1, x2⟩ := hd1.three
  obtain ⟨z0, z1, z2, z3, z4, z5, z6⟩ := hl1.seven
  obtain ⟨f0, f1, f2, f3, f4, f5, f6⟩ := hl1.thawed7
  have hlt := hl1.lt
  clear hd hl
  go_wp2_with fail
  refine (plLineI_c _ y (by omega) (by omega) HY.out _).mono ?_
  rintro e w2 ⟨rfl, rfl⟩
  go_wp2
  have hfin := (((((((hl1.put 0 (.int .i64 (a : Int))).put 1 (.int .i64 (b : Int))).put 2 (.int .i64 s)).put 3 (.int .i64 (30 + 4 * a : Int))).put 4 (.int .i64 (30 + 4 * a + 6 * b : Int))).put 5 (.int .i64 y)).put 6 (.int .i64 (a + 1 : Int))).alloc
    (.cells #[.int .i64 (a : Int), .int .i64 (b : Int), .int .i64 s, .int .i64 (30 + 4 * a : Int), .int .i64 (30 + 4 * a + 6 * b : Int), .int .i64 y, .int .i64 (a + 1 : Int)] 122)
  obtain ⟨r0, r1, r2, r3, r4, r5, r6⟩ := hfin.seven
  refine bodyPost_ret (v := .agg #[.int .i64 (a : Int), .int .i64 (b : Int), .int .i64 s, .int .i64 (30 + 4 * a : Int), .int .i64 (30 + 4 * a + 6 * b : Int), .int .i64 y, .int .i64 (a + 1 : Int)]) (by simp [results, Tryz.results120, go_sem, r0, r1, r2, r3, r4, r5, r6]) rfl ⟨rfl, ?_⟩
  exact Bnew (Bput (Bput (Bput (Bput (Bput (Bput (Bput (Bgo (Bnew (Bnew (B0 _) _) _) hb1) (Nat.le_succ _) _) (Nat.le_succ _) _) (Nat.le_succ _) _) (Nat.le_succ _) _) (Nat.le_succ _) _) (Nat.le_succ _) _) (Nat.le_succ _) _) _

theorem plLayout_c (t p s T P S A C M K : Int) (h : Laid7 t p s T P S A C M K) (w : World) :
    Calls Tryz.prog 120 #[.agg #[.int .i64 t, .int .i64 p, .int .i64 s]] w fun z w' => z = .returned (.agg #[.int .i64 T, .int .i64 P, .int .i64 S, .int .i64 A, .int .i64 C, .int .i64 M, .int .i64 K]) ∧ Below w.heap.size w w' := by
  obtain ⟨rfl, rfl, rfl, rfl, rfl, rfl, rfl⟩ := h
  cases hr : rightB t p s
  · obtain ⟨e1, e2, e3, e4, e5, e6, e7⟩ := lay_no hr
    rw [e1, e2, e3, e4, e5, e6, e7]
    exact plLayout_no t p s hr w
  · obtain ⟨e1, e2, e3, e4, e5, e6, e7⟩ := lay_yes hr
    rw [e1, e2, e3, e4, e5, e6, e7]
    have hn := (rightB_iff t p s).1 hr
    obtain ⟨a, rfl⟩ : ∃ a : Nat, t = a := ⟨t.toNat, by omega⟩
    obtain ⟨b, rfl⟩ : ∃ b : Nat, p = b := ⟨p.toNat, by omega⟩
    exact plLayout_yes a b s hr w
theorem lay_is (t p s : Int) : ∃ T P S A C M K : Int, Laid7 t p s T P S A C M K ∧ (0 ≤ T ∧ T ≤ 16) ∧ (0 ≤ P ∧ P ≤ 1024) ∧ (0 ≤ A ∧ A ≤ 94) ∧ (0 ≤ C ∧ C ≤ 6238) ∧ (0 ≤ M ∧ M ≤ 6256) ∧ (0 ≤ K ∧ K ≤ 17) ∧ M % 8 = 0 :=
  ⟨_, _, _, _, _, _, _, ⟨rfl, rfl, rfl, rfl, rfl, rfl, rfl⟩, lay_bounds t p s⟩

theorem plCells_c (t p s : Int) (w : World) :
    Calls Tryz.prog 102 #[.agg #[.int .i64 t, .int .i64 p, .int .i64 s]] w fun z w' => z = .returned (.int .i64 (lC t p s)) ∧ Below w.heap.size w w' := by
  obtain ⟨T, P, S, A, C, M, K, HL, ⟨t0, t1⟩, ⟨p0, p1⟩, ⟨a0, a1⟩, ⟨c0, c1⟩, ⟨m0, m1⟩, ⟨k0, k1⟩, -⟩ := lay_is t p s
  have HC := hidp HL.hC
  have hfd : ∀ w : World, (Instr.field 122 (.agg #[.int .i64 T, .int .i64 P, .int .i64 S, .int .i64 A, .int .i64 C, .int .i64 M, .int .i64 K]) 2).run Tryz.prog w = .ok (.int .i64 C) w := fun _ => by kernel_rfl
  go_enter Tryz.func102, Tryz.ntmps102
  go_wp2_with fail
  refine (plLayout_c t p s T P S A C M K HL _).mono ?_
  rintro e w1 ⟨rfl, hb1⟩
  go_wp2
  go_ret
  exact ⟨by rw [HC.out]; rfl, Bgo (Bnew (B0 _) _) hb1⟩
theorem plBin_c (k : Int) (w : World) :
    Calls Tryz.prog 107 #[.int .i64 k] w fun z w' => z = .returned (.int .i64 (nthI 2 11 1 k)) ∧ w = w' := by
  go_enter Tryz.func107, Tryz.ntmps107
  go_wp2_with fail
  refine (plNth_c 2 11 1 k (by omega) (by omega) (by omega) (by omega) (by omega) (by omega) _).mono ?_
  rintro e w1 ⟨rfl, rfl⟩
  go_wp2
  go_ret
  exact ⟨by first | rfl | trivial, by first | rfl | trivial⟩

theorem plRack_c (k : Int) (w : World) :
    Calls Tryz.prog 108 #[.int .i64 k] w fun z w' => z = .returned (.int .i64 (nthI 13 9 1 k)) ∧ w = w' := by
  go_enter Tryz.func108, Tryz.ntmps108
  go_wp2_with fail
  refine (plNth_c 13 9 1 k (by omega) (by omega) (by omega) (by omega) (by omega) (by omega) _).mono ?_
  rintro e w1 ⟨rfl, rfl⟩
  go_wp2
  go_ret
  exact ⟨by first | rfl | trivial, by first | rfl | trivial⟩

theorem plRoot_c (k : Int) (w : World) :
    Calls Tryz.prog 128 #[.int .i64 k] w fun z w' => z = .returned (.int .i64 (nthI 22 8 1 k)) ∧ w = w' := by
  go_enter Tryz.func128, Tryz.ntmps128
  go_wp2_with fail
  refine (plNth_c 22 8 1 k (by omega) (by omega) (by omega) (by omega) (by omega) (by omega) _).mono ?_
  rintro e w1 ⟨rfl, rfl⟩
  go_wp2
  go_ret
  exact ⟨by first | rfl | trivial, by first | rfl | trivial⟩

theorem plPage_c (t p s q b : Int) (w : World) :
    Calls Tryz.prog 91 #[.agg #[.int .i64 t, .int .i64 p, .int .i64 s], .int .i64 q, .int .i64 b] w fun z w' => z = .returned (.int .i64 (pageI t p s q b)) ∧ Below w.heap.size w w' := by
  obtain ⟨T, P, S, A, C, M, K, HL, ⟨t0, t1⟩, ⟨p0, p1⟩, ⟨a0, a1⟩, ⟨c0, c1⟩, ⟨m0, m1⟩, ⟨k0, k1⟩, -⟩ := lay_is t p s
  have HR := hidp (show pageI t p s q b = nthI (nthI A P 6 q) 6 1 b by unfold pageI; rw [HL.hA, HL.hP])
  have hB := nth_bounds (f := A) (n := P) (e := 6) (i := q) (B := 6256) (by omega) (by omega) (by omega) (by omega)
  obtain ⟨y, hy⟩ : ∃ y, nthI A P 6 q = y := ⟨_, rfl⟩
  rw [hy] at hB HR
  have HY := hidp hy
  clear hy
  have hfd : ∀ w : World, (Instr.field 122 (.agg #[.int .i64 T, .int .i64 P, .int .i64 S, .int .i64 A, .int .i64 C, .int .i64 M, .int .i64 K]) 0).run Tryz.prog w = .ok (.agg #[.int .i64 T, .int .i64 P, .int .i64 S]) w := fun _ => by kernel_rfl
  have hfd2 : ∀ w : World, (Instr.field 23 (.agg #[.int .i64 T, .int .i64 P, .int .i64 S]) 0).run Tryz.prog w = .ok (.int .i64 T) w := fun _ => by kernel_rfl
  go_enter Tryz.func91, Tryz.ntmps91
  go_wp2_with fail
  refine (plLayout_c t p s T P S A C M K HL _).mono ?_
  rintro e w1 ⟨rfl, hb1⟩
  go_wp2_with fail
  refine (plNth_c A P 6 q (by omega) (by omega) (by omega) (by omega) (by omega) (by omega) _).mono ?_
  rintro e w2 ⟨rfl, rfl⟩
  rw [HY.out]
  go_wp2_with fail
  refine (plNth_c y 6 1 b (by omega) (by omega) (by omega) (by omega) (by omega) (by omega) _).mono ?_
  rintro e w3 ⟨rfl, rfl⟩
  go_wp2
  go_ret
  refine ⟨by rw [HR.out]; rfl, ?_⟩
  repeat (first | exact B0 _ | (with_reducible refine Bgo ?_ (by assumption)) | (with_reducible refine Bdrew ?_) | (with_reducible refine Bdraw ?_ _) | (with_reducible refine Bnew ?_ _) | (with_reducible refine Bput ?_ (by first | (simp; done) | (simp; omega)) _))

theorem plInfo_c (t p s q : Int) (w : World) :
    Calls Tryz.prog 50 #[.agg #[.int .i64 t, .int .i64 p, .int .i64 s], .int .i64 q] w fun z w' => z = .returned (.int .i64 (pageI t p s q 0)) ∧ Below w.heap.size w w' := by
  go_enter Tryz.func50, Tryz.ntmps50
  go_wp2_with fail
  refine (plPage_c t p s q 0 _).mono ?_
  rintro e w1 ⟨rfl, hb1⟩
  go_wp2
  go_ret
  exact ⟨by first | rfl | trivial, Bgo (Bnew (B0 _) _) hb1⟩

theorem plFoot_c (t p s q : Int) (w : World) :
    Calls Tryz.prog 103 #[.agg #[.int .i64 t, .int .i64 p, .int .i64 s], .int .i64 q] w fun z w' => z = .returned (.int .i64 (pageI t p s q 1)) ∧ Below w.heap.size w w' := by
  go_enter Tryz.func103, Tryz.ntmps103
  go_wp2_with fail
  refine (plPage_c t p s q 1 _).mono ?_
  rintro e w1 ⟨rfl, hb1⟩
  go_wp2
  go_ret
  exact ⟨by first | rfl | trivial, Bgo (Bnew (B0 _) _) hb1⟩

theorem plNext_c (t p s q : Int) (w : World) :
    Calls Tryz.prog 110 #[.agg #[.int .i64 t, .int .i64 p, .int .i64 s], .int .i64 q] w fun z w' => z = .returned (.int .i64 (pageI t p s q 2)) ∧ Below w.heap.size w w' := by
  go_enter Tryz.func110, Tryz.ntmps110
  go_wp2_with fail
  refine (plPage_c t p s q 2 _).mono ?_
  rintro e w1 ⟨rfl, hb1⟩
  go_wp2
  go_ret
  exact ⟨by first | rfl | trivial, Bgo (Bnew (B0 _) _) hb1⟩

theorem plPrev_c (t p s q : Int) (w : World) :
    Calls Tryz.prog 111 #[.agg #[.int .i64 t, .int .i64 p, .int .i64 s], .int .i64 q] w fun z w' => z = .returned (.int .i64 (pageI t p s q 3)) ∧ Below w.heap.size w w' := by
  go_enter Tryz.func111, Tryz.ntmps111
  go_wp2_with fail
  refine (plPage_c t p s q 3 _).mono ?_
  rintro e w1 ⟨rfl, hb1⟩
  go_wp2
  go_ret
  exact ⟨by first | rfl | trivial, Bgo (Bnew (B0 _) _) hb1⟩

theorem plSlots_c (t p s q : Int) (w : World) :
    Calls Tryz.prog 53 #[.agg #[.int .i64 t, .int .i64 p, .int .i64 s], .int .i64 q] w fun z w' => z = .returned (.int .i64 (pageI t p s q 4)) ∧ Below w.heap.size w w' := by
  go_enter Tryz.func53, Tryz.ntmps53
  go_wp2_with fail
  refine (plPage_c t p s q 4 _).mono ?_
  rintro e w1 ⟨rfl, hb1⟩
  go_wp2
  go_ret
  exact ⟨by first | rfl | trivial, Bgo (Bnew (B0 _) _) hb1⟩

theorem plTaken_c (t p s q : Int) (w : World) :
    Calls Tryz.prog 52 #[.agg #[.int .i64 t, .int .i64 p, .int .i64 s], .int .i64 q] w fun z w' => z = .returned (.int .i64 (pageI t p s q 5)) ∧ Below w.heap.size w w' := by
  go_enter Tryz.func52, Tryz.ntmps52
  go_wp2_with fail
  refine (plPage_c t p s q 5 _).mono ?_
  rintro e w1 ⟨rfl, hb1⟩
  go_wp2
  go_ret
  exact ⟨by first | rfl | trivial, Bgo (Bnew (B0 _) _) hb1⟩
end
end Go.Proofs.YtkbjckhbllmclaaGreatDoor

namespace Go.Proofs.YtkbjckhbllmclaaGreatDoor
open Go.ChangeShapes Go.WideShapes Go.ChangeAt Go.RowKit
set_option linter.unusedVariables false
section
theorem shl_one : ∀ k : Nat, k ≤ 20 → IntKind.i64.wrap (2 ^ k) = ((2 ^ k : Nat) : Int) := by
  intro k hk
  have := pow_bounds k hk
  have e : ((2 : Int) ^ k) = ((2 ^ k : Nat) : Int) := by norm_cast
  rw [e]
  generalize 2 ^ k = g at *
  simp only [IntKind.wrap, IntKind.bits, IntKind.signed]
  simp
  omega
theorem shl_num (p : Int) (k : Nat) (hp : 4 ≤ p) (hp' : p ≤ 1024) (hk : k ≤ 20) : IntKind.i64.wrap (p * 2 ^ k) = ((p.toNat * 2 ^ k : Nat) : Int) := by
  have hb := pow_bounds k hk
  obtain ⟨q, rfl⟩ : ∃ q : Nat, p = q := ⟨p.toNat, by omega⟩
  have e : ((q : Int) * (2 : Int) ^ k) = ((q * 2 ^ k : Nat) : Int) := by norm_cast
  rw [e, Int.toNat_natCast]
  generalize 2 ^ k = g at *
  have h1 : q * g ≤ 1024 * 1048576 := Nat.mul_le_mul (by omega) hb.2
  simp only [IntKind.wrap, IntKind.bits, IntKind.signed]
  simp
  omega
theorem put_new (x a v : Nat) (ha : a + 16 ≤ 64) (hx : x < 2 ^ a) (hv : v < 65536) : HM.putN x a 16 v = x + v * 2 ^ a := by
  have hx64 : x < 2 ^ 64 := Nat.lt_of_lt_of_le hx (Nat.pow_le_pow_right (by omega) (by omega))
  have h1 : x + v * 2 ^ a = 2 ^ a * v + x := by rw [Nat.mul_comm, Nat.add_comm]
  have hlt : 2 ^ a * v + x < 2 ^ 64 := by
    have e : (2 : Nat) ^ 64 = 2 ^ a * 2 ^ (64 - a) := by rw [← Nat.pow_add]; congr 1; omega
    have e2 : (2 : Nat) ^ 16 ≤ 2 ^ (64 - a) := Nat.pow_le_pow_right (by omega) (by omega)
    have e3 : 2 ^ a * (v + 1) ≤ 2 ^ a * 2 ^ (64 - a) := Nat.mul_le_mul_left _ (by omega)
    rw [Nat.mul_succ] at e3
    rw [e]
    omega
  rw [h1]
  apply Nat.eq_of_testBit_eq
  intro i
  by_cases hi : i < 64
  · rw [HM.bit_putN x a 16 v i ha hv hi, Nat.testBit_two_pow_mul_add _ hx]
    by_cases h2 : i < a
    · rw [if_neg (by omega), if_pos h2]
    · rw [if_neg h2]
      by_cases h3 : i < a + 16
      · rw [if_pos ⟨by omega, h3⟩]
      · rw [if_neg (by omega), Nat.testBit_lt_two_pow (Nat.lt_of_lt_of_le hx (Nat.pow_le_pow_right (by omega) (by omega))), Nat.testBit_lt_two_pow (Nat.lt_of_lt_of_le hv (show 65536 ≤ 2 ^ (i - a) from Nat.pow_le_pow_right (n := 2) (by omega) (show 16 ≤ i - a by omega)))]
  · rw [HM.bit_high (HM.putN_lt x a 16 v ha hv) (by omega), HM.bit_high hlt (by omega)]
theorem cfPage1_c (t p s : Int) (g : Nat) (w : World) (hc : Held w g 23 #[.int .i64 t, .int .i64 p, .int .i64 s]) (hs : 10 ≤ s) (hs' : s ≤ 20) :
    Calls Tryz.prog 96 #[.pointer (some ⟨g, 0, none⟩)] w fun e w' => e = .returned (.int .i64 ((2 ^ s.toNat : Nat) : Int)) ∧ w = w' := by
  obtain ⟨c0, c1, c2⟩ := hc.three
  have HS := hidp (shl_one s.toNat (by omega))
  go_enter Tryz.func96, Tryz.ntmps96
  go_wp2
  go_ret
  exact ⟨ret_int ((IntWalk.i64_left _).symm.trans HS.out), rfl⟩
theorem cfBytes1_c (t p s : Int) (g : Nat) (w : World) (hc : Held w g 23 #[.int .i64 t, .int .i64 p, .int .i64 s]) (hp : 4 ≤ p) (hp' : p ≤ 1024) (hs : 10 ≤ s) (hs' : s ≤ 20) :
    Calls Tryz.prog 132 #[.pointer (some ⟨g, 0, none⟩)] w fun e w' => e = .returned (.int .i64 ((p.toNat * 2 ^ s.toNat : Nat) : Int)) ∧ w = w' := by
  obtain ⟨c0, c1, c2⟩ := hc.three
  have HS := hidp (shl_num p s.toNat hp hp' (by omega))
  go_enter Tryz.func132, Tryz.ntmps132
  go_wp2
  go_ret
  exact ⟨ret_int ((IntWalk.i64_left _).symm.trans HS.out), rfl⟩

theorem cfOfPage_c (t p s : Int) (g : Nat) (w : World) (hc : Held w g 23 #[.int .i64 t, .int .i64 p, .int .i64 s]) :
    Calls Tryz.prog 95 #[.agg #[.int .i64 t, .int .i64 p, .int .i64 s], .func (.func 96) #[] #[.pointer (some ⟨g, 0, none⟩)]] w fun e w' => e = .returned (.int .i64 ((pageN t p s : Nat) : Int)) ∧ Below w.heap.size w w' := by
  cases hr : rightB t p s
  · have HP := hidp (page_no hr)
    have HK := hidp (check_no hr)
    clear hr
    go_enter Tryz.func95, Tryz.ntmps95
    go_wp2_with fail
    refine (cfCheck_c t p s _).mono ?_
    rintro e w1 ⟨rfl, hb1⟩
    rw [HK.out]
    go_wp2
    go_ret
    exact ⟨by rw [HP.out]; rfl, Bgo (Bnew (B0 _) _) hb1⟩
  · have HP := hidp (page_yes hr)
    have HK := hidp (check_yes hr)
    obtain ⟨_, ⟨h4, h1024⟩, h10, h20⟩ := (rightB_iff t p s).1 hr
    clear hr
    go_enter Tryz.func95, Tryz.ntmps95
    go_wp2_with fail
    refine (cfCheck_c t p s _).mono ?_
    rintro e w1 ⟨rfl, hb1⟩
    rw [HK.out]
    have hc1 := (hc.alloc (.cells #[.int .i64 t, .int .i64 p, .int .i64 s] 23)).keep hb1
    go_wp2_with fail
    refine (cfPage1_c t p s g _ hc1 h10 h20).mono ?_
    rintro e w2 ⟨rfl, rfl⟩
    rw [← HP.out]
    go_wp2
    go_ret
    exact ⟨rfl, Bgo (Bnew (B0 _) _) hb1⟩
theorem cfPage_c (t p s : Int) (w : World) :
    Calls Tryz.prog 55 #[.agg #[.int .i64 t, .int .i64 p, .int .i64 s]] w fun e w' => e = .returned (.int .i64 ((pageN t p s : Nat) : Int)) ∧ Below w.heap.size w w' := by
  go_enter Tryz.func55, Tryz.ntmps55
  go_wp2_with fail
  refine (cfOfPage_c t p s _ _ (Held.new w _ _)).mono ?_
  rintro e w1 ⟨rfl, hb1⟩
  go_wp2
  go_ret
  exact ⟨rfl, Bgo (Bnew (B0 _) _) hb1⟩

theorem cfOfBytes_c (t p s : Int) (g : Nat) (w : World) (hc : Held w g 23 #[.int .i64 t, .int .i64 p, .int .i64 s]) :
    Calls Tryz.prog 95 #[.agg #[.int .i64 t, .int .i64 p, .int .i64 s], .func (.func 132) #[] #[.pointer (some ⟨g, 0, none⟩)]] w fun e w' => e = .returned (.int .i64 ((bytesN t p s : Nat) : Int)) ∧ Below w.heap.size w w' := by
  cases hr : rightB t p s
  · have HP := hidp (bytes_no hr)
    have HK := hidp (check_no hr)
    clear hr
    go_enter Tryz.func95, Tryz.ntmps95
    go_wp2_with fail
    refine (cfCheck_c t p s _).mono ?_
    rintro e w1 ⟨rfl, hb1⟩
    rw [HK.out]
    go_wp2
    go_ret
    exact ⟨by rw [HP.out]; rfl, Bgo (Bnew (B0 _) _) hb1⟩
  · have HP := hidp (bytes_yes hr)
    have HK := hidp (check_yes hr)
    obtain ⟨_, ⟨h4, h1024⟩, h10, h20⟩ := (rightB_iff t p s).1 hr
    clear hr
    go_enter Tryz.func95, Tryz.ntmps95
    go_wp2_with fail
    refine (cfCheck_c t p s _).mono ?_
    rintro e w1 ⟨rfl, hb1⟩
    rw [HK.out]
    have hc1 := (hc.alloc (.cells #[.int .i64 t, .int .i64 p, .int .i64 s] 23)).keep hb1
    go_wp2_with fail
    refine (cfBytes1_c t p s g _ hc1 h4 h1024 h10 h20).mono ?_
    rintro e w2 ⟨rfl, rfl⟩
    rw [← HP.out]
    go_wp2
    go_ret
    exact ⟨rfl, Bgo (Bnew (B0 _) _) hb1⟩
theorem cfBytes_c (t p s : Int) (w : World) :
    Calls Tryz.prog 122 #[.agg #[.int .i64 t, .int .i64 p, .int .i64 s]] w fun e w' => e = .returned (.int .i64 ((bytesN t p s : Nat) : Int)) ∧ Below w.heap.size w w' := by
  go_enter Tryz.func122, Tryz.ntmps122
  go_wp2_with fail
  refine (cfOfBytes_c t p s _ _ (Held.new w _ _)).mono ?_
  rintro e w1 ⟨rfl, hb1⟩
  go_wp2
  go_ret
  exact ⟨rfl, Bgo (Bnew (B0 _) _) hb1⟩
end
end Go.Proofs.YtkbjckhbllmclaaGreatDoor
