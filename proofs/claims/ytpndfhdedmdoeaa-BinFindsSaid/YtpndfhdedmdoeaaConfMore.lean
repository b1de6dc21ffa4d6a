/-
  Contracts of conf's and nacreref04's pages, bytes and words.
-/
import Derived.Test.YtpndfhdedmdoeaaConf
namespace Go.Proofs.Ytpndfhdedmdoeaa
open Go.ChangeShapes Go.WideShapes Go.ChangeAt Go.RowKit
set_option linter.unusedVariables false

theorem rightB_mk {t p s : Int} (h : (1 ≤ t ∧ t ≤ 16) ∧ (4 ≤ p ∧ p ≤ 1024) ∧ 10 ≤ s ∧ s ≤ 20) : rightB t p s = true := (rightB_iff t p s).2 h
theorem rightB_not {t p s : Int} (h : ¬ ((1 ≤ t ∧ t ≤ 16) ∧ (4 ≤ p ∧ p ≤ 1024) ∧ 10 ≤ s ∧ s ≤ 20)) : rightB t p s = false := by
  cases hr : rightB t p s
  · rfl
  · exact absurd ((rightB_iff t p s).1 hr) h

/-! the document's answers -/
theorem r4Right_c (t p s : Int) (w : World) :
    Calls Try.prog 81 #[.agg #[.int .i64 t, .int .i64 p, .int .i64 s]] w fun e w' => e = .returned (.bool (rightB t p s)) ∧ Below w.heap.size w w' := by
  by_cases a1 : 1 ≤ t
  · by_cases a2 : t ≤ 16
    · by_cases a3 : 4 ≤ p
      · by_cases a4 : p ≤ 1024
        · by_cases a5 : 10 ≤ s
          · by_cases a6 : s ≤ 20
            · have H := hidp (rightB_mk (t := t) (p := p) (s := s) (by omega))
              go_enter Try.func81, Try.ntmps81
              go_wp2
              go_ret
              exact ⟨by rw [H.out]; rfl, Bnew (B0 _) _⟩
            · have H := hidp (rightB_not (t := t) (p := p) (s := s) (by omega))
              go_enter Try.func81, Try.ntmps81
              go_wp2
              go_ret
              exact ⟨by rw [H.out]; rfl, Bnew (B0 _) _⟩
          · have H := hidp (rightB_not (t := t) (p := p) (s := s) (by omega))
            go_enter Try.func81, Try.ntmps81
            go_wp2
            go_ret
            exact ⟨by rw [H.out]; rfl, Bnew (B0 _) _⟩
        · have H := hidp (rightB_not (t := t) (p := p) (s := s) (by omega))
          go_enter Try.func81, Try.ntmps81
          go_wp2
          go_ret
          exact ⟨by rw [H.out]; rfl, Bnew (B0 _) _⟩
      · have H := hidp (rightB_not (t := t) (p := p) (s := s) (by omega))
        go_enter Try.func81, Try.ntmps81
        go_wp2
        go_ret
        exact ⟨by rw [H.out]; rfl, Bnew (B0 _) _⟩
    · have H := hidp (rightB_not (t := t) (p := p) (s := s) (by omega))
      go_enter Try.func81, Try.ntmps81
      go_wp2
      go_ret
      exact ⟨by rw [H.out]; rfl, Bnew (B0 _) _⟩
  · have H := hidp (rightB_not (t := t) (p := p) (s := s) (by omega))
    go_enter Try.func81, Try.ntmps81
    go_wp2
    go_ret
    exact ⟨by rw [H.out]; rfl, Bnew (B0 _) _⟩

/-- how many bytes a page has; 0 where the configuration is not right -/
def pageN (t p s : Int) : Nat := if rightB t p s then 2 ^ s.toNat else 0
/-- how many all pages have -/
def bytesN (t p s : Int) : Nat := if rightB t p s then p.toNat * 2 ^ s.toNat else 0
theorem page_yes {t p s : Int} (h : rightB t p s = true) : pageN t p s = 2 ^ s.toNat := by unfold pageN; rw [if_pos h]
theorem page_no {t p s : Int} (h : rightB t p s = false) : pageN t p s = 0 := by unfold pageN; rw [h]; rfl
theorem bytes_yes {t p s : Int} (h : rightB t p s = true) : bytesN t p s = p.toNat * 2 ^ s.toNat := by unfold bytesN; rw [if_pos h]
theorem bytes_no {t p s : Int} (h : rightB t p s = false) : bytesN t p s = 0 := by unfold bytesN; rw [h]; rfl
theorem pow_bounds (k : Nat) (h : k ≤ 20) : 1 ≤ 2 ^ k ∧ 2 ^ k ≤ 1048576 := ⟨Nat.one_le_two_pow, by have := Nat.pow_le_pow_right (show 0 < 2 by omega) h; omega⟩
theorem pow_next (k : Nat) : 2 ^ (k + 1) = 2 ^ k * 2 := Nat.pow_succ 2 k

theorem r4Page_c (t p s : Int) (w : World) :
    Calls Try.prog 124 #[.agg #[.int .i64 t, .int .i64 p, .int .i64 s]] w fun e w' => e = .returned (.int .i64 ((pageN t p s : Nat) : Int)) ∧ Below w.heap.size w w' := by
  cases hr : rightB t p s
  · have HP := hidp (page_no hr)
    have HR := hidp hr
    clear hr
    go_enter Try.func124, Try.ntmps124
    go_wp2_with fail
    refine (r4Right_c t p s _).mono ?_
    rintro e w1 ⟨rfl, hb1⟩
    rw [HR.out]
    go_wp2
    go_ret
    exact ⟨by rw [HP.out]; rfl, Bgo (Bnew (B0 _) _) hb1⟩
  · have HP := hidp (page_yes hr)
    have HR := hidp hr
    obtain ⟨_, _, hs, hs'⟩ := (rightB_iff t p s).1 hr
    clear hr
    go_enter Try.func124, Try.ntmps124
    go_wp2_with fail
    have hc := Held.new w 23 #[.int .i64 t, .int .i64 p, .int .i64 s]
    refine (r4Right_c t p s _).mono ?_
    rintro e w1 ⟨rfl, hb1⟩
    rw [HR.out]
    obtain ⟨c0, c1, c2⟩ := (hc.keep hb1).three
    go_wp2
    go_loop [3, 4] (fun n i => ∃ k : Nat, (k : Int) ≤ s ∧ i = .int .i64 k ∧ n = .int .i64 ((2 ^ k : Nat) : Int)) (fun _ i => 64 - (intOf i).toNat)
    case atStart => exact ⟨0, by omega, rfl, rfl⟩
    case round =>
      obtain ⟨k, hk, rfl, rfl⟩ := hrel
      obtain ⟨b1, b2⟩ := pow_bounds k (by omega)
      by_cases hlt : (k : Int) < s
      · have HS := hidp (pow_next k)
        obtain ⟨m, hm⟩ : ∃ m, m = 2 ^ k := ⟨_, rfl⟩
        rw [← hm] at b1 b2 HS
        rw [← hm]
        have HM := hidp hm
        clear hm
        go_wp2
        go_round
        case rel => exact ⟨k + 1, by omega, by go_num, by rw [HS.out]; go_num⟩
        case measure => simp [intOf]; omega
      · obtain rfl : s = k := by omega
        go_wp2
        go_ret
        exact ⟨by rw [HP.out]; rfl, Bgo (Bnew (B0 _) _) hb1⟩

end Go.Proofs.Ytpndfhdedmdoeaa
