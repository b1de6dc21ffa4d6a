/-
  Contracts of place's At, and of what it calls.
-/
import Derived.Test.YtpndfhdedmdoeaaGreatG06
import Derived.Deep.RegionHeld3
import Derived.IntWalk
import Derived.KernelRfl
import Derived.Test.YtpndfhdedmdoeaaGreatG05
namespace Go.Proofs.YtpndfhdedmdoeaaGreat
open Go.ChangeShapes Go.WideShapes Go.ChangeAt Go.RowKit
set_option linter.unusedVariables false
set_option linter.unusedSimpArgs false

theorem part_call {q r : Int} (h : r < 16) : partT q r = (4, q, r) := by unfold partT; rw [if_pos h]
theorem part_note {q : Int} : partT q 16 = (5, q, 0) := by unfold partT; rw [if_neg (by omega), if_pos rfl]
theorem part_log {q r : Int} (h : 24 ≤ r) : partT q r = (6, q, r - 24) := by unfold partT; rw [if_neg (by omega), if_neg (by omega), if_pos h]
theorem part_none {q r : Int} (h : 16 < r) (h' : r < 24) : partT q r = (0, 0, 0) := by unfold partT; rw [if_neg (by omega), if_neg (by omega), if_neg (by omega)]

end Go.Proofs.YtpndfhdedmdoeaaGreat

/-
  Contracts of the document's answers to place (nacreref07).
-/
namespace Go.Proofs.YtpndfhdedmdoeaaGreat
open Go.ChangeShapes Go.WideShapes Go.ChangeAt Go.RowKit
set_option linter.unusedVariables false
set_option linter.unusedSimpArgs false

theorem w64 {x : Int} (h : -9223372036854775808 ≤ x) (h' : x ≤ 9223372036854775807) : IntKind.i64.wrap x = x := by
  simp only [IntKind.wrap, IntKind.bits, IntKind.signed]; simp; omega

theorem r7Bin_c (k : Int) (w : World) :
    Calls Tryz.prog 76 #[.int .i64 k] w fun z w' => z = .returned (.int .i64 (nthI 2 11 1 k)) ∧ w = w' := by
  by_cases c0 : k < 0
  · have HN := hidp (nth_off (f := 2) (n := 11) (e := 1) (.inr (.inl c0)))
    go_enter Tryz.func76, Tryz.ntmps76
    go_wp2
    go_ret
    exact ⟨by rw [HN.out]; rfl, rfl⟩
  · by_cases c1 : 11 ≤ k
    · have HN := hidp (nth_off (f := 2) (n := 11) (e := 1) (.inr (.inr c1)))
      go_enter Tryz.func76, Tryz.ntmps76
      go_wp2
      go_ret
      exact ⟨by rw [HN.out]; rfl, rfl⟩
    · have HN := hidp (show nthI 2 11 1 k = 2 + k by rw [nth_on (by omega) (by omega) (by omega)]; omega)
      go_enter Tryz.func76, Tryz.ntmps76
      go_wp2
      go_ret
      exact ⟨by rw [HN.out]; rfl, rfl⟩

theorem r7Rack_c (k : Int) (w : World) :
    Calls Tryz.prog 79 #[.int .i64 k] w fun z w' => z = .returned (.int .i64 (nthI 13 9 1 k)) ∧ w = w' := by
  by_cases c0 : k < 0
  · have HN := hidp (nth_off (f := 13) (n := 9) (e := 1) (.inr (.inl c0)))
    go_enter Tryz.func79, Tryz.ntmps79
    go_wp2
    go_ret
    exact ⟨by rw [HN.out]; rfl, rfl⟩
  · by_cases c1 : 9 ≤ k
    · have HN := hidp (nth_off (f := 13) (n := 9) (e := 1) (.inr (.inr c1)))
      go_enter Tryz.func79, Tryz.ntmps79
      go_wp2
      go_ret
      exact ⟨by rw [HN.out]; rfl, rfl⟩
    · have HN := hidp (show nthI 13 9 1 k = 13 + k by rw [nth_on (by omega) (by omega) (by omega)]; omega)
      go_enter Tryz.func79, Tryz.ntmps79
      go_wp2
      go_ret
      exact ⟨by rw [HN.out]; rfl, rfl⟩

theorem r7Root_c (k : Int) (w : World) :
    Calls Tryz.prog 34 #[.int .i64 k] w fun z w' => z = .returned (.int .i64 (nthI 22 8 1 k)) ∧ w = w' := by
  by_cases c0 : k < 0
  · have HN := hidp (nth_off (f := 22) (n := 8) (e := 1) (.inr (.inl c0)))
    go_enter Tryz.func34, Tryz.ntmps34
    go_wp2
    go_ret
    exact ⟨by rw [HN.out]; rfl, rfl⟩
  · by_cases c1 : 8 ≤ k
    · have HN := hidp (nth_off (f := 22) (n := 8) (e := 1) (.inr (.inr c1)))
      go_enter Tryz.func34, Tryz.ntmps34
      go_wp2
      go_ret
      exact ⟨by rw [HN.out]; rfl, rfl⟩
    · have HN := hidp (show nthI 22 8 1 k = 22 + k by rw [nth_on (by omega) (by omega) (by omega)]; omega)
      go_enter Tryz.func34, Tryz.ntmps34
      go_wp2
      go_ret
      exact ⟨by rw [HN.out]; rfl, rfl⟩

theorem r7Cells_c (t p s : Int) (w : World) :
    Calls Tryz.prog 36 #[.agg #[.int .i64 t, .int .i64 p, .int .i64 s]] w fun z w' => z = .returned (.int .i64 (lC t p s)) ∧ Below w.heap.size w w' := by
  have hc := Held.new w 23 #[.int .i64 t, .int .i64 p, .int .i64 s]
  cases hr : rightB t p s
  · have HR := hidp hr
    have HN := hidp (lay_no hr).hC
    clear hr
    go_enter Tryz.func36, Tryz.ntmps36
    go_wp2_with fail
    refine (r4Right_c t p s _).mono ?_
    rintro e w1 ⟨rfl, hb1⟩
    rw [HR.out]
    have hc1 := hc.keep hb1
    obtain ⟨x0, x1, x2⟩ := hc1.three
    go_wp2
    go_ret
    exact ⟨by rw [HN.out]; rfl, Bgo (Bnew (B0 _) _) hb1⟩
  · have HR := hidp hr
    have HN := hidp (lay_yes hr).hC
    have hn := (rightB_iff t p s).1 hr
    have t0 : 1 ≤ t := by omega
    have t1 : t ≤ 16 := by omega
    have p0 : 4 ≤ p := by omega
    have p1 : p ≤ 1024 := by omega
    clear hn
    clear hr
    go_enter Tryz.func36, Tryz.ntmps36
    go_wp2_with fail
    refine (r4Right_c t p s _).mono ?_
    rintro e w1 ⟨rfl, hb1⟩
    rw [HR.out]
    have hc1 := hc.keep hb1
    obtain ⟨x0, x1, x2⟩ := hc1.three
    go_wp2
    go_ret
    exact ⟨by rw [HN.out]; rfl, Bgo (Bnew (B0 _) _) hb1⟩

set_option maxHeartbeats 1600000 in
theorem r7Page_c (t p s q b : Int) (b0 : 0 ≤ b) (b1 : b < 6) (w : World) :
    Calls Tryz.prog 51 #[.agg #[.int .i64 t, .int .i64 p, .int .i64 s], .int .i64 q, .int .i64 b] w fun z w' => z = .returned (.int .i64 (pageI t p s q b)) ∧ Below w.heap.size w w' := by
  have hc := Held.new w 23 #[.int .i64 t, .int .i64 p, .int .i64 s]
  cases hr : rightB t p s
  · have HR := hidp hr
    have HN := hidp (show pageI t p s q b = -1 from pcell_no (by intro h; rw [h.1] at hr; cases hr))
    clear hr
    go_enter Tryz.func51, Tryz.ntmps51
    go_wp2_with fail
    refine (r4Right_c t p s _).mono ?_
    rintro e w1 ⟨rfl, hb1⟩
    rw [HR.out]
    have hc1 := hc.keep hb1
    obtain ⟨x0, x1, x2⟩ := hc1.three
    go_wp2
    go_ret
    refine ⟨by rw [HN.out]; rfl, ?_⟩
    repeat (first | exact B0 _ | (with_reducible refine Bgo ?_ (by assumption)) | (with_reducible refine Bdrew ?_) | (with_reducible refine Bdraw ?_ _) | (with_reducible refine Bnew ?_ _) | (with_reducible refine Bput ?_ (by first | (simp; done) | (simp; omega)) _))
  · have HR := hidp hr
    have hn := (rightB_iff t p s).1 hr
    have t0 : 1 ≤ t := by omega
    have t1 : t ≤ 16 := by omega
    have p0 : 4 ≤ p := by omega
    have p1 : p ≤ 1024 := by omega
    clear hn
    by_cases c0 : q < 0
    · clear hr
      have HN := hidp (show pageI t p s q b = -1 from pcell_no (by intro h; omega))
      go_enter Tryz.func51, Tryz.ntmps51
      go_wp2_with fail
      refine (r4Right_c t p s _).mono ?_
      rintro e w1 ⟨rfl, hb1⟩
      rw [HR.out]
      have hc1 := hc.keep hb1
      obtain ⟨x0, x1, x2⟩ := hc1.three
      go_wp2
      go_ret
      refine ⟨by rw [HN.out]; rfl, ?_⟩
      repeat (first | exact B0 _ | (with_reducible refine Bgo ?_ (by assumption)) | (with_reducible refine Bdrew ?_) | (with_reducible refine Bdraw ?_ _) | (with_reducible refine Bnew ?_ _) | (with_reducible refine Bput ?_ (by first | (simp; done) | (simp; omega)) _))
    · skip
      by_cases c1 : p ≤ q
      · clear hr
        have HN := hidp (show pageI t p s q b = -1 from pcell_no (by intro h; omega))
        go_enter Tryz.func51, Tryz.ntmps51
        go_wp2_with fail
        refine (r4Right_c t p s _).mono ?_
        rintro e w1 ⟨rfl, hb1⟩
        rw [HR.out]
        have hc1 := hc.keep hb1
        obtain ⟨x0, x1, x2⟩ := hc1.three
        go_wp2
        go_ret
        refine ⟨by rw [HN.out]; rfl, ?_⟩
        repeat (first | exact B0 _ | (with_reducible refine Bgo ?_ (by assumption)) | (with_reducible refine Bdrew ?_) | (with_reducible refine Bdraw ?_ _) | (with_reducible refine Bnew ?_ _) | (with_reducible refine Bput ?_ (by first | (simp; done) | (simp; omega)) _))
      · skip
        have HN := hidp (show pageI t p s q b = 30 + 4 * t + 6 * q + b from pcell_yes hr (by omega) (by omega) b0 b1)
        clear hr
        go_enter Tryz.func51, Tryz.ntmps51
        go_wp2_with fail
        refine (r4Right_c t p s _).mono ?_
        rintro e w1 ⟨rfl, hb1⟩
        rw [HR.out]
        have hc1 := hc.keep hb1
        obtain ⟨x0, x1, x2⟩ := hc1.three
        go_wp2
        go_ret
        refine ⟨by rw [HN.out]; rfl, ?_⟩
        repeat (first | exact B0 _ | (with_reducible refine Bgo ?_ (by assumption)) | (with_reducible refine Bdrew ?_) | (with_reducible refine Bdraw ?_ _) | (with_reducible refine Bnew ?_ _) | (with_reducible refine Bput ?_ (by first | (simp; done) | (simp; omega)) _))

theorem r7Info_c (t p s q : Int) (w : World) :
    Calls Tryz.prog 20 #[.agg #[.int .i64 t, .int .i64 p, .int .i64 s], .int .i64 q] w fun z w' => z = .returned (.int .i64 (pageI t p s q 0)) ∧ Below w.heap.size w w' := by
  go_enter Tryz.func20, Tryz.ntmps20
  go_wp2_with fail
  refine (r7Page_c t p s q 0 (by omega) (by omega) _).mono ?_
  rintro e w1 ⟨rfl, hb1⟩
  go_wp2
  go_ret
  exact ⟨by first | rfl | trivial, Bgo (Bnew (B0 _) _) hb1⟩

theorem r7Foot_c (t p s q : Int) (w : World) :
    Calls Tryz.prog 70 #[.agg #[.int .i64 t, .int .i64 p, .int .i64 s], .int .i64 q] w fun z w' => z = .returned (.int .i64 (pageI t p s q 1)) ∧ Below w.heap.size w w' := by
  go_enter Tryz.func70, Tryz.ntmps70
  go_wp2_with fail
  refine (r7Page_c t p s q 1 (by omega) (by omega) _).mono ?_
  rintro e w1 ⟨rfl, hb1⟩
  go_wp2
  go_ret
  exact ⟨by first | rfl | trivial, Bgo (Bnew (B0 _) _) hb1⟩

theorem r7Next_c (t p s q : Int) (w : World) :
    Calls Tryz.prog 82 #[.agg #[.int .i64 t, .int .i64 p, .int .i64 s], .int .i64 q] w fun z w' => z = .returned (.int .i64 (pageI t p s q 2)) ∧ Below w.heap.size w w' := by
  go_enter Tryz.func82, Tryz.ntmps82
  go_wp2_with fail
  refine (r7Page_c t p s q 2 (by omega) (by omega) _).mono ?_
  rintro e w1 ⟨rfl, hb1⟩
  go_wp2
  go_ret
  exact ⟨by first | rfl | trivial, Bgo (Bnew (B0 _) _) hb1⟩

theorem r7Prev_c (t p s q : Int) (w : World) :
    Calls Tryz.prog 83 #[.agg #[.int .i64 t, .int .i64 p, .int .i64 s], .int .i64 q] w fun z w' => z = .returned (.int .i64 (pageI t p s q 3)) ∧ Below w.heap.size w w' := by
  go_enter Tryz.func83, Tryz.ntmps83
  go_wp2_with fail
  refine (r7Page_c t p s q 3 (by omega) (by omega) _).mono ?_
  rintro e w1 ⟨rfl, hb1⟩
  go_wp2
  go_ret
  exact ⟨by first | rfl | trivial, Bgo (Bnew (B0 _) _) hb1⟩

theorem r7Slots_c (t p s q : Int) (w : World) :
    Calls Tryz.prog 95 #[.agg #[.int .i64 t, .int .i64 p, .int .i64 s], .int .i64 q] w fun z w' => z = .returned (.int .i64 (pageI t p s q 4)) ∧ Below w.heap.size w w' := by
  go_enter Tryz.func95, Tryz.ntmps95
  go_wp2_with fail
  refine (r7Page_c t p s q 4 (by omega) (by omega) _).mono ?_
  rintro e w1 ⟨rfl, hb1⟩
  go_wp2
  go_ret
  exact ⟨by first | rfl | trivial, Bgo (Bnew (B0 _) _) hb1⟩

theorem r7Taken_c (t p s q : Int) (w : World) :
    Calls Tryz.prog 96 #[.agg #[.int .i64 t, .int .i64 p, .int .i64 s], .int .i64 q] w fun z w' => z = .returned (.int .i64 (pageI t p s q 5)) ∧ Below w.heap.size w w' := by
  go_enter Tryz.func96, Tryz.ntmps96
  go_wp2_with fail
  refine (r7Page_c t p s q 5 (by omega) (by omega) _).mono ?_
  rintro e w1 ⟨rfl, hb1⟩
  go_wp2
  go_ret
  exact ⟨by first | rfl | trivial, Bgo (Bnew (B0 _) _) hb1⟩

end Go.Proofs.YtpndfhdedmdoeaaGreat

/-
  What the document's Push, and Pull, do. Written by link/gen_rpush.py.
-/
namespace Go.Proofs.YtpndfhdedmdoeaaGreat
open Go.ChangeShapes Go.WideShapes Go.ChangeAt Go.RowKit Go.Maps
set_option linter.unusedVariables false
set_option linter.unusedSimpArgs false
set_option maxRecDepth 100000

section
variable {base b n : Nat} {all : Bool} {K : Nat → Option Nat} {st : Vst} {w w0 : World} {A G : Nat → Prop} {t q s hd : Int}

end
end Go.Proofs.YtpndfhdedmdoeaaGreat
