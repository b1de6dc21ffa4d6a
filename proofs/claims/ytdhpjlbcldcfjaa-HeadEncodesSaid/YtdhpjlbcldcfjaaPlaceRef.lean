/-
  Contracts of the document's answers to place (nacreref07).
-/
import Derived.Test.YtdhpjlbcldcfjaaPlaceAt
import Derived.Deep.RegionHeld3
import Derived.IntWalk
import Derived.KernelRfl
namespace Go.Proofs.Ytdhpjlbcldcfjaa
open Go.ChangeShapes Go.WideShapes Go.ChangeAt Go.RowKit
set_option linter.unusedVariables false
set_option linter.unusedSimpArgs false

theorem w64 {x : Int} (h : -9223372036854775808 ≤ x) (h' : x ≤ 9223372036854775807) : IntKind.i64.wrap x = x := by
  simp only [IntKind.wrap, IntKind.bits, IntKind.signed]; simp; omega

theorem r7Cells_c (t p s : Int) (w : World) :
    Calls Try.prog 43 #[.agg #[.int .i64 t, .int .i64 p, .int .i64 s]] w fun z w' => z = .returned (.int .i64 (lC t p s)) ∧ Below w.heap.size w w' := by
  have hc := Held.new w 23 #[.int .i64 t, .int .i64 p, .int .i64 s]
  cases hr : rightB t p s
  · have HR := hidp hr
    have HN := hidp (lay_no hr).hC
    clear hr
    go_enter Try.func43, Try.ntmps43
    go_wp2_with fail
    refine (r4Right_c t p s _).mono ?_
    rintro e w1 ⟨rfl, hb1⟩
    rw [HR.out]
    have hc1 := hc.keep hb1
    obtain ⟨x0, x1, x2⟩ := hc1.three
    go_wp2
    go_ret
    exact ⟨by rw [HN.out]; rfl, Bgo (Bnew (B0 _) _) hb1⟩
  · have HR := hidp hr
    have HN := hidp (lay_yes hr).hC
    have hn := (rightB_iff t p s).1 hr
    have t0 : 1 ≤ t := by omega
    have t1 : t ≤ 16 := by omega
    have p0 : 4 ≤ p := by omega
    have p1 : p ≤ 1024 := by omega
    clear hn
    clear hr
    go_enter Try.func43, Try.ntmps43
    go_wp2_with fail
    refine (r4Right_c t p s _).mono ?_
    rintro e w1 ⟨rfl, hb1⟩
    rw [HR.out]
    have hc1 := hc.keep hb1
    obtain ⟨x0, x1, x2⟩ := hc1.three
    go_wp2
    go_ret
    exact ⟨by rw [HN.out]; rfl, Bgo (Bnew (B0 _) _) hb1⟩

theorem r7First_c (t p s m : Int) (hr : rightB t p s = true) (hm : lM t p s = m) (w : World) :
    Calls Try.prog 32 #[.agg #[.int .i64 t, .int .i64 p, .int .i64 s]] w fun z w' => z = .returned (.int .i64 m) ∧ Below w.heap.size w w' := by
  obtain ⟨f1, f2, f3, f4, f5, f6⟩ := first_far hr
  have hb := lay_bounds t p s
  rw [hm] at f1 f2 f3 f5 hb
  obtain ⟨y, hy⟩ : ∃ y, lC t p s = y := ⟨_, rfl⟩
  rw [hy] at f2 f3 f4 hb
  have y1 : y ≤ 6238 := by omega
  have HY := hidp hy
  clear hb hm hy hr f6
  go_enter Try.func32, Try.ntmps32
  go_wp2_with fail
  refine (r7Cells_c t p s _).mono ?_
  rintro e w1 ⟨rfl, hb1⟩
  rw [HY.out]
  have HB := hidp hb1
  clear hb1
  go_wp2
  go_loopw [3] (fun i wr => ∃ n : Int, i = .int .i64 n ∧ 16 + y ≤ n ∧ n ≤ m ∧ wr = w1) (fun i _ => (m - intOf i).toNat)
  case atStart => exact ⟨16 + y, rfl, by omega, by omega, rfl⟩
  case round =>
    obtain ⟨n, rfl, n0, n1, rfl⟩ := hrel
    by_cases he : n % 8 = 0
    · obtain rfl : n = m := by omega
      have g : n.tmod 8 = 0 := by rw [Int.tmod_eq_emod_of_nonneg (by omega)]; exact he
      go_wp2
      go_ret
      exact ⟨by first | rfl | trivial, Bgo (Bnew (B0 _) _) HB.out⟩
    · have g : (n % 8 == 0) = false := by simpa using he
      go_wp2
      refine ⟨⟨n + 1, rfl, by omega, by omega, trivial⟩, ?_⟩
      simp [intOf]
      omega

set_option maxHeartbeats 1600000 in
theorem r7Words_c (t p s : Int) (w : World) :
    Calls Try.prog 18 #[.agg #[.int .i64 t, .int .i64 p, .int .i64 s]] w fun z w' => z = .returned (.int .i64 (lW t p s)) ∧ Below w.heap.size w w' := by
  have hc := Held.new w 23 #[.int .i64 t, .int .i64 p, .int .i64 s]
  cases hr : rightB t p s
  · have HR := hidp hr
    have HN := hidp (show lW t p s = 0 by unfold lW; rw [(lay_no hr).hM, (lay_no hr).hK]; rfl)
    clear hr
    go_enter Try.func18, Try.ntmps18
    go_wp2_with fail
    refine (r4Right_c t p s _).mono ?_
    rintro e w1 ⟨rfl, hb1⟩
    rw [HR.out]
    have hc1 := hc.keep hb1
    obtain ⟨x0, x1, x2⟩ := hc1.three
    go_wp2
    go_ret
    exact ⟨by rw [HN.out]; rfl, Bgo (Bnew (B0 _) _) hb1⟩
  · have HR := hidp hr
    obtain ⟨m, hm⟩ : ∃ m, lM t p s = m := ⟨_, rfl⟩
    have hb := (lay_bounds t p s)
    rw [hm] at hb
    have m0 : 0 ≤ m := by omega
    have m1 : m ≤ 6256 := by omega
    have HN := hidp (show lW t p s = m + 120 * (t + 1) by unfold lW; rw [hm, (lay_yes hr).hK]; omega)
    have HM := hidp hm
    have hn := (rightB_iff t p s).1 hr
    have t0 : 1 ≤ t := by omega
    have t1 : t ≤ 16 := by omega
    have p0 : 4 ≤ p := by omega
    have p1 : p ≤ 1024 := by omega
    clear hn
    clear hr hb hm
    go_enter Try.func18, Try.ntmps18
    go_wp2_with fail
    refine (r4Right_c t p s _).mono ?_
    rintro e w1 ⟨rfl, hb1⟩
    rw [HR.out]
    have hc1 := hc.keep hb1
    obtain ⟨x0, x1, x2⟩ := hc1.three
    go_wp2_with fail
    go_region_held3 (fun w' => w'.cell? ⟨w.heap.size, 0, none⟩ = some (.int .i64 t) ∧ w'.cell? ⟨w.heap.size, 1, none⟩ = some (.int .i64 p) ∧ w'.cell? ⟨w.heap.size, 2, none⟩ = some (.int .i64 s))
      (first | exact ⟨x0, x1, x2⟩ | go_keep | exact ⟨hst _ _ (by assumption), hst _ _ (by assumption), hst _ _ (by assumption)⟩)
      (first
        | (go_at_call 32; refine (r7First_c t p s m HR.out HM.out _).mono ?_; rintro e w' ⟨rfl, hbl⟩; have hst := cells_stay hbl))
    go_wp2
    go_ret
    have W1 := w64 (x := t + 1) (by omega) (by omega)
    have W2 := w64 (x := 120 * (t + 1)) (by omega) (by omega)
    have W3 := w64 (x := m + 120 * (t + 1)) (by omega) (by omega)
    refine ⟨by rw [HN.out]; exact ret_int (by rw [W1, W2, W3]), ?_⟩
    repeat (first | exact B0 _ | (with_reducible refine Bgo ?_ (by assumption)) | (with_reducible refine Bdrew ?_) | (with_reducible refine Bdraw ?_ _) | (with_reducible refine Bnew ?_ _) | (with_reducible refine Bput ?_ (by first | (simp; done) | (simp; omega)) _))

end Go.Proofs.Ytdhpjlbcldcfjaa
