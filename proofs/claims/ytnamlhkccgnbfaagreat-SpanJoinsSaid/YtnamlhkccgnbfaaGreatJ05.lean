/-
  Contracts of the document's answers to place (nacreref07).
-/
import Derived.Test.YtnamlhkccgnbfaaGreatJ04
import Derived.Deep.RegionHeld3
import Derived.IntWalk
import Derived.KernelRfl
import Derived.Test.YtnamlhkccgnbfaaGreatJ03
import Derived.WalkMore
import Derived.Test.YtnamlhkccgnbfaaGreatJ01
import Derived.Test.YtnamlhkccgnbfaaGreatJ02
import Derived.RegionTactic
import Derived.ChangeAlike
import Derived.BigQuiet
import Derived.Test.YtnamlhkccgnbfaaGreatKit
namespace Go.Proofs.YtnamlhkccgnbfaaGreat
open Go.ChangeShapes Go.WideShapes Go.ChangeAt Go.RowKit
set_option linter.unusedVariables false
set_option linter.unusedSimpArgs false
section
theorem r7Bin_c (k : Int) (w : World) :
    Calls Tryz.prog 88 #[.int .i64 k] w fun z w' => z = .returned (.int .i64 (nthI 2 11 1 k)) ∧ w = w' := by
  by_cases c0 : k < 0
  · have HN := hidp (nth_off (f := 2) (n := 11) (e := 1) (.inr (.inl c0)))
    go_enter Tryz.func88, Tryz.ntmps88
    go_wp2
    go_ret
    exact ⟨by rw [HN.out]; rfl, rfl⟩
  · by_cases c1 : 11 ≤ k
    · have HN := hidp (nth_off (f := 2) (n := 11) (e := 1) (.inr (.inr c1)))
      go_enter Tryz.func88, Tryz.ntmps88
      go_wp2
      go_ret
      exact ⟨by rw [HN.out]; rfl, rfl⟩
    · have HN := hidp (show nthI 2 11 1 k = 2 + k by rw [nth_on (by omega) (by omega) (by omega)]; omega)
      go_enter Tryz.func88, Tryz.ntmps88
      go_wp2
      go_ret
      exact ⟨by rw [HN.out]; rfl, rfl⟩

theorem r7Rack_c (k : Int) (w : World) :
    Calls Tryz.prog 107 #[.int .i64 k] w fun z w' => z = .returned (.int .i64 (nthI 13 9 1 k)) ∧ w = w' := by
  by_cases c0 : k < 0
  · have HN := hidp (nth_off (f := 13) (n := 9) (e := 1) (.inr (.inl c0)))
    go_enter Tryz.func107, Tryz.ntmps107
    go_wp2
    go_ret
    exact ⟨by rw [HN.out]; rfl, rfl⟩
  · by_cases c1 : 9 ≤ k
    · have HN := hidp (nth_off (f := 13) (n := 9) (e := 1) (.inr (.inr c1)))
      go_enter Tryz.func107, Tryz.ntmps107
      go_wp2
      go_ret
      exact ⟨by rw [HN.out]; rfl, rfl⟩
    · have HN := hidp (show nthI 13 9 1 k = 13 + k by rw [nth_on (by omega) (by omega) (by omega)]; omega)
      go_enter Tryz.func107, Tryz.ntmps107
      go_wp2
      go_ret
      exact ⟨by rw [HN.out]; rfl, rfl⟩

theorem r7Root_c (k : Int) (w : World) :
    Calls Tryz.prog 63 #[.int .i64 k] w fun z w' => z = .returned (.int .i64 (nthI 22 8 1 k)) ∧ w = w' := by
  by_cases c0 : k < 0
  · have HN := hidp (nth_off (f := 22) (n := 8) (e := 1) (.inr (.inl c0)))
    go_enter Tryz.func63, Tryz.ntmps63
    go_wp2
    go_ret
    exact ⟨by rw [HN.out]; rfl, rfl⟩
  · by_cases c1 : 8 ≤ k
    · have HN := hidp (nth_off (f := 22) (n := 8) (e := 1) (.inr (.inr c1)))
      go_enter Tryz.func63, Tryz.ntmps63
      go_wp2
      go_ret
      exact ⟨by rw [HN.out]; rfl, rfl⟩
    · have HN := hidp (show nthI 22 8 1 k = 22 + k by rw [nth_on (by omega) (by omega) (by omega)]; omega)
      go_enter Tryz.func63, Tryz.ntmps63
      go_wp2
      go_ret
      exact ⟨by rw [HN.out]; rfl, rfl⟩

theorem r7Cells_c (t p s : Int) (w : World) :
    Calls Tryz.prog 67 #[.agg #[.int .i64 t, .int .i64 p, .int .i64 s]] w fun z w' => z = .returned (.int .i64 (lC t p s)) ∧ Below w.heap.size w w' := by
  have hc := Held.new w 23 #[.int .i64 t, .int .i64 p, .int .i64 s]
  cases hr : rightB t p s
  · have HR := hidp hr
    have HN := hidp (lay_no hr).hC
    clear hr
    go_enter Tryz.func67, Tryz.ntmps67
    go_wp2_with fail
    refine (r4Right_c t p s _).mono ?_
    rintro e w1 ⟨rfl, hb1⟩
    rw [HR.out]
    have hc1 := hc.keep hb1
    obtain ⟨x0, x1, x2⟩ := hc1.three
    go_wp2
    go_ret
    exact ⟨by rw [HN.out]; rfl, Bgo (Bnew (B0 _) _) hb1⟩
  · have HR := hidp hr
    have HN := hidp (lay_yes hr).hC
    have hn := (rightB_iff t p s).1 hr
    have t0 : 1 ≤ t := by omega
    have t1 : t ≤ 16 := by omega
    have p0 : 4 ≤ p := by omega
    have p1 : p ≤ 1024 := by omega
    clear hn
    clear hr
    go_enter Tryz.func67, Tryz.ntmps67
    go_wp2_with fail
    refine (r4Right_c t p s _).mono ?_
    rintro e w1 ⟨rfl, hb1⟩
    rw [HR.out]
    have hc1 := hc.keep hb1
    obtain ⟨x0, x1, x2⟩ := hc1.three
    go_wp2
    go_ret
    exact ⟨by rw [HN.out]; rfl, Bgo (Bnew (B0 _) _) hb1⟩

set_option maxHeartbeats 1600000 in
theorem r7Page_c (t p s q b : Int) (b0 : 0 ≤ b) (b1 : b < 6) (w : World) :
    Calls Tryz.prog 92 #[.agg #[.int .i64 t, .int .i64 p, .int .i64 s], .int .i64 q, .int .i64 b] w fun z w' => z = .returned (.int .i64 (pageI t p s q b)) ∧ Below w.heap.size w w' := by
  have hc := Held.new w 23 #[.int .i64 t, .int .i64 p, .int .i64 s]
  cases hr : rightB t p s
  · have HR := hidp hr
    have HN := hidp (show pageI t p s q b = -1 from pcell_no (by intro h; rw [h.1] at hr; cases hr))
    clear hr
    go_enter Tryz.func92, Tryz.ntmps92
    go_wp2_with fail
    refine (r4Right_c t p s _).mono ?_
    rintro e w1 ⟨rfl, hb1⟩
    rw [HR.out]
    have hc1 := hc.keep hb1
    obtain ⟨x0, x1, x2⟩ := hc1.three
    go_wp2
    go_ret
    refine ⟨by rw [HN.out]; rfl, ?_⟩
    repeat (first | exact B0 _ | (with_reducible refine Bgo ?_ (by assumption)) | (with_reducible refine Bdrew ?_) | (with_reducible refine Bdraw ?_ _) | (with_reducible refine Bnew ?_ _) | (with_reducible refine Bput ?_ (by first | (simp; done) | (simp; omega)) _))
  · have HR := hidp hr
    have hn := (rightB_iff t p s).1 hr
    have t0 : 1 ≤ t := by omega
    have t1 : t ≤ 16 := by omega
    have p0 : 4 ≤ p := by omega
    have p1 : p ≤ 1024 := by omega
    clear hn
    by_cases c0 : q < 0
    · clear hr
      have HN := hidp (show pageI t p s q b = -1 from pcell_no (by intro h; omega))
      go_enter Tryz.func92, Tryz.ntmps92
      go_wp2_with fail
      refine (r4Right_c t p s _).mono ?_
      rintro e w1 ⟨rfl, hb1⟩
      rw [HR.out]
      have hc1 := hc.keep hb1
      obtain ⟨x0, x1, x2⟩ := hc1.three
      go_wp2
      go_ret
      refine ⟨by rw [HN.out]; rfl, ?_⟩
      repeat (first | exact B0 _ | (with_reducible refine Bgo ?_ (by assumption)) | (with_reducible refine Bdrew ?_) | (with_reducible refine Bdraw ?_ _) | (with_reducible refine Bnew ?_ _) | (with_reducible refine Bput ?_ (by first | (simp; done) | (simp; omega)) _))
    · skip
      by_cases c1 : p ≤ q
      · clear hr
        have HN := hidp (show pageI t p s q b = -1 from pcell_no (by intro h; omega))
        go_enter Tryz.func92, Tryz.ntmps92
        go_wp2_with fail
        refine (r4Right_c t p s _).mono ?_
        rintro e w1 ⟨rfl, hb1⟩
        rw [HR.out]
        have hc1 := hc.keep hb1
        obtain ⟨x0, x1, x2⟩ := hc1.three
        go_wp2
        go_ret
        refine ⟨by rw [HN.out]; rfl, ?_⟩
        repeat (first | exact B0 _ | (with_reducible refine Bgo ?_ (by assumption)) | (with_reducible refine Bdrew ?_) | (with_reducible refine Bdraw ?_ _) | (with_reducible refine Bnew ?_ _) | (with_reducible refine Bput ?_ (by first | (simp; done) | (simp; omega)) _))
      · skip
        have HN := hidp (show pageI t p s q b = 30 + 4 * t + 6 * q + b from pcell_yes hr (by omega) (by omega) b0 b1)
        clear hr
        go_enter Tryz.func92, Tryz.ntmps92
        go_wp2_with fail
        refine (r4Right_c t p s _).mono ?_
        rintro e w1 ⟨rfl, hb1⟩
        rw [HR.out]
        have hc1 := hc.keep hb1
        obtain ⟨x0, x1, x2⟩ := hc1.three
        go_wp2
        go_ret
        refine ⟨by rw [HN.out]; rfl, ?_⟩
        repeat (first | exact B0 _ | (with_reducible refine Bgo ?_ (by assumption)) | (with_reducible refine Bdrew ?_) | (with_reducible refine Bdraw ?_ _) | (with_reducible refine Bnew ?_ _) | (with_reducible refine Bput ?_ (by first | (simp; done) | (simp; omega)) _))

theorem r7Info_c (t p s q : Int) (w : World) :
    Calls Tryz.prog 46 #[.agg #[.int .i64 t, .int .i64 p, .int .i64 s], .int .i64 q] w fun z w' => z = .returned (.int .i64 (pageI t p s q 0)) ∧ Below w.heap.size w w' := by
  go_enter Tryz.func46, Tryz.ntmps46
  go_wp2_with fail
  refine (r7Page_c t p s q 0 (by omega) (by omega) _).mono ?_
  rintro e w1 ⟨rfl, hb1⟩
  go_wp2
  go_ret
  exact ⟨by first | rfl | trivial, Bgo (Bnew (B0 _) _) hb1⟩

theorem r7Foot_c (t p s q : Int) (w : World) :
    Calls Tryz.prog 48 #[.agg #[.int .i64 t, .int .i64 p, .int .i64 s], .int .i64 q] w fun z w' => z = .returned (.int .i64 (pageI t p s q 1)) ∧ Below w.heap.size w w' := by
  go_enter Tryz.func48, Tryz.ntmps48
  go_wp2_with fail
  refine (r7Page_c t p s q 1 (by omega) (by omega) _).mono ?_
  rintro e w1 ⟨rfl, hb1⟩
  go_wp2
  go_ret
  exact ⟨by first | rfl | trivial, Bgo (Bnew (B0 _) _) hb1⟩

theorem r7Next_c (t p s q : Int) (w : World) :
    Calls Tryz.prog 90 #[.agg #[.int .i64 t, .int .i64 p, .int .i64 s], .int .i64 q] w fun z w' => z = .returned (.int .i64 (pageI t p s q 2)) ∧ Below w.heap.size w w' := by
  go_enter Tryz.func90, Tryz.ntmps90
  go_wp2_with fail
  refine (r7Page_c t p s q 2 (by omega) (by omega) _).mono ?_
  rintro e w1 ⟨rfl, hb1⟩
  go_wp2
  go_ret
  exact ⟨by first | rfl | trivial, Bgo (Bnew (B0 _) _) hb1⟩

theorem r7Prev_c (t p s q : Int) (w : World) :
    Calls Tryz.prog 110 #[.agg #[.int .i64 t, .int .i64 p, .int .i64 s], .int .i64 q] w fun z w' => z = .returned (.int .i64 (pageI t p s q 3)) ∧ Below w.heap.size w w' := by
  go_enter Tryz.func110, Tryz.ntmps110
  go_wp2_with fail
  refine (r7Page_c t p s q 3 (by omega) (by omega) _).mono ?_
  rintro e w1 ⟨rfl, hb1⟩
  go_wp2
  go_ret
  exact ⟨by first | rfl | trivial, Bgo (Bnew (B0 _) _) hb1⟩

theorem r7Slots_c (t p s q : Int) (w : World) :
    Calls Tryz.prog 133 #[.agg #[.int .i64 t, .int .i64 p, .int .i64 s], .int .i64 q] w fun z w' => z = .returned (.int .i64 (pageI t p s q 4)) ∧ Below w.heap.size w w' := by
  go_enter Tryz.func133, Tryz.ntmps133
  go_wp2_with fail
  refine (r7Page_c t p s q 4 (by omega) (by omega) _).mono ?_
  rintro e w1 ⟨rfl, hb1⟩
  go_wp2
  go_ret
  exact ⟨by first | rfl | trivial, Bgo (Bnew (B0 _) _) hb1⟩

theorem r7Taken_c (t p s q : Int) (w : World) :
    Calls Tryz.prog 134 #[.agg #[.int .i64 t, .int .i64 p, .int .i64 s], .int .i64 q] w fun z w' => z = .returned (.int .i64 (pageI t p s q 5)) ∧ Below w.heap.size w w' := by
  go_enter Tryz.func134, Tryz.ntmps134
  go_wp2_with fail
  refine (r7Page_c t p s q 5 (by omega) (by omega) _).mono ?_
  rintro e w1 ⟨rfl, hb1⟩
  go_wp2
  go_ret
  exact ⟨by first | rfl | trivial, Bgo (Bnew (B0 _) _) hb1⟩
end
end Go.Proofs.YtnamlhkccgnbfaaGreat

namespace Go.Proofs.YtnamlhkccgnbfaaGreat
open Go.ChangeShapes Go.WideShapes Go.ChangeAt Go.RowKit Go.Maps
set_option linter.unusedVariables false
set_option linter.unusedSimpArgs false
set_option maxRecDepth 100000
section
theorem ofI_log {n : Int} (h : n ≤ 1024) : HM.logI n = ofI n := by
  unfold ofI
  by_cases h1 : n < 1
  · rw [if_pos (.inl h1), HM.logI_no n h1]
  · rw [if_neg (by omega)]
theorem ofI_high {n : Int} (h : 1024 < n) : ofI n = -1 := by unfold ofI; rw [if_pos (.inr h)]
theorem addS_no {n : Nat} {K : Nat → Option Nat} {t q s p nn : Int} {st : Vst} (h : ¬ (pgB q p = true ∧ 1 ≤ nn ∧ nn ≤ q - p)) : addS n K t q s p nn st = st := by unfold addS; rw [if_neg h]
theorem addS_yes {n : Nat} {K : Nat → Option Nat} {t q s : Int} {k m : Nat} {st : Vst} (h : pgB q (k : Int) = true ∧ 1 ≤ (m : Int) ∧ (m : Int) ≤ q - (k : Int)) :
    addS n K t q s (k : Int) (m : Int) st = pushI n K t q s (binH (m : Int)) (k : Int) (putS n (putS n st (pageI t q s (k : Int) 0) (infoV 1 (m : Int) 0)) (pageI t q s ((k : Int) + (m : Int) - 1) 1) (k + 1)) := by
  unfold addS
  rw [if_pos h, Int.toNat_natCast]
theorem infoG_len {v : Nat} {l c : Int} {ok : Bool} (h : infoG v = (1, l, c, ok)) : 0 ≤ l ∧ l ≤ 1024 := by
  cases hb : infoB (v % 16 : Nat) (v / 16 % 4096 : Nat) (v / 65536 : Nat)
  · rw [infoG_no hb] at h
    injection h with h _
    omega
  · rw [infoG_yes hb] at h
    have h1 := infoB_iff hb
    injection h with h2 h
    injection h with h3 _
    unfold infoP at h1
    omega

theorem bnOf_c (n : Int) (h0 : -9223372036854775808 ≤ n) (h1 : n ≤ 9223372036854775807) (w : World) :
    Calls Tryz.prog 77 #[.int .i64 n] w fun e w' => e = .returned (.int .i64 (ofI n)) ∧ w = w' := by
  by_cases h : 1024 < n
  · have t0 : decide ((1024 : Int) < n) = true := decide_eq_true h
    have HO := hidp (ofI_high h)
    go_enter Tryz.func77, Tryz.ntmps77
    go_wp2
    go_ret
    exact ⟨by rw [HO.out]; rfl, rfl⟩
  · have t0 : decide ((1024 : Int) < n) = false := decide_eq_false h
    have HO : Hid (HM.logI n = ofI n) := hidp (ofI_log (by omega))
    go_enter Tryz.func77, Tryz.ntmps77
    go_wp2_with fail
    refine (Log_c n h0 h1 _).mono ?_
    rintro e w1 ⟨rfl, rfl⟩
    rw [HO.out]
    go_wp2
    go_ret
    exact ⟨rfl, rfl⟩
theorem bnIsPage_c (t q s p : Int) (w : World) :
    Calls Tryz.prog 79 #[.agg #[.int .i64 t, .int .i64 q, .int .i64 s], .int .i64 p] w fun e w' => e = .returned (.bool (pgB q p)) ∧ Below w.heap.size w w' := by
  have hB := Bnew (B0 w) (.cells #[.int .i64 t, .int .i64 q, .int .i64 s] 23)
  obtain ⟨x0, x1, x2⟩ := (Held.new w 23 #[.int .i64 t, .int .i64 q, .int .i64 s]).three
  unfold pgB
  by_cases h0 : 0 ≤ p
  · have t0 : decide ((0 : Int) ≤ p) = true := decide_eq_true h0
    obtain ⟨c, t1⟩ : ∃ c, decide (p < q) = c := ⟨_, rfl⟩
    rw [t0, t1]
    cases c with
    | true =>
      go_enter Tryz.func79, Tryz.ntmps79
      go_wp2
      go_ret
      exact ⟨rfl, hB⟩
    | false =>
      go_enter Tryz.func79, Tryz.ntmps79
      go_wp2
      go_ret
      exact ⟨rfl, hB⟩
  · have t0 : decide ((0 : Int) ≤ p) = false := decide_eq_false h0
    rw [t0]
    go_enter Tryz.func79, Tryz.ntmps79
    go_wp2
    go_ret
    exact ⟨rfl, hB⟩

theorem bnIsLong_c (k l c nn : Int) (w : World) :
    Calls Tryz.prog 80 #[.agg #[.int .i64 k, .int .i64 l, .int .i64 c], .int .i64 nn] w fun e w' => e = .returned (.bool (decide (k = 1) && decide (nn ≤ l))) ∧ Below w.heap.size w w' := by
  have hB := Bnew (B0 w) (.cells #[.int .i64 k, .int .i64 l, .int .i64 c] 103)
  obtain ⟨x0, x1, x2⟩ := (Held.new w 103 #[.int .i64 k, .int .i64 l, .int .i64 c]).three
  by_cases h0 : k = 1
  · have t0 : (k == 1) = true := by simpa using h0
    obtain ⟨d, t1⟩ : ∃ d, decide (nn ≤ l) = d := ⟨_, rfl⟩
    rw [decide_eq_true h0, t1]
    clear h0
    cases d with
    | true =>
      go_enter Tryz.func80, Tryz.ntmps80
      go_wp2
      go_ret
      exact ⟨rfl, hB⟩
    | false =>
      go_enter Tryz.func80, Tryz.ntmps80
      go_wp2
      go_ret
      exact ⟨rfl, hB⟩
  · have t0 : (k == 1) = false := by simpa using h0
    rw [decide_eq_false h0]
    go_enter Tryz.func80, Tryz.ntmps80
    go_wp2
    go_ret
    exact ⟨rfl, hB⟩

section
variable {base b n : Nat} {wh all : Bool} {K : Nat → Option Nat} {st : Vst} {w w0 : World} {A G : Nat → Prop} {t q s : Int}
set_option maxHeartbeats 1600000 in
theorem bnBegins_c (hn : n < 2 ^ 40) (p k l c : Int) (ok : Bool) (hI : infoOf n K t q s p st = (k, l, c, ok)) (h : (vOb base b n wh K).At w0 A G st w) :
    Calls Tryz.prog 81 #[.pointer (some ⟨b, 0, none⟩), .agg #[.int .i64 t, .int .i64 q, .int .i64 s], .int .i64 p] w fun e w' => e = .returned (.agg #[.int .i64 k, .int .i64 l, .int .i64 c]) ∧ (vOb base b n wh K).At w0 A G (getS n K st (pageI t q s p 0)) w' ∧ Stay G w w' := by
  have W0 := hidp (((WL.start h).new 23 #[.int .i64 t, .int .i64 q, .int .i64 s]).new 103 #[.int .i64 0, .int .i64 0, .int .i64 0])
  rw [World.size_alloc] at W0
  obtain ⟨x0, x1, x2⟩ := W0.out.h1.three
  obtain ⟨v, hv⟩ : ∃ v, getV n K st (pageI t q s p 0) = v := ⟨_, rfl⟩
  have hv32 : v < 2 ^ 32 := by rw [← hv]; exact vAt_lt h _
  have HI : Hid (infoG v = (k, l, c, ok)) := hidp (by rw [← hv]; exact hI)
  have HV := hidp hv
  clear h hI hv
  go_enter Tryz.func81, Tryz.ntmps81
  go_wp2_with fail
  refine (plInfo_c t q s p _).mono ?_; rintro e w1 ⟨rfl, hb⟩; have W1 := hidp (W0.out.keep hb); clear hb W0
  go_wp2_with fail
  refine (vGetA hn _ W1.out.at_).mono ?_; rintro e w2 ⟨rfl, h1, h2⟩; have W2 := hidp (W1.out.call h1 h2); clear h1 h2 W1; rw [HV.out]
  go_wp2_with fail
  refine (inGet_c v k l c ok hv32 HI.out _).mono ?_; rintro e w3 ⟨rfl, hb⟩; have W3 := hidp (W2.out.keep hb); clear hb W2
  have W4 := hidp (((((W3.out.alloc (.cells #[.int .i64 k, .int .i64 l, .int .i64 c] 103)).put 0 (.int .i64 k)).put 1 (.int .i64 l)).put 2 (.int .i64 c)))
  obtain ⟨y0, y1, y2⟩ := (Held.new w3 103 #[.int .i64 k, .int .i64 l, .int .i64 c]).three
  have hfz := (W3.out.alloc (.cells #[.int .i64 k, .int .i64 l, .int .i64 c] 103)).h0.thawed
  obtain ⟨z0, z1, z2⟩ := (W3.out.alloc (.cells #[.int .i64 k, .int .i64 l, .int .i64 c] 103)).h0.three
  obtain ⟨r0, r1, r2⟩ := W4.out.h0.three
  go_wp2
  refine bodyPost_ret (v := .agg #[.int .i64 k, .int .i64 l, .int .i64 c]) (by simp [results, Tryz.results81, go_sem, r0, r1, r2]) rfl ⟨rfl, ?_⟩
  exact W4.out.fin
end
end
section
section
variable {base b n : Nat} {wh all : Bool} {K : Nat → Option Nat} {st : Vst} {w w0 : World} {A G : Nat → Prop} {t q s : Int}

theorem bnAdd_off (p nn : Int) (hp : pgB q p = false) (h : (vOb base b n wh K).At w0 A G st w) :
    Calls Tryz.prog 87 #[.pointer (some ⟨b, 0, none⟩), .agg #[.int .i64 t, .int .i64 q, .int .i64 s], .int .i64 p, .int .i64 nn] w fun e w' => e = .returned (.tuple #[]) ∧ (vOb base b n wh K).At w0 A G (st) w' ∧ Stay G w w' := by
  have W0 := hidp ((WL.start h).new 23 #[.int .i64 t, .int .i64 q, .int .i64 s])
  obtain ⟨x0, x1, x2⟩ := W0.out.h0.three
  have HK := hidp hp
  clear hp
  clear h
  go_enter Tryz.func87, Tryz.ntmps87
  go_wp2_with fail
  refine (bnIsPage_c t q s p _).mono ?_; rintro e w1 ⟨rfl, hb⟩; have W1 := hidp (W0.out.keep hb); clear hb W0; rw [HK.out]
  obtain ⟨x0, x1, x2⟩ := W1.out.h0.three
  go_wp2
  (try simp only [Exit.inBlock, Exit.then])
  refine bodyPost_ret (results_none rfl _ _ _) rfl ?_
  exact ⟨rfl, W1.out.fin⟩

theorem bnAdd_low (k : Nat) (nn : Int) (hq : q ≤ 2147483648) (hk : pgB q (k : Int) = true) (h1 : nn < 1) (h : (vOb base b n wh K).At w0 A G st w) :
    Calls Tryz.prog 87 #[.pointer (some ⟨b, 0, none⟩), .agg #[.int .i64 t, .int .i64 q, .int .i64 s], .int .i64 (k : Int), .int .i64 nn] w fun e w' => e = .returned (.tuple #[]) ∧ (vOb base b n wh K).At w0 A G (st) w' ∧ Stay G w w' := by
  have W0 := hidp ((WL.start h).new 23 #[.int .i64 t, .int .i64 q, .int .i64 s])
  obtain ⟨x0, x1, x2⟩ := W0.out.h0.three
  have hk2 := (pgB_iff _ _).1 hk
  have hk31 : k < 2147483648 := by omega
  have sq : IntKind.i64.wrap (q - (k : Int)) = q - (k : Int) := i64_same (by omega) (by omega)
  have HK := hidp hk
  clear hk
  have t0 : decide (nn < (1 : Int)) = true := decide_eq_true (by omega)
  clear h
  go_enter Tryz.func87, Tryz.ntmps87
  go_wp2_with fail
  refine (bnIsPage_c t q s (k : Int) _).mono ?_; rintro e w1 ⟨rfl, hb⟩; have W1 := hidp (W0.out.keep hb); clear hb W0; rw [HK.out]
  obtain ⟨x0, x1, x2⟩ := W1.out.h0.three
  go_wp2
  (try simp only [Exit.inBlock, Exit.then])
  refine bodyPost_ret (results_none rfl _ _ _) rfl ?_
  exact ⟨rfl, W1.out.fin⟩

theorem bnAdd_high (k : Nat) (nn : Int) (hq : q ≤ 2147483648) (hk : pgB q (k : Int) = true) (h1 : 1 ≤ nn) (h2 : q - (k : Int) < nn) (h : (vOb base b n wh K).At w0 A G st w) :
    Calls Tryz.prog 87 #[.pointer (some ⟨b, 0, none⟩), .agg #[.int .i64 t, .int .i64 q, .int .i64 s], .int .i64 (k : Int), .int .i64 nn] w fun e w' => e = .returned (.tuple #[]) ∧ (vOb base b n wh K).At w0 A G (st) w' ∧ Stay G w w' := by
  have W0 := hidp ((WL.start h).new 23 #[.int .i64 t, .int .i64 q, .int .i64 s])
  obtain ⟨x0, x1, x2⟩ := W0.out.h0.three
  have hk2 := (pgB_iff _ _).1 hk
  have hk31 : k < 2147483648 := by omega
  have sq : IntKind.i64.wrap (q - (k : Int)) = q - (k : Int) := i64_same (by omega) (by omega)
  have HK := hidp hk
  clear hk
  have t0 : decide (nn < (1 : Int)) = false := decide_eq_false (by omega)
  have t1 : decide (q - (k : Int) < nn) = true := decide_eq_true (by omega)
  clear h
  go_enter Tryz.func87, Tryz.ntmps87
  go_wp2_with fail
  refine (bnIsPage_c t q s (k : Int) _).mono ?_; rintro e w1 ⟨rfl, hb⟩; have W1 := hidp (W0.out.keep hb); clear hb W0; rw [HK.out]
  obtain ⟨x0, x1, x2⟩ := W1.out.h0.three
  go_wp2
  (try simp only [Exit.inBlock, Exit.then])
  refine bodyPost_ret (results_none rfl _ _ _) rfl ?_
  exact ⟨rfl, W1.out.fin⟩

set_option maxHeartbeats 3200000 in
theorem bnAdd_yes (hn : n < 2 ^ 40) (k m : Nat) (hq : q ≤ 2147483648) (hk : pgB q (k : Int) = true) (h1 : 1 ≤ (m : Int)) (h2 : (m : Int) ≤ q - (k : Int)) (h : (vOb base b n wh K).At w0 A G st w) :
    Calls Tryz.prog 87 #[.pointer (some ⟨b, 0, none⟩), .agg #[.int .i64 t, .int .i64 q, .int .i64 s], .int .i64 (k : Int), .int .i64 (m : Int)] w fun e w' => e = .returned (.tuple #[]) ∧ (vOb base b n wh K).At w0 A G (addS n K t q s (k : Int) (m : Int) st) w' ∧ Stay G w w' := by
  have W0 := hidp ((WL.start h).new 23 #[.int .i64 t, .int .i64 q, .int .i64 s])
  obtain ⟨x0, x1, x2⟩ := W0.out.h0.three
  have t0 : decide ((m : Int) < (1 : Int)) = false := decide_eq_false (by omega)
  have t1 : decide (q - (k : Int) < (m : Int)) = false := decide_eq_false (by omega)
  have hm31 : m ≤ 2147483648 := by omega
  have sk : IntKind.u32.wrap ((k : Int) + 1) = ((k + 1 : Nat) : Int) := by have := wrap_nat32 (k + 1) (by omega); simpa using this
  have HIV := hidp (infoV_lt 1 (m : Int) 0)
  have HE : Hid (addS n K t q s (k : Int) (m : Int) st = pushI n K t q s (nthI 2 11 1 (ofI (m : Int))) (k : Int) (putS n (putS n st (pageI t q s (k : Int) 0) (infoV 1 (m : Int) 0)) (pageI t q s ((k : Int) + (m : Int) - 1) 1) (k + 1))) := hidp (addS_yes ⟨hk, h1, h2⟩)
  have hk2 := (pgB_iff _ _).1 hk
  have hk31 : k < 2147483648 := by omega
  have sq : IntKind.i64.wrap (q - (k : Int)) = q - (k : Int) := i64_same (by omega) (by omega)
  have HK := hidp hk
  clear hk
  clear h
  go_enter Tryz.func87, Tryz.ntmps87
  go_wp2_with fail
  refine (bnIsPage_c t q s (k : Int) _).mono ?_; rintro e w1 ⟨rfl, hb⟩; have W1 := hidp (W0.out.keep hb); clear hb W0; rw [HK.out]
  obtain ⟨x0, x1, x2⟩ := W1.out.h0.three
  go_wp2_with fail
  refine (inPut_c 1 (m : Int) 0 _).mono ?_; rintro e w2 ⟨rfl, hb⟩; have W2 := hidp (W1.out.keep hb); clear hb W1
  obtain ⟨x0, x1, x2⟩ := W2.out.h0.three
  go_wp2_with fail
  refine (plInfo_c t q s (k : Int) _).mono ?_; rintro e w3 ⟨rfl, hb⟩; have W3 := hidp (W2.out.keep hb); clear hb W2
  obtain ⟨x0, x1, x2⟩ := W3.out.h0.three
  go_wp2_with fail
  refine (vPutA hn _ _ HIV.out W3.out.at_).mono ?_; rintro e w4 ⟨rfl, h1, h2⟩; have W4 := hidp (W3.out.call h1 h2); clear h1 h2 W3
  obtain ⟨x0, x1, x2⟩ := W4.out.h0.three
  go_wp2_with fail
  refine (plFoot_c t q s ((k : Int) + (m : Int) - 1) _).mono ?_; rintro e w5 ⟨rfl, hb⟩; have W5 := hidp (W4.out.keep hb); clear hb W4
  obtain ⟨x0, x1, x2⟩ := W5.out.h0.three
  go_wp2_with fail
  refine (vPutA hn _ (k + 1) (by omega) W5.out.at_).mono ?_; rintro e w6 ⟨rfl, h1, h2⟩; have W6 := hidp (W5.out.call h1 h2); clear h1 h2 W5
  obtain ⟨x0, x1, x2⟩ := W6.out.h0.three
  go_wp2_with fail
  refine wp_region_held_drew (S := (fun w' => w'.cell? ⟨w.heap.size, 0, none⟩ = some (.int .i64 t) ∧ w'.cell? ⟨w.heap.size, 1, none⟩ = some (.int .i64 q) ∧ w'.cell? ⟨w.heap.size, 2, none⟩ = some (.int .i64 s))) (by kernel_rfl) ?_ (fun hHeld => ?_)
  · (try dsimp only)
    first | exact W6.out.drew.h0.three | exact W6.out.h0.three | exact W7.out.h0.three | exact hHeld
  refine tkz 0 ?_
  refine tkz 1 ?_
  refine tkz 2 ?_
  refine tkz 5 ?_
  refine wpAnyH_ready (rs := [3]) (by kernel_rfl) (by simp) ?_
  refine AllReadyH.cons (o := _) rfl (fun K hK => ?_) AllReadyH.nil
  go_simp
  refine (bnOf_c (m : Int) (by omega) (by omega) _).mono ?_; rintro e w9 ⟨rfl, rfl⟩
  refine hK.out _ _ ?_ (fun hHeld => ?_)
  · (try dsimp only)
    first | exact W6.out.drew.h0.three | exact W6.out.h0.three | exact W7.out.h0.three | exact hHeld
  clear hK K
  (try simp only [Act.put, gA, gB, gC, sA, sB, sC])
  refine wpAnyH_ready (rs := [4]) (by kernel_rfl) (by simp) ?_
  refine AllReadyH.cons (o := _) rfl (fun K hK => ?_) AllReadyH.nil
  go_simp
  refine (plBin_c (ofI (m : Int)) _).mono ?_; rintro e w9 ⟨rfl, rfl⟩
  refine hK.out _ _ ?_ (fun hHeld => ?_)
  · (try dsimp only)
    first | exact W6.out.drew.h0.three | exact W6.out.h0.three | exact W7.out.h0.three | exact hHeld
  clear hK K
  (try simp only [Act.put, gA, gB, gC, sA, sB, sC])
  refine wpAnyH_ready (rs := [6]) (by kernel_rfl) (by simp) ?_
  refine AllReadyH.cons (o := _) rfl (fun K hK => ?_) AllReadyH.nil
  go_simp
  refine (lkPush_c hn (by omega) (k : Int) W6.out.drew.at_).mono ?_; rintro e w7 ⟨rfl, h1, h2⟩; have W7 := hidp (W6.out.drew.call h1 h2); clear h1 h2 W6
  refine hK.out _ _ ?_ (fun hHeld => ?_)
  · (try dsimp only)
    first | exact W6.out.drew.h0.three | exact W6.out.h0.three | exact W7.out.h0.three | exact hHeld
  clear hK K
  (try simp only [Act.put, gA, gB, gC, sA, sB, sC])
  refine wpAnyH_done (by kernel_rfl) ?_ _
  obtain ⟨x0, x1, x2⟩ := W7.out.h0.three
  go_wp2
  go_end0
  exact ⟨rfl, by rw [HE.out]; exact W7.out.fin⟩

theorem bnAdd_c (hn : n < 2 ^ 40) (hq : q ≤ 2147483648) (p nn : Int) (h : (vOb base b n wh K).At w0 A G st w) :
    Calls Tryz.prog 87 #[.pointer (some ⟨b, 0, none⟩), .agg #[.int .i64 t, .int .i64 q, .int .i64 s], .int .i64 p, .int .i64 nn] w fun e w' => e = .returned (.tuple #[]) ∧ (vOb base b n wh K).At w0 A G (addS n K t q s p nn st) w' ∧ Stay G w w' := by
  cases hp : pgB q p with
  | false => rw [addS_no (by rw [hp]; simp)]; exact bnAdd_off p nn hp h
  | true =>
    have h1 := (pgB_iff _ _).1 hp
    obtain ⟨k, rfl⟩ := Int.eq_ofNat_of_zero_le h1.1
    by_cases h2 : nn < 1
    · rw [addS_no (by omega)]; exact bnAdd_low k nn hq hp h2 h
    · by_cases h3 : q - (k : Int) < nn
      · rw [addS_no (by omega)]; exact bnAdd_high k nn hq hp (by omega) h3 h
      · obtain ⟨m, rfl⟩ := Int.eq_ofNat_of_zero_le (show 0 ≤ nn by omega)
        exact bnAdd_yes hn k m hq hp (by omega) (by omega) h

theorem bnDrop_off (p : Int) (hp : pgB q p = false) (h : (vOb base b n wh K).At w0 A G st w) :
    Calls Tryz.prog 38 #[.pointer (some ⟨b, 0, none⟩), .agg #[.int .i64 t, .int .i64 q, .int .i64 s], .int .i64 p] w fun e w' => e = .returned (.int .i64 0) ∧ (vOb base b n wh K).At w0 A G (st) w' ∧ Stay G w w' := by
  have W0 := hidp ((WL.start h).new 23 #[.int .i64 t, .int .i64 q, .int .i64 s])
  obtain ⟨x0, x1, x2⟩ := W0.out.h0.three
  have HK := hidp hp
  clear hp
  clear h
  go_enter Tryz.func38, Tryz.ntmps38
  go_wp2_with fail
  refine (bnIsPage_c t q s p _).mono ?_; rintro e w1 ⟨rfl, hb⟩; have W1 := hidp (W0.out.keep hb); clear hb W0; rw [HK.out]
  obtain ⟨x0, x1, x2⟩ := W1.out.h0.three
  go_wp2
  go_ret
  exact ⟨rfl, W1.out.fin⟩

theorem bnDrop_none (hn : n < 2 ^ 40) (k : Nat) (hq : q ≤ 2147483648) (hk : pgB q (k : Int) = true) (kk l c : Int) (ok : Bool) (hI : infoOf n K t q s (k : Int) st = (kk, l, c, ok)) (h1 : kk ≠ 1) (h : (vOb base b n wh K).At w0 A G st w) :
    Calls Tryz.prog 38 #[.pointer (some ⟨b, 0, none⟩), .agg #[.int .i64 t, .int .i64 q, .int .i64 s], .int .i64 (k : Int)] w fun e w' => e = .returned (.int .i64 0) ∧ (vOb base b n wh K).At w0 A G (getS n K st (pageI t q s (k : Int) 0)) w' ∧ Stay G w w' := by
  have W0 := hidp ((WL.start h).new 23 #[.int .i64 t, .int .i64 q, .int .i64 s])
  obtain ⟨x0, x1, x2⟩ := W0.out.h0.three
  have hk2 := (pgB_iff _ _).1 hk
  have hk31 : k < 2147483648 := by omega
  have sq : IntKind.i64.wrap (q - (k : Int)) = q - (k : Int) := i64_same (by omega) (by omega)
  have HK := hidp hk
  clear hk
  have t0 : (kk == 1) = false := by simpa using h1
  have t1 : (kk != 1) = true := by simpa using h1
  have HI := hidp hI
  clear hI
  clear h
  go_enter Tryz.func38, Tryz.ntmps38
  go_wp2_with fail
  refine (bnIsPage_c t q s (k : Int) _).mono ?_; rintro e w1 ⟨rfl, hb⟩; have W1 := hidp (W0.out.keep hb); clear hb W0; rw [HK.out]
  obtain ⟨x0, x1, x2⟩ := W1.out.h0.three
  go_wp2_with fail
  refine (bnBegins_c hn (k : Int) kk l c ok HI.out W1.out.at_).mono ?_; rintro e w2 ⟨rfl, h1, h2⟩; have W2 := hidp (W1.out.call h1 h2); clear h1 h2 W1
  replace W2 := hidp (W2.out.new 103 #[.int .i64 kk, .int .i64 l, .int .i64 c])
  obtain ⟨x0, x1, x2⟩ := W2.out.h1.three
  obtain ⟨y0, y1, y2⟩ := W2.out.h0.three
  go_wp2
  go_ret
  exact ⟨rfl, W2.out.fin⟩

set_option maxHeartbeats 3200000 in
theorem bnDrop_yes (hn : n < 2 ^ 40) (k : Nat) (hq : q ≤ 2147483648) (hk : pgB q (k : Int) = true) (kk l c : Int) (ok : Bool) (hI : infoOf n K t q s (k : Int) st = (kk, l, c, ok)) (h1 : kk = 1) (hl0 : 0 ≤ l) (hl1 : l ≤ 1024) (h : (vOb base b n wh K).At w0 A G st w) :
    Calls Tryz.prog 38 #[.pointer (some ⟨b, 0, none⟩), .agg #[.int .i64 t, .int .i64 q, .int .i64 s], .int .i64 (k : Int)] w fun e w' => e = .returned (.int .i64 l) ∧ (vOb base b n wh K).At w0 A G (pullI n K t q s (nthI 2 11 1 (ofI l)) (k : Int) (getS n K st (pageI t q s (k : Int) 0))) w' ∧ Stay G w w' := by
  have W0 := hidp ((WL.start h).new 23 #[.int .i64 t, .int .i64 q, .int .i64 s])
  obtain ⟨x0, x1, x2⟩ := W0.out.h0.three
  have hk2 := (pgB_iff _ _).1 hk
  have hk31 : k < 2147483648 := by omega
  have sq : IntKind.i64.wrap (q - (k : Int)) = q - (k : Int) := i64_same (by omega) (by omega)
  have HK := hidp hk
  clear hk
  subst h1
  have HI := hidp hI
  clear hI
  clear h
  go_enter Tryz.func38, Tryz.ntmps38
  go_wp2_with fail
  refine (bnIsPage_c t q s (k : Int) _).mono ?_; rintro e w1 ⟨rfl, hb⟩; have W1 := hidp (W0.out.keep hb); clear hb W0; rw [HK.out]
  obtain ⟨x0, x1, x2⟩ := W1.out.h0.three
  go_wp2_with fail
  refine (bnBegins_c hn (k : Int) 1 l c ok HI.out W1.out.at_).mono ?_; rintro e w2 ⟨rfl, h1, h2⟩; have W2 := hidp (W1.out.call h1 h2); clear h1 h2 W1
  generalize hNI : w2.heap.size = NI at *
  replace W2 := hidp (W2.out.new 103 #[.int .i64 1, .int .i64 l, .int .i64 c])
  rw [hNI] at W2
  obtain ⟨x0, x1, x2⟩ := W2.out.h1.three
  obtain ⟨y0, y1, y2⟩ := W2.out.h0.three
  go_wp2_with fail
  refine wp_region_held_drew (S := (fun w' => w'.cell? ⟨w.heap.size, 0, none⟩ = some (.int .i64 t) ∧ w'.cell? ⟨w.heap.size, 1, none⟩ = some (.int .i64 q) ∧ w'.cell? ⟨w.heap.size, 2, none⟩ = some (.int .i64 s) ∧ w'.cell? ⟨NI, 1, none⟩ = some (.int .i64 l))) (by kernel_rfl) ?_ (fun hHeld => ?_)
  · (try dsimp only)
    first | exact ⟨W2.out.drew.h1.three.1, W2.out.drew.h1.three.2.1, W2.out.drew.h1.three.2.2, W2.out.drew.h0.three.2.1⟩ | exact ⟨W2.out.h1.three.1, W2.out.h1.three.2.1, W2.out.h1.three.2.2, W2.out.h0.three.2.1⟩ | exact ⟨W3.out.h1.three.1, W3.out.h1.three.2.1, W3.out.h1.three.2.2, W3.out.h0.three.2.1⟩ | exact hHeld
  refine tkz 0 ?_
  refine tkz 1 ?_
  refine tkz 2 ?_
  refine tkz 3 ?_
  refine tkz 6 ?_
  refine wpAnyH_ready (rs := [4]) (by kernel_rfl) (by simp) ?_
  refine AllReadyH.cons (o := _) rfl (fun K hK => ?_) AllReadyH.nil
  go_simp
  refine (bnOf_c l (by omega) (by omega) _).mono ?_; rintro e w9 ⟨rfl, rfl⟩
  refine hK.out _ _ ?_ (fun hHeld => ?_)
  · (try dsimp only)
    first | exact ⟨W2.out.drew.h1.three.1, W2.out.drew.h1.three.2.1, W2.out.drew.h1.three.2.2, W2.out.drew.h0.three.2.1⟩ | exact ⟨W2.out.h1.three.1, W2.out.h1.three.2.1, W2.out.h1.three.2.2, W2.out.h0.three.2.1⟩ | exact ⟨W3.out.h1.three.1, W3.out.h1.three.2.1, W3.out.h1.three.2.2, W3.out.h0.three.2.1⟩ | exact hHeld
  clear hK K
  (try simp only [Act.put, gA, gB, gC, sA, sB, sC])
  refine wpAnyH_ready (rs := [5]) (by kernel_rfl) (by simp) ?_
  refine AllReadyH.cons (o := _) rfl (fun K hK => ?_) AllReadyH.nil
  go_simp
  refine (plBin_c (ofI l) _).mono ?_; rintro e w9 ⟨rfl, rfl⟩
  refine hK.out _ _ ?_ (fun hHeld => ?_)
  · (try dsimp only)
    first | exact ⟨W2.out.drew.h1.three.1, W2.out.drew.h1.three.2.1, W2.out.drew.h1.three.2.2, W2.out.drew.h0.three.2.1⟩ | exact ⟨W2.out.h1.three.1, W2.out.h1.three.2.1, W2.out.h1.three.2.2, W2.out.h0.three.2.1⟩ | exact ⟨W3.out.h1.three.1, W3.out.h1.three.2.1, W3.out.h1.three.2.2, W3.out.h0.three.2.1⟩ | exact hHeld
  clear hK K
  (try simp only [Act.put, gA, gB, gC, sA, sB, sC])
  refine wpAnyH_ready (rs := [7]) (by kernel_rfl) (by simp) ?_
  refine AllReadyH.cons (o := _) rfl (fun K hK => ?_) AllReadyH.nil
  go_simp
  refine (lkPull_c hn (by omega) (k : Int) W2.out.drew.at_).mono ?_; rintro e w3 ⟨rfl, h1, h2⟩; have W3 := hidp (W2.out.drew.call h1 h2); clear h1 h2 W2
  refine hK.out _ _ ?_ (fun hHeld => ?_)
  · (try dsimp only)
    first | exact ⟨W2.out.drew.h1.three.1, W2.out.drew.h1.three.2.1, W2.out.drew.h1.three.2.2, W2.out.drew.h0.three.2.1⟩ | exact ⟨W2.out.h1.three.1, W2.out.h1.three.2.1, W2.out.h1.three.2.2, W2.out.h0.three.2.1⟩ | exact ⟨W3.out.h1.three.1, W3.out.h1.three.2.1, W3.out.h1.three.2.2, W3.out.h0.three.2.1⟩ | exact hHeld
  clear hK K
  (try simp only [Act.put, gA, gB, gC, sA, sB, sC])
  refine wpAnyH_done (by kernel_rfl) ?_ _
  obtain ⟨x0, x1, x2⟩ := W3.out.h1.three
  obtain ⟨y0, y1, y2⟩ := W3.out.h0.three
  go_wp2
  go_ret
  exact ⟨rfl, W3.out.fin⟩

theorem bnDrop_c (hn : n < 2 ^ 40) (hq : q ≤ 2147483648) (p : Int) (h : (vOb base b n wh K).At w0 A G st w) :
    Calls Tryz.prog 38 #[.pointer (some ⟨b, 0, none⟩), .agg #[.int .i64 t, .int .i64 q, .int .i64 s], .int .i64 p] w fun e w' => e = .returned (.int .i64 (dropV n K t q s p st)) ∧ (vOb base b n wh K).At w0 A G (dropS n K t q s p st) w' ∧ Stay G w w' := by
  unfold dropS dropV
  cases hp : pgB q p with
  | false => exact bnDrop_off p hp h
  | true =>
    have h1 := (pgB_iff _ _).1 hp
    obtain ⟨k, rfl⟩ := Int.eq_ofNat_of_zero_le h1.1
    obtain ⟨⟨kk, l, c, ok⟩, hI⟩ : ∃ x, infoOf n K t q s (k : Int) st = x := ⟨_, rfl⟩
    rw [hI]
    simp only [if_true]
    by_cases h2 : kk = 1
    · rw [if_pos h2, if_pos h2]
      have h3 : 0 ≤ l ∧ l ≤ 1024 := by
        unfold infoOf at hI
        rw [h2] at hI
        exact infoG_len hI
      exact bnDrop_yes hn k hq hp kk l c ok hI h2 h3.1 h3.2 h
    · rw [if_neg h2, if_neg h2]
      exact bnDrop_none hn k hq hp kk l c ok hI h2 h
end
end
section
section
variable {base b n : Nat} {wh all : Bool} {K : Nat → Option Nat} {st : Vst} {w w0 : World} {A G : Nat → Prop} {t q s : Int}
theorem bnFind_low (nn : Int) (h1 : nn < 1) (h : (vOb base b n wh K).At w0 A G st w) :
    Calls Tryz.prog 37 #[.pointer (some ⟨b, 0, none⟩), .agg #[.int .i64 t, .int .i64 q, .int .i64 s], .int .i64 nn] w fun e w' => e = .returned (.tuple #[.int .i64 (foundI (((none : Option Nat), st)).1), .bool (((none : Option Nat), st)).1.isSome]) ∧ (vOb base b n wh K).At w0 A G (((none : Option Nat), st)).2 w' ∧ Stay G w w' := by
  have W0 := hidp ((WL.start h).new 23 #[.int .i64 t, .int .i64 q, .int .i64 s])
  obtain ⟨x0, x1, x2⟩ := W0.out.h0.three
  have t0 : decide (nn < (1 : Int)) = true := decide_eq_true h1
  clear h
  go_enter Tryz.func37, Tryz.ntmps37
  go_wp2
  go_step3
  go_wp2

  (try rw [Exit.noGoto_ret]); (try change bodyPost _ _ _ _ _ _)
  go_ret2
  exact ⟨rfl, W0.out.fin⟩
theorem bnFind_high (nn : Int) (h1 : 1 ≤ nn) (h2 : q < nn) (h : (vOb base b n wh K).At w0 A G st w) :
    Calls Tryz.prog 37 #[.pointer (some ⟨b, 0, none⟩), .agg #[.int .i64 t, .int .i64 q, .int .i64 s], .int .i64 nn] w fun e w' => e = .returned (.tuple #[.int .i64 (foundI (((none : Option Nat), st)).1), .bool (((none : Option Nat), st)).1.isSome]) ∧ (vOb base b n wh K).At w0 A G (((none : Option Nat), st)).2 w' ∧ Stay G w w' := by
  have W0 := hidp ((WL.start h).new 23 #[.int .i64 t, .int .i64 q, .int .i64 s])
  obtain ⟨x0, x1, x2⟩ := W0.out.h0.three
  have t0 : decide (nn < (1 : Int)) = false := decide_eq_false (by omega)
  have t1 : decide (q < nn) = true := decide_eq_true h2
  clear h
  go_enter Tryz.func37, Tryz.ntmps37
  go_wp2
  go_step3
  go_wp2

  (try rw [Exit.noGoto_ret]); (try change bodyPost _ _ _ _ _ _)
  go_ret2
  exact ⟨rfl, W0.out.fin⟩

set_option maxHeartbeats 6400000 in
theorem bnFind_yes (hn : n < 2 ^ 40) (hq : q ≤ 1024) (nn : Int) (own : Nat) (ho : ofI nn = (own : Int)) (ho10 : own ≤ 10) (h1 : 1 ≤ nn) (h2 : nn ≤ q) (h : (vOb base b n wh K).At w0 A G st w) :
    Calls Tryz.prog 37 #[.pointer (some ⟨b, 0, none⟩), .agg #[.int .i64 t, .int .i64 q, .int .i64 s], .int .i64 nn] w fun e w' => e = .returned (.tuple #[.int .i64 (foundI (findF n K t q s nn own st).1), .bool (findF n K t q s nn own st).1.isSome]) ∧ (vOb base b n wh K).At w0 A G (findF n K t q s nn own st).2 w' ∧ Stay G w w' := by
  have W0 := hidp ((WL.start h).new 23 #[.int .i64 t, .int .i64 q, .int .i64 s])
  obtain ⟨x0, x1, x2⟩ := W0.out.h0.three
  have t0 : decide (nn < (1 : Int)) = false := decide_eq_false (by omega)
  have t1 : decide (q < nn) = false := decide_eq_false (by omega)
  have HO := hidp ho
  obtain ⟨Q, hQ⟩ : ∃ Q, q.toNat = Q := ⟨_, rfl⟩
  have HQ := hidp hQ
  have hQ1 : 1 ≤ Q ∧ Q ≤ 1024 := by omega
  have hqQ : ∀ l : Nat, ((l : Int) < q ↔ l < Q) := fun l => by omega
  have hqL : ∀ l : Nat, 1 ≤ l → ((l : Int) ≤ q ↔ l ≤ Q) := fun l h1 => by omega
  clear h ho hQ
  go_enter Tryz.func37, Tryz.ntmps37
  go_wp2_with fail
  go_step3
  go_wp2_with fail
  refine (bnOf_c nn (by omega) (by omega) _).mono ?_
  rintro e w9 ⟨rfl, rfl⟩
  rw [HO.out]
  go_wp2_with fail
  go_step3
  go_wp2_with fail
  go_loopw [8, 9, 11, 12, 13] (fun u8 u9 u11 _ _ wr => ∃ (k : Nat) (sx : Vst), u8 = .int .i64 0 ∧ u9 = .bool false ∧ own ≤ k ∧ k ≤ 11 ∧ u11 = .int .i64 (k : Int) ∧ Hid ((k = own ∧ sx = st) ∨ (own < k ∧ findF n K t q s nn own st = nextF n K q (11 - k) k sx)) ∧ Hid (WL (vOb base b n wh K) w0 A G w [⟨w.heap.size, 23, #[.int .i64 t, .int .i64 q, .int .i64 s]⟩] sx wr)) (fun _ _ u11 _ _ _ => 11 - (intOf u11).toNat)
  case atStart => exact ⟨own, st, rfl, rfl, by omega, by omega, rfl, hidp (.inl ⟨rfl, rfl⟩), W0⟩
  case round =>
    clear W0 x0 x1 x2
    obtain ⟨k, sx, rfl, rfl, hko, hk11, rfl, HS, W1⟩ := hrel
    obtain ⟨x0, x1, x2⟩ := W1.out.h0.three
    by_cases hk : k < 11
    · have t2 : decide ((k : Int) < 11) = true := decide_eq_true (by omega)
      obtain ⟨hd, hhd⟩ : ∃ hd : Nat, 2 + k = hd := ⟨_, rfl⟩
      have HHD := hidp hhd
      have HB : Hid (nthI 2 11 1 (k : Int) = (hd : Int)) := hidp (by rw [nth_on (by omega) (by omega) (by omega)]; omega)
      obtain ⟨l0, hl0⟩ : ∃ l, getV n K sx (hd : Int) = l := ⟨_, rfl⟩
      have hl32 : l0 < 2 ^ 32 := by rw [← hl0]; exact vWL_lt W1.out _
      have HL0 := hidp hl0
      clear hl0 hhd
      go_wp2_with fail
      refine (plBin_c (k : Int) _).mono ?_
      rintro e w9 ⟨rfl, rfl⟩
      rw [HB.out]
      go_wp2_with fail
      refine (vGetA hn _ W1.out.at_).mono ?_
      rintro e w2 ⟨rfl, a1, a2⟩
      rw [HL0.out]
      have W2 := hidp (W1.out.call a1 a2)
      clear a1 a2 W1 x0 x1 x2
      obtain ⟨x0, x1, x2⟩ := W2.out.h0.three
      by_cases hke : k = own
      · have hsx : sx = st := by
          rcases HS.out with ⟨_, e⟩ | ⟨e, _⟩
          · exact e
          · omega
        subst hsx
        subst hke
        have HFF : Hid (findF n K t q s nn k sx = match (lookF n K t q s nn Q l0 (getS n K sx (hd : Int))).1 with
            | some p => (some p, (lookF n K t q s nn Q l0 (getS n K sx (hd : Int))).2)
            | none => nextF n K q (11 - (k + 1)) (k + 1) (lookF n K t q s nn Q l0 (getS n K sx (hd : Int))).2) := hidp (by unfold findF; rw [HHD.out, HL0.out, HQ.out]; rfl)
        clear HS HL0 HB
        have t3 : decide ((k : Int) < (k : Int)) = false := decide_eq_false (by omega)
        generalize getS n K sx (hd : Int) = s0 at *
        go_wp2_with fail
        clear x0 x1 x2
        go_loopw [8, 9, 12, 13, 35] (fun u8 u9 u12 _ u35 wr => ∃ (m l : Nat) (sy : Vst), u8 = .int .i64 0 ∧ u9 = .bool false ∧ m ≤ Q ∧ u35 = .int .i64 (m : Int) ∧ u12 = .int .u32 (l : Int) ∧ l < 2 ^ 32 ∧ Hid (lookF n K t q s nn Q l0 s0 = lookF n K t q s nn (Q - m) l sy) ∧ Hid (WL (vOb base b n wh K) w0 A G w [⟨w.heap.size, 23, #[.int .i64 t, .int .i64 q, .int .i64 s]⟩] sy wr)) (fun _ _ _ _ u35 _ => Q - (intOf u35).toNat)
        case atStart => exact ⟨0, l0, _, rfl, rfl, by omega, by go_num, rfl, hl32, hidp rfl, W2⟩
        case round =>
          clear W2
          obtain ⟨m, l, sy, rfl, rfl, hm, rfl, rfl, hl, HLK, W3⟩ := hrel
          obtain ⟨x0, x1, x2⟩ := W3.out.h0.three
          by_cases hmQ : m < Q
          · have t4 : decide ((m : Int) < q) = true := decide_eq_true ((hqQ m).2 hmQ)
            obtain ⟨j, hj⟩ : ∃ j, Q - m = j + 1 := ⟨Q - m - 1, by omega⟩
            have HJ : Hid (Q - (m + 1) = j) := hidp (by omega)
            replace HLK : Hid (lookF n K t q s nn Q l0 s0 = lookF n K t q s nn (j + 1) l sy) := hidp (by rw [← hj]; exact HLK.out)
            clear hj
            by_cases hp : 1 ≤ l ∧ l ≤ Q
            · have HPG : Hid (pgB q ((l : Int) - 1) = true) := hidp ((pgB_iff _ _).2 ⟨by omega, by have := (hqQ (l - 1)).2 (by omega); omega⟩)
              have HPP : Hid (1 ≤ l ∧ (l : Int) ≤ q) := hidp ⟨hp.1, (hqL l hp.1).2 hp.2⟩
              obtain ⟨⟨kk, ll, cc, okk⟩, hI⟩ : ∃ x, infoOf n K t q s ((l : Int) - 1) sy = x := ⟨_, rfl⟩
              have HI := hidp hI
              obtain ⟨fb, hfb⟩ : ∃ fb, (decide (kk = 1) && decide (nn ≤ ll)) = fb := ⟨_, rfl⟩
              have HFB := hidp hfb
              have HFT : Hid (fitB nn (getV n K sy (pageI t q s ((l : Int) - 1) 0)) = fb) := hidp (by
                unfold infoOf at hI
                unfold fitB
                rw [hI]
                exact hfb)
              clear hI hfb
              go_wp2_with fail
              refine (bnIsPage_c t q s ((l : Int) - 1) _).mono ?_; rintro e w4 ⟨rfl, hb⟩; have W4 := hidp (W3.out.keep hb); clear hb W3; rw [HPG.out]
              clear x0 x1 x2
              obtain ⟨x0, x1, x2⟩ := W4.out.h0.three
              go_wp2_with fail
              refine (bnBegins_c hn ((l : Int) - 1) kk ll cc okk HI.out W4.out.at_).mono ?_; rintro e w5 ⟨rfl, a1, a2⟩; have W5 := hidp (W4.out.call a1 a2); clear a1 a2 W4
              clear x0 x1 x2
              obtain ⟨x0, x1, x2⟩ := W5.out.h0.three
              go_wp2_with fail
              refine (bnIsLong_c kk ll cc nn _).mono ?_; rintro e w6 ⟨rfl, hb⟩; have W6 := hidp (W5.out.keep hb); clear hb W5; rw [HFB.out]
              clear x0 x1 x2 HFB
              obtain ⟨x0, x1, x2⟩ := W6.out.h0.three
              cases fb with
              | true =>
                have HFIN : Hid (findF n K t q s nn k sx = (some (l - 1), getS n K sy (pageI t q s ((l : Int) - 1) 0))) := hidp (by rw [HFF.out, HLK.out, lookF_found n K t q s nn HPP.out HFT.out])
                have HPL : Hid (Value.int .i64 ((l : Int) - 1) = Value.int .i64 ((l - 1 : Nat) : Int)) := hidp (by congr 1; omega)
                clear HFF HLK HFT HI
                go_wp2_with fail
                (try rw [Exit.noGoto_ret]); (try change bodyPost _ _ _ _ _ _)
                go_ret2
                exact ⟨by rw [HFIN.out]; show Ending.returned (.tuple #[.int .i64 ((l : Int) - 1), .bool true]) = _; rw [HPL.out]; rfl, by rw [HFIN.out]; exact W6.out.fin⟩
              | false =>
                obtain ⟨v, hv⟩ : ∃ v, getV n K (getS n K sy (pageI t q s ((l : Int) - 1) 0)) (pageI t q s ((l : Int) - 1) 2) = v := ⟨_, rfl⟩
                have hv32 : v < 2 ^ 32 := by rw [← hv]; exact vWL_lt W6.out _
                have HV := hidp hv
                have HLK2 : Hid (lookF n K t q s nn Q l0 s0 = lookF n K t q s nn (Q - (m + 1)) v (getS n K (getS n K sy (pageI t q s ((l : Int) - 1) 0)) (pageI t q s ((l : Int) - 1) 2))) := hidp (by rw [HLK.out, lookF_step n K t q s nn HPP.out HFT.out, HV.out, HJ.out])
                clear hv HLK HFT HI
                go_wp2_with fail
                refine (plNext_c t q s ((l : Int) - 1) _).mono ?_; rintro e w7 ⟨rfl, hb⟩; have W7 := hidp (W6.out.keep hb); clear hb W6
                go_wp2_with fail
                refine (vGetA hn _ W7.out.at_).mono ?_; rintro e w8 ⟨rfl, a1, a2⟩; have W8 := hidp (W7.out.call a1 a2); clear a1 a2 W7; rw [HV.out]
                clear x0 x1 x2
                go_wp2_with fail
                go_roundw
                case rel => exact ⟨m + 1, v, _, rfl, rfl, by omega, by go_num, by go_num, hv32, HLK2, W8⟩
                case measure => simp [intOf]; omega
            · have HPG : Hid (pgB q ((l : Int) - 1) = false) := hidp (by
                cases hc : pgB q ((l : Int) - 1) with
                | false => rfl
                | true =>
                  have h3 := (pgB_iff _ _).1 hc
                  exact absurd (⟨by omega, (hqL l (by omega)).1 (by omega)⟩ : 1 ≤ l ∧ l ≤ Q) hp)
              have HNX : Hid ((k + 1 = k ∧ sy = sx) ∨ (k < k + 1 ∧ findF n K t q s nn k sx = nextF n K q (11 - (k + 1)) (k + 1) sy)) := hidp (.inr ⟨by omega, by
                have h3 : ¬ (1 ≤ l ∧ (l : Int) ≤ q) := fun h4 => hp ⟨h4.1, (hqL l h4.1).1 h4.2⟩
                rw [HFF.out, HLK.out, lookF_end n K t q s nn h3]⟩)
              clear HFF HLK
              go_wp2_with fail
              refine (bnIsPage_c t q s ((l : Int) - 1) _).mono ?_; rintro e w4 ⟨rfl, hb⟩; have W4 := hidp (W3.out.keep hb); clear hb W3; rw [HPG.out]
              clear x0 x1 x2
              go_wp2_with fail
              go_roundw
              case rel => exact ⟨k + 1, _, rfl, rfl, by omega, by omega, by go_num, HNX, W4⟩
              case measure => simp [intOf]; omega
          · have t4 : decide ((m : Int) < q) = false := decide_eq_false (fun h3 => hmQ ((hqQ m).1 h3))
            have HNX : Hid ((k + 1 = k ∧ sy = sx) ∨ (k < k + 1 ∧ findF n K t q s nn k sx = nextF n K q (11 - (k + 1)) (k + 1) sy)) := hidp (.inr ⟨by omega, by
                rw [HFF.out, HLK.out, show Q - m = 0 by omega]
                rfl⟩)
            clear HFF HLK
            go_wp2_with fail
            go_roundw
            case rel => exact ⟨k + 1, _, rfl, rfl, by omega, by omega, by go_num, HNX, W3⟩
            case measure => simp [intOf]; omega
      · have hkl : own < k := by omega
        have HFF : Hid (findF n K t q s nn own st = nextF n K q (11 - k) k sx) := hidp (by
          rcases HS.out with ⟨e, _⟩ | ⟨_, e⟩
          · omega
          · exact e)
        obtain ⟨j, hj⟩ : ∃ j, 11 - k = j + 1 := ⟨10 - k, by omega⟩
        have HJ : Hid (11 - (k + 1) = j) := hidp (by omega)
        rw [hj] at HFF
        have t3 : decide ((own : Int) < (k : Int)) = true := decide_eq_true (by omega)
        have t4 : decide ((0 : Int) < q) = true := decide_eq_true (by omega)
        clear HS HB hj hke
        go_wp2_with fail
        clear x0 x1 x2
        go_loopw [8, 9, 12, 13, 35] (fun u8 u9 u12 _ u35 wr => u8 = .int .i64 0 ∧ u9 = .bool false ∧ u35 = .int .i64 0 ∧ u12 = .int .u32 (l0 : Int) ∧ Hid (WL (vOb base b n wh K) w0 A G w [⟨w.heap.size, 23, #[.int .i64 t, .int .i64 q, .int .i64 s]⟩] (getS n K sx (hd : Int)) wr)) (fun _ _ _ _ _ _ => 0)
        case atStart => exact ⟨rfl, rfl, by go_num, rfl, W2⟩
        case round =>
          clear W2
          obtain ⟨rfl, rfl, rfl, rfl, W3⟩ := hrel
          obtain ⟨x0, x1, x2⟩ := W3.out.h0.three
          by_cases hp : 1 ≤ l0 ∧ l0 ≤ Q
          · have HPG : Hid (pgB q ((l0 : Int) - 1) = true) := hidp ((pgB_iff _ _).2 ⟨by omega, by have := (hqQ (l0 - 1)).2 (by omega); omega⟩)
            have HFIN : Hid (findF n K t q s nn own st = (some (l0 - 1), getS n K sx (hd : Int))) := hidp (by rw [HFF.out, nextF_found n K q (by rw [HHD.out, HL0.out]; exact ⟨hp.1, (hqL l0 hp.1).2 hp.2⟩), HHD.out, HL0.out])
            have HPL : Hid (Value.int .i64 ((l0 : Int) - 1) = Value.int .i64 ((l0 - 1 : Nat) : Int)) := hidp (by congr 1; omega)
            clear HFF HL0
            go_wp2_with fail
            refine (bnIsPage_c t q s ((l0 : Int) - 1) _).mono ?_; rintro e w4 ⟨rfl, hb⟩; have W4 := hidp (W3.out.keep hb); clear hb W3; rw [HPG.out]
            clear x0 x1 x2
            go_wp2_with fail
            (try rw [Exit.noGoto_ret]); (try change bodyPost _ _ _ _ _ _)
            go_ret2
            exact ⟨by rw [HFIN.out]; show Ending.returned (.tuple #[.int .i64 ((l0 : Int) - 1), .bool true]) = _; rw [HPL.out]; rfl, by rw [HFIN.out]; exact W4.out.fin⟩
          · have HPG : Hid (pgB q ((l0 : Int) - 1) = false) := hidp (by
              cases hc : pgB q ((l0 : Int) - 1) with
              | false => rfl
              | true =>
                have h3 := (pgB_iff _ _).1 hc
                exact absurd (⟨by omega, (hqL l0 (by omega)).1 (by omega)⟩ : 1 ≤ l0 ∧ l0 ≤ Q) hp)
            have HNX : Hid ((k + 1 = own ∧ getS n K sx (hd : Int) = st) ∨ (own < k + 1 ∧ findF n K t q s nn own st = nextF n K q (11 - (k + 1)) (k + 1) (getS n K sx (hd : Int)))) := hidp (.inr ⟨by omega, by
              rw [HFF.out, nextF_step n K q (by rw [HHD.out, HL0.out]; exact fun h4 => hp ⟨h4.1, (hqL l0 h4.1).1 h4.2⟩), HHD.out, HJ.out]⟩)
            clear HFF HL0
            go_wp2_with fail
            refine (bnIsPage_c t q s ((l0 : Int) - 1) _).mono ?_; rintro e w4 ⟨rfl, hb⟩; have W4 := hidp (W3.out.keep hb); clear hb W3; rw [HPG.out]
            clear x0 x1 x2
            go_wp2_with fail
            go_roundw
            case rel => exact ⟨k + 1, _, rfl, rfl, by omega, by omega, by go_num, HNX, W4⟩
            case measure => simp [intOf]; omega
    · have t2 : decide ((k : Int) < 11) = false := decide_eq_false (by omega)
      have HFIN : Hid (findF n K t q s nn own st = (none, sx)) := hidp (by
        rcases HS.out with ⟨e, _⟩ | ⟨_, e⟩
        · omega
        · rw [e, show 11 - k = 0 by omega]
          rfl)
      go_wp2_with fail
      (try rw [Exit.noGoto_ret]); (try change bodyPost _ _ _ _ _ _)
      go_ret2
      exact ⟨by rw [HFIN.out]; rfl, by rw [HFIN.out]; exact W1.out.fin⟩

theorem bnFind_c (hn : n < 2 ^ 40) (hq : q ≤ 1024) (nn : Int) (h : (vOb base b n wh K).At w0 A G st w) :
    Calls Tryz.prog 37 #[.pointer (some ⟨b, 0, none⟩), .agg #[.int .i64 t, .int .i64 q, .int .i64 s], .int .i64 nn] w fun e w' => e = .returned (.tuple #[.int .i64 (foundI (findI n K t q s nn st).1), .bool (findI n K t q s nn st).1.isSome]) ∧ (vOb base b n wh K).At w0 A G (findI n K t q s nn st).2 w' ∧ Stay G w w' := by
  by_cases h1 : nn < 1
  · rw [findI_no (by omega)]; exact bnFind_low nn h1 h
  · by_cases h2 : q < nn
    · rw [findI_no (by omega)]; exact bnFind_high nn (by omega) h2 h
    · obtain ⟨m, rfl⟩ := Int.eq_ofNat_of_zero_le (show 0 ≤ nn by omega)
      obtain ⟨own, ho, ho10, _⟩ := ofI_nat (n := m) (by omega) (by omega)
      rw [findI_yes ho (by omega) (by omega)]
      exact bnFind_yes hn hq (m : Int) own ho ho10 (by omega) (by omega) h
end
end
section
theorem own_lower {w : World} {base base' : Nat} {e : TypeId} {size n : Nat} {v : Value} {xs : List Value} (h : w.ownsRow base e size v n xs) (hb : base' ≤ base) : w.ownsRow base' e size v n xs := by
  refine ⟨h.1, ?_⟩
  rcases h.2 with h2 | ⟨g, cap, cur, rfl, hbg, hg, hr⟩
  · exact .inl h2
  · exact .inr ⟨g, cap, cur, rfl, Nat.le_trans hb hbg, hg, hr⟩

section
variable {O : Ob} {w0 ws w w' : World} {A G : Nat → Prop} {N : Nat} {T : TypeId} {cs : Array Value} {base : Nat} {u : Value} {nl : Nat} {xs : List Value} {st s' : Vst}
theorem WK.put (h : WK O w0 A G ws N T cs st w) (hn : ws.heap.size ≤ N) (i : Nat) (v : Value) : WK O w0 A G ws N T (cs.setIfInBounds i v) st (w.setCell ⟨N, i, none⟩ v) :=
  ⟨h.at_.put (p := ⟨N, i, none⟩) (.inr rfl) v, h.held.put i v, ⟨by simp; exact h.stay.1, fun g hg hl => (Below.heap_setCell w ⟨N, i, none⟩ v g (fun e2 => by have e2 : g = N := e2; omega)).trans (h.stay.2 g hg hl)⟩⟩
theorem WK.next {T' : TypeId} {cs' : Array Value} (h : WK O w0 A G ws N T cs st w) (h0 : Held ws N T cs) : WK O w0 A (And1 G N) ws w.heap.size T' cs' st (w.alloc (.cells cs' T')) :=
  ⟨h.at_.box _, Held.new _ _ _, (Stay.trans ⟨h.stay.1, fun g hg hl => by
    rcases hg with x | rfl
    · exact h.stay.2 g x hl
    · exact h.held.trans h0.symm⟩ (Stay.of_below (Bnew (B0 w) _) _))⟩
theorem WK.less {N' : Nat} (h : WK O w0 A (And1 G N') ws N T cs st w) : WK O w0 A G ws N T cs st w :=
  ⟨h.at_.less (fun g x => by
    rcases x with x | x
    · exact .inl (.inl x)
    · exact .inr x), h.held, h.stay.less (fun g x => .inl x)⟩
theorem heldOwn_ne {t e : TypeId} {size : Nat} {v : Value} {g : Nat} (h : Held w g t cs) (ho : w.ownsRow base e size v nl xs) (hne : t ≠ e) : v.ownBlock ≠ some g := by
  intro hv
  rcases ho.2 with ⟨rfl, _⟩ | ⟨g', cap, cur, rfl, hb, hg, _⟩
  · simp [Value.ownBlock] at hv
  · have : g' = g := by simpa [Value.ownBlock] using hv
    subst this
    unfold Held at h
    rw [h] at hg
    injection hg with hg
    injection hg with _ h2
    exact hne h2
end
end
section
structure Duo (W : World) (O1 O2 : Ob) (A B G : Nat → Prop) (s1 s2 : Vst) (w : World) : Prop where
  i1 : O1.I w s1 A
  i2 : O2.I w s2 B
  ab : ∀ i, A i → ¬ B i
  aG : ∀ g, G g → g < w.heap.size ∧ ¬ A g ∧ ¬ B g
  lo : ∀ i, A i ∨ B i → W.heap.size ≤ i
  bel : Below W.heap.size W w
def noOb : Ob where
  I _ _ A := ∀ i, ¬ A i
  lt h i hi := absurd hi (h i)
  turns h _ _ := h

section
variable {W w w' : World} {O1 O2 : Ob} {A B G : Nat → Prop} {s1 s2 s' : Vst}
theorem Duo.left1 (h : Duo W O1 O2 A B G s1 s2 w) (hl : O1.Left w A s' w') : ∃ A', Duo W O1 O2 A' B G s' s2 w' ∧ Stay G w w' := by
  obtain ⟨A', k1, k2, k3⟩ := hl
  have hs := h.bel.size
  refine ⟨A', ⟨k1, O2.turns h.i2 k3 (fun i hi ha => h.ab i ha hi), fun i hi hb => ?_, fun g hg => ⟨Nat.lt_of_lt_of_le (h.aG g hg).1 k3.size, fun x => ?_, (h.aG g hg).2.2⟩, fun i hi => ?_, k3.below h.bel (fun i hi => h.lo i (.inl hi))⟩, ⟨k3.size, fun g hg hl => k3.block g hl (h.aG g hg).2.1⟩⟩
  · rcases k2 i hi with h1 | h1
    · exact h.ab i h1 hb
    · have := O2.lt h.i2 i hb; omega
  · rcases k2 g x with h1 | h1
    · exact (h.aG g hg).2.1 h1
    · have := (h.aG g hg).1; omega
  · rcases hi with hi | hi
    · rcases k2 i hi with h1 | h1
      · exact h.lo i (.inl h1)
      · omega
    · exact h.lo i (.inr hi)
theorem Duo.swap (h : Duo W O1 O2 A B G s1 s2 w) : Duo W O2 O1 B A G s2 s1 w := ⟨h.i2, h.i1, fun i hb ha => h.ab i ha hb, fun g hg => ⟨(h.aG g hg).1, (h.aG g hg).2.2, (h.aG g hg).2.1⟩, fun i hi => h.lo i hi.symm, h.bel⟩
theorem Duo.keep (h : Duo W O1 O2 A B G s1 s2 w) (hb : Below w.heap.size w w') : Duo W O1 O2 A B G s1 s2 w' :=
  ⟨Ob.keep h.i1 hb, Ob.keep h.i2 hb, h.ab, fun g hg => ⟨Nat.lt_of_lt_of_le (h.aG g hg).1 hb.size, (h.aG g hg).2⟩, h.lo, Bgo h.bel hb⟩
theorem Duo.grown {row : Option Nat} {G' : Nat → Prop} (h : Duo W O1 O2 A B G s1 s2 w) (hg : w.grownBy w' row) (hr : ∀ g, row = some g → G g ∧ W.heap.size ≤ g) (hG : ∀ g, G' g → G g ∨ (w.heap.size ≤ g ∧ g < w'.heap.size)) : Duo W O1 O2 A B G' s1 s2 w' := by
  have ht : Turns (fun i => row = some i) w w' := ⟨hg.os, hg.tape, hg.output, hg.size, fun i hi hn => hg.block i hi (fun e => hn e.symm)⟩
  refine ⟨O1.turns h.i1 ht (fun i hi e => (h.aG i (hr i e).1).2.1 hi), O2.turns h.i2 ht (fun i hi e => (h.aG i (hr i e).1).2.2 hi), h.ab, fun g x => ?_, h.lo, ht.below h.bel (fun i e => (hr i e).2)⟩
  rcases hG g x with h1 | h1
  · exact ⟨Nat.lt_of_lt_of_le (h.aG g h1).1 hg.size, (h.aG g h1).2⟩
  · exact ⟨h1.2, fun y => by have := O1.lt h.i1 g y; omega, fun y => by have := O2.lt h.i2 g y; omega⟩
theorem Duo.less {G' : Nat → Prop} (h : Duo W O1 O2 A B G s1 s2 w) (hg : ∀ g, G' g → G g) : Duo W O1 O2 A B G' s1 s2 w := { h with aG := fun g x => h.aG g (hg g x) }
theorem Duo.at1 (h : Duo W O1 O2 A B G s1 s2 w) : O1.At w A (fun _ => False) s1 w := Ob.At.start h.i1
theorem duo_made {b n base : Nat} {wh : Bool} {o : VGeo} {K : Nat → Option Nat} {s : Vst} (hI : IsView w base b n wh o K s) (hb : W.heap.size ≤ base) (hB : Below W.heap.size W w) (hG : ∀ g, G g → g < w.heap.size ∧ ¬ o.A b g) :
    Duo W (vOb base b n wh K) noOb (o.A b) (fun _ => False) G s freshS w :=
  ⟨⟨o, hI, rfl⟩, fun _ x => x, fun _ _ x => x, fun g hg => ⟨(hG g hg).1, (hG g hg).2, fun x => x⟩, fun i hi => by
    rcases hi with hi | hi
    · exact Nat.le_trans hb (hI.ge i hi)
    · exact hi.elim, hB⟩
end
end
section
theorem few14_c (t q s : Int) (w : World) : Calls Tryz.prog 7 #[.agg #[.int .i64 t, .int .i64 q, .int .i64 s]] w fun e w' => e = .returned (.bool (decide (q ≤ 64))) ∧ Below w.heap.size w w' := by
  go_enter Tryz.func7, Tryz.ntmps7
  go_wp2
  go_ret
  exact ⟨rfl, Bnew (B0 _) _⟩
theorem make82 (w : World) : (Instr.makeSlice 24 (.int .i64 82) (.int .i64 82)).run Tryz.prog w = .ok (.slice (some ⟨w.heap.size, 0, none⟩) 82 82) (w.alloc (.cells (Array.replicate 82 (.int .u32 0)) 58)) := by kernel_rfl
def ex14L : List Nat := ((((List.replicate 82 0).set 0 8).set 5 1).set 34 129).set 77 1
def ex14C : Array Value := ((((Array.replicate 82 (Value.int .u32 0)).setIfInBounds 0 (.int .u32 8)).setIfInBounds 5 (.int .u32 1)).setIfInBounds 34 (.int .u32 129)).setIfInBounds 77 (.int .u32 1)
theorem ex14_eq : ex14C.toList = valVs ex14L := by
  unfold ex14C ex14L valVs
  simp only [Array.toList_setIfInBounds, Array.toList_replicate, List.map_set, List.map_replicate]
  rfl
def ex14K : Nat → Option Nat := fun i => ex14L[i]?
set_option maxHeartbeats 1600000 in
theorem Eight14_c (w : World) : Calls Tryz.prog 33 #[] w fun e w' => ∃ g, e = .returned (.tuple #[.agg #[.int .i64 1, .int .i64 8, .int .i64 10], .slice (some ⟨g, 0, none⟩) 82 82]) ∧ Held w' g 58 ex14C ∧ Below w.heap.size w w' := by
  have hmk := make82
  have HC := (Held.new w 23 #[.int .i64 0, .int .i64 0, .int .i64 0]).alloc (.cells (Array.replicate 82 (.int .u32 0)) 58)
  have HG := Held.new2 w (.cells #[.int .i64 0, .int .i64 0, .int .i64 0] 23) 58 (Array.replicate 82 (.int .u32 0))
  have g0 : _ = some (Value.int .u32 0) := (HG.cell 0).trans (by simp)
  have g1 : _ = some (Value.int .u32 0) := (HG.cell 5).trans (by simp)
  have g2 : _ = some (Value.int .u32 0) := (HG.cell 34).trans (by simp)
  have g3 : _ = some (Value.int .u32 0) := (HG.cell 77).trans (by simp)
  have f0 := HG.thawed
  obtain ⟨c0, c1, c2⟩ := HC.three
  have f1 := HC.thawed
  clear HC HG
  go_enter Tryz.func33, Tryz.ntmps33
  go_wp2
  refine bodyPost_ret (v := .tuple #[.agg #[.int .i64 1, .int .i64 8, .int .i64 10], .slice (some ⟨w.heap.size + 1, 0, none⟩) 82 82]) (by simp [results, Tryz.results33, go_sem]) rfl ⟨w.heap.size + 1, rfl, ?_, ?_⟩
  · unfold ex14C
    exact Held.new2 w (.cells #[.int .i64 1, .int .i64 8, .int .i64 10] 23) 58 _
  · exact Bnew (Bnew (B0 w) _) _
end
end Go.Proofs.YtnamlhkccgnbfaaGreat

namespace Go.Proofs.YtnamlhkccgnbfaaGreat
open Go.ChangeShapes Go.WideShapes Go.ChangeAt Go.RowKit
set_option linter.unusedVariables false
section
theorem put_new (x a v : Nat) (ha : a + 16 ≤ 64) (hx : x < 2 ^ a) (hv : v < 65536) : HM.putN x a 16 v = x + v * 2 ^ a := by
  have hx64 : x < 2 ^ 64 := Nat.lt_of_lt_of_le hx (Nat.pow_le_pow_right (by omega) (by omega))
  have h1 : x + v * 2 ^ a = 2 ^ a * v + x := by rw [Nat.mul_comm, Nat.add_comm]
  have hlt : 2 ^ a * v + x < 2 ^ 64 := by
    have e : (2 : Nat) ^ 64 = 2 ^ a * 2 ^ (64 - a) := by rw [← Nat.pow_add]; congr 1; omega
    have e2 : (2 : Nat) ^ 16 ≤ 2 ^ (64 - a) := Nat.pow_le_pow_right (by omega) (by omega)
    have e3 : 2 ^ a * (v + 1) ≤ 2 ^ a * 2 ^ (64 - a) := Nat.mul_le_mul_left _ (by omega)
    rw [Nat.mul_succ] at e3
    rw [e]
    omega
  rw [h1]
  apply Nat.eq_of_testBit_eq
  intro i
  by_cases hi : i < 64
  · rw [HM.bit_putN x a 16 v i ha hv hi, Nat.testBit_two_pow_mul_add _ hx]
    by_cases h2 : i < a
    · rw [if_neg (by omega), if_pos h2]
    · rw [if_neg h2]
      by_cases h3 : i < a + 16
      · rw [if_pos ⟨by omega, h3⟩]
      · rw [if_neg (by omega), Nat.testBit_lt_two_pow (Nat.lt_of_lt_of_le hx (Nat.pow_le_pow_right (by omega) (by omega))), Nat.testBit_lt_two_pow (Nat.lt_of_lt_of_le hv (show 65536 ≤ 2 ^ (i - a) from Nat.pow_le_pow_right (n := 2) (by omega) (show 16 ≤ i - a by omega)))]
  · rw [HM.bit_high (HM.putN_lt x a 16 v ha hv) (by omega), HM.bit_high hlt (by omega)]
end
end Go.Proofs.YtnamlhkccgnbfaaGreat

namespace Go.Proofs.YtnamlhkccgnbfaaGreat
open Go.ChangeShapes Go.WideShapes Go.ChangeAt Go.RowKit
set_option linter.unusedVariables false
set_option linter.unusedSimpArgs false
section
theorem r5Slots_c (k : Int) (h0 : -9223372036854775808 ≤ k) (h1 : k ≤ 9223372036854775807) (w : World) :
    Calls Tryz.prog 103 #[.int .i64 k] w fun e w' => e = .returned (.int .i64 ((slotI k : Nat) : Int)) ∧ w = w' := by
  by_cases a : 0 ≤ k ∧ k < 9
  · obtain ⟨k, rfl⟩ : ∃ n : Nat, k = n := ⟨k.toNat, by omega⟩
    have hk : k < 9 := by omega
    clear a h0 h1
    match k, hk with
    | 0, _ | 1, _ | 2, _ | 3, _ | 4, _ | 5, _ | 6, _ | 7, _ | 8, _ =>
      go_enter Tryz.func103, Tryz.ntmps103
      go_wp2
      go_ret
      exact ⟨rfl, rfl⟩
  · have E := hidp (slotI_out (k := k) (by omega))
    have e0 : (k == 0) = false := by simp; omega
    have e1 : (k == 1) = false := by simp; omega
    have e2 : (k == 2) = false := by simp; omega
    have e3 : (k == 3) = false := by simp; omega
    have e4 : (k == 4) = false := by simp; omega
    have e5 : (k == 5) = false := by simp; omega
    have e6 : (k == 6) = false := by simp; omega
    have e7 : (k == 7) = false := by simp; omega
    have e8 : (k == 8) = false := by simp; omega
    go_enter Tryz.func103, Tryz.ntmps103
    go_wp2
    go_ret
    exact ⟨by rw [E.out]; rfl, rfl⟩

theorem r5Size_c (s k : Int) (h0 : -9223372036854775808 ≤ k) (h1 : k ≤ 9223372036854775807) (w : World) :
    Calls Tryz.prog 146 #[.int .i64 s, .int .i64 k] w fun e w' => e = .returned (.int .i64 ((sizeN s k : Nat) : Int)) ∧ Below w.heap.size w w' := by
  obtain ⟨n, hn⟩ : ∃ n, slotI k = n := ⟨_, rfl⟩
  obtain ⟨p, hp⟩ : ∃ p, pageS s = p := ⟨_, rfl⟩
  have hn1 : n ≤ 32 := hn ▸ slotI_le k
  have hp1 : p ≤ 1048576 := hp ▸ pageS_le s
  have E : sizeN s k = p / n - p / n % 16 := by unfold sizeN; rw [hn, hp]
  have HN := hidp hn
  have HP := hidp (show pageN 1 4 s = p from hp)
  have HE := hidp E
  clear hn hp E
  by_cases hz : n = 0 ∨ p = 0
  · have hE : p / n - p / n % 16 = 0 := by rcases hz with rfl | rfl <;> simp
    have HE2 := hidp (HE.out.trans hE)
    clear hE
    rcases hz with rfl | rfl
    · go_enter Tryz.func146, Tryz.ntmps146
      go_wp2_with fail
      refine (r4Page_c 1 4 s _).mono ?_
      rintro e w2 ⟨rfl, hb2⟩
      rw [HP.out]
      go_wp2_with fail
      refine (r5Slots_c k h0 h1 _).mono ?_
      rintro e w1 ⟨rfl, rfl⟩
      rw [HN.out]
      go_wp2
      go_ret
      exact ⟨by rw [HE2.out]; rfl, hb2⟩
    · have hn0 : ¬ n = 0 ∨ n = 0 := by omega
      rcases hn0 with hn0 | rfl
      all_goals
        go_enter Tryz.func146, Tryz.ntmps146
        go_wp2_with fail
        refine (r4Page_c 1 4 s _).mono ?_
        rintro e w2 ⟨rfl, hb2⟩
        rw [HP.out]
        go_wp2_with fail
        refine (r5Slots_c k h0 h1 _).mono ?_
        rintro e w1 ⟨rfl, rfl⟩
        rw [HN.out]
        go_wp2
        go_ret
        exact ⟨by rw [HE2.out]; rfl, hb2⟩
  · have hq : ((p : Int).tdiv n) = ((p / n : Nat) : Int) := by rw [Int.tdiv_eq_ediv_of_nonneg (by omega)]; norm_cast
    have hq1 : p / n ≤ 1048576 := Nat.le_trans (Nat.div_le_self _ _) hp1
    obtain ⟨q, hqq⟩ : ∃ q, p / n = q := ⟨_, rfl⟩
    rw [hqq] at hq hq1
    have HQ := hidp hqq
    have hn2 : ¬ n = 0 := by omega
    have hp2 : ¬ p = 0 := by omega
    have hn3 : ((n : Int) == 0) = false := by simpa using hn2
    have hp3 : ((p : Int) == 0) = false := by simpa using hp2
    clear hqq hz
    go_enter Tryz.func146, Tryz.ntmps146
    go_wp2_with fail
    refine (r4Page_c 1 4 s _).mono ?_
    rintro e w2 ⟨rfl, hb2⟩
    rw [HP.out]
    go_wp2_with fail
    refine (r5Slots_c k h0 h1 _).mono ?_
    rintro e w1 ⟨rfl, rfl⟩
    rw [HN.out]
    go_wp2
    go_ret
    refine ⟨?_, hb2⟩
    rw [HE.out, HQ.out]
    refine ret_int ?_
    omega
end
section
theorem Held.drew {w : World} {g : Nat} {t : TypeId} {cs : Array Value} (h : Held w g t cs) : Held w.drew g t cs := h
structure HeapV (H : AuH) (n c : Nat) : Prop where
  right : rightB H.t H.p H.s = true
  len : n = 30 + 4 * H.t + 6 * H.p
  cap : n ≤ c
  max : c ≤ maxLen
  lt : ∀ i, i < n → H.V i < 2 ^ 32
def IsVals (w : World) (ad : Addr) (n : Nat) (V : Nat → Nat) : Prop := ad.block < w.heap.size ∧ ∀ i, i < n → w.cell? (ad.add i) = some (.int .u32 (V i : Nat))
theorem IsVals.below {w w' : World} {ad : Addr} {n : Nat} {V : Nat → Nat} (h : IsVals w ad n V) (hb : Below w.heap.size w w') : IsVals w' ad n V :=
  ⟨Nat.lt_of_lt_of_le h.1 hb.size, fun i hi => by
    have e : (ad.add i).block < w.heap.size := by rw [block_of_add]; exact h.1
    exact (hb.cell e).trans (h.2 i hi)⟩
theorem IsVals.drew {w : World} {ad : Addr} {n : Nat} {V : Nat → Nat} (h : IsVals w ad n V) : IsVals w.drew ad n V := h
theorem HeapV.nums {H : AuH} {n c : Nat} (h : HeapV H n c) : 1 ≤ H.t ∧ H.t ≤ 16 ∧ 4 ≤ H.p ∧ H.p ≤ 1024 ∧ 10 ≤ H.s ∧ H.s ≤ 20 ∧ n ≤ 6238 ∧ n ≤ c ∧ c ≤ maxLen := by
  have h1 := (rightB_iff _ _ _).1 h.right
  have h2 := h.len
  have h3 := h.cap
  have h4 := h.max
  omega
theorem HeapV.cel_lt {H : AuH} {n c : Nat} (h : HeapV H n c) {q b : Nat} (hq : q < H.p) (hb : b < 6) : H.cel q b < 2 ^ 32 := h.lt _ (by have := h.len; omega)
theorem HeapV.page {H : AuH} {n c : Nat} (h : HeapV H n c) {q b : Nat} (hq : q < H.p) (hb : b < 6) : pageI H.t H.p H.s q b = ((30 + 4 * H.t + 6 * q + b : Nat) : Int) := by
  rw [pcell_yes h.right (by omega) (by omega) (by omega) (by omega)]
  push_cast
  omega
def hpV (H : AuH) (ad : Addr) (n c : Nat) : Value := .agg #[.int .i64 (H.t : Int), .int .i64 (H.p : Int), .int .i64 (H.s : Int), .slice (some ad) n c]
end
end Go.Proofs.YtnamlhkccgnbfaaGreat
