/-
  What bin.Of, isPage, begins, isLong, and the document's Of, Info, do.
-/
import Derived.Test.YtpndfhdedmdoeaaBlk
import Derived.Test.YtpndfhdedmdoeaaBinDef
import Derived.Test.YtpndfhdedmdoeaaLinkPush
import Derived.Test.YtpndfhdedmdoeaaLinkRPush
namespace Go.Proofs.Ytpndfhdedmdoeaa
open Go.ChangeShapes Go.WideShapes Go.ChangeAt Go.RowKit Go.Maps
set_option linter.unusedVariables false
set_option linter.unusedSimpArgs false
set_option maxRecDepth 100000

theorem ofI_log {n : Int} (h : n ≤ 1024) : HM.logI n = ofI n := by
  unfold ofI
  by_cases h1 : n < 1
  · rw [if_pos (.inl h1), HM.logI_no n h1]
  · rw [if_neg (by omega)]
theorem ofI_high {n : Int} (h : 1024 < n) : ofI n = -1 := by unfold ofI; rw [if_pos (.inr h)]
theorem ofI_low {n : Int} (h : n < 1) : ofI n = -1 := by unfold ofI; rw [if_pos (.inl h)]

theorem addS_no {n : Nat} {K : Nat → Option Nat} {t q s p nn : Int} {st : Vst} (h : ¬ (pgB q p = true ∧ 1 ≤ nn ∧ nn ≤ q - p)) : addS n K t q s p nn st = st := by unfold addS; rw [if_neg h]
theorem addS_yes {n : Nat} {K : Nat → Option Nat} {t q s : Int} {k m : Nat} {st : Vst} (h : pgB q (k : Int) = true ∧ 1 ≤ (m : Int) ∧ (m : Int) ≤ q - (k : Int)) :
    addS n K t q s (k : Int) (m : Int) st = pushI n K t q s (binH (m : Int)) (k : Int) (putS n (putS n st (pageI t q s (k : Int) 0) (infoV 1 (m : Int) 0)) (pageI t q s ((k : Int) + (m : Int) - 1) 1) (k + 1)) := by
  unfold addS
  rw [if_pos h, Int.toNat_natCast]
theorem infoG_len {v : Nat} {l c : Int} {ok : Bool} (h : infoG v = (1, l, c, ok)) : 0 ≤ l ∧ l ≤ 1024 := by
  cases hb : infoB (v % 16 : Nat) (v / 16 % 4096 : Nat) (v / 65536 : Nat)
  · rw [infoG_no hb] at h
    injection h with h _
    omega
  · rw [infoG_yes hb] at h
    have h1 := infoB_iff hb
    injection h with h2 h
    injection h with h3 _
    unfold infoP at h1
    omega

theorem bnOf_c (n : Int) (h0 : -9223372036854775808 ≤ n) (h1 : n ≤ 9223372036854775807) (w : World) :
    Calls Try.prog 14 #[.int .i64 n] w fun e w' => e = .returned (.int .i64 (ofI n)) ∧ w = w' := by
  by_cases h : 1024 < n
  · have t0 : decide ((1024 : Int) < n) = true := decide_eq_true h
    have HO := hidp (ofI_high h)
    go_enter Try.func14, Try.ntmps14
    go_wp2
    go_ret
    exact ⟨by rw [HO.out]; rfl, rfl⟩
  · have t0 : decide ((1024 : Int) < n) = false := decide_eq_false h
    have HO : Hid (HM.logI n = ofI n) := hidp (ofI_log (by omega))
    go_enter Try.func14, Try.ntmps14
    go_wp2_with fail
    refine (Log_c n h0 h1 _).mono ?_
    rintro e w1 ⟨rfl, rfl⟩
    rw [HO.out]
    go_wp2
    go_ret
    exact ⟨rfl, rfl⟩
theorem r14Of_c (n : Int) (h0 : -9223372036854775808 ≤ n) (h1 : n ≤ 9223372036854775807) (w : World) :
    Calls Try.prog 15 #[.int .i64 n] w fun e w' => e = .returned (.int .i64 (ofI n)) ∧ w = w' := by
  by_cases hl : n < 1
  · have t0 : decide (n < (1 : Int)) = true := decide_eq_true hl
    have HO := hidp (ofI_low hl)
    go_enter Try.func15, Try.ntmps15
    go_wp2
    go_ret
    exact ⟨by rw [HO.out]; rfl, rfl⟩
  · have t0 : decide (n < (1 : Int)) = false := decide_eq_false hl
    by_cases h : 1024 < n
    · have t1 : decide ((1024 : Int) < n) = true := decide_eq_true h
      have HO := hidp (ofI_high h)
      go_enter Try.func15, Try.ntmps15
      go_wp2
      go_ret
      exact ⟨by rw [HO.out]; rfl, rfl⟩
    · have t1 : decide ((1024 : Int) < n) = false := decide_eq_false h
      have HO : Hid (HM.logI n = ofI n) := hidp (ofI_log (by omega))
      go_enter Try.func15, Try.ntmps15
      go_wp2_with fail
      refine (RLog_c n h0 h1 _).mono ?_
      rintro e w1 ⟨rfl, rfl⟩
      rw [HO.out]
      go_wp2
      go_ret
      exact ⟨rfl, rfl⟩

theorem bnIsPage_c (t q s p : Int) (w : World) :
    Calls Try.prog 29 #[.agg #[.int .i64 t, .int .i64 q, .int .i64 s], .int .i64 p] w fun e w' => e = .returned (.bool (pgB q p)) ∧ Below w.heap.size w w' := by
  have hB := Bnew (B0 w) (.cells #[.int .i64 t, .int .i64 q, .int .i64 s] 23)
  obtain ⟨x0, x1, x2⟩ := (Held.new w 23 #[.int .i64 t, .int .i64 q, .int .i64 s]).three
  unfold pgB
  by_cases h0 : 0 ≤ p
  · have t0 : decide ((0 : Int) ≤ p) = true := decide_eq_true h0
    obtain ⟨c, t1⟩ : ∃ c, decide (p < q) = c := ⟨_, rfl⟩
    rw [t0, t1]
    cases c with
    | true =>
      go_enter Try.func29, Try.ntmps29
      go_wp2
      go_ret
      exact ⟨rfl, hB⟩
    | false =>
      go_enter Try.func29, Try.ntmps29
      go_wp2
      go_ret
      exact ⟨rfl, hB⟩
  · have t0 : decide ((0 : Int) ≤ p) = false := decide_eq_false h0
    rw [t0]
    go_enter Try.func29, Try.ntmps29
    go_wp2
    go_ret
    exact ⟨rfl, hB⟩

theorem bnIsLong_c (k l c nn : Int) (w : World) :
    Calls Try.prog 54 #[.agg #[.int .i64 k, .int .i64 l, .int .i64 c], .int .i64 nn] w fun e w' => e = .returned (.bool (decide (k = 1) && decide (nn ≤ l))) ∧ Below w.heap.size w w' := by
  have hB := Bnew (B0 w) (.cells #[.int .i64 k, .int .i64 l, .int .i64 c] 55)
  obtain ⟨x0, x1, x2⟩ := (Held.new w 55 #[.int .i64 k, .int .i64 l, .int .i64 c]).three
  by_cases h0 : k = 1
  · have t0 : (k == 1) = true := by simpa using h0
    obtain ⟨d, t1⟩ : ∃ d, decide (nn ≤ l) = d := ⟨_, rfl⟩
    rw [decide_eq_true h0, t1]
    clear h0
    cases d with
    | true =>
      go_enter Try.func54, Try.ntmps54
      go_wp2
      go_ret
      exact ⟨rfl, hB⟩
    | false =>
      go_enter Try.func54, Try.ntmps54
      go_wp2
      go_ret
      exact ⟨rfl, hB⟩
  · have t0 : (k == 1) = false := by simpa using h0
    rw [decide_eq_false h0]
    go_enter Try.func54, Try.ntmps54
    go_wp2
    go_ret
    exact ⟨rfl, hB⟩

theorem r9Value_c (k l c : Int) (w : World) :
    Calls Try.prog 43 #[.int .i64 k, .int .i64 l, .int .i64 c] w fun e w' => e = .returned (.int .u32 ((infoV k l c : Nat) : Int)) ∧ Below w.heap.size w w' := by
  go_enter Try.func43, Try.ntmps43
  go_wp2_with fail
  refine (r9Put_c k l c _).mono ?_
  rintro e w1 ⟨rfl, hb⟩
  go_wp2
  go_ret
  exact ⟨rfl, hb⟩

section
variable {base b n : Nat} {wh all : Bool} {K : Nat → Option Nat} {st : Vst} {w w0 : World} {A G : Nat → Prop} {t q s : Int}
set_option maxHeartbeats 1600000 in
theorem bnBegins_c (hn : n < 2 ^ 40) (p k l c : Int) (ok : Bool) (hI : infoOf n K t q s p st = (k, l, c, ok)) (h : (vOb base b n wh K).At w0 A G st w) :
    Calls Try.prog 30 #[.pointer (some ⟨b, 0, none⟩), .agg #[.int .i64 t, .int .i64 q, .int .i64 s], .int .i64 p] w fun e w' => e = .returned (.agg #[.int .i64 k, .int .i64 l, .int .i64 c]) ∧ (vOb base b n wh K).At w0 A G (getS n K st (pageI t q s p 0)) w' ∧ Stay G w w' := by
  have W0 := hidp (((WL.start h).new 23 #[.int .i64 t, .int .i64 q, .int .i64 s]).new 55 #[.int .i64 0, .int .i64 0, .int .i64 0])
  rw [World.size_alloc] at W0
  obtain ⟨x0, x1, x2⟩ := W0.out.h1.three
  obtain ⟨v, hv⟩ : ∃ v, getV n K st (pageI t q s p 0) = v := ⟨_, rfl⟩
  have hv32 : v < 2 ^ 32 := by rw [← hv]; exact vAt_lt h _
  have HI : Hid (infoG v = (k, l, c, ok)) := hidp (by rw [← hv]; exact hI)
  have HV := hidp hv
  clear h hI hv
  go_enter Try.func30, Try.ntmps30
  go_wp2_with fail
  refine (plInfo_c t q s p _).mono ?_; rintro e w1 ⟨rfl, hb⟩; have W1 := hidp (W0.out.keep hb); clear hb W0
  go_wp2_with fail
  refine (vGetA hn _ W1.out.at_).mono ?_; rintro e w2 ⟨rfl, h1, h2⟩; have W2 := hidp (W1.out.call h1 h2); clear h1 h2 W1; rw [HV.out]
  go_wp2_with fail
  refine (inGet_c v k l c ok hv32 HI.out _).mono ?_; rintro e w3 ⟨rfl, hb⟩; have W3 := hidp (W2.out.keep hb); clear hb W2
  have W4 := hidp (((((W3.out.alloc (.cells #[.int .i64 k, .int .i64 l, .int .i64 c] 55)).put 0 (.int .i64 k)).put 1 (.int .i64 l)).put 2 (.int .i64 c)))
  obtain ⟨y0, y1, y2⟩ := (Held.new w3 55 #[.int .i64 k, .int .i64 l, .int .i64 c]).three
  have hfz := (W3.out.alloc (.cells #[.int .i64 k, .int .i64 l, .int .i64 c] 55)).h0.thawed
  obtain ⟨z0, z1, z2⟩ := (W3.out.alloc (.cells #[.int .i64 k, .int .i64 l, .int .i64 c] 55)).h0.three
  obtain ⟨r0, r1, r2⟩ := W4.out.h0.three
  go_wp2
  refine bodyPost_ret (v := .agg #[.int .i64 k, .int .i64 l, .int .i64 c]) (by simp [results, Try.results30, go_sem, r0, r1, r2]) rfl ⟨rfl, ?_⟩
  exact W4.out.fin
set_option maxHeartbeats 1600000 in
theorem r14Info_c (hn : n < 2 ^ 40) (p k l c : Int) (ok : Bool) (hI : infoOf n K t q s p st = (k, l, c, ok)) (h : (rOb base b n all K).At w0 A G st w) :
    Calls Try.prog 33 #[.pointer (some ⟨b, 0, none⟩), .agg #[.int .i64 t, .int .i64 q, .int .i64 s], .int .i64 p] w fun e w' => e = .returned (.agg #[.int .i64 k, .int .i64 l, .int .i64 c]) ∧ (rOb base b n all K).At w0 A G (getS n K st (pageI t q s p 0)) w' ∧ Stay G w w' := by
  have W0 := hidp (((WL.start h).new 23 #[.int .i64 t, .int .i64 q, .int .i64 s]).new 55 #[.int .i64 0, .int .i64 0, .int .i64 0])
  rw [World.size_alloc] at W0
  obtain ⟨x0, x1, x2⟩ := W0.out.h1.three
  obtain ⟨v, hv⟩ : ∃ v, getV n K st (pageI t q s p 0) = v := ⟨_, rfl⟩
  have hv32 : v < 2 ^ 32 := by rw [← hv]; exact rAt_lt h _
  have HI : Hid (infoG v = (k, l, c, ok)) := hidp (by rw [← hv]; exact hI)
  have HV := hidp hv
  clear h hI hv
  go_enter Try.func33, Try.ntmps33
  go_wp2_with fail
  refine (r7Info_c t q s p _).mono ?_; rintro e w1 ⟨rfl, hb⟩; have W1 := hidp (W0.out.keep hb); clear hb W0
  go_wp2_with fail
  refine (rGetA hn _ W1.out.at_).mono ?_; rintro e w2 ⟨rfl, h1, h2⟩; have W2 := hidp (W1.out.call h1 h2); clear h1 h2 W1; rw [HV.out]
  go_wp2_with fail
  refine (r9Get_c v k l c ok hv32 HI.out _).mono ?_; rintro e w3 ⟨rfl, hb⟩; have W3 := hidp (W2.out.keep hb); clear hb W2
  have W4 := hidp (((((W3.out.alloc (.cells #[.int .i64 k, .int .i64 l, .int .i64 c] 55)).put 0 (.int .i64 k)).put 1 (.int .i64 l)).put 2 (.int .i64 c)))
  obtain ⟨y0, y1, y2⟩ := (Held.new w3 55 #[.int .i64 k, .int .i64 l, .int .i64 c]).three
  have hfz := (W3.out.alloc (.cells #[.int .i64 k, .int .i64 l, .int .i64 c] 55)).h0.thawed
  obtain ⟨z0, z1, z2⟩ := (W3.out.alloc (.cells #[.int .i64 k, .int .i64 l, .int .i64 c] 55)).h0.three
  obtain ⟨r0, r1, r2⟩ := W4.out.h0.three
  go_wp2
  refine bodyPost_ret (v := .agg #[.int .i64 k, .int .i64 l, .int .i64 c]) (by simp [results, Try.results33, go_sem, r0, r1, r2]) rfl ⟨rfl, ?_⟩
  exact W4.out.fin
end
end Go.Proofs.Ytpndfhdedmdoeaa
