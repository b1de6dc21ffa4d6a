/-
  Releasing pages: what stands in the cells that are no links then. No program is named here but for the Views'.
-/
import Derived.Test.YtnamlhkccgnbfaaGreatK15
import Derived.Test.YtnamlhkccgnbfaaGreatK12
import Derived.Test.YtnamlhkccgnbfaaGreatK02
import Derived.Test.YtnamlhkccgnbfaaGreatK14
import Derived.Test.YtnamlhkccgnbfaaGreatK11
import Derived.Test.YtnamlhkccgnbfaaGreatK01
namespace Go.Proofs.YtnamlhkccgnbfaaGreat
open Go.ChangeShapes Go.WideShapes Go.ChangeAt Go.RowKit Go.Maps
set_option linter.unusedVariables false
set_option linter.unusedSimpArgs false

section
variable {t P s n : Nat} {K : Nat → Option Nat} {st : Vst} {L : Nat → List Nat} {g : Nat → Nat}
theorem Work.infoAt (W : Work t P s n K st L g) (hf : Fit t P s n) {q : Nat} (hq : q < P) : infoOf n K t P s (q : Int) st = infoG (g (pc t q 0)) := by
  have hlen := hf.len
  unfold infoOf
  rw [hf.inf hq]
  have e : getV n K st ((pc t q 0 : Nat) : Int) = g (pc t q 0) := W.near _ (by unfold pc; omega) (pc_far (by omega) (by omega) (by omega))
  exact congrArg infoG e
theorem Work.footAt (W : Work t P s n K st L g) (hf : Fit t P s n) {q : Nat} (hq : q < P) : getV n K st (pageI (t : Int) (P : Int) (s : Int) (q : Int) 1) = g (pc t q 1) := by
  have hlen := hf.len
  rw [hf.foot hq]
  have e : getV n K st ((pc t q 1 : Nat) : Int) = g (pc t q 1) := W.near _ (by unfold pc; omega) (pc_far (by omega) (by omega) (by omega))
  exact e
theorem Work.zero (W : Work t P s n K st L g) (hf : Fit t P s n) {p : Nat} (h0 : 0 < p) (hp : p < P) :
    Work t P s n K (putS n (putS n st (pageI (t : Int) (P : Int) (s : Int) (p : Int) 0) 0) (pageI (t : Int) (P : Int) (s : Int) ((p : Int) - 1) 1) 0) L (updF (updF g (pc t p 0) 0) (pc t (p - 1) 1) 0) := by
  have hlen := hf.len
  have e1 : pageI (t : Int) (P : Int) (s : Int) ((p : Int) - 1) 1 = ((pc t (p - 1) 1 : Nat) : Int) := by
    rw [show ((p : Int) - 1) = ((p - 1 : Nat) : Int) by omega]
    exact hf.foot (by omega)
  have e0 : pageI (t : Int) (P : Int) (s : Int) (p : Int) 0 = ((pc t p 0 : Nat) : Int) := hf.inf hp
  rw [e1, e0]
  exact (W.put (by unfold pc; omega) (pc_far (by omega) (by omega) (by omega)) _).put (by unfold pc; omega) (pc_far (by omega) (by omega) (by omega)) _
theorem Work.ahead (W : Work t P s n K st L g) (hf : Fit t P s n) {p A l : Nat} (hp : p < P) (hA : A + l = p)
    (hno : l = 0 → p = 0 ∨ ∃ f kk ll cc ok, f < P ∧ g (pc t (p - 1) 1) = f + 1 ∧ infoG (g (pc t f 0)) = (kk, ll, cc, ok) ∧ kk ≠ 1)
    (hyes : 0 < l → g (pc t (p - 1) 1) = A + 1 ∧ infoG (g (pc t A 0)) = (1, (l : Int), 0, true) ∧ ∃ k : Nat, ofI (l : Int) = (k : Int) ∧ k ≤ 10 ∧ A ∈ L (2 + k)) :
    (relL n K t P s p st).2 = ((A : Int), (l : Int)) ∧ ∃ L' g', Work t P s n K (relL n K t P s p st).1 L' g' ∧ (∀ hd : Nat, 2 ≤ hd → hd ≤ 21 → ∀ y, y ∈ L' hd ↔ y ∈ L hd ∧ ¬ (0 < l ∧ y = A)) ∧
      (∀ i, i < 30 → g' i = g i) ∧ (∀ q b, b < 6 → g' (pc t q b) = if 0 < l ∧ ((q = p ∧ b = 0) ∨ (q + 1 = p ∧ b = 1)) then 0 else g (pc t q b)) := by
  unfold relL
  by_cases h0 : p = 0
  · rw [if_pos h0]
    obtain rfl : l = 0 := by omega
    obtain rfl : A = p := by omega
    exact ⟨rfl, L, g, W, fun hd _ _ y => by simp, fun i _ => rfl, fun q b _ => by rw [if_neg (by omega)]⟩
  · rw [if_neg h0]
    dsimp only
    have ep : ((p : Int) - 1) = ((p - 1 : Nat) : Int) := by omega
    have W1 := W.get (pageI (t : Int) (P : Int) (s : Int) ((p : Int) - 1) 1)
    have hft : getV n K st (pageI (t : Int) (P : Int) (s : Int) ((p : Int) - 1) 1) = g (pc t (p - 1) 1) := by rw [ep]; exact W.footAt hf (by omega)
    by_cases hl : l = 0
    · subst hl
      obtain rfl : A = p := by omega
      rcases hno rfl with h1 | ⟨f, kk, ll, cc, ok, hfP, hfo, hfi, hk⟩
      · exact absurd h1 h0
      · have ei : infoOf n K t P s (((getV n K st (pageI (t : Int) (P : Int) (s : Int) ((A : Int) - 1) 1) : Nat) : Int) - 1) (getS n K st (pageI (t : Int) (P : Int) (s : Int) ((A : Int) - 1) 1)) = (kk, ll, cc, ok) := by
          rw [hft, hfo, show (((f + 1 : Nat) : Int) - 1) = (f : Int) by omega, W1.infoAt hf hfP, hfi]
        rw [ei]
        simp only
        rw [if_neg hk]
        exact ⟨rfl, L, g, W1.get _, fun hd _ _ y => by simp, fun i _ => rfl, fun q b _ => by rw [if_neg (by omega)]⟩
    · obtain ⟨hfo, hfi, k, hk, hk10, hm⟩ := hyes (by omega)
      have ef : (((getV n K st (pageI (t : Int) (P : Int) (s : Int) ((p : Int) - 1) 1) : Nat) : Int) - 1) = (A : Int) := by rw [hft, hfo]; omega
      rw [ef]
      have ei : infoOf n K t P s (A : Int) (getS n K st (pageI (t : Int) (P : Int) (s : Int) ((p : Int) - 1) 1)) = (1, (l : Int), 0, true) := by rw [W1.infoAt hf (by omega), hfi]
      rw [ei]
      simp only [if_true]
      have W2 := W1.get (pageI (t : Int) (P : Int) (s : Int) (A : Int) 0)
      obtain ⟨ed, L3, W3, m3⟩ := W2.drop hf (p := A) (by omega) hfi hk hk10 hm
      have W4 := W3.zero hf (p := p) (by omega) hp
      refine ⟨by rw [ed], L3, _, W4, fun hd a2 a21 y => ?_, fun i hi => by rw [updF_low _ _ hi, updF_low _ _ hi], fun q b hb => ?_⟩
      · rw [m3 hd a2 a21 y]
        constructor
        · exact fun h => ⟨h.1, fun h2 => h.2 h2.2⟩
        · exact fun h => ⟨h.1, fun h2 => h.2 ⟨by omega, h2⟩⟩
      · by_cases c1 : q + 1 = p ∧ b = 1
        · obtain ⟨c1, rfl⟩ := c1
          rw [if_pos ⟨by omega, .inr ⟨c1, rfl⟩⟩, updF_pcE _ _ (by omega)]
        · rw [updF_pcN _ _ (by omega) hb (by omega)]
          by_cases c2 : q = p ∧ b = 0
          · obtain ⟨c2, rfl⟩ := c2
            rw [if_pos ⟨by omega, .inl ⟨c2, rfl⟩⟩, updF_pcE _ _ c2]
          · rw [updF_pcN _ _ (by omega) hb (by omega), if_neg (by omega)]
theorem Work.behind (W : Work t P s n K st L g) (hf : Fit t P s n) {r l : Nat} (hr0 : 0 < r)
    (hno : l = 0 → r < P → ∃ kk ll cc ok, infoG (g (pc t r 0)) = (kk, ll, cc, ok) ∧ kk ≠ 1)
    (hyes : 0 < l → r < P ∧ infoG (g (pc t r 0)) = (1, (l : Int), 0, true) ∧ ∃ k : Nat, ofI (l : Int) = (k : Int) ∧ k ≤ 10 ∧ r ∈ L (2 + k)) :
    (relR n K t P s r st).2 = (l : Int) ∧ ∃ L' g', Work t P s n K (relR n K t P s r st).1 L' g' ∧ (∀ hd : Nat, 2 ≤ hd → hd ≤ 21 → ∀ y, y ∈ L' hd ↔ y ∈ L hd ∧ ¬ (0 < l ∧ y = r)) ∧
      (∀ i, i < 30 → g' i = g i) ∧ (∀ q b, b < 6 → g' (pc t q b) = if 0 < l ∧ ((q = r ∧ b = 0) ∨ (q + 1 = r ∧ b = 1)) then 0 else g (pc t q b)) := by
  unfold relR
  by_cases hr : r < P
  · rw [if_pos (by omega)]
    dsimp only
    by_cases hl : l = 0
    · subst hl
      obtain ⟨kk, ll, cc, ok, hfi, hk⟩ := hno rfl hr
      rw [W.infoAt hf hr, hfi]
      simp only
      rw [if_neg hk]
      exact ⟨rfl, L, g, W.get _, fun hd _ _ y => by simp, fun i _ => rfl, fun q b _ => by rw [if_neg (by omega)]⟩
    · obtain ⟨_, hfi, k, hk, hk10, hm⟩ := hyes (by omega)
      rw [W.infoAt hf hr, hfi]
      simp only [if_true]
      have W2 := W.get (pageI (t : Int) (P : Int) (s : Int) (r : Int) 0)
      obtain ⟨ed, L3, W3, m3⟩ := W2.drop hf (p := r) hr hfi hk hk10 hm
      have W4 := W3.zero hf (p := r) hr0 hr
      refine ⟨ed, L3, _, W4, fun hd a2 a21 y => ?_, fun i hi => by rw [updF_low _ _ hi, updF_low _ _ hi], fun q b hb => ?_⟩
      · rw [m3 hd a2 a21 y]
        constructor
        · exact fun h => ⟨h.1, fun h2 => h.2 h2.2⟩
        · exact fun h => ⟨h.1, fun h2 => h.2 ⟨by omega, h2⟩⟩
      · by_cases c1 : q + 1 = r ∧ b = 1
        · obtain ⟨c1, rfl⟩ := c1
          rw [if_pos ⟨by omega, .inr ⟨c1, rfl⟩⟩, updF_pcE _ _ (by omega)]
        · rw [updF_pcN _ _ (by omega) hb (by omega)]
          by_cases c2 : q = r ∧ b = 0
          · obtain ⟨c2, rfl⟩ := c2
            rw [if_pos ⟨by omega, .inl ⟨c2, rfl⟩⟩, updF_pcE _ _ c2]
          · rw [updF_pcN _ _ (by omega) hb (by omega), if_neg (by omega)]
  · rw [if_neg (by omega)]
    obtain rfl : l = 0 := by
      rcases Nat.eq_zero_or_pos l with h | h
      · exact h
      · exact absurd (hyes h).1 hr
    exact ⟨rfl, L, g, W, fun hd _ _ y => by simp, fun i _ => rfl, fun q b _ => by rw [if_neg (by omega)]⟩
end
section
variable {H : AuH} {n : Nat} {K : Nat → Option Nat} {st : Vst} {L : Nat → List Nat} {g : Nat → Nat}
theorem Work.release (W : Work H.t H.p H.s n K st L g) (hf : Fit H.t H.p H.s n) {p m A la lr : Nat} (hm : 1 ≤ m) (hpm : p + m + lr ≤ H.p) (hA : A + la = p)
    (hl0 : la = 0 → p = 0 ∨ ∃ f kk ll cc ok, f < H.p ∧ g (pc H.t (p - 1) 1) = f + 1 ∧ infoG (g (pc H.t f 0)) = (kk, ll, cc, ok) ∧ kk ≠ 1)
    (hl1 : 0 < la → g (pc H.t (p - 1) 1) = A + 1 ∧ infoG (g (pc H.t A 0)) = (1, (la : Int), 0, true) ∧ ∃ k : Nat, ofI (la : Int) = (k : Int) ∧ k ≤ 10 ∧ A ∈ L (2 + k))
    (hr0 : lr = 0 → p + m < H.p → ∃ kk ll cc ok, infoG (g (pc H.t (p + m) 0)) = (kk, ll, cc, ok) ∧ kk ≠ 1)
    (hr1 : 0 < lr → p + m < H.p ∧ infoG (g (pc H.t (p + m) 0)) = (1, (lr : Int), 0, true) ∧ ∃ k : Nat, ofI (lr : Int) = (k : Int) ∧ k ≤ 10 ∧ p + m ∈ L (2 + k))
    (hin : ∀ hd : Nat, 2 ≤ hd → hd ≤ 21 → A ∈ L hd → 0 < la) (h0 : g 0 + m < 4294967296) :
    ∃ L' g', Work H.t H.p H.s n K (releaseS n K H.t H.p H.s p m st) L' g' ∧
      (∀ hd : Nat, 2 ≤ hd → hd ≤ 21 → ∀ y, y ∈ L' hd ↔ (y ∈ L hd ∧ ¬ (0 < la ∧ y = A) ∧ ¬ (0 < lr ∧ y = p + m)) ∨ (y = A ∧ ((hd : Nat) : Int) = 2 + HM.logI ((la + m + lr : Nat) : Int))) ∧
      g' 0 = g 0 + m ∧ (∀ i, 0 < i → i < 30 → g' i = g i) ∧
      (∀ q, g' (pc H.t q 0) = if q = A then infoV 1 ((la + m + lr : Nat) : Int) 0 else if (0 < la ∧ q = p) ∨ (0 < lr ∧ q = p + m) then 0 else g (pc H.t q 0)) ∧
      (∀ q, g' (pc H.t q 1) = if q + 1 = A + (la + m + lr) then A + 1 else if (0 < la ∧ q + 1 = p) ∨ (0 < lr ∧ q + 1 = p + m) then 0 else g (pc H.t q 1)) ∧
      ∀ q, g' (pc H.t q 4) = g (pc H.t q 4) ∧ g' (pc H.t q 5) = g (pc H.t q 5) := by
  obtain ⟨e1, L1, g1, W1, m1, n1, c1⟩ := W.ahead hf (p := p) (by omega) hA hl0 hl1
  have hne : lr = 0 ∨ p + m ≠ A := by omega
  obtain ⟨e2, L2, g2, W2, m2, n2, c2⟩ := W1.behind hf (r := p + m) (l := lr) (by omega)
    (fun h1 h2 => by
      rw [c1 _ _ (by omega), if_neg (by omega)]
      exact hr0 h1 h2)
    (fun h1 => by
      obtain ⟨a1, a2, k, a3, a4, a5⟩ := hr1 h1
      refine ⟨a1, by rw [c1 _ _ (by omega), if_neg (by omega)]; exact a2, k, a3, a4, ?_⟩
      exact (m1 _ (by omega) (by omega) _).2 ⟨a5, fun h2 => by omega⟩)
  have hAno : ∀ hd : Nat, 2 ≤ hd → hd ≤ 21 → ¬ A ∈ L2 hd := fun hd a2 a21 hx => by
    have h1 := (m2 hd a2 a21 _).1 hx
    have h2 := (m1 hd a2 a21 _).1 h1.1
    exact h2.2 ⟨hin hd a2 a21 h2.1, rfl⟩
  obtain ⟨L3, W3, m3⟩ := W2.add hf (p := A) (m := la + m + lr) (by omega) (by omega) hAno
  have est : addS n K H.t H.p H.s (relL n K H.t H.p H.s p st).2.1 ((m : Int) + (relL n K H.t H.p H.s p st).2.2 + (relR n K H.t H.p H.s (p + m) (relL n K H.t H.p H.s p st).1).2) (relR n K H.t H.p H.s (p + m) (relL n K H.t H.p H.s p st).1).1 =
      addS n K H.t H.p H.s (A : Int) ((la + m + lr : Nat) : Int) (relR n K H.t H.p H.s (p + m) (relL n K H.t H.p H.s p st).1).1 := by
    rw [e1, e2]
    congr 1
    simp only
    omega
  rw [← est] at W3
  have e0 : (updF (updF g2 (pc H.t A 0) (infoV 1 ((la + m + lr : Nat) : Int) 0)) (pc H.t (A + (la + m + lr) - 1) 1) (A + 1)) 0 = g 0 := by
    rw [updF_low _ _ (by omega), updF_low _ _ (by omega), n2 0 (by omega), n1 0 (by omega)]
  have W4 := W3.more hf (m := m) (by rw [e0]; exact h0)
  refine ⟨L3, _, W4, fun hd a2 a21 y => ?_, ?_, fun i h1 h2 => ?_, fun q => ?_, fun q => ?_, fun q => ?_⟩
  · rw [m3 hd a2 a21 y, m2 hd a2 a21 y, m1 hd a2 a21 y, and_assoc]
  · rw [updF_same, e0]
  · rw [updF_other _ _ (by omega), updF_low _ _ h2, updF_low _ _ h2, n2 i h2, n1 i h2]
  · rw [updF_pc0, updF_pcN _ _ (by omega) (by omega) (by omega)]
    by_cases h1 : q = A
    · rw [if_pos h1, updF_pcE _ _ h1]
    · rw [if_neg h1, updF_pcN _ _ (by omega) (by omega) (by omega), c2 _ _ (by omega), c1 _ _ (by omega)]
      by_cases h2 : (0 < la ∧ q = p) ∨ (0 < lr ∧ q = p + m)
      · rw [if_pos h2]
        split
        · rfl
        · rw [if_pos (by omega)]
      · rw [if_neg h2, if_neg (by omega), if_neg (by omega)]
  · rw [updF_pc0]
    by_cases h1 : q + 1 = A + (la + m + lr)
    · rw [if_pos h1, updF_pcE _ _ (by omega)]
    · rw [if_neg h1, updF_pcN _ _ (by omega) (by omega) (by omega), updF_pcN _ _ (by omega) (by omega) (by omega), c2 _ _ (by omega), c1 _ _ (by omega)]
      by_cases h2 : (0 < la ∧ q + 1 = p) ∨ (0 < lr ∧ q + 1 = p + m)
      · rw [if_pos h2]
        split
        · rfl
        · rw [if_pos (by omega)]
      · rw [if_neg h2, if_neg (by omega), if_neg (by omega)]
  · simp (disch := omega) only [updF_pc0, updF_pcN]
    rw [c2 _ _ (by omega), c2 _ _ (by omega), c1 _ _ (by omega), c1 _ _ (by omega), if_neg (by omega), if_neg (by omega), if_neg (by omega), if_neg (by omega)]
    exact ⟨rfl, rfl⟩
end
end Go.Proofs.YtnamlhkccgnbfaaGreat

namespace Go.Proofs.YtnamlhkccgnbfaaGreat
open Go.ChangeShapes Go.WideShapes Go.ChangeAt Go.RowKit Go.Maps
set_option linter.unusedVariables false
set_option linter.unusedSimpArgs false

section
variable {H : AuH} {n c : Nat} {K : Nat → Option Nat} {st : Vst} {L : Nat → List Nat} {g : Nat → Nat}
theorem span_ahead (h : H.Ok L) {p : Nat} (hp : p < H.p) (hk : H.K p ≠ 0) (h0 : 0 < p) :
    ∃ a, a < p ∧ H.K a ≠ 0 ∧ H.nx a = p ∧ H.cel (p - 1) 1 = a + 1 ∧ ∀ q, q < p → H.K q ≠ 0 → H.nx q = p → q = a := by
  have ha := h.spans.reach p p (Nat.le_refl _) (by omega) (.inr hk)
  generalize hx : p = x at ha
  cases ha with
  | zero => omega
  | step ha hc =>
    rename_i a
    obtain ⟨a1, a2, a3⟩ := (H.can_iff a).1 hc
    have hl := H.ln_pos a (by rcases H.K_cases a with h1 | h1 | h1 <;> omega)
    have hnx : H.nx a = a + H.ln a := rfl
    have hap : a < p := by omega
    obtain ⟨_, f2⟩ := h.feet a a1 a2
    refine ⟨a, by omega, a2, hx ▸ rfl, ?_, fun q hq hkq hn => ?_⟩
    · rw [← f2]; rfl
    · rcases Nat.lt_trichotomy q a with h1 | h1 | h1
      · have := h.spans.ahead a2 h1 (by omega) hkq
        omega
      · exact h1
      · have := h.spans.ahead hkq h1 (by omega) a2
        omega
theorem any_info (p : Nat) : ∃ ll cc ok, infoG (H.cel p 0) = (H.K p, ll, cc, ok) := ⟨_, _, _, H.info_eq p⟩
theorem left_of_span (h : H.Ok L) {p : Nat} (hp : p < H.p) (hk : H.K p ≠ 0) (hk1 : H.K p ≠ 1) :
    ∃ A la, A + la = p ∧ (la = 0 → p = 0 ∨ ∃ f kk ll cc ok, f < H.p ∧ H.V (pc H.t (p - 1) 1) = f + 1 ∧ infoG (H.V (pc H.t f 0)) = (kk, ll, cc, ok) ∧ kk ≠ 1) ∧
      (0 < la → H.V (pc H.t (p - 1) 1) = A + 1 ∧ infoG (H.V (pc H.t A 0)) = (1, (la : Int), 0, true) ∧ ∃ k : Nat, ofI (la : Int) = (k : Int) ∧ k ≤ 10 ∧ A ∈ L (2 + k)) ∧
      (0 < la → H.K A = 1 ∧ H.ln A = la) ∧ (∀ q, q < A → H.K q = 1 → H.nx q ≠ A) := by
  rcases Nat.eq_zero_or_pos p with h0 | h0
  · exact ⟨p, 0, rfl, fun _ => .inl h0, fun h => by omega, fun h => by omega, fun q hq => by omega⟩
  · obtain ⟨a, ha, hka, hna, hfa, huq⟩ := span_ahead h hp hk h0
    by_cases hf : H.K a = 1
    · obtain ⟨_, h1, h2, _⟩ := span_at h (p := a) (by omega) (by omega) (by omega)
      have hnx : H.nx a = a + H.ln a := rfl
      refine ⟨a, H.ln a, by omega, fun h => by omega, fun _ => ⟨hfa, free_info hf, free_list h (by omega) hf⟩, fun _ => ⟨hf, rfl⟩, fun q hq hkq hn => ?_⟩
      have := h.apart q (by omega) hkq (by omega)
      rw [hn] at this
      exact this hf
    · obtain ⟨ll, cc, ok, hi⟩ := any_info (H := H) a
      refine ⟨p, 0, rfl, fun _ => .inr ⟨a, H.K a, ll, cc, ok, by omega, hfa, hi, hf⟩, fun h => by omega, fun h => by omega, fun q hq hkq hn => ?_⟩
      have := huq q hq (by omega) hn
      subst this
      exact hf hkq
theorem right_of_span (h : H.Ok L) {r : Nat} (hk : r < H.p → H.K r ≠ 0) (hr : r ≤ H.p) :
    ∃ lr, r + lr ≤ H.p ∧ (lr = 0 → r < H.p → ∃ kk ll cc ok, infoG (H.V (pc H.t r 0)) = (kk, ll, cc, ok) ∧ kk ≠ 1) ∧
      (0 < lr → r < H.p ∧ infoG (H.V (pc H.t r 0)) = (1, (lr : Int), 0, true) ∧ ∃ k : Nat, ofI (lr : Int) = (k : Int) ∧ k ≤ 10 ∧ r ∈ L (2 + k)) ∧
      (0 < lr → H.K r = 1 ∧ H.ln r = lr) ∧ (lr = 0 → r < H.p → H.K r ≠ 1) ∧ (r + lr < H.p → H.K (r + lr) ≠ 0 ∧ H.K (r + lr) ≠ 1) := by
  by_cases hrp : r < H.p
  · by_cases hf : H.K r = 1
    · obtain ⟨hnx, h1, h2, h3, _⟩ := span_at h hrp (by omega) (by omega)
      refine ⟨H.ln r, h2, fun h => by omega, fun _ => ⟨hrp, free_info hf, free_list h hrp hf⟩, fun _ => ⟨hf, rfl⟩, fun h => by omega, fun h4 => ⟨h3 h4, ?_⟩⟩
      have := h.apart r hrp hf (by rw [hnx]; exact h4)
      rwa [hnx] at this
    · obtain ⟨ll, cc, ok, hi⟩ := any_info (H := H) r
      exact ⟨0, by omega, fun _ _ => ⟨_, _, _, _, hi, hf⟩, fun h => by omega, fun h => by omega, fun _ _ => hf, fun _ => ⟨hk hrp, hf⟩⟩
  · exact ⟨0, by omega, fun _ h => absurd h hrp, fun h => by omega, fun h => by omega, fun _ h => absurd h hrp, fun h => absurd h (by omega)⟩

structure Around (H : AuH) (L : Nat → List Nat) (p m A la lr : Nat) : Prop where
  used : H.K p = 2
  len : H.ln p = m
  pos : 1 ≤ m
  ahead : A + la = p
  le : p + m + lr ≤ H.p
  leftF : 0 < la → H.K A = 1 ∧ H.ln A = la
  rightF : 0 < lr → H.K (p + m) = 1 ∧ H.ln (p + m) = lr
  firstK : H.K A ≠ 0
  lastK : p + m + lr < H.p → H.K (p + m + lr) ≠ 0 ∧ H.K (p + m + lr) ≠ 1
  kinds : ∀ q, A ≤ q → q < p + m + lr → (q = p ∧ H.K q = 2) ∨ (0 < la ∧ q = A ∧ H.K q = 1) ∨ (0 < lr ∧ q = p + m ∧ H.K q = 1) ∨ (H.K q = 0 ∧ H.cel q 0 = 0 ∧ q ≠ p ∧ ¬ (0 < la ∧ q = A) ∧ ¬ (0 < lr ∧ q = p + m))
  feet : ∀ q, A ≤ q → q < p + m + lr → q + 1 ≠ p + m → ¬ (0 < la ∧ q + 1 = p) → ¬ (0 < lr ∧ q + 1 = p + m + lr) → H.cel q 1 = 0
  free : AuH.sumTo (fun i => H.freeF (A + i)) (la + m + lr) = la + lr
  live : AuH.sumTo (fun i => H.liveF (A + i)) (la + m + lr) = 1
theorem around (h : H.Ok L) {p m A la lr : Nat} (hp : p < H.p) (hk : H.K p = 2) (hm : H.ln p = m) (hA : A + la = p) (hle : p + m + lr ≤ H.p)
    (hl : 0 < la → H.K A = 1 ∧ H.ln A = la) (hr : 0 < lr → H.K (p + m) = 1 ∧ H.ln (p + m) = lr) (hlast : p + m + lr < H.p → H.K (p + m + lr) ≠ 0 ∧ H.K (p + m + lr) ≠ 1) :
    Around H L p m A la lr := by
  obtain ⟨_, s1, s2, s3, s4, s5, s6⟩ := span_at h hp (by omega) (by omega)
  rw [hm] at s1 s2 s3 s4 s5 s6
  have hL : 0 < la → (∀ q, A < q → q < p → H.cel q 0 = 0 ∧ H.K q = 0) ∧ ∀ q, A ≤ q → q + 1 < p → H.cel q 1 = 0 := fun h0 => by
    obtain ⟨_, _, _, _, b4, b5, _⟩ := span_at h (p := A) (by omega) (by have := (hl h0).1; omega) (by have := (hl h0).1; omega)
    rw [(hl h0).2, hA] at b4 b5
    exact ⟨b4, b5⟩
  have hR : 0 < lr → (∀ q, p + m < q → q < p + m + lr → H.cel q 0 = 0 ∧ H.K q = 0) ∧ ∀ q, p + m ≤ q → q + 1 < p + m + lr → H.cel q 1 = 0 := fun h0 => by
    obtain ⟨_, _, _, _, b4, b5, _⟩ := span_at h (p := p + m) (by omega) (by have := (hr h0).1; omega) (by have := (hr h0).1; omega)
    rw [(hr h0).2] at b4 b5
    exact ⟨b4, b5⟩
  have kinds : ∀ q, A ≤ q → q < p + m + lr → (q = p ∧ H.K q = 2) ∨ (0 < la ∧ q = A ∧ H.K q = 1) ∨ (0 < lr ∧ q = p + m ∧ H.K q = 1) ∨ (H.K q = 0 ∧ H.cel q 0 = 0 ∧ q ≠ p ∧ ¬ (0 < la ∧ q = A) ∧ ¬ (0 < lr ∧ q = p + m)) := fun q h1 h2 => by
    by_cases e1 : q = p
    · exact .inl ⟨e1, e1 ▸ hk⟩
    · by_cases e2 : 0 < la ∧ q = A
      · exact .inr (.inl ⟨e2.1, e2.2, e2.2 ▸ (hl e2.1).1⟩)
      · by_cases e3 : 0 < lr ∧ q = p + m
        · exact .inr (.inr (.inl ⟨e3.1, e3.2, e3.2 ▸ (hr e3.1).1⟩))
        · refine .inr (.inr (.inr ?_))
          rcases Nat.lt_or_ge q p with h3 | h3
          · have := (hL (by omega)).1 q (by omega) h3
            exact ⟨this.2, this.1, e1, e2, e3⟩
          · rcases Nat.lt_or_ge q (p + m) with h4 | h4
            · have := s4 q (by omega) h4
              exact ⟨this.2, this.1, e1, e2, e3⟩
            · have := (hR (by omega)).1 q (by omega) h2
              exact ⟨this.2, this.1, e1, e2, e3⟩
  have ff : ∀ q, H.K q = 1 → H.freeF q = H.ln q := fun q h1 => by unfold AuH.freeF; rw [if_pos h1]
  have hsplit : ∀ f : Nat → Nat, AuH.sumTo (fun i => f (A + i)) (la + m + lr) = AuH.sumTo (fun i => f (A + i)) la + AuH.sumTo (fun i => f (p + i)) m + AuH.sumTo (fun i => f (p + m + i)) lr := fun f => by
    rw [AuH.sumTo_split (fun i => f (A + i)) (la + m) lr, AuH.sumTo_split (fun i => f (A + i)) la m]
    have e1 : (fun i => f (A + (la + i))) = fun i => f (p + i) := by funext i; rw [← Nat.add_assoc, hA]
    have e2 : (fun i => f (A + (la + m + i))) = fun i => f (p + m + i) := by funext i; congr 1; omega
    rw [e1, e2]
  have hs2 := sums_at h hp (by omega) (by omega)
  rw [hm] at hs2
  have hs1 : AuH.sumTo (fun i => H.freeF (A + i)) la = la ∧ AuH.sumTo (fun i => H.liveF (A + i)) la = 0 := by
    rcases Nat.eq_zero_or_pos la with h0 | h0
    · subst h0; exact ⟨rfl, rfl⟩
    · have := sums_at h (p := A) (by omega) (by have := (hl h0).1; omega) (by have := (hl h0).1; omega)
      rw [(hl h0).2, ff A (hl h0).1, (hl h0).2] at this
      refine ⟨this.1, this.2.trans ?_⟩
      unfold AuH.liveF
      rw [if_neg (by have := (hl h0).1; omega), if_neg (by have := (hl h0).1; omega)]
  have hs3 : AuH.sumTo (fun i => H.freeF (p + m + i)) lr = lr ∧ AuH.sumTo (fun i => H.liveF (p + m + i)) lr = 0 := by
    rcases Nat.eq_zero_or_pos lr with h0 | h0
    · subst h0; exact ⟨rfl, rfl⟩
    · have := sums_at h (p := p + m) (by omega) (by have := (hr h0).1; omega) (by have := (hr h0).1; omega)
      rw [(hr h0).2, ff (p + m) (hr h0).1, (hr h0).2] at this
      refine ⟨this.1, this.2.trans ?_⟩
      unfold AuH.liveF
      rw [if_neg (by have := (hr h0).1; omega), if_neg (by have := (hr h0).1; omega)]
  exact {
    used := hk, len := hm, pos := s1, ahead := hA, le := hle, leftF := hl, rightF := hr
    firstK := by
      rcases Nat.eq_zero_or_pos la with h0 | h0
      · have : A = p := by omega
        rw [this]; omega
      · have := (hl h0).1; omega
    lastK := hlast, kinds := kinds
    feet := fun q h1 h2 h3 h4 h5 => by
      rcases Nat.lt_or_ge q p with h6 | h6
      · exact (hL (by omega)).2 q h1 (by omega)
      · rcases Nat.lt_or_ge q (p + m) with h7 | h7
        · exact s5 q h6 (by omega)
        · exact (hR (by omega)).2 q h7 (by omega)
    free := by
      rw [hsplit, hs1.1, hs2.1, hs3.1]
      unfold AuH.freeF
      rw [if_neg (by omega)]
      omega
    live := by
      rw [hsplit, hs1.2, hs2.2, hs3.2]
      unfold AuH.liveF
      rw [if_pos hk] }
theorem Around.mem {p m A la lr : Nat} (a : Around H L p m A la lr) (h : H.Ok L) {hd : Nat} (h2 : 2 ≤ hd) (h21 : hd ≤ 21) (y : Nat) : (y ∈ L hd ∧ ¬ (0 < la ∧ y = A) ∧ ¬ (0 < lr ∧ y = p + m)) ↔ (y ∈ L hd ∧ ¬ (A ≤ y ∧ y < p + m + lr)) := by
  have hAp := a.ahead
  constructor
  · rintro ⟨b1, b2, b3⟩
    refine ⟨b1, fun b4 => ?_⟩
    have ht := ((h.mem hd h2 h21 y).1 b1).2
    rcases a.kinds y b4.1 b4.2 with ⟨_, h5⟩ | ⟨h5, h6, _⟩ | ⟨h5, h6, _⟩ | ⟨h5, _⟩
    · rw [AuH.tgt_used h5] at ht; omega
    · exact b2 ⟨h5, h6⟩
    · exact b3 ⟨h5, h6⟩
    · rw [AuH.tgt_none h5] at ht; omega
  · rintro ⟨b1, b2⟩
    have hpos := a.pos
    exact ⟨b1, fun b3 => b2 ⟨by omega, by omega⟩, fun b3 => b2 ⟨by omega, by omega⟩⟩
theorem release_heap (HV : HeapV H n c) (h : H.Ok L) (W : Work H.t H.p H.s n K st L H.V) {p m : Nat} (hp : p < H.p) (hk : H.K p = 2) (hm : H.ln p = m) :
    ∃ L' g' A la lr, Work H.t H.p H.s n K (releaseS n K H.t H.p H.s p m st) L' g' ∧ RelaidG H g' L L' A 0 (la + m + lr) ∧ Around H L p m A la lr ∧ g' 1 = H.V 1 ∧ g' 0 = H.V 0 + m := by
  have hf := HV.fit
  have hP := hf.nums
  have hv1 := (free_few h hP.2).2
  obtain ⟨hnx, s1, s2, s3, _⟩ := span_at h hp (by omega) (by omega)
  rw [hm] at hnx s1 s2 s3
  obtain ⟨A, la, hA, l0, l1, l2, l3⟩ := left_of_span h hp (by omega) (by omega)
  obtain ⟨lr, r0, r1, r2, r3, r4, r5⟩ := right_of_span h (r := p + m) s3 s2
  have a := around h hp hk hm hA r0 l2 r3 r5
  obtain ⟨L', g', W', m', z0, z1, zi, zf, zb⟩ := W.release hf (p := p) (m := m) (A := A) (la := la) (lr := lr) s1 r0 hA l0 l1 r1 r2 (fun hd a2 a21 hx => by
    rcases Nat.eq_zero_or_pos la with h0 | h0
    · have : A = p := by omega
      have ht := ((h.mem hd a2 a21 A).1 hx).2
      rw [this, AuH.tgt_used hk] at ht
      omega
    · exact h0) (by omega)
  refine ⟨L', g', A, la, lr, W', ?_, a, z1 1 (by omega) (by omega), z0⟩
  have e : A + 0 + (la + m + lr) = p + m + lr := by omega
  exact {
    pos := by omega
    whole := by rw [e]; exact ⟨by omega, r0, a.firstK, fun h1 => (a.lastK h1).1⟩
    noslab := fun q h1 h2 => by rcases a.kinds q h1 (by omega) with ⟨_, h3⟩ | ⟨_, _, h3⟩ | ⟨_, _, h3⟩ | ⟨h3, _⟩ <;> omega
    left := fun _ => l3
    right := fun _ h1 => by rw [e] at h1 ⊢; exact (a.lastK h1).2
    used := fun h1 => by omega
    rest := fun _ => by rw [Nat.add_zero, zi, if_pos rfl]
    blank := fun q h1 h2 h3 h4 => by
      rw [zi, if_neg (by omega)]
      split
      · rfl
      · rename_i h5
        rcases a.kinds q h1 (by omega) with ⟨h6, _⟩ | ⟨_, h6, _⟩ | ⟨h6, h7, _⟩ | ⟨_, h6, _⟩
        · exfalso; exact h5 (.inl ⟨by omega, h6⟩)
        · omega
        · exact absurd (.inr ⟨h6, h7⟩) h5
        · exact h6
    infos := fun q h1 h2 => by rw [zi, if_neg (by omega), if_neg (by omega)]; rfl
    footu := fun h1 => by omega
    footr := fun _ => by rw [zf, if_pos (by omega)]
    blankf := fun q h1 h2 h3 h4 => by
      rw [zf, if_neg (by omega)]
      split
      · rfl
      · rename_i h5
        exact a.feet q h1 (by omega) (by omega) (by omega) (by omega)
    feet := fun q h1 h2 => by rw [zf, if_neg (by omega), if_neg (by omega)]; rfl
    bits := fun q h1 => zb q
    mem := fun hd a2 a21 y => by
      rw [m' hd a2 a21 y, a.mem h a2 a21 y, e]
      constructor
      · rintro (h1 | ⟨h1, h2⟩)
        · exact .inl h1
        · exact .inr ⟨by omega, by omega, h2⟩
      · rintro (h1 | ⟨_, h1, h2⟩)
        · exact .inl h1
        · exact .inr ⟨by omega, h2⟩
    free := by rw [z0, Nat.zero_add, a.free]; omega
    roots := fun i hi => z1 (22 + i) (by omega) (by omega) }
end
end Go.Proofs.YtnamlhkccgnbfaaGreat

namespace Go.Proofs.YtnamlhkccgnbfaaGreat
open Go.ChangeShapes Go.WideShapes Go.ChangeAt Go.RowKit Go.Maps
set_option linter.unusedVariables false
set_option linter.unusedSimpArgs false

section
variable {H : AuH} {n c : Nat} {K : Nat → Option Nat} {st : Vst} {L L' : Nat → List Nat} {g : Nat → Nat} {A k e : Nat}
def nowH (H : AuH) (n : Nat) (K : Nat → Option Nat) (st : Vst) : AuH := H.re (curV n (getV n K st) H.V)
theorem Work.again (W : Work H.t H.p H.s n K st L g) : Work H.t H.p H.s n K st L (nowH H n K st).V :=
  ⟨W.lists, fun i hi _ => (curV_in hi).symm, W.out⟩
theorem nowH_heap (HV : HeapV H n c) (hok : VOk n st) (h32 : ∀ i x, K i = some x → x < 2 ^ 32) {cp : Nat} (hcp : n ≤ cp) (hcm : cp ≤ maxLen) : HeapV (nowH H n K st) n cp :=
  ⟨HV.right, HV.len, hcp, hcm, fun i hi => by
    show curV n (getV n K st) H.V i < 2 ^ 32
    rw [curV_in hi]
    exact getV_lt hok h32⟩
theorem done_ok (HV : HeapV H n c) (h : H.Ok L) (W : Work H.t H.p H.s n K st L' g) (R : RelaidG H g L L' A k e)
    (live : g 1 + AuH.sumTo (fun i => H.liveF (A + i)) (k + e) = H.V 1 + (if 0 < k then 1 else 0))
    (named : ∀ i, i < 8 → H.V (22 + i) ≠ 0 → A ≤ (spotP H.t H.p H.s (H.V (22 + i) : Int)).toNat → (spotP H.t H.p H.s (H.V (22 + i) : Int)).toNat < A + k + e → 0 < k ∧ (spotP H.t H.p H.s (H.V (22 + i) : Int)).toNat = A) :
    (nowH H n K st).Ok L' ∧ (∀ i, i < 8 → (nowH H n K st).V (22 + i) = H.V (22 + i)) ∧ (nowH H n K st).V 0 = g 0 ∧ (nowH H n K st).V 1 = g 1 ∧
      ∃ X Y, blocksOf H.parts = X ++ blocksOf (AuH.catTo (fun i => H.partsAt (A + i)) (k + e)) ++ Y ∧
        blocksOf (nowH H n K st).parts = X ++ (if 0 < k then [(H.first A, (k : Int) * (H.pg : Int))] else []) ++ Y ∧
        (∀ b ∈ X, b.1 < H.first A) ∧ ∀ b ∈ Y, H.first (A + k + e) ≤ b.1 := by
  have hP := HV.fit.nums
  have hlen := HV.len
  have T := relaid_of HV h W R live named
  exact ⟨T.ok h hP.2, T.roots, W.low hlen (.inl (by omega)), W.low hlen (.inl (by omega)), AuH.blocks_relaid T h HV hP.2⟩
theorem blocks_only {f : Nat → List (Int × Int × Int)} {i0 : Nat} : ∀ m, i0 < m → (∀ i, i < m → i ≠ i0 → blocksOf (f i) = []) → blocksOf (AuH.catTo f m) = blocksOf (f i0)
  | 0, h, _ => by omega
  | m + 1, h, ho => by
    show blocksOf (AuH.catTo f m ++ f m) = _
    rw [blocksOf_app]
    rcases Nat.lt_or_ge i0 m with h1 | h1
    · rw [blocks_only m h1 (fun i hi hne => ho i (by omega) hne), ho m (by omega) (by omega), List.append_nil]
    · obtain rfl : i0 = m := by omega
      have : ∀ j, j ≤ i0 → blocksOf (AuH.catTo f j) = [] := fun j => by
        induction j with
        | zero => intro _; rfl
        | succ j ih =>
          intro hj
          show blocksOf (AuH.catTo f j ++ f j) = _
          rw [blocksOf_app, ih (by omega), ho j (by omega) (by omega)]
          rfl
      rw [this i0 (Nat.le_refl _), List.nil_append]
theorem blocks_none {f : Nat → List (Int × Int × Int)} : ∀ m, (∀ i, i < m → blocksOf (f i) = []) → blocksOf (AuH.catTo f m) = []
  | 0, _ => rfl
  | m + 1, h => by
    show blocksOf (AuH.catTo f m ++ f m) = _
    rw [blocksOf_app, blocks_none m (fun i hi => h i (by omega)), h m (by omega)]
    rfl
theorem page_none {q : Nat} (hk : H.K q = 0 ∨ H.K q = 1) : blocksOf (H.partsAt q) = [] := by
  unfold AuH.partsAt
  rcases hk with h | h
  · rw [if_neg (by omega), if_neg (by omega), if_neg (by omega)]; rfl
  · rw [if_pos h]; exact blocksOf_no (by simp)
theorem page_used {q : Nat} (hk : H.K q = 2) : blocksOf (H.partsAt q) = [(H.first q, (H.ln q : Int) * (H.pg : Int))] := by
  unfold AuH.partsAt
  rw [if_neg (by omega), if_pos hk]
  exact blocksOf_yes rfl
theorem blocks_free (h : H.Ok L) {p : Nat} (hp : p < H.p) (hk : H.K p = 1) : blocksOf (AuH.catTo (fun i => H.partsAt (p + i)) (H.ln p)) = [] := by
  obtain ⟨_, _, _, _, h4, _⟩ := span_at h hp (by omega) (by omega)
  refine blocks_none _ (fun i hi => page_none ?_)
  by_cases e : i = 0
  · subst e; exact .inr hk
  · exact .inl (h4 (p + i) (by omega) (by omega)).2
theorem Around.blocks {p m A la lr : Nat} (a : Around H L p m A la lr) : blocksOf (AuH.catTo (fun i => H.partsAt (A + i)) (la + m + lr)) = [(H.first p, (m : Int) * (H.pg : Int))] := by
  have hA := a.ahead
  have hpos := a.pos
  rw [blocks_only (f := fun i => H.partsAt (A + i)) (i0 := la) (la + m + lr) (by omega) (fun i hi hne => ?_)]
  · show blocksOf (H.partsAt (A + la)) = _
    rw [hA, page_used a.used, a.len]
  · refine page_none ?_
    rcases a.kinds (A + i) (by omega) (by omega) with ⟨h5, _⟩ | ⟨_, _, h5⟩ | ⟨_, _, h5⟩ | ⟨h5, _⟩
    · omega
    · exact .inr h5
    · exact .inr h5
    · exact .inl h5
theorem Around.root {p m A la lr : Nat} (a : Around H L p m A la lr) (h : H.Ok L) {i : Nat} (hi : i < 8) (hv : H.V (22 + i) ≠ 0) (h1 : A ≤ (spotP H.t H.p H.s (H.V (22 + i) : Int)).toNat) (h2 : (spotP H.t H.p H.s (H.V (22 + i) : Int)).toNat < p + m + lr) :
    (spotP H.t H.p H.s (H.V (22 + i) : Int)).toNat = p ∧ spotB H.t H.p H.s (H.V (22 + i) : Int) = true ∧ spotO H.t H.p H.s (H.V (22 + i) : Int) = 0 := by
  obtain ⟨h3, h4⟩ := h.roots i hi hv
  have hk := a.kinds _ h1 h2
  rcases h4 with ⟨h5, h6⟩ | ⟨h5, _⟩
  · rcases hk with ⟨h7, _⟩ | ⟨_, _, h7⟩ | ⟨_, _, h7⟩ | ⟨h7, _⟩
    · exact ⟨h7, h3, h6⟩
    · omega
    · omega
    · omega
  · exfalso
    rcases hk with ⟨_, h7⟩ | ⟨_, _, h7⟩ | ⟨_, _, h7⟩ | ⟨h7, _⟩ <;> omega
theorem free_root (h : H.Ok L) {p : Nat} (hp : p < H.p) (hk : H.K p = 1) {i : Nat} (hi : i < 8) (hv : H.V (22 + i) ≠ 0) (h1 : p ≤ (spotP H.t H.p H.s (H.V (22 + i) : Int)).toNat) (h2 : (spotP H.t H.p H.s (H.V (22 + i) : Int)).toNat < p + H.ln p) : False := by
  obtain ⟨_, _, _, _, h4, _⟩ := span_at h hp (by omega) (by omega)
  have h5 := root_live h hi hv
  generalize (spotP H.t H.p H.s (H.V (22 + i) : Int)).toNat = q at *
  by_cases e : q = p
  · subst e; omega
  · have := (h4 q (by omega) h2).2
    omega
end
end Go.Proofs.YtnamlhkccgnbfaaGreat

namespace Go.Proofs.YtnamlhkccgnbfaaGreat
open Go.ChangeShapes Go.WideShapes Go.ChangeAt Go.RowKit Go.Shelf
set_option linter.unusedVariables false
set_option linter.unusedSimpArgs false


set_option maxHeartbeats 1600000 in
theorem xSound_c (t q s : Int) (A : Option Addr) (n c m : Nat) (b : Bool) (w : World) (hC : XCheckIs w t q s A n c m b) :
    Calls Tryz.prog 8 #[.agg #[.int .i64 t, .int .i64 q, .int .i64 s], .slice A n c] w fun e w' => e = .returned (.bool b) ∧ Below w.heap.size w w' := by
  have HX0 := hidp (Held.new w 23 #[.int .i64 t, .int .i64 q, .int .i64 s])
  obtain ⟨c0, c1, c2⟩ := HX0.out.three
  have HBW := hidp (Bnew (B0 w) (.cells #[.int .i64 t, .int .i64 q, .int .i64 s] 23))
  have HCK := hidp (hC _ HBW.out)
  clear hC
  go_enter Tryz.func8, Tryz.ntmps8
  go_wp2_with (first
    | (go_at_call 32; refine HCK.out.mono ?_; rintro e w2 ⟨rfl, hb2⟩; have HB2 := hidp (Bgo HBW.out hb2); clear hb2)
    | fail)
  go_ret
  exact ⟨rfl, HB2.out⟩


set_option maxHeartbeats 1600000 in
theorem xLiveTop_yes {H : AuH} {n c : Nat} (HV : HeapV H n c) (ad : Addr) (m : Nat) (w : World) (hv : IsVals w ad n H.V) (hC : XCheckIs w H.t H.p H.s (some ad) n c m true) :
    Calls Tryz.prog 62 #[.agg #[.int .i64 (H.t : Int), .int .i64 (H.p : Int), .int .i64 (H.s : Int)], .slice (some ad) n c] w fun e w' => ∃ u, e = .returned u ∧ w'.ownsRow w.heap.size 64 2 u (blocksOf H.parts).length (bkVs (blocksOf H.parts)) ∧ Below w.heap.size w w' := by
  have HX0 := hidp (Held.new w 23 #[.int .i64 (H.t : Int), .int .i64 (H.p : Int), .int .i64 (H.s : Int)])
  obtain ⟨c0, c1, c2⟩ := HX0.out.three
  have HBW := hidp (Bnew (B0 w) (.cells #[.int .i64 (H.t : Int), .int .i64 (H.p : Int), .int .i64 (H.s : Int)] 23))
  have HSO := hidp (xSound_c (H.t : Int) (H.p : Int) (H.s : Int) (some ad) n c m true _ (hC.grown HBW.out))
  have HPP := hidp (fun (W : World) (h1 : Below w.heap.size w W) => xBlocks_c HV ad W (hv.below h1))
  unfold hpV at HPP
  clear hC hv
  go_enter Tryz.func62, Tryz.ntmps62
  go_wp2_with (first
    | (go_at_call 8; refine HSO.out.mono ?_; rintro e w2 ⟨rfl, hb2⟩; have HX2 := hidp (HX0.out.keep hb2); have HB2 := hidp (Bgo HBW.out hb2); have HB3 := hidp (Bnew HB2.out (.cells #[.int .i64 (H.t : Int), .int .i64 (H.p : Int), .int .i64 (H.s : Int), .slice (some ad) n c] 101)); clear hb2 c0 c1 c2; obtain ⟨c0, c1, c2⟩ := HX2.out.three; obtain ⟨x0, x1, x2, x3⟩ := (Held.new w2 101 #[.int .i64 (H.t : Int), .int .i64 (H.p : Int), .int .i64 (H.s : Int), .slice (some ad) n c]).four)
    | (go_at_call 98; refine (HPP.out _ HB3.out).mono ?_; rintro e w4 ⟨u, rfl, hown4, hb4⟩; have HO4 := hidp hown4; have HB4 := hidp (Bgo HB3.out hb4); clear hown4 hb4)
    | fail)
  go_ret
  exact ⟨u, rfl, own_down HO4.out HB3.out.size, HB4.out⟩


end Go.Proofs.YtnamlhkccgnbfaaGreat

namespace Go.Proofs.YtnamlhkccgnbfaaGreat
open Go.ChangeShapes Go.WideShapes Go.ChangeAt Go.RowKit
set_option linter.unusedVariables false
set_option maxRecDepth 100000

section
variable {H : Type} {enc : TypeId × Value → H} {P : Program} {w : World} {base : Nat} {sp : Nat → Bool} {held : Bool}
theorem open_vals {t e : TypeId} {v : Value} {d : DataW H} {p : List MemPlace} (ht : P.underlying t = some (.slice e)) (he : P.underlying e = some (.int .u32)) (hc : P.cellsOf e = 1)
    {r : Reach} {b0 : Nat} (hval : Value.okWide P w r b0 t v) (h : DataW.Trod enc P w base sp held t v d p) (hlt : ∀ x ∈ p, x.block < w.heap.size) :
    ∃ (A : Option Addr) (c : Nat) (ws : List Nat), v = .slice A ws.length c ∧ ws.length ≤ c ∧ c ≤ maxLen ∧ (∀ x ∈ ws, x < 2 ^ 32) ∧ Reads w w.heap.size 1 A ws.length (valVs ws) := by
  obtain ⟨fuel, hf⟩ := h
  have hv : v.cells = #[v] := by
    obtain ⟨A, n, c, rfl⟩ := okWide_slice ht hval
    rfl
  rw [hv] at hf
  rcases open_ints ht he hc hf with ⟨hcs, _⟩ | ⟨a, len, cap, zs, hcs, hb, hl, hm, hz, hx, hcell, hwf⟩
  · injection hcs with hcs
    subst hcs
    exact ⟨none, 0, [], rfl, Nat.le_refl _, Nat.zero_le _, by simp, Reads.none_⟩
  · injection hcs with hcs
    subst hcs
    have hlz : len ≤ zs.length := by rw [hz]; split <;> omega
    have hlen : ((zs.take len).map Int.toNat).length = len := by simp; omega
    refine ⟨some a, cap, (zs.take len).map Int.toNat, by rw [hlen], by rw [hlen]; exact hl, hm, ?_, ?_⟩
    · intro x hx
      obtain ⟨z, hz1, rfl⟩ := List.mem_map.1 hx
      obtain ⟨n, rfl, hn⟩ := u32_nat (hwf z (List.mem_of_mem_take hz1))
      simpa using hn
    · refine ⟨by rw [valVs_len]; omega, fun hn => ?_⟩
      rw [hlen] at hn
      refine ⟨a, rfl, ?_, fun j u hu => ?_⟩
      · have hp : (p : List MemPlace) = MemPlace.row a zs.length := by
          have := congrArg Prod.snd hx
          simpa using this
        have h0 : MemPlace.cell a.block a.off ∈ p ∨ (∃ x ∈ p, x.block = a.block) := by
          right
          rw [hp]
          refine ⟨(MemPlace.row a zs.length)[0]'(by simp [MemPlace.row]; omega), List.getElem_mem _, ?_⟩
          simp [MemPlace.row, MemPlace.block]
        rcases h0 with h0 | ⟨x, hx1, hx2⟩
        · exact hlt _ h0
        · rw [← hx2]; exact hlt x hx1
      · unfold valVs at hu
        rw [List.map_map] at hu
        have hj : j < len := by
          rcases Nat.lt_or_ge j len with h1 | h1
          · exact h1
          · rw [List.getElem?_eq_none (by simp; omega)] at hu; cases hu
        rw [List.getElem?_map, List.getElem?_take_of_lt hj, List.getElem?_eq_getElem (by omega)] at hu
        simp only [Option.map_some, Option.some.injEq, Function.comp_apply] at hu
        subst hu
        rw [hcell j (by omega)]
        have hw := hwf zs[j] (List.getElem_mem _)
        obtain ⟨n, hn1, _⟩ := u32_nat hw
        have : (zs.getD j 0) = zs[j] := by simp [List.getD, List.getElem?_eq_getElem (show j < zs.length by omega)]
        rw [this, hn1]
        simp
end
end Go.Proofs.YtnamlhkccgnbfaaGreat

namespace Go.Proofs.YtnamlhkccgnbfaaGreat
open Go.ChangeShapes Go.WideShapes Go.ChangeAt Go.RowKit
set_option linter.unusedVariables false

theorem heap13_of (W : World) (t q s : Int) (A : Option Addr) (c : Nat) (vals : List Nat) (hnc : vals.length ≤ c) (hcm : c ≤ maxLen) (h32 : ∀ x ∈ vals, x < 2 ^ 32) (hR : Reads W W.heap.size 1 A vals.length (valVs vals)) (h : lC t q s ≠ 0 ∧ (vals.length : Int) = lC t q s) :
    ∃ (H : AuH) (ad : Addr), t = H.t ∧ q = H.p ∧ s = H.s ∧ A = some ad ∧ (∀ i, H.V i = vals.getD i 0) ∧ HeapV H vals.length c ∧ IsVals W ad vals.length H.V := by
  cases hr : rightB t q s
  · exact absurd (lay_no hr).5 h.1
  · have hn := (rightB_iff t q s).1 hr
    have hl := (lay_yes hr).5
    have hlen : 0 < vals.length := by have := h.2; rw [hl] at this; omega
    obtain ⟨ad, rfl, hb, hc⟩ := hR.2 hlen
    have hx : ∀ i, i < vals.length → vals[i]? = some (vals.getD i 0) := fun i hi => by simp [List.getD, List.getElem?_eq_getElem hi]
    refine ⟨⟨t.toNat, q.toNat, s.toNat, fun i => vals.getD i 0⟩, ad, by show t = _; simp; omega, by show q = _; simp; omega, by show s = _; simp; omega, rfl, fun i => rfl, ⟨?_, ?_, hnc, hcm, fun i hi => ?_⟩, hb, fun i hi => ?_⟩
    · show rightB ((t.toNat : Nat) : Int) ((q.toNat : Nat) : Int) ((s.toNat : Nat) : Int) = true
      rw [show ((t.toNat : Nat) : Int) = t by omega, show ((q.toNat : Nat) : Int) = q by omega, show ((s.toNat : Nat) : Int) = s by omega]
      exact hr
    · show vals.length = 30 + 4 * t.toNat + 6 * q.toNat
      have := h.2
      rw [hl] at this
      omega
    · exact h32 _ (List.mem_of_getElem? (hx i hi))
    · refine hc i _ ?_
      unfold valVs
      rw [List.getElem?_map, hx i hi]
      rfl
theorem heap13_or (W : World) (t q s : Int) (A : Option Addr) (c : Nat) (vals : List Nat) (hnc : vals.length ≤ c) (hcm : c ≤ maxLen) (h32 : ∀ x ∈ vals, x < 2 ^ 32) (hR : Reads W W.heap.size 1 A vals.length (valVs vals)) :
    (∃ m, XCheckIs W t q s A vals.length c m false) ∨ ∃ (H : AuH) (ad : Addr) (m : Nat), t = H.t ∧ q = H.p ∧ s = H.s ∧ A = some ad ∧ (∀ i, H.V i = vals.getD i 0) ∧ HeapV H vals.length c ∧ IsVals W ad vals.length H.V ∧ H.Told m true ∧ XCheckIs W H.t H.p H.s (some ad) vals.length c m true := by
  by_cases h : lC t q s ≠ 0 ∧ (vals.length : Int) = lC t q s
  · obtain ⟨H, ad, rfl, rfl, rfl, rfl, hV, HV, hv⟩ := heap13_of W t q s A c vals hnc hcm h32 hR h
    obtain ⟨m, b, hto⟩ := H.told_is
    have hX := xCheckIs_yes HV ad W hv hto
    cases b with
    | true => exact .inr ⟨H, ad, m, rfl, rfl, rfl, rfl, hV, HV, hv, hto, hX⟩
    | false => exact .inl ⟨m, hX⟩
  · exact .inl ⟨1, xCheckIs_no W t q s A vals.length c hnc hcm h⟩
end Go.Proofs.YtnamlhkccgnbfaaGreat

namespace Go.Proofs.YtnamlhkccgnbfaaGreat
open Go.ChangeShapes Go.WideShapes Go.ChangeAt Go.RowKit Go.Maps
set_option linter.unusedVariables false
set_option linter.unusedSimpArgs false

theorem told_rules {H : AuH} {m : Nat} (h : H.Told m true) : ∀ i, i < 10 → H.rule i := by
  rcases h with ⟨_, _, h⟩ | ⟨h, _⟩
  · exact h
  · cases h
end Go.Proofs.YtnamlhkccgnbfaaGreat

namespace Go.Proofs.YtnamlhkccgnbfaaGreat
open Go.ChangeShapes Go.WideShapes Go.ChangeAt Go.RowKit Go.Maps
set_option linter.unusedVariables false
set_option linter.unusedSimpArgs false

def addStep (b : Int × Int) (s : List (Int × Int) × Bool) (x : Int × Int) : List (Int × Int) × Bool :=
  if s.2 = false ∧ b.1 < x.1 then (s.1 ++ [b] ++ [x], true) else (s.1 ++ [x], s.2)
def addTo (b : Int × Int) (L : List (Int × Int)) : List (Int × Int) × Bool := L.foldl (addStep b) ([], false)
def addB (L : List (Int × Int)) (b : Int × Int) : List (Int × Int) := if (addTo b L).2 = true then (addTo b L).1 else (addTo b L).1 ++ [b]
theorem addTo_snoc (b x : Int × Int) (L : List (Int × Int)) : addTo b (L ++ [x]) = addStep b (addTo b L) x := by
  unfold addTo
  rw [List.foldl_append]
  rfl
theorem addTo_len (b : Int × Int) : ∀ (L : List (Int × Int)) (s : List (Int × Int) × Bool), (L.foldl (addStep b) s).1.length ≤ s.1.length + L.length + (if s.2 = true then 0 else 1)
  | [], s => by simp
  | x :: L, s => by
    rw [List.foldl_cons]
    have h := addTo_len b L (addStep b s x)
    unfold addStep at h ⊢
    split at h
    · rename_i hc
      rw [if_pos hc] at ⊢
      rw [hc.1]
      simp at h ⊢
      omega
    · rename_i hc
      rw [if_neg hc] at ⊢
      simp at h ⊢
      omega
theorem addTo_low {b : Int × Int} : ∀ (X acc : List (Int × Int)), (∀ x ∈ X, x.1 ≤ b.1) → X.foldl (addStep b) (acc, false) = (acc ++ X, false)
  | [], acc, _ => by simp
  | x :: X, acc, h => by
    rw [List.foldl_cons]
    have h1 := h x (List.mem_cons_self ..)
    unfold addStep
    rw [if_neg (by simp; omega)]
    have := addTo_low X (acc ++ [x]) (fun y hy => h y (List.mem_cons_of_mem _ hy))
    unfold addStep at this
    rw [this]
    simp
theorem addTo_over {b : Int × Int} : ∀ (Y acc : List (Int × Int)), Y.foldl (addStep b) (acc, true) = (acc ++ Y, true)
  | [], acc => by simp
  | y :: Y, acc => by
    rw [List.foldl_cons]
    unfold addStep
    rw [if_neg (by simp)]
    have := addTo_over (b := b) Y (acc ++ [y])
    unfold addStep at this
    rw [this]
    simp
theorem addB_mid {X Y : List (Int × Int)} {b : Int × Int} (hX : ∀ x ∈ X, x.1 < b.1) (hY : ∀ y ∈ Y, b.1 < y.1) : addB (X ++ Y) b = X ++ [b] ++ Y := by
  have e : addTo b (X ++ Y) = Y.foldl (addStep b) (X, false) := by
    unfold addTo
    rw [List.foldl_append, addTo_low X [] (fun x hx => by have := hX x hx; omega)]
    rfl
  unfold addB
  rw [e]
  cases Y with
  | nil => simp
  | cons y Y =>
    have h1 := hY y (List.mem_cons_self ..)
    rw [List.foldl_cons]
    have e2 : addStep b (X, false) y = (X ++ [b] ++ [y], true) := by
      unfold addStep
      rw [if_pos ⟨rfl, h1⟩]
    rw [e2, addTo_over]
    simp
def offB (a : Int) (L : List (Int × Int)) : List (Int × Int) := L.filter fun x => decide (x.1 ≠ a)
theorem offB_all {a : Int} {L : List (Int × Int)} (h : ∀ x ∈ L, x.1 ≠ a) : offB a L = L := by
  unfold offB
  rw [List.filter_eq_self]
  exact fun x hx => decide_eq_true (h x hx)
theorem offB_mid {X Y : List (Int × Int)} {b : Int × Int} (hX : ∀ x ∈ X, x.1 < b.1) (hY : ∀ y ∈ Y, b.1 < y.1) : offB b.1 (X ++ [b] ++ Y) = X ++ Y := by
  have e : offB b.1 (X ++ [b] ++ Y) = offB b.1 X ++ offB b.1 [b] ++ offB b.1 Y := by unfold offB; simp
  rw [e, offB_all (fun x hx => by have := hX x hx; omega), offB_all (L := Y) (fun x hx => by have := hY x hx; omega)]
  unfold offB
  simp

def upS (n : Nat) (K : Nat → Option Nat) (st : Vst) : Vst := putS n (getS n K st 1) 1 (add32 (getV n K st 1) 1)
def downS (n : Nat) (K : Nat → Option Nat) (st : Vst) : Vst := putS n (getS n K st 1) 1 (sub32 (getV n K st 1) 1)
section
variable {H : AuH} {n c : Nat} {K : Nat → Option Nat} {st s' : Vst} {L L' : Nat → List Nat} {g : Nat → Nat} {A k e : Nat}
theorem Work.up (W : Work H.t H.p H.s n K st L' g) (hf : Fit H.t H.p H.s n) (h2 : g 1 + 1 < 4294967296) : Work H.t H.p H.s n K (upS n K st) L' (updF g 1 (g 1 + 1)) := by
  have hlen := hf.len
  unfold upS
  have e : getV n K st 1 = g 1 := W.near 1 (by omega) (low_far (i := 1) (.inl (by omega)))
  have e2 := add32_small (a := g 1) (m := 1) h2
  rw [e, show ((1 : Nat) : Int) = 1 from rfl] at *
  rw [e2]
  exact (W.get 1).put (i := 1) (by omega) (low_far (.inl (by omega))) _
theorem Work.down (W : Work H.t H.p H.s n K st L' g) (hf : Fit H.t H.p H.s n) (h1 : 1 ≤ g 1) (h2 : g 1 < 4294967296) : Work H.t H.p H.s n K (downS n K st) L' (updF g 1 (g 1 - 1)) := by
  have hlen := hf.len
  unfold downS
  have e : getV n K st 1 = g 1 := W.near 1 (by omega) (low_far (i := 1) (.inl (by omega)))
  have e2 := sub32_small (a := g 1) (m := 1) h1 h2
  rw [e, show ((1 : Nat) : Int) = 1 from rfl] at *
  rw [e2]
  exact (W.get 1).put (i := 1) (by omega) (low_far (.inl (by omega))) _
theorem RelaidG.live (R : RelaidG H g L L' A k e) (v : Nat) : RelaidG H (updF g 1 v) L L' A k e := by
  have e1 : ∀ q b, updF g 1 v (pc H.t q b) = g (pc H.t q b) := fun q b => by unfold updF pc; rw [if_neg (by omega)]
  exact {
    pos := R.pos, whole := R.whole, noslab := R.noslab, left := R.left, right := R.right
    used := fun h => by rw [e1]; exact R.used h
    rest := fun h => by rw [e1]; exact R.rest h
    blank := fun q h1 h2 h3 h4 => by rw [e1]; exact R.blank q h1 h2 h3 h4
    infos := fun q h1 h2 => by rw [e1]; exact R.infos q h1 h2
    footu := fun h => by rw [e1]; exact R.footu h
    footr := fun h => by rw [e1]; exact R.footr h
    blankf := fun q h1 h2 h3 h4 => by rw [e1]; exact R.blankf q h1 h2 h3 h4
    feet := fun q h1 h2 => by rw [e1]; exact R.feet q h1 h2
    bits := fun q h1 => by rw [e1, e1]; exact R.bits q h1
    mem := R.mem
    free := by rw [updF_other _ _ (by omega)]; exact R.free
    roots := fun i hi => by rw [updF_other _ _ (by omega)]; exact R.roots i hi }
theorem first_lt (H : AuH) {a b : Nat} (h : a < b) : H.first a < H.first b := by
  unfold AuH.first
  have : 0 < H.pg := Nat.two_pow_pos _
  exact Int.mul_lt_mul_of_pos_right (by omega) (by omega)
theorem live_few (h : H.Ok L) (hP : H.p ≤ 1024) : H.V 1 = AuH.sumTo H.liveF H.p ∧ H.V 1 ≤ 32768 := by
  have h1 := (AuH.sums_le (H := H) H.p hP).2
  have h2 := h.counts.2
  rw [Nat.mod_eq_of_lt (by omega)] at h2
  exact ⟨h2, by omega⟩
theorem sum_only {f : Nat → Nat} {i0 : Nat} : ∀ m, i0 < m → (∀ i, i < m → i ≠ i0 → f i = 0) → AuH.sumTo f m = f i0
  | 0, h, _ => by omega
  | m + 1, h, ho => by
    show AuH.sumTo f m + f m = _
    rcases Nat.lt_or_ge i0 m with h1 | h1
    · rw [sum_only m h1 (fun i hi hne => ho i (by omega) hne), ho m (by omega) (by omega), Nat.add_zero]
    · obtain rfl : i0 = m := by omega
      have : AuH.sumTo f i0 = 0 := by
        have := AuH.sumTo_le f 0 i0 (fun q hq => by have := ho q (by omega) (by omega); omega)
        omega
      rw [this]
      omega
theorem Around.lives {p m la lr : Nat} (a : Around H L p m A la lr) : AuH.sumTo (fun i => H.liveF (A + i)) (la + m + lr) = 1 := by
  have hA := a.ahead
  have hpos := a.pos
  rw [sum_only (f := fun i => H.liveF (A + i)) (i0 := la) (la + m + lr) (by omega) (fun i hi hne => ?_)]
  · show H.liveF (A + la) = 1
    rw [hA]
    unfold AuH.liveF
    rw [if_pos a.used]
  · show H.liveF (A + i) = 0
    unfold AuH.liveF
    rcases a.kinds (A + i) (by omega) (by omega) with ⟨h5, _⟩ | ⟨_, _, h5⟩ | ⟨_, _, h5⟩ | ⟨h5, _⟩
    · omega
    · rw [if_neg (by omega), if_neg (by omega)]
    · rw [if_neg (by omega), if_neg (by omega)]
    · rw [if_neg (by omega), if_neg (by omega)]
theorem free_live (h : H.Ok L) {p : Nat} (hp : p < H.p) (hk : H.K p = 1) : AuH.sumTo (fun i => H.liveF (p + i)) (H.ln p) = 0 := by
  rw [(sums_at h hp (by omega) (by omega)).2]
  unfold AuH.liveF
  rw [if_neg (by omega), if_neg (by omega)]
theorem Work.looked (W : Work H.t H.p H.s n K st L' g) (h : Looked n K st s') : Work H.t H.p H.s n K s' L' g :=
  ⟨⟨h.vw, fun hd a2 a21 => (W.lists.has hd a2 a21).congr (by rw [h.val]) (fun u _ => by rw [h.val]; exact ⟨rfl, rfl⟩), W.lists.apart⟩, fun i hi hc => by rw [h.val]; exact W.near i hi hc, fun q hq ho => by rw [h.val]; exact W.out q hq ho⟩
theorem find_look (HV : HeapV H n c) (hr : ∀ i, i < 10 → H.rule i) (hK : ∀ i, i < n → K i = some (H.V i)) (nn : Int) :
    ((findI n K H.t H.p H.s nn freshS).1 = none ∧ (findI n K H.t H.p H.s nn freshS).2.wr = []) ∨
      ∃ (p m : Nat), nn = (m : Int) ∧ (findI n K H.t H.p H.s nn freshS).1 = some p ∧ Looked n K freshS (findI n K H.t H.p H.s nn freshS).2 ∧ p < H.p ∧ H.K p = 1 ∧ 1 ≤ m ∧ m ≤ H.ln p := by
  by_cases h1 : 1 ≤ nn ∧ nn ≤ H.p
  · obtain ⟨m, rfl⟩ := Int.eq_ofNat_of_zero_le (show 0 ≤ nn by omega)
    have hP := HV.fit.nums
    obtain ⟨k, hk, hk10, ha, hb⟩ := ofI_nat (n := m) (by omega) (by omega)
    rw [findI_yes hk h1.1 h1.2]
    obtain ⟨g1, g2⟩ := find_heap HV hr hK (nn := m) (by omega) hk10 ha hb
    rcases g2 with ⟨g2, g3⟩ | ⟨p, g2, g3, g4, g5⟩
    · exact .inl ⟨g2, g1.wr⟩
    · exact .inr ⟨p, m, rfl, g2, g1, g3, g4, by omega, g5⟩
  · rw [findI_no h1]
    exact .inl ⟨rfl, rfl⟩
end
structure Took (H : AuH) (n : Nat) (K : Nat → Option Nat) (s3 : Vst) (p m : Nat) : Prop where
  lists : ∃ L, (nowH H n K s3).Ok L ∧ Work H.t H.p H.s n K s3 L (nowH H n K s3).V
  roots : ∀ i, i < 8 → (nowH H n K s3).V (22 + i) = H.V (22 + i)
  v0 : (nowH H n K s3).V 0 + m = H.V 0
  v1 : (nowH H n K s3).V 1 = H.V 1 + 1
  kind : (nowH H n K s3).K p = 2
  len : (nowH H n K s3).ln p = m
  blocks : ∃ X Y, blocksOf H.parts = X ++ Y ∧ blocksOf (nowH H n K s3).parts = X ++ [(H.first p, (m : Int) * (H.pg : Int))] ++ Y ∧ (∀ b ∈ X, b.1 < H.first p) ∧ ∀ b ∈ Y, H.first p < b.1
section
variable {H : AuH} {n c : Nat} {K : Nat → Option Nat} {st : Vst} {L L' : Nat → List Nat} {g : Nat → Nat} {A k e : Nat}

theorem take_took (HV : HeapV H n c) (h : H.Ok L) (W : Work H.t H.p H.s n K st L H.V) {p m : Nat} (hp : p < H.p) (hk : H.K p = 1) (h1 : 1 ≤ m) (h2 : m ≤ H.ln p) :
    Took H n K (upS n K (takeS n K H.t H.p H.s p m st)) p m := by
  have hP := HV.fit.nums
  obtain ⟨hnx, s1, s2, s3, s4, s5, s6⟩ := span_at h hp (by omega) (by omega)
  obtain ⟨L', g', W', R, e1, e0, e00⟩ := take_heap HV h W hp hk h1 h2
  have hlf := live_few h hP.2
  have W2 := W'.up HV.fit (by omega)
  have R2 := R.live (g' 1 + 1)
  obtain ⟨d1, d2, d3, d4, X, Y, d5, d6, d7, d8⟩ := done_ok HV h W2 R2 (by
    rw [updF_same, show m + (H.ln p - m) = H.ln p by omega, free_live h hp hk, if_pos (by omega)]
    omega) (fun i hi hv a1 a2 => by
    exfalso
    exact free_root h hp hk hi hv a1 (by omega))
  have hce : (nowH H n K (upS n K (takeS n K H.t H.p H.s p m st))).cel p 0 = infoV 2 (m : Int) 0 := by
    have := W2.cel HV.len hp (b := 0) (by omega) (by omega) (by omega)
    rw [R2.used (by omega)] at this
    exact this
  have hin := infoG_used (m := m) h1 (by have := (H.ln_pos p (by omega)).2; omega)
  rw [show m + (H.ln p - m) = H.ln p by omega, blocks_free h hp hk, List.append_nil] at d5
  rw [if_pos (by omega)] at d6
  refine ⟨⟨L', d1, W2.again⟩, d2, by rw [d3, updF_other _ _ (by omega), e0]; omega, by rw [d4, updF_same, e1], ?_, ?_, X, Y, d5, d6, d7, fun b hb => ?_⟩
  · unfold AuH.K; rw [hce, hin]
  · unfold AuH.ln AuH.L; rw [hce, hin]; simp
  · have := d8 b hb
    have := first_lt H (show p < p + m + (H.ln p - m) by omega)
    omega
theorem Took.heap {s3 : Vst} {p m : Nat} (T : Took H n K s3 p m) (HV : HeapV H n c) (hok : VOk n s3) (h32 : ∀ i x, K i = some x → x < 2 ^ 32) : HeapV (nowH H n K s3) n c := nowH_heap HV hok h32 HV.cap HV.max
theorem Took.added {s3 : Vst} {p m : Nat} (T : Took H n K s3 p m) : blocksOf (nowH H n K s3).parts = addB (blocksOf H.parts) (H.first p, (m : Int) * (H.pg : Int)) := by
  obtain ⟨X, Y, d1, d2, d3, d4⟩ := T.blocks
  rw [d2, d1, addB_mid (b := (H.first p, (m : Int) * (H.pg : Int))) d3 d4]
theorem nowH_nowH {s3 s5 : Vst} : nowH (nowH H n K s3) n K s5 = nowH H n K s5 := by
  unfold nowH AuH.re
  congr 1
  funext i
  unfold curV
  by_cases h : i < n
  · rw [if_pos h, if_pos h]
  · rw [if_neg h, if_neg h]
    show (if i < n then getV n K s3 (i : Int) else H.V i) = H.V i
    rw [if_neg h]
theorem Took.done {s3 : Vst} {p m : Nat} (T : Took H n K s3 p m) (HV : HeapV H n c) (h : H.Ok L) (hp : p < H.p) (hk : H.K p = 1) (hm : m ≤ H.ln p) (hok : VOk n s3) (h32 : ∀ i x, K i = some x → x < 2 ^ 32) :
    (∀ i, i < 10 → (nowH H n K (downS n K (releaseS n K H.t H.p H.s p m s3))).rule i) ∧ (∀ i, i < 8 → (nowH H n K (downS n K (releaseS n K H.t H.p H.s p m s3))).V (22 + i) = H.V (22 + i)) ∧
      (nowH H n K (downS n K (releaseS n K H.t H.p H.s p m s3))).V 0 = H.V 0 ∧ blocksOf (nowH H n K (downS n K (releaseS n K H.t H.p H.s p m s3))).parts = blocksOf H.parts ∧ VW n K (downS n K (releaseS n K H.t H.p H.s p m s3)) := by
  have HV3 := T.heap HV hok h32
  have hP := HV.fit.nums
  obtain ⟨L3, O3, W3⟩ := T.lists
  obtain ⟨L', g', A, la, lr, W5, R5, a, e1, e0⟩ := release_heap HV3 O3 W3 (p := p) (m := m) hp T.kind T.len
  have hlf := live_few h hP.2
  have hv1 := T.v1
  have W6 := W5.down HV.fit (by omega) (by omega)
  have R6 := R5.live (g' 1 - 1)
  have hpm := span_at h hp (by omega) (by omega)
  have hA := a.ahead
  have hpos := a.pos
  obtain ⟨d1, d2, d3, d4, X, Y, d5, d6, d7, d8⟩ := done_ok HV3 O3 W6 R6 (by
    rw [updF_same, Nat.zero_add, a.lives, if_neg (by omega)]
    omega) (fun i hi hv b1 b2 => by
    exfalso
    obtain ⟨b3, _, _⟩ := a.root O3 hi hv b1 (by omega)
    have hri := T.roots i hi
    rw [hri] at hv b3
    have b3 : (spotP H.t H.p H.s (H.V (22 + i) : Int)).toNat = p := b3
    exact free_root h hp hk hi hv (by omega) (by omega))
  rw [nowH_nowH] at d1 d2 d3 d4 d6
  have et : (nowH H n K s3).t = H.t := rfl
  have eq : (nowH H n K s3).p = H.p := rfl
  have es : (nowH H n K s3).s = H.s := rfl
  rw [et, eq, es] at d1 d2 d3 d4 d6
  rw [Nat.zero_add] at d5
  refine ⟨d1.rules, fun i hi => (d2 i hi).trans (T.roots i hi), ?_, ?_, W6.vw⟩
  · rw [d3, updF_other _ _ (by omega), e0]
    exact T.v0
  · obtain ⟨X0, Y0, f1, f2, f3, f4⟩ := T.blocks
    rw [if_neg (by omega), List.append_nil] at d6
    rw [a.blocks] at d5
    have hf : ∀ q, (nowH H n K s3).first q = H.first q := fun q => rfl
    have hg : (nowH H n K s3).pg = H.pg := rfl
    rw [hf, hg] at d5
    rw [f2] at d5
    have g1 := offB_mid (b := (H.first p, (m : Int) * (H.pg : Int))) f3 f4
    have g2 := offB_mid (X := X) (Y := Y) (b := (H.first p, (m : Int) * (H.pg : Int))) (fun x hx => by
      have := d7 x hx
      rw [hf] at this
      have := AuH.first_mono H (show A ≤ p by omega)
      show x.1 < H.first p
      omega) (fun y hy => by
      have := d8 y hy
      rw [hf] at this
      have := first_lt H (show p < A + 0 + (la + m + lr) by omega)
      show H.first p < y.1
      omega)
    rw [d6, f1, ← g1, ← g2, d5]
end
end Go.Proofs.YtnamlhkccgnbfaaGreat

namespace Go.Proofs.YtnamlhkccgnbfaaGreat
open Go.ChangeShapes Go.WideShapes Go.ChangeAt Go.RowKit Go.Shelf
set_option linter.unusedVariables false
set_option linter.unusedSimpArgs false

def set9 (w : World) (g : Nat) (a0 a1 a2 a3 a4 a5 a6 a7 a8 : Value) : World := ((((((((w.setCell ⟨g, 0, none⟩ a0).setCell ⟨g, 1, none⟩ a1).setCell ⟨g, 2, none⟩ a2).setCell ⟨g, 3, none⟩ a3).setCell ⟨g, 4, none⟩ a4).setCell ⟨g, 5, none⟩ a5).setCell ⟨g, 6, none⟩ a6).setCell ⟨g, 7, none⟩ a7).setCell ⟨g, 8, none⟩ a8
section
variable {w : World} {g : Nat} {t : TypeId} {c0 c1 c2 c3 c4 c5 c6 c7 c8 : Value}
theorem Held.nine (h : Held w g t #[c0, c1, c2, c3, c4, c5, c6, c7, c8]) : w.cell? ⟨g, 0, none⟩ = some c0 ∧ w.cell? ⟨g, 1, none⟩ = some c1 ∧ w.cell? ⟨g, 2, none⟩ = some c2 ∧ w.cell? ⟨g, 3, none⟩ = some c3 ∧ w.cell? ⟨g, 4, none⟩ = some c4 ∧ w.cell? ⟨g, 5, none⟩ = some c5 ∧ w.cell? ⟨g, 6, none⟩ = some c6 ∧ w.cell? ⟨g, 7, none⟩ = some c7 ∧ w.cell? ⟨g, 8, none⟩ = some c8 := ⟨h.cell 0, h.cell 1, h.cell 2, h.cell 3, h.cell 4, h.cell 5, h.cell 6, h.cell 7, h.cell 8⟩
theorem Held.thawed9 {cs : Array Value} (h : Held w g t cs) : w.frozen? ⟨g, 0, none⟩ = false ∧ w.frozen? ⟨g, 1, none⟩ = false ∧ w.frozen? ⟨g, 2, none⟩ = false ∧ w.frozen? ⟨g, 3, none⟩ = false ∧ w.frozen? ⟨g, 4, none⟩ = false ∧ w.frozen? ⟨g, 5, none⟩ = false ∧ w.frozen? ⟨g, 6, none⟩ = false ∧ w.frozen? ⟨g, 7, none⟩ = false ∧ w.frozen? ⟨g, 8, none⟩ = false := ⟨h.thawed 0, h.thawed 1, h.thawed 2, h.thawed 3, h.thawed 4, h.thawed 5, h.thawed 6, h.thawed 7, h.thawed 8⟩
theorem Held.set9 (h : Held w g t #[c0, c1, c2, c3, c4, c5, c6, c7, c8]) (a0 a1 a2 a3 a4 a5 a6 a7 a8 : Value) : Held (set9 w g a0 a1 a2 a3 a4 a5 a6 a7 a8) g t #[a0, a1, a2, a3, a4, a5, a6, a7, a8] := by
  have h0 : Held _ g t #[a0, c1, c2, c3, c4, c5, c6, c7, c8] := h.put 0 a0
  have h1 : Held _ g t #[a0, a1, c2, c3, c4, c5, c6, c7, c8] := h0.put 1 a1
  have h2 : Held _ g t #[a0, a1, a2, c3, c4, c5, c6, c7, c8] := h1.put 2 a2
  have h3 : Held _ g t #[a0, a1, a2, a3, c4, c5, c6, c7, c8] := h2.put 3 a3
  have h4 : Held _ g t #[a0, a1, a2, a3, a4, c5, c6, c7, c8] := h3.put 4 a4
  have h5 : Held _ g t #[a0, a1, a2, a3, a4, a5, c6, c7, c8] := h4.put 5 a5
  have h6 : Held _ g t #[a0, a1, a2, a3, a4, a5, a6, c7, c8] := h5.put 6 a6
  have h7 : Held _ g t #[a0, a1, a2, a3, a4, a5, a6, a7, c8] := h6.put 7 a7
  have h8 : Held _ g t #[a0, a1, a2, a3, a4, a5, a6, a7, a8] := h7.put 8 a8
  exact h8
theorem below_set9 {W : World} (h : Below W.heap.size W w) (hg : W.heap.size ≤ g) (a0 a1 a2 a3 a4 a5 a6 a7 a8 : Value) : Below W.heap.size W (set9 w g a0 a1 a2 a3 a4 a5 a6 a7 a8) :=
  Bput (Bput (Bput (Bput (Bput (Bput (Bput (Bput (Bput h (p := ⟨g, 0, none⟩) hg a0) (p := ⟨g, 1, none⟩) hg a1) (p := ⟨g, 2, none⟩) hg a2) (p := ⟨g, 3, none⟩) hg a3) (p := ⟨g, 4, none⟩) hg a4) (p := ⟨g, 5, none⟩) hg a5) (p := ⟨g, 6, none⟩) hg a6) (p := ⟨g, 7, none⟩) hg a7) (p := ⟨g, 8, none⟩) hg a8
theorem heap_set9 {j : Nat} (hj : j ≠ g) (a0 a1 a2 a3 a4 a5 a6 a7 a8 : Value) : (set9 w g a0 a1 a2 a3 a4 a5 a6 a7 a8).heap[j]? = w.heap[j]? := by
  unfold _root_.Go.Proofs.YtnamlhkccgnbfaaGreat.set9
  repeat rw [Below.heap_setCell _ _ _ _ hj]
theorem own_set9 {base : Nat} {e : TypeId} {size : Nat} {v : Value} {n : Nat} {xs : List Value} (h : w.ownsRow base e size v n xs) (hg : ∀ j, v.ownBlock = some j → j ≠ g) (a0 a1 a2 a3 a4 a5 a6 a7 a8 : Value) : (set9 w g a0 a1 a2 a3 a4 a5 a6 a7 a8).ownsRow base e size v n xs :=
  own_kept h (fun j hj => heap_set9 (hg j hj) _ _ _ _ _ _ _ _ _)
end
theorem rootsV_eq (H : AuH) : ∃ (r0 r1 r2 r3 r4 r5 r6 r7 : Nat), rootsV H = .agg #[.int .i64 (r0 : Int), .int .i64 (r1 : Int), .int .i64 (r2 : Int), .int .i64 (r3 : Int), .int .i64 (r4 : Int), .int .i64 (r5 : Int), .int .i64 (r6 : Int), .int .i64 (r7 : Int)] ∧ H.V 22 = r0 ∧ H.V 23 = r1 ∧ H.V 24 = r2 ∧ H.V 25 = r3 ∧ H.V 26 = r4 ∧ H.V 27 = r5 ∧ H.V 28 = r6 ∧ H.V 29 = r7 := ⟨_, _, _, _, _, _, _, _, rfl, rfl, rfl, rfl, rfl, rfl, rfl, rfl, rfl⟩

end Go.Proofs.YtnamlhkccgnbfaaGreat

namespace Go.Proofs.YtnamlhkccgnbfaaGreat
open Go.ChangeShapes Go.WideShapes Go.ChangeAt Go.RowKit Go.Shelf
set_option linter.unusedVariables false
set_option linter.unusedSimpArgs false

def stF (H : AuH) (u : Value) (k : Nat) (i : Nat) : Value := if i = 0 then u else if i ≤ k then .int .i64 (H.V (21 + i) : Nat) else .int .i64 0
set_option maxHeartbeats 6400000 in
set_option maxRecDepth 100000 in
theorem xState_yes {H : AuH} {n c : Nat} (HV : HeapV H n c) (ad : Addr) (m : Nat) (w : World) (hv : IsVals w ad n H.V) (hC : XCheckIs w H.t H.p H.s (some ad) n c m true) :
    Calls Tryz.prog 25 #[.agg #[.int .i64 (H.t : Int), .int .i64 (H.p : Int), .int .i64 (H.s : Int)], .slice (some ad) n c] w fun e w' => ∃ u, e = .returned (.tuple #[.agg #[u, .int .i64 (H.V 22 : Nat), .int .i64 (H.V 23 : Nat), .int .i64 (H.V 24 : Nat), .int .i64 (H.V 25 : Nat), .int .i64 (H.V 26 : Nat), .int .i64 (H.V 27 : Nat), .int .i64 (H.V 28 : Nat), .int .i64 (H.V 29 : Nat)], .bool true]) ∧ w'.ownsRow w.heap.size 64 2 u (blocksOf H.parts).length (bkVs (blocksOf H.parts)) ∧ Below w.heap.size w w' := by
  have HVL := hidp hv
  have HXK0 := hC
  have HX := hidp ((Held.new w 23 #[.int .i64 (H.t : Int), .int .i64 (H.p : Int), .int .i64 (H.s : Int)]).alloc (.cells #[.slice none 0 0, .int .i64 0, .int .i64 0, .int .i64 0, .int .i64 0, .int .i64 0, .int .i64 0, .int .i64 0, .int .i64 0] 54))
  obtain ⟨c0, c1, c2⟩ := HX.out.three
  have HS := hidp (Held.new2 w (.cells #[.int .i64 (H.t : Int), .int .i64 (H.p : Int), .int .i64 (H.s : Int)] 23) 54 #[.slice none 0 0, .int .i64 0, .int .i64 0, .int .i64 0, .int .i64 0, .int .i64 0, .int .i64 0, .int .i64 0, .int .i64 0])
  have HBW := hidp (Bnew (Bnew (B0 w) (.cells #[.int .i64 (H.t : Int), .int .i64 (H.p : Int), .int .i64 (H.s : Int)] 23)) (.cells #[.slice none 0 0, .int .i64 0, .int .i64 0, .int .i64 0, .int .i64 0, .int .i64 0, .int .i64 0, .int .i64 0, .int .i64 0] 54))
  have HSO := hidp (xSound_c (H.t : Int) (H.p : Int) (H.s : Int) (some ad) n c m true _ (hC.grown HBW.out))
  have HXK := hidp hC
  have hn := HV.nums
  have hcx : c ≤ 9223372036854775807 := hn.2.2.2.2.2.2.2.2
  have hni : n ≤ 6238 := hn.2.2.2.2.2.2.1
  have hnc := HV.cap
  have hn30 : 30 ≤ n := by have := HV.len; omega
  have hbl : ad.block < w.heap.size := hv.1
  obtain ⟨l, hl⟩ : ∃ l, blocksOf H.parts = l := ⟨_, rfl⟩
  have HLB := hidp hl
  obtain ⟨nb, hnb⟩ : ∃ nb, l.length = nb := ⟨_, rfl⟩
  have HNB := hidp hnb
  clear hC hv hl hnb HXK0 hn
  go_enter Tryz.func25, Tryz.ntmps25
  go_wp2_with (first
    | (go_at_call 8; refine HSO.out.mono ?_; rintro e w2 ⟨rfl, hb2⟩; have HB2 := hidp (Bgo HBW.out hb2); have HS2 := hidp (HS.out.keep hb2); have HX2 := hidp (HX.out.keep hb2); clear hb2 c0 c1 c2; obtain ⟨c0, c1, c2⟩ := HX2.out.three)
    | (go_at_call 62; refine (xLiveTop_yes HV ad m _ (HVL.out.below HB2.out) (HXK.out.grown HB2.out)).mono ?_; rintro e w3 ⟨u, rfl, hown3, hb3⟩; rw [HLB.out, HNB.out] at hown3; obtain ⟨Ab, cb, rfl⟩ := own_slice hown3; have HG6 : Hid (w.heap.size + 1 < w3.heap.size) := hidp (by have h1 := hb3.size; have h2 := HS2.out.lt; omega); have HO3 := hidp (hown3.alloc (.cells #[.slice Ab nb cb, .int .i64 0, .int .i64 0, .int .i64 0, .int .i64 0, .int .i64 0, .int .i64 0, .int .i64 0, .int .i64 0] 54)); have HB3 := hidp (Bnew (Bgo HB2.out hb3) (.cells #[.slice Ab nb cb, .int .i64 0, .int .i64 0, .int .i64 0, .int .i64 0, .int .i64 0, .int .i64 0, .int .i64 0, .int .i64 0] 54)); have HS3 := hidp ((HS2.out.keep hb3).alloc (.cells #[.slice Ab nb cb, .int .i64 0, .int .i64 0, .int .i64 0, .int .i64 0, .int .i64 0, .int .i64 0, .int .i64 0, .int .i64 0] 54)); have HN3 := hidp (Held.new w3 54 #[.slice Ab nb cb, .int .i64 0, .int .i64 0, .int .i64 0, .int .i64 0, .int .i64 0, .int .i64 0, .int .i64 0, .int .i64 0]); have HOL : Hid (∀ j, (Value.slice Ab nb cb).ownBlock = some j → w2.heap.size ≤ j ∧ j < w3.heap.size) := hidp (fun j hj => hown3.lt j hj); clear hown3 hb3 c0 c1 c2)
    | fail)
  generalize hg6 : w3.heap.size = g6 at *
  generalize hw4 : w3.alloc (.cells #[.slice Ab nb cb, .int .i64 0, .int .i64 0, .int .i64 0, .int .i64 0, .int .i64 0, .int .i64 0, .int .i64 0, .int .i64 0] 54) = W4 at *
  have HR0 : Hid (RowF W4 g6 54 9 9 (stF H (.slice Ab nb cb) 0)) := hidp ⟨_, HN3.out, by simp, by omega, by unfold maxLen; omega, fun i hi => by
    rcases (by omega : i = 0 ∨ i = 1 ∨ i = 2 ∨ i = 3 ∨ i = 4 ∨ i = 5 ∨ i = 6 ∨ i = 7 ∨ i = 8) with rfl | rfl | rfl | rfl | rfl | rfl | rfl | rfl | rfl <;> rfl⟩
  have hgw := HG6.out
  clear hg6 hw4
  go_loopw [7] (fun u7 wr => ∃ k : Nat, k ≤ 8 ∧ u7 = .int .i64 (k : Int) ∧ Hid (Turns (fun i => i = g6) W4 wr) ∧ Hid (RowF wr g6 54 9 9 (stF H (.slice Ab nb cb) k))) (fun u7 _ => 8 - (intOf u7).toNat)
  case atStart => exact ⟨0, by omega, rfl, hidp (T0 _ _), HR0⟩
  case round =>
    clear HR0
    obtain ⟨k, hk, rfl, HT0, HR⟩ := hrel
    have HB := hidp (HT0.out.below HB3.out (by omega))
    by_cases hlt : k < 8
    · have t0 : decide ((k : Int) < 8) = true := decide_eq_true (by omega)
      have t8 : (k : Int) < 8 := by omega
      have HRT : Hid (nthI 22 8 1 (k : Int) = ((22 + k : Nat) : Int)) := hidp (by rw [nth_on (by omega) (by omega) (by omega)]; push_cast; omega)
      have hin : 22 + k < n := by omega
      have hvk := (HVL.out.below HB.out).2 (22 + k) hin
      have hv32 := HV.lt (22 + k) hin
      have hrc := HR.out.cell (show 1 + k < 9 by omega)
      have hrf := HR.out.thawed (1 + k)
      have HUP : Hid (∀ i, i < 9 → updF (stF H (.slice Ab nb cb) k) (1 + k) (.int .i64 (H.V (22 + k) : Nat)) i = stF H (.slice Ab nb cb) (k + 1) i) := hidp (fun i hi => by
        unfold updF stF
        by_cases e : i = 1 + k
        · subst e; rw [if_pos rfl, if_neg (by omega), if_pos (by omega), show 21 + (1 + k) = 22 + k by omega]
        · rw [if_neg e]
          by_cases e0 : i = 0
          · rw [if_pos e0, if_pos e0]
          · rw [if_neg e0, if_neg e0]
            by_cases e2 : i ≤ k
            · rw [if_pos e2, if_pos (by omega)]
            · rw [if_neg e2, if_neg (by omega)])
      have hr0 : stF H (.slice Ab nb cb) k (1 + k) = .int .i64 0 := by unfold stF; rw [if_neg (by omega), if_neg (by omega)]
      rw [hr0] at hrc
      obtain ⟨v, hvv⟩ : ∃ v, H.V (22 + k) = v := ⟨_, rfl⟩
      obtain ⟨ix, hHIX⟩ : ∃ ix, 22 + k = ix := ⟨_, rfl⟩
      rw [hHIX] at hin hvk HRT
      rw [← hHIX, hvv, hHIX] at hvk
      rw [hvv] at hv32 HUP
      have hin2 : (ix : Int) < n := by omega
      have wv : IntKind.i64.wrap (v : Int) = (v : Int) := i64_same (by omega) (by omega)
      have HT9 : Hid (Turns (fun i => i = g6) wr (wr.setCell ⟨g6, 1 + k, none⟩ (.int .i64 (v : Int)))) := hidp ((T0 (fun i => i = g6) wr).put (p := ⟨g6, 1 + k, none⟩) rfl _)
      clear hvv hHIX
      go_wp2_with (first
        | (go_at_call 63; refine (r7Root_c _ _).mono ?_; rintro e w9 ⟨rfl, rfl⟩; rw [HRT.out])
        | fail)
      go_roundw
      case rel => exact ⟨k + 1, by omega, by go_num, hidp (HT0.out.trans HT9.out), hidp ((HR.out.put (show 1 + k < 9 by omega) (.int .i64 (v : Int))).congr HUP.out)⟩
      case measure => simp [intOf]; omega
    · have t0 : decide ((k : Int) < 8) = false := decide_eq_false (by omega)
      have hk8 : k = 8 := by omega
      subst hk8
      obtain ⟨r0, r1, r2, r3, r4, r5, r6, r7, hrv, e0, e1, e2, e3, e4, e5, e6, e7⟩ := rootsV_eq H
      have hf0 : stF H (.slice Ab nb cb) 8 0 = .slice Ab nb cb := rfl
      have hf1 : stF H (.slice Ab nb cb) 8 1 = .int .i64 (r0 : Int) := by rw [← e0]; rfl
      have hf2 : stF H (.slice Ab nb cb) 8 2 = .int .i64 (r1 : Int) := by rw [← e1]; rfl
      have hf3 : stF H (.slice Ab nb cb) 8 3 = .int .i64 (r2 : Int) := by rw [← e2]; rfl
      have hf4 : stF H (.slice Ab nb cb) 8 4 = .int .i64 (r3 : Int) := by rw [← e3]; rfl
      have hf5 : stF H (.slice Ab nb cb) 8 5 = .int .i64 (r4 : Int) := by rw [← e4]; rfl
      have hf6 : stF H (.slice Ab nb cb) 8 6 = .int .i64 (r5 : Int) := by rw [← e5]; rfl
      have hf7 : stF H (.slice Ab nb cb) 8 7 = .int .i64 (r6 : Int) := by rw [← e6]; rfl
      have hf8 : stF H (.slice Ab nb cb) 8 8 = .int .i64 (r7 : Int) := by rw [← e7]; rfl
      have q0 := (HR.out.cell (show 0 < 9 by omega)).trans (congrArg some hf0)
      have q1 := (HR.out.cell (show 1 < 9 by omega)).trans (congrArg some hf1)
      have q2 := (HR.out.cell (show 2 < 9 by omega)).trans (congrArg some hf2)
      have q3 := (HR.out.cell (show 3 < 9 by omega)).trans (congrArg some hf3)
      have q4 := (HR.out.cell (show 4 < 9 by omega)).trans (congrArg some hf4)
      have q5 := (HR.out.cell (show 5 < 9 by omega)).trans (congrArg some hf5)
      have q6 := (HR.out.cell (show 6 < 9 by omega)).trans (congrArg some hf6)
      have q7 := (HR.out.cell (show 7 < 9 by omega)).trans (congrArg some hf7)
      have q8 := (HR.out.cell (show 8 < 9 by omega)).trans (congrArg some hf8)
      have HS4 := hidp (HT0.out.held HS3.out (by omega))
      obtain ⟨z0, z1, z2, z3, z4, z5, z6, z7, z8⟩ := HS4.out.nine
      obtain ⟨f0, f1, f2, f3, f4, f5, f6, f7, f8⟩ := HS4.out.thawed9
      have HO4 := hidp (own_kept HO3.out (fun j hj => HT0.out.block j (HO3.out.lt j hj).2 (by have := (HOL.out j hj).2; omega)))
      have HRE := hidp (And.intro e0 (And.intro e1 (And.intro e2 (And.intro e3 (And.intro e4 (And.intro e5 (And.intro e6 e7)))))))
      clear hrv e0 e1 e2 e3 e4 e5 e6 e7 hf0 hf1 hf2 hf3 hf4 hf5 hf6 hf7 hf8
      go_wp2_with fail
      obtain ⟨WF, hWF⟩ : ∃ WF, set9 (wr) (w.heap.size + 1) (.slice Ab nb cb) (.int .i64 (r0 : Int)) (.int .i64 (r1 : Int)) (.int .i64 (r2 : Int)) (.int .i64 (r3 : Int)) (.int .i64 (r4 : Int)) (.int .i64 (r5 : Int)) (.int .i64 (r6 : Int)) (.int .i64 (r7 : Int)) = WF := ⟨_, rfl⟩
      have zz := HS4.out.set9 (.slice Ab nb cb) (.int .i64 (r0 : Int)) (.int .i64 (r1 : Int)) (.int .i64 (r2 : Int)) (.int .i64 (r3 : Int)) (.int .i64 (r4 : Int)) (.int .i64 (r5 : Int)) (.int .i64 (r6 : Int)) (.int .i64 (r7 : Int))
      have hBF := below_set9 (g := (w.heap.size + 1)) HB.out (by omega) (.slice Ab nb cb) (.int .i64 (r0 : Int)) (.int .i64 (r1 : Int)) (.int .i64 (r2 : Int)) (.int .i64 (r3 : Int)) (.int .i64 (r4 : Int)) (.int .i64 (r5 : Int)) (.int .i64 (r6 : Int)) (.int .i64 (r7 : Int))
      have hOF := own_set9 (g := (w.heap.size + 1)) (own_down HO4.out HB2.out.size) (fun j hj => by have h1 := (HOL.out j hj).1; have h2 := HS2.out.lt; omega) (.slice Ab nb cb) (.int .i64 (r0 : Int)) (.int .i64 (r1 : Int)) (.int .i64 (r2 : Int)) (.int .i64 (r3 : Int)) (.int .i64 (r4 : Int)) (.int .i64 (r5 : Int)) (.int .i64 (r6 : Int)) (.int .i64 (r7 : Int))
      rw [hWF] at zz hBF hOF
      unfold set9 at hWF
      rw [hWF]
      obtain ⟨y0, y1, y2, y3, y4, y5, y6, y7, y8⟩ := zz.nine
      refine bodyPost_ret (v := .tuple #[.agg #[.slice Ab nb cb, .int .i64 (r0 : Int), .int .i64 (r1 : Int), .int .i64 (r2 : Int), .int .i64 (r3 : Int), .int .i64 (r4 : Int), .int .i64 (r5 : Int), .int .i64 (r6 : Int), .int .i64 (r7 : Int)], .bool true]) (by simp [results, Tryz.results25, go_sem, y0, y1, y2, y3, y4, y5, y6, y7, y8]) rfl ⟨.slice Ab nb cb, by obtain ⟨e0, e1, e2, e3, e4, e5, e6, e7⟩ := HRE.out; simp only [e0, e1, e2, e3, e4, e5, e6, e7], ?_, hBF⟩
      rw [HLB.out, HNB.out]
      exact hOF
end Go.Proofs.YtnamlhkccgnbfaaGreat

namespace Go.Proofs.YtnamlhkccgnbfaaGreat
open Go.ChangeShapes Go.WideShapes Go.ChangeAt Go.RowKit Go.Shelf
set_option linter.unusedVariables false
set_option linter.unusedSimpArgs false

theorem eqStep (d : Nat) (xs ys : Array Value) (i : Nat) (a b : Int) (is : List Nat) (w : World) (hx : xs[i]? = some (.int .i64 a)) (hy : ys[i]? = some (.int .i64 b)) :
    (Op.eqItems (d + 1) 2 1 xs ys (i :: is)).run Tryz.prog w = if (a == b) = true then (Op.eqItems (d + 1) 2 1 xs ys is).run Tryz.prog w else .ok false w := by
  have p1 := run_part_plain (P := Tryz.prog) w (e := 2) (by kernel_rfl) (off := i * 1) (by rw [Nat.mul_one]; exact hx)
  have p2 := run_part_plain (P := Tryz.prog) w (e := 2) (by kernel_rfl) (off := i * 1) (by rw [Nat.mul_one]; exact hy)
  have p3 := run_equalIn_int (P := Tryz.prog) w d 2 .i64 .i64 a b Tryz.underlying2
  simp only [Op.eqItems, Sem.run_bind, p1, p2, p3, Result.andThen_ok]
  cases a == b <;> simp
theorem eq8_run (r0 r1 r2 r3 r4 r5 r6 r7 p0 p1 p2 p3 p4 p5 p6 p7 : Int) (w : World) :
    (Op.equalIn 10000 52 (.agg #[.int .i64 r0, .int .i64 r1, .int .i64 r2, .int .i64 r3, .int .i64 r4, .int .i64 r5, .int .i64 r6, .int .i64 r7]) (.agg #[.int .i64 p0, .int .i64 p1, .int .i64 p2, .int .i64 p3, .int .i64 p4, .int .i64 p5, .int .i64 p6, .int .i64 p7])).run Tryz.prog w = .ok (r0 == p0 && (r1 == p1 && (r2 == p2 && (r3 == p3 && (r4 == p4 && (r5 == p5 && (r6 == p6 && (r7 == p7)))))))) w := by
  obtain ⟨i, hi⟩ : ∃ i, Tryz.prog.info? 2 = some i := Option.isSome_iff_exists.1 (by kernel_rfl)
  have hc : Tryz.prog.cellsOf 2 = 1 := by kernel_rfl
  show (Op.equalIn (9999 + 1) _ _ _).run _ _ = _
  rw [run_equalIn_array w 9999 _ _ Tryz.underlying52 hi, hc]
  show (Op.eqItems (9998 + 1) 2 1 _ _ [0, 1, 2, 3, 4, 5, 6, 7]).run _ _ = _
  rw [eqStep 9998 _ _ 0 r0 p0 _ w rfl rfl]
  rw [eqStep 9998 _ _ 1 r1 p1 _ w rfl rfl]
  rw [eqStep 9998 _ _ 2 r2 p2 _ w rfl rfl]
  rw [eqStep 9998 _ _ 3 r3 p3 _ w rfl rfl]
  rw [eqStep 9998 _ _ 4 r4 p4 _ w rfl rfl]
  rw [eqStep 9998 _ _ 5 r5 p5 _ w rfl rfl]
  rw [eqStep 9998 _ _ 6 r6 p6 _ w rfl rfl]
  rw [eqStep 9998 _ _ 7 r7 p7 _ w rfl rfl]
  have hn : ∀ xs ys : Array Value, (Op.eqItems (9998 + 1) 2 1 xs ys []).run Tryz.prog w = .ok true w := fun xs ys => by simp [Op.eqItems]
  rw [hn]
  generalize (r0 == p0) = e0
  generalize (r1 == p1) = e1
  generalize (r2 == p2) = e2
  generalize (r3 == p3) = e3
  generalize (r4 == p4) = e4
  generalize (r5 == p5) = e5
  generalize (r6 == p6) = e6
  generalize (r7 == p7) = e7
  cases e0
  · rfl
  cases e1
  · rfl
  cases e2
  · rfl
  cases e3
  · rfl
  cases e4
  · rfl
  cases e5
  · rfl
  cases e6
  · rfl
  cases e7
  · rfl
  · rfl

theorem eq8_iff (r0 r1 r2 r3 r4 r5 r6 r7 p0 p1 p2 p3 p4 p5 p6 p7 : Int) : (r0 == p0 && (r1 == p1 && (r2 == p2 && (r3 == p3 && (r4 == p4 && (r5 == p5 && (r6 == p6 && (r7 == p7)))))))) = true ↔ [r0, r1, r2, r3, r4, r5, r6, r7] = [p0, p1, p2, p3, p4, p5, p6, p7] := by simp

end Go.Proofs.YtnamlhkccgnbfaaGreat
