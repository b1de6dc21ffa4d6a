/-
  What stands where in a memory: numbers alone, no program.
-/
import Derived.Test.YtpndfhdedmdoeaaConfMore
namespace Go.Proofs.Ytpndfhdedmdoeaa
set_option linter.unusedVariables false

/-! how a memory is laid: zeros, if the configuration is not right -/
def lT (t p s : Int) : Int := if rightB t p s then t else 0
def lP (t p s : Int) : Int := if rightB t p s then p else 0
def lS (t p s : Int) : Int := if rightB t p s then s else 0
def lA (t p s : Int) : Int := if rightB t p s then 30 + 4 * t else 0
def lC (t p s : Int) : Int := if rightB t p s then 30 + 4 * t + 6 * p else 0
def lM (t p s : Int) : Int := if rightB t p s then (16 + (30 + 4 * t + 6 * p) + 7) / 8 * 8 else 0
def lK (t p s : Int) : Int := if rightB t p s then t + 1 else 0
/-- how many words there are -/
def lW (t p s : Int) : Int := lM t p s + lK t p s * 120

structure Laid7 (t p s T P S A C M K : Int) : Prop where
  hT : lT t p s = T
  hP : lP t p s = P
  hS : lS t p s = S
  hA : lA t p s = A
  hC : lC t p s = C
  hM : lM t p s = M
  hK : lK t p s = K
theorem lay_yes {t p s : Int} (h : rightB t p s = true) : Laid7 t p s t p s (30 + 4 * t) (30 + 4 * t + 6 * p) ((16 + (30 + 4 * t + 6 * p) + 7) / 8 * 8) (t + 1) := by
  constructor <;> simp [lT, lP, lS, lA, lC, lM, lK, h]
theorem lay_no {t p s : Int} (h : rightB t p s = false) : Laid7 t p s 0 0 0 0 0 0 0 := by
  constructor <;> simp [lT, lP, lS, lA, lC, lM, lK, h]
theorem lay_bounds (t p s : Int) : (0 ≤ lT t p s ∧ lT t p s ≤ 16) ∧ (0 ≤ lP t p s ∧ lP t p s ≤ 1024) ∧ (0 ≤ lA t p s ∧ lA t p s ≤ 94) ∧ (0 ≤ lC t p s ∧ lC t p s ≤ 6238) ∧ (0 ≤ lM t p s ∧ lM t p s ≤ 6256) ∧ (0 ≤ lK t p s ∧ lK t p s ≤ 17) ∧ lM t p s % 8 = 0 := by
  cases hr : rightB t p s
  · obtain ⟨h1, h2, h3, h4, h5, h6, h7⟩ := lay_no hr
    omega
  · obtain ⟨h1, h2, h3, h4, h5, h6, h7⟩ := lay_yes hr
    have := (rightB_iff t p s).1 hr
    omega
theorem words_bounds (t p s : Int) : 0 ≤ lW t p s ∧ lW t p s ≤ 8296 ∧ lW t p s % 8 = 0 := by
  have := lay_bounds t p s
  unfold lW
  omega

/-- where the i-th of n things stands, of which the first stands at f, and each has e places -/
def nthI (f n e i : Int) : Int := if f = -1 ∨ i < 0 ∨ n ≤ i then -1 else f + i * e
theorem nth_off {f n e i : Int} (h : f = -1 ∨ i < 0 ∨ n ≤ i) : nthI f n e i = -1 := by unfold nthI; rw [if_pos h]
theorem nth_on {f n e i : Int} (h : ¬ f = -1) (h0 : 0 ≤ i) (h1 : i < n) : nthI f n e i = f + i * e := by unfold nthI; rw [if_neg (by omega)]
theorem nth_bounds {f n e i B : Int} (hf : -1 ≤ f) (hB : f ≤ B) (he : 0 ≤ e) (hn : 0 ≤ n) : -1 ≤ nthI f n e i ∧ nthI f n e i ≤ B + n * e := by
  have h2 := Int.mul_nonneg hn he
  by_cases h : f = -1 ∨ i < 0 ∨ n ≤ i
  · rw [nth_off h]; omega
  · rw [nth_on (by omega) (by omega) (by omega)]
    have h1 := Int.mul_nonneg (show 0 ≤ i by omega) he
    have h3 := Int.mul_le_mul_of_nonneg_right (show i ≤ n by omega) he
    omega

def pageI (t p s q b : Int) : Int := nthI (nthI (lA t p s) (lP t p s) 6 q) 6 1 b
def makerI (t p s m b : Int) : Int := nthI (nthI (lM t p s) (lK t p s) 120 m) 120 1 b
def doneI (t p s q f : Int) : Int := nthI (nthI 30 (lT t p s) 4 q) 4 1 f
def wordI (t p s i : Int) : Int := nthI 16 (lC t p s) 1 i
def callI (t p s m b : Int) : Int := nthI (makerI t p s m 0) 2 8 b
def noteI (t p s m : Int) : Int := makerI t p s m 16
def logI (t p s m i : Int) : Int := nthI (makerI t p s m 24) 96 1 i

theorem pcell_no {t p s q b : Int} (h : ¬ (rightB t p s = true ∧ 0 ≤ q ∧ q < p)) : pageI t p s q b = -1 := by
  have h1 : nthI (lA t p s) (lP t p s) 6 q = -1 := by
    apply nth_off
    cases hr : rightB t p s
    · have := lay_no hr; have := this.hP; omega
    · have := (lay_yes hr).hP; rw [hr] at h; simp at h; omega
  unfold pageI
  exact nth_off (.inl h1)
theorem pcell_yes {t p s q b : Int} (hr : rightB t p s = true) (h0 : 0 ≤ q) (h1 : q < p) (h2 : 0 ≤ b) (h3 : b < 6) : pageI t p s q b = 30 + 4 * t + 6 * q + b := by
  obtain ⟨e1, e2, e3, e4, e5, e6, e7⟩ := lay_yes hr
  have := (rightB_iff t p s).1 hr
  unfold pageI
  rw [nth_on (f := lA t p s) (by omega) h0 (by omega), nth_on (by omega) h2 h3, e4]
  omega
theorem maker_no {t p s m : Int} (h : ¬ (rightB t p s = true ∧ 0 ≤ m ∧ m ≤ t)) : nthI (lM t p s) (lK t p s) 120 m = -1 := by
  apply nth_off
  cases hr : rightB t p s
  · have := lay_no hr; have := this.hK; omega
  · have := (lay_yes hr).hK; rw [hr] at h; simp at h; omega
theorem maker_yes {t p s m : Int} (hr : rightB t p s = true) (h0 : 0 ≤ m) (h1 : m ≤ t) : nthI (lM t p s) (lK t p s) 120 m = lM t p s + m * 120 := by
  have := (lay_yes hr).hK
  have := (lay_bounds t p s)
  exact nth_on (by omega) h0 (by omega)
theorem makerI_no {t p s m b : Int} (h : ¬ (rightB t p s = true ∧ 0 ≤ m ∧ m ≤ t)) : makerI t p s m b = -1 := by unfold makerI; exact nth_off (.inl (maker_no h))
theorem makerI_yes {t p s m b : Int} (hr : rightB t p s = true) (h0 : 0 ≤ m) (h1 : m ≤ t) (h2 : 0 ≤ b) (h3 : b < 120) : makerI t p s m b = lM t p s + m * 120 + b := by
  have := (lay_bounds t p s)
  unfold makerI
  rw [maker_yes hr h0 h1, nth_on (by omega) h2 h3]
  omega
theorem done_no {t p s q f : Int} (h : ¬ (rightB t p s = true ∧ 0 ≤ q ∧ q < t ∧ 0 ≤ f ∧ f < 4)) : doneI t p s q f = -1 := by
  unfold doneI
  apply nth_off
  by_cases hf : 0 ≤ f ∧ f < 4
  · left
    apply nth_off
    cases hr : rightB t p s
    · have := lay_no hr; have := this.hT; omega
    · have := (lay_yes hr).hT; rw [hr] at h; simp at h; omega
  · omega
theorem done_yes {t p s q f : Int} (hr : rightB t p s = true) (h0 : 0 ≤ q) (h1 : q < t) (h2 : 0 ≤ f) (h3 : f < 4) : doneI t p s q f = 30 + 4 * q + f := by
  have := (lay_yes hr).hT
  unfold doneI
  rw [nth_on (f := 30) (by omega) h0 (by omega), nth_on (by omega) h2 h3]
  omega
theorem call_no {t p s m b : Int} (h : ¬ (rightB t p s = true ∧ 0 ≤ m ∧ m ≤ t ∧ 0 ≤ b ∧ b < 2)) : callI t p s m b = -1 := by
  unfold callI
  apply nth_off
  by_cases hf : 0 ≤ b ∧ b < 2
  · left; apply makerI_no; intro h'; exact h ⟨h'.1, h'.2.1, h'.2.2, hf.1, hf.2⟩
  · omega
theorem call_yes {t p s m b : Int} (hr : rightB t p s = true) (h0 : 0 ≤ m) (h1 : m ≤ t) (h2 : 0 ≤ b) (h3 : b < 2) : callI t p s m b = lM t p s + m * 120 + b * 8 := by
  have := (lay_bounds t p s)
  unfold callI
  rw [makerI_yes hr h0 h1 (by omega) (by omega), nth_on (by omega) h2 h3]
  omega
theorem log_no {t p s m i : Int} (h : ¬ (rightB t p s = true ∧ 0 ≤ m ∧ m ≤ t ∧ 0 ≤ i ∧ i < 96)) : logI t p s m i = -1 := by
  unfold logI
  apply nth_off
  by_cases hf : 0 ≤ i ∧ i < 96
  · left; apply makerI_no; intro h'; exact h ⟨h'.1, h'.2.1, h'.2.2, hf.1, hf.2⟩
  · omega
theorem log_yes {t p s m i : Int} (hr : rightB t p s = true) (h0 : 0 ≤ m) (h1 : m ≤ t) (h2 : 0 ≤ i) (h3 : i < 96) : logI t p s m i = lM t p s + m * 120 + 24 + i := by
  have := (lay_bounds t p s)
  unfold logI
  rw [makerI_yes hr h0 h1 (by omega) (by omega), nth_on (by omega) h2 h3]
  omega

/-! what a word is: its kind, and two numbers -/
/-- of a maker's words, the one behind so many others -/
def partT (q r : Int) : Int × Int × Int := if r < 16 then (4, q, r) else if r = 16 then (5, q, 0) else if 24 ≤ r then (6, q, r - 24) else (0, 0, 0)
def atT (t p s w : Int) : Int × Int × Int :=
  if w < 0 ∨ lW t p s ≤ w then (0, 0, 0) else if w < 8 then (1, w, 0) else if w = 8 then (2, 0, 0)
  else if lM t p s ≤ w then partT ((w - lM t p s) / 120) ((w - lM t p s) % 120)
  else if 16 ≤ w ∧ w - 16 < lC t p s then (3, w - 16, 0) else (0, 0, 0)
section
variable {t p s w : Int}
theorem place_out (h : w < 0 ∨ lW t p s ≤ w) : atT t p s w = (0, 0, 0) := by unfold atT; rw [if_pos h]
theorem at_head (h : 0 ≤ w) (h' : w < lW t p s) (h8 : w < 8) : atT t p s w = (1, w, 0) := by unfold atT; rw [if_neg (by omega), if_pos h8]
theorem at_tip (h' : 8 < lW t p s) : atT t p s 8 = (2, 0, 0) := by unfold atT; rw [if_neg (by omega), if_neg (by omega), if_pos rfl]
theorem words_right (h0 : 0 ≤ w) (h : w < lW t p s) : rightB t p s = true := by
  cases hr : rightB t p s
  · have h1 := (lay_no hr).hM; have h2 := (lay_no hr).hK; unfold lW at h; omega
  · rfl
theorem first_far (hr : rightB t p s = true) : 64 ≤ lM t p s ∧ 16 + lC t p s ≤ lM t p s ∧ lM t p s < 24 + lC t p s ∧ 58 ≤ lC t p s ∧ lM t p s % 8 = 0 ∧ lW t p s = lM t p s + (t + 1) * 120 := by
  obtain ⟨e1, e2, e3, e4, e5, e6, e7⟩ := lay_yes hr
  have := (rightB_iff t p s).1 hr
  unfold lW
  rw [e7]
  omega
theorem at_maker (h' : w < lW t p s) (hM : lM t p s ≤ w) : atT t p s w = partT ((w - lM t p s) / 120) ((w - lM t p s) % 120) := by
  have hb := lay_bounds t p s
  have hr := words_right (by omega) h'
  have := first_far hr
  unfold atT
  rw [if_neg (by omega), if_neg (by omega), if_neg (by omega), if_pos hM]
theorem at_cell (h0 : 16 ≤ w) (h1 : w - 16 < lC t p s) : atT t p s w = (3, w - 16, 0) := by
  have hr : rightB t p s = true := by
    cases hr : rightB t p s
    · have h1 := (lay_no hr).hC; omega
    · rfl
  have := first_far hr
  have := (rightB_iff t p s).1 hr
  unfold atT
  rw [if_neg (by omega), if_neg (by omega), if_neg (by omega), if_neg (by omega), if_pos ⟨h0, h1⟩]
theorem at_gap (h9 : 9 ≤ w) (hM : w < lM t p s) (hc : ¬ (16 ≤ w ∧ w - 16 < lC t p s)) : atT t p s w = (0, 0, 0) := by
  unfold atT
  by_cases h : w < 0 ∨ lW t p s ≤ w
  · rw [if_pos h]
  · rw [if_neg h, if_neg (by omega), if_neg (by omega), if_neg (by omega), if_neg hc]
/-- the word that stands i behind the first one of the maker k -/
theorem at_of {k i : Int} (hr : rightB t p s = true) (h0 : 0 ≤ k) (h1 : k ≤ t) (hi : 0 ≤ i) (hi' : i < 120) (hw : w - (lM t p s + k * 120) = i) : atT t p s w = partT k i := by
  have hf := first_far hr
  rw [at_maker (by omega) (by omega)]
  congr 1
  · omega
  · omega
/-- no maker has it -/
theorem at_none (hr : rightB t p s = true) (h9 : 9 ≤ w) (h' : w < lW t p s) (hc : ¬ (16 ≤ w ∧ w - 16 < lC t p s))
    (hn : ∀ k : Int, 0 ≤ k → k ≤ t → ¬ ((0 ≤ w - (lM t p s + k * 120) ∧ w - (lM t p s + k * 120) < 17) ∨ (24 ≤ w - (lM t p s + k * 120) ∧ w - (lM t p s + k * 120) < 120))) : atT t p s w = (0, 0, 0) := by
  have hf := first_far hr
  by_cases hM : lM t p s ≤ w
  · rw [at_maker h' hM]
    have := hn ((w - lM t p s) / 120) (by omega) (by omega)
    unfold partT
    rw [if_neg (by omega), if_neg (by omega), if_neg (by omega)]
  · exact at_gap h9 (by omega) hc
end
end Go.Proofs.Ytpndfhdedmdoeaa
