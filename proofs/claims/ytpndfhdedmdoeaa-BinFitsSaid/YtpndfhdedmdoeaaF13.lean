/-
  Rule 2: the spans go up to the end, and nothing is told behind their first pages.
-/
import Derived.Test.YtpndfhdedmdoeaaF12
namespace Go.Proofs.Ytpndfhdedmdoeaa
open Go.ChangeShapes Go.WideShapes Go.ChangeAt Go.RowKit Go.Shelf
set_option linter.unusedVariables false
set_option linter.unusedSimpArgs false
section
attribute [local go_sem] Oper.semAt_some
end
end Go.Proofs.Ytpndfhdedmdoeaa

/-
  Rule 3: the feet. Written by audit/gen_feet.py.
-/
namespace Go.Proofs.Ytpndfhdedmdoeaa
open Go.ChangeShapes Go.WideShapes Go.ChangeAt Go.RowKit Go.Shelf
set_option linter.unusedVariables false
set_option linter.unusedSimpArgs false

namespace AuH
def Foot (H : AuH) (q : Nat) : Prop := (∀ r, q ≤ r → r + 1 < q + H.ln q → H.cel r 1 = 0) ∧ H.cel (q + H.ln q - 1) 1 = q + 1
/-- rule 3 -/
def R3 (H : AuH) : Prop := ∀ q, q < H.p → H.K q ≠ 0 → H.Foot q
end AuH
section
attribute [local go_sem] Oper.semAt_some

end
end Go.Proofs.Ytpndfhdedmdoeaa

/-
  Rule 4: no two free spans are side by side. Written by audit/gen_r4.py.
-/
namespace Go.Proofs.Ytpndfhdedmdoeaa
open Go.ChangeShapes Go.WideShapes Go.ChangeAt Go.RowKit Go.Shelf
set_option linter.unusedVariables false
set_option linter.unusedSimpArgs false

namespace AuH
/-- rule 4 -/
def R4 (H : AuH) : Prop := ∀ q, H.At q → q < H.p → H.K q = 1 → H.nx q < H.p → H.K (H.nx q) ≠ 1
def R4to (H : AuH) (x : Nat) : Prop := ∀ q, H.At q → q < H.p → H.K q = 1 → H.nx q < x → H.K (H.nx q) ≠ 1
def Ahead (H : AuH) (x : Nat) : Prop := ∃ q, H.At q ∧ q < H.p ∧ H.nx q = x ∧ H.K q = 1
variable {H : AuH}
theorem R4to.step (ht : H.Tiled) {a : Nat} (h : H.R4to a) (ha : H.At a) (h0 : a < H.p) (hn : ¬ (H.K a = 1 ∧ H.Ahead a)) : H.R4to (H.nx a) := by
  intro q hq hqp hk hl hk2
  have hx := AuH.At.step hq (ht.at_can hq hqp)
  rcases Nat.lt_trichotomy (H.nx q) a with h1 | h1 | h1
  · exact h q hq hqp hk h1 hk2
  · exact hn ⟨by rw [← h1]; exact hk2, q, hq, hqp, h1, hk⟩
  · have := (At.next ha hx h1).2; omega
theorem Ahead.iff (ht : H.Tiled) {a : Nat} (ha : H.At a) (h0 : a < H.p) : H.K a = 1 ↔ H.Ahead (H.nx a) := by
  constructor
  · intro h; exact ⟨a, ha, h0, rfl, h⟩
  · rintro ⟨q, hq, hqp, he, hk⟩
    have h1 := H.nx_gt (ht.at_can ha h0)
    have h2 := H.nx_gt (ht.at_can hq hqp)
    rcases Nat.lt_trichotomy q a with h3 | h3 | h3
    · have := (At.next hq ha h3).2; omega
    · subst h3; exact hk
    · have := (At.next ha hq h3).2; omega
theorem Ahead.zero (ht : H.Tiled) : ¬ H.Ahead 0 := by
  rintro ⟨q, hq, hqp, he, hk⟩
  have := (H.nx_gt (ht.at_can hq hqp)).1
  omega
end AuH
section
attribute [local go_sem] Oper.semAt_some

end
end Go.Proofs.Ytpndfhdedmdoeaa

/-
  Rule 5: the bits of slots. Written by audit/gen_r5.py.
-/
namespace Go.Proofs.Ytpndfhdedmdoeaa
open Go.ChangeShapes Go.WideShapes Go.ChangeAt Go.RowKit Go.Shelf
set_option linter.unusedVariables false
set_option linter.unusedSimpArgs false

/-- each bit of a is one of b -/
def SubB (a b : Nat) : Prop := ∀ i, i < 32 → a.testBit i = true → b.testBit i = true
theorem andNot_zero (a b : Nat) (ha : a < 2 ^ 32) (hb : b < 2 ^ 32) : a &&& (4294967295 - b) = 0 ↔ SubB a b := by
  have hbit : ∀ i, i < 32 → (4294967295 - b).testBit i = !(b.testBit i) := fun i hi => by
    have e : 4294967295 - b = 2 ^ 32 - (b + 1) := by omega
    rw [e, Nat.testBit_two_pow_sub_succ hb]
    simp [hi]
  constructor
  · intro h i hi hai
    have := congrArg (fun x => x.testBit i) h
    simp only [Nat.testBit_and, Nat.zero_testBit, hbit i hi, hai, Bool.true_and, Bool.not_eq_false'] at this
    exact this
  · intro h
    apply Nat.eq_of_testBit_eq
    intro i
    rw [Nat.testBit_and, Nat.zero_testBit]
    rcases Nat.lt_or_ge i 32 with hi | hi
    · rw [hbit i hi]
      cases hai : a.testBit i
      · rfl
      · rw [h i hi hai]; rfl
    · rw [Nat.testBit_lt_two_pow (Nat.lt_of_lt_of_le ha (Nat.pow_le_pow_right (by omega) hi))]; rfl
theorem sub_mask (a n : Nat) (ha : a < 2 ^ 32) (hn : n ≤ 32) : SubB a (2 ^ n - 1) ↔ a < 2 ^ n := by
  constructor
  · intro h
    apply Nat.lt_pow_two_of_testBit
    intro i hi
    rcases Nat.lt_or_ge i 32 with h2 | h2
    · cases hai : a.testBit i
      · rfl
      · have := h i h2 hai
        rw [Nat.testBit_two_pow_sub_one] at this
        have := of_decide_eq_true this
        omega
    · exact Nat.testBit_lt_two_pow (Nat.lt_of_lt_of_le ha (Nat.pow_le_pow_right (by omega) h2))
  · intro h i hi hai
    rw [Nat.testBit_two_pow_sub_one]
    rcases Nat.lt_or_ge i n with h2 | h2
    · exact decide_eq_true h2
    · rw [Nat.testBit_lt_two_pow (Nat.lt_of_lt_of_le h (Nat.pow_le_pow_right (by omega) h2))] at hai; cases hai
theorem sub_zero (a : Nat) (ha : a < 2 ^ 32) : SubB a 0 ↔ a = 0 := by
  have := sub_mask a 0 ha (by omega)
  simpa using this
theorem mask_lt32 (n : Nat) (hn : n ≤ 32) : 2 ^ n - 1 < 2 ^ 32 := by
  have : (2 : Nat) ^ n ≤ 2 ^ 32 := Nat.pow_le_pow_right (by omega) hn
  omega

namespace AuH
def Slot5 (H : AuH) (q : Nat) : Prop := (H.K q = 3 → H.cel q 5 ≠ 0 ∧ H.cel q 5 < 2 ^ slotI (H.Cl q) ∧ SubB (H.cel q 4) (H.cel q 5)) ∧ (H.K q ≠ 3 → H.cel q 5 = 0 ∧ H.cel q 4 = 0)
/-- rule 5 -/
def R5 (H : AuH) : Prop := ∀ q, q < H.p → H.Slot5 q
/-- the bits that may be taken in pages of a span -/
def may (H : AuH) (q : Nat) : Nat := if H.K q = 3 then 2 ^ slotI (H.Cl q) - 1 else 0
variable {H : AuH}
theorem slot5_in (ht : H.Tiled) {a q : Nat} (ha : H.At a) (h0 : a < H.p) (h1 : a ≤ q) (h2 : q < H.nx a) {m : Nat} (hm : H.may a = m) (hc : H.cel q 5 < 2 ^ 32) (hs : H.K a = 3 → H.cel a 5 ≠ 0) (h3 : SubB (H.cel q 5) m) (h4 : SubB (H.cel q 4) (H.cel q 5)) (hc4 : H.cel q 4 < 2 ^ 32) : H.Slot5 q := by
  by_cases hk : H.K a = 3
  · have hl : H.ln a = 1 := by have := H.K_cases a; omega
    have : q = a := by unfold nx at h2; omega
    subst this
    unfold may at hm
    rw [if_pos hk] at hm
    subst hm
    exact ⟨fun _ => ⟨hs hk, (sub_mask _ _ hc (slotI_le _)).1 h3, h4⟩, fun h => absurd hk h⟩
  · have hkq : H.K q ≠ 3 := by
      rcases Nat.eq_or_lt_of_le h1 with h5 | h5
      · subst h5; exact hk
      · rw [ht.inside ha h0 h5 h2]; omega
    unfold may at hm
    rw [if_neg hk] at hm
    subst hm
    have h5 := (sub_zero _ hc).1 h3
    rw [h5] at h4
    exact ⟨fun h => absurd h hkq, fun _ => ⟨h5, (sub_zero _ hc4).1 h4⟩⟩
theorem slot5_out (ht : H.Tiled) {a q : Nat} (ha : H.At a) (h0 : a < H.p) (h1 : a ≤ q) (h2 : q < H.nx a) {m : Nat} (hm : H.may a = m) (hc : H.cel q 5 < 2 ^ 32) (hc4 : H.cel q 4 < 2 ^ 32) (h : H.Slot5 q) : SubB (H.cel q 5) m ∧ SubB (H.cel q 4) (H.cel q 5) := by
  by_cases hk : H.K a = 3
  · have hl : H.ln a = 1 := by have := H.K_cases a; omega
    have : q = a := by unfold nx at h2; omega
    subst this
    unfold may at hm
    rw [if_pos hk] at hm
    subst hm
    obtain ⟨e1, e2, e3⟩ := h.1 hk
    exact ⟨(sub_mask _ _ hc (slotI_le _)).2 e2, e3⟩
  · have hkq : H.K q ≠ 3 := by
      rcases Nat.eq_or_lt_of_le h1 with h5 | h5
      · subst h5; exact hk
      · rw [ht.inside ha h0 h5 h2]; omega
    unfold may at hm
    rw [if_neg hk] at hm
    subst hm
    obtain ⟨e1, e2⟩ := h.2 hkq
    rw [e1, e2]
    exact ⟨(sub_zero 0 (by omega)).2 rfl, (sub_zero 0 (by omega)).2 rfl⟩
end AuH
section
attribute [local go_sem] Oper.semAt_some

end
end Go.Proofs.Ytpndfhdedmdoeaa
