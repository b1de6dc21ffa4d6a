/-
  Rule 5: the bits of slots. Written by audit/gen_r5.py.
-/
import Derived.Test.YthiobfghanlelaaYRules
namespace Go.Proofs.Ythiobfghanlelaa
open Go.ChangeShapes Go.WideShapes Go.ChangeAt Go.RowKit Go.Shelf
set_option linter.unusedVariables false
set_option linter.unusedSimpArgs false

/-- each bit of a is one of b -/
def SubB (a b : Nat) : Prop := ∀ i, i < 32 → a.testBit i = true → b.testBit i = true
theorem andNot_zero (a b : Nat) (ha : a < 2 ^ 32) (hb : b < 2 ^ 32) : a &&& (4294967295 - b) = 0 ↔ SubB a b := by
  have hbit : ∀ i, i < 32 → (4294967295 - b).testBit i = !(b.testBit i) := fun i hi => by
    have e : 4294967295 - b = 2 ^ 32 - (b + 1) := by omega
    rw [e, Nat.testBit_two_pow_sub_succ hb]
    simp [hi]
  constructor
  · intro h i hi hai
    have := congrArg (fun x => x.testBit i) h
    simp only [Nat.testBit_and, Nat.zero_testBit, hbit i hi, hai, Bool.true_and, Bool.not_eq_false'] at this
    exact this
  · intro h
    apply Nat.eq_of_testBit_eq
    intro i
    rw [Nat.testBit_and, Nat.zero_testBit]
    rcases Nat.lt_or_ge i 32 with hi | hi
    · rw [hbit i hi]
      cases hai : a.testBit i
      · rfl
      · rw [h i hi hai]; rfl
    · rw [Nat.testBit_lt_two_pow (Nat.lt_of_lt_of_le ha (Nat.pow_le_pow_right (by omega) hi))]; rfl
theorem sub_mask (a n : Nat) (ha : a < 2 ^ 32) (hn : n ≤ 32) : SubB a (2 ^ n - 1) ↔ a < 2 ^ n := by
  constructor
  · intro h
    apply Nat.lt_pow_two_of_testBit
    intro i hi
    rcases Nat.lt_or_ge i 32 with h2 | h2
    · cases hai : a.testBit i
      · rfl
      · have := h i h2 hai
        rw [Nat.testBit_two_pow_sub_one] at this
        have := of_decide_eq_true this
        omega
    · exact Nat.testBit_lt_two_pow (Nat.lt_of_lt_of_le ha (Nat.pow_le_pow_right (by omega) h2))
  · intro h i hi hai
    rw [Nat.testBit_two_pow_sub_one]
    rcases Nat.lt_or_ge i n with h2 | h2
    · exact decide_eq_true h2
    · rw [Nat.testBit_lt_two_pow (Nat.lt_of_lt_of_le h (Nat.pow_le_pow_right (by omega) h2))] at hai; cases hai
theorem sub_zero (a : Nat) (ha : a < 2 ^ 32) : SubB a 0 ↔ a = 0 := by
  have := sub_mask a 0 ha (by omega)
  simpa using this
theorem mask_lt32 (n : Nat) (hn : n ≤ 32) : 2 ^ n - 1 < 2 ^ 32 := by
  have : (2 : Nat) ^ n ≤ 2 ^ 32 := Nat.pow_le_pow_right (by omega) hn
  omega

namespace AuH
def Slot5 (H : AuH) (q : Nat) : Prop := (H.K q = 3 → H.cel q 5 ≠ 0 ∧ H.cel q 5 < 2 ^ slotI (H.Cl q) ∧ SubB (H.cel q 4) (H.cel q 5)) ∧ (H.K q ≠ 3 → H.cel q 5 = 0 ∧ H.cel q 4 = 0)
/-- rule 5 -/
def R5 (H : AuH) : Prop := ∀ q, q < H.p → H.Slot5 q
/-- the bits that may be taken in pages of a span -/
def may (H : AuH) (q : Nat) : Nat := if H.K q = 3 then 2 ^ slotI (H.Cl q) - 1 else 0
variable {H : AuH}
theorem slot5_in (ht : H.Tiled) {a q : Nat} (ha : H.At a) (h0 : a < H.p) (h1 : a ≤ q) (h2 : q < H.nx a) {m : Nat} (hm : H.may a = m) (hc : H.cel q 5 < 2 ^ 32) (hs : H.K a = 3 → H.cel a 5 ≠ 0) (h3 : SubB (H.cel q 5) m) (h4 : SubB (H.cel q 4) (H.cel q 5)) (hc4 : H.cel q 4 < 2 ^ 32) : H.Slot5 q := by
  by_cases hk : H.K a = 3
  · have hl : H.ln a = 1 := by have := H.K_cases a; omega
    have : q = a := by unfold nx at h2; omega
    subst this
    unfold may at hm
    rw [if_pos hk] at hm
    subst hm
    exact ⟨fun _ => ⟨hs hk, (sub_mask _ _ hc (slotI_le _)).1 h3, h4⟩, fun h => absurd hk h⟩
  · have hkq : H.K q ≠ 3 := by
      rcases Nat.eq_or_lt_of_le h1 with h5 | h5
      · subst h5; exact hk
      · rw [ht.inside ha h0 h5 h2]; omega
    unfold may at hm
    rw [if_neg hk] at hm
    subst hm
    have h5 := (sub_zero _ hc).1 h3
    rw [h5] at h4
    exact ⟨fun h => absurd h hkq, fun _ => ⟨h5, (sub_zero _ hc4).1 h4⟩⟩
theorem slot5_out (ht : H.Tiled) {a q : Nat} (ha : H.At a) (h0 : a < H.p) (h1 : a ≤ q) (h2 : q < H.nx a) {m : Nat} (hm : H.may a = m) (hc : H.cel q 5 < 2 ^ 32) (hc4 : H.cel q 4 < 2 ^ 32) (h : H.Slot5 q) : SubB (H.cel q 5) m ∧ SubB (H.cel q 4) (H.cel q 5) := by
  by_cases hk : H.K a = 3
  · have hl : H.ln a = 1 := by have := H.K_cases a; omega
    have : q = a := by unfold nx at h2; omega
    subst this
    unfold may at hm
    rw [if_pos hk] at hm
    subst hm
    obtain ⟨e1, e2, e3⟩ := h.1 hk
    exact ⟨(sub_mask _ _ hc (slotI_le _)).2 e2, e3⟩
  · have hkq : H.K q ≠ 3 := by
      rcases Nat.eq_or_lt_of_le h1 with h5 | h5
      · subst h5; exact hk
      · rw [ht.inside ha h0 h5 h2]; omega
    unfold may at hm
    rw [if_neg hk] at hm
    subst hm
    obtain ⟨e1, e2⟩ := h.2 hkq
    rw [e1, e2]
    exact ⟨(sub_zero 0 (by omega)).2 rfl, (sub_zero 0 (by omega)).2 rfl⟩
end AuH
section
attribute [local go_sem] Oper.semAt_some

end
end Go.Proofs.Ythiobfghanlelaa

/-
  Rule 9: how many pages are free, and how many blocks live. Written by audit/gen_r9.py.
-/
namespace Go.Proofs.Ythiobfghanlelaa
open Go.ChangeShapes Go.WideShapes Go.ChangeAt Go.RowKit Go.Shelf
set_option linter.unusedVariables false
set_option linter.unusedSimpArgs false

namespace AuH
variable (H : AuH)
def freeF (q : Nat) : Nat := if H.K q = 1 then H.ln q else 0
def liveF (q : Nat) : Nat := if H.K q = 2 then 1 else if H.K q = 3 then HM.onesTo (H.cel q 4) 32 else 0
/-- rule 9 -/
def R9 : Prop := H.V 0 = sumTo H.freeF H.p % 4294967296 ∧ H.V 1 = sumTo H.liveF H.p % 4294967296
variable {H}
theorem freeF_no {q : Nat} (h : H.K q = 0) : H.freeF q = 0 := by unfold freeF; rw [if_neg (by omega)]
theorem liveF_no {q : Nat} (h : H.K q = 0) : H.liveF q = 0 := by unfold liveF; rw [if_neg (by omega), if_neg (by omega)]
theorem freeF_le (q : Nat) : H.freeF q ≤ 1024 := by
  unfold freeF
  split
  · exact (H.ln_pos q (by omega)).2
  · omega
theorem liveF_le (q : Nat) : H.liveF q ≤ 32 := by
  unfold liveF
  split
  · omega
  · split
    · exact HM.onesTo_le _ _
    · omega
theorem sums_le (x : Nat) (hx : x ≤ 1024) : sumTo H.freeF x ≤ 1048576 ∧ sumTo H.liveF x ≤ 32768 := by
  have h1 := sumTo_le H.freeF 1024 x (fun q _ => freeF_le q)
  have h2 := sumTo_le H.liveF 32 x (fun q _ => liveF_le q)
  have h3 : x * 1024 ≤ 1024 * 1024 := Nat.mul_le_mul_right _ hx
  have h4 : x * 32 ≤ 1024 * 32 := Nat.mul_le_mul_right _ hx
  omega
end AuH
section
attribute [local go_sem] Oper.semAt_some

end
end Go.Proofs.Ythiobfghanlelaa

/-
  Rule 10: the roots. Written by audit/gen_r10.py.
-/
namespace Go.Proofs.Ythiobfghanlelaa
open Go.ChangeShapes Go.WideShapes Go.ChangeAt Go.RowKit Go.Shelf
set_option linter.unusedVariables false
set_option linter.unusedSimpArgs false

theorem cellSame {w w' : World} {p : Addr} (h : w'.heap[p.block]? = w.heap[p.block]?) : w'.cell? p = w.cell? p := by unfold World.cell?; rw [h]
namespace AuH
variable (H : AuH)
/-- a live block begins at an address -/
def LiveAt (a : Int) : Prop := spotB H.t H.p H.s a = true ∧
  ((H.K (spotP H.t H.p H.s a).toNat = 2 ∧ spotO H.t H.p H.s a = 0) ∨
   (H.K (spotP H.t H.p H.s a).toNat = 3 ∧ slotB H.t H.p H.s (H.Cl (spotP H.t H.p H.s a).toNat) (spotO H.t H.p H.s a) = true ∧
     (H.cel (spotP H.t H.p H.s a).toNat 4).testBit (slotR H.t H.p H.s (H.Cl (spotP H.t H.p H.s a).toNat) (spotO H.t H.p H.s a)).toNat = true))
def R10 : Prop := ∀ i, i < 8 → H.V (22 + i) ≠ 0 → H.LiveAt (H.V (22 + i) : Int)
end AuH

def rootF (H : AuH) (k : Nat) (i : Nat) : Value := if i < k then .int .i64 (H.V (22 + i) : Nat) else .int .i64 0
def rootsV (H : AuH) : Value := .agg #[.int .i64 (H.V 22 : Nat), .int .i64 (H.V 23 : Nat), .int .i64 (H.V 24 : Nat), .int .i64 (H.V 25 : Nat), .int .i64 (H.V 26 : Nat), .int .i64 (H.V 27 : Nat), .int .i64 (H.V 28 : Nat), .int .i64 (H.V 29 : Nat)]

end Go.Proofs.Ythiobfghanlelaa
