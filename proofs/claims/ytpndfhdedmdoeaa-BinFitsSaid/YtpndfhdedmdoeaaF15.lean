/-
  Which list each page belongs in. Written by audit/gen_lists.py.
-/
import Derived.Test.YtpndfhdedmdoeaaF13
import Derived.Test.YtpndfhdedmdoeaaF14
namespace Go.Proofs.Ytpndfhdedmdoeaa
open Go.ChangeShapes Go.WideShapes Go.ChangeAt Go.RowKit Go.Shelf
set_option linter.unusedVariables false
set_option linter.unusedSimpArgs false

namespace AuH
/-- the cell of the list in which a page belongs; -1: in none -/
def tgt (H : AuH) (q : Nat) : Int := if H.K q = 1 then 2 + HM.logI (H.ln q : Int) else if H.K q = 3 ∧ H.cel q 5 ≠ 2 ^ slotI (H.Cl q) - 1 then 13 + H.Cl q else -1
variable {H : AuH}
theorem tgt_free {q : Nat} (h : H.K q = 1) : H.tgt q = 2 + HM.logI (H.ln q : Int) := by unfold tgt; rw [if_pos h]
theorem tgt_slab {q : Nat} (h : H.K q = 3) (h2 : H.cel q 5 ≠ 2 ^ slotI (H.Cl q) - 1) : H.tgt q = 13 + H.Cl q := by unfold tgt; rw [if_neg (by omega), if_pos ⟨h, h2⟩]
theorem tgt_full {q : Nat} (h : H.K q = 3) (h2 : H.cel q 5 = 2 ^ slotI (H.Cl q) - 1) : H.tgt q = -1 := by unfold tgt; rw [if_neg (by omega), if_neg (fun h3 => h3.2 h2)]
theorem tgt_used {q : Nat} (h : H.K q = 2) : H.tgt q = -1 := by unfold tgt; rw [if_neg (by omega), if_neg (by omega)]
theorem tgt_none {q : Nat} (h : H.K q = 0) : H.tgt q = -1 := by unfold tgt; rw [if_neg (by omega), if_neg (by omega)]
theorem log_few {n : Nat} (h1 : 1 ≤ n) (h2 : n ≤ 1024) : 0 ≤ HM.logI (n : Int) ∧ HM.logI (n : Int) ≤ 10 := by
  have h : ∃ k : Nat, k ≤ 10 ∧ 2 ^ k ≤ n ∧ n < 2 ^ (k + 1) := by
    rcases Nat.lt_or_ge n 1024 with h3 | h3
    · refine ⟨Nat.log2 n, ?_, Nat.log2_self_le (by omega), Nat.lt_log2_self⟩
      have := Nat.log2_lt (n := n) (k := 10) (by omega)
      have := this.2 h3
      omega
    · exact ⟨10, by omega, by omega, by omega⟩
  obtain ⟨k, hk, ha, hb⟩ := h
  rw [HM.logI_at (n : Int) k (by
    have e : ((n : Int) / 2 ^ k) = ((n / 2 ^ k : Nat) : Int) := by push_cast; rfl
    rw [e]
    have := Nat.div_le_div_right (c := 2 ^ k) ha
    rw [Nat.div_self (Nat.two_pow_pos k)] at this
    omega) (by
    have e : ((n : Int) / 2 ^ (k + 1)) = ((n / 2 ^ (k + 1) : Nat) : Int) := by push_cast; rfl
    rw [e, Nat.div_eq_of_lt hb]
    omega)]
  omega
def lsTo (H : AuH) (x i : Nat) : Int := if i < x then H.tgt i else -1
theorem lsTo_step (ht : H.Tiled) {a : Nat} (ha : H.At a) (h0 : a < H.p) {i : Nat} (hi : i < H.p) : H.lsTo (H.nx a) i = if i = a then H.tgt a else H.lsTo a i := by
  have hn := H.nx_gt (ht.at_can ha h0)
  unfold lsTo
  rcases Nat.lt_trichotomy i a with h | h | h
  · rw [if_pos (by omega), if_neg (by omega), if_pos h]
  · subst h; rw [if_pos hn.1, if_pos rfl]
  · rw [if_neg (show ¬ i = a by omega), if_neg (show ¬ i < a by omega)]
    rcases Nat.lt_or_ge i (H.nx a) with h2 | h2
    · rw [if_pos h2, tgt_none (ht.inside ha h0 h h2)]
    · rw [if_neg (by omega)]
end AuH
/-- a row of ints that are told by a function -/
def IntsF (w : World) (g p : Nat) (f : Nat → Int) : Prop := ∃ cs, Held w g 3 cs ∧ cs.size = p ∧ ∀ i, i < p → cs[i]? = some (.int .i64 (f i))
theorem IntsF.at_ {w : World} {g p : Nat} {f : Nat → Int} (h : IntsF w g p f) {i : Nat} (hi : i < p) : w.cell? ⟨g, i, none⟩ = some (.int .i64 (f i)) := by
  obtain ⟨cs, h1, h2, h3⟩ := h
  exact (h1.cell i).trans (h3 i hi)
theorem IntsF.thawed {w : World} {g p : Nat} {f : Nat → Int} (h : IntsF w g p f) (i : Nat) : w.frozen? ⟨g, i, none⟩ = false := by
  obtain ⟨cs, h1, h2, h3⟩ := h
  exact h1.thawed i
theorem IntsF.lt {w : World} {g p : Nat} {f : Nat → Int} (h : IntsF w g p f) : g < w.heap.size := by obtain ⟨cs, h1, _⟩ := h; exact h1.lt
theorem IntsF.of {w w' : World} {g p : Nat} {f : Nat → Int} (h : IntsF w g p f) (hb : ∀ cs, Held w g 3 cs → Held w' g 3 cs) : IntsF w' g p f := by
  obtain ⟨cs, h1, h2, h3⟩ := h
  exact ⟨cs, hb cs h1, h2, h3⟩
theorem IntsF.keep {w w' : World} {g p : Nat} {f : Nat → Int} (h : IntsF w g p f) (hb : Below w.heap.size w w') : IntsF w' g p f := h.of fun cs h1 => h1.keep hb
theorem IntsF.drew {w : World} {g p : Nat} {f : Nat → Int} (h : IntsF w g p f) : IntsF w.drew g p f := h
theorem IntsF.same {w : World} {g p : Nat} {f f' : Nat → Int} (h : IntsF w g p f) (he : ∀ i, i < p → f i = f' i) : IntsF w g p f' := by
  obtain ⟨cs, h1, h2, h3⟩ := h
  exact ⟨cs, h1, h2, fun i hi => by rw [← he i hi]; exact h3 i hi⟩
theorem IntsF.put {w : World} {g p : Nat} {f : Nat → Int} (h : IntsF w g p f) {k : Nat} (hk : k < p) (u : Int) : IntsF (w.setCell ⟨g, k, none⟩ (.int .i64 u)) g p (fun i => if i = k then u else f i) := by
  obtain ⟨cs, h1, h2, h3⟩ := h
  refine ⟨_, h1.put k (.int .i64 u), by simp; exact h2, fun i hi => ?_⟩
  by_cases e : i = k
  · subst e; simp [h2, hi]
  · rw [Array.getElem?_setIfInBounds_ne (by omega), h3 i hi]
    show _ = some (Value.int .i64 (if i = k then u else f i))
    rw [if_neg e]
section
attribute [local go_sem] Oper.semAt_some

end
end Go.Proofs.Ytpndfhdedmdoeaa

/-
  Rules 6 to 8: the bins, the racks, and no other links. Written by audit/gen_islist.py.
-/
namespace Go.Proofs.Ytpndfhdedmdoeaa
open Go.ChangeShapes Go.WideShapes Go.ChangeAt Go.RowKit Go.Shelf
set_option linter.unusedVariables false
set_option linter.unusedSimpArgs false

namespace AuH
variable (H : AuH)
/-- m pages are linked from at_ on, all of those of the list of the head, ahead ahead of the first one, and none behind the last one -/
def chain (head : Int) : Nat → Nat → Nat → Prop
  | 0, at_, _ => at_ = 0
  | m + 1, at_, ahead => (1 ≤ at_ ∧ at_ ≤ H.p ∧ H.tgt (at_ - 1) = head ∧ H.cel (at_ - 1) 3 = ahead) ∧ chain head m (H.cel (at_ - 1) 2) at_
def isF (head : Int) (q : Nat) : Nat := if H.tgt q = head then 1 else 0
/-- how many of the first x pages belong in a list -/
def cnt (head : Int) (x : Nat) : Nat := sumTo (H.isF head) x
def ListOk (head : Nat) : Prop := H.chain head (H.cnt head H.p) (H.V head) 0
variable {H}
theorem cnt_succ (head : Int) (x : Nat) : H.cnt head (x + 1) = H.cnt head x + H.isF head x := rfl
theorem cnt_mono (head : Int) {x y : Nat} (h : x ≤ y) : H.cnt head x ≤ H.cnt head y := by
  induction h with
  | refl => exact Nat.le_refl _
  | step h ih => rw [cnt_succ]; omega
end AuH

end Go.Proofs.Ytpndfhdedmdoeaa

/-
  Rules 6 to 8: the bins, the racks, and no other links. Written by audit/gen_r678.py.
-/
namespace Go.Proofs.Ytpndfhdedmdoeaa
open Go.ChangeShapes Go.WideShapes Go.ChangeAt Go.RowKit Go.Shelf
set_option linter.unusedVariables false
set_option linter.unusedSimpArgs false


namespace AuH
/-- rule 8 -/
def R8 (H : AuH) : Prop := ∀ q, q < H.p → H.tgt q = -1 → H.cel q 2 = 0 ∧ H.cel q 3 = 0
end AuH
end Go.Proofs.Ytpndfhdedmdoeaa
