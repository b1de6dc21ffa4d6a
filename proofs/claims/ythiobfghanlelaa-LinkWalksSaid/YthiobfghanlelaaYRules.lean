/-
  Rule 2: the spans go up to the end, and nothing is told behind their first pages.
-/
import Derived.Test.YthiobfghanlelaaYSpans
import Derived.Test.YthiobfghanlelaaYAt
namespace Go.Proofs.Ythiobfghanlelaa
open Go.ChangeShapes Go.WideShapes Go.ChangeAt Go.RowKit Go.Shelf
set_option linter.unusedVariables false
set_option linter.unusedSimpArgs false
section
attribute [local go_sem] Oper.semAt_some
end
end Go.Proofs.Ythiobfghanlelaa

/-
  Rule 3: the feet. Written by audit/gen_feet.py.
-/
namespace Go.Proofs.Ythiobfghanlelaa
open Go.ChangeShapes Go.WideShapes Go.ChangeAt Go.RowKit Go.Shelf
set_option linter.unusedVariables false
set_option linter.unusedSimpArgs false

namespace AuH
def Foot (H : AuH) (q : Nat) : Prop := (∀ r, q ≤ r → r + 1 < q + H.ln q → H.cel r 1 = 0) ∧ H.cel (q + H.ln q - 1) 1 = q + 1
/-- rule 3 -/
def R3 (H : AuH) : Prop := ∀ q, q < H.p → H.K q ≠ 0 → H.Foot q
end AuH
section
attribute [local go_sem] Oper.semAt_some

end
end Go.Proofs.Ythiobfghanlelaa

/-
  Rule 4: no two free spans are side by side. Written by audit/gen_r4.py.
-/
namespace Go.Proofs.Ythiobfghanlelaa
open Go.ChangeShapes Go.WideShapes Go.ChangeAt Go.RowKit Go.Shelf
set_option linter.unusedVariables false
set_option linter.unusedSimpArgs false

namespace AuH
/-- rule 4 -/
def R4 (H : AuH) : Prop := ∀ q, H.At q → q < H.p → H.K q = 1 → H.nx q < H.p → H.K (H.nx q) ≠ 1
def R4to (H : AuH) (x : Nat) : Prop := ∀ q, H.At q → q < H.p → H.K q = 1 → H.nx q < x → H.K (H.nx q) ≠ 1
def Ahead (H : AuH) (x : Nat) : Prop := ∃ q, H.At q ∧ q < H.p ∧ H.nx q = x ∧ H.K q = 1
variable {H : AuH}
theorem R4to.step (ht : H.Tiled) {a : Nat} (h : H.R4to a) (ha : H.At a) (h0 : a < H.p) (hn : ¬ (H.K a = 1 ∧ H.Ahead a)) : H.R4to (H.nx a) := by
  intro q hq hqp hk hl hk2
  have hx := AuH.At.step hq (ht.at_can hq hqp)
  rcases Nat.lt_trichotomy (H.nx q) a with h1 | h1 | h1
  · exact h q hq hqp hk h1 hk2
  · exact hn ⟨by rw [← h1]; exact hk2, q, hq, hqp, h1, hk⟩
  · have := (At.next ha hx h1).2; omega
theorem Ahead.iff (ht : H.Tiled) {a : Nat} (ha : H.At a) (h0 : a < H.p) : H.K a = 1 ↔ H.Ahead (H.nx a) := by
  constructor
  · intro h; exact ⟨a, ha, h0, rfl, h⟩
  · rintro ⟨q, hq, hqp, he, hk⟩
    have h1 := H.nx_gt (ht.at_can ha h0)
    have h2 := H.nx_gt (ht.at_can hq hqp)
    rcases Nat.lt_trichotomy q a with h3 | h3 | h3
    · have := (At.next hq ha h3).2; omega
    · subst h3; exact hk
    · have := (At.next ha hq h3).2; omega
theorem Ahead.zero (ht : H.Tiled) : ¬ H.Ahead 0 := by
  rintro ⟨q, hq, hqp, he, hk⟩
  have := (H.nx_gt (ht.at_can hq hqp)).1
  omega
end AuH
section
attribute [local go_sem] Oper.semAt_some

end
end Go.Proofs.Ythiobfghanlelaa
