/-
  Roots that are asked for (nacrelaw21.Ask): a list of them, and one, that came in, opened. Written by view/gen_structs.py.
-/
import Derived.Test.YtgfaefhkoaccbaaOwn
import Derived.Deep.Slices
import Derived.Lib.SmallJoins
namespace Go.Proofs.Ytgfaefhkoaccbaa
open Go.ChangeShapes Go.WideShapes Go.ChangeAt Go.RowKit
set_option linter.unusedVariables false
set_option maxRecDepth 100000
set_option linter.unusedSimpArgs false

structure RootAsk where
  i : Int
  ad : Int
  to : Int
  w0 : Int
  w1 : Int
  w2 : Int
instance : Inhabited RootAsk := ⟨⟨0, 0, 0, 0, 0, 0⟩⟩
structure RootAsk.Ok (a : RootAsk) : Prop where
  i : (Lit.int .i64 a.i).wf = true
  ad : (Lit.int .i64 a.ad).wf = true
  to : (Lit.int .i64 a.to).wf = true
  w0 : (Lit.int .i64 a.w0).wf = true
  w1 : (Lit.int .i64 a.w1).wf = true
  w2 : (Lit.int .i64 a.w2).wf = true
def RootAsk.cells (a : RootAsk) : List Value := [.int .i64 a.i, .int .i64 a.ad, .int .i64 a.to, .int .i64 a.w0, .int .i64 a.w1, .int .i64 a.w2]
def RootAsk.v (a : RootAsk) : Value := .agg #[.int .i64 a.i, .int .i64 a.ad, .int .i64 a.to, .int .i64 a.w0, .int .i64 a.w1, .int .i64 a.w2]
/-- a slice at A holds these -/
def RootAsks (w : World) (A : Option Addr) (l : List RootAsk) : Prop :=
  ∀ i a, l[i]? = some a → ∃ ad, A = some ad ∧ ad.block < w.heap.size ∧ ∀ j u, a.cells[j]? = some u → w.cell? (ad.add (i * 6 + j)) = some u
theorem RootAsks.below {w w' : World} {A : Option Addr} {l : List RootAsk} (h : RootAsks w A l) (hb : Below w.heap.size w w') : RootAsks w' A l := fun i a ha => by
  obtain ⟨ad, e, h1, h2⟩ := h i a ha
  exact ⟨ad, e, Nat.lt_of_lt_of_le h1 hb.size, fun j u hu => (hb.cell (p := ad.add (i * 6 + j)) (by rw [block_of_add]; exact h1)).trans (h2 j u hu)⟩
/-- its cells at p, as a walk asks for them -/
def RootAskAt (w : World) (p : Addr) (a : RootAsk) : Prop :=
  w.cell? p = some (.int .i64 a.i) ∧ w.cell? ⟨p.block, p.off + 1, none⟩ = some (.int .i64 a.ad) ∧ w.cell? ⟨p.block, p.off + 2, none⟩ = some (.int .i64 a.to) ∧ w.cell? ⟨p.block, p.off + 3, none⟩ = some (.int .i64 a.w0) ∧ w.cell? ⟨p.block, p.off + 4, none⟩ = some (.int .i64 a.w1) ∧ w.cell? ⟨p.block, p.off + 5, none⟩ = some (.int .i64 a.w2)
theorem rootAsk_off (p : Addr) (j : Nat) (h : j ≠ 0) : p.add j = ⟨p.block, p.off + j, none⟩ := by unfold Addr.add; rw [if_neg h]
theorem RootAsks.cells {w : World} {ad : Addr} {l : List RootAsk} (h : RootAsks w (some ad) l) {i : Nat} {a : RootAsk} (ha : l[i]? = some a) : RootAskAt w (ad.add (i * 6)) a := by
  obtain ⟨ad', e, _, h2⟩ := h i a ha
  injection e with e
  subst e
  have h10 := h2 0 _ rfl
  have h11 := h2 1 _ rfl
  have h12 := h2 2 _ rfl
  have h13 := h2 3 _ rfl
  have h14 := h2 4 _ rfl
  have h15 := h2 5 _ rfl
  rw [← add_of_add] at h10 h11 h12 h13 h14 h15
  rw [rootAsk_off _ _ (by omega)] at h11 h12 h13 h14 h15
  exact ⟨h10, h11, h12, h13, h14, h15⟩

section
variable {w : World} {g : Nat} {t : TypeId} {c0 c1 c2 c3 c4 c5 : Value}
theorem Held.sixR (h : Held w g t #[c0, c1, c2, c3, c4, c5]) : w.cell? ⟨g, 0, none⟩ = some c0 ∧ w.cell? ⟨g, 1, none⟩ = some c1 ∧ w.cell? ⟨g, 2, none⟩ = some c2 ∧ w.cell? ⟨g, 3, none⟩ = some c3 ∧ w.cell? ⟨g, 4, none⟩ = some c4 ∧ w.cell? ⟨g, 5, none⟩ = some c5 :=
  ⟨h.cell 0, h.cell 1, h.cell 2, h.cell 3, h.cell 4, h.cell 5⟩
end

section
variable {H : Type} {enc : TypeId × Value → H} {w : World} {base : Nat} {sp : Nat → Bool} {held : Bool}
end
end Go.Proofs.Ytgfaefhkoaccbaa
