/-
  What values of cells are, as functions: which pages spans begin at, and when they go up to the end. No program is named here.
-/
import Derived.Test.YtgfaefhkoaccbaaInfoGet
import Derived.Test.YtgfaefhkoaccbaaAddrMath
namespace Go.Proofs.Ytgfaefhkoaccbaa
open Go.ChangeShapes Go.WideShapes Go.ChangeAt Go.RowKit
set_option linter.unusedVariables false

/-- a right configuration (threads, pages, shift), and values of its cells -/
structure AuH where
  t : Nat
  p : Nat
  s : Nat
  V : Nat → Nat

namespace AuH
variable (H : AuH)
/-- the cell b of the page q -/
def cel (q b : Nat) : Nat := H.V (30 + 4 * H.t + 6 * q + b)
def K (q : Nat) : Int := (infoG (H.cel q 0)).1
def L (q : Nat) : Int := (infoG (H.cel q 0)).2.1
def Cl (q : Nat) : Int := (infoG (H.cel q 0)).2.2.1
def ok (q : Nat) : Bool := (infoG (H.cel q 0)).2.2.2
def ln (q : Nat) : Nat := (H.L q).toNat
theorem info_eq (q : Nat) : infoG (H.cel q 0) = (H.K q, H.L q, H.Cl q, H.ok q) := rfl
theorem infoP_at (q : Nat) : infoP (H.K q) (H.L q) (H.Cl q) := by
  cases hb : H.ok q
  · have h := H.info_eq q
    rw [hb] at h
    exact .inl (infoG_none h)
  · have h := H.info_eq q
    rw [hb] at h
    exact infoB_iff (infoG_back h).1
theorem ok_of (q : Nat) (h : H.K q ≠ 0) : H.ok q = true := by
  cases hb : H.ok q
  · have h2 := H.info_eq q
    rw [hb] at h2
    exact absurd (infoG_none h2).1 h
  · rfl
theorem K_cases (q : Nat) : (H.K q = 0 ∧ H.ln q = 0 ∧ H.Cl q = 0) ∨ ((H.K q = 1 ∨ H.K q = 2) ∧ 1 ≤ H.ln q ∧ H.ln q ≤ 1024 ∧ H.Cl q = 0) ∨ (H.K q = 3 ∧ H.ln q = 1 ∧ 0 ≤ H.Cl q ∧ H.Cl q ≤ 8) := by
  have h := H.infoP_at q
  unfold infoP at h
  unfold ln
  omega
theorem L_ln (q : Nat) : H.L q = (H.ln q : Int) := by
  have h := H.infoP_at q
  unfold infoP at h
  unfold ln
  omega
theorem K_zero (q : Nat) (h : H.cel q 0 = 0) : H.K q = 0 ∧ H.ok q = true := by
  have e : infoG 0 = (0, 0, 0, true) := by decide
  unfold K ok
  rw [h, e]
  exact ⟨rfl, rfl⟩
theorem ln_pos (q : Nat) (h : H.K q ≠ 0) : 1 ≤ H.ln q ∧ H.ln q ≤ 1024 := by
  have := H.K_cases q
  omega

/-- may a span begin at a page, and do its pages be there? -/
def can (q : Nat) : Bool := decide (q < H.p ∧ H.K q ≠ 0 ∧ q + H.ln q ≤ H.p)
def nx (q : Nat) : Nat := q + H.ln q
theorem can_iff (q : Nat) : H.can q = true ↔ q < H.p ∧ H.K q ≠ 0 ∧ q + H.ln q ≤ H.p := by unfold can; exact decide_eq_true_iff
theorem can_no (q : Nat) : H.can q = false ↔ ¬ (q < H.p ∧ H.K q ≠ 0 ∧ q + H.ln q ≤ H.p) := by unfold can; exact decide_eq_false_iff_not
theorem nx_gt {q : Nat} (h : H.can q = true) : q < H.nx q ∧ H.nx q ≤ H.p := by
  have h := (H.can_iff q).1 h
  have := H.ln_pos q h.2.1
  unfold nx
  omega

/-- the pages that one comes to, from one span to the next one -/
inductive At : Nat → Prop where
  | zero : At 0
  | step {q : Nat} : At q → H.can q = true → At (H.nx q)
variable {H}
theorem At.le {q : Nat} (h : H.At q) : q ≤ H.p := by
  cases h with
  | zero => omega
  | step h hc => exact (H.nx_gt hc).2
theorem At.chain : ∀ (n a b : Nat), a + b ≤ n → H.At a → H.At b → a < b → H.can a = true ∧ H.nx a ≤ b := by
  intro n
  induction n with
  | zero => intro a b h _ _ hl; omega
  | succ n ih =>
    intro a b h ha hb hl
    cases hb with
    | zero => omega
    | step hb0 hc =>
      rename_i b0
      have h0 := H.nx_gt hc
      rcases Nat.lt_trichotomy a b0 with h1 | h1 | h1
      · have := ih a b0 (by omega) ha hb0 h1
        exact ⟨this.1, by omega⟩
      · subst h1
        exact ⟨hc, Nat.le_refl _⟩
      · have := ih b0 a (by omega) hb0 ha h1
        omega
theorem At.next {a b : Nat} (ha : H.At a) (hb : H.At b) (h : a < b) : H.can a = true ∧ H.nx a ≤ b := At.chain _ a b (Nat.le_refl _) ha hb h
theorem At.cover {x : Nat} (h : H.At x) : ∀ q, q < x → ∃ a, H.At a ∧ H.can a = true ∧ a ≤ q ∧ q < H.nx a := by
  induction h with
  | zero => intro q hq; omega
  | step h hc ih =>
    rename_i a
    intro q hq
    rcases Nat.lt_or_ge q a with h1 | h1
    · exact ih q h1
    · exact ⟨a, h, hc, h1, hq⟩
variable (H)
/-- is the info of all pages behind a span's first one 0, of the spans ahead of x? -/
def Bare (x : Nat) : Prop := ∀ a, H.At a → H.can a = true → a < x → ∀ q, a < q → q < H.nx a → H.cel q 0 = 0
/-- rule 2 -/
def Tiled : Prop := H.At H.p ∧ H.Bare H.p
variable {H}
theorem Bare.step {a : Nat} (h : H.Bare a) (ha : H.At a) (hb : ∀ q, a < q → q < H.nx a → H.cel q 0 = 0) : H.Bare (H.nx a) := by
  intro b hb1 hb2 hb3 q h1 h2
  rcases Nat.lt_trichotomy b a with h3 | h3 | h3
  · exact h b hb1 hb2 h3 q h1 h2
  · subst h3; exact hb q h1 h2
  · have := (At.next ha hb1 h3).2; omega
theorem not_tiled_end {a : Nat} (ha : H.At a) (hc : H.can a = false) (h : a ≠ H.p) : ¬ H.Tiled := by
  rintro ⟨h1, _⟩
  have := At.next ha h1 (by have := ha.le; omega)
  rw [this.1] at hc
  cases hc
theorem not_tiled_in {a q : Nat} (ha : H.At a) (hc : H.can a = true) (h1 : a < q) (h2 : q < H.nx a) (h : H.cel q 0 ≠ 0) : ¬ H.Tiled := by
  rintro ⟨_, hb⟩
  exact h (hb a ha hc (by have := (H.can_iff a).1 hc; omega) q h1 h2)
theorem tiled_of {a : Nat} (ha : H.At a) (hb : H.Bare a) (h : a = H.p) : H.Tiled := by subst h; exact ⟨ha, hb⟩

/-! what holds of spans that go up to the end -/
theorem Tiled.start (h : H.Tiled) {q : Nat} (hq : q < H.p) (hk : H.K q ≠ 0) : H.At q ∧ H.can q = true := by
  obtain ⟨a, h1, h2, h3, h4⟩ := h.1.cover q hq
  rcases Nat.eq_or_lt_of_le h3 with h5 | h5
  · subst h5; exact ⟨h1, h2⟩
  · exact absurd (H.K_zero q (h.2 a h1 h2 (by omega) q h5 h4)).1 hk
theorem Tiled.at_can (h : H.Tiled) {q : Nat} (ha : H.At q) (hq : q < H.p) : H.can q = true := (At.next ha h.1 hq).1
theorem Tiled.can_eq (h : H.Tiled) {q : Nat} (ha : H.At q) : H.can q = decide (q < H.p) := by
  by_cases hq : q < H.p
  · rw [h.at_can ha hq, decide_eq_true hq]
  · rw [decide_eq_false hq]; exact (H.can_no q).2 (by omega)
theorem Tiled.at_K (h : H.Tiled) {q : Nat} (ha : H.At q) (hq : q < H.p) : H.K q ≠ 0 := ((H.can_iff q).1 (h.at_can ha hq)).2.1
theorem Tiled.inside (h : H.Tiled) {a q : Nat} (ha : H.At a) (h0 : a < H.p) (h1 : a < q) (h2 : q < H.nx a) : H.K q = 0 := (H.K_zero q (h.2 a ha (h.at_can ha h0) h0 q h1 h2)).1
theorem Tiled.cover (h : H.Tiled) {q : Nat} (hq : q < H.p) : ∃ a, H.At a ∧ a < H.p ∧ H.K a ≠ 0 ∧ a ≤ q ∧ q < H.nx a := by
  obtain ⟨a, h1, h2, h3, h4⟩ := h.1.cover q hq
  exact ⟨a, h1, by omega, h.at_K h1 (by omega), h3, h4⟩
/-- what is told of the pages ahead of a span, and of its own first one, is told of the pages ahead of the next span: the others begin none -/
theorem Tiled.step {R : Nat → Prop} (h : H.Tiled) {a : Nat} (ha : H.At a) (h0 : a < H.p) (h1 : ∀ q, q < a → H.K q ≠ 0 → R q) (h2 : R a) : ∀ q, q < H.nx a → H.K q ≠ 0 → R q := by
  intro q hq hk
  rcases Nat.lt_trichotomy q a with h3 | h3 | h3
  · exact h1 q h3 hk
  · subst h3; exact h2
  · exact absurd (h.inside ha h0 h3 hq) hk
/-- a sum over pages, of which only those at which spans begin count -/
def sumTo (f : Nat → Nat) : Nat → Nat
  | 0 => 0
  | n + 1 => sumTo f n + f n
theorem sumTo_skip (f : Nat → Nat) (a : Nat) : ∀ n, (∀ q, a ≤ q → q < a + n → f q = 0) → sumTo f (a + n) = sumTo f a
  | 0, _ => rfl
  | n + 1, h => by
    show sumTo f (a + n) + f (a + n) = _
    rw [sumTo_skip f a n (fun q h1 h2 => h q h1 (by omega)), h (a + n) (by omega) (by omega)]
    omega
theorem Tiled.sum {f : Nat → Nat} (h : H.Tiled) {a : Nat} (ha : H.At a) (h0 : a < H.p) (hf : ∀ q, q < H.p → H.K q = 0 → f q = 0) : sumTo f (H.nx a) = sumTo f a + f a := by
  have h1 := H.ln_pos a (h.at_K ha h0)
  have h2 := (H.nx_gt (h.at_can ha h0)).2
  have e : H.nx a = (a + 1) + (H.ln a - 1) := by unfold nx; omega
  rw [e, sumTo_skip f (a + 1) _ (fun q h3 h4 => hf q (by omega) (h.inside ha h0 (by omega) (by omega)))]
  rfl
theorem sumTo_le (f : Nat → Nat) (m : Nat) : ∀ n, (∀ q, q < n → f q ≤ m) → sumTo f n ≤ n * m
  | 0, _ => by simp [sumTo]
  | n + 1, h => by
    have h1 := sumTo_le f m n (fun q hq => h q (by omega))
    have h2 := h n (by omega)
    show sumTo f n + f n ≤ (n + 1) * m
    rw [Nat.succ_mul]
    omega
/-- a list of what pages give, of which only those at which spans begin give something -/
def catTo {α : Type} (f : Nat → List α) : Nat → List α
  | 0 => []
  | n + 1 => catTo f n ++ f n
theorem catTo_skip {α : Type} (f : Nat → List α) (a : Nat) : ∀ n, (∀ q, a ≤ q → q < a + n → f q = []) → catTo f (a + n) = catTo f a
  | 0, _ => rfl
  | n + 1, h => by
    show catTo f (a + n) ++ f (a + n) = _
    rw [catTo_skip f a n (fun q h1 h2 => h q h1 (by omega)), h (a + n) (by omega) (by omega), List.append_nil]
theorem Tiled.cat {α : Type} {f : Nat → List α} (h : H.Tiled) {a : Nat} (ha : H.At a) (h0 : a < H.p) (hf : ∀ q, q < H.p → H.K q = 0 → f q = []) : catTo f (H.nx a) = catTo f a ++ f a := by
  have h1 := H.ln_pos a (h.at_K ha h0)
  have h2 := (H.nx_gt (h.at_can ha h0)).2
  have e : H.nx a = (a + 1) + (H.ln a - 1) := by unfold nx; omega
  rw [e, catTo_skip f (a + 1) _ (fun q h3 h4 => hf q (by omega) (h.inside ha h0 (by omega) (by omega)))]
  rfl
end AuH

/-! short names for what each step of a drawn region is laid down by -/
theorem gA {α : Type} {xs : List α} {i : Nat} (h : i < xs.toArray.size) : xs.toArray[i] = xs[i]'(by simpa using h) := List.getElem_toArray h
theorem gB {α : Type} (a : α) (l : List α) (h : 0 < (a :: l).length) : (a :: l)[0]'h = a := List.getElem_cons_zero a l h
theorem gC {α : Type} (a : α) (l : List α) (i : Nat) (h : i + 1 < (a :: l).length) : (a :: l)[i + 1]'h = l[i]'(Nat.lt_of_succ_lt_succ h) := List.getElem_cons_succ a l i h
theorem sA {α : Type} (l : List α) (i : Nat) (a : α) : l.toArray.setIfInBounds i a = (l.set i a).toArray := List.setIfInBounds_toArray l i a
theorem sB {α : Type} {x : α} {xs : List α} {a : α} : (x :: xs).set 0 a = a :: xs := List.set_cons_zero
theorem sC {α : Type} {x : α} {xs : List α} {i : Nat} {a : α} : (x :: xs).set (i + 1) a = x :: xs.set i a := List.set_cons_succ
section
variable {P : Program} {ops : Array Oper} {Q : Exit → Act → World → Prop} {md : Region.Mode} {S : World → Prop} {i : Nat} {oi : Oper} {v : Value} {fuel : Nat} {listed : Array Bool} {a : Act} {w : World}
/-- in a drawn region: an operation that yields in every world that meets S comes up first -/
theorem tkO (hi : ops[i]? = some oi) (h3 : (Region.noSelect ops && Region.free md ops listed i && (Region.ready md ops listed).contains i) = true) (hQ : ∀ c a w, Q (.panic c) (a.put oi.dst v) w → Q (.panic c) a w)
    (hw : Region.wanted oi (yielded ops a.tmps) = true) (hy : ∀ w, S w → (execOp a.eval oi).run P w = .ok (.value v) w) (hS : S w) (h : wpAnyH P md ops Q S fuel (listed.setIfInBounds i true) (a.put oi.dst v) w) : wpAnyH P md ops Q S (fuel + 1) listed a w := by
  rw [Bool.and_eq_true, Bool.and_eq_true] at h3
  exact wpAnyH_take hi h3.1.1 h3.1.2 h3.2 hQ (Or.inl ⟨hw, hy⟩) hS h
/-- one that its guard does not want -/
theorem skO (hi : ops[i]? = some oi) (h3 : (Region.noSelect ops && Region.free md ops listed i && (Region.ready md ops listed).contains i) = true) (hQ : ∀ c a w, Q (.panic c) (a.put oi.dst undef) w → Q (.panic c) a w)
    (hw : Region.wanted oi (yielded ops a.tmps) = false) (hS : S w) (h : wpAnyH P md ops Q S fuel (listed.setIfInBounds i true) (a.put oi.dst undef) w) : wpAnyH P md ops Q S (fuel + 1) listed a w := by
  rw [Bool.and_eq_true, Bool.and_eq_true] at h3
  exact wpAnyH_take hi h3.1.1 h3.1.2 h3.2 hQ (Or.inr ⟨hw, rfl⟩) hS h
end
end Go.Proofs.Ytgfaefhkoaccbaa
