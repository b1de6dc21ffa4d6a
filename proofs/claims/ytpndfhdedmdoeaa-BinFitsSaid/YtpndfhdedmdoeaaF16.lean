/-
  Rule 10: the roots. Written by audit/gen_r10.py.
-/
import Derived.Test.YtpndfhdedmdoeaaF13
import Derived.Test.YtpndfhdedmdoeaaF14
import Derived.Test.YtpndfhdedmdoeaaF15
namespace Go.Proofs.Ytpndfhdedmdoeaa
open Go.ChangeShapes Go.WideShapes Go.ChangeAt Go.RowKit Go.Shelf
set_option linter.unusedVariables false
set_option linter.unusedSimpArgs false

theorem cellSame {w w' : World} {p : Addr} (h : w'.heap[p.block]? = w.heap[p.block]?) : w'.cell? p = w.cell? p := by unfold World.cell?; rw [h]
namespace AuH
variable (H : AuH)
/-- a live block begins at an address -/
def LiveAt (a : Int) : Prop := spotB H.t H.p H.s a = true ∧
  ((H.K (spotP H.t H.p H.s a).toNat = 2 ∧ spotO H.t H.p H.s a = 0) ∨
   (H.K (spotP H.t H.p H.s a).toNat = 3 ∧ slotB H.t H.p H.s (H.Cl (spotP H.t H.p H.s a).toNat) (spotO H.t H.p H.s a) = true ∧
     (H.cel (spotP H.t H.p H.s a).toNat 4).testBit (slotR H.t H.p H.s (H.Cl (spotP H.t H.p H.s a).toNat) (spotO H.t H.p H.s a)).toNat = true))
def R10 : Prop := ∀ i, i < 8 → H.V (22 + i) ≠ 0 → H.LiveAt (H.V (22 + i) : Int)
end AuH

def rootF (H : AuH) (k : Nat) (i : Nat) : Value := if i < k then .int .i64 (H.V (22 + i) : Nat) else .int .i64 0
def rootsV (H : AuH) : Value := .agg #[.int .i64 (H.V 22 : Nat), .int .i64 (H.V 23 : Nat), .int .i64 (H.V 24 : Nat), .int .i64 (H.V 25 : Nat), .int .i64 (H.V 26 : Nat), .int .i64 (H.V 27 : Nat), .int .i64 (H.V 28 : Nat), .int .i64 (H.V 29 : Nat)]

end Go.Proofs.Ytpndfhdedmdoeaa

/-
  The rules, asked one by one. Written by audit/gen_check.py.
-/
namespace Go.Proofs.Ytpndfhdedmdoeaa
open Go.ChangeShapes Go.WideShapes Go.ChangeAt Go.RowKit Go.Shelf
set_option linter.unusedVariables false
set_option linter.unusedSimpArgs false

def cfV (t q s : Int) (A : Option Addr) (n c : Nat) : Value := .agg #[.int .i64 t, .int .i64 q, .int .i64 s, .slice A n c]
theorem cells_of {H : AuH} {n c : Nat} (HV : HeapV H n c) : lC (H.t : Int) (H.p : Int) (H.s : Int) ≠ 0 ∧ (n : Int) = lC (H.t : Int) (H.p : Int) (H.s : Int) := by
  have h := HV.len
  obtain ⟨e1, e2, e3, e4, e5, e6, e7⟩ := lay_yes HV.right
  rw [e5]
  omega
/-- the rules' own words, from the second one on -/
def AuH.rule (H : AuH) : Nat → Prop
  | 1 => H.Tiled
  | 2 => H.R3
  | 3 => H.R4
  | 4 => H.R5
  | 5 => ∀ k, k < 11 → H.ListOk (2 + k)
  | 6 => ∀ k, k < 9 → H.ListOk (13 + k)
  | 7 => H.R8
  | 8 => H.R9
  | 9 => H.R10
  | _ => True
/-- what Check tells: 0, all rules hold; m + 1: the rule m (from 0 on) is the first that does not -/
def AuH.Told (H : AuH) (m : Nat) (b : Bool) : Prop := (b = true ∧ m = 0 ∧ ∀ i, i < 10 → H.rule i) ∨ (b = false ∧ ∃ k, m = k + 1 ∧ 1 ≤ k ∧ k < 10 ∧ (∀ i, i < k → H.rule i) ∧ ¬ H.rule k)
theorem AuH.Told.one {H : AuH} {m m' : Nat} {b b' : Bool} (h : H.Told m b) (h' : H.Told m' b') : m = m' ∧ b = b' := by
  rcases h with ⟨rfl, rfl, h1⟩ | ⟨rfl, k, rfl, k1, k2, h1, h2⟩ <;> rcases h' with ⟨rfl, rfl, h3⟩ | ⟨rfl, j, rfl, j1, j2, h3, h4⟩
  · exact ⟨rfl, rfl⟩
  · exact absurd (h1 j j2) h4
  · exact absurd (h3 k k2) h2
  · rcases Nat.lt_trichotomy k j with h5 | h5 | h5
    · exact absurd (h3 k h5) h2
    · subst h5; exact ⟨rfl, rfl⟩
    · exact absurd (h1 j h5) h4
theorem first_no (R : Nat → Prop) : ∀ n, (∀ i, i < n → R i) ∨ ∃ k, k < n ∧ (∀ i, i < k → R i) ∧ ¬ R k
  | 0 => .inl fun i h => absurd h (by omega)
  | n + 1 => by
    rcases first_no R n with h | ⟨k, h1, h2, h3⟩
    · by_cases hn : R n
      · exact .inl fun i hi => by
          rcases Nat.lt_or_ge i n with h4 | h4
          · exact h i h4
          · have : i = n := by omega
            subst this; exact hn
      · exact .inr ⟨n, by omega, h, hn⟩
    · exact .inr ⟨k, by omega, h2, h3⟩
theorem AuH.told_is (H : AuH) : ∃ m b, H.Told m b := by
  rcases first_no H.rule 10 with h | ⟨k, h1, h2, h3⟩
  · exact ⟨0, true, .inl ⟨rfl, rfl, h⟩⟩
  · refine ⟨k + 1, false, .inr ⟨rfl, k, rfl, ?_, h1, h2, h3⟩⟩
    rcases Nat.eq_zero_or_pos k with h6 | h6
    · subst h6; exact absurd trivial h3
    · exact h6


end Go.Proofs.Ytpndfhdedmdoeaa

/-
  The rules as the document tells them: the starts of spans as a list, a list of pages as it is walked. No program is named here.
-/
namespace Go.Proofs.Ytpndfhdedmdoeaa
open Go.ChangeShapes Go.WideShapes Go.ChangeAt Go.RowKit Go.Shelf
set_option linter.unusedVariables false
set_option linter.unusedSimpArgs false

namespace AuH
/-- the starts of spans, one behind the other, up to x -/
inductive Starts (H : AuH) : List Nat → Nat → Prop where
  | nil : Starts H [] 0
  | snoc {l : List Nat} {q : Nat} : Starts H l q → H.can q = true → Starts H (l ++ [q]) (H.nx q)
variable {H : AuH} {l : List Nat} {x : Nat}
theorem Starts.at_ (h : H.Starts l x) : H.At x := by
  induction h with
  | nil => exact .zero
  | snoc h hc ih => exact .step ih hc
theorem Starts.len (h : H.Starts l x) : l.length ≤ x := by
  induction h with
  | nil => simp
  | snoc h hc ih =>
    have := (H.nx_gt hc).1
    rw [List.length_append]
    simp
    omega
theorem Starts.next (h : H.Starts l x) : ∀ {i a : Nat}, l[i]? = some a → (H.At a ∧ H.can a = true ∧ a < x) ∧ (l[i + 1]? = some (H.nx a) ∨ (i + 1 = l.length ∧ H.nx a = x)) := by
  induction h with
  | nil => intro i a h; simp at h
  | snoc h hc ih =>
    rename_i l q
    intro i a hi
    have hgt := (H.nx_gt hc).1
    rcases Nat.lt_or_ge i l.length with hl | hl
    · rw [List.getElem?_append_left hl] at hi
      obtain ⟨⟨h1, h2, h3⟩, h4⟩ := ih hi
      refine ⟨⟨h1, h2, by omega⟩, .inl ?_⟩
      rcases h4 with h4 | ⟨h4, h5⟩
      · have : i + 1 < l.length := by
          rcases Nat.lt_or_ge (i + 1) l.length with h | h
          · exact h
          · rw [List.getElem?_eq_none h] at h4; cases h4
        rw [List.getElem?_append_left this]
        exact h4
      · rw [List.getElem?_append_right (by omega), h4, Nat.sub_self, h5]
        rfl
    · have hil : i = l.length := by
        rcases Nat.lt_or_ge l.length i with h | h
        · rw [List.getElem?_append_right hl, List.getElem?_eq_none (by simp; omega)] at hi; cases hi
        · omega
      subst hil
      rw [List.getElem?_append_right (Nat.le_refl _), Nat.sub_self] at hi
      have hqa : q = a := by simpa using hi
      subst hqa
      exact ⟨⟨h.at_, hc, hgt⟩, .inr ⟨by simp, rfl⟩⟩
theorem Starts.head (h : H.Starts l x) : (l = [] ∧ x = 0) ∨ l[0]? = some 0 := by
  induction h with
  | nil => exact .inl ⟨rfl, rfl⟩
  | snoc h hc ih =>
    right
    rcases ih with ⟨rfl, rfl⟩ | ih
    · rfl
    · rename_i l q
      have : 0 < l.length := by
        rcases Nat.lt_or_ge 0 l.length with h | h
        · exact h
        · rw [List.getElem?_eq_none h] at ih; cases ih
      rw [List.getElem?_append_left this]
      exact ih
theorem Starts.find (h : H.Starts l x) : ∀ {q : Nat}, H.At q → q < x → ∃ i : Nat, l[i]? = some q := by
  induction h with
  | nil => intro q _ h; omega
  | snoc h hc ih =>
    rename_i l q0
    intro q hq hl
    rcases Nat.lt_trichotomy q q0 with h1 | h1 | h1
    · obtain ⟨i, hi⟩ := ih hq h1
      refine ⟨i, ?_⟩
      have : i < l.length := by
        rcases Nat.lt_or_ge i l.length with h | h
        · exact h
        · rw [List.getElem?_eq_none h] at hi; cases hi
      rw [List.getElem?_append_left this]
      exact hi
    · subst h1
      exact ⟨l.length, by rw [List.getElem?_append_right (Nat.le_refl _), Nat.sub_self]; rfl⟩
    · have := (At.next h.at_ hq h1).2
      omega

/-- the next start that has not been passed -/
def Front (H : AuH) (l : List Nat) (n p : Nat) : Prop := ∃ f, (l[n]? = some f ∨ (n = l.length ∧ f = H.p)) ∧ p ≤ f ∧ ∀ q, H.At q → p ≤ q → f ≤ q
theorem Front.zero (h : H.Starts l H.p) : H.Front l 0 0 := by
  rcases h.head with ⟨rfl, h1⟩ | h1
  · exact ⟨H.p, .inr ⟨rfl, rfl⟩, Nat.zero_le _, fun q _ _ => by omega⟩
  · exact ⟨0, .inl h1, Nat.le_refl _, fun q _ _ => Nat.zero_le _⟩
/-- a start is come to -/
theorem Front.yes {n p : Nat} (h : H.Starts l H.p) (hf : H.Front l n p) (hn : l[n]? = some p) : H.At p ∧ H.Front l (n + 1) (p + 1) := by
  obtain ⟨⟨h1, h2, h3⟩, h4⟩ := h.next hn
  have hg := (H.nx_gt h2).1
  refine ⟨h1, H.nx p, ?_, hg, fun q hq hp => (At.next h1 hq (by omega)).2⟩
  rcases h4 with h4 | ⟨h4, h5⟩
  · exact .inl h4
  · exact .inr ⟨h4, h5⟩
theorem Front.no {n p : Nat} (h : H.Starts l H.p) (hf : H.Front l n p) (hp : p < H.p) (hn : l[n]? ≠ some p) : ¬ H.At p ∧ H.Front l n (p + 1) := by
  obtain ⟨f, h1, h2, h3⟩ := hf
  have hne : f ≠ p := by
    rintro rfl
    rcases h1 with h1 | ⟨_, h1⟩
    · exact hn h1
    · omega
  exact ⟨fun ha => by have := h3 p ha (Nat.le_refl _); omega, f, h1, by omega, fun q hq hl => h3 q hq (by omega)⟩

theorem tiled_iff (ha : H.At H.p) : H.Tiled ↔ ∀ q, q < H.p → ¬ H.At q → H.cel q 0 = 0 := by
  constructor
  · rintro ⟨_, hb⟩ q hq hn
    obtain ⟨a, h1, h2, h3, h4⟩ := ha.cover q hq
    exact hb a h1 h2 (by omega) q (by rcases Nat.eq_or_lt_of_le h3 with h | h; (subst h; exact absurd h1 hn); exact h) h4
  · intro h
    refine ⟨ha, fun a h1 h2 h3 q h4 h5 => h q (by have := (H.nx_gt h2).2; omega) (fun hq => ?_)⟩
    have := (At.next h1 hq h4).2
    omega
theorem tiled_not {q : Nat} (h : H.Tiled) (hq : q < H.p) (hn : ¬ H.At q) : H.cel q 0 = 0 := (tiled_iff h.1).1 h q hq hn

/-- rule 3 at a page of a span -/
def FootAt (H : AuH) (a q : Nat) : Prop := H.cel q 1 = if q + 1 = H.nx a then a + 1 else 0
theorem r3_iff (ht : H.Tiled) : H.R3 ↔ ∀ q, q < H.p → ∀ a, H.At a → a ≤ q → q < H.nx a → H.FootAt a q := by
  constructor
  · intro h q hq a ha h1 h2
    have hc := ht.at_can ha (show a < H.p by omega)
    have hk := ht.at_K ha (show a < H.p by omega)
    obtain ⟨h3, h4⟩ := h a (by omega) hk
    unfold FootAt
    have hnx : H.nx a = a + H.ln a := rfl
    by_cases he : q + 1 = H.nx a
    · rw [if_pos he, show q = a + H.ln a - 1 by omega]
      exact h4
    · rw [if_neg he]
      exact h3 q h1 (by omega)
  · intro h q hq hk
    obtain ⟨ha, hc⟩ := ht.start hq hk
    have hg := H.nx_gt hc
    have hl := H.ln_pos q hk
    have hnx : H.nx q = q + H.ln q := rfl
    refine ⟨fun r h1 h2 => ?_, ?_⟩
    · have := h r (by omega) q ha h1 (by omega)
      unfold FootAt at this
      rw [if_neg (by omega)] at this
      exact this
    · have := h (q + H.ln q - 1) (by omega) q ha (by omega) (by omega)
      unfold FootAt at this
      rw [if_pos (by omega)] at this
      exact this

/-- rule 4 as far as the starts ahead of number n -/
def ApartTo (H : AuH) (l : List Nat) (n : Nat) : Prop := ∀ (i a b : Nat), i + 1 < n → l[i]? = some a → l[i + 1]? = some b → ¬ (H.K b = 1 ∧ H.K a = 1)
theorem apart_all (h : H.Starts l H.p) {n : Nat} (hn : l.length ≤ n) (ha : H.ApartTo l n) : H.R4 := by
  intro q hq hp hk hx h2
  obtain ⟨i, hi⟩ := h.find hq hp
  rcases (h.next hi).2 with h4 | ⟨h4, h5⟩
  · have : i + 1 < l.length := by
      rcases Nat.lt_or_ge (i + 1) l.length with h | h
      · exact h
      · rw [List.getElem?_eq_none h] at h4; cases h4
    exact ha i q _ (by omega) hi h4 ⟨h2, hk⟩
  · omega
theorem apart_not (h : H.Starts l H.p) {i a b : Nat} (h1 : l[i]? = some a) (h2 : l[i + 1]? = some b) (hb : H.K b = 1) (ha : H.K a = 1) : ¬ H.R4 := by
  intro hr
  obtain ⟨⟨g1, g2, g3⟩, g4⟩ := h.next h1
  rcases g4 with g4 | ⟨g4, g5⟩
  · rw [g4] at h2
    have e : H.nx a = b := by simpa using h2
    subst e
    exact hr a g1 g3 ha (h.next g4).1.2.2 hb
  · rw [List.getElem?_eq_none (by omega)] at h2; cases h2
theorem ApartTo.step {n a b : Nat} (h : H.ApartTo l (n + 1)) (h1 : l[n]? = some a) (h2 : l[n + 1]? = some b) (hn : ¬ (H.K b = 1 ∧ H.K a = 1)) : H.ApartTo l (n + 1 + 1) := by
  intro i a' b' hi g1 g2
  rcases Nat.lt_or_ge (i + 1) (n + 1) with h3 | h3
  · exact h i a' b' h3 g1 g2
  · have : i = n := by omega
    subst this
    rw [h1] at g1
    rw [h2] at g2
    simp only [Option.some.injEq] at g1 g2
    subst g1
    subst g2
    exact hn

/-- rule 5 at a bit of a page -/
def SlotBad (H : AuH) (q b : Nat) : Prop := ((H.cel q 4).testBit b = true ∧ (H.cel q 5).testBit b = false) ∨ ((H.cel q 5).testBit b = true ∧ (H.K q ≠ 3 ∨ slotI (H.Cl q) ≤ b))
theorem slot5_iff (q : Nat) (h4 : H.cel q 4 < 2 ^ 32) (h5 : H.cel q 5 < 2 ^ 32) : H.Slot5 q ↔ (∀ b, b < 32 → ¬ H.SlotBad q b) ∧ ¬ (H.K q = 3 ∧ H.cel q 5 = 0) := by
  have hs := slotI_le (H.Cl q)
  constructor
  · rintro ⟨hy, hn⟩
    by_cases hk : H.K q = 3
    · obtain ⟨h1, h2, h3⟩ := hy hk
      refine ⟨fun b hb hbad => ?_, fun h => h1 h.2⟩
      rcases hbad with ⟨g1, g2⟩ | ⟨g1, g2⟩
      · rw [h3 b hb g1] at g2; cases g2
      · rcases g2 with g2 | g2
        · exact g2 hk
        · rw [Nat.testBit_lt_two_pow (Nat.lt_of_lt_of_le h2 (Nat.pow_le_pow_right (by omega) g2))] at g1; cases g1
    · obtain ⟨h1, h2⟩ := hn hk
      refine ⟨fun b hb hbad => ?_, fun h => hk h.1⟩
      rcases hbad with ⟨g1, _⟩ | ⟨g1, _⟩
      · rw [h2] at g1; simp at g1
      · rw [h1] at g1; simp at g1
  · rintro ⟨hb, hz⟩
    have hsub : SubB (H.cel q 4) (H.cel q 5) := fun i hi h => by
      cases hc : (H.cel q 5).testBit i
      · exact absurd (show H.SlotBad q i from .inl ⟨h, hc⟩) (hb i hi)
      · rfl
    refine ⟨fun hk => ⟨fun h => hz ⟨hk, h⟩, (sub_mask _ _ h5 hs).1 (fun i hi h => ?_), hsub⟩, fun hk => ?_⟩
    · have : i < slotI (H.Cl q) := by
        rcases Nat.lt_or_ge i (slotI (H.Cl q)) with g | g
        · exact g
        · exact absurd (show H.SlotBad q i from .inr ⟨h, .inr g⟩) (hb i hi)
      rw [Nat.testBit_two_pow_sub_one]
      simpa using this
    · have h0 : H.cel q 5 = 0 := (sub_zero _ h5).1 (fun i hi h => absurd (show H.SlotBad q i from .inr ⟨h, .inl hk⟩) (hb i hi))
      refine ⟨h0, (sub_zero _ h4).1 (fun i hi h => ?_)⟩
      have := hsub i hi h
      rw [h0] at this
      simp at this

/-! a list as it is walked -/
inductive Path (H : AuH) (head : Nat) : List Nat → Nat → Nat → Prop where
  | nil : Path H head [] (H.V head) 0
  | snoc {l : List Nat} {q a : Nat} : Path H head l q a → 1 ≤ q → q ≤ H.p → H.cel (q - 1) 3 = a → Path H head (l ++ [q - 1]) (H.cel (q - 1) 2) q
def cntIn (l : List Nat) (q : Nat) : Nat := (l.filter fun y => decide (y = q)).length
theorem cntIn_snoc (l : List Nat) (y q : Nat) : cntIn (l ++ [y]) q = cntIn l q + if y = q then 1 else 0 := by
  unfold cntIn
  rw [List.filter_append, List.length_append]
  congr 1
  by_cases h : y = q <;> simp [h]
theorem cntIn_le (l : List Nat) (q : Nat) : cntIn l q ≤ l.length := List.length_filter_le _ _
theorem cntIn_pos {l : List Nat} {q : Nat} (h : q ∈ l) : 1 ≤ cntIn l q := by
  unfold cntIn
  exact List.length_pos_of_mem (List.mem_filter.2 ⟨h, by simp⟩)
theorem cntIn_zero {l : List Nat} {q : Nat} (h : ¬ q ∈ l) : cntIn l q = 0 := by
  unfold cntIn
  rw [List.length_eq_zero_iff, List.filter_eq_nil_iff]
  intro y hy
  simp
  rintro rfl
  exact h hy
variable {head q a : Nat}
theorem Path.lt (h : H.Path head l q a) : ∀ y ∈ l, y < H.p := by
  induction h with
  | nil => simp
  | snoc h h1 h2 h3 ih =>
    rename_i l q a
    intro y hy
    rcases List.mem_append.1 hy with hy | hy
    · exact ih y hy
    · have : y = q - 1 := by simpa using hy
      omega
theorem Path.once (h : H.Path head l q a) : (∀ y ∈ l, H.cel y 3 ≠ a) ∧ (∀ y ∈ l, H.cel y 3 = 0 ∨ ∃ z ∈ l, H.cel y 3 = z + 1) ∧ (a = 0 ∨ ∃ z ∈ l, a = z + 1) ∧ ∀ y, cntIn l y ≤ 1 := by
  induction h with
  | nil => exact ⟨by simp, by simp, .inl rfl, fun y => by simp [cntIn]⟩
  | snoc h h1 h2 h3 ih =>
    rename_i l q a
    obtain ⟨i1, i2, i3, i4⟩ := ih
    have hnot : ¬ (q - 1) ∈ l := fun hm => i1 _ hm h3
    have hmem : ∀ y ∈ l ++ [q - 1], H.cel y 3 = 0 ∨ ∃ z ∈ l, H.cel y 3 = z + 1 := by
      intro y hy
      rcases List.mem_append.1 hy with hy | hy
      · exact i2 y hy
      · have : y = q - 1 := by simpa using hy
        subst this
        rw [h3]
        exact i3
    refine ⟨fun y hy he => ?_, fun y hy => ?_, .inr ⟨q - 1, by simp, by omega⟩, fun y => ?_⟩
    · rcases hmem y hy with h | ⟨z, hz, h⟩
      · omega
      · have : z = q - 1 := by omega
        subst this
        exact hnot hz
    · rcases hmem y hy with h | ⟨z, hz, h⟩
      · exact .inl h
      · exact .inr ⟨z, List.mem_append_left _ hz, h⟩
    · rw [cntIn_snoc]
      by_cases he : q - 1 = y
      · subst he
        rw [if_pos rfl, cntIn_zero hnot]
        omega
      · rw [if_neg he]
        exact i4 y
theorem chain_path {m : Nat} (hc : H.chain head m (H.V head) 0) (h : H.Path head l q a) : l.length ≤ m ∧ H.chain head (m - l.length) q a ∧ ∀ y ∈ l, H.tgt y = head := by
  induction h with
  | nil => exact ⟨by simp, hc, by simp⟩
  | snoc h h1 h2 h3 ih =>
    rename_i l q a
    obtain ⟨i1, i2, i3⟩ := ih
    rcases hr : m - l.length with _ | r
    · rw [hr] at i2
      have : q = 0 := i2
      omega
    · rw [hr] at i2
      obtain ⟨⟨_, _, g3, _⟩, g5⟩ := i2
      have e : m - (l ++ [q - 1]).length = r := by rw [List.length_append]; simp; omega
      refine ⟨by rw [List.length_append]; simp; omega, by rw [e]; exact g5, fun y hy => ?_⟩
      rcases List.mem_append.1 hy with hy | hy
      · exact i3 y hy
      · have : y = q - 1 := by simpa using hy
        rw [this]
        exact g3
theorem path_chain (h : H.Path head l q a) : ∀ {m : Nat}, (∀ y ∈ l, H.tgt y = head) → H.chain head m q a → H.chain head (l.length + m) (H.V head) 0 := by
  induction h with
  | nil => intro m _ hc; simpa using hc
  | snoc h h1 h2 h3 ih =>
    rename_i l q a
    intro m hy hc
    have := ih (m := m + 1) (fun y hm => hy y (List.mem_append_left _ hm)) ⟨⟨h1, h2, hy _ (by simp), h3⟩, hc⟩
    rw [List.length_append]
    rw [show l.length + [q - 1].length + m = l.length + (m + 1) by simp; omega]
    exact this
theorem sumTo_add (f g : Nat → Nat) : ∀ n, sumTo (fun q => f q + g q) n = sumTo f n + sumTo g n
  | 0 => rfl
  | n + 1 => by
    show sumTo (fun q => f q + g q) n + (f n + g n) = (sumTo f n + f n) + (sumTo g n + g n)
    rw [sumTo_add f g n]
    omega
theorem sumTo_zero : ∀ n, sumTo (fun _ => 0) n = 0
  | 0 => rfl
  | n + 1 => by show sumTo (fun _ => 0) n + 0 = 0; rw [sumTo_zero n]
theorem sumTo_one (y : Nat) : ∀ n, sumTo (fun q => if y = q then 1 else 0) n = if y < n then 1 else 0
  | 0 => by simp [sumTo]
  | n + 1 => by
    show sumTo _ n + (if y = n then 1 else 0) = _
    rw [sumTo_one y n]
    by_cases h1 : y < n
    · rw [if_pos h1, if_neg (by omega), if_pos (by omega)]
    · rw [if_neg h1]
      by_cases h2 : y = n
      · rw [if_pos h2, if_pos (by omega)]
      · rw [if_neg h2, if_neg (by omega)]
theorem sumTo_congr {f g : Nat → Nat} : ∀ n, (∀ q, q < n → f q = g q) → sumTo f n = sumTo g n
  | 0, _ => rfl
  | n + 1, h => by
    show sumTo f n + f n = sumTo g n + g n
    rw [sumTo_congr n (fun q hq => h q (by omega)), h n (by omega)]
theorem sumTo_mono {f g : Nat → Nat} : ∀ n, (∀ q, q < n → f q ≤ g q) → sumTo f n ≤ sumTo g n
  | 0, _ => Nat.le_refl _
  | n + 1, h => by
    have h1 := sumTo_mono n (fun q hq => h q (by omega))
    have h2 := h n (by omega)
    show sumTo f n + f n ≤ sumTo g n + g n
    omega
theorem sumTo_eq {f g : Nat → Nat} : ∀ n, (∀ q, q < n → f q ≤ g q) → sumTo f n = sumTo g n → ∀ q, q < n → f q = g q
  | 0, _, _, q, hq => by omega
  | n + 1, h, he, q, hq => by
    have h1 := sumTo_mono n (fun q hq => h q (by omega))
    have h2 := h n (by omega)
    have he' : sumTo f n + f n = sumTo g n + g n := he
    rcases Nat.lt_or_ge q n with h3 | h3
    · exact sumTo_eq n (fun q hq => h q (by omega)) (by omega) q h3
    · have : q = n := by omega
      subst this
      omega
theorem sumTo_cntIn (n : Nat) : ∀ l : List Nat, (∀ y ∈ l, y < n) → sumTo (cntIn l) n = l.length
  | [], _ => sumTo_zero n
  | y :: l, h => by
    have e : ∀ q, q < n → cntIn (y :: l) q = (if y = q then 1 else 0) + cntIn l q := fun q _ => by
      unfold cntIn
      rw [List.filter_cons]
      by_cases h : y = q
      · simp [h]; omega
      · simp [h]
    rw [sumTo_congr n e, sumTo_add, sumTo_one, if_pos (h y (by simp)), sumTo_cntIn n l (fun z hz => h z (by simp [hz]))]
    simp
    omega
theorem cnt_le (head : Int) (n : Nat) : H.cnt head n ≤ n := by
  have := sumTo_le (H.isF head) 1 n (fun q _ => by unfold isF; split <;> omega)
  unfold cnt
  omega
/-- the list has been walked to its end: it is the document's if each page is in it as often as it must be -/
theorem listOk_iff (h : H.Path head l 0 a) : H.ListOk head ↔ ∀ q, q < H.p → cntIn l q = H.isF head q := by
  constructor
  · intro hk
    obtain ⟨h1, h2, h3⟩ := chain_path hk h
    have hlen : l.length = H.cnt head H.p := by
      rcases hr : H.cnt head H.p - l.length with _ | r
      · omega
      · rw [hr] at h2
        have := h2.1.1
        omega
    refine sumTo_eq H.p (fun q hq => ?_) (by rw [sumTo_cntIn _ _ h.lt, hlen]; rfl)
    by_cases hm : q ∈ l
    · have := h.once.2.2.2 q
      unfold isF
      rw [if_pos (h3 q hm)]
      exact this
    · rw [cntIn_zero hm]
      exact Nat.zero_le _
  · intro hq
    have hm : ∀ y ∈ l, H.tgt y = head := fun y hy => by
      have h1 := cntIn_pos hy
      rw [hq y (h.lt y hy)] at h1
      unfold isF at h1
      by_cases he : H.tgt y = head
      · exact he
      · rw [if_neg he] at h1; omega
    have hlen : l.length = H.cnt head H.p := by
      rw [← sumTo_cntIn _ _ h.lt]
      exact sumTo_congr _ hq
    have := path_chain h (m := 0) hm rfl
    rw [Nat.add_zero, hlen] at this
    exact this
theorem listOk_goes (hk : H.ListOk head) (h : H.Path head l q a) (hq : q ≠ 0) : 1 ≤ q ∧ q ≤ H.p ∧ H.cel (q - 1) 3 = a ∧ l.length < H.p := by
  obtain ⟨h1, h2, h3⟩ := chain_path hk h
  have hc := cnt_le (H := H) head H.p
  rcases hr : H.cnt head H.p - l.length with _ | r
  · rw [hr] at h2
    exact absurd h2 hq
  · rw [hr] at h2
    obtain ⟨⟨g1, g2, _, g4⟩, _⟩ := h2
    exact ⟨g1, g2, g4, by omega⟩

/-! what full is, and what belongs in no list -/
theorem ones_full {v n : Nat} (hv : v < 2 ^ n) (hn : n ≤ 32) : HM.onesTo v 32 = n ↔ v = 2 ^ n - 1 := by
  have h32 : ∀ k, HM.onesTo v (n + k) = HM.onesTo v n := by
    intro k
    induction k with
    | zero => rfl
    | succ k ih =>
      rw [← Nat.add_assoc, HM.onesTo_succ, ih, Nat.testBit_lt_two_pow (Nat.lt_of_lt_of_le hv (Nat.pow_le_pow_right (by omega) (by omega)))]
      simp
  have e : HM.onesTo v 32 = HM.onesTo v n := by
    have := h32 (32 - n)
    rwa [show n + (32 - n) = 32 by omega] at this
  rw [e]
  have hf := HM.ones_free v n
  constructor
  · intro h
    have h0 : HM.freeTo v n = [] := List.length_eq_zero_iff.1 (by omega)
    apply Nat.eq_of_testBit_eq
    intro i
    rw [Nat.testBit_two_pow_sub_one]
    by_cases hi : i < n
    · unfold HM.freeTo at h0
      rw [List.filter_eq_nil_iff] at h0
      have := h0 i (List.mem_range.2 hi)
      simp at this
      rw [this, decide_eq_true hi]
    · rw [Nat.testBit_lt_two_pow (Nat.lt_of_lt_of_le hv (Nat.pow_le_pow_right (by omega) (by omega))), decide_eq_false hi]
  · intro h
    have h0 : HM.freeTo v n = [] := by
      unfold HM.freeTo
      rw [List.filter_eq_nil_iff]
      intro i hi
      rw [h, Nat.testBit_two_pow_sub_one]
      simpa using List.mem_range.1 hi
    rw [h0] at hf
    simpa using hf
end AuH
end Go.Proofs.Ytpndfhdedmdoeaa
