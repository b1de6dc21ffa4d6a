/-
  The rules as the document tells them: the starts of spans as a list, a list of pages as it is walked. No program is named here.
-/
import Derived.Test.YtioolaaphbddbaaGreatDoorQ06
import Derived.Test.YtioolaaphbddbaaGreatDoorQ01
import Derived.Deep.AppendLies
namespace Go.Proofs.YtioolaaphbddbaaGreatDoor
open Go.ChangeShapes Go.WideShapes Go.ChangeAt Go.RowKit Go.Shelf
set_option linter.unusedVariables false
set_option linter.unusedSimpArgs false
section
namespace AuH
inductive Starts (H : AuH) : List Nat → Nat → Prop where
  | nil : Starts H [] 0
  | snoc {l : List Nat} {q : Nat} : Starts H l q → H.can q = true → Starts H (l ++ [q]) (H.nx q)
variable {H : AuH} {l : List Nat} {x : Nat}
theorem Starts.at_ (h : H.Starts l x) : H.At x := by
  induction h with
  | nil => exact .zero
  | snoc h hc ih => exact .step ih hc
theorem Starts.len (h : H.Starts l x) : l.length ≤ x := by
  induction h with
  | nil => simp
  | snoc h hc ih =>
    have := (H.nx_gt hc).1
    rw [List.length_append]
    simp
    omega
theorem Starts.next (h : H.Starts l x) : ∀ {i a : Nat}, l[i]? = some a → (H.At a ∧ H.can a = true ∧ a < x) ∧ (l[i + 1]? = some (H.nx a) ∨ (i + 1 = l.length ∧ H.nx a = x)) := by
  induction h with
  | nil => intro i a h; simp at h
  | snoc h hc ih =>
    rename_i l q
    intro i a hi
    have hgt := (H.nx_gt hc).1
    rcases Nat.lt_or_ge i l.length with hl | hl
    · rw [List.getElem?_append_left hl] at hi
      obtain ⟨⟨h1, h2, h3⟩, h4⟩ := ih hi
      refine ⟨⟨h1, h2, by omega⟩, .inl ?_⟩
      rcases h4 with h4 | ⟨h4, h5⟩
      · have : i + 1 < l.length := by
          rcases Nat.lt_or_ge (i + 1) l.length with h | h
          · exact h
          · rw [List.getElem?_eq_none h] at h4; cases h4
        rw [List.getElem?_append_left this]
        exact h4
      · rw [List.getElem?_append_right (by omega), h4, Nat.sub_self, h5]
        rfl
    · have hil : i = l.length := by
        rcases Nat.lt_or_ge l.length i with h | h
        · rw [List.getElem?_append_right hl, List.getElem?_eq_none (by simp; omega)] at hi; cases hi
        · omega
      subst hil
      rw [List.getElem?_append_right (Nat.le_refl _), Nat.sub_self] at hi
      have hqa : q = a := by simpa using hi
      subst hqa
      exact ⟨⟨h.at_, hc, hgt⟩, .inr ⟨by simp, rfl⟩⟩
theorem Starts.head (h : H.Starts l x) : (l = [] ∧ x = 0) ∨ l[0]? = some 0 := by
  induction h with
  | nil => exact .inl ⟨rfl, rfl⟩
  | snoc h hc ih =>
    right
    rcases ih with ⟨rfl, rfl⟩ | ih
    · rfl
    · rename_i l q
      have : 0 < l.length := by
        rcases Nat.lt_or_ge 0 l.length with h | h
        · exact h
        · rw [List.getElem?_eq_none h] at ih; cases ih
      rw [List.getElem?_append_left this]
      exact ih
theorem Starts.find (h : H.Starts l x) : ∀ {q : Nat}, H.At q → q < x → ∃ i : Nat, l[i]? = some q := by
  induction h with
  | nil => intro q _ h; omega
  | snoc h hc ih =>
    rename_i l q0
    intro q hq hl
    rcases Nat.lt_trichotomy q q0 with h1 | h1 | h1
    · obtain ⟨i, hi⟩ := ih hq h1
      refine ⟨i, ?_⟩
      have : i < l.length := by
        rcases Nat.lt_or_ge i l.length with h | h
        · exact h
        · rw [List.getElem?_eq_none h] at hi; cases hi
      rw [List.getElem?_append_left this]
      exact hi
    · subst h1
      exact ⟨l.length, by rw [List.getElem?_append_right (Nat.le_refl _), Nat.sub_self]; rfl⟩
    · have := (At.next h.at_ hq h1).2
      omega

def Front (H : AuH) (l : List Nat) (n p : Nat) : Prop := ∃ f, (l[n]? = some f ∨ (n = l.length ∧ f = H.p)) ∧ p ≤ f ∧ ∀ q, H.At q → p ≤ q → f ≤ q
theorem Front.zero (h : H.Starts l H.p) : H.Front l 0 0 := by
  rcases h.head with ⟨rfl, h1⟩ | h1
  · exact ⟨H.p, .inr ⟨rfl, rfl⟩, Nat.zero_le _, fun q _ _ => by omega⟩
  · exact ⟨0, .inl h1, Nat.le_refl _, fun q _ _ => Nat.zero_le _⟩
theorem Front.yes {n p : Nat} (h : H.Starts l H.p) (hf : H.Front l n p) (hn : l[n]? = some p) : H.At p ∧ H.Front l (n + 1) (p + 1) := by
  obtain ⟨⟨h1, h2, h3⟩, h4⟩ := h.next hn
  have hg := (H.nx_gt h2).1
  refine ⟨h1, H.nx p, ?_, hg, fun q hq hp => (At.next h1 hq (by omega)).2⟩
  rcases h4 with h4 | ⟨h4, h5⟩
  · exact .inl h4
  · exact .inr ⟨h4, h5⟩
theorem Front.no {n p : Nat} (h : H.Starts l H.p) (hf : H.Front l n p) (hp : p < H.p) (hn : l[n]? ≠ some p) : ¬ H.At p ∧ H.Front l n (p + 1) := by
  obtain ⟨f, h1, h2, h3⟩ := hf
  have hne : f ≠ p := by
    rintro rfl
    rcases h1 with h1 | ⟨_, h1⟩
    · exact hn h1
    · omega
  exact ⟨fun ha => by have := h3 p ha (Nat.le_refl _); omega, f, h1, by omega, fun q hq hl => h3 q hq (by omega)⟩

theorem tiled_iff (ha : H.At H.p) : H.Tiled ↔ ∀ q, q < H.p → ¬ H.At q → H.cel q 0 = 0 := by
  constructor
  · rintro ⟨_, hb⟩ q hq hn
    obtain ⟨a, h1, h2, h3, h4⟩ := ha.cover q hq
    exact hb a h1 h2 (by omega) q (by rcases Nat.eq_or_lt_of_le h3 with h | h; (subst h; exact absurd h1 hn); exact h) h4
  · intro h
    refine ⟨ha, fun a h1 h2 h3 q h4 h5 => h q (by have := (H.nx_gt h2).2; omega) (fun hq => ?_)⟩
    have := (At.next h1 hq h4).2
    omega
theorem tiled_not {q : Nat} (h : H.Tiled) (hq : q < H.p) (hn : ¬ H.At q) : H.cel q 0 = 0 := (tiled_iff h.1).1 h q hq hn

def FootAt (H : AuH) (a q : Nat) : Prop := H.cel q 1 = if q + 1 = H.nx a then a + 1 else 0
theorem r3_iff (ht : H.Tiled) : H.R3 ↔ ∀ q, q < H.p → ∀ a, H.At a → a ≤ q → q < H.nx a → H.FootAt a q := by
  constructor
  · intro h q hq a ha h1 h2
    have hc := ht.at_can ha (show a < H.p by omega)
    have hk := ht.at_K ha (show a < H.p by omega)
    obtain ⟨h3, h4⟩ := h a (by omega) hk
    unfold FootAt
    have hnx : H.nx a = a + H.ln a := rfl
    by_cases he : q + 1 = H.nx a
    · rw [if_pos he, show q = a + H.ln a - 1 by omega]
      exact h4
    · rw [if_neg he]
      exact h3 q h1 (by omega)
  · intro h q hq hk
    obtain ⟨ha, hc⟩ := ht.start hq hk
    have hg := H.nx_gt hc
    have hl := H.ln_pos q hk
    have hnx : H.nx q = q + H.ln q := rfl
    refine ⟨fun r h1 h2 => ?_, ?_⟩
    · have := h r (by omega) q ha h1 (by omega)
      unfold FootAt at this
      rw [if_neg (by omega)] at this
      exact this
    · have := h (q + H.ln q - 1) (by omega) q ha (by omega) (by omega)
      unfold FootAt at this
      rw [if_pos (by omega)] at this
      exact this

def ApartTo (H : AuH) (l : List Nat) (n : Nat) : Prop := ∀ (i a b : Nat), i + 1 < n → l[i]? = some a → l[i + 1]? = some b → ¬ (H.K b = 1 ∧ H.K a = 1)
theorem apart_all (h : H.Starts l H.p) {n : Nat} (hn : l.length ≤ n) (ha : H.ApartTo l n) : H.R4 := by
  intro q hq hp hk hx h2
  obtain ⟨i, hi⟩ := h.find hq hp
  rcases (h.next hi).2 with h4 | ⟨h4, h5⟩
  · have : i + 1 < l.length := by
      rcases Nat.lt_or_ge (i + 1) l.length with h | h
      · exact h
      · rw [List.getElem?_eq_none h] at h4; cases h4
    exact ha i q _ (by omega) hi h4 ⟨h2, hk⟩
  · omega
theorem apart_not (h : H.Starts l H.p) {i a b : Nat} (h1 : l[i]? = some a) (h2 : l[i + 1]? = some b) (hb : H.K b = 1) (ha : H.K a = 1) : ¬ H.R4 := by
  intro hr
  obtain ⟨⟨g1, g2, g3⟩, g4⟩ := h.next h1
  rcases g4 with g4 | ⟨g4, g5⟩
  · rw [g4] at h2
    have e : H.nx a = b := by simpa using h2
    subst e
    exact hr a g1 g3 ha (h.next g4).1.2.2 hb
  · rw [List.getElem?_eq_none (by omega)] at h2; cases h2
theorem ApartTo.step {n a b : Nat} (h : H.ApartTo l (n + 1)) (h1 : l[n]? = some a) (h2 : l[n + 1]? = some b) (hn : ¬ (H.K b = 1 ∧ H.K a = 1)) : H.ApartTo l (n + 1 + 1) := by
  intro i a' b' hi g1 g2
  rcases Nat.lt_or_ge (i + 1) (n + 1) with h3 | h3
  · exact h i a' b' h3 g1 g2
  · have : i = n := by omega
    subst this
    rw [h1] at g1
    rw [h2] at g2
    simp only [Option.some.injEq] at g1 g2
    subst g1
    subst g2
    exact hn

def SlotBad (H : AuH) (q b : Nat) : Prop := ((H.cel q 4).testBit b = true ∧ (H.cel q 5).testBit b = false) ∨ ((H.cel q 5).testBit b = true ∧ (H.K q ≠ 3 ∨ slotI (H.Cl q) ≤ b))
theorem slot5_iff (q : Nat) (h4 : H.cel q 4 < 2 ^ 32) (h5 : H.cel q 5 < 2 ^ 32) : H.Slot5 q ↔ (∀ b, b < 32 → ¬ H.SlotBad q b) ∧ ¬ (H.K q = 3 ∧ H.cel q 5 = 0) := by
  have hs := slotI_le (H.Cl q)
  constructor
  · rintro ⟨hy, hn⟩
    by_cases hk : H.K q = 3
    · obtain ⟨h1, h2, h3⟩ := hy hk
      refine ⟨fun b hb hbad => ?_, fun h => h1 h.2⟩
      rcases hbad with ⟨g1, g2⟩ | ⟨g1, g2⟩
      · rw [h3 b hb g1] at g2; cases g2
      · rcases g2 with g2 | g2
        · exact g2 hk
        · rw [Nat.testBit_lt_two_pow (Nat.lt_of_lt_of_le h2 (Nat.pow_le_pow_right (by omega) g2))] at g1; cases g1
    · obtain ⟨h1, h2⟩ := hn hk
      refine ⟨fun b hb hbad => ?_, fun h => hk h.1⟩
      rcases hbad with ⟨g1, _⟩ | ⟨g1, _⟩
      · rw [h2] at g1; simp at g1
      · rw [h1] at g1; simp at g1
  · rintro ⟨hb, hz⟩
    have hsub : SubB (H.cel q 4) (H.cel q 5) := fun i hi h => by
      cases hc : (H.cel q 5).testBit i
      · exact absurd (show H.SlotBad q i from .inl ⟨h, hc⟩) (hb i hi)
      · rfl
    refine ⟨fun hk => ⟨fun h => hz ⟨hk, h⟩, (sub_mask _ _ h5 hs).1 (fun i hi h => ?_), hsub⟩, fun hk => ?_⟩
    · have : i < slotI (H.Cl q) := by
        rcases Nat.lt_or_ge i (slotI (H.Cl q)) with g | g
        · exact g
        · exact absurd (show H.SlotBad q i from .inr ⟨h, .inr g⟩) (hb i hi)
      rw [Nat.testBit_two_pow_sub_one]
      simpa using this
    · have h0 : H.cel q 5 = 0 := (sub_zero _ h5).1 (fun i hi h => absurd (show H.SlotBad q i from .inr ⟨h, .inl hk⟩) (hb i hi))
      refine ⟨h0, (sub_zero _ h4).1 (fun i hi h => ?_)⟩
      have := hsub i hi h
      rw [h0] at this
      simp at this

inductive Path (H : AuH) (head : Nat) : List Nat → Nat → Nat → Prop where
  | nil : Path H head [] (H.V head) 0
  | snoc {l : List Nat} {q a : Nat} : Path H head l q a → 1 ≤ q → q ≤ H.p → H.cel (q - 1) 3 = a → Path H head (l ++ [q - 1]) (H.cel (q - 1) 2) q
def cntIn (l : List Nat) (q : Nat) : Nat := (l.filter fun y => decide (y = q)).length
theorem cntIn_snoc (l : List Nat) (y q : Nat) : cntIn (l ++ [y]) q = cntIn l q + if y = q then 1 else 0 := by
  unfold cntIn
  rw [List.filter_append, List.length_append]
  congr 1
  by_cases h : y = q <;> simp [h]
theorem cntIn_pos {l : List Nat} {q : Nat} (h : q ∈ l) : 1 ≤ cntIn l q := by
  unfold cntIn
  exact List.length_pos_of_mem (List.mem_filter.2 ⟨h, by simp⟩)
theorem cntIn_zero {l : List Nat} {q : Nat} (h : ¬ q ∈ l) : cntIn l q = 0 := by
  unfold cntIn
  rw [List.length_eq_zero_iff, List.filter_eq_nil_iff]
  intro y hy
  simp
  rintro rfl
  exact h hy
variable {head q a : Nat}
theorem Path.lt (h : H.Path head l q a) : ∀ y ∈ l, y < H.p := by
  induction h with
  | nil => simp
  | snoc h h1 h2 h3 ih =>
    rename_i l q a
    intro y hy
    rcases List.mem_append.1 hy with hy | hy
    · exact ih y hy
    · have : y = q - 1 := by simpa using hy
      omega
theorem Path.once (h : H.Path head l q a) : (∀ y ∈ l, H.cel y 3 ≠ a) ∧ (∀ y ∈ l, H.cel y 3 = 0 ∨ ∃ z ∈ l, H.cel y 3 = z + 1) ∧ (a = 0 ∨ ∃ z ∈ l, a = z + 1) ∧ ∀ y, cntIn l y ≤ 1 := by
  induction h with
  | nil => exact ⟨by simp, by simp, .inl rfl, fun y => by simp [cntIn]⟩
  | snoc h h1 h2 h3 ih =>
    rename_i l q a
    obtain ⟨i1, i2, i3, i4⟩ := ih
    have hnot : ¬ (q - 1) ∈ l := fun hm => i1 _ hm h3
    have hmem : ∀ y ∈ l ++ [q - 1], H.cel y 3 = 0 ∨ ∃ z ∈ l, H.cel y 3 = z + 1 := by
      intro y hy
      rcases List.mem_append.1 hy with hy | hy
      · exact i2 y hy
      · have : y = q - 1 := by simpa using hy
        subst this
        rw [h3]
        exact i3
    refine ⟨fun y hy he => ?_, fun y hy => ?_, .inr ⟨q - 1, by simp, by omega⟩, fun y => ?_⟩
    · rcases hmem y hy with h | ⟨z, hz, h⟩
      · omega
      · have : z = q - 1 := by omega
        subst this
        exact hnot hz
    · rcases hmem y hy with h | ⟨z, hz, h⟩
      · exact .inl h
      · exact .inr ⟨z, List.mem_append_left _ hz, h⟩
    · rw [cntIn_snoc]
      by_cases he : q - 1 = y
      · subst he
        rw [if_pos rfl, cntIn_zero hnot]
        omega
      · rw [if_neg he]
        exact i4 y
theorem chain_path {m : Nat} (hc : H.chain head m (H.V head) 0) (h : H.Path head l q a) : l.length ≤ m ∧ H.chain head (m - l.length) q a ∧ ∀ y ∈ l, H.tgt y = head := by
  induction h with
  | nil => exact ⟨by simp, hc, by simp⟩
  | snoc h h1 h2 h3 ih =>
    rename_i l q a
    obtain ⟨i1, i2, i3⟩ := ih
    rcases hr : m - l.length with _ | r
    · rw [hr] at i2
      have : q = 0 := i2
      omega
    · rw [hr] at i2
      obtain ⟨⟨_, _, g3, _⟩, g5⟩ := i2
      have e : m - (l ++ [q - 1]).length = r := by rw [List.length_append]; simp; omega
      refine ⟨by rw [List.length_append]; simp; omega, by rw [e]; exact g5, fun y hy => ?_⟩
      rcases List.mem_append.1 hy with hy | hy
      · exact i3 y hy
      · have : y = q - 1 := by simpa using hy
        rw [this]
        exact g3
theorem path_chain (h : H.Path head l q a) : ∀ {m : Nat}, (∀ y ∈ l, H.tgt y = head) → H.chain head m q a → H.chain head (l.length + m) (H.V head) 0 := by
  induction h with
  | nil => intro m _ hc; simpa using hc
  | snoc h h1 h2 h3 ih =>
    rename_i l q a
    intro m hy hc
    have := ih (m := m + 1) (fun y hm => hy y (List.mem_append_left _ hm)) ⟨⟨h1, h2, hy _ (by simp), h3⟩, hc⟩
    rw [List.length_append]
    rw [show l.length + [q - 1].length + m = l.length + (m + 1) by simp; omega]
    exact this
theorem sumTo_add (f g : Nat → Nat) : ∀ n, sumTo (fun q => f q + g q) n = sumTo f n + sumTo g n
  | 0 => rfl
  | n + 1 => by
    show sumTo (fun q => f q + g q) n + (f n + g n) = (sumTo f n + f n) + (sumTo g n + g n)
    rw [sumTo_add f g n]
    omega
theorem sumTo_zero : ∀ n, sumTo (fun _ => 0) n = 0
  | 0 => rfl
  | n + 1 => by show sumTo (fun _ => 0) n + 0 = 0; rw [sumTo_zero n]
theorem sumTo_one (y : Nat) : ∀ n, sumTo (fun q => if y = q then 1 else 0) n = if y < n then 1 else 0
  | 0 => by simp [sumTo]
  | n + 1 => by
    show sumTo _ n + (if y = n then 1 else 0) = _
    rw [sumTo_one y n]
    by_cases h1 : y < n
    · rw [if_pos h1, if_neg (by omega), if_pos (by omega)]
    · rw [if_neg h1]
      by_cases h2 : y = n
      · rw [if_pos h2, if_pos (by omega)]
      · rw [if_neg h2, if_neg (by omega)]
theorem sumTo_congr {f g : Nat → Nat} : ∀ n, (∀ q, q < n → f q = g q) → sumTo f n = sumTo g n
  | 0, _ => rfl
  | n + 1, h => by
    show sumTo f n + f n = sumTo g n + g n
    rw [sumTo_congr n (fun q hq => h q (by omega)), h n (by omega)]
theorem sumTo_mono {f g : Nat → Nat} : ∀ n, (∀ q, q < n → f q ≤ g q) → sumTo f n ≤ sumTo g n
  | 0, _ => Nat.le_refl _
  | n + 1, h => by
    have h1 := sumTo_mono n (fun q hq => h q (by omega))
    have h2 := h n (by omega)
    show sumTo f n + f n ≤ sumTo g n + g n
    omega
theorem sumTo_eq {f g : Nat → Nat} : ∀ n, (∀ q, q < n → f q ≤ g q) → sumTo f n = sumTo g n → ∀ q, q < n → f q = g q
  | 0, _, _, q, hq => by omega
  | n + 1, h, he, q, hq => by
    have h1 := sumTo_mono n (fun q hq => h q (by omega))
    have h2 := h n (by omega)
    have he' : sumTo f n + f n = sumTo g n + g n := he
    rcases Nat.lt_or_ge q n with h3 | h3
    · exact sumTo_eq n (fun q hq => h q (by omega)) (by omega) q h3
    · have : q = n := by omega
      subst this
      omega
theorem sumTo_cntIn (n : Nat) : ∀ l : List Nat, (∀ y ∈ l, y < n) → sumTo (cntIn l) n = l.length
  | [], _ => sumTo_zero n
  | y :: l, h => by
    have e : ∀ q, q < n → cntIn (y :: l) q = (if y = q then 1 else 0) + cntIn l q := fun q _ => by
      unfold cntIn
      rw [List.filter_cons]
      by_cases h : y = q
      · simp [h]; omega
      · simp [h]
    rw [sumTo_congr n e, sumTo_add, sumTo_one, if_pos (h y (by simp)), sumTo_cntIn n l (fun z hz => h z (by simp [hz]))]
    simp
    omega
theorem cnt_le (head : Int) (n : Nat) : H.cnt head n ≤ n := by
  have := sumTo_le (H.isF head) 1 n (fun q _ => by unfold isF; split <;> omega)
  unfold cnt
  omega
theorem listOk_iff (h : H.Path head l 0 a) : H.ListOk head ↔ ∀ q, q < H.p → cntIn l q = H.isF head q := by
  constructor
  · intro hk
    obtain ⟨h1, h2, h3⟩ := chain_path hk h
    have hlen : l.length = H.cnt head H.p := by
      rcases hr : H.cnt head H.p - l.length with _ | r
      · omega
      · rw [hr] at h2
        have := h2.1.1
        omega
    refine sumTo_eq H.p (fun q hq => ?_) (by rw [sumTo_cntIn _ _ h.lt, hlen]; rfl)
    by_cases hm : q ∈ l
    · have := h.once.2.2.2 q
      unfold isF
      rw [if_pos (h3 q hm)]
      exact this
    · rw [cntIn_zero hm]
      exact Nat.zero_le _
  · intro hq
    have hm : ∀ y ∈ l, H.tgt y = head := fun y hy => by
      have h1 := cntIn_pos hy
      rw [hq y (h.lt y hy)] at h1
      unfold isF at h1
      by_cases he : H.tgt y = head
      · exact he
      · rw [if_neg he] at h1; omega
    have hlen : l.length = H.cnt head H.p := by
      rw [← sumTo_cntIn _ _ h.lt]
      exact sumTo_congr _ hq
    have := path_chain h (m := 0) hm rfl
    rw [Nat.add_zero, hlen] at this
    exact this
theorem listOk_goes (hk : H.ListOk head) (h : H.Path head l q a) (hq : q ≠ 0) : 1 ≤ q ∧ q ≤ H.p ∧ H.cel (q - 1) 3 = a ∧ l.length < H.p := by
  obtain ⟨h1, h2, h3⟩ := chain_path hk h
  have hc := cnt_le (H := H) head H.p
  rcases hr : H.cnt head H.p - l.length with _ | r
  · rw [hr] at h2
    exact absurd h2 hq
  · rw [hr] at h2
    obtain ⟨⟨g1, g2, _, g4⟩, _⟩ := h2
    exact ⟨g1, g2, g4, by omega⟩

theorem ones_full {v n : Nat} (hv : v < 2 ^ n) (hn : n ≤ 32) : HM.onesTo v 32 = n ↔ v = 2 ^ n - 1 := by
  have h32 : ∀ k, HM.onesTo v (n + k) = HM.onesTo v n := by
    intro k
    induction k with
    | zero => rfl
    | succ k ih =>
      rw [← Nat.add_assoc, HM.onesTo_succ, ih, Nat.testBit_lt_two_pow (Nat.lt_of_lt_of_le hv (Nat.pow_le_pow_right (by omega) (by omega)))]
      simp
  have e : HM.onesTo v 32 = HM.onesTo v n := by
    have := h32 (32 - n)
    rwa [show n + (32 - n) = 32 by omega] at this
  rw [e]
  have hf := HM.ones_free v n
  constructor
  · intro h
    have h0 : HM.freeTo v n = [] := List.length_eq_zero_iff.1 (by omega)
    apply Nat.eq_of_testBit_eq
    intro i
    rw [Nat.testBit_two_pow_sub_one]
    by_cases hi : i < n
    · unfold HM.freeTo at h0
      rw [List.filter_eq_nil_iff] at h0
      have := h0 i (List.mem_range.2 hi)
      simp at this
      rw [this, decide_eq_true hi]
    · rw [Nat.testBit_lt_two_pow (Nat.lt_of_lt_of_le hv (Nat.pow_le_pow_right (by omega) (by omega))), decide_eq_false hi]
  · intro h
    have h0 : HM.freeTo v n = [] := by
      unfold HM.freeTo
      rw [List.filter_eq_nil_iff]
      intro i hi
      rw [h, Nat.testBit_two_pow_sub_one]
      simpa using List.mem_range.1 hi
    rw [h0] at hf
    simpa using hf
end AuH
end
section
def ptVs (l : List (Int × Int × Int)) : List Value := l.flatMap fun x => [.int .i64 x.1, .int .i64 x.2.1, .int .i64 x.2.2]
theorem ptVs_len (l : List (Int × Int × Int)) : (ptVs l).length = l.length * 3 := by unfold ptVs; induction l with
  | nil => rfl
  | cons x l ih => rw [List.flatMap_cons, List.length_append, ih]; simp; omega
theorem ptVs_app (l m : List (Int × Int × Int)) : ptVs (l ++ m) = ptVs l ++ ptVs m := by unfold ptVs; rw [List.flatMap_append]
theorem ptVs_one (x : Int × Int × Int) : ptVs [x] = [.int .i64 x.1, .int .i64 x.2.1, .int .i64 x.2.2] := by simp [ptVs]
theorem partInfo : (Tryz.prog.info? 108).map (fun i => (i.zero, i.size, i.bytes)) = some (some (.agg #[.int .i64 0, .int .i64 0, .int .i64 0]), 3, 24) := by kernel_rfl

namespace AuH
variable (H : AuH)
def pg : Nat := 2 ^ H.s
def first (q : Nat) : Int := ((q : Int) + 1) * (H.pg : Int)
def zs (q : Nat) : Nat := sizeN (H.s : Int) (H.Cl q)
def sl (q : Nat) : Nat := slotI (H.Cl q)
def slotPart (q i : Nat) : Int × Int × Int := ((slotKd (H.cel q 5) (H.cel q 4) i : Nat), H.first q + (i : Int) * (H.zs q : Int), (H.zs q : Int))
def slotsTo (q k : Nat) : List (Int × Int × Int) := (List.range k).map (H.slotPart q)
def slack (q : Nat) : List (Int × Int × Int) := if H.sl q * H.zs q < H.pg then [(5, H.first q + ((H.sl q * H.zs q : Nat) : Int), (H.pg : Int) - ((H.sl q * H.zs q : Nat) : Int))] else []
def partsAt (q : Nat) : List (Int × Int × Int) :=
  if H.K q = 1 then [(1, H.first q, (H.ln q : Int) * (H.pg : Int))] else if H.K q = 2 then [(2, H.first q, (H.ln q : Int) * (H.pg : Int))]
  else if H.K q = 3 then H.slotsTo q (H.sl q) ++ H.slack q else []
def parts : List (Int × Int × Int) := catTo H.partsAt H.p
variable {H}
theorem slotsTo_succ (q k : Nat) : H.slotsTo q (k + 1) = H.slotsTo q k ++ [H.slotPart q k] := by unfold slotsTo; rw [List.range_succ, List.map_append]; rfl
theorem slotsTo_len (q k : Nat) : (H.slotsTo q k).length = k := by unfold slotsTo; simp
theorem partsAt_no {q : Nat} (h : H.K q = 0) : H.partsAt q = [] := by unfold partsAt; rw [if_neg (by omega), if_neg (by omega), if_neg (by omega)]
theorem partsAt_len (q : Nat) : (H.partsAt q).length ≤ 33 := by
  unfold partsAt
  split
  · simp
  · split
    · simp
    · split
      · rw [List.length_append, slotsTo_len]
        have := slotI_le (H.Cl q)
        unfold slack sl
        split <;> simp <;> omega
      · simp
theorem parts_len : ∀ x, (catTo H.partsAt x).length ≤ x * 33
  | 0 => by simp [catTo]
  | x + 1 => by
    have h1 := parts_len x
    have h2 := partsAt_len (H := H) x
    show (catTo H.partsAt x ++ H.partsAt x).length ≤ _
    rw [List.length_append]
    omega
end AuH
theorem pg_le {H : AuH} {n c : Nat} (HV : HeapV H n c) : 1024 ≤ H.pg ∧ H.pg ≤ 1048576 ∧ H.pg = pageS H.s ∧ pageN H.t H.p H.s = H.pg := by
  obtain ⟨g, q, h1, h2, h3, h4, h5, h6, h7, h8, h9, h10, h11⟩ := right_nums HV.right
  have e : H.pg = g := by unfold AuH.pg; rw [h8, Int.toNat_natCast]
  rw [e]
  exact ⟨h6, h7, by rw [pageS_yes ⟨h9, h10⟩]; exact h8, h1⟩
theorem first_eq {H : AuH} {n c : Nat} (HV : HeapV H n c) {q : Nat} (hq : q < H.p) : addrI H.t H.p H.s q 0 = H.first q ∧ addrB H.t H.p H.s q 0 = true ∧ 1024 ≤ H.first q ∧ H.first q ≤ 1075838976 := by
  have hg := pg_le HV
  have hB : addrB H.t H.p H.s q 0 = true := by unfold addrB; rw [HV.right, hg.2.2.2, Bool.true_and, decide_eq_true_iff]; omega
  have hA : addrI H.t H.p H.s q 0 = ((q : Int) + 1) * (H.pg : Int) + 0 := by unfold addrI; rw [if_pos hB, hg.2.2.2]
  have hY := addr_yes hB
  rw [hA, Int.add_zero] at hY
  exact ⟨by rw [hA, Int.add_zero]; rfl, hB, hY.2.2.2.2.1, hY.2.2.2.2.2⟩


theorem held_grown {w w' : World} {row : Option Nat} {g : Nat} {t : TypeId} {cs : Array Value} (h : Held w g t cs) (hg : w.grownBy w' row) (hr : row ≠ some g) : Held w' g t cs := (hg.block g h.lt (fun e => hr e.symm)).trans h
end
section
theorem own_down {w : World} {base base' : Nat} {e : TypeId} {size : Nat} {v : Value} {n : Nat} {xs : List Value} (h : w.ownsRow base e size v n xs) (hb : base' ≤ base) : w.ownsRow base' e size v n xs :=
  ⟨h.1, h.2.imp id fun ⟨g, cap, cur, h1, h2, h3⟩ => ⟨g, cap, cur, h1, Nat.le_trans hb h2, h3⟩⟩
section
attribute [local go_sem] Oper.semAt_some

end
end
section
def natVs (l : List Nat) : List Value := l.map fun (n : Nat) => Value.int .i64 (n : Int)
theorem natVs_snoc (l : List Nat) (q : Nat) : natVs (l ++ [q]) = natVs l ++ [.int .i64 (q : Int)] := by unfold natVs; simp
theorem natVs_get {l : List Nat} {i a : Nat} (h : l[i]? = some a) : (natVs l)[i]? = some (.int .i64 (a : Int)) := by unfold natVs; simp [h]
theorem own_nat {w : World} {base n g cap : Nat} {e : TypeId} {l : List Nat} (h : w.ownsRow base e 1 (.slice (some ⟨g, 0, none⟩) n cap) n (natVs l)) (hn : l.length = n) {i a : Nat} (hi : l[i]? = some a) : w.cell? ⟨g, i, none⟩ = some (.int .i64 (a : Int)) := by
  have hl : i < n := by
    rcases Nat.lt_or_ge i n with h1 | h1
    · exact h1
    · rw [List.getElem?_eq_none (by omega)] at hi; cases hi
  exact (h.cellAt _ (by omega)).trans (natVs_get hi)
def StartsIs (H : AuH) (w : World) (u : Value) (b : Bool) (w' : World) : Prop := (b = true ↔ H.At H.p) ∧ (b = true → ∃ l, H.Starts l H.p ∧ w'.ownsRow w.heap.size 3 1 u l.length (natVs l))
def StartsEnd (H : AuH) (w : World) (e : Ending) (w' : World) : Prop := ∃ u b, e = .returned (.tuple #[u, .bool b]) ∧ StartsIs H w u b w' ∧ Below w.heap.size w w'

set_option maxHeartbeats 6400000 in
set_option maxRecDepth 100000 in
theorem xStarts_c {H : AuH} {n c : Nat} (HV : HeapV H n c) (ad : Addr) (w : World) (hv : IsVals w ad n H.V) :
    Calls Tryz.prog 107 #[hpV H ad n c] w (StartsEnd H w) := by
  have HVL := hidp hv
  have HX0 := hidp ((Held.new w 58 #[.int .i64 (H.t : Int), .int .i64 (H.p : Int), .int .i64 (H.s : Int), .slice (some ad) n c]).alloc (.cells #[] 3))
  have HBW := hidp (Bnew (Bnew (B0 w) (.cells #[.int .i64 (H.t : Int), .int .i64 (H.p : Int), .int .i64 (H.s : Int), .slice (some ad) n c] 58)) (.cells #[] 3))
  have HOW : Hid (((w.alloc (.cells #[.int .i64 (H.t : Int), .int .i64 (H.p : Int), .int .i64 (H.s : Int), .slice (some ad) n c] 58)).alloc (.cells #[] 3)).ownsRow (w.heap.size + 1) 3 1 (.slice (some ⟨(w.alloc (.cells #[.int .i64 (H.t : Int), .int .i64 (H.p : Int), .int .i64 (H.s : Int), .slice (some ad) n c] 58)).heap.size, 0, none⟩) 0 0) 0 []) := hidp (World.ownsRow_lit (base := (w.heap.size + 1)) (e := 3) (size := 1) (w.alloc (.cells #[.int .i64 (H.t : Int), .int .i64 (H.p : Int), .int .i64 (H.s : Int), .slice (some ad) n c] 58)) #[] 0 (by simp) (by unfold maxLen; omega) rfl)
  obtain ⟨i0, hi0, hz0, hz1, hz2⟩ := info_parts intInfo
  have hn := HV.nums
  have hcx : c ≤ 9223372036854775807 := hn.2.2.2.2.2.2.2.2
  have hni : n ≤ 6238 := hn.2.2.2.2.2.2.1
  have hnc := HV.cap
  have hp1 := hn.2.2.2.1
  clear hv hn
  unfold hpV
  go_enter Tryz.func107, Tryz.ntmps107
  go_wp2_with fail
  rw [World.size_alloc] at HOW
  generalize (w.alloc (.cells #[.int .i64 (H.t : Int), .int .i64 (H.p : Int), .int .i64 (H.s : Int), .slice (some ad) n c] 58)).alloc (.cells #[] 3) = W0 at *
  go_loopw [4, 5] (fun u4 u5 wr => ∃ (a : Nat) (l : List Nat) (nl : Nat), u5 = .int .i64 (a : Int) ∧ a ≤ 4096 ∧ Hid ((a ≤ H.p ∧ H.Starts l a) ∨ (H.p < a ∧ ¬ H.At H.p)) ∧ nl ≤ 1024 ∧ Hid (l.length = nl) ∧ Hid (wr.ownsRow (w.heap.size + 1) 3 1 u4 nl (natVs l)) ∧ Hid (Held wr w.heap.size 58 #[.int .i64 (H.t : Int), .int .i64 (H.p : Int), .int .i64 (H.s : Int), .slice (some ad) n c]) ∧ Hid (Below w.heap.size w wr)) (fun _ u5 _ => H.p - (intOf u5).toNat)
  case atStart => exact ⟨0, [], 0, rfl, by omega, hidp (.inl ⟨by omega, .nil⟩), by omega, hidp rfl, HOW, HX0, HBW⟩
  case round =>
    clear HOW HX0 HBW
    obtain ⟨a, l, nl, rfl, ha, HST, hnl, HLN, HO, HX, HB⟩ := hrel
    obtain ⟨c0, c1, c2, c3⟩ := HX.out.four
    by_cases hlt : a < H.p
    · have hst : H.Starts l a := by
        rcases HST.out with h | h
        · exact h.2
        · omega
      have HSL := hidp hst
      have hln := hst.len
      have t0 : decide ((a : Int) < H.p) = true := decide_eq_true (by omega)
      have HVR := hidp (HVL.out.below HB.out)
      obtain ⟨i, hii⟩ : ∃ i, 30 + 4 * H.t + 6 * a + 0 = i := ⟨_, rfl⟩
      have hini : i < n := by have := HV.len; omega
      have HI : Hid (pageI H.t H.p H.s a 0 = (i : Int)) := hidp (by have h := HV.page (b := 0) hlt (by omega); rw [hii] at h; exact h)
      have h32i := HV.cel_lt hlt (show 0 < 6 by omega)
      have hceli : H.cel a 0 = H.V i := by unfold AuH.cel; rw [hii]
      obtain ⟨v, hvvv⟩ : ∃ v, H.cel a 0 = v := ⟨_, rfl⟩
      have HCv := hidp hvvv
      rw [hvvv] at h32i
      have hci := (HVR.out).2 i hini
      rw [← hceli, hvvv] at hci
      have hbli : (ad.add i).block < wr.heap.size := by rw [block_of_add]; exact (HVR.out).1
      have HS : Hid (∀ w', Below wr.heap.size wr w' → (fun w' => w'.cell? ⟨w.heap.size, 0, none⟩ = some (.int .i64 (H.t : Int)) ∧ w'.cell? ⟨w.heap.size, 1, none⟩ = some (.int .i64 (H.p : Int)) ∧ w'.cell? ⟨w.heap.size, 2, none⟩ = some (.int .i64 (H.s : Int)) ∧ w'.cell? ⟨w.heap.size, 3, none⟩ = some (.slice (some ad) n c) ∧ w'.cell? (ad.add i) = some (.int .u32 (v : Int))) w') := hidp (fun w' hb => by have hh := HX.out.keep hb; exact ⟨hh.four.1, hh.four.2.1, hh.four.2.2.1, hh.four.2.2.2, (hb.cell hbli).trans hci⟩)
      have hie := H.info_eq a
      rw [H.L_ln, hvvv] at hie
      have hok := H.ok_of a
      have hkc := H.K_cases a
      have HCN : Hid (H.can a = false → ¬ H.At H.p) := hidp (fun h hp => by have := (AuH.At.next hst.at_ hp hlt).1; rw [h] at this; cases this)
      have HCA : Hid (H.K a ≠ 0 → a + H.ln a ≤ H.p → H.can a = true ∧ H.nx a = a + H.ln a) := hidp (fun h1 h2 => ⟨(H.can_iff a).2 ⟨hlt, h1, h2⟩, rfl⟩)
      have HCF : Hid (H.K a = 0 ∨ H.p < a + H.ln a → H.can a = false) := hidp (fun h => (H.can_no a).2 (by omega))
      generalize H.K a = k at *
      generalize H.ln a = m at *
      generalize H.Cl a = cl at *
      generalize H.ok a = okb at *
      have HG := hidp hie
      clear hci hbli hceli hvvv hii HCv hie hst
      go_upto_region 4 with fail
      go_cut [6, 7] from 14 to 25 (fun u6 u7 wx => ∃ g : Nat, u6 = .pointer (some ⟨g, 0, none⟩) ∧ u7 = .bool okb ∧ Held wx g 60 #[(.int .i64 k), (.int .i64 (m : Int)), (.int .i64 cl)] ∧ Below wr.heap.size wr wx ∧ wr.heap.size ≤ g)
      case first =>
        have HB := hidp (Bdrew (B0 (wr)))
        refine wp_region_held_drew (S := (fun w' => w'.cell? ⟨w.heap.size, 0, none⟩ = some (.int .i64 (H.t : Int)) ∧ w'.cell? ⟨w.heap.size, 1, none⟩ = some (.int .i64 (H.p : Int)) ∧ w'.cell? ⟨w.heap.size, 2, none⟩ = some (.int .i64 (H.s : Int)) ∧ w'.cell? ⟨w.heap.size, 3, none⟩ = some (.slice (some ad) n c) ∧ w'.cell? (ad.add i) = some (.int .u32 (v : Int)))) (by kernel_rfl) ?_ (fun hHeld => ?_)
        · (try dsimp only)
          exact HS.out _ HB.out
        generalize hq0 : (wr).drew = q0 at HB hHeld ⊢
        clear hq0
        refine tkz 0 ?_
        refine tkz 1 ?_
        refine tkz 2 ?_
        refine tkz 3 ?_
        refine tkz 4 ?_
        refine wpAnyH_ready (rs := [5, 12]) (by kernel_rfl) (by simp) ?_
        refine AllReadyH.cons (o := _) rfl (fun K hK => ?_) (AllReadyH.cons (o := _) rfl (fun K hK => ?_) AllReadyH.nil)
        · skip
          go_simp
          (go_at_call 43; refine (r7Info_c _ _ _ _ _).mono ?_; rintro e q1 ⟨rfl, hb1⟩; rw [HI.out]; have HB := hidp (Bgo HB.out hb1); skip; clear hb1)
          refine hK.out _ _ ?_ (fun hHeld => ?_)
          · (try dsimp only)
            exact HS.out _ HB.out
          clear hK K
          (try simp only [Act.put, gA, gB, gC, sA, sB, sC])
          refine tkz 6 ?_
          refine tkz 7 ?_
          refine wpAnyH_ready (rs := [8, 12]) (by kernel_rfl) (by simp) ?_
          refine AllReadyH.cons (o := _) rfl (fun K hK => ?_) (AllReadyH.cons (o := _) rfl (fun K hK => ?_) AllReadyH.nil)
          · skip
            go_simp
            (go_at_call 64; refine (r9Get_c _ _ _ _ _ h32i HG.out _).mono ?_; rintro e q2 ⟨rfl, hb1⟩; have HB := hidp (Bgo HB.out hb1); skip; clear hb1)
            refine hK.out _ _ ?_ (fun hHeld => ?_)
            · (try dsimp only)
              exact HS.out _ HB.out
            clear hK K
            (try simp only [Act.put, gA, gB, gC, sA, sB, sC])
            refine tkz 9 ?_
            refine tkz 10 ?_
            refine tkz 11 ?_
            refine wpAnyH_ready (rs := [12]) (by kernel_rfl) (by simp) ?_
            refine AllReadyH.cons (o := _) rfl (fun K hK => ?_) AllReadyH.nil
            · skip
              go_simp
              have HLE := hidp HB.out.size
              have HB := hidp (Bnew HB.out (.cells #[.int .i64 0, .int .i64 0, .int .i64 0] 60))
              have HN := hidp (Held.new q2 60 #[.int .i64 0, .int .i64 0, .int .i64 0])
              try simp only [World.heap_drew] at HLE HN
              generalize hq3 : q2.alloc (.cells #[.int .i64 0, .int .i64 0, .int .i64 0] 60) = q3 at HB HN ⊢
              clear hq3
              refine hK.out _ _ ?_ (fun hHeld => ?_)
              · (try dsimp only)
                exact HS.out _ HB.out
              clear hK K
              (try simp only [Act.put, gA, gB, gC, sA, sB, sC])
              refine wpAnyH_ready (rs := [13]) (by kernel_rfl) (by simp) ?_
              refine AllReadyH.cons (o := _) rfl (fun K hK => ?_) AllReadyH.nil
              obtain ⟨z0, z1, z2⟩ := HN.out.three
              have f0 := HN.out.thawed 0
              have f1 := HN.out.thawed 1
              have f2 := HN.out.thawed 2
              go_simp
              have HN := hidp (HN.out.put 0 (.int .i64 k))
              have HN := hidp (HN.out.put 1 (.int .i64 (m : Int)))
              have HN := hidp (HN.out.put 2 (.int .i64 cl))
              have HB := hidp (Bput (p := ⟨_, 2, none⟩) (Bput (p := ⟨_, 1, none⟩) (Bput (p := ⟨_, 0, none⟩) HB.out HLE.out (.int .i64 k)) HLE.out (.int .i64 (m : Int))) HLE.out (.int .i64 cl))
              clear z0 z1 z2 f0 f1 f2
              refine hK.out _ _ ?_ (fun hHeld => ?_)
              · (try dsimp only)
                exact HS.out _ HB.out
              clear hK K
              (try simp only [Act.put, gA, gB, gC, sA, sB, sC])
              refine tkz 14 ?_
              refine wpAnyH_done (by kernel_rfl) ?_ _
              go_wp2_with fail
              go_meet
              case rel => exact ⟨_, rfl, rfl, HN.out, HB.out, HLE.out⟩
          · skip
            go_simp
            have HLE := hidp HB.out.size
            have HB := hidp (Bnew HB.out (.cells #[.int .i64 0, .int .i64 0, .int .i64 0] 60))
            have HN := hidp (Held.new q1 60 #[.int .i64 0, .int .i64 0, .int .i64 0])
            try simp only [World.heap_drew] at HLE HN
            generalize hq4 : q1.alloc (.cells #[.int .i64 0, .int .i64 0, .int .i64 0] 60) = q4 at HB HN ⊢
            clear hq4
            refine hK.out _ _ ?_ (fun hHeld => ?_)
            · (try dsimp only)
              exact HS.out _ HB.out
            clear hK K
            (try simp only [Act.put, gA, gB, gC, sA, sB, sC])
            refine wpAnyH_ready (rs := [8]) (by kernel_rfl) (by simp) ?_
            refine AllReadyH.cons (o := _) rfl (fun K hK => ?_) AllReadyH.nil
            · skip
              go_simp
              (go_at_call 64; refine (r9Get_c _ _ _ _ _ h32i HG.out _).mono ?_; rintro e q5 ⟨rfl, hb1⟩; have HB := hidp (Bgo HB.out hb1); have HN := hidp (HN.out.keep hb1); clear hb1)
              refine hK.out _ _ ?_ (fun hHeld => ?_)
              · (try dsimp only)
                exact HS.out _ HB.out
              clear hK K
              (try simp only [Act.put, gA, gB, gC, sA, sB, sC])
              refine tkz 9 ?_
              refine tkz 10 ?_
              refine tkz 11 ?_
              refine wpAnyH_ready (rs := [13]) (by kernel_rfl) (by simp) ?_
              refine AllReadyH.cons (o := _) rfl (fun K hK => ?_) AllReadyH.nil
              obtain ⟨z0, z1, z2⟩ := HN.out.three
              have f0 := HN.out.thawed 0
              have f1 := HN.out.thawed 1
              have f2 := HN.out.thawed 2
              go_simp
              have HN := hidp (HN.out.put 0 (.int .i64 k))
              have HN := hidp (HN.out.put 1 (.int .i64 (m : Int)))
              have HN := hidp (HN.out.put 2 (.int .i64 cl))
              have HB := hidp (Bput (p := ⟨_, 2, none⟩) (Bput (p := ⟨_, 1, none⟩) (Bput (p := ⟨_, 0, none⟩) HB.out HLE.out (.int .i64 k)) HLE.out (.int .i64 (m : Int))) HLE.out (.int .i64 cl))
              clear z0 z1 z2 f0 f1 f2
              refine hK.out _ _ ?_ (fun hHeld => ?_)
              · (try dsimp only)
                exact HS.out _ HB.out
              clear hK K
              (try simp only [Act.put, gA, gB, gC, sA, sB, sC])
              refine tkz 14 ?_
              refine wpAnyH_done (by kernel_rfl) ?_ _
              go_wp2_with fail
              go_meet
              case rel => exact ⟨_, rfl, rfl, HN.out, HB.out, HLE.out⟩
        · skip
          go_simp
          have HLE := hidp HB.out.size
          have HB := hidp (Bnew HB.out (.cells #[.int .i64 0, .int .i64 0, .int .i64 0] 60))
          have HN := hidp (Held.new q0 60 #[.int .i64 0, .int .i64 0, .int .i64 0])
          try simp only [World.heap_drew] at HLE HN
          generalize hq6 : q0.alloc (.cells #[.int .i64 0, .int .i64 0, .int .i64 0] 60) = q6 at HB HN ⊢
          clear hq6
          refine hK.out _ _ ?_ (fun hHeld => ?_)
          · (try dsimp only)
            exact HS.out _ HB.out
          clear hK K
          (try simp only [Act.put, gA, gB, gC, sA, sB, sC])
          refine wpAnyH_ready (rs := [5]) (by kernel_rfl) (by simp) ?_
          refine AllReadyH.cons (o := _) rfl (fun K hK => ?_) AllReadyH.nil
          · skip
            go_simp
            (go_at_call 43; refine (r7Info_c _ _ _ _ _).mono ?_; rintro e q7 ⟨rfl, hb1⟩; rw [HI.out]; have HB := hidp (Bgo HB.out hb1); have HN := hidp (HN.out.keep hb1); clear hb1)
            refine hK.out _ _ ?_ (fun hHeld => ?_)
            · (try dsimp only)
              exact HS.out _ HB.out
            clear hK K
            (try simp only [Act.put, gA, gB, gC, sA, sB, sC])
            refine tkz 6 ?_
            refine tkz 7 ?_
            refine wpAnyH_ready (rs := [8]) (by kernel_rfl) (by simp) ?_
            refine AllReadyH.cons (o := _) rfl (fun K hK => ?_) AllReadyH.nil
            · skip
              go_simp
              (go_at_call 64; refine (r9Get_c _ _ _ _ _ h32i HG.out _).mono ?_; rintro e q8 ⟨rfl, hb1⟩; have HB := hidp (Bgo HB.out hb1); have HN := hidp (HN.out.keep hb1); clear hb1)
              refine hK.out _ _ ?_ (fun hHeld => ?_)
              · (try dsimp only)
                exact HS.out _ HB.out
              clear hK K
              (try simp only [Act.put, gA, gB, gC, sA, sB, sC])
              refine tkz 9 ?_
              refine tkz 10 ?_
              refine tkz 11 ?_
              refine wpAnyH_ready (rs := [13]) (by kernel_rfl) (by simp) ?_
              refine AllReadyH.cons (o := _) rfl (fun K hK => ?_) AllReadyH.nil
              obtain ⟨z0, z1, z2⟩ := HN.out.three
              have f0 := HN.out.thawed 0
              have f1 := HN.out.thawed 1
              have f2 := HN.out.thawed 2
              go_simp
              have HN := hidp (HN.out.put 0 (.int .i64 k))
              have HN := hidp (HN.out.put 1 (.int .i64 (m : Int)))
              have HN := hidp (HN.out.put 2 (.int .i64 cl))
              have HB := hidp (Bput (p := ⟨_, 2, none⟩) (Bput (p := ⟨_, 1, none⟩) (Bput (p := ⟨_, 0, none⟩) HB.out HLE.out (.int .i64 k)) HLE.out (.int .i64 (m : Int))) HLE.out (.int .i64 cl))
              clear z0 z1 z2 f0 f1 f2
              refine hK.out _ _ ?_ (fun hHeld => ?_)
              · (try dsimp only)
                exact HS.out _ HB.out
              clear hK K
              (try simp only [Act.put, gA, gB, gC, sA, sB, sC])
              refine tkz 14 ?_
              refine wpAnyH_done (by kernel_rfl) ?_ _
              go_wp2_with fail
              go_meet
              case rel => exact ⟨_, rfl, rfl, HN.out, HB.out, HLE.out⟩
      case rest =>
        obtain ⟨g, rfl, rfl, h1, h2, h3⟩ := hcut
        obtain ⟨d0, d1, d2⟩ := h1.three
        have HBX := hidp (Bgo HB.out h2)
        have HHX := hidp (HX.out.keep h2)
        have HNX := hidp h1
        have HOX := hidp (own_below HO.out h2)
        have HGE := hidp h3
        clear h1 h2 h3 HS c0 c1 c2 c3
        by_cases hk0 : k = 0
        · have HNA := hidp (HCN.out (HCF.out (.inl hk0)))
          subst hk0
          cases okb
          · go_wp2_with fail
            go_ret2
            exact ⟨_, false, rfl, ⟨⟨fun h => (by cases h), fun h => absurd h HNA.out⟩, fun h => (by cases h)⟩, HBX.out⟩
          · go_wp2_with fail
            go_ret2
            exact ⟨_, false, rfl, ⟨⟨fun h => (by cases h), fun h => absurd h HNA.out⟩, fun h => (by cases h)⟩, HBX.out⟩
        · have e : okb = true := hok hk0
          subst e
          have q0 : (k == 0) = false := by simpa using hk0
          have hmm : 1 ≤ m ∧ m ≤ 1024 := by omega
          have sw : IntKind.i64.wrap ((a : Int) + m) = ((a + m : Nat) : Int) := by rw [i64_same (by omega) (by omega)]; push_cast; rfl
          clear hkc hok
          go_wp2_with (first
            | (at_builtin
               refine wpList_append_own _ rfl _ _ 33 rfl (w.heap.size + 1) 3 i0 (.int .i64 0) 1 8 Tryz.underlying33 hi0 hz0 hz1 hz2 rfl (by decide) _ _ _ rfl (HOX.out.alloc _) ⟨_, 0, none⟩ 1 1 [.int .i64 (a : Int)] rfl rfl ?c1 ?c2 ?c3 ?c4 ?c5 ?_
               case c1 => intro j y hy; rcases j with _ | j; (· simp at hy; subst hy; simp [Addr.add]); (· simp at hy)
               case c2 => simp [Value.oneCell']
               case c3 => unfold maxLen; omega
               case c4 => omega
               case c5 => have := HBX.out.size; have := HX.out.lt; simp; omega
               intro u1 w3 hown3 hgrow hat3
               have HO3 : Hid (w3.ownsRow (w.heap.size + 1) 3 1 u1 (nl + 1) (natVs (l ++ [a]))) := hidp (by rw [natVs_snoc]; exact hown3)
               have hnb : ∀ j, u4.ownBlock = some j → (w.heap.size + 1) ≤ j := fun j hj => (HOX.out.lt j hj).1
               have HB3 := hidp ((Bnew HBX.out (.cells #[.int .i64 (a : Int)] 3)).grown hgrow (by have := HBX.out.size; simp; omega) (fun j hj => by have := hnb j hj; omega))
               have HX3 := hidp (held_grown (HHX.out.alloc (.cells #[.int .i64 (a : Int)] 3)) hgrow (fun e => by have := hnb _ e; omega))
               have HN3 := hidp (held_grown (HNX.out.alloc (.cells #[.int .i64 (a : Int)] 3)) hgrow (fun e => by have := (HO.out.lt _ e).2; have := HGE.out; omega))
               clear hown3 hgrow hat3 hnb d0 d1 d2
               obtain ⟨d0, d1, d2⟩ := HN3.out.three)
            | fail)
          go_roundw
          case rel =>
            refine ⟨a + m, l ++ [a], nl + 1, by go_num, by omega, ?_, by have := HSL.out.len; have := HLN.out; omega, hidp (by rw [List.length_append, HLN.out]; rfl), HO3, HX3, HB3⟩
            rcases Nat.lt_or_ge H.p (a + m) with h | h
            · exact hidp (.inr ⟨h, HCN.out (HCF.out (.inr h))⟩)
            · have h4 := HCA.out hk0 h
              exact hidp (.inl ⟨h, by rw [← h4.2]; exact .snoc HSL.out h4.1⟩)
          case measure => simp [intOf]; omega
    · have t0 : decide ((a : Int) < H.p) = false := decide_eq_false (by omega)
      obtain ⟨b, hb⟩ : ∃ b : Bool, ((a : Int) == H.p) = b := ⟨_, rfl⟩
      have HSI : Hid (StartsIs H w u4 b wr) := hidp (by
        rcases HST.out with ⟨h1, h2⟩ | ⟨h1, h2⟩
        · have hap : a = H.p := by omega
          have hbt : b = true := by rw [← hb]; simp; omega
          subst hbt
          refine ⟨⟨fun _ => by rw [← hap]; exact h2.at_, fun _ => rfl⟩, fun _ => ⟨l, by rw [← hap]; exact h2, by rw [HLN.out]; exact own_down HO.out (by omega)⟩⟩
        · have hbt : b = false := by rw [← hb]; simp; omega
          subst hbt
          exact ⟨⟨fun h => (by cases h), fun h => absurd h h2⟩, fun h => (by cases h)⟩)
      clear HST
      go_wp2_with fail
      refine wp_region_held_drew (S := (fun w' => w'.cell? ⟨w.heap.size, 0, none⟩ = some (.int .i64 (H.t : Int)) ∧ w'.cell? ⟨w.heap.size, 1, none⟩ = some (.int .i64 (H.p : Int)) ∧ w'.cell? ⟨w.heap.size, 2, none⟩ = some (.int .i64 (H.s : Int)) ∧ w'.cell? ⟨w.heap.size, 3, none⟩ = some (.slice (some ad) n c))) (by kernel_rfl) ?_ (fun hHeld => ?_)
      · (try dsimp only)
        first | exact ⟨c0, c1, c2, c3⟩ | exact hHeld
      refine tkz 0 ?_
      refine tkz 1 ?_
      refine tkz 2 ?_
      refine tkz 3 ?_
      refine tkz 4 ?_
      refine tkz 5 ?_
      refine tkz 6 ?_
      refine tkz 7 ?_
      refine wpAnyH_done (by kernel_rfl) ?_ _
      go_wp2_with fail
      go_ret2
      exact ⟨_, _, rfl, HSI.out, Bdrew HB.out⟩
end
section
def LRow (w : World) (g : Nat) (l : List Nat) : Prop := g < w.heap.size ∧ ∀ (i a : Nat), l[i]? = some a → w.cell? ⟨g, i, none⟩ = some (.int .i64 (a : Int))
theorem LRow.keep {w w' : World} {g : Nat} {l : List Nat} (h : LRow w g l) (hb : Below w.heap.size w w') : LRow w' g l :=
  ⟨Nat.lt_of_lt_of_le h.1 hb.size, fun i a hi => (hb.cell (p := ⟨g, i, none⟩) h.1).trans (h.2 i a hi)⟩
theorem LRow.drew {w : World} {g : Nat} {l : List Nat} (h : LRow w g l) : LRow w.drew g l := h
def StartsYes (H : AuH) (w : World) (e : Ending) (w' : World) : Prop := ∃ g cap l nl, e = .returned (.tuple #[.slice (some ⟨g, 0, none⟩) nl cap, .bool true]) ∧ H.Starts l H.p ∧ l.length = nl ∧ 0 < nl ∧ nl ≤ cap ∧ cap ≤ 9223372036854775807 ∧ LRow w' g l ∧ Below w.heap.size w w'
theorem own_caps {w : World} {base : Nat} {e : TypeId} {size n c : Nat} {A : Option Addr} {xs : List Value} (h : w.ownsRow base e size (.slice A n c) n xs) : n ≤ c ∧ c ≤ 9223372036854775807 := by
  rcases h.2 with ⟨h1, h2⟩ | ⟨g, cap, cur, h1, hb, hg, hnc, hcm, hr⟩
  · injection h1 with _ h1 h3; omega
  · injection h1 with _ _ h3; unfold maxLen at hcm; omega
theorem xStarts_yes {H : AuH} {n c : Nat} (HV : HeapV H n c) (hA : H.At H.p) (ad : Addr) (w : World) (hv : IsVals w ad n H.V) : Calls Tryz.prog 107 #[hpV H ad n c] w (StartsYes H w) := by
  refine (xStarts_c HV ad w hv).mono ?_
  rintro e w1 ⟨u, b, rfl, ⟨h1, h2⟩, hb⟩
  have hbt := h1.2 hA
  subst hbt
  obtain ⟨l, hl, hown⟩ := h2 rfl
  have hpos : 0 < l.length := by
    rcases hl.head with ⟨_, h⟩ | h
    · have := HV.nums.2.2.1; omega
    · rcases Nat.lt_or_ge 0 l.length with h3 | h3
      · exact h3
      · rw [List.getElem?_eq_none h3] at h; cases h
  obtain ⟨g, cap, rfl, hg1, hg2⟩ := hown.form hpos
  have hc := own_caps hown
  exact ⟨g, cap, l, l.length, rfl, hl, rfl, hpos, hc.1, hc.2, ⟨hg2, fun i a hi => own_nat hown rfl hi⟩, hb⟩
def StartsNo (w : World) (e : Ending) (w' : World) : Prop := ∃ u, e = .returned (.tuple #[u, .bool false]) ∧ Below w.heap.size w w'
theorem xStarts_no {H : AuH} {n c : Nat} (HV : HeapV H n c) (hA : ¬ H.At H.p) (ad : Addr) (w : World) (hv : IsVals w ad n H.V) : Calls Tryz.prog 107 #[hpV H ad n c] w (StartsNo w) := by
  refine (xStarts_c HV ad w hv).mono ?_
  rintro e w1 ⟨u, b, rfl, ⟨h1, h2⟩, hb⟩
  cases b
  · exact ⟨u, rfl, hb⟩
  · exact absurd (h1.1 rfl) hA

set_option maxHeartbeats 6400000 in
set_option maxRecDepth 100000 in
theorem xTiles_c {H : AuH} {n c : Nat} (HV : HeapV H n c) (ad : Addr) (b : Bool) (hb : b = true ↔ H.Tiled) (w : World) (hv : IsVals w ad n H.V) :
    Calls Tryz.prog 67 #[hpV H ad n c] w fun e w' => e = .returned (.bool b) ∧ Below w.heap.size w w' := by
  have HVL := hidp hv
  have HX0 := hidp (Held.new w 58 #[.int .i64 (H.t : Int), .int .i64 (H.p : Int), .int .i64 (H.s : Int), .slice (some ad) n c])
  obtain ⟨c0, c1, c2, c3⟩ := HX0.out.four
  have HBW := hidp (Bnew (B0 w) (.cells #[.int .i64 (H.t : Int), .int .i64 (H.p : Int), .int .i64 (H.s : Int), .slice (some ad) n c] 58))
  have hn := HV.nums
  have hcx : c ≤ 9223372036854775807 := hn.2.2.2.2.2.2.2.2
  have hni : n ≤ 6238 := hn.2.2.2.2.2.2.1
  have hnc := HV.cap
  have hp1 := hn.2.2.2.1
  have HBC := hidp hb
  clear hv hn hb
  unfold hpV
  by_cases hA : H.At H.p
  · go_enter Tryz.func67, Tryz.ntmps67
    go_wp2_with (first
      | (go_at_call 107; refine (xStarts_yes HV hA ad _ (HVL.out.below HBW.out)).mono ?_; rintro e w2 ⟨gl, cl, l, nl, rfl, hl, hln, hpos, hcl0, hcl, hlr, hb2⟩; have HSL := hidp hl; have HLN := hidp hln; have HLR := hidp hlr; have HB2 := hidp (Bgo HBW.out hb2); have HX2 := hidp (HX0.out.keep hb2); clear hl hln hlr hb2 c0 c1 c2 c3)
      | fail)
    have hnl : nl ≤ 1024 := by have := HSL.out.len; have := HLN.out; omega
    go_loopw [5, 6] (fun u5 u6 wr => ∃ (n1 p : Nat), n1 ≤ nl ∧ p ≤ H.p ∧ u5 = .int .i64 (n1 : Int) ∧ u6 = .int .i64 (p : Int) ∧ Hid (H.Front l n1 p) ∧ Hid (∀ q, q < p → ¬ H.At q → H.cel q 0 = 0) ∧ Hid (Held wr w.heap.size 58 #[.int .i64 (H.t : Int), .int .i64 (H.p : Int), .int .i64 (H.s : Int), .slice (some ad) n c]) ∧ Hid (LRow wr gl l) ∧ Hid (Below w.heap.size w wr)) (fun _ u6 _ => H.p - (intOf u6).toNat)
    case atStart => exact ⟨0, 0, by omega, by omega, rfl, rfl, hidp (AuH.Front.zero HSL.out), hidp (fun q h => by omega), HX2, HLR, HB2⟩
    case round =>
      obtain ⟨n1, p, hn1, hp, rfl, rfl, HF, HJ, HX, HLW, HB⟩ := hrel
      obtain ⟨c0, c1, c2, c3⟩ := HX.out.four
      by_cases hlt : p < H.p
      · have t0 : decide ((p : Int) < H.p) = true := decide_eq_true (by omega)
        have HVR := hidp (HVL.out.below HB.out)
        by_cases hln : n1 < nl
        · obtain ⟨a, hi⟩ : ∃ a, l[n1]? = some a := ⟨_, List.getElem?_eq_getElem (by have := HLN.out; omega)⟩
          have l0 := HLW.out.2 n1 a hi
          have t1 : decide ((n1 : Int) < nl) = true := decide_eq_true (by omega)
          by_cases hap : a = p
          · subst hap
            have HFN := hidp (AuH.Front.yes HSL.out HF.out hi)
            have q0 : ((a : Int) == (a : Int)) = true := by simp
            clear hi
            go_wp2_with fail
            go_roundw
            case rel => exact ⟨n1 + 1, a + 1, by omega, by omega, by go_num, by go_num, hidp HFN.out.2, hidp (fun q hq hn => by rcases Nat.lt_or_ge q a with h | h; (exact HJ.out q h hn); (have : q = a := by omega); subst this; exact absurd HFN.out.1 hn), HX, HLW, HB⟩
            case measure => simp [intOf]; omega
          · have HFN := hidp (AuH.Front.no HSL.out HF.out hlt (by rw [hi]; simpa using hap))
            have q0 : ((a : Int) == (p : Int)) = false := by simp; omega
            clear hi
            obtain ⟨i, hii⟩ : ∃ i, 30 + 4 * H.t + 6 * p + 0 = i := ⟨_, rfl⟩
            have hini : i < n := by have := HV.len; omega
            have HI : Hid (pageI H.t H.p H.s p 0 = (i : Int)) := hidp (by have h := HV.page (b := 0) hlt (by omega); rw [hii] at h; exact h)
            have h32i := HV.cel_lt hlt (show 0 < 6 by omega)
            have hceli : H.cel p 0 = H.V i := by unfold AuH.cel; rw [hii]
            obtain ⟨v, hvvv⟩ : ∃ v, H.cel p 0 = v := ⟨_, rfl⟩
            have HCv := hidp hvvv
            rw [hvvv] at h32i
            have hci := (HVR.out).2 i hini
            rw [← hceli, hvvv] at hci
            have hbli : (ad.add i).block < wr.heap.size := by rw [block_of_add]; exact (HVR.out).1
            have HS : Hid (∀ w', Below wr.heap.size wr w' → (fun w' => w'.cell? ⟨w.heap.size, 0, none⟩ = some (.int .i64 (H.t : Int)) ∧ w'.cell? ⟨w.heap.size, 1, none⟩ = some (.int .i64 (H.p : Int)) ∧ w'.cell? ⟨w.heap.size, 2, none⟩ = some (.int .i64 (H.s : Int)) ∧ w'.cell? ⟨w.heap.size, 3, none⟩ = some (.slice (some ad) n c) ∧ w'.cell? (ad.add i) = some (.int .u32 (v : Int))) w') := hidp (fun w' hb => by have hh := HX.out.keep hb; exact ⟨hh.four.1, hh.four.2.1, hh.four.2.2.1, hh.four.2.2.2, (hb.cell hbli).trans hci⟩)
            clear hci hbli hceli hvvv hii
            by_cases hv0 : v = 0
            · have q2 : ((v : Int) != 0) = false := by simp; omega
              have HV0 := hidp hv0
              clear hv0
              go_wp2_with fail
              refine wp_region_held_drew (S := (fun w' => w'.cell? ⟨w.heap.size, 0, none⟩ = some (.int .i64 (H.t : Int)) ∧ w'.cell? ⟨w.heap.size, 1, none⟩ = some (.int .i64 (H.p : Int)) ∧ w'.cell? ⟨w.heap.size, 2, none⟩ = some (.int .i64 (H.s : Int)) ∧ w'.cell? ⟨w.heap.size, 3, none⟩ = some (.slice (some ad) n c) ∧ w'.cell? (ad.add i) = some (.int .u32 (v : Int)))) (by kernel_rfl) ?_ (fun hHeld => ?_)
              · (try dsimp only)
                first | exact HS.out _ (Bdrew (B0 _)) | exact HS.out _ HB5r.out | exact hHeld
              refine tkz 0 ?_
              refine tkz 1 ?_
              refine tkz 2 ?_
              refine tkz 3 ?_
              refine tkz 4 ?_
              refine wpAnyH_ready (rs := [5]) (by kernel_rfl) (by simp) ?_
              refine AllReadyH.cons (o := _) rfl (fun K hK => ?_) AllReadyH.nil
              go_simp
              (go_at_call 43; refine (r7Info_c _ _ _ _ _).mono ?_; rintro e w5 ⟨rfl, hb5⟩; rw [HI.out]; have HB5 := hidp (Bgo (Bdrew HB.out) hb5); have HB5r := hidp (Bgo (Bdrew (B0 wr)) hb5); have HX5 := hidp (HX.out.drew.keep hb5); have HL5 := hidp (HLW.out.drew.keep hb5); clear hb5)
              refine hK.out _ _ ?_ (fun hHeld => ?_)
              · (try dsimp only)
                first | exact HS.out _ (Bdrew (B0 _)) | exact HS.out _ HB5r.out | exact hHeld
              clear hK K
              (try simp only [Act.put, gA, gB, gC, sA, sB, sC])
              refine tkz 6 ?_
              refine tkz 7 ?_
              refine tkz 8 ?_
              refine wpAnyH_done (by kernel_rfl) ?_ _
              go_wp2_with fail
              go_roundw
              case rel => exact ⟨n1, p + 1, by omega, by omega, rfl, by go_num, hidp HFN.out.2, hidp (fun q hq hn => by rcases Nat.lt_or_ge q p with h | h; (exact HJ.out q h hn); (have : q = p := by omega); subst this; rw [HCv.out]; exact HV0.out), HX5, HL5, HB5⟩
              case measure => simp [intOf]; omega
            · have q2 : ((v : Int) != 0) = true := by simp; omega
              have HBF : Hid (b = false) := hidp (bool_no HBC.out (fun h => hv0 (HCv.out.symm.trans (AuH.tiled_not h hlt HFN.out.1))))
              go_wp2_with fail
              refine wp_region_held_drew (S := (fun w' => w'.cell? ⟨w.heap.size, 0, none⟩ = some (.int .i64 (H.t : Int)) ∧ w'.cell? ⟨w.heap.size, 1, none⟩ = some (.int .i64 (H.p : Int)) ∧ w'.cell? ⟨w.heap.size, 2, none⟩ = some (.int .i64 (H.s : Int)) ∧ w'.cell? ⟨w.heap.size, 3, none⟩ = some (.slice (some ad) n c) ∧ w'.cell? (ad.add i) = some (.int .u32 (v : Int)))) (by kernel_rfl) ?_ (fun hHeld => ?_)
              · (try dsimp only)
                first | exact HS.out _ (Bdrew (B0 _)) | exact HS.out _ HB5r.out | exact hHeld
              refine tkz 0 ?_
              refine tkz 1 ?_
              refine tkz 2 ?_
              refine tkz 3 ?_
              refine tkz 4 ?_
              refine wpAnyH_ready (rs := [5]) (by kernel_rfl) (by simp) ?_
              refine AllReadyH.cons (o := _) rfl (fun K hK => ?_) AllReadyH.nil
              go_simp
              (go_at_call 43; refine (r7Info_c _ _ _ _ _).mono ?_; rintro e w5 ⟨rfl, hb5⟩; rw [HI.out]; have HB5 := hidp (Bgo (Bdrew HB.out) hb5); have HB5r := hidp (Bgo (Bdrew (B0 wr)) hb5); have HX5 := hidp (HX.out.drew.keep hb5); have HL5 := hidp (HLW.out.drew.keep hb5); clear hb5)
              refine hK.out _ _ ?_ (fun hHeld => ?_)
              · (try dsimp only)
                first | exact HS.out _ (Bdrew (B0 _)) | exact HS.out _ HB5r.out | exact hHeld
              clear hK K
              (try simp only [Act.put, gA, gB, gC, sA, sB, sC])
              refine tkz 6 ?_
              refine tkz 7 ?_
              refine tkz 8 ?_
              refine wpAnyH_done (by kernel_rfl) ?_ _
              go_wp2_with fail
              go_ret
              exact ⟨by rw [HBF.out]; rfl, HB5.out⟩
        · have t1 : decide ((n1 : Int) < nl) = false := decide_eq_false (by omega)
          have HFN := hidp (AuH.Front.no HSL.out HF.out hlt (by rw [List.getElem?_eq_none (by have := HLN.out; omega)]; simp))
          obtain ⟨i, hii⟩ : ∃ i, 30 + 4 * H.t + 6 * p + 0 = i := ⟨_, rfl⟩
          have hini : i < n := by have := HV.len; omega
          have HI : Hid (pageI H.t H.p H.s p 0 = (i : Int)) := hidp (by have h := HV.page (b := 0) hlt (by omega); rw [hii] at h; exact h)
          have h32i := HV.cel_lt hlt (show 0 < 6 by omega)
          have hceli : H.cel p 0 = H.V i := by unfold AuH.cel; rw [hii]
          obtain ⟨v, hvvv⟩ : ∃ v, H.cel p 0 = v := ⟨_, rfl⟩
          have HCv := hidp hvvv
          rw [hvvv] at h32i
          have hci := (HVR.out).2 i hini
          rw [← hceli, hvvv] at hci
          have hbli : (ad.add i).block < wr.heap.size := by rw [block_of_add]; exact (HVR.out).1
          have HS : Hid (∀ w', Below wr.heap.size wr w' → (fun w' => w'.cell? ⟨w.heap.size, 0, none⟩ = some (.int .i64 (H.t : Int)) ∧ w'.cell? ⟨w.heap.size, 1, none⟩ = some (.int .i64 (H.p : Int)) ∧ w'.cell? ⟨w.heap.size, 2, none⟩ = some (.int .i64 (H.s : Int)) ∧ w'.cell? ⟨w.heap.size, 3, none⟩ = some (.slice (some ad) n c) ∧ w'.cell? (ad.add i) = some (.int .u32 (v : Int))) w') := hidp (fun w' hb => by have hh := HX.out.keep hb; exact ⟨hh.four.1, hh.four.2.1, hh.four.2.2.1, hh.four.2.2.2, (hb.cell hbli).trans hci⟩)
          clear hci hbli hceli hvvv hii
          by_cases hv0 : v = 0
          · have q2 : ((v : Int) != 0) = false := by simp; omega
            have HV0 := hidp hv0
            clear hv0
            go_wp2_with fail
            refine wp_region_held_drew (S := (fun w' => w'.cell? ⟨w.heap.size, 0, none⟩ = some (.int .i64 (H.t : Int)) ∧ w'.cell? ⟨w.heap.size, 1, none⟩ = some (.int .i64 (H.p : Int)) ∧ w'.cell? ⟨w.heap.size, 2, none⟩ = some (.int .i64 (H.s : Int)) ∧ w'.cell? ⟨w.heap.size, 3, none⟩ = some (.slice (some ad) n c) ∧ w'.cell? (ad.add i) = some (.int .u32 (v : Int)))) (by kernel_rfl) ?_ (fun hHeld => ?_)
            · (try dsimp only)
              first | exact HS.out _ (Bdrew (B0 _)) | exact HS.out _ HB5r.out | exact hHeld
            refine tkz 0 ?_
            refine tkz 1 ?_
            refine tkz 2 ?_
            refine tkz 3 ?_
            refine tkz 4 ?_
            refine wpAnyH_ready (rs := [5]) (by kernel_rfl) (by simp) ?_
            refine AllReadyH.cons (o := _) rfl (fun K hK => ?_) AllReadyH.nil
            go_simp
            (go_at_call 43; refine (r7Info_c _ _ _ _ _).mono ?_; rintro e w5 ⟨rfl, hb5⟩; rw [HI.out]; have HB5 := hidp (Bgo (Bdrew HB.out) hb5); have HB5r := hidp (Bgo (Bdrew (B0 wr)) hb5); have HX5 := hidp (HX.out.drew.keep hb5); have HL5 := hidp (HLW.out.drew.keep hb5); clear hb5)
            refine hK.out _ _ ?_ (fun hHeld => ?_)
            · (try dsimp only)
              first | exact HS.out _ (Bdrew (B0 _)) | exact HS.out _ HB5r.out | exact hHeld
            clear hK K
            (try simp only [Act.put, gA, gB, gC, sA, sB, sC])
            refine tkz 6 ?_
            refine tkz 7 ?_
            refine tkz 8 ?_
            refine wpAnyH_done (by kernel_rfl) ?_ _
            go_wp2_with fail
            go_roundw
            case rel => exact ⟨n1, p + 1, by omega, by omega, rfl, by go_num, hidp HFN.out.2, hidp (fun q hq hn => by rcases Nat.lt_or_ge q p with h | h; (exact HJ.out q h hn); (have : q = p := by omega); subst this; rw [HCv.out]; exact HV0.out), HX5, HL5, HB5⟩
            case measure => simp [intOf]; omega
          · have q2 : ((v : Int) != 0) = true := by simp; omega
            have HBF : Hid (b = false) := hidp (bool_no HBC.out (fun h => hv0 (HCv.out.symm.trans (AuH.tiled_not h hlt HFN.out.1))))
            go_wp2_with fail
            refine wp_region_held_drew (S := (fun w' => w'.cell? ⟨w.heap.size, 0, none⟩ = some (.int .i64 (H.t : Int)) ∧ w'.cell? ⟨w.heap.size, 1, none⟩ = some (.int .i64 (H.p : Int)) ∧ w'.cell? ⟨w.heap.size, 2, none⟩ = some (.int .i64 (H.s : Int)) ∧ w'.cell? ⟨w.heap.size, 3, none⟩ = some (.slice (some ad) n c) ∧ w'.cell? (ad.add i) = some (.int .u32 (v : Int)))) (by kernel_rfl) ?_ (fun hHeld => ?_)
            · (try dsimp only)
              first | exact HS.out _ (Bdrew (B0 _)) | exact HS.out _ HB5r.out | exact hHeld
            refine tkz 0 ?_
            refine tkz 1 ?_
            refine tkz 2 ?_
            refine tkz 3 ?_
            refine tkz 4 ?_
            refine wpAnyH_ready (rs := [5]) (by kernel_rfl) (by simp) ?_
            refine AllReadyH.cons (o := _) rfl (fun K hK => ?_) AllReadyH.nil
            go_simp
            (go_at_call 43; refine (r7Info_c _ _ _ _ _).mono ?_; rintro e w5 ⟨rfl, hb5⟩; rw [HI.out]; have HB5 := hidp (Bgo (Bdrew HB.out) hb5); have HB5r := hidp (Bgo (Bdrew (B0 wr)) hb5); have HX5 := hidp (HX.out.drew.keep hb5); have HL5 := hidp (HLW.out.drew.keep hb5); clear hb5)
            refine hK.out _ _ ?_ (fun hHeld => ?_)
            · (try dsimp only)
              first | exact HS.out _ (Bdrew (B0 _)) | exact HS.out _ HB5r.out | exact hHeld
            clear hK K
            (try simp only [Act.put, gA, gB, gC, sA, sB, sC])
            refine tkz 6 ?_
            refine tkz 7 ?_
            refine tkz 8 ?_
            refine wpAnyH_done (by kernel_rfl) ?_ _
            go_wp2_with fail
            go_ret
            exact ⟨by rw [HBF.out]; rfl, HB5.out⟩
      · have t0 : decide ((p : Int) < H.p) = false := decide_eq_false (by omega)
        have HBT : Hid (b = true) := hidp (HBC.out.2 ((AuH.tiled_iff hA).2 (fun q hq => HJ.out q (by omega))))
        go_wp2_with fail
        go_ret
        exact ⟨by rw [HBT.out]; rfl, HB.out⟩
  · have HBF : Hid (b = false) := hidp (bool_no HBC.out (fun h => hA h.1))
    go_enter Tryz.func67, Tryz.ntmps67
    go_wp2_with (first
      | (go_at_call 107; refine (xStarts_no HV hA ad _ (HVL.out.below HBW.out)).mono ?_; rintro e w2 ⟨u, rfl, hb2⟩; have HB2 := hidp (Bgo HBW.out hb2); clear hb2)
      | fail)
    go_ret
    exact ⟨by rw [HBF.out]; rfl, HB2.out⟩
end
end Go.Proofs.YtioolaaphbddbaaGreatDoor
