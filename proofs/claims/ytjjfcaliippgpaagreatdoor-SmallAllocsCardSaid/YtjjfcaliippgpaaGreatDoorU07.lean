/-
  The rules as the document tells them: the starts of spans as a list, a list of pages as it is walked. No program is named here.
-/
import Derived.Test.YtjjfcaliippgpaaGreatDoorU06
import Derived.Test.YtjjfcaliippgpaaGreatDoorU04
import Derived.Test.YtjjfcaliippgpaaGreatDoorU01
import Derived.Deep.AppendLies
import Derived.Test.YtjjfcaliippgpaaGreatDoorU05
namespace Go.Proofs.YtjjfcaliippgpaaGreatDoor
open Go.ChangeShapes Go.WideShapes Go.ChangeAt Go.RowKit Go.Shelf
set_option linter.unusedVariables false
set_option linter.unusedSimpArgs false
section
namespace AuH
inductive Starts (H : AuH) : List Nat -> Nat -> Prop where
 | nil : Starts H [] 0
 | snoc {l : List Nat} {q : Nat} : Starts H l q -> H.can q = true -> Starts H (l ++ [q]) (H.nx q)
variable {H : AuH} {l : List Nat} {x : Nat}
theorem Starts.at_ (h : H.Starts l x) : H.At x := by
 induction h with
 | nil => exact .zero
 | snoc h hc ih => exact .step ih hc
theorem Starts.len (h : H.Starts l x) : l.length <= x := by
 induction h with
 | nil => simp
 | snoc h hc ih =>
  have := (H.nx_gt hc).1
  rw [List.length_append]
  simp
  omega
theorem Starts.next (h : H.Starts l x) : ∀ {i a : Nat}, l[i]? = some a -> (H.At a /\ H.can a = true /\ a < x) /\ (l[i + 1]? = some (H.nx a) \/ (i + 1 = l.length /\ H.nx a = x)) := by
 induction h with
 | nil => intro i a h; simp at h
 | snoc h hc ih =>
  rename_i l q
  intro i a hi
  have hgt := (H.nx_gt hc).1
  rcases Nat.lt_or_ge i l.length with hl | hl
  ·rw [List.getElem?_append_left hl] at hi
   obtain ⟨⟨h1, h2, h3⟩, h4⟩ := ih hi
   refine ⟨⟨h1, h2, by omega⟩, .inl ?_⟩
   rcases h4 with h4 | ⟨h4, h5⟩
   ·have : i + 1 < l.length := by
     rcases Nat.lt_or_ge (i + 1) l.length with h | h
     ·exact h
     ·rw [List.getElem?_eq_none h] at h4; cases h4
    rw [List.getElem?_append_left this]
    exact h4
   ·rw [List.getElem?_append_right (by omega), h4, Nat.sub_self, h5]
    rfl
  ·have hil : i = l.length := by
    rcases Nat.lt_or_ge l.length i with h | h
    ·rw [List.getElem?_append_right hl, List.getElem?_eq_none (by simp; omega)] at hi; cases hi
    ·omega
   subst hil
   rw [List.getElem?_append_right (Nat.le_refl _), Nat.sub_self] at hi
   have hqa : q = a := by simpa using hi
   subst hqa
   exact ⟨⟨h.at_, hc, hgt⟩, .inr ⟨by simp, rfl⟩⟩
theorem Starts.head (h : H.Starts l x) : (l = [] /\ x = 0) \/ l[0]? = some 0 := by
 induction h with
 | nil => exact .inl ⟨rfl, rfl⟩
 | snoc h hc ih =>
  right
  rcases ih with ⟨rfl, rfl⟩ | ih
  ·rfl
  ·rename_i l q
   have : 0 < l.length := by
    rcases Nat.lt_or_ge 0 l.length with h | h
    ·exact h
    ·rw [List.getElem?_eq_none h] at ih; cases ih
   rw [List.getElem?_append_left this]
   exact ih
theorem Starts.find (h : H.Starts l x) : ∀ {q : Nat}, H.At q -> q < x -> ∃ i : Nat, l[i]? = some q := by
 induction h with
 | nil => intro q _ h; omega
 | snoc h hc ih =>
  rename_i l q0
  intro q hq hl
  rcases Nat.lt_trichotomy q q0 with h1 | h1 | h1
  ·obtain ⟨i, hi⟩ := ih hq h1
   refine ⟨i, ?_⟩
   have : i < l.length := by
    rcases Nat.lt_or_ge i l.length with h | h
    ·exact h
    ·rw [List.getElem?_eq_none h] at hi; cases hi
   rw [List.getElem?_append_left this]
   exact hi
  ·subst h1
   exact ⟨l.length, by rw [List.getElem?_append_right (Nat.le_refl _), Nat.sub_self]; rfl⟩
  ·have := (At.next h.at_ hq h1).2
   omega

def Front (H : AuH) (l : List Nat) (n p : Nat) : Prop := ∃ f, (l[n]? = some f \/ (n = l.length /\ f = H.p)) /\ p <= f /\ ∀ q, H.At q -> p <= q -> f <= q
theorem Front.zero (h : H.Starts l H.p) : H.Front l 0 0 := by
 rcases h.head with ⟨rfl, h1⟩ | h1
 ·exact ⟨H.p, .inr ⟨rfl, rfl⟩, Nat.zero_le _, fun q _ _ => by omega⟩
 ·exact ⟨0, .inl h1, Nat.le_refl _, fun q _ _ => Nat.zero_le _⟩
theorem Front.yes {n p : Nat} (h : H.Starts l H.p) (hf : H.Front l n p) (hn : l[n]? = some p) : H.At p /\ H.Front l (n + 1) (p + 1) := by
 obtain ⟨⟨h1, h2, h3⟩, h4⟩ := h.next hn
 have hg := (H.nx_gt h2).1
 refine ⟨h1, H.nx p, ?_, hg, fun q hq hp => (At.next h1 hq (by omega)).2⟩
 rcases h4 with h4 | ⟨h4, h5⟩
 ·exact .inl h4
 ·exact .inr ⟨h4, h5⟩
theorem Front.no {n p : Nat} (h : H.Starts l H.p) (hf : H.Front l n p) (hp : p < H.p) (hn : l[n]? ≠ some p) : ¬ H.At p /\ H.Front l n (p + 1) := by
 obtain ⟨f, h1, h2, h3⟩ := hf
 have hne : f ≠ p := by
  rintro rfl
  rcases h1 with h1 | ⟨_, h1⟩
  ·exact hn h1
  ·omega
 exact ⟨fun ha => by have := h3 p ha (Nat.le_refl _); omega, f, h1, by omega, fun q hq hl => h3 q hq (by omega)⟩

theorem tiled_iff (ha : H.At H.p) : H.Tiled ↔ ∀ q, q < H.p -> ¬ H.At q -> H.cel q 0 = 0 := by
 constructor
 ·rintro ⟨_, hb⟩ q hq hn
  obtain ⟨a, h1, h2, h3, h4⟩ := ha.cover q hq
  exact hb a h1 h2 (by omega) q (by rcases Nat.eq_or_lt_of_le h3 with h | h; (subst h; exact absurd h1 hn); exact h) h4
 ·intro h
  refine ⟨ha, fun a h1 h2 h3 q h4 h5 => h q (by have := (H.nx_gt h2).2; omega) (fun hq => ?_)⟩
  have := (At.next h1 hq h4).2
  omega
theorem tiled_not {q : Nat} (h : H.Tiled) (hq : q < H.p) (hn : ¬ H.At q) : H.cel q 0 = 0 := (tiled_iff h.1).1 h q hq hn

def FootAt (H : AuH) (a q : Nat) : Prop := H.cel q 1 = if q + 1 = H.nx a then a + 1 else 0
theorem r3_iff (ht : H.Tiled) : H.R3 ↔ ∀ q, q < H.p -> ∀ a, H.At a -> a <= q -> q < H.nx a -> H.FootAt a q := by
 constructor
 ·intro h q hq a ha h1 h2
  have hc := ht.at_can ha (show a < H.p by omega)
  have hk := ht.at_K ha (show a < H.p by omega)
  obtain ⟨h3, h4⟩ := h a (by omega) hk
  unfold FootAt
  have hnx : H.nx a = a + H.ln a := rfl
  by_cases he : q + 1 = H.nx a
  ·rw [if_pos he, show q = a + H.ln a - 1 by omega]
   exact h4
  ·rw [if_neg he]
   exact h3 q h1 (by omega)
 ·intro h q hq hk
  obtain ⟨ha, hc⟩ := ht.start hq hk
  have hg := H.nx_gt hc
  have hl := H.ln_pos q hk
  have hnx : H.nx q = q + H.ln q := rfl
  refine ⟨fun r h1 h2 => ?_, ?_⟩
  ·have := h r (by omega) q ha h1 (by omega)
   unfold FootAt at this
   rw [if_neg (by omega)] at this
   exact this
  ·have := h (q + H.ln q - 1) (by omega) q ha (by omega) (by omega)
   unfold FootAt at this
   rw [if_pos (by omega)] at this
   exact this

def ApartTo (H : AuH) (l : List Nat) (n : Nat) : Prop := ∀ (i a b : Nat), i + 1 < n -> l[i]? = some a -> l[i + 1]? = some b -> ¬ (H.K b = 1 /\ H.K a = 1)
theorem apart_all (h : H.Starts l H.p) {n : Nat} (hn : l.length <= n) (ha : H.ApartTo l n) : H.R4 := by
 intro q hq hp hk hx h2
 obtain ⟨i, hi⟩ := h.find hq hp
 rcases (h.next hi).2 with h4 | ⟨h4, h5⟩
 ·have : i + 1 < l.length := by
   rcases Nat.lt_or_ge (i + 1) l.length with h | h
   ·exact h
   ·rw [List.getElem?_eq_none h] at h4; cases h4
  exact ha i q _ (by omega) hi h4 ⟨h2, hk⟩
 ·omega
theorem apart_not (h : H.Starts l H.p) {i a b : Nat} (h1 : l[i]? = some a) (h2 : l[i + 1]? = some b) (hb : H.K b = 1) (ha : H.K a = 1) : ¬ H.R4 := by
 intro hr
 obtain ⟨⟨g1, g2, g3⟩, g4⟩ := h.next h1
 rcases g4 with g4 | ⟨g4, g5⟩
 ·rw [g4] at h2
  have e : H.nx a = b := by simpa using h2
  subst e
  exact hr a g1 g3 ha (h.next g4).1.2.2 hb
 ·rw [List.getElem?_eq_none (by omega)] at h2; cases h2
theorem ApartTo.step {n a b : Nat} (h : H.ApartTo l (n + 1)) (h1 : l[n]? = some a) (h2 : l[n + 1]? = some b) (hn : ¬ (H.K b = 1 /\ H.K a = 1)) : H.ApartTo l (n + 1 + 1) := by
 intro i a' b' hi g1 g2
 rcases Nat.lt_or_ge (i + 1) (n + 1) with h3 | h3
 ·exact h i a' b' h3 g1 g2
 ·have : i = n := by omega
  subst this
  rw [h1] at g1
  rw [h2] at g2
  simp only [Option.some.injEq] at g1 g2
  subst g1
  subst g2
  exact hn

def SlotBad (H : AuH) (q b : Nat) : Prop := ((H.cel q 4).testBit b = true /\ (H.cel q 5).testBit b = false) \/ ((H.cel q 5).testBit b = true /\ (H.K q ≠ 3 \/ slotI (H.Cl q) <= b))
theorem slot5_iff (q : Nat) (h4 : H.cel q 4 < 2 ^ 32) (h5 : H.cel q 5 < 2 ^ 32) : H.Slot5 q ↔ (∀ b, b < 32 -> ¬ H.SlotBad q b) /\ ¬ (H.K q = 3 /\ H.cel q 5 = 0) := by
 have hs := slotI_le (H.Cl q)
 constructor
 ·rintro ⟨hy, hn⟩
  by_cases hk : H.K q = 3
  ·obtain ⟨h1, h2, h3⟩ := hy hk
   refine ⟨fun b hb hbad => ?_, fun h => h1 h.2⟩
   rcases hbad with ⟨g1, g2⟩ | ⟨g1, g2⟩
   ·rw [h3 b hb g1] at g2; cases g2
   ·rcases g2 with g2 | g2
    ·exact g2 hk
    ·rw [Nat.testBit_lt_two_pow (Nat.lt_of_lt_of_le h2 (Nat.pow_le_pow_right (by omega) g2))] at g1; cases g1
  ·obtain ⟨h1, h2⟩ := hn hk
   refine ⟨fun b hb hbad => ?_, fun h => hk h.1⟩
   rcases hbad with ⟨g1, _⟩ | ⟨g1, _⟩
   ·rw [h2] at g1; simp at g1
   ·rw [h1] at g1; simp at g1
 ·rintro ⟨hb, hz⟩
  have hsub : SubB (H.cel q 4) (H.cel q 5) := fun i hi h => by
   cases hc : (H.cel q 5).testBit i
   ·exact absurd (show H.SlotBad q i from .inl ⟨h, hc⟩) (hb i hi)
   ·rfl
  refine ⟨fun hk => ⟨fun h => hz ⟨hk, h⟩, (sub_mask _ _ h5 hs).1 (fun i hi h => ?_), hsub⟩, fun hk => ?_⟩
  ·have : i < slotI (H.Cl q) := by
    rcases Nat.lt_or_ge i (slotI (H.Cl q)) with g | g
    ·exact g
    ·exact absurd (show H.SlotBad q i from .inr ⟨h, .inr g⟩) (hb i hi)
   rw [Nat.testBit_two_pow_sub_one]
   simpa using this
  ·have h0 : H.cel q 5 = 0 := (sub_zero _ h5).1 (fun i hi h => absurd (show H.SlotBad q i from .inr ⟨h, .inl hk⟩) (hb i hi))
   refine ⟨h0, (sub_zero _ h4).1 (fun i hi h => ?_)⟩
   have := hsub i hi h
   rw [h0] at this
   simp at this

inductive Path (H : AuH) (head : Nat) : List Nat -> Nat -> Nat -> Prop where
 | nil : Path H head [] (H.V head) 0
 | snoc {l : List Nat} {q a : Nat} : Path H head l q a -> 1 <= q -> q <= H.p -> H.cel (q - 1) 3 = a -> Path H head (l ++ [q - 1]) (H.cel (q - 1) 2) q
def cntIn (l : List Nat) (q : Nat) : Nat := (l.filter fun y => decide (y = q)).length
theorem cntIn_snoc (l : List Nat) (y q : Nat) : cntIn (l ++ [y]) q = cntIn l q + if y = q then 1 else 0 := by
 unfold cntIn
 rw [List.filter_append, List.length_append]
 congr 1
 by_cases h : y = q <;> simp [h]
theorem cntIn_pos {l : List Nat} {q : Nat} (h : q ∈ l) : 1 <= cntIn l q := by
 unfold cntIn
 exact List.length_pos_of_mem (List.mem_filter.2 ⟨h, by simp⟩)
theorem cntIn_zero {l : List Nat} {q : Nat} (h : ¬ q ∈ l) : cntIn l q = 0 := by
 unfold cntIn
 rw [List.length_eq_zero_iff, List.filter_eq_nil_iff]
 intro y hy
 simp
 rintro rfl
 exact h hy
variable {head q a : Nat}
theorem Path.lt (h : H.Path head l q a) : ∀ y ∈ l, y < H.p := by
 induction h with
 | nil => simp
 | snoc h h1 h2 h3 ih =>
  rename_i l q a
  intro y hy
  rcases List.mem_append.1 hy with hy | hy
  ·exact ih y hy
  ·have : y = q - 1 := by simpa using hy
   omega
theorem Path.once (h : H.Path head l q a) : (∀ y ∈ l, H.cel y 3 ≠ a) /\ (∀ y ∈ l, H.cel y 3 = 0 \/ ∃ z ∈ l, H.cel y 3 = z + 1) /\ (a = 0 \/ ∃ z ∈ l, a = z + 1) /\ ∀ y, cntIn l y <= 1 := by
 induction h with
 | nil => exact ⟨by simp, by simp, .inl rfl, fun y => by simp [cntIn]⟩
 | snoc h h1 h2 h3 ih =>
  rename_i l q a
  obtain ⟨i1, i2, i3, i4⟩ := ih
  have hnot : ¬ (q - 1) ∈ l := fun hm => i1 _ hm h3
  have hmem : ∀ y ∈ l ++ [q - 1], H.cel y 3 = 0 \/ ∃ z ∈ l, H.cel y 3 = z + 1 := by
   intro y hy
   rcases List.mem_append.1 hy with hy | hy
   ·exact i2 y hy
   ·have : y = q - 1 := by simpa using hy
    subst this
    rw [h3]
    exact i3
  refine ⟨fun y hy he => ?_, fun y hy => ?_, .inr ⟨q - 1, by simp, by omega⟩, fun y => ?_⟩
  ·rcases hmem y hy with h | ⟨z, hz, h⟩
   ·omega
   ·have : z = q - 1 := by omega
    subst this
    exact hnot hz
  ·rcases hmem y hy with h | ⟨z, hz, h⟩
   ·exact .inl h
   ·exact .inr ⟨z, List.mem_append_left _ hz, h⟩
  ·rw [cntIn_snoc]
   by_cases he : q - 1 = y
   ·subst he
    rw [if_pos rfl, cntIn_zero hnot]
    omega
   ·rw [if_neg he]
    exact i4 y
theorem chain_path {m : Nat} (hc : H.chain head m (H.V head) 0) (h : H.Path head l q a) : l.length <= m /\ H.chain head (m - l.length) q a /\ ∀ y ∈ l, H.tgt y = head := by
 induction h with
 | nil => exact ⟨by simp, hc, by simp⟩
 | snoc h h1 h2 h3 ih =>
  rename_i l q a
  obtain ⟨i1, i2, i3⟩ := ih
  rcases hr : m - l.length with _ | r
  ·rw [hr] at i2
   have : q = 0 := i2
   omega
  ·rw [hr] at i2
   obtain ⟨⟨_, _, g3, _⟩, g5⟩ := i2
   have e : m - (l ++ [q - 1]).length = r := by rw [List.length_append]; simp; omega
   refine ⟨by rw [List.length_append]; simp; omega, by rw [e]; exact g5, fun y hy => ?_⟩
   rcases List.mem_append.1 hy with hy | hy
   ·exact i3 y hy
   ·have : y = q - 1 := by simpa using hy
    rw [this]
    exact g3
theorem path_chain (h : H.Path head l q a) : ∀ {m : Nat}, (∀ y ∈ l, H.tgt y = head) -> H.chain head m q a -> H.chain head (l.length + m) (H.V head) 0 := by
 induction h with
 | nil => intro m _ hc; simpa using hc
 | snoc h h1 h2 h3 ih =>
  rename_i l q a
  intro m hy hc
  have := ih (m := m + 1) (fun y hm => hy y (List.mem_append_left _ hm)) ⟨⟨h1, h2, hy _ (by simp), h3⟩, hc⟩
  rw [List.length_append]
  rw [show l.length + [q - 1].length + m = l.length + (m + 1) by simp; omega]
  exact this
theorem sumTo_add (f g : Nat -> Nat) : ∀ n, sumTo (fun q => f q + g q) n = sumTo f n + sumTo g n
 | 0 => rfl
 | n + 1 => by
  show sumTo (fun q => f q + g q) n + (f n + g n) = (sumTo f n + f n) + (sumTo g n + g n)
  rw [sumTo_add f g n]
  omega
theorem sumTo_zero : ∀ n, sumTo (fun _ => 0) n = 0
 | 0 => rfl
 | n + 1 => by show sumTo (fun _ => 0) n + 0 = 0; rw [sumTo_zero n]
theorem sumTo_one (y : Nat) : ∀ n, sumTo (fun q => if y = q then 1 else 0) n = if y < n then 1 else 0
 | 0 => by simp [sumTo]
 | n + 1 => by
  show sumTo _ n + (if y = n then 1 else 0) = _
  rw [sumTo_one y n]
  by_cases h1 : y < n
  ·rw [if_pos h1, if_neg (by omega), if_pos (by omega)]
  ·rw [if_neg h1]
   by_cases h2 : y = n
   ·rw [if_pos h2, if_pos (by omega)]
   ·rw [if_neg h2, if_neg (by omega)]
theorem sumTo_congr {f g : Nat -> Nat} : ∀ n, (∀ q, q < n -> f q = g q) -> sumTo f n = sumTo g n
 | 0, _ => rfl
 | n + 1, h => by
  show sumTo f n + f n = sumTo g n + g n
  rw [sumTo_congr n (fun q hq => h q (by omega)), h n (by omega)]
theorem sumTo_mono {f g : Nat -> Nat} : ∀ n, (∀ q, q < n -> f q <= g q) -> sumTo f n <= sumTo g n
 | 0, _ => Nat.le_refl _
 | n + 1, h => by
  have h1 := sumTo_mono n (fun q hq => h q (by omega))
  have h2 := h n (by omega)
  show sumTo f n + f n <= sumTo g n + g n
  omega
theorem sumTo_eq {f g : Nat -> Nat} : ∀ n, (∀ q, q < n -> f q <= g q) -> sumTo f n = sumTo g n -> ∀ q, q < n -> f q = g q
 | 0, _, _, q, hq => by omega
 | n + 1, h, he, q, hq => by
  have h1 := sumTo_mono n (fun q hq => h q (by omega))
  have h2 := h n (by omega)
  have he' : sumTo f n + f n = sumTo g n + g n := he
  rcases Nat.lt_or_ge q n with h3 | h3
  ·exact sumTo_eq n (fun q hq => h q (by omega)) (by omega) q h3
  ·have : q = n := by omega
   subst this
   omega
theorem sumTo_cntIn (n : Nat) : ∀ l : List Nat, (∀ y ∈ l, y < n) -> sumTo (cntIn l) n = l.length
 | [], _ => sumTo_zero n
 | y :: l, h => by
  have e : ∀ q, q < n -> cntIn (y :: l) q = (if y = q then 1 else 0) + cntIn l q := fun q _ => by
   unfold cntIn
   rw [List.filter_cons]
   by_cases h : y = q
   ·simp [h]; omega
   ·simp [h]
  rw [sumTo_congr n e, sumTo_add, sumTo_one, if_pos (h y (by simp)), sumTo_cntIn n l (fun z hz => h z (by simp [hz]))]
  simp
  omega
theorem cnt_le (head : Int) (n : Nat) : H.cnt head n <= n := by
 have := sumTo_le (H.isF head) 1 n (fun q _ => by unfold isF; split <;> omega)
 unfold cnt
 omega
theorem listOk_iff (h : H.Path head l 0 a) : H.ListOk head ↔ ∀ q, q < H.p -> cntIn l q = H.isF head q := by
 constructor
 ·intro hk
  obtain ⟨h1, h2, h3⟩ := chain_path hk h
  have hlen : l.length = H.cnt head H.p := by
   rcases hr : H.cnt head H.p - l.length with _ | r
   ·omega
   ·rw [hr] at h2
    have := h2.1.1
    omega
  refine sumTo_eq H.p (fun q hq => ?_) (by rw [sumTo_cntIn _ _ h.lt, hlen]; rfl)
  by_cases hm : q ∈ l
  ·have := h.once.2.2.2 q
   unfold isF
   rw [if_pos (h3 q hm)]
   exact this
  ·rw [cntIn_zero hm]
   exact Nat.zero_le _
 ·intro hq
  have hm : ∀ y ∈ l, H.tgt y = head := fun y hy => by
   have h1 := cntIn_pos hy
   rw [hq y (h.lt y hy)] at h1
   unfold isF at h1
   by_cases he : H.tgt y = head
   ·exact he
   ·rw [if_neg he] at h1; omega
  have hlen : l.length = H.cnt head H.p := by
   rw [<- sumTo_cntIn _ _ h.lt]
   exact sumTo_congr _ hq
  have := path_chain h (m := 0) hm rfl
  rw [Nat.add_zero, hlen] at this
  exact this
theorem listOk_goes (hk : H.ListOk head) (h : H.Path head l q a) (hq : q ≠ 0) : 1 <= q /\ q <= H.p /\ H.cel (q - 1) 3 = a /\ l.length < H.p := by
 obtain ⟨h1, h2, h3⟩ := chain_path hk h
 have hc := cnt_le (H := H) head H.p
 rcases hr : H.cnt head H.p - l.length with _ | r
 ·rw [hr] at h2
  exact absurd h2 hq
 ·rw [hr] at h2
  obtain ⟨⟨g1, g2, _, g4⟩, _⟩ := h2
  exact ⟨g1, g2, g4, by omega⟩

theorem ones_full {v n : Nat} (hv : v < 2 ^ n) (hn : n <= 32) : HM.onesTo v 32 = n ↔ v = 2 ^ n - 1 := by
 have h32 : ∀ k, HM.onesTo v (n + k) = HM.onesTo v n := by
  intro k
  induction k with
  | zero => rfl
  | succ k ih =>
   rw [<- Nat.add_assoc, HM.onesTo_succ, ih, Nat.testBit_lt_two_pow (Nat.lt_of_lt_of_le hv (Nat.pow_le_pow_right (by omega) (by omega)))]
   simp
 have e : HM.onesTo v 32 = HM.onesTo v n := by
  have := h32 (32 - n)
  rwa [show n + (32 - n) = 32 by omega] at this
 rw [e]
 have hf := HM.ones_free v n
 constructor
 ·intro h
  have h0 : HM.freeTo v n = [] := List.length_eq_zero_iff.1 (by omega)
  apply Nat.eq_of_testBit_eq
  intro i
  rw [Nat.testBit_two_pow_sub_one]
  by_cases hi : i < n
  ·unfold HM.freeTo at h0
   rw [List.filter_eq_nil_iff] at h0
   have := h0 i (List.mem_range.2 hi)
   simp at this
   rw [this, decide_eq_true hi]
  ·rw [Nat.testBit_lt_two_pow (Nat.lt_of_lt_of_le hv (Nat.pow_le_pow_right (by omega) (by omega))), decide_eq_false hi]
 ·intro h
  have h0 : HM.freeTo v n = [] := by
   unfold HM.freeTo
   rw [List.filter_eq_nil_iff]
   intro i hi
   rw [h, Nat.testBit_two_pow_sub_one]
   simpa using List.mem_range.1 hi
  rw [h0] at hf
  simpa using hf
end AuH
end
end Go.Proofs.YtjjfcaliippgpaaGreatDoor

namespace Go.Proofs.YtjjfcaliippgpaaGreatDoor
open Go.ChangeShapes Go.WideShapes Go.ChangeAt Go.RowKit Go.Maps
set_option linter.unusedVariables false
set_option linter.unusedSimpArgs false
section
def Seg (P : Nat) (nx pv : Nat -> Int) (g : Int -> Nat) : Nat -> Nat -> List Nat -> Nat -> Nat -> Prop
 | a, x, [], a', x' => a = a' /\ x = x'
 | a, x, p :: r, a', x' => (x = p + 1 /\ p < P /\ g (pv p) = a) /\ Seg P nx pv g (p + 1) (g (nx p)) r a' x'

section
variable {P : Nat} {nx pv : Nat -> Int} {hd : Int} {g g' : Int -> Nat} {l l1 l2 : List Nat} {a x a' x' p : Nat}
theorem Seg.append : ∀ {l1 l2 : List Nat} {a x a' x' : Nat}, Seg P nx pv g a x (l1 ++ l2) a' x' ↔ ∃ b y, Seg P nx pv g a x l1 b y /\ Seg P nx pv g b y l2 a' x'
 | [], l2, a, x, a', x' => by
  constructor
  ·intro h; exact ⟨a, x, ⟨rfl, rfl⟩, h⟩
  ·rintro ⟨b, y, ⟨rfl, rfl⟩, h⟩; exact h
 | p :: r, l2, a, x, a', x' => by
  constructor
  ·rintro ⟨h1, h2⟩
   obtain ⟨b, y, h3, h4⟩ := Seg.append.1 h2
   exact ⟨b, y, ⟨h1, h3⟩, h4⟩
  ·rintro ⟨b, y, ⟨h1, h3⟩, h4⟩
   exact ⟨h1, Seg.append.2 ⟨b, y, h3, h4⟩⟩
structure IsL (P : Nat) (nx pv : Nat -> Int) (hd : Int) (g : Int -> Nat) (l : List Nat) : Prop where
 seg : ∃ a, Seg P nx pv g 0 (g hd) l a 0
 nodup : l.Nodup

end
end
section
section
variable {n : Nat} {K : Nat -> Option Nat} {s : Vst} {c : Int} {v : Nat}
end

def nxH (t p : Nat) : Int := ((30 + 4 * t + 6 * p + 2 : Nat) : Int)
def pvH (t p : Nat) : Int := ((30 + 4 * t + 6 * p + 3 : Nat) : Int)
section
variable {t P s n hd : Nat} {K : Nat -> Option Nat} {st : Vst} {l l1 l2 : List Nat} {p : Nat}
end

namespace AuH
variable {H : AuH}
theorem chain_full {head : Nat} : ∀ (r : Nat) (l : List Nat) (q a : Nat), H.Path head l q a -> H.chain head r q a -> ∃ l' a', H.Path head l' 0 a'
 | 0, l, q, a, hp, hc => by
  have : q = 0 := hc
  subst this
  exact ⟨l, a, hp⟩
 | r + 1, l, q, a, hp, hc => by
  obtain ⟨⟨h1, h2, h3, h4⟩, h5⟩ := hc
  exact chain_full r _ _ _ (.snoc hp h1 h2 h4) h5
theorem listOk_path {head : Nat} (h : H.ListOk head) : ∃ l a, H.Path head l 0 a := chain_full _ _ _ _ .nil h
end AuH
section
variable {H : AuH} {n c hd : Nat} {K : Nat -> Option Nat} {l : List Nat}
theorem path_seg (hK : ∀ i, i < n -> K i = some (H.V i)) (hn : n = 30 + 4 * H.t + 6 * H.p) {g : Int -> Nat} (hg : ∀ i : Nat, i < n -> g i = H.V i) (hh : hd < 30) {q a : Nat} (h : H.Path hd l q a) : Seg H.p (nxH H.t) (pvH H.t) g 0 (g hd) l a q := by
 induction h with
 | nil => exact ⟨rfl, hg hd (by omega)⟩
 | snoc h h1 h2 h3 ih =>
  rename_i l q a
  refine Seg.append.2 ⟨a, q, ih, ⟨by omega, by omega, ?_⟩, by omega, ?_⟩
  ·unfold pvH
   rw [hg _ (by omega), <- h3]
   rfl
  ·unfold nxH
   rw [hg _ (by omega)]
   rfl
theorem cntIn_nodup : ∀ {l : List Nat}, (∀ y, AuH.cntIn l y <= 1) -> l.Nodup
 | [], _ => List.nodup_nil
 | a :: r, h => by
  have e : ∀ y, AuH.cntIn (a :: r) y = (if a = y then 1 else 0) + AuH.cntIn r y := fun y => by
   unfold AuH.cntIn
   rw [List.filter_cons]
   by_cases h : a = y
   ·simp [h]; omega
   ·simp [h]
  refine List.nodup_cons.2 ⟨fun hm => ?_, cntIn_nodup (fun y => by have := h y; rw [e] at this; omega)⟩
  have h1 := h a
  rw [e, if_pos rfl] at h1
  have := AuH.cntIn_pos hm
  omega
end
end
end Go.Proofs.YtjjfcaliippgpaaGreatDoor

namespace Go.Proofs.YtjjfcaliippgpaaGreatDoor
open Go.ChangeShapes Go.WideShapes Go.ChangeAt Go.RowKit Go.Shelf
set_option linter.unusedVariables false
set_option linter.unusedSimpArgs false
section
def ptVs (l : List (Int × Int × Int)) : List Value := l.flatMap fun x => [.int .i64 x.1, .int .i64 x.2.1, .int .i64 x.2.2]
theorem ptVs_len (l : List (Int × Int × Int)) : (ptVs l).length = l.length * 3 := by unfold ptVs; induction l with
 | nil => rfl
 | cons x l ih => rw [List.flatMap_cons, List.length_append, ih]; simp; omega
theorem ptVs_app (l m : List (Int × Int × Int)) : ptVs (l ++ m) = ptVs l ++ ptVs m := by unfold ptVs; rw [List.flatMap_append]
theorem ptVs_one (x : Int × Int × Int) : ptVs [x] = [.int .i64 x.1, .int .i64 x.2.1, .int .i64 x.2.2] := by simp [ptVs]
theorem partInfo : (Tryz.prog.info? 128).map (fun i => (i.zero, i.size, i.bytes)) = some (some (.agg #[.int .i64 0, .int .i64 0, .int .i64 0]), 3, 24) := by kernel_rfl

namespace AuH
variable (H : AuH)
def pg : Nat := 2 ^ H.s
def first (q : Nat) : Int := ((q : Int) + 1) * (H.pg : Int)
def zs (q : Nat) : Nat := sizeN (H.s : Int) (H.Cl q)
def sl (q : Nat) : Nat := slotI (H.Cl q)
def slotPart (q i : Nat) : Int × Int × Int := ((slotKd (H.cel q 5) (H.cel q 4) i : Nat), H.first q + (i : Int) * (H.zs q : Int), (H.zs q : Int))
def slotsTo (q k : Nat) : List (Int × Int × Int) := (List.range k).map (H.slotPart q)
def slack (q : Nat) : List (Int × Int × Int) := if H.sl q * H.zs q < H.pg then [(5, H.first q + ((H.sl q * H.zs q : Nat) : Int), (H.pg : Int) - ((H.sl q * H.zs q : Nat) : Int))] else []
def partsAt (q : Nat) : List (Int × Int × Int) :=
 if H.K q = 1 then [(1, H.first q, (H.ln q : Int) * (H.pg : Int))] else if H.K q = 2 then [(2, H.first q, (H.ln q : Int) * (H.pg : Int))]
 else if H.K q = 3 then H.slotsTo q (H.sl q) ++ H.slack q else []
def parts : List (Int × Int × Int) := catTo H.partsAt H.p
variable {H}
theorem slotsTo_succ (q k : Nat) : H.slotsTo q (k + 1) = H.slotsTo q k ++ [H.slotPart q k] := by unfold slotsTo; rw [List.range_succ, List.map_append]; rfl
theorem slotsTo_len (q k : Nat) : (H.slotsTo q k).length = k := by unfold slotsTo; simp
theorem partsAt_no {q : Nat} (h : H.K q = 0) : H.partsAt q = [] := by unfold partsAt; rw [if_neg (by omega), if_neg (by omega), if_neg (by omega)]
theorem partsAt_len (q : Nat) : (H.partsAt q).length <= 33 := by
 unfold partsAt
 split
 ·simp
 ·split
  ·simp
  ·split
   ·rw [List.length_append, slotsTo_len]
    have := slotI_le (H.Cl q)
    unfold slack sl
    split <;> simp <;> omega
   ·simp
theorem parts_len : ∀ x, (catTo H.partsAt x).length <= x * 33
 | 0 => by simp [catTo]
 | x + 1 => by
  have h1 := parts_len x
  have h2 := partsAt_len (H := H) x
  show (catTo H.partsAt x ++ H.partsAt x).length <= _
  rw [List.length_append]
  omega
end AuH
theorem pg_le {H : AuH} {n c : Nat} (HV : HeapV H n c) : 1024 <= H.pg /\ H.pg <= 1048576 /\ H.pg = pageS H.s /\ pageN H.t H.p H.s = H.pg := by
 obtain ⟨g, q, h1, h2, h3, h4, h5, h6, h7, h8, h9, h10, h11⟩ := right_nums HV.right
 have e : H.pg = g := by unfold AuH.pg; rw [h8, Int.toNat_natCast]
 rw [e]
 exact ⟨h6, h7, by rw [pageS_yes ⟨h9, h10⟩]; exact h8, h1⟩
theorem first_eq {H : AuH} {n c : Nat} (HV : HeapV H n c) {q : Nat} (hq : q < H.p) : addrI H.t H.p H.s q 0 = H.first q /\ addrB H.t H.p H.s q 0 = true /\ 1024 <= H.first q /\ H.first q <= 1075838976 := by
 have hg := pg_le HV
 have hB : addrB H.t H.p H.s q 0 = true := by unfold addrB; rw [HV.right, hg.2.2.2, Bool.true_and, decide_eq_true_iff]; omega
 have hA : addrI H.t H.p H.s q 0 = ((q : Int) + 1) * (H.pg : Int) + 0 := by unfold addrI; rw [if_pos hB, hg.2.2.2]
 have hY := addr_yes hB
 rw [hA, Int.add_zero] at hY
 exact ⟨by rw [hA, Int.add_zero]; rfl, hB, hY.2.2.2.2.1, hY.2.2.2.2.2⟩

theorem held_grown {w w' : World} {row : Option Nat} {g : Nat} {t : TypeId} {cs : Array Value} (h : Held w g t cs) (hg : w.grownBy w' row) (hr : row ≠ some g) : Held w' g t cs := (hg.block g h.lt (fun e => hr e.symm)).trans h
end
section
theorem own_down {w : World} {base base' : Nat} {e : TypeId} {size : Nat} {v : Value} {n : Nat} {xs : List Value} (h : w.ownsRow base e size v n xs) (hb : base' <= base) : w.ownsRow base' e size v n xs :=
 ⟨h.1, h.2.imp id fun ⟨g, cap, cur, h1, h2, h3⟩ => ⟨g, cap, cur, h1, Nat.le_trans hb h2, h3⟩⟩
section
attribute [local go_sem] Oper.semAt_some

end
end
section
def blocksOf (l : List (Int × Int × Int)) : List (Int × Int) := (l.filter fun x => decide (x.1 = 2)).map fun x => x.2
def bkVs (l : List (Int × Int)) : List Value := l.flatMap fun x => [.int .i64 x.1, .int .i64 x.2]
theorem bkVs_snoc (l : List (Int × Int)) (x : Int × Int) : bkVs (l ++ [x]) = bkVs l ++ [.int .i64 x.1, .int .i64 x.2] := by unfold bkVs; rw [List.flatMap_append]; simp
theorem blocksOf_app (l m : List (Int × Int × Int)) : blocksOf (l ++ m) = blocksOf l ++ blocksOf m := by unfold blocksOf; rw [List.filter_append, List.map_append]
theorem blocksOf_yes {x : Int × Int × Int} (h : x.1 = 2) : blocksOf [x] = [x.2] := by simp [blocksOf, h]
theorem blocksOf_no {x : Int × Int × Int} (h : x.1 ≠ 2) : blocksOf [x] = [] := by simp [blocksOf, h]
theorem blocksOf_len (l : List (Int × Int × Int)) : (blocksOf l).length <= l.length := by unfold blocksOf; rw [List.length_map]; exact List.length_filter_le _ _
theorem blockInfo : (Tryz.prog.info? 64).map (fun i => (i.zero, i.size, i.bytes)) = some (some (.agg #[.int .i64 0, .int .i64 0]), 2, 16) := by kernel_rfl
theorem ptVs_get : ∀ (l : List (Int × Int × Int)) (i : Nat) (x : Int × Int × Int), l[i]? = some x -> (ptVs l)[i * 3]? = some (.int .i64 x.1) /\ (ptVs l)[i * 3 + 1]? = some (.int .i64 x.2.1) /\ (ptVs l)[i * 3 + 2]? = some (.int .i64 x.2.2)
 | [], i, x, h => by simp at h
 | y :: l, 0, x, h => by
  simp at h
  subst h
  simp [ptVs]
 | y :: l, i + 1, x, h => by
  have h' : l[i]? = some x := by simpa using h
  obtain ⟨h1, h2, h3⟩ := ptVs_get l i x h'
  have e : ptVs (y :: l) = [.int .i64 y.1, .int .i64 y.2.1, .int .i64 y.2.2] ++ ptVs l := by simp [ptVs]
  have g : ∀ k, (ptVs (y :: l))[(i * 3 + k) + 3]? = (ptVs l)[i * 3 + k]? := fun k => by
   rw [e, List.getElem?_append_right (by simp)]
   simp
  exact ⟨by have := g 0; rw [Nat.add_zero] at this; rw [show (i + 1) * 3 = i * 3 + 3 by omega, this]; exact h1, by rw [show (i + 1) * 3 + 1 = (i * 3 + 1) + 3 by omega, g]; exact h2, by rw [show (i + 1) * 3 + 2 = (i * 3 + 2) + 3 by omega, g]; exact h3⟩
theorem own_caps3 {w : World} {base : Nat} {e : TypeId} {size n c : Nat} {A : Option Addr} {xs : List Value} (h : w.ownsRow base e size (.slice A n c) n xs) : n <= c /\ c <= maxLen := by
 rcases h.2 with ⟨h1, h2⟩ | ⟨g, cap, cur, h1, hb, hg, hnc, hcm, hr⟩
 ·injection h1 with _ h1 h3; omega
 ·injection h1 with _ _ h3; omega
theorem own_part {w : World} {base n g cap : Nat} {e : TypeId} {l : List (Int × Int × Int)} (h : w.ownsRow base e 3 (.slice (some ⟨g, 0, none⟩) n cap) n (ptVs l)) (hn : l.length = n) {i : Nat} {x : Int × Int × Int} (hx : l[i]? = some x) :
  w.cell? ⟨g, i * 3, none⟩ = some (.int .i64 x.1) /\ w.cell? ⟨g, i * 3 + 1, none⟩ = some (.int .i64 x.2.1) /\ w.cell? ⟨g, i * 3 + 2, none⟩ = some (.int .i64 x.2.2) := by
 have hi : i < n := by
  rcases Nat.lt_or_ge i n with h1 | h1
  ·exact h1
  ·rw [List.getElem?_eq_none (by omega)] at hx; cases hx
 obtain ⟨h1, h2, h3⟩ := ptVs_get l i x hx
 exact ⟨(h.cellAt _ (by omega)).trans h1, (h.cellAt _ (by omega)).trans h2, (h.cellAt _ (by omega)).trans h3⟩
end
end Go.Proofs.YtjjfcaliippgpaaGreatDoor

namespace Go.Proofs.YtjjfcaliippgpaaGreatDoor
open Go.ChangeShapes Go.WideShapes Go.ChangeAt Go.RowKit Go.Maps
set_option linter.unusedVariables false
set_option linter.unusedSimpArgs false
section
namespace AuH
variable {H : AuH} {V : Nat -> Nat}
namespace Twin
end Twin
end AuH

section
variable {H : AuH} {hd : Nat} {g : Int -> Nat} {l : List Nat}
theorem path_len {a : Nat} (hp : H.Path hd l 0 a) (hk : H.ListOk hd) : l.length = H.cnt hd H.p /\ ∀ y ∈ l, H.tgt y = hd := by
 obtain ⟨h1, h2, h3⟩ := AuH.chain_path hk hp
 refine ⟨?_, h3⟩
 rcases hr : H.cnt hd H.p - l.length with _ | r
 ·omega
 ·rw [hr] at h2
  have := h2.1.1
  omega
end
end
section
section
variable {H : AuH} {n c hd : Nat} {g0 g' : Int -> Nat} {l l' : List Nat}
theorem path_mem {a q : Nat} (hp : H.Path hd l 0 a) (hk : H.ListOk hd) (hq : q < H.p) (ht : H.tgt q = hd) : q ∈ l := by
 have h1 := (AuH.listOk_iff hp).1 hk q hq
 unfold AuH.isF at h1
 rw [if_pos ht] at h1
 rcases Nat.eq_zero_or_pos (AuH.cntIn l q) with h2 | h2
 ·omega
 ·unfold AuH.cntIn at h2
  obtain ⟨x, hx⟩ := List.exists_mem_of_length_pos h2
  rw [List.mem_filter] at hx
  have : x = q := by simpa using hx.2
  subst this
  exact hx.1
end

section
variable {P hd t : Nat} {g : Int -> Nat} {l l1 l2 : List Nat} {p a' : Nat}
end
end
section
namespace AuH
structure Spans (H : AuH) : Prop where
 pos : 0 < H.p
 zero : H.K 0 ≠ 0
 fit : ∀ q, q < H.p -> H.K q ≠ 0 -> H.nx q <= H.p
 next : ∀ q, q < H.p -> H.K q ≠ 0 -> H.nx q < H.p -> H.K (H.nx q) ≠ 0
 inside : ∀ q r, q < H.p -> H.K q ≠ 0 -> q < r -> r < H.nx q -> H.cel r 0 = 0
 none : ∀ q, q < H.p -> H.K q = 0 -> H.cel q 0 = 0
variable {H : AuH}
theorem Tiled.spans (h : H.Tiled) (hp : 0 < H.p) : H.Spans where
 pos := hp
 zero := h.at_K .zero hp
 fit q hq hk := ((H.can_iff q).1 (h.start hq hk).2).2.2
 next q hq hk hn := by
  have hs := h.start hq hk
  exact h.at_K (.step hs.1 hs.2) hn
 inside q r hq hk h1 h2 := by
  have hs := h.start hq hk
  exact h.2 q hs.1 hs.2 hq r h1 h2
 none q hq hk := by
  obtain ⟨a, a1, a2, a3, a4, a5⟩ := h.cover hq
  rcases Nat.eq_or_lt_of_le a4 with h6 | h6
  ·subst h6; exact absurd hk a3
  ·have hs := h.start a2 a3
   exact h.2 a hs.1 hs.2 a2 q h6 a5
structure Ok (H : AuH) (L : Nat -> List Nat) : Prop where
 spans : H.Spans
 feet : H.R3
 apart : ∀ q, q < H.p -> H.K q = 1 -> H.nx q < H.p -> H.K (H.nx q) ≠ 1
 slots : H.R5
 list : ∀ hd : Nat, 2 <= hd -> hd <= 21 -> IsL H.p (nxH H.t) (pvH H.t) hd (fun c => H.V c.toNat) (L hd)
 mem : ∀ hd : Nat, 2 <= hd -> hd <= 21 -> ∀ y, y ∈ L hd ↔ y < H.p /\ H.tgt y = hd
 loose : H.R8
 counts : H.R9
 roots : H.R10
theorem okL_of (hp : 0 < H.p) (hr : ∀ i, i < 10 -> H.rule i) : ∃ L, H.Ok L := by
 have hti : H.Tiled := hr 1 (by omega)
 have hok : ∀ h, 2 <= h -> h <= 21 -> H.ListOk h := fun h a1 a2 => by
  rcases Nat.lt_or_ge h 13 with h1 | h1
  ·have h5 : ∀ k, k < 11 -> H.ListOk (2 + k) := hr 5 (by omega)
   have := h5 (h - 2) (by omega)
   rwa [show 2 + (h - 2) = h by omega] at this
  ·have h6 : ∀ k, k < 9 -> H.ListOk (13 + k) := hr 6 (by omega)
   have := h6 (h - 13) (by omega)
   rwa [show 13 + (h - 13) = h by omega] at this
 have hex : ∀ j, ∃ l : List Nat, 2 <= j -> j <= 21 -> ∃ a, H.Path j l 0 a := fun j => by
  by_cases hj : 2 <= j /\ j <= 21
  ·obtain ⟨l, a, h⟩ := AuH.listOk_path (hok j hj.1 hj.2)
   exact ⟨l, fun _ _ => ⟨a, h⟩⟩
  ·exact ⟨[], fun h1 h2 => absurd ⟨h1, h2⟩ hj⟩
 refine ⟨fun j => (hex j).choose, hti.spans hp, hr 2 (by omega), fun q hq hk hn => ?_, hr 4 (by omega), fun hd h2 h21 => ?_, fun hd h2 h21 y => ?_, hr 7 (by omega), hr 8 (by omega), hr 9 (by omega)⟩
 ·exact (show H.R4 from hr 3 (by omega)) q (hti.start hq (by omega)).1 hq hk hn
 ·obtain ⟨a, hpa⟩ := (hex hd).choose_spec h2 h21
  exact ⟨⟨a, path_seg (n := 30 + 4 * H.t + 6 * H.p) (K := fun i => some (H.V i)) (fun i _ => rfl) rfl (fun i _ => by simp) (by omega) hpa⟩, cntIn_nodup hpa.once.2.2.2⟩
 ·obtain ⟨a, hpa⟩ := (hex hd).choose_spec h2 h21
  exact ⟨fun hy => ⟨hpa.lt y hy, (path_len hpa (hok hd h2 h21)).2 y hy⟩, fun hy => path_mem hpa (hok hd h2 h21) hy.1 hy.2⟩
end AuH
end
section
def ofI (n : Int) : Int := if n < 1 \/ 1024 < n then -1 else HM.logI n
theorem ofI_nat {n : Nat} (h1 : 1 <= n) (h2 : n <= 1024) : ∃ k : Nat, ofI (n : Int) = k /\ k <= 10 /\ 2 ^ k <= n /\ n < 2 ^ (k + 1) := by
 have h : ∃ k : Nat, k <= 10 /\ 2 ^ k <= n /\ n < 2 ^ (k + 1) := by
  rcases Nat.lt_or_ge n 1024 with h3 | h3
  ·refine ⟨Nat.log2 n, ?_, Nat.log2_self_le (by omega), Nat.lt_log2_self⟩
   have := Nat.log2_lt (n := n) (k := 10) (by omega)
   have := this.2 h3
   omega
  ·exact ⟨10, by omega, by omega, by omega⟩
 obtain ⟨k, hk, ha, hb⟩ := h
 refine ⟨k, ?_, hk, ha, hb⟩
 unfold ofI
 rw [if_neg (by omega)]
 exact HM.logI_at (n : Int) k (by
  have e : ((n : Int) / 2 ^ k) = ((n / 2 ^ k : Nat) : Int) := by push_cast; rfl
  rw [e]
  have := Nat.div_le_div_right (c := 2 ^ k) ha
  rw [Nat.div_self (Nat.two_pow_pos k)] at this
  omega) (by
  have e : ((n : Int) / 2 ^ (k + 1)) = ((n / 2 ^ (k + 1) : Nat) : Int) := by push_cast; rfl
  rw [e, Nat.div_eq_of_lt hb]
  omega)

def fitB (nn : Int) (v : Nat) : Bool := decide ((infoG v).1 = 1) && decide (nn <= (infoG v).2.1)
section
variable (n : Nat) (K : Nat -> Option Nat) (t q s nn : Int)
def lookF : Nat -> Nat -> Vst -> Option Nat × Vst
  | 0, _, st => (none, st)
  | m + 1, l, st => if 1 <= l /\ (l : Int) <= q then
      (if fitB nn (getV n K st (pageI t q s ((l : Int) - 1) 0)) = true then (some (l - 1), getS n K st (pageI t q s ((l : Int) - 1) 0))
       else lookF m (getV n K (getS n K st (pageI t q s ((l : Int) - 1) 0)) (pageI t q s ((l : Int) - 1) 2)) (getS n K (getS n K st (pageI t q s ((l : Int) - 1) 0)) (pageI t q s ((l : Int) - 1) 2)))
    else (none, st)
def nextF : Nat -> Nat -> Vst -> Option Nat × Vst
 | 0, _, st => (none, st)
 | j + 1, k, st => if 1 <= getV n K st ((2 + k : Nat) : Int) /\ ((getV n K st ((2 + k : Nat) : Int) : Nat) : Int) <= q then (some (getV n K st ((2 + k : Nat) : Int) - 1), getS n K st ((2 + k : Nat) : Int))
  else nextF j (k + 1) (getS n K st ((2 + k : Nat) : Int))
def findF (k : Nat) (st : Vst) : Option Nat × Vst :=
 let r := lookF n K t q s nn q.toNat (getV n K st ((2 + k : Nat) : Int)) (getS n K st ((2 + k : Nat) : Int))
 match r.1 with
 | some p => (some p, r.2)
 | none => nextF n K q (11 - (k + 1)) (k + 1) r.2
theorem lookF_end {m l : Nat} {st : Vst} (h : ¬ (1 <= l /\ (l : Int) <= q)) : lookF n K t q s nn m l st = (none, st) := by
 cases m with
 | zero => rfl
 | succ m => rw [lookF, if_neg h]
theorem lookF_found {m l : Nat} {st : Vst} (h : 1 <= l /\ (l : Int) <= q) (hv : fitB nn (getV n K st (pageI t q s ((l : Int) - 1) 0)) = true) : lookF n K t q s nn (m + 1) l st = (some (l - 1), getS n K st (pageI t q s ((l : Int) - 1) 0)) := by
 rw [lookF, if_pos h, if_pos hv]
theorem lookF_step {m l : Nat} {st : Vst} (h : 1 <= l /\ (l : Int) <= q) (hv : fitB nn (getV n K st (pageI t q s ((l : Int) - 1) 0)) = false) :
  lookF n K t q s nn (m + 1) l st = lookF n K t q s nn m (getV n K (getS n K st (pageI t q s ((l : Int) - 1) 0)) (pageI t q s ((l : Int) - 1) 2)) (getS n K (getS n K st (pageI t q s ((l : Int) - 1) 0)) (pageI t q s ((l : Int) - 1) 2)) := by
 rw [lookF, if_pos h, if_neg (by rw [hv]; simp)]
theorem nextF_found {j k : Nat} {st : Vst} (h : 1 <= getV n K st ((2 + k : Nat) : Int) /\ ((getV n K st ((2 + k : Nat) : Int) : Nat) : Int) <= q) : nextF n K q (j + 1) k st = (some (getV n K st ((2 + k : Nat) : Int) - 1), getS n K st ((2 + k : Nat) : Int)) := by
 rw [nextF, if_pos h]
theorem nextF_step {j k : Nat} {st : Vst} (h : ¬ (1 <= getV n K st ((2 + k : Nat) : Int) /\ ((getV n K st ((2 + k : Nat) : Int) : Nat) : Int) <= q)) : nextF n K q (j + 1) k st = nextF n K q j (k + 1) (getS n K st ((2 + k : Nat) : Int)) := by
 rw [nextF, if_neg h]
end

def binH (nn : Int) : Int := nthI 2 11 1 (ofI nn)
section
variable (n : Nat) (K : Nat -> Option Nat) (t q s : Int)
def infoOf (p : Int) (st : Vst) : Int × Int × Int × Bool := infoG (getV n K st (pageI t q s p 0))
def dropV (p : Int) (st : Vst) : Int := if pgB q p then (if (infoOf n K t q s p st).1 = 1 then (infoOf n K t q s p st).2.1 else 0) else 0
def dropS (p : Int) (st : Vst) : Vst := if pgB q p then (if (infoOf n K t q s p st).1 = 1 then pullI n K t q s (binH (infoOf n K t q s p st).2.1) p (getS n K st (pageI t q s p 0)) else getS n K st (pageI t q s p 0)) else st
def addS (p nn : Int) (st : Vst) : Vst := if pgB q p = true /\ 1 <= nn /\ nn <= q - p then pushI n K t q s (binH nn) p (putS n (putS n st (pageI t q s p 0) (infoV 1 nn 0)) (pageI t q s (p + nn - 1) 1) (p.toNat + 1)) else st
end
def foundI (o : Option Nat) : Int := match o with
 | some p => (p : Int)
 | none => 0
def findI (n : Nat) (K : Nat -> Option Nat) (t q s nn : Int) (st : Vst) : Option Nat × Vst := if 1 <= nn /\ nn <= q then findF n K t q s nn (ofI nn).toNat st else (none, st)
theorem findI_no {n : Nat} {K : Nat -> Option Nat} {t q s nn : Int} {st : Vst} (h : ¬ (1 <= nn /\ nn <= q)) : findI n K t q s nn st = (none, st) := by unfold findI; rw [if_neg h]
theorem findI_yes {n : Nat} {K : Nat -> Option Nat} {t q s nn : Int} {st : Vst} {own : Nat} (ho : ofI nn = (own : Int)) (h1 : 1 <= nn) (h2 : nn <= q) : findI n K t q s nn st = findF n K t q s nn own st := by
 unfold findI
 rw [if_pos ⟨h1, h2⟩, ho, Int.toNat_natCast]
end
end Go.Proofs.YtjjfcaliippgpaaGreatDoor

namespace Go.Proofs.YtjjfcaliippgpaaGreatDoor
open Go.ChangeShapes Go.WideShapes Go.ChangeAt Go.RowKit Go.Shelf
set_option linter.unusedVariables false
set_option linter.unusedSimpArgs false
section
namespace AuH
theorem mem_catTo {α : Type} {f : Nat -> List α} {x : α} : ∀ n, x ∈ catTo f n ↔ ∃ q, q < n /\ x ∈ f q
 | 0 => by simp [catTo]
 | n + 1 => by
  show x ∈ catTo f n ++ f n ↔ _
  rw [List.mem_append, mem_catTo n]
  constructor
  ·rintro (⟨q, h1, h2⟩ | h)
   ·exact ⟨q, by omega, h2⟩
   ·exact ⟨n, by omega, h⟩
  ·rintro ⟨q, h1, h2⟩
   rcases Nat.lt_or_ge q n with h | h
   ·exact .inl ⟨q, h, h2⟩
   ·obtain rfl : q = n := by omega
    exact .inr h2
end AuH
theorem mem_blocksOf {l : List (Int × Int × Int)} {x : Int × Int} : x ∈ blocksOf l ↔ (2, x) ∈ l := by
 unfold blocksOf
 rw [List.mem_map]
 constructor
 ·rintro ⟨y, h1, rfl⟩
  rw [List.mem_filter] at h1
  obtain ⟨h1, h2⟩ := h1
  have : y.1 = 2 := by simpa using h2
  rw [<- this]
  exact h1
 ·intro h
  exact ⟨(2, x), List.mem_filter.2 ⟨h, by simp⟩, rfl⟩
namespace AuH
theorem addr_at {H : AuH} {n c : Nat} (HV : HeapV H n c) {q o : Nat} (hq : q < H.p) (ho : o < H.pg) :
  addrB H.t H.p H.s q o = true /\ addrI H.t H.p H.s q o = H.first q + (o : Int) := by
 have hg := pg_le HV
 have hB : addrB H.t H.p H.s q o = true := by unfold addrB; rw [HV.right, hg.2.2.2, Bool.true_and, decide_eq_true_iff]; omega
 refine ⟨hB, ?_⟩
 unfold addrI
 rw [if_pos hB, hg.2.2.2]
 rfl
theorem spot_at {H : AuH} {n c : Nat} (HV : HeapV H n c) {q o : Nat} (hq : q < H.p) (ho : o < H.pg) :
  spotB H.t H.p H.s (H.first q + (o : Int)) = true /\ spotP H.t H.p H.s (H.first q + (o : Int)) = q /\ spotO H.t H.p H.s (H.first q + (o : Int)) = o := by
 obtain ⟨h1, h2⟩ := addr_at HV hq ho
 have h := addr_yes h1
 rw [h2] at h
 exact ⟨h.2.1, h.2.2.1, h.2.2.2.1⟩
theorem kd_two {a b i : Nat} (h : ((slotKd a b i : Nat) : Int) = 2) : b.testBit i = true := by
 unfold slotKd at h
 cases hb : b.testBit i
 ·rw [hb, if_neg (by simp)] at h
  split at h <;> omega
 ·rfl
theorem live_iff {H : AuH} {n c : Nat} (HV : HeapV H n c) (a : Int) : (∃ x ∈ blocksOf H.parts, x.1 = a) ↔ H.LiveAt a := by
 have hs := HV.nums
 have hg := pg_le HV
 constructor
 ·rintro ⟨⟨a', z⟩, hx, rfl⟩
  obtain ⟨q, hq, hx⟩ := (mem_catTo H.p).1 (mem_blocksOf.1 hx)
  show H.LiveAt a'
  unfold partsAt at hx
  by_cases h1 : H.K q = 1
  ·rw [if_pos h1] at hx
   simp at hx
  ·rw [if_neg h1] at hx
   by_cases h2 : H.K q = 2
   ·rw [if_pos h2] at hx
    simp at hx
    obtain ⟨g1, g2, g3⟩ := spot_at HV hq (show 0 < H.pg by omega)
    rw [show H.first q + ((0 : Nat) : Int) = a' by rw [hx.1]; simp] at g1 g2 g3
    refine ⟨g1, .inl ⟨?_, g3⟩⟩
    rw [g2, Int.toNat_natCast]
    exact h2
   ·rw [if_neg h2] at hx
    by_cases h3 : H.K q = 3
    ·rw [if_pos h3] at hx
     rcases List.mem_append.1 hx with hx | hx
     ·unfold slotsTo at hx
      obtain ⟨i, hi, he⟩ := List.mem_map.1 hx
      have hi := List.mem_range.1 hi
      unfold slotPart at he
      injection he with e1 e2
      injection e2 with e2 e3
      have hin := slot_in (s := (H.s : Int)) (k := H.Cl q) (by omega) (show i < slotI (H.Cl q) from hi)
      have hz : H.zs q = sizeN (H.s : Int) (H.Cl q) := rfl
      have ho : i * H.zs q < H.pg := by
       have h := hin.1
       rw [Nat.succ_mul] at h
       rw [hz, hg.2.2.1]
       omega
      obtain ⟨g1, g2, g3⟩ := spot_at HV hq ho
      have hcast : ((i * H.zs q : Nat) : Int) = (i : Int) * (H.zs q : Int) := by push_cast; rfl
      rw [show H.first q + ((i * H.zs q : Nat) : Int) = a' by rw [hcast]; exact e2] at g1 g2 g3
      have hsl := slot_at (t := H.t) (p := H.p) (s := H.s) (k := H.Cl q) HV.right i hi (o := ((i * H.zs q : Nat) : Int)) hcast
      refine ⟨g1, .inr ?_⟩
      rw [g2, g3, Int.toNat_natCast]
      exact ⟨h3, hsl.1, by rw [hsl.2, Int.toNat_natCast]; exact kd_two e1⟩
     ·unfold slack at hx
      split at hx
      ·simp at hx
      ·simp at hx
    ·rw [if_neg h3] at hx
     simp at hx
 ·rintro ⟨hs1, h⟩
  obtain ⟨h1, h2, _⟩ := spot_parts hs1
  obtain ⟨_, ⟨h9, h10⟩, h11, h12⟩ := addr_parts h1
  obtain ⟨q, hqq⟩ : ∃ q : Nat, spotP H.t H.p H.s a = q := ⟨(spotP H.t H.p H.s a).toNat, by omega⟩
  rw [hqq] at h1 h2 h h10
  rw [Int.toNat_natCast] at h
  have hq : q < H.p := by omega
  have hA : a = H.first q + spotO H.t H.p H.s a := by
   have : addrI H.t H.p H.s q (spotO H.t H.p H.s a) = H.first q + spotO H.t H.p H.s a := by
    unfold addrI
    rw [if_pos h1, hg.2.2.2]
    rfl
   rw [<- this]
   exact h2.symm
  rcases h with ⟨hk, ho⟩ | ⟨hk, hsb, htb⟩
  ·rw [ho] at hA
   refine ⟨(a, (H.ln q : Int) * (H.pg : Int)), mem_blocksOf.2 ((mem_catTo H.p).2 ⟨q, hq, ?_⟩), rfl⟩
   unfold partsAt
   rw [if_neg (by omega), if_pos hk, hA, Int.add_zero]
   simp
  ·obtain ⟨_, i, g1, g2, g3⟩ := slot_parts hsb
   rw [g3, Int.toNat_natCast] at htb
   refine ⟨(a, (H.zs q : Int)), mem_blocksOf.2 ((mem_catTo H.p).2 ⟨q, hq, ?_⟩), rfl⟩
   unfold partsAt
   rw [if_neg (by omega), if_neg (by omega), if_pos hk]
   refine List.mem_append_left _ (List.mem_map.2 ⟨i, List.mem_range.2 g1, ?_⟩)
   unfold slotPart slotKd
   rw [if_pos htb, hA, g2]
   rfl
end AuH
end
end Go.Proofs.YtjjfcaliippgpaaGreatDoor

namespace Go.Proofs.YtjjfcaliippgpaaGreatDoor
open Go.ChangeShapes Go.WideShapes Go.ChangeAt Go.RowKit
set_option linter.unusedVariables false
section
def Contig : Int -> List (Int × Int × Int) -> Int -> Prop
 | a, [], b => a = b
 | a, x :: l, b => (x.2.1 = a /\ 1 <= x.2.2 /\ 1 <= x.1 /\ x.1 <= 5) /\ Contig (a + x.2.2) l b
theorem Contig.app : ∀ {l : List (Int × Int × Int)} {a b c : Int} {m : List (Int × Int × Int)}, Contig a l b -> Contig b m c -> Contig a (l ++ m) c
 | [], a, b, c, m, h, h' => by
  have : a = b := h
  subst this
  exact h'
 | x :: l, a, b, c, m, h, h' => ⟨h.1, Contig.app h.2 h'⟩
theorem Contig.one {k a z : Int} (hk : 1 <= k /\ k <= 5) (hz : 1 <= z) : Contig a [(k, a, z)] (a + z) := ⟨⟨rfl, hz, hk.1, hk.2⟩, rfl⟩
namespace AuH
variable {H : AuH}
theorem first_add (q m : Nat) : H.first q + (m : Int) * (H.pg : Int) = H.first (q + m) := by
 unfold first
 rw [<- Int.add_mul]
 congr 1
 push_cast
 omega
theorem slot_kd (q i : Nat) : 1 <= (H.slotPart q i).1 /\ (H.slotPart q i).1 <= 5 := by
 show 1 <= ((slotKd _ _ i : Nat) : Int) /\ ((slotKd _ _ i : Nat) : Int) <= 5
 unfold slotKd
 split
 ·decide
 ·split <;> decide
theorem slots_contig (q : Nat) (hz : 1 <= H.zs q) : ∀ k, Contig (H.first q) (H.slotsTo q k) (H.first q + (k : Int) * (H.zs q : Int))
 | 0 => by
  have e : H.first q + ((0 : Nat) : Int) * (H.zs q : Int) = H.first q := by simp
  rw [e]
  exact rfl
 | k + 1 => by
  rw [slotsTo_succ]
  have e : H.first q + ((k + 1 : Nat) : Int) * (H.zs q : Int) = (H.first q + (k : Int) * (H.zs q : Int)) + (H.zs q : Int) := by
   push_cast
   rw [Int.add_mul]
   omega
  rw [e]
  exact (slots_contig q hz k).app ⟨⟨rfl, by show 1 <= (H.zs q : Int); omega, (slot_kd q k).1, (slot_kd q k).2⟩, rfl⟩
theorem partsAt_contig {n c : Nat} (HV : HeapV H n c) {q : Nat} (hk : H.K q ≠ 0) : Contig (H.first q) (H.partsAt q) (H.first (H.nx q)) := by
 have hg := pg_le HV
 have hs := HV.nums
 have hkc := H.K_cases q
 have hnx : H.first (H.nx q) = H.first q + (H.ln q : Int) * (H.pg : Int) := (first_add q (H.ln q)).symm
 have hpos : ∀ m : Nat, 1 <= m -> 1 <= (m : Int) * (H.pg : Int) := fun m hm => by
  have h1 : 1 * 1 <= m * H.pg := Nat.mul_le_mul hm (by omega)
  have h2 : ((m * H.pg : Nat) : Int) = (m : Int) * (H.pg : Int) := by push_cast; rfl
  rw [<- h2]
  omega
 rw [hnx]
 unfold partsAt
 by_cases h1 : H.K q = 1
 ·rw [if_pos h1]
  exact Contig.one (by omega) (hpos _ (by omega))
 ·rw [if_neg h1]
  by_cases h2 : H.K q = 2
  ·rw [if_pos h2]
   exact Contig.one (by omega) (hpos _ (by omega))
  ·have h3 : H.K q = 3 := by omega
   have hl : H.ln q = 1 := by omega
   rw [if_neg h2, if_pos h3, hl]
   obtain ⟨kc, hkc2⟩ : ∃ kc : Nat, H.Cl q = kc := ⟨(H.Cl q).toNat, by omega⟩
   have hf := size_facts (s := (H.s : Int)) (by omega) (k := kc) (by omega)
   have hz : H.zs q = sizeN (H.s : Int) (kc : Int) := by unfold zs; rw [hkc2]
   have hsl : H.sl q = slotN kc := by unfold sl; rw [hkc2, slotI_nat]
   have hfit : H.sl q * H.zs q <= H.pg := by rw [hz, hsl, hg.2.2.1, Nat.mul_comm]; exact hf.2.2.1
   have hc := slots_contig (H := H) q (by rw [hz]; omega) (H.sl q)
   have e1 : (H.sl q : Int) * (H.zs q : Int) = ((H.sl q * H.zs q : Nat) : Int) := by push_cast; rfl
   rw [e1] at hc
   unfold slack
   have e2 : H.first q + ((1 : Nat) : Int) * (H.pg : Int) = H.first q + (H.pg : Int) := by simp
   rw [e2]
   by_cases h4 : H.sl q * H.zs q < H.pg
   ·rw [if_pos h4]
    have := hc.app (Contig.one (k := 5) (a := H.first q + ((H.sl q * H.zs q : Nat) : Int)) (z := (H.pg : Int) - ((H.sl q * H.zs q : Nat) : Int)) (by omega) (by omega))
    have e3 : H.first q + ((H.sl q * H.zs q : Nat) : Int) + ((H.pg : Int) - ((H.sl q * H.zs q : Nat) : Int)) = H.first q + (H.pg : Int) := by omega
    rwa [e3] at this
   ·rw [if_neg h4, List.append_nil]
    have e3 : ((H.sl q * H.zs q : Nat) : Int) = (H.pg : Int) := by omega
    rwa [e3] at hc
theorem parts_contig {n c : Nat} (HV : HeapV H n c) (ht : H.Tiled) : Contig (H.pg : Int) H.parts (H.first H.p) := by
 have h : ∀ x, H.At x -> Contig (H.pg : Int) (catTo H.partsAt x) (H.first x) := by
  intro x hx
  induction hx with
  | zero =>
   show (H.pg : Int) = H.first 0
   unfold first
   simp
  | step ha hc ih =>
   have hk := (H.can_iff _).1 hc
   rw [ht.cat ha hk.1 (fun q _ h => partsAt_no h)]
   exact ih.app (partsAt_contig HV hk.2.1)
 exact h _ ht.1
end AuH
end
end Go.Proofs.YtjjfcaliippgpaaGreatDoor

namespace Go.Proofs.YtjjfcaliippgpaaGreatDoor
open Go.ChangeShapes Go.WideShapes Go.ChangeAt Go.RowKit Go.Maps
set_option linter.unusedVariables false
set_option linter.unusedSimpArgs false
section
def add32 (a : Nat) (m : Int) : Nat := (((a : Int) + m) % 4294967296).toNat
def sub32 (a : Nat) (m : Int) : Nat := (((a : Int) - m) % 4294967296).toNat
theorem add32_lt (a : Nat) (m : Int) : add32 a m < 2 ^ 32 := by unfold add32; have := Int.emod_lt_of_pos ((a : Int) + m) (show (0 : Int) < 4294967296 by omega); have := Int.emod_nonneg ((a : Int) + m) (show (4294967296 : Int) ≠ 0 by omega); omega
theorem sub32_lt (a : Nat) (m : Int) : sub32 a m < 2 ^ 32 := by unfold sub32; have := Int.emod_lt_of_pos ((a : Int) - m) (show (0 : Int) < 4294967296 by omega); have := Int.emod_nonneg ((a : Int) - m) (show (4294967296 : Int) ≠ 0 by omega); omega
section
variable (n : Nat) (K : Nat -> Option Nat) (t q s : Int)
def usedS (p m : Nat) (st : Vst) : Vst := putS n (putS n st (pageI t q s p 0) (infoV 2 (m : Int) 0)) (pageI t q s ((p : Int) + (m : Int) - 1) 1) (p + 1)
def restS (p m : Nat) (l : Int) (st : Vst) : Vst := if (m : Int) < l then addS n K t q s ((p : Int) + (m : Int)) (l - (m : Int)) st else st
def lessS (m : Nat) (st : Vst) : Vst := putS n (getS n K st 0) 0 (sub32 (getV n K st 0) (m : Int))
def takeS (p m : Nat) (st : Vst) : Vst := lessS n K m (restS n K t q s p m (dropV n K t q s p st) (usedS n t q s p m (dropS n K t q s p st)))
def takeI (m : Int) (st : Vst) : Option Nat × Vst := match (findI n K t q s m st).1 with
 | some p => (some p, takeS n K t q s p m.toNat (findI n K t q s m st).2)
 | none => (none, (findI n K t q s m st).2)
end
end
section
section
variable {H H' : AuH} {q : Nat}
theorem slotKd_live (u v : Nat) (i : Nat) : (slotKd u v i = 2 ↔ v.testBit i = true) /\ (slotKd u v i = 4 ↔ u.testBit i = true /\ v.testBit i = false) := by
 unfold slotKd
 cases hv : v.testBit i <;> cases hu : u.testBit i <;> simp [hv, hu]
end
section
variable {H : AuH} {n c : Nat} {K : Nat -> Option Nat} {st : Vst} {L L' : Nat -> List Nat} {g : Nat -> Nat} {p u : Nat}
end
end
section
section
variable (n : Nat) (K : Nat -> Option Nat) (t q s : Int)
def slabS (k : Int) (p : Nat) (st : Vst) : Vst := pushI n K t q s (13 + k) p (putS n st (pageI t q s p 0) (infoV 3 1 k))
def bitsS (k : Int) (p u : Nat) (full : Bool) (st : Vst) : Vst :=
 if full = true then pullI n K t q s (13 + k) p (putS n (getS n K st (pageI t q s p 5)) (pageI t q s p 5) u)
 else putS n (getS n K st (pageI t q s p 5)) (pageI t q s p 5) u
end
section
variable {t P s n : Nat} {K : Nat -> Option Nat} {st : Vst} {L : Nat -> List Nat} {g : Nat -> Nat} {p u : Nat} {k : Int}
end
section
variable {H : AuH} {n c : Nat} {K : Nat -> Option Nat} {st : Vst} {L L1 : Nat -> List Nat} {g1 : Nat -> Nat} {p u : Nat} {k : Int}
end
end
section
def layB (t : Nat) (l : List Nat) : Nat := l.foldl (fun u i => u ||| 2 ^ i) t
theorem testBit_pow (i j : Nat) : (2 ^ i).testBit j = decide (j = i) := by
 rw [Nat.testBit_two_pow]
 by_cases h : i = j
 ·rw [decide_eq_true h, decide_eq_true h.symm]
 ·rw [decide_eq_false h, decide_eq_false (fun e => h e.symm)]
theorem layB_bit (j : Nat) : ∀ (l : List Nat) (t : Nat), (layB t l).testBit j = (t.testBit j || decide (j ∈ l))
 | [], t => by simp [layB]
 | i :: l, t => by
  show (layB (t ||| 2 ^ i) l).testBit j = _
  rw [layB_bit j l, Nat.testBit_or, testBit_pow, Bool.or_assoc]
  congr 1
  simp [List.mem_cons]
theorem layB_lt {m : Nat} : ∀ (l : List Nat) (t : Nat), t < 2 ^ m -> (∀ i ∈ l, i < m) -> layB t l < 2 ^ m
 | [], t, h, _ => h
 | i :: l, t, h, hl => layB_lt l _ (Nat.or_lt_two_pow h (Nat.pow_lt_pow_right (by omega) (hl i (by simp)))) (fun j hj => hl j (by simp [hj]))
def someF (t m w : Nat) : List Nat := (HM.freeTo t m).take w
theorem someF_mem {t m w i : Nat} (h : i ∈ someF t m w) : i < m /\ t.testBit i = false := by
 have := List.mem_of_mem_take h
 unfold HM.freeTo at this
 rw [List.mem_filter, List.mem_range] at this
 exact ⟨this.1, by simpa using this.2⟩
theorem someF_len (t m w : Nat) : (someF t m w).length <= w /\ (someF t m w).length <= m := by
 unfold someF
 rw [List.length_take]
 have := HM.freeTo_le t m
 omega
end
end Go.Proofs.YtjjfcaliippgpaaGreatDoor

namespace Go.Proofs.YtjjfcaliippgpaaGreatDoor
open Go.ChangeShapes Go.WideShapes Go.ChangeAt Go.RowKit
set_option linter.unusedVariables false
set_option linter.unusedSimpArgs false
section
def pkA (parts : List (Int × Int × Int)) (z : Int) : List Int := (parts.filter fun x => decide (x.1 = 4) && decide (x.2.2 = z)).map fun x => x.2.1
structure FitsP (parts : List (Int × Int × Int)) (sz : Nat -> Int) (T : Nat) (Z : Nat -> Nat -> List Int) : Prop where
 few : ∀ k, k < 9 -> ∀ t, t < T -> (Z t k).length <= 4
 perm : ∀ k, k < 9 -> (haveT Z k T).Perm (pkA parts (sz k))
theorem perm_of_once : ∀ {ps l : List Int}, ps.Nodup -> (∀ a ∈ ps, l.count a = 1) -> ∃ r, l.Perm (ps ++ r)
 | [], l, _, _ => ⟨l, List.Perm.refl _⟩
 | a :: ps, l, hn, h => by
  have hn' := List.nodup_cons.1 hn
  have ha : a ∈ l := List.count_pos_iff.1 (by rw [h a (List.mem_cons_self ..)]; omega)
  have e1 : l.Perm (a :: l.erase a) := List.perm_cons_erase ha
  obtain ⟨r, hr⟩ := perm_of_once (ps := ps) (l := l.erase a) hn'.2 (fun b hb => by
   have hne : b ≠ a := fun e => hn'.1 (e ▸ hb)
   have h1 := h b (List.mem_cons_of_mem _ hb)
   rw [e1.count_eq b, List.count_cons] at h1
   simpa [Ne.symm hne] using h1)
  exact ⟨r, e1.trans (hr.cons a)⟩
theorem once_len {ps l : List Int} (hn : ps.Nodup) (h : ∀ a ∈ ps, l.count a = 1) : ps.length <= l.length /\ (l.length = ps.length -> l.Perm ps) := by
 obtain ⟨r, hr⟩ := perm_of_once hn h
 have h1 := hr.length_eq
 rw [List.length_append] at h1
 refine ⟨by omega, fun e => ?_⟩
 have h2 : r = [] := List.length_eq_zero_iff.1 (by omega)
 rw [h2, List.append_nil] at hr
 exact hr
def overN (parts : List (Int × Int × Int)) (sz : Nat -> Int) (T : Nat) (Z : Nat -> Nat -> List Int) : Nat -> Int
 | 0 => 0
 | j + 1 => overN parts sz T Z j + ((haveT Z j T).length : Int) - ((pkA parts (sz j)).length : Int)
def OnceP (parts : List (Int × Int × Int)) (sz : Nat -> Int) (T : Nat) (Z : Nat -> Nat -> List Int) (k : Nat) : Prop :=
 (∀ t, t < T -> (Z t k).length <= 4) /\ ∀ a ∈ pkA parts (sz k), (haveT Z k T).count a = 1
section
variable {parts : List (Int × Int × Int)} {sz : Nat -> Int} {T : Nat} {Z : Nat -> Nat -> List Int}
theorem overN_pos (hn : ∀ k, k < 9 -> (pkA parts (sz k)).Nodup) (h : ∀ k, k < 9 -> OnceP parts sz T Z k) : ∀ j, j <= 9 -> 0 <= overN parts sz T Z j /\ (overN parts sz T Z j = 0 -> ∀ k, k < j -> (haveT Z k T).Perm (pkA parts (sz k)))
 | 0, _ => ⟨Int.le_refl _, fun _ k hk => absurd hk (Nat.not_lt_zero _)⟩
 | j + 1, hj => by
  obtain ⟨h1, h2⟩ := overN_pos hn h j (by omega)
  obtain ⟨h3, h4⟩ := once_len (hn j (by omega)) (h j (by omega)).2
  refine ⟨by unfold overN; omega, fun e k hk => ?_⟩
  unfold overN at e
  by_cases hkj : k = j
  ·subst hkj; exact h4 (by omega)
  ·exact h2 (by omega) k (by omega)
theorem fits_iff (hn : ∀ k, k < 9 -> (pkA parts (sz k)).Nodup) : ((∀ k, k < 9 -> OnceP parts sz T Z k) /\ overN parts sz T Z 9 = 0) ↔ FitsP parts sz T Z := by
 constructor
 ·intro ⟨h, h0⟩
  exact ⟨fun k hk => (h k hk).1, (overN_pos hn h 9 (Nat.le_refl _)).2 h0⟩
 ·intro h
  have h1 : ∀ k, k < 9 -> OnceP parts sz T Z k := fun k hk => ⟨h.few k hk, fun a ha => by
   rw [(h.perm k hk).count_eq a]
   rw [(hn k hk).count, if_pos ha]⟩
  refine ⟨h1, ?_⟩
  have : ∀ j, j <= 9 -> overN parts sz T Z j = 0 := fun j => by
   induction j with
   | zero => intro _; rfl
   | succ j ih =>
    intro hj
    unfold overN
    rw [ih (by omega), (h.perm j (by omega)).length_eq]
    omega
  exact this 9 (Nat.le_refl _)
end
theorem contig_low : ∀ {l : List (Int × Int × Int)} {a b : Int}, Contig a l b -> (∀ x ∈ l, a <= x.2.1) /\ (l.map fun x => x.2.1).Nodup
 | [], a, b, h => ⟨fun x hx => by simp at hx, List.nodup_nil⟩
 | x :: l, a, b, h => by
  obtain ⟨⟨h1, h2, _, _⟩, h3⟩ := h
  obtain ⟨g1, g2⟩ := contig_low h3
  refine ⟨fun y hy => ?_, ?_⟩
  ·rcases List.mem_cons.1 hy with rfl | hy
   ·omega
   ·have := g1 y hy; omega
  ·rw [List.map_cons]
   refine List.nodup_cons.2 ⟨fun hm => ?_, g2⟩
   obtain ⟨y, hy, e⟩ := List.mem_map.1 hm
   have := g1 y hy
   omega
theorem pkA_nodup {l : List (Int × Int × Int)} {a b : Int} (h : Contig a l b) (z : Int) : (pkA l z).Nodup := by
 unfold pkA
 exact (contig_low h).2.sublist (List.filter_sublist.map _)
end
end Go.Proofs.YtjjfcaliippgpaaGreatDoor

namespace Go.Proofs.YtjjfcaliippgpaaGreatDoor
open Go.ChangeShapes Go.WideShapes Go.ChangeAt Go.RowKit Go.Maps
set_option linter.unusedVariables false
set_option linter.unusedSimpArgs false
section
theorem mem_pk {l : List (Int × Int × Int)} {z a : Int} : a ∈ pkA l z ↔ ∃ x ∈ l, x.1 = 4 /\ x.2.2 = z /\ x.2.1 = a := by
 unfold pkA
 simp only [List.mem_map, List.mem_filter, Bool.and_eq_true, decide_eq_true_eq]
 constructor
 ·rintro ⟨x, ⟨h1, h2, h3⟩, h4⟩; exact ⟨x, h1, h2, h3, h4⟩
 ·rintro ⟨x, h1, h2, h3, h4⟩; exact ⟨x, ⟨h1, h2, h3⟩, h4⟩
theorem mem_catTo {α : Type} {f : Nat -> List α} {x : α} : ∀ {n : Nat}, x ∈ AuH.catTo f n ↔ ∃ i, i < n /\ x ∈ f i
 | 0 => by simp [AuH.catTo]
 | n + 1 => by
  show x ∈ AuH.catTo f n ++ f n ↔ _
  rw [List.mem_append, mem_catTo]
  constructor
  ·rintro (⟨i, h1, h2⟩ | h)
   ·exact ⟨i, by omega, h2⟩
   ·exact ⟨n, by omega, h⟩
  ·rintro ⟨i, h1, h2⟩
   by_cases h : i = n
   ·subst h; exact .inr h2
   ·exact .inl ⟨i, by omega, h2⟩
def AuH.hand (H : AuH) (q i : Nat) : Prop := q < H.p /\ H.K q = 3 /\ i < slotI (H.Cl q) /\ (H.cel q 5).testBit i = true /\ (H.cel q 4).testBit i = false
def AuH.slotA (H : AuH) (q i : Nat) : Int := H.first q + (i : Int) * (H.zs q : Int)
section
variable {H H' : AuH}
theorem mem_pkA {z a : Int} : a ∈ pkA H.parts z ↔ ∃ q i, H.hand q i /\ (H.zs q : Int) = z /\ H.slotA q i = a := by
 rw [mem_pk]
 unfold AuH.parts
 constructor
 ·rintro ⟨x, hx, h4, hz, ha⟩
  obtain ⟨q, hq, hx⟩ := mem_catTo.1 hx
  unfold AuH.partsAt at hx
  split at hx
  ·rw [List.mem_singleton] at hx; subst hx; exact absurd (show (1 : Int) = 4 from h4) (by decide)
  ·split at hx
   ·rw [List.mem_singleton] at hx; subst hx; exact absurd (show (2 : Int) = 4 from h4) (by decide)
   ·split at hx
    ·rename_i hk
     rcases List.mem_append.1 hx with hx | hx
     ·unfold AuH.slotsTo at hx
      obtain ⟨i, hi, rfl⟩ := List.mem_map.1 hx
      rw [List.mem_range] at hi
      have h5 : slotKd (H.cel q 5) (H.cel q 4) i = 4 := by
       have : ((slotKd (H.cel q 5) (H.cel q 4) i : Nat) : Int) = 4 := h4
       omega
      obtain ⟨h6, h7⟩ := (slotKd_live (H.cel q 5) (H.cel q 4) i).2.1 h5
      exact ⟨q, i, ⟨hq, hk, hi, h6, h7⟩, hz, ha⟩
     ·unfold AuH.slack at hx
      split at hx
      ·rw [List.mem_singleton] at hx; subst hx; exact absurd (show (5 : Int) = 4 from h4) (by decide)
      ·simp at hx
    ·simp at hx
 ·rintro ⟨q, i, ⟨hq, hk, hi, h6, h7⟩, hz, ha⟩
  refine ⟨H.slotPart q i, mem_catTo.2 ⟨q, hq, ?_⟩, ?_, hz, ha⟩
  ·unfold AuH.partsAt
   rw [if_neg (by omega), if_neg (by omega), if_pos hk]
   exact List.mem_append_left _ (List.mem_map.2 ⟨i, List.mem_range.2 hi, rfl⟩)
  ·show ((slotKd (H.cel q 5) (H.cel q 4) i : Nat) : Int) = 4
   rw [(slotKd_live (H.cel q 5) (H.cel q 4) i).2.2 ⟨h6, h7⟩]
   rfl
theorem sizeN_lt {s : Int} (h : 10 <= s /\ s <= 20) : ∀ {k j : Nat}, j < k -> k < 9 -> sizeN s (j : Int) < sizeN s (k : Int)
 | 0, j, hj, _ => absurd hj (Nat.not_lt_zero _)
 | k + 1, j, hj, hk => by
  have h1 := (size_facts h hk).2.2.2.2.2 (by omega)
  rw [Nat.add_sub_cancel] at h1
  by_cases e : j = k
  ·subst e; exact h1
  ·exact Nat.lt_trans (sizeN_lt h (by omega) (by omega)) h1
theorem sizeN_inj {s : Int} (h : 10 <= s /\ s <= 20) {k j : Int} (hk : 0 <= k /\ k <= 8) (hj : 0 <= j /\ j <= 8) (e : sizeN s k = sizeN s j) : k = j := by
 obtain ⟨a, rfl⟩ := Int.eq_ofNat_of_zero_le hk.1
 obtain ⟨b, rfl⟩ := Int.eq_ofNat_of_zero_le hj.1
 rcases Nat.lt_trichotomy a b with h1 | h1 | h1
 ·have := sizeN_lt h h1 (by omega); omega
 ·omega
 ·have := sizeN_lt h h1 (by omega); omega
end
end
section
def fullB (u : Nat) (k : Int) : Bool := decide (HM.onesTo u 32 = slotI k)
section
variable (n : Nat) (K : Nat -> Option Nat) (t q s : Int)
def pickAt (k : Int) (p w : Nat) (st : Vst) : Option (Nat × List Nat) × Vst :=
 if someF (getV n K st (pageI t q s p 5)) (slotI k) w = [] then (none, getS n K st (pageI t q s p 5))
 else (some (p, someF (getV n K st (pageI t q s p 5)) (slotI k) w), bitsS n K t q s k p (layB (getV n K st (pageI t q s p 5)) (someF (getV n K st (pageI t q s p 5)) (slotI k) w)) (fullB (layB (getV n K st (pageI t q s p 5)) (someF (getV n K st (pageI t q s p 5)) (slotI k) w)) k) st)
def pickI (k : Int) (w : Nat) (st : Vst) : Option (Nat × List Nat) × Vst :=
 if getV n K st (13 + k) = 0 then
  (match (takeI n K t q s 1 (getS n K st (13 + k))).1 with
   | some p => pickAt n K t q s k p w (slabS n K t q s k p (takeI n K t q s 1 (getS n K st (13 + k))).2)
   | none => (none, (takeI n K t q s 1 (getS n K st (13 + k))).2))
 else pickAt n K t q s k (getV n K st (13 + k) - 1) w (getS n K st (13 + k))
def pickP (x : Option (Nat × List Nat)) : Int := match x with
 | some (p, _) => (p : Int)
 | none => -1
def pickL (x : Option (Nat × List Nat)) : List Nat := match x with
 | some (_, l) => l
 | none => []
end
section
variable {n : Nat} {K : Nat -> Option Nat} {t q s : Int} {st s1 : Vst} {k : Int} {p w v : Nat}
theorem pickAt_none (hv : getV n K st (pageI t q s p 5) = v) (h : someF v (slotI k) w = []) : pickAt n K t q s k p w st = (none, getS n K st (pageI t q s p 5)) := by
 subst hv
 unfold pickAt
 rw [if_pos h]
theorem pickAt_some (hv : getV n K st (pageI t q s p 5) = v) {l : List Nat} (hl : someF v (slotI k) w = l) (h : l ≠ []) : pickAt n K t q s k p w st = (some (p, l), bitsS n K t q s k p (layB v l) (fullB (layB v l) k) st) := by
 subst hv hl
 unfold pickAt
 rw [if_neg h]
theorem pickI_rack {r : Nat} (h : getV n K st (13 + k) = r + 1) : pickI n K t q s k w st = pickAt n K t q s k r w (getS n K st (13 + k)) := by
 unfold pickI
 rw [if_neg (by omega), h, Nat.add_sub_cancel]
theorem pickI_none (h : getV n K st (13 + k) = 0) (ht : takeI n K t q s 1 (getS n K st (13 + k)) = (none, s1)) : pickI n K t q s k w st = (none, s1) := by
 unfold pickI
 rw [if_pos h, ht]
theorem pickI_fresh (h : getV n K st (13 + k) = 0) (ht : takeI n K t q s 1 (getS n K st (13 + k)) = (some p, s1)) : pickI n K t q s k w st = pickAt n K t q s k p w (slabS n K t q s k p s1) := by
 unfold pickI
 rw [if_pos h, ht]
end
section
variable {H : AuH} {n c : Nat} {K : Nat -> Option Nat} {st st' : Vst} {L L' : Nat -> List Nat} {g : Nat -> Nat}
theorem someF_ne {t m w : Nat} (h : 1 <= (someF t m w).length) : someF t m w ≠ [] := fun e => by rw [e] at h; simp at h
theorem add_or16 {a b : Nat} (h : a &&& b = 0) : a + b = a ||| b := by
 have ha : a < 2 ^ (a + b + 1) := Nat.lt_of_le_of_lt (by omega) (Nat.lt_two_pow_self (n := a + b + 1))
 have hb : b < 2 ^ (a + b + 1) := Nat.lt_of_le_of_lt (by omega) (Nat.lt_two_pow_self (n := a + b + 1))
 have hs : a + b < 2 ^ (a + b + 1) := Nat.lt_of_le_of_lt (by omega) (Nat.lt_two_pow_self (n := a + b + 1))
 have h1 : BitVec.ofNat (a + b + 1) a &&& BitVec.ofNat (a + b + 1) b = 0#(a + b + 1) := by
  apply BitVec.eq_of_toNat_eq
  rw [BitVec.toNat_and, BitVec.toNat_ofNat, BitVec.toNat_ofNat, Nat.mod_eq_of_lt ha, Nat.mod_eq_of_lt hb, h]
  simp
 have h2 := congrArg BitVec.toNat (BitVec.add_eq_or_of_and_eq_zero _ _ h1)
 rw [BitVec.toNat_or, BitVec.toNat_add, BitVec.toNat_ofNat, BitVec.toNat_ofNat, Nat.mod_eq_of_lt ha, Nat.mod_eq_of_lt hb, Nat.mod_eq_of_lt hs] at h2
 exact h2
end
end
end Go.Proofs.YtjjfcaliippgpaaGreatDoor
