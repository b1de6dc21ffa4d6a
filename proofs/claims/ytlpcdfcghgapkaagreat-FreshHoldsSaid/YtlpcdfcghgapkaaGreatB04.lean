/-
  The rules as the document tells them: the starts of spans as a list, a list of pages as it is walked. No program is named here.
-/
import Derived.Test.YtlpcdfcghgapkaaGreatB03
import Derived.Test.YtlpcdfcghgapkaaGreatB02
import Derived.Test.YtlpcdfcghgapkaaGreatB01
import Derived.Deep.AppendLies
import Derived.Deep.RegionHeld3
import Derived.IntWalk
import Derived.KernelRfl
namespace Go.Proofs.YtlpcdfcghgapkaaGreat
open Go.ChangeShapes Go.WideShapes Go.ChangeAt Go.RowKit Go.Shelf
set_option linter.unusedVariables false
set_option linter.unusedSimpArgs false
section
namespace AuH
inductive Starts (H : AuH) : List Nat -> Nat -> Prop where
 | nil : Starts H [] 0
 | snoc {l : List Nat} {q : Nat} : Starts H l q -> H.can q = true -> Starts H (l ++ [q]) (H.nx q)
variable {H : AuH} {l : List Nat} {x : Nat}
theorem Starts.at_ (h : H.Starts l x) : H.At x := by
 induction h with
 | nil => exact .zero
 | snoc h hc ih => exact .step ih hc
theorem Starts.len (h : H.Starts l x) : l.length <= x := by
 induction h with
 | nil => simp
 | snoc h hc ih =>
  have := (H.nx_gt hc).1
  rw [List.length_append]
  simp
  omega
theorem Starts.next (h : H.Starts l x) : ∀ {i a : Nat}, l[i]? = some a -> (H.At a /\ H.can a = true /\ a < x) /\ (l[i + 1]? = some (H.nx a) \/ (i + 1 = l.length /\ H.nx a = x)) := by
 induction h with
 | nil => intro i a h; simp at h
 | snoc h hc ih =>
  rename_i l q
  intro i a hi
  have hgt := (H.nx_gt hc).1
  rcases Nat.lt_or_ge i l.length with hl | hl
  ·rw [List.getElem?_append_left hl] at hi
   obtain ⟨⟨h1, h2, h3⟩, h4⟩ := ih hi
   refine ⟨⟨h1, h2, by omega⟩, .inl ?_⟩
   rcases h4 with h4 | ⟨h4, h5⟩
   ·have : i + 1 < l.length := by
     rcases Nat.lt_or_ge (i + 1) l.length with h | h
     ·exact h
     ·rw [List.getElem?_eq_none h] at h4; cases h4
    rw [List.getElem?_append_left this]
    exact h4
   ·rw [List.getElem?_append_right (by omega), h4, Nat.sub_self, h5]
    rfl
  ·have hil : i = l.length := by
    rcases Nat.lt_or_ge l.length i with h | h
    ·rw [List.getElem?_append_right hl, List.getElem?_eq_none (by simp; omega)] at hi; cases hi
    ·omega
   subst hil
   rw [List.getElem?_append_right (Nat.le_refl _), Nat.sub_self] at hi
   have hqa : q = a := by simpa using hi
   subst hqa
   exact ⟨⟨h.at_, hc, hgt⟩, .inr ⟨by simp, rfl⟩⟩
theorem Starts.head (h : H.Starts l x) : (l = [] /\ x = 0) \/ l[0]? = some 0 := by
 induction h with
 | nil => exact .inl ⟨rfl, rfl⟩
 | snoc h hc ih =>
  right
  rcases ih with ⟨rfl, rfl⟩ | ih
  ·rfl
  ·rename_i l q
   have : 0 < l.length := by
    rcases Nat.lt_or_ge 0 l.length with h | h
    ·exact h
    ·rw [List.getElem?_eq_none h] at ih; cases ih
   rw [List.getElem?_append_left this]
   exact ih
theorem Starts.find (h : H.Starts l x) : ∀ {q : Nat}, H.At q -> q < x -> ∃ i : Nat, l[i]? = some q := by
 induction h with
 | nil => intro q _ h; omega
 | snoc h hc ih =>
  rename_i l q0
  intro q hq hl
  rcases Nat.lt_trichotomy q q0 with h1 | h1 | h1
  ·obtain ⟨i, hi⟩ := ih hq h1
   refine ⟨i, ?_⟩
   have : i < l.length := by
    rcases Nat.lt_or_ge i l.length with h | h
    ·exact h
    ·rw [List.getElem?_eq_none h] at hi; cases hi
   rw [List.getElem?_append_left this]
   exact hi
  ·subst h1
   exact ⟨l.length, by rw [List.getElem?_append_right (Nat.le_refl _), Nat.sub_self]; rfl⟩
  ·have := (At.next h.at_ hq h1).2
   omega

def Front (H : AuH) (l : List Nat) (n p : Nat) : Prop := ∃ f, (l[n]? = some f \/ (n = l.length /\ f = H.p)) /\ p <= f /\ ∀ q, H.At q -> p <= q -> f <= q
theorem Front.zero (h : H.Starts l H.p) : H.Front l 0 0 := by
 rcases h.head with ⟨rfl, h1⟩ | h1
 ·exact ⟨H.p, .inr ⟨rfl, rfl⟩, Nat.zero_le _, fun q _ _ => by omega⟩
 ·exact ⟨0, .inl h1, Nat.le_refl _, fun q _ _ => Nat.zero_le _⟩
theorem Front.yes {n p : Nat} (h : H.Starts l H.p) (hf : H.Front l n p) (hn : l[n]? = some p) : H.At p /\ H.Front l (n + 1) (p + 1) := by
 obtain ⟨⟨h1, h2, h3⟩, h4⟩ := h.next hn
 have hg := (H.nx_gt h2).1
 refine ⟨h1, H.nx p, ?_, hg, fun q hq hp => (At.next h1 hq (by omega)).2⟩
 rcases h4 with h4 | ⟨h4, h5⟩
 ·exact .inl h4
 ·exact .inr ⟨h4, h5⟩
theorem Front.no {n p : Nat} (h : H.Starts l H.p) (hf : H.Front l n p) (hp : p < H.p) (hn : l[n]? ≠ some p) : ¬ H.At p /\ H.Front l n (p + 1) := by
 obtain ⟨f, h1, h2, h3⟩ := hf
 have hne : f ≠ p := by
  rintro rfl
  rcases h1 with h1 | ⟨_, h1⟩
  ·exact hn h1
  ·omega
 exact ⟨fun ha => by have := h3 p ha (Nat.le_refl _); omega, f, h1, by omega, fun q hq hl => h3 q hq (by omega)⟩

theorem tiled_iff (ha : H.At H.p) : H.Tiled ↔ ∀ q, q < H.p -> ¬ H.At q -> H.cel q 0 = 0 := by
 constructor
 ·rintro ⟨_, hb⟩ q hq hn
  obtain ⟨a, h1, h2, h3, h4⟩ := ha.cover q hq
  exact hb a h1 h2 (by omega) q (by rcases Nat.eq_or_lt_of_le h3 with h | h; (subst h; exact absurd h1 hn); exact h) h4
 ·intro h
  refine ⟨ha, fun a h1 h2 h3 q h4 h5 => h q (by have := (H.nx_gt h2).2; omega) (fun hq => ?_)⟩
  have := (At.next h1 hq h4).2
  omega
theorem tiled_not {q : Nat} (h : H.Tiled) (hq : q < H.p) (hn : ¬ H.At q) : H.cel q 0 = 0 := (tiled_iff h.1).1 h q hq hn

def FootAt (H : AuH) (a q : Nat) : Prop := H.cel q 1 = if q + 1 = H.nx a then a + 1 else 0
theorem r3_iff (ht : H.Tiled) : H.R3 ↔ ∀ q, q < H.p -> ∀ a, H.At a -> a <= q -> q < H.nx a -> H.FootAt a q := by
 constructor
 ·intro h q hq a ha h1 h2
  have hc := ht.at_can ha (show a < H.p by omega)
  have hk := ht.at_K ha (show a < H.p by omega)
  obtain ⟨h3, h4⟩ := h a (by omega) hk
  unfold FootAt
  have hnx : H.nx a = a + H.ln a := rfl
  by_cases he : q + 1 = H.nx a
  ·rw [if_pos he, show q = a + H.ln a - 1 by omega]
   exact h4
  ·rw [if_neg he]
   exact h3 q h1 (by omega)
 ·intro h q hq hk
  obtain ⟨ha, hc⟩ := ht.start hq hk
  have hg := H.nx_gt hc
  have hl := H.ln_pos q hk
  have hnx : H.nx q = q + H.ln q := rfl
  refine ⟨fun r h1 h2 => ?_, ?_⟩
  ·have := h r (by omega) q ha h1 (by omega)
   unfold FootAt at this
   rw [if_neg (by omega)] at this
   exact this
  ·have := h (q + H.ln q - 1) (by omega) q ha (by omega) (by omega)
   unfold FootAt at this
   rw [if_pos (by omega)] at this
   exact this

def ApartTo (H : AuH) (l : List Nat) (n : Nat) : Prop := ∀ (i a b : Nat), i + 1 < n -> l[i]? = some a -> l[i + 1]? = some b -> ¬ (H.K b = 1 /\ H.K a = 1)
theorem apart_all (h : H.Starts l H.p) {n : Nat} (hn : l.length <= n) (ha : H.ApartTo l n) : H.R4 := by
 intro q hq hp hk hx h2
 obtain ⟨i, hi⟩ := h.find hq hp
 rcases (h.next hi).2 with h4 | ⟨h4, h5⟩
 ·have : i + 1 < l.length := by
   rcases Nat.lt_or_ge (i + 1) l.length with h | h
   ·exact h
   ·rw [List.getElem?_eq_none h] at h4; cases h4
  exact ha i q _ (by omega) hi h4 ⟨h2, hk⟩
 ·omega
theorem apart_not (h : H.Starts l H.p) {i a b : Nat} (h1 : l[i]? = some a) (h2 : l[i + 1]? = some b) (hb : H.K b = 1) (ha : H.K a = 1) : ¬ H.R4 := by
 intro hr
 obtain ⟨⟨g1, g2, g3⟩, g4⟩ := h.next h1
 rcases g4 with g4 | ⟨g4, g5⟩
 ·rw [g4] at h2
  have e : H.nx a = b := by simpa using h2
  subst e
  exact hr a g1 g3 ha (h.next g4).1.2.2 hb
 ·rw [List.getElem?_eq_none (by omega)] at h2; cases h2
theorem ApartTo.step {n a b : Nat} (h : H.ApartTo l (n + 1)) (h1 : l[n]? = some a) (h2 : l[n + 1]? = some b) (hn : ¬ (H.K b = 1 /\ H.K a = 1)) : H.ApartTo l (n + 1 + 1) := by
 intro i a' b' hi g1 g2
 rcases Nat.lt_or_ge (i + 1) (n + 1) with h3 | h3
 ·exact h i a' b' h3 g1 g2
 ·have : i = n := by omega
  subst this
  rw [h1] at g1
  rw [h2] at g2
  simp only [Option.some.injEq] at g1 g2
  subst g1
  subst g2
  exact hn

def SlotBad (H : AuH) (q b : Nat) : Prop := ((H.cel q 4).testBit b = true /\ (H.cel q 5).testBit b = false) \/ ((H.cel q 5).testBit b = true /\ (H.K q ≠ 3 \/ slotI (H.Cl q) <= b))
theorem slot5_iff (q : Nat) (h4 : H.cel q 4 < 2 ^ 32) (h5 : H.cel q 5 < 2 ^ 32) : H.Slot5 q ↔ (∀ b, b < 32 -> ¬ H.SlotBad q b) /\ ¬ (H.K q = 3 /\ H.cel q 5 = 0) := by
 have hs := slotI_le (H.Cl q)
 constructor
 ·rintro ⟨hy, hn⟩
  by_cases hk : H.K q = 3
  ·obtain ⟨h1, h2, h3⟩ := hy hk
   refine ⟨fun b hb hbad => ?_, fun h => h1 h.2⟩
   rcases hbad with ⟨g1, g2⟩ | ⟨g1, g2⟩
   ·rw [h3 b hb g1] at g2; cases g2
   ·rcases g2 with g2 | g2
    ·exact g2 hk
    ·rw [Nat.testBit_lt_two_pow (Nat.lt_of_lt_of_le h2 (Nat.pow_le_pow_right (by omega) g2))] at g1; cases g1
  ·obtain ⟨h1, h2⟩ := hn hk
   refine ⟨fun b hb hbad => ?_, fun h => hk h.1⟩
   rcases hbad with ⟨g1, _⟩ | ⟨g1, _⟩
   ·rw [h2] at g1; simp at g1
   ·rw [h1] at g1; simp at g1
 ·rintro ⟨hb, hz⟩
  have hsub : SubB (H.cel q 4) (H.cel q 5) := fun i hi h => by
   cases hc : (H.cel q 5).testBit i
   ·exact absurd (show H.SlotBad q i from .inl ⟨h, hc⟩) (hb i hi)
   ·rfl
  refine ⟨fun hk => ⟨fun h => hz ⟨hk, h⟩, (sub_mask _ _ h5 hs).1 (fun i hi h => ?_), hsub⟩, fun hk => ?_⟩
  ·have : i < slotI (H.Cl q) := by
    rcases Nat.lt_or_ge i (slotI (H.Cl q)) with g | g
    ·exact g
    ·exact absurd (show H.SlotBad q i from .inr ⟨h, .inr g⟩) (hb i hi)
   rw [Nat.testBit_two_pow_sub_one]
   simpa using this
  ·have h0 : H.cel q 5 = 0 := (sub_zero _ h5).1 (fun i hi h => absurd (show H.SlotBad q i from .inr ⟨h, .inl hk⟩) (hb i hi))
   refine ⟨h0, (sub_zero _ h4).1 (fun i hi h => ?_)⟩
   have := hsub i hi h
   rw [h0] at this
   simp at this

inductive Path (H : AuH) (head : Nat) : List Nat -> Nat -> Nat -> Prop where
 | nil : Path H head [] (H.V head) 0
 | snoc {l : List Nat} {q a : Nat} : Path H head l q a -> 1 <= q -> q <= H.p -> H.cel (q - 1) 3 = a -> Path H head (l ++ [q - 1]) (H.cel (q - 1) 2) q
def cntIn (l : List Nat) (q : Nat) : Nat := (l.filter fun y => decide (y = q)).length
theorem cntIn_snoc (l : List Nat) (y q : Nat) : cntIn (l ++ [y]) q = cntIn l q + if y = q then 1 else 0 := by
 unfold cntIn
 rw [List.filter_append, List.length_append]
 congr 1
 by_cases h : y = q <;> simp [h]
theorem cntIn_pos {l : List Nat} {q : Nat} (h : q ∈ l) : 1 <= cntIn l q := by
 unfold cntIn
 exact List.length_pos_of_mem (List.mem_filter.2 ⟨h, by simp⟩)
theorem cntIn_zero {l : List Nat} {q : Nat} (h : ¬ q ∈ l) : cntIn l q = 0 := by
 unfold cntIn
 rw [List.length_eq_zero_iff, List.filter_eq_nil_iff]
 intro y hy
 simp
 rintro rfl
 exact h hy
variable {head q a : Nat}
theorem Path.lt (h : H.Path head l q a) : ∀ y ∈ l, y < H.p := by
 induction h with
 | nil => simp
 | snoc h h1 h2 h3 ih =>
  rename_i l q a
  intro y hy
  rcases List.mem_append.1 hy with hy | hy
  ·exact ih y hy
  ·have : y = q - 1 := by simpa using hy
   omega
theorem Path.once (h : H.Path head l q a) : (∀ y ∈ l, H.cel y 3 ≠ a) /\ (∀ y ∈ l, H.cel y 3 = 0 \/ ∃ z ∈ l, H.cel y 3 = z + 1) /\ (a = 0 \/ ∃ z ∈ l, a = z + 1) /\ ∀ y, cntIn l y <= 1 := by
 induction h with
 | nil => exact ⟨by simp, by simp, .inl rfl, fun y => by simp [cntIn]⟩
 | snoc h h1 h2 h3 ih =>
  rename_i l q a
  obtain ⟨i1, i2, i3, i4⟩ := ih
  have hnot : ¬ (q - 1) ∈ l := fun hm => i1 _ hm h3
  have hmem : ∀ y ∈ l ++ [q - 1], H.cel y 3 = 0 \/ ∃ z ∈ l, H.cel y 3 = z + 1 := by
   intro y hy
   rcases List.mem_append.1 hy with hy | hy
   ·exact i2 y hy
   ·have : y = q - 1 := by simpa using hy
    subst this
    rw [h3]
    exact i3
  refine ⟨fun y hy he => ?_, fun y hy => ?_, .inr ⟨q - 1, by simp, by omega⟩, fun y => ?_⟩
  ·rcases hmem y hy with h | ⟨z, hz, h⟩
   ·omega
   ·have : z = q - 1 := by omega
    subst this
    exact hnot hz
  ·rcases hmem y hy with h | ⟨z, hz, h⟩
   ·exact .inl h
   ·exact .inr ⟨z, List.mem_append_left _ hz, h⟩
  ·rw [cntIn_snoc]
   by_cases he : q - 1 = y
   ·subst he
    rw [if_pos rfl, cntIn_zero hnot]
    omega
   ·rw [if_neg he]
    exact i4 y
theorem chain_path {m : Nat} (hc : H.chain head m (H.V head) 0) (h : H.Path head l q a) : l.length <= m /\ H.chain head (m - l.length) q a /\ ∀ y ∈ l, H.tgt y = head := by
 induction h with
 | nil => exact ⟨by simp, hc, by simp⟩
 | snoc h h1 h2 h3 ih =>
  rename_i l q a
  obtain ⟨i1, i2, i3⟩ := ih
  rcases hr : m - l.length with _ | r
  ·rw [hr] at i2
   have : q = 0 := i2
   omega
  ·rw [hr] at i2
   obtain ⟨⟨_, _, g3, _⟩, g5⟩ := i2
   have e : m - (l ++ [q - 1]).length = r := by rw [List.length_append]; simp; omega
   refine ⟨by rw [List.length_append]; simp; omega, by rw [e]; exact g5, fun y hy => ?_⟩
   rcases List.mem_append.1 hy with hy | hy
   ·exact i3 y hy
   ·have : y = q - 1 := by simpa using hy
    rw [this]
    exact g3
theorem path_chain (h : H.Path head l q a) : ∀ {m : Nat}, (∀ y ∈ l, H.tgt y = head) -> H.chain head m q a -> H.chain head (l.length + m) (H.V head) 0 := by
 induction h with
 | nil => intro m _ hc; simpa using hc
 | snoc h h1 h2 h3 ih =>
  rename_i l q a
  intro m hy hc
  have := ih (m := m + 1) (fun y hm => hy y (List.mem_append_left _ hm)) ⟨⟨h1, h2, hy _ (by simp), h3⟩, hc⟩
  rw [List.length_append]
  rw [show l.length + [q - 1].length + m = l.length + (m + 1) by simp; omega]
  exact this
theorem sumTo_add (f g : Nat -> Nat) : ∀ n, sumTo (fun q => f q + g q) n = sumTo f n + sumTo g n
 | 0 => rfl
 | n + 1 => by
  show sumTo (fun q => f q + g q) n + (f n + g n) = (sumTo f n + f n) + (sumTo g n + g n)
  rw [sumTo_add f g n]
  omega
theorem sumTo_zero : ∀ n, sumTo (fun _ => 0) n = 0
 | 0 => rfl
 | n + 1 => by show sumTo (fun _ => 0) n + 0 = 0; rw [sumTo_zero n]
theorem sumTo_one (y : Nat) : ∀ n, sumTo (fun q => if y = q then 1 else 0) n = if y < n then 1 else 0
 | 0 => by simp [sumTo]
 | n + 1 => by
  show sumTo _ n + (if y = n then 1 else 0) = _
  rw [sumTo_one y n]
  by_cases h1 : y < n
  ·rw [if_pos h1, if_neg (by omega), if_pos (by omega)]
  ·rw [if_neg h1]
   by_cases h2 : y = n
   ·rw [if_pos h2, if_pos (by omega)]
   ·rw [if_neg h2, if_neg (by omega)]
theorem sumTo_congr {f g : Nat -> Nat} : ∀ n, (∀ q, q < n -> f q = g q) -> sumTo f n = sumTo g n
 | 0, _ => rfl
 | n + 1, h => by
  show sumTo f n + f n = sumTo g n + g n
  rw [sumTo_congr n (fun q hq => h q (by omega)), h n (by omega)]
theorem sumTo_mono {f g : Nat -> Nat} : ∀ n, (∀ q, q < n -> f q <= g q) -> sumTo f n <= sumTo g n
 | 0, _ => Nat.le_refl _
 | n + 1, h => by
  have h1 := sumTo_mono n (fun q hq => h q (by omega))
  have h2 := h n (by omega)
  show sumTo f n + f n <= sumTo g n + g n
  omega
theorem sumTo_eq {f g : Nat -> Nat} : ∀ n, (∀ q, q < n -> f q <= g q) -> sumTo f n = sumTo g n -> ∀ q, q < n -> f q = g q
 | 0, _, _, q, hq => by omega
 | n + 1, h, he, q, hq => by
  have h1 := sumTo_mono n (fun q hq => h q (by omega))
  have h2 := h n (by omega)
  have he' : sumTo f n + f n = sumTo g n + g n := he
  rcases Nat.lt_or_ge q n with h3 | h3
  ·exact sumTo_eq n (fun q hq => h q (by omega)) (by omega) q h3
  ·have : q = n := by omega
   subst this
   omega
theorem sumTo_cntIn (n : Nat) : ∀ l : List Nat, (∀ y ∈ l, y < n) -> sumTo (cntIn l) n = l.length
 | [], _ => sumTo_zero n
 | y :: l, h => by
  have e : ∀ q, q < n -> cntIn (y :: l) q = (if y = q then 1 else 0) + cntIn l q := fun q _ => by
   unfold cntIn
   rw [List.filter_cons]
   by_cases h : y = q
   ·simp [h]; omega
   ·simp [h]
  rw [sumTo_congr n e, sumTo_add, sumTo_one, if_pos (h y (by simp)), sumTo_cntIn n l (fun z hz => h z (by simp [hz]))]
  simp
  omega
theorem cnt_le (head : Int) (n : Nat) : H.cnt head n <= n := by
 have := sumTo_le (H.isF head) 1 n (fun q _ => by unfold isF; split <;> omega)
 unfold cnt
 omega
theorem listOk_iff (h : H.Path head l 0 a) : H.ListOk head ↔ ∀ q, q < H.p -> cntIn l q = H.isF head q := by
 constructor
 ·intro hk
  obtain ⟨h1, h2, h3⟩ := chain_path hk h
  have hlen : l.length = H.cnt head H.p := by
   rcases hr : H.cnt head H.p - l.length with _ | r
   ·omega
   ·rw [hr] at h2
    have := h2.1.1
    omega
  refine sumTo_eq H.p (fun q hq => ?_) (by rw [sumTo_cntIn _ _ h.lt, hlen]; rfl)
  by_cases hm : q ∈ l
  ·have := h.once.2.2.2 q
   unfold isF
   rw [if_pos (h3 q hm)]
   exact this
  ·rw [cntIn_zero hm]
   exact Nat.zero_le _
 ·intro hq
  have hm : ∀ y ∈ l, H.tgt y = head := fun y hy => by
   have h1 := cntIn_pos hy
   rw [hq y (h.lt y hy)] at h1
   unfold isF at h1
   by_cases he : H.tgt y = head
   ·exact he
   ·rw [if_neg he] at h1; omega
  have hlen : l.length = H.cnt head H.p := by
   rw [<- sumTo_cntIn _ _ h.lt]
   exact sumTo_congr _ hq
  have := path_chain h (m := 0) hm rfl
  rw [Nat.add_zero, hlen] at this
  exact this
theorem listOk_goes (hk : H.ListOk head) (h : H.Path head l q a) (hq : q ≠ 0) : 1 <= q /\ q <= H.p /\ H.cel (q - 1) 3 = a /\ l.length < H.p := by
 obtain ⟨h1, h2, h3⟩ := chain_path hk h
 have hc := cnt_le (H := H) head H.p
 rcases hr : H.cnt head H.p - l.length with _ | r
 ·rw [hr] at h2
  exact absurd h2 hq
 ·rw [hr] at h2
  obtain ⟨⟨g1, g2, _, g4⟩, _⟩ := h2
  exact ⟨g1, g2, g4, by omega⟩

theorem ones_full {v n : Nat} (hv : v < 2 ^ n) (hn : n <= 32) : HM.onesTo v 32 = n ↔ v = 2 ^ n - 1 := by
 have h32 : ∀ k, HM.onesTo v (n + k) = HM.onesTo v n := by
  intro k
  induction k with
  | zero => rfl
  | succ k ih =>
   rw [<- Nat.add_assoc, HM.onesTo_succ, ih, Nat.testBit_lt_two_pow (Nat.lt_of_lt_of_le hv (Nat.pow_le_pow_right (by omega) (by omega)))]
   simp
 have e : HM.onesTo v 32 = HM.onesTo v n := by
  have := h32 (32 - n)
  rwa [show n + (32 - n) = 32 by omega] at this
 rw [e]
 have hf := HM.ones_free v n
 constructor
 ·intro h
  have h0 : HM.freeTo v n = [] := List.length_eq_zero_iff.1 (by omega)
  apply Nat.eq_of_testBit_eq
  intro i
  rw [Nat.testBit_two_pow_sub_one]
  by_cases hi : i < n
  ·unfold HM.freeTo at h0
   rw [List.filter_eq_nil_iff] at h0
   have := h0 i (List.mem_range.2 hi)
   simp at this
   rw [this, decide_eq_true hi]
  ·rw [Nat.testBit_lt_two_pow (Nat.lt_of_lt_of_le hv (Nat.pow_le_pow_right (by omega) (by omega))), decide_eq_false hi]
 ·intro h
  have h0 : HM.freeTo v n = [] := by
   unfold HM.freeTo
   rw [List.filter_eq_nil_iff]
   intro i hi
   rw [h, Nat.testBit_two_pow_sub_one]
   simpa using List.mem_range.1 hi
  rw [h0] at hf
  simpa using hf
end AuH
end
end Go.Proofs.YtlpcdfcghgapkaaGreat

namespace Go.Proofs.YtlpcdfcghgapkaaGreat
open Go.ChangeShapes Go.WideShapes Go.ChangeAt Go.RowKit Go.Maps
set_option linter.unusedVariables false
set_option linter.unusedSimpArgs false
section
def upd (g : Int -> Nat) (c : Int) (v : Nat) : Int -> Nat := fun a => if a = c then v else g a
def Seg (P : Nat) (nx pv : Nat -> Int) (g : Int -> Nat) : Nat -> Nat -> List Nat -> Nat -> Nat -> Prop
 | a, x, [], a', x' => a = a' /\ x = x'
 | a, x, p :: r, a', x' => (x = p + 1 /\ p < P /\ g (pv p) = a) /\ Seg P nx pv g (p + 1) (g (nx p)) r a' x'

section
variable {P : Nat} {nx pv : Nat -> Int} {hd : Int} {g g' : Int -> Nat} {l l1 l2 : List Nat} {a x a' x' p : Nat}
theorem Seg.append : ∀ {l1 l2 : List Nat} {a x a' x' : Nat}, Seg P nx pv g a x (l1 ++ l2) a' x' ↔ ∃ b y, Seg P nx pv g a x l1 b y /\ Seg P nx pv g b y l2 a' x'
 | [], l2, a, x, a', x' => by
  constructor
  ·intro h; exact ⟨a, x, ⟨rfl, rfl⟩, h⟩
  ·rintro ⟨b, y, ⟨rfl, rfl⟩, h⟩; exact h
 | p :: r, l2, a, x, a', x' => by
  constructor
  ·rintro ⟨h1, h2⟩
   obtain ⟨b, y, h3, h4⟩ := Seg.append.1 h2
   exact ⟨b, y, ⟨h1, h3⟩, h4⟩
  ·rintro ⟨b, y, ⟨h1, h3⟩, h4⟩
   exact ⟨h1, Seg.append.2 ⟨b, y, h3, h4⟩⟩
structure IsL (P : Nat) (nx pv : Nat -> Int) (hd : Int) (g : Int -> Nat) (l : List Nat) : Prop where
 seg : ∃ a, Seg P nx pv g 0 (g hd) l a 0
 nodup : l.Nodup

end
end
section
structure VW (n : Nat) (K : Nat -> Option Nat) (s : Vst) : Prop where
 all : ∀ i, i < n -> ∃ v, K i = some v
 lost : s.lost = false
section
variable {n : Nat} {K : Nat -> Option Nat} {s : Vst} {c : Int} {v : Nat}
theorem VW.at_ (h : VW n K s) {i : Nat} (hi : i < n) : getV n K s (i : Int) = (match pos s.wr i with | some k => atW s.wr k | none => (K i).getD 0) := by
 have ho := opn_yes hi h.lost
 unfold getV
 rw [if_pos ho, Int.toNat_natCast]
 cases pos s.wr i <;> rfl
theorem getV_far (n : Nat) (K : Nat -> Option Nat) (s : Vst) {a : Int} (h : ¬ (0 <= a /\ a < n)) : getV n K s a = 0 := getV_no (by unfold opn; simp; intro _ h1; omega)
theorem VW.get (h : VW n K s) (c : Int) : VW n K (getS n K s c) /\ getV n K (getS n K s c) = getV n K s := by
 by_cases ho : opn n s c = true
 ·obtain ⟨i, rfl, hi, hl⟩ := opn_at ho
  cases hp : pos s.wr i with
  | some k => rw [getS_put ho hp]; exact ⟨h, rfl⟩
  | none =>
   obtain ⟨v, hv⟩ := h.all i hi
   rw [getS_known ho hp hv]
   have e1 : (noteS s i).wr = s.wr /\ (noteS s i).lost = s.lost := by unfold noteS; split <;> exact ⟨rfl, rfl⟩
   refine ⟨⟨h.all, e1.2.trans h.lost⟩, ?_⟩
   funext a
   unfold getV opn
   rw [e1.1, e1.2]
 ·rw [getS_no (by simpa using ho)]; exact ⟨h, rfl⟩
theorem VW.put (h : VW n K s) {i : Nat} (hi : i < n) (v : Nat) : VW n K (putS n s (i : Int) v) /\ getV n K (putS n s (i : Int) v) = upd (getV n K s) (i : Int) v := by
 have ho := opn_yes hi h.lost
 have hV : VW n K (putS n s (i : Int) v) := ⟨h.all, by rw [putS_yes ho]; exact h.lost⟩
 refine ⟨hV, ?_⟩
 funext a
 by_cases ha : 0 <= a /\ a < n
 ·obtain ⟨j, rfl⟩ := Int.eq_ofNat_of_zero_le ha.1
  have hj : j < n := by omega
  rw [hV.at_ hj]
  have hw : (putS n s (i : Int) v).wr = putW s.wr i v := by rw [putS_yes ho]
  rw [hw, pos_putW]
  unfold upd
  cases hp : pos s.wr i with
  | some k =>
   obtain ⟨hk, hc⟩ := pos_some hp
   rw [putW_some hp]
   simp only
   by_cases e : j = i
   ·subst e
    rw [if_pos rfl, hp]
    simp [atW, List.getD, hk]
   ·rw [if_neg (by omega), h.at_ hj]
    cases hq : pos s.wr j with
    | none => rfl
    | some m =>
     have hm := pos_some hq
     have : m ≠ k := fun e2 => by subst e2; exact e (hm.2.symm.trans hc)
     simp [atW, List.getD, List.getElem?_set_ne (Ne.symm this)]
  | none =>
   rw [putW_none hp]
   simp only
   by_cases e : j = i
   ·subst e
    rw [if_pos rfl, if_pos rfl]
    simp [atW, List.getD]
   ·rw [if_neg e, if_neg (by omega), h.at_ hj]
    cases hq : pos s.wr j with
    | none => rfl
    | some m =>
     have hm := pos_some hq
     simp [atW, List.getD, List.getElem?_append_left hm.1]
 ·rw [getV_far n K _ ha]
  unfold upd
  rw [if_neg (by omega), getV_far n K _ ha]
end

def nxH (t p : Nat) : Int := ((30 + 4 * t + 6 * p + 2 : Nat) : Int)
def pvH (t p : Nat) : Int := ((30 + 4 * t + 6 * p + 3 : Nat) : Int)
section
variable {t P s n hd : Nat} {K : Nat -> Option Nat} {st : Vst} {l l1 l2 : List Nat} {p : Nat}
end

namespace AuH
variable {H : AuH}
theorem chain_full {head : Nat} : ∀ (r : Nat) (l : List Nat) (q a : Nat), H.Path head l q a -> H.chain head r q a -> ∃ l' a', H.Path head l' 0 a'
 | 0, l, q, a, hp, hc => by
  have : q = 0 := hc
  subst this
  exact ⟨l, a, hp⟩
 | r + 1, l, q, a, hp, hc => by
  obtain ⟨⟨h1, h2, h3, h4⟩, h5⟩ := hc
  exact chain_full r _ _ _ (.snoc hp h1 h2 h4) h5
theorem listOk_path {head : Nat} (h : H.ListOk head) : ∃ l a, H.Path head l 0 a := chain_full _ _ _ _ .nil h
end AuH
section
variable {H : AuH} {n c hd : Nat} {K : Nat -> Option Nat} {l : List Nat}
theorem path_seg (hK : ∀ i, i < n -> K i = some (H.V i)) (hn : n = 30 + 4 * H.t + 6 * H.p) {g : Int -> Nat} (hg : ∀ i : Nat, i < n -> g i = H.V i) (hh : hd < 30) {q a : Nat} (h : H.Path hd l q a) : Seg H.p (nxH H.t) (pvH H.t) g 0 (g hd) l a q := by
 induction h with
 | nil => exact ⟨rfl, hg hd (by omega)⟩
 | snoc h h1 h2 h3 ih =>
  rename_i l q a
  refine Seg.append.2 ⟨a, q, ih, ⟨by omega, by omega, ?_⟩, by omega, ?_⟩
  ·unfold pvH
   rw [hg _ (by omega), <- h3]
   rfl
  ·unfold nxH
   rw [hg _ (by omega)]
   rfl
theorem cntIn_nodup : ∀ {l : List Nat}, (∀ y, AuH.cntIn l y <= 1) -> l.Nodup
 | [], _ => List.nodup_nil
 | a :: r, h => by
  have e : ∀ y, AuH.cntIn (a :: r) y = (if a = y then 1 else 0) + AuH.cntIn r y := fun y => by
   unfold AuH.cntIn
   rw [List.filter_cons]
   by_cases h : a = y
   ·simp [h]; omega
   ·simp [h]
  refine List.nodup_cons.2 ⟨fun hm => ?_, cntIn_nodup (fun y => by have := h y; rw [e] at this; omega)⟩
  have h1 := h a
  rw [e, if_pos rfl] at h1
  have := AuH.cntIn_pos hm
  omega
end
end
end Go.Proofs.YtlpcdfcghgapkaaGreat

namespace Go.Proofs.YtlpcdfcghgapkaaGreat
open Go.ChangeShapes Go.WideShapes Go.ChangeAt Go.RowKit Go.Shelf
set_option linter.unusedVariables false
set_option linter.unusedSimpArgs false
section
def ptVs (l : List (Int × Int × Int)) : List Value := l.flatMap fun x => [.int .i64 x.1, .int .i64 x.2.1, .int .i64 x.2.2]
theorem ptVs_len (l : List (Int × Int × Int)) : (ptVs l).length = l.length * 3 := by unfold ptVs; induction l with
 | nil => rfl
 | cons x l ih => rw [List.flatMap_cons, List.length_append, ih]; simp; omega
theorem ptVs_app (l m : List (Int × Int × Int)) : ptVs (l ++ m) = ptVs l ++ ptVs m := by unfold ptVs; rw [List.flatMap_append]
theorem ptVs_one (x : Int × Int × Int) : ptVs [x] = [.int .i64 x.1, .int .i64 x.2.1, .int .i64 x.2.2] := by simp [ptVs]
theorem partInfo : (Tryz.prog.info? 63).map (fun i => (i.zero, i.size, i.bytes)) = some (some (.agg #[.int .i64 0, .int .i64 0, .int .i64 0]), 3, 24) := by kernel_rfl

namespace AuH
variable (H : AuH)
def pg : Nat := 2 ^ H.s
def first (q : Nat) : Int := ((q : Int) + 1) * (H.pg : Int)
def zs (q : Nat) : Nat := sizeN (H.s : Int) (H.Cl q)
def sl (q : Nat) : Nat := slotI (H.Cl q)
def slotPart (q i : Nat) : Int × Int × Int := ((slotKd (H.cel q 5) (H.cel q 4) i : Nat), H.first q + (i : Int) * (H.zs q : Int), (H.zs q : Int))
def slotsTo (q k : Nat) : List (Int × Int × Int) := (List.range k).map (H.slotPart q)
def slack (q : Nat) : List (Int × Int × Int) := if H.sl q * H.zs q < H.pg then [(5, H.first q + ((H.sl q * H.zs q : Nat) : Int), (H.pg : Int) - ((H.sl q * H.zs q : Nat) : Int))] else []
def partsAt (q : Nat) : List (Int × Int × Int) :=
 if H.K q = 1 then [(1, H.first q, (H.ln q : Int) * (H.pg : Int))] else if H.K q = 2 then [(2, H.first q, (H.ln q : Int) * (H.pg : Int))]
 else if H.K q = 3 then H.slotsTo q (H.sl q) ++ H.slack q else []
def parts : List (Int × Int × Int) := catTo H.partsAt H.p
variable {H}
theorem slotsTo_succ (q k : Nat) : H.slotsTo q (k + 1) = H.slotsTo q k ++ [H.slotPart q k] := by unfold slotsTo; rw [List.range_succ, List.map_append]; rfl
theorem slotsTo_len (q k : Nat) : (H.slotsTo q k).length = k := by unfold slotsTo; simp
theorem partsAt_no {q : Nat} (h : H.K q = 0) : H.partsAt q = [] := by unfold partsAt; rw [if_neg (by omega), if_neg (by omega), if_neg (by omega)]
theorem partsAt_len (q : Nat) : (H.partsAt q).length <= 33 := by
 unfold partsAt
 split
 ·simp
 ·split
  ·simp
  ·split
   ·rw [List.length_append, slotsTo_len]
    have := slotI_le (H.Cl q)
    unfold slack sl
    split <;> simp <;> omega
   ·simp
theorem parts_len : ∀ x, (catTo H.partsAt x).length <= x * 33
 | 0 => by simp [catTo]
 | x + 1 => by
  have h1 := parts_len x
  have h2 := partsAt_len (H := H) x
  show (catTo H.partsAt x ++ H.partsAt x).length <= _
  rw [List.length_append]
  omega
end AuH
theorem pg_le {H : AuH} {n c : Nat} (HV : HeapV H n c) : 1024 <= H.pg /\ H.pg <= 1048576 /\ H.pg = pageS H.s /\ pageN H.t H.p H.s = H.pg := by
 obtain ⟨g, q, h1, h2, h3, h4, h5, h6, h7, h8, h9, h10, h11⟩ := right_nums HV.right
 have e : H.pg = g := by unfold AuH.pg; rw [h8, Int.toNat_natCast]
 rw [e]
 exact ⟨h6, h7, by rw [pageS_yes ⟨h9, h10⟩]; exact h8, h1⟩
theorem first_eq {H : AuH} {n c : Nat} (HV : HeapV H n c) {q : Nat} (hq : q < H.p) : addrI H.t H.p H.s q 0 = H.first q /\ addrB H.t H.p H.s q 0 = true /\ 1024 <= H.first q /\ H.first q <= 1075838976 := by
 have hg := pg_le HV
 have hB : addrB H.t H.p H.s q 0 = true := by unfold addrB; rw [HV.right, hg.2.2.2, Bool.true_and, decide_eq_true_iff]; omega
 have hA : addrI H.t H.p H.s q 0 = ((q : Int) + 1) * (H.pg : Int) + 0 := by unfold addrI; rw [if_pos hB, hg.2.2.2]
 have hY := addr_yes hB
 rw [hA, Int.add_zero] at hY
 exact ⟨by rw [hA, Int.add_zero]; rfl, hB, hY.2.2.2.2.1, hY.2.2.2.2.2⟩

theorem held_grown {w w' : World} {row : Option Nat} {g : Nat} {t : TypeId} {cs : Array Value} (h : Held w g t cs) (hg : w.grownBy w' row) (hr : row ≠ some g) : Held w' g t cs := (hg.block g h.lt (fun e => hr e.symm)).trans h
end
section
theorem own_down {w : World} {base base' : Nat} {e : TypeId} {size : Nat} {v : Value} {n : Nat} {xs : List Value} (h : w.ownsRow base e size v n xs) (hb : base' <= base) : w.ownsRow base' e size v n xs :=
 ⟨h.1, h.2.imp id fun ⟨g, cap, cur, h1, h2, h3⟩ => ⟨g, cap, cur, h1, Nat.le_trans hb h2, h3⟩⟩
section
attribute [local go_sem] Oper.semAt_some

end
end
section
def blocksOf (l : List (Int × Int × Int)) : List (Int × Int) := (l.filter fun x => decide (x.1 = 2)).map fun x => x.2
def bkVs (l : List (Int × Int)) : List Value := l.flatMap fun x => [.int .i64 x.1, .int .i64 x.2]
theorem bkVs_snoc (l : List (Int × Int)) (x : Int × Int) : bkVs (l ++ [x]) = bkVs l ++ [.int .i64 x.1, .int .i64 x.2] := by unfold bkVs; rw [List.flatMap_append]; simp
theorem blocksOf_app (l m : List (Int × Int × Int)) : blocksOf (l ++ m) = blocksOf l ++ blocksOf m := by unfold blocksOf; rw [List.filter_append, List.map_append]
theorem blocksOf_yes {x : Int × Int × Int} (h : x.1 = 2) : blocksOf [x] = [x.2] := by simp [blocksOf, h]
theorem blocksOf_no {x : Int × Int × Int} (h : x.1 ≠ 2) : blocksOf [x] = [] := by simp [blocksOf, h]
theorem blocksOf_len (l : List (Int × Int × Int)) : (blocksOf l).length <= l.length := by unfold blocksOf; rw [List.length_map]; exact List.length_filter_le _ _
theorem blockInfo : (Tryz.prog.info? 55).map (fun i => (i.zero, i.size, i.bytes)) = some (some (.agg #[.int .i64 0, .int .i64 0]), 2, 16) := by kernel_rfl
theorem ptVs_get : ∀ (l : List (Int × Int × Int)) (i : Nat) (x : Int × Int × Int), l[i]? = some x -> (ptVs l)[i * 3]? = some (.int .i64 x.1) /\ (ptVs l)[i * 3 + 1]? = some (.int .i64 x.2.1) /\ (ptVs l)[i * 3 + 2]? = some (.int .i64 x.2.2)
 | [], i, x, h => by simp at h
 | y :: l, 0, x, h => by
  simp at h
  subst h
  simp [ptVs]
 | y :: l, i + 1, x, h => by
  have h' : l[i]? = some x := by simpa using h
  obtain ⟨h1, h2, h3⟩ := ptVs_get l i x h'
  have e : ptVs (y :: l) = [.int .i64 y.1, .int .i64 y.2.1, .int .i64 y.2.2] ++ ptVs l := by simp [ptVs]
  have g : ∀ k, (ptVs (y :: l))[(i * 3 + k) + 3]? = (ptVs l)[i * 3 + k]? := fun k => by
   rw [e, List.getElem?_append_right (by simp)]
   simp
  exact ⟨by have := g 0; rw [Nat.add_zero] at this; rw [show (i + 1) * 3 = i * 3 + 3 by omega, this]; exact h1, by rw [show (i + 1) * 3 + 1 = (i * 3 + 1) + 3 by omega, g]; exact h2, by rw [show (i + 1) * 3 + 2 = (i * 3 + 2) + 3 by omega, g]; exact h3⟩
theorem own_caps3 {w : World} {base : Nat} {e : TypeId} {size n c : Nat} {A : Option Addr} {xs : List Value} (h : w.ownsRow base e size (.slice A n c) n xs) : n <= c /\ c <= maxLen := by
 rcases h.2 with ⟨h1, h2⟩ | ⟨g, cap, cur, h1, hb, hg, hnc, hcm, hr⟩
 ·injection h1 with _ h1 h3; omega
 ·injection h1 with _ _ h3; omega
theorem own_part {w : World} {base n g cap : Nat} {e : TypeId} {l : List (Int × Int × Int)} (h : w.ownsRow base e 3 (.slice (some ⟨g, 0, none⟩) n cap) n (ptVs l)) (hn : l.length = n) {i : Nat} {x : Int × Int × Int} (hx : l[i]? = some x) :
  w.cell? ⟨g, i * 3, none⟩ = some (.int .i64 x.1) /\ w.cell? ⟨g, i * 3 + 1, none⟩ = some (.int .i64 x.2.1) /\ w.cell? ⟨g, i * 3 + 2, none⟩ = some (.int .i64 x.2.2) := by
 have hi : i < n := by
  rcases Nat.lt_or_ge i n with h1 | h1
  ·exact h1
  ·rw [List.getElem?_eq_none (by omega)] at hx; cases hx
 obtain ⟨h1, h2, h3⟩ := ptVs_get l i x hx
 exact ⟨(h.cellAt _ (by omega)).trans h1, (h.cellAt _ (by omega)).trans h2, (h.cellAt _ (by omega)).trans h3⟩
end
end Go.Proofs.YtlpcdfcghgapkaaGreat

namespace Go.Proofs.YtlpcdfcghgapkaaGreat
open Go.ChangeShapes Go.WideShapes Go.ChangeAt Go.RowKit Go.Maps
set_option linter.unusedVariables false
set_option linter.unusedSimpArgs false
section
namespace AuH
variable {H : AuH} {V : Nat -> Nat}
namespace Twin
end Twin
end AuH

section
variable {H : AuH} {hd : Nat} {g : Int -> Nat} {l : List Nat}
theorem path_len {a : Nat} (hp : H.Path hd l 0 a) (hk : H.ListOk hd) : l.length = H.cnt hd H.p /\ ∀ y ∈ l, H.tgt y = hd := by
 obtain ⟨h1, h2, h3⟩ := AuH.chain_path hk hp
 refine ⟨?_, h3⟩
 rcases hr : H.cnt hd H.p - l.length with _ | r
 ·omega
 ·rw [hr] at h2
  have := h2.1.1
  omega
end
end
section
def frB (p : Nat) : Nat := (2 + HM.logI (p : Int)).toNat
def frV (t p : Nat) (i : Nat) : Nat := if i = 0 then p else if i = frB p then 1 else if i = 30 + 4 * t then 1 + 16 * p else if i = 30 + 4 * t + 6 * (p - 1) + 1 then 1 else 0
def frH (t p s : Nat) : AuH := ⟨t, p, s, frV t p⟩
section
variable {t p s : Nat}
theorem frB_at (h1 : 1 <= p) (h2 : p <= 1024) : (frB p : Int) = 2 + HM.logI (p : Int) /\ 2 <= frB p /\ frB p <= 12 := by
 have h := AuH.log_few h1 h2
 unfold frB
 omega
theorem fr_cel (h1 : 1 <= p) (h2 : p <= 1024) {q b : Nat} (hq : q < p) (hb : b < 6) : (frH t p s).cel q b = if q = 0 /\ b = 0 then 1 + 16 * p else if q = p - 1 /\ b = 1 then 1 else 0 := by
 have h := frB_at h1 h2
 show frV t p (30 + 4 * t + 6 * q + b) = _
 unfold frV
 rw [if_neg (by omega), if_neg (by omega)]
 by_cases h3 : q = 0 /\ b = 0
 ·rw [if_pos (by omega), if_pos h3]
 ·rw [if_neg (by omega), if_neg h3]
  by_cases h4 : q = p - 1 /\ b = 1
  ·rw [if_pos (by omega), if_pos h4]
  ·rw [if_neg (by omega), if_neg h4]
theorem fr_info0 (h1 : 1 <= p) (h2 : p <= 1024) : infoG (1 + 16 * p) = (1, (p : Int), 0, true) := by
 have h := infoG_put (k := 1) (l := (p : Int)) (c := 0) (infoB_yes (by unfold infoP; omega))
 rw [infoV_yes (infoB_yes (by unfold infoP; omega))] at h
 rw [show 1 + 16 * p = (1 : Int).toNat + 16 * ((p : Int)).toNat + 65536 * (0 : Int).toNat by simp]
 exact h
theorem fr_K0 (h1 : 1 <= p) (h2 : p <= 1024) : (frH t p s).K 0 = 1 /\ (frH t p s).ln 0 = p := by
 have e : (frH t p s).cel 0 0 = 1 + 16 * p := by rw [fr_cel h1 h2 (by omega) (by omega), if_pos ⟨rfl, rfl⟩]
 unfold AuH.ln AuH.K AuH.L
 rw [e, fr_info0 h1 h2]
 exact ⟨rfl, by simp⟩
theorem fr_K (h1 : 1 <= p) (h2 : p <= 1024) {q : Nat} (hq : q < p) (h0 : q ≠ 0) : (frH t p s).K q = 0 := by
 have e : (frH t p s).cel q 0 = 0 := by rw [fr_cel h1 h2 hq (by omega), if_neg (fun h => h0 h.1), if_neg (fun h => by omega)]
 unfold AuH.K
 rw [e]
 decide
theorem fr_nx (h1 : 1 <= p) (h2 : p <= 1024) : (frH t p s).nx 0 = p /\ (frH t p s).can 0 = true := by
 obtain ⟨e1, e2⟩ := fr_K0 (t := t) (s := s) h1 h2
 unfold AuH.nx AuH.can
 rw [e1, e2]
 exact ⟨by omega, decide_eq_true ⟨by show 0 < p; omega, by decide, by show 0 + p <= p; omega⟩⟩
theorem fr_tgt0 (h1 : 1 <= p) (h2 : p <= 1024) : (frH t p s).tgt 0 = (frB p : Int) := by
 rw [AuH.tgt_free (fr_K0 h1 h2).1, (fr_K0 h1 h2).2]
 exact (frB_at h1 h2).1.symm
theorem fr_tgt (h1 : 1 <= p) (h2 : p <= 1024) {q : Nat} (hq : q < p) (h0 : q ≠ 0) : (frH t p s).tgt q = -1 := AuH.tgt_none (fr_K h1 h2 hq h0)
theorem fr_at (h1 : 1 <= p) (h2 : p <= 1024) {a : Nat} (h : (frH t p s).At a) (ha : a < p) : a = 0 := by
 rcases Nat.eq_zero_or_pos a with h3 | h3
 ·exact h3
 ·have := (AuH.At.next .zero h h3).2
  rw [(fr_nx h1 h2).1] at this
  omega
theorem fr_tiled (h1 : 1 <= p) (h2 : p <= 1024) : (frH t p s).Tiled := by
 have h := AuH.At.step (H := frH t p s) .zero (fr_nx h1 h2).2
 rw [(fr_nx h1 h2).1] at h
 refine ⟨h, fun a ha hc hl q h3 h4 => ?_⟩
 obtain rfl := fr_at h1 h2 ha hl
 rw [(fr_nx h1 h2).1] at h4
 rw [fr_cel h1 h2 h4 (by omega), if_neg (fun h => by omega), if_neg (fun h => by omega)]
theorem fr_sum (f : Nat -> Nat) (h : ∀ q, q ≠ 0 -> q < p -> f q = 0) : ∀ m, m <= p -> AuH.sumTo f m = if m = 0 then 0 else f 0
 | 0, _ => rfl
 | m + 1, hm => by
  show AuH.sumTo f m + f m = _
  rw [fr_sum f h m (by omega), if_neg (Nat.succ_ne_zero m)]
  by_cases h0 : m = 0
  ·subst h0; rw [if_pos rfl, Nat.zero_add]
  ·rw [if_neg h0, h m h0 (by omega), Nat.add_zero]
theorem fr_list (h1 : 1 <= p) (h2 : p <= 1024) (head : Nat) (h3 : 2 <= head) (h4 : head < 22) : (frH t p s).ListOk head := by
 have hb := frB_at h1 h2
 have e : (frH t p s).cnt (head : Int) p = (frH t p s).isF (head : Int) 0 := by
  unfold AuH.cnt
  rw [fr_sum _ (fun q h0 hq => by unfold AuH.isF; rw [fr_tgt h1 h2 hq h0, if_neg (by omega)]) p (Nat.le_refl _), if_neg (by omega)]
 show (frH t p s).chain (head : Int) ((frH t p s).cnt (head : Int) p) (frV t p head) 0
 rw [e]
 unfold AuH.isF
 rw [fr_tgt0 h1 h2]
 by_cases h : head = frB p
 ·subst h
  have ev : frV t p (frB p) = 1 := by unfold frV; rw [if_neg (by omega), if_pos rfl]
  rw [if_pos rfl, ev]
  refine ⟨⟨Nat.le_refl _, h1, fr_tgt0 h1 h2, ?_⟩, ?_⟩
  ·show (frH t p s).cel 0 3 = 0
   rw [fr_cel h1 h2 (by omega) (by omega), if_neg (by omega), if_neg (by omega)]
  ·show (frH t p s).cel 0 2 = 0
   rw [fr_cel h1 h2 (by omega) (by omega), if_neg (by omega), if_neg (by omega)]
 ·rw [if_neg (by omega)]
  show frV t p head = 0
  unfold frV
  rw [if_neg (by omega), if_neg h, if_neg (by omega), if_neg (by omega)]
theorem fr_rules (h1 : 1 <= p) (h2 : p <= 1024) : ∀ i, i < 10 -> (frH t p s).rule i := by
 intro i hi
 have hb := frB_at h1 h2
 have c0 : ∀ q b, q < p -> b < 6 -> b ≠ 0 -> b ≠ 1 -> (frH t p s).cel q b = 0 := fun q b hq h3 h4 h5 => by rw [fr_cel h1 h2 hq h3, if_neg (fun h => h4 h.2), if_neg (fun h => h5 h.2)]
 rcases (by omega : i = 0 \/ i = 1 \/ i = 2 \/ i = 3 \/ i = 4 \/ i = 5 \/ i = 6 \/ i = 7 \/ i = 8 \/ i = 9) with rfl | rfl | rfl | rfl | rfl | rfl | rfl | rfl | rfl | rfl
 ·exact trivial
 ·exact fr_tiled h1 h2
 ·intro q hq hk
  have hq : q < p := hq
  have : q = 0 := Classical.byContradiction (fun h => hk (fr_K h1 h2 hq h))
  subst this
  refine ⟨fun r h3 h4 => ?_, ?_⟩
  ·rw [(fr_K0 h1 h2).2] at h4
   rw [fr_cel h1 h2 (by omega) (by omega), if_neg (by omega), if_neg (by omega)]
  ·rw [(fr_K0 h1 h2).2, fr_cel h1 h2 (by omega) (by omega), if_neg (by omega), if_pos (by omega)]
 ·intro q ha hq hk hn
  obtain rfl := fr_at h1 h2 ha hq
  rw [(fr_nx h1 h2).1] at hn
  exact absurd hn (Nat.lt_irrefl _)
 ·intro q hq
  have hq : q < p := hq
  refine ⟨fun h => ?_, fun _ => ⟨c0 q 5 hq (by omega) (by omega) (by omega), c0 q 4 hq (by omega) (by omega) (by omega)⟩⟩
  rcases Nat.eq_zero_or_pos q with h3 | h3
  ·subst h3; rw [(fr_K0 h1 h2).1] at h; exact absurd h (by decide)
  ·rw [fr_K h1 h2 hq (by omega)] at h; exact absurd h (by decide)
 ·exact fun k hk => fr_list h1 h2 (2 + k) (by omega) (by omega)
 ·exact fun k hk => fr_list h1 h2 (13 + k) (by omega) (by omega)
 ·intro q hq ht
  exact ⟨c0 q 2 hq (by omega) (by omega) (by omega), c0 q 3 hq (by omega) (by omega) (by omega)⟩
 ·have e1 : AuH.sumTo (frH t p s).freeF p = p := by
   rw [fr_sum _ (fun q h0 hq => AuH.freeF_no (fr_K h1 h2 hq h0)) p (Nat.le_refl _), if_neg (by omega)]
   unfold AuH.freeF
   rw [if_pos (fr_K0 h1 h2).1, (fr_K0 h1 h2).2]
  have e2 : AuH.sumTo (frH t p s).liveF p = 0 := by
   rw [fr_sum _ (fun q h0 hq => AuH.liveF_no (fr_K h1 h2 hq h0)) p (Nat.le_refl _), if_neg (by omega)]
   unfold AuH.liveF
   rw [(fr_K0 h1 h2).1, if_neg (by decide), if_neg (by decide)]
  show frV t p 0 = AuH.sumTo (frH t p s).freeF p % 4294967296 /\ frV t p 1 = AuH.sumTo (frH t p s).liveF p % 4294967296
  rw [e1, e2]
  refine ⟨?_, ?_⟩
  ·show p = _
   omega
  ·unfold frV
   rw [if_neg (by omega), if_neg (by omega), if_neg (by omega), if_neg (by omega)]
 ·intro i hi h
  exfalso
  apply h
  show frV t p (22 + i) = 0
  unfold frV
  rw [if_neg (by omega), if_neg (by omega), if_neg (by omega), if_neg (by omega)]
theorem fr_hand (h1 : 1 <= p) (h2 : p <= 1024) (q : Nat) (hq : q < p) : (frH t p s).K q ≠ 3 /\ (frH t p s).K q ≠ 2 := by
 rcases Nat.eq_zero_or_pos q with h3 | h3
 ·subst h3; rw [(fr_K0 h1 h2).1]; decide
 ·rw [fr_K h1 h2 hq (by omega)]; decide
theorem frV_lt (h1 : 1 <= p) (h2 : p <= 1024) (i : Nat) : frV t p i < 2 ^ 32 := by
 unfold frV
 split
 ·omega
 ·split
  ·omega
  ·split
   ·omega
   ·split <;> omega
end
end
end Go.Proofs.YtlpcdfcghgapkaaGreat

namespace Go.Proofs.YtlpcdfcghgapkaaGreat
open Go.ChangeShapes Go.WideShapes Go.ChangeAt Go.RowKit
set_option linter.unusedVariables false
set_option linter.unusedSimpArgs false
section
theorem r7Bin_c (k : Int) (w : World) :
  Calls Tryz.prog 96 #[.int .i64 k] w fun z w' => z = .returned (.int .i64 (nthI 2 11 1 k)) /\ w = w' := by
 by_cases c0 : k < 0
 ·have HN := hidp (nth_off (f := 2) (n := 11) (e := 1) (.inr (.inl c0)))
  go_enter Tryz.func96, Tryz.ntmps96
  go_wp2
  go_ret
  exact ⟨by rw [HN.out]; rfl, rfl⟩
 ·by_cases c1 : 11 <= k
  ·have HN := hidp (nth_off (f := 2) (n := 11) (e := 1) (.inr (.inr c1)))
   go_enter Tryz.func96, Tryz.ntmps96
   go_wp2
   go_ret
   exact ⟨by rw [HN.out]; rfl, rfl⟩
  ·have HN := hidp (show nthI 2 11 1 k = 2 + k by rw [nth_on (by omega) (by omega) (by omega)]; omega)
   go_enter Tryz.func96, Tryz.ntmps96
   go_wp2
   go_ret
   exact ⟨by rw [HN.out]; rfl, rfl⟩

theorem r7Rack_c (k : Int) (w : World) :
  Calls Tryz.prog 99 #[.int .i64 k] w fun z w' => z = .returned (.int .i64 (nthI 13 9 1 k)) /\ w = w' := by
 by_cases c0 : k < 0
 ·have HN := hidp (nth_off (f := 13) (n := 9) (e := 1) (.inr (.inl c0)))
  go_enter Tryz.func99, Tryz.ntmps99
  go_wp2
  go_ret
  exact ⟨by rw [HN.out]; rfl, rfl⟩
 ·by_cases c1 : 9 <= k
  ·have HN := hidp (nth_off (f := 13) (n := 9) (e := 1) (.inr (.inr c1)))
   go_enter Tryz.func99, Tryz.ntmps99
   go_wp2
   go_ret
   exact ⟨by rw [HN.out]; rfl, rfl⟩
  ·have HN := hidp (show nthI 13 9 1 k = 13 + k by rw [nth_on (by omega) (by omega) (by omega)]; omega)
   go_enter Tryz.func99, Tryz.ntmps99
   go_wp2
   go_ret
   exact ⟨by rw [HN.out]; rfl, rfl⟩

theorem r7Root_c (k : Int) (w : World) :
  Calls Tryz.prog 24 #[.int .i64 k] w fun z w' => z = .returned (.int .i64 (nthI 22 8 1 k)) /\ w = w' := by
 by_cases c0 : k < 0
 ·have HN := hidp (nth_off (f := 22) (n := 8) (e := 1) (.inr (.inl c0)))
  go_enter Tryz.func24, Tryz.ntmps24
  go_wp2
  go_ret
  exact ⟨by rw [HN.out]; rfl, rfl⟩
 ·by_cases c1 : 8 <= k
  ·have HN := hidp (nth_off (f := 22) (n := 8) (e := 1) (.inr (.inr c1)))
   go_enter Tryz.func24, Tryz.ntmps24
   go_wp2
   go_ret
   exact ⟨by rw [HN.out]; rfl, rfl⟩
  ·have HN := hidp (show nthI 22 8 1 k = 22 + k by rw [nth_on (by omega) (by omega) (by omega)]; omega)
   go_enter Tryz.func24, Tryz.ntmps24
   go_wp2
   go_ret
   exact ⟨by rw [HN.out]; rfl, rfl⟩

theorem r7Cells_c (t p s : Int) (w : World) :
  Calls Tryz.prog 68 #[.agg #[.int .i64 t, .int .i64 p, .int .i64 s]] w fun z w' => z = .returned (.int .i64 (lC t p s)) /\ Below w.heap.size w w' := by
 have hc := Held.new w 23 #[.int .i64 t, .int .i64 p, .int .i64 s]
 cases hr : rightB t p s
 ·have HR := hidp hr
  have HN := hidp (lay_no hr).hC
  clear hr
  go_enter Tryz.func68, Tryz.ntmps68
  go_wp2_with fail
  refine (r4Right_c t p s _).mono ?_
  rintro e w1 ⟨rfl, hb1⟩
  rw [HR.out]
  have hc1 := hc.keep hb1
  obtain ⟨x0, x1, x2⟩ := hc1.three
  go_wp2
  go_ret
  exact ⟨by rw [HN.out]; rfl, Bgo (Bnew (B0 _) _) hb1⟩
 ·have HR := hidp hr
  have HN := hidp (lay_yes hr).hC
  have hn := (rightB_iff t p s).1 hr
  have t0 : 1 <= t := by omega
  have t1 : t <= 16 := by omega
  have p0 : 4 <= p := by omega
  have p1 : p <= 1024 := by omega
  clear hn
  clear hr
  go_enter Tryz.func68, Tryz.ntmps68
  go_wp2_with fail
  refine (r4Right_c t p s _).mono ?_
  rintro e w1 ⟨rfl, hb1⟩
  rw [HR.out]
  have hc1 := hc.keep hb1
  obtain ⟨x0, x1, x2⟩ := hc1.three
  go_wp2
  go_ret
  exact ⟨by rw [HN.out]; rfl, Bgo (Bnew (B0 _) _) hb1⟩

set_option maxHeartbeats 1600000 in
theorem r7Page_c (t p s q b : Int) (b0 : 0 <= b) (b1 : b < 6) (w : World) :
  Calls Tryz.prog 110 #[.agg #[.int .i64 t, .int .i64 p, .int .i64 s], .int .i64 q, .int .i64 b] w fun z w' => z = .returned (.int .i64 (pageI t p s q b)) /\ Below w.heap.size w w' := by
 have hc := Held.new w 23 #[.int .i64 t, .int .i64 p, .int .i64 s]
 cases hr : rightB t p s
 ·have HR := hidp hr
  have HN := hidp (show pageI t p s q b = -1 from pcell_no (by intro h; rw [h.1] at hr; cases hr))
  clear hr
  go_enter Tryz.func110, Tryz.ntmps110
  go_wp2_with fail
  refine (r4Right_c t p s _).mono ?_
  rintro e w1 ⟨rfl, hb1⟩
  rw [HR.out]
  have hc1 := hc.keep hb1
  obtain ⟨x0, x1, x2⟩ := hc1.three
  go_wp2
  go_ret
  refine ⟨by rw [HN.out]; rfl, ?_⟩
  all_goals exact blz
 ·have HR := hidp hr
  have hn := (rightB_iff t p s).1 hr
  have t0 : 1 <= t := by omega
  have t1 : t <= 16 := by omega
  have p0 : 4 <= p := by omega
  have p1 : p <= 1024 := by omega
  clear hn
  by_cases c0 : q < 0
  ·clear hr
   have HN := hidp (show pageI t p s q b = -1 from pcell_no (by intro h; omega))
   go_enter Tryz.func110, Tryz.ntmps110
   go_wp2_with fail
   refine (r4Right_c t p s _).mono ?_
   rintro e w1 ⟨rfl, hb1⟩
   rw [HR.out]
   have hc1 := hc.keep hb1
   obtain ⟨x0, x1, x2⟩ := hc1.three
   go_wp2
   go_ret
   refine ⟨by rw [HN.out]; rfl, ?_⟩
   all_goals exact blz
  ·skip
   by_cases c1 : p <= q
   ·clear hr
    have HN := hidp (show pageI t p s q b = -1 from pcell_no (by intro h; omega))
    go_enter Tryz.func110, Tryz.ntmps110
    go_wp2_with fail
    refine (r4Right_c t p s _).mono ?_
    rintro e w1 ⟨rfl, hb1⟩
    rw [HR.out]
    have hc1 := hc.keep hb1
    obtain ⟨x0, x1, x2⟩ := hc1.three
    go_wp2
    go_ret
    refine ⟨by rw [HN.out]; rfl, ?_⟩
    all_goals exact blz
   ·skip
    have HN := hidp (show pageI t p s q b = 30 + 4 * t + 6 * q + b from pcell_yes hr (by omega) (by omega) b0 b1)
    clear hr
    go_enter Tryz.func110, Tryz.ntmps110
    go_wp2_with fail
    refine (r4Right_c t p s _).mono ?_
    rintro e w1 ⟨rfl, hb1⟩
    rw [HR.out]
    have hc1 := hc.keep hb1
    obtain ⟨x0, x1, x2⟩ := hc1.three
    go_wp2
    go_ret
    refine ⟨by rw [HN.out]; rfl, ?_⟩
    all_goals exact blz

theorem r7Info_c (t p s q : Int) (w : World) :
  Calls Tryz.prog 90 #[.agg #[.int .i64 t, .int .i64 p, .int .i64 s], .int .i64 q] w fun z w' => z = .returned (.int .i64 (pageI t p s q 0)) /\ Below w.heap.size w w' := by
 go_enter Tryz.func90, Tryz.ntmps90
 go_wp2_with fail
 refine (r7Page_c t p s q 0 (by omega) (by omega) _).mono ?_
 rintro e w1 ⟨rfl, hb1⟩
 go_wp2
 go_ret
 exact ⟨by first | rfl | trivial, Bgo (Bnew (B0 _) _) hb1⟩

theorem r7Foot_c (t p s q : Int) (w : World) :
  Calls Tryz.prog 91 #[.agg #[.int .i64 t, .int .i64 p, .int .i64 s], .int .i64 q] w fun z w' => z = .returned (.int .i64 (pageI t p s q 1)) /\ Below w.heap.size w w' := by
 go_enter Tryz.func91, Tryz.ntmps91
 go_wp2_with fail
 refine (r7Page_c t p s q 1 (by omega) (by omega) _).mono ?_
 rintro e w1 ⟨rfl, hb1⟩
 go_wp2
 go_ret
 exact ⟨by first | rfl | trivial, Bgo (Bnew (B0 _) _) hb1⟩

theorem r7Next_c (t p s q : Int) (w : World) :
  Calls Tryz.prog 102 #[.agg #[.int .i64 t, .int .i64 p, .int .i64 s], .int .i64 q] w fun z w' => z = .returned (.int .i64 (pageI t p s q 2)) /\ Below w.heap.size w w' := by
 go_enter Tryz.func102, Tryz.ntmps102
 go_wp2_with fail
 refine (r7Page_c t p s q 2 (by omega) (by omega) _).mono ?_
 rintro e w1 ⟨rfl, hb1⟩
 go_wp2
 go_ret
 exact ⟨by first | rfl | trivial, Bgo (Bnew (B0 _) _) hb1⟩

theorem r7Prev_c (t p s q : Int) (w : World) :
  Calls Tryz.prog 103 #[.agg #[.int .i64 t, .int .i64 p, .int .i64 s], .int .i64 q] w fun z w' => z = .returned (.int .i64 (pageI t p s q 3)) /\ Below w.heap.size w w' := by
 go_enter Tryz.func103, Tryz.ntmps103
 go_wp2_with fail
 refine (r7Page_c t p s q 3 (by omega) (by omega) _).mono ?_
 rintro e w1 ⟨rfl, hb1⟩
 go_wp2
 go_ret
 exact ⟨by first | rfl | trivial, Bgo (Bnew (B0 _) _) hb1⟩

theorem r7Slots_c (t p s q : Int) (w : World) :
  Calls Tryz.prog 111 #[.agg #[.int .i64 t, .int .i64 p, .int .i64 s], .int .i64 q] w fun z w' => z = .returned (.int .i64 (pageI t p s q 4)) /\ Below w.heap.size w w' := by
 go_enter Tryz.func111, Tryz.ntmps111
 go_wp2_with fail
 refine (r7Page_c t p s q 4 (by omega) (by omega) _).mono ?_
 rintro e w1 ⟨rfl, hb1⟩
 go_wp2
 go_ret
 exact ⟨by first | rfl | trivial, Bgo (Bnew (B0 _) _) hb1⟩

theorem r7Taken_c (t p s q : Int) (w : World) :
  Calls Tryz.prog 112 #[.agg #[.int .i64 t, .int .i64 p, .int .i64 s], .int .i64 q] w fun z w' => z = .returned (.int .i64 (pageI t p s q 5)) /\ Below w.heap.size w w' := by
 go_enter Tryz.func112, Tryz.ntmps112
 go_wp2_with fail
 refine (r7Page_c t p s q 5 (by omega) (by omega) _).mono ?_
 rintro e w1 ⟨rfl, hb1⟩
 go_wp2
 go_ret
 exact ⟨by first | rfl | trivial, Bgo (Bnew (B0 _) _) hb1⟩
end
end Go.Proofs.YtlpcdfcghgapkaaGreat

namespace Go.Proofs.YtlpcdfcghgapkaaGreat
open Go.ChangeShapes Go.WideShapes Go.ChangeAt Go.RowKit Go.Maps
set_option linter.unusedVariables false
set_option linter.unusedSimpArgs false
set_option maxRecDepth 100000
section
structure Blk where
 n : Nat
 t : TypeId
 cs : Array Value
def GB (G : Nat -> Prop) (L : List Blk) : Nat -> Prop := fun g => G g \/ ∃ x, x ∈ L /\ x.n = g

structure WL (O : Ob) (w0 : World) (A G : Nat -> Prop) (ws : World) (L : List Blk) (st : Vst) (w : World) : Prop where
 at_ : O.At w0 A (GB G L) st w
 held : ∀ x ∈ L, Held w x.n x.t x.cs
 stay : Stay G ws w
 lo : ∀ x ∈ L, ws.heap.size <= x.n
 nd : (L.map (·.n)).Nodup

section
variable {O : Ob} {w0 ws w w' : World} {A G : Nat -> Prop} {L : List Blk} {x y z : Blk} {st s' : Vst}
theorem WL.start (h : O.At w0 A G st ws) : WL O w0 A G ws [] st ws :=
 ⟨h.less (fun g hg => by
  rcases hg with hg | ⟨x, hx, _⟩
  ·exact hg
  ·exact absurd hx (List.not_mem_nil)), fun x hx => absurd hx (List.not_mem_nil), Stay.of_below (B0 _) G, fun x hx => absurd hx (List.not_mem_nil), List.nodup_nil⟩
theorem WL.keep (h : WL O w0 A G ws L st w) (hb : Below w.heap.size w w') : WL O w0 A G ws L st w' :=
 ⟨h.at_.keep hb, fun x hx => (h.held x hx).keep hb, h.stay.trans (Stay.of_below hb G), h.lo, h.nd⟩
theorem WL.drew (h : WL O w0 A G ws L st w) : WL O w0 A G ws L st w.drew := h.keep (Bdrew (B0 w))
theorem WL.alloc (h : WL O w0 A G ws L st w) (o : Obj) : WL O w0 A G ws L st (w.alloc o) := h.keep (Bnew (B0 w) o)
theorem WL.call (h : WL O w0 A G ws L st w) (h1 : O.At w0 A (GB G L) s' w') (h2 : Stay (GB G L) w w') : WL O w0 A G ws L s' w' :=
 ⟨h1, fun x hx => h2.held (.inr ⟨x, hx, rfl⟩) (h.held x hx), h.stay.trans (h2.less fun g x => .inl x), h.lo, h.nd⟩
theorem WL.fin (h : WL O w0 A G ws L st w) : O.At w0 A G st w /\ Stay G ws w := ⟨h.at_.less fun g x => .inl x, h.stay⟩
theorem WL.new (h : WL O w0 A G ws L st w) (t : TypeId) (cs : Array Value) : WL O w0 A G ws (⟨w.heap.size, t, cs⟩ :: L) st (w.alloc (.cells cs t)) := by
 have hk := h.alloc (.cells cs t)
 refine ⟨(h.at_.box (.cells cs t)).less (fun g hg => ?_), fun x hx => ?_, hk.stay, fun x hx => ?_, ?_⟩
 ·rcases hg with hg | ⟨x, hx, rfl⟩
  ·exact .inl (.inl hg)
  ·rcases List.mem_cons.1 hx with rfl | hx
   ·exact .inr rfl
   ·exact .inl (.inr ⟨x, hx, rfl⟩)
 ·rcases List.mem_cons.1 hx with rfl | hx
  ·exact Held.new w t cs
  ·exact hk.held x hx
 ·rcases List.mem_cons.1 hx with rfl | hx
  ·exact h.stay.1
  ·exact h.lo x hx
 ·rw [List.map_cons]
  refine List.nodup_cons.2 ⟨fun hm => ?_, h.nd⟩
  obtain ⟨x, hx, e⟩ := List.mem_map.1 hm
  have h1 := (h.held x hx).lt
  have e : x.n = w.heap.size := e
  omega
theorem WL.h0 (h : WL O w0 A G ws (x :: L) st w) : Held w x.n x.t x.cs := h.held x (List.mem_cons_self ..)
end
end
end Go.Proofs.YtlpcdfcghgapkaaGreat

namespace Go.Proofs.YtlpcdfcghgapkaaGreat
open Go.ChangeShapes Go.WideShapes Go.ChangeAt Go.RowKit Go.Maps
set_option linter.unusedVariables false
set_option linter.unusedSimpArgs false
section
def ofI (n : Int) : Int := if n < 1 \/ 1024 < n then -1 else HM.logI n
theorem ofI_nat {n : Nat} (h1 : 1 <= n) (h2 : n <= 1024) : ∃ k : Nat, ofI (n : Int) = k /\ k <= 10 /\ 2 ^ k <= n /\ n < 2 ^ (k + 1) := by
 have h : ∃ k : Nat, k <= 10 /\ 2 ^ k <= n /\ n < 2 ^ (k + 1) := by
  rcases Nat.lt_or_ge n 1024 with h3 | h3
  ·refine ⟨Nat.log2 n, ?_, Nat.log2_self_le (by omega), Nat.lt_log2_self⟩
   have := Nat.log2_lt (n := n) (k := 10) (by omega)
   have := this.2 h3
   omega
  ·exact ⟨10, by omega, by omega, by omega⟩
 obtain ⟨k, hk, ha, hb⟩ := h
 refine ⟨k, ?_, hk, ha, hb⟩
 unfold ofI
 rw [if_neg (by omega)]
 exact HM.logI_at (n : Int) k (by
  have e : ((n : Int) / 2 ^ k) = ((n / 2 ^ k : Nat) : Int) := by push_cast; rfl
  rw [e]
  have := Nat.div_le_div_right (c := 2 ^ k) ha
  rw [Nat.div_self (Nat.two_pow_pos k)] at this
  omega) (by
  have e : ((n : Int) / 2 ^ (k + 1)) = ((n / 2 ^ (k + 1) : Nat) : Int) := by push_cast; rfl
  rw [e, Nat.div_eq_of_lt hb]
  omega)

section
variable (n : Nat) (K : Nat -> Option Nat) (t q s nn : Int)
end

def binH (nn : Int) : Int := nthI 2 11 1 (ofI nn)
theorem binH_nat {nn k : Nat} (h : ofI (nn : Int) = (k : Int)) (hk : k <= 10) : binH (nn : Int) = ((2 + k : Nat) : Int) := by
 unfold binH
 rw [h, nth_on (by omega) (by omega) (by omega)]
 push_cast
 omega
section
variable (n : Nat) (K : Nat -> Option Nat) (t q s : Int)
def addS (p nn : Int) (st : Vst) : Vst := if pgB q p = true /\ 1 <= nn /\ nn <= q - p then pushI n K t q s (binH nn) p (putS n (putS n st (pageI t q s p 0) (infoV 1 nn 0)) (pageI t q s (p + nn - 1) 1) (p.toNat + 1)) else st
end
end
end Go.Proofs.YtlpcdfcghgapkaaGreat

namespace Go.Proofs.YtlpcdfcghgapkaaGreat
open Go.ChangeShapes Go.WideShapes Go.ChangeAt Go.RowKit Go.Maps
set_option linter.unusedVariables false
set_option linter.unusedSimpArgs false
set_option maxRecDepth 100000
section
theorem Held.drw {w : World} {g : Nat} {t : TypeId} {cs : Array Value} (h : Held w g t cs) : Held w.drew g t cs := h
section
variable {w : World} {g : Nat} {t : TypeId} {c0 c1 c2 c3 c4 c5 : Value}
theorem Held.six' (h : Held w g t #[c0, c1, c2, c3, c4, c5]) : w.cell? ⟨g, 0, none⟩ = some c0 /\ w.cell? ⟨g, 1, none⟩ = some c1 /\ w.cell? ⟨g, 2, none⟩ = some c2 /\ w.cell? ⟨g, 3, none⟩ = some c3 /\ w.cell? ⟨g, 4, none⟩ = some c4 /\ w.cell? ⟨g, 5, none⟩ = some c5 := ⟨h.cell 0, h.cell 1, h.cell 2, h.cell 3, h.cell 4, h.cell 5⟩
end

theorem lkIs_c (b : Nat) (t q s hd p : Int) (w : World) :
  Calls Tryz.prog 56 #[.agg #[.pointer (some ⟨b, 0, none⟩), .int .i64 t, .int .i64 q, .int .i64 s, .int .i64 hd, .int .i64 p]] w fun e w' => e = .returned (.bool (pgB q p)) /\ Below w.heap.size w w' := by
 have hB := Bnew (B0 w) (.cells #[.pointer (some ⟨b, 0, none⟩), .int .i64 t, .int .i64 q, .int .i64 s, .int .i64 hd, .int .i64 p] 109)
 obtain ⟨x0, x1, x2, x3, x4, x5⟩ := (Held.new w 109 #[.pointer (some ⟨b, 0, none⟩), .int .i64 t, .int .i64 q, .int .i64 s, .int .i64 hd, .int .i64 p]).six'
 unfold pgB
 by_cases h0 : 0 <= p
 ·have t0 : decide ((0 : Int) <= p) = true := decide_eq_true h0
  obtain ⟨c, t1⟩ : ∃ c, decide (p < q) = c := ⟨_, rfl⟩
  rw [t0, t1]
  cases c with
  | true =>
   go_enter Tryz.func56, Tryz.ntmps56
   go_wp2
   go_ret
   exact ⟨rfl, hB⟩
  | false =>
   go_enter Tryz.func56, Tryz.ntmps56
   go_wp2
   go_ret
   exact ⟨rfl, hB⟩
 ·have t0 : decide ((0 : Int) <= p) = false := decide_eq_false h0
  rw [t0]
  go_enter Tryz.func56, Tryz.ntmps56
  go_wp2
  go_ret
  exact ⟨rfl, hB⟩

theorem lkLink_c (b : Nat) (t q s hd : Int) (k : Nat) (hk : k < 2 ^ 31) (w : World) :
  Calls Tryz.prog 61 #[.agg #[.pointer (some ⟨b, 0, none⟩), .int .i64 t, .int .i64 q, .int .i64 s, .int .i64 hd, .int .i64 (k : Int)]] w fun e w' => e = .returned (.int .u32 ((k + 1 : Nat) : Int)) /\ Below w.heap.size w w' := by
 have hB := Bnew (B0 w) (.cells #[.pointer (some ⟨b, 0, none⟩), .int .i64 t, .int .i64 q, .int .i64 s, .int .i64 hd, .int .i64 (k : Int)] 109)
 go_enter Tryz.func61, Tryz.ntmps61
 go_wp2
 go_ret
 exact ⟨by simp, hB⟩

set_option maxHeartbeats 1600000 in
theorem lkTo_c (b : Nat) (t q s hd : Int) (l : Nat) (hl : l < 2 ^ 32) (w : World) :
  Calls Tryz.prog 60 #[.agg #[.pointer (some ⟨b, 0, none⟩), .int .i64 t, .int .i64 q, .int .i64 s, .int .i64 hd], .int .u32 (l : Int)] w fun e w' => e = .returned (.agg #[.pointer (some ⟨b, 0, none⟩), .int .i64 t, .int .i64 q, .int .i64 s, .int .i64 hd, .int .i64 ((l : Int) - 1)]) /\ Below w.heap.size w w' := by
 go_enter Tryz.func60, Tryz.ntmps60
 go_wp2
 have hfin := Held.new2 w (.cells #[.pointer (some ⟨b, 0, none⟩), .int .i64 t, .int .i64 q, .int .i64 s, .int .i64 hd] 107) 109 #[.pointer (some ⟨b, 0, none⟩), .int .i64 t, .int .i64 q, .int .i64 s, .int .i64 hd, .int .i64 ((l : Int) - 1)]
 obtain ⟨r0, r1, r2, r3, r4, r5⟩ := hfin.six'
 refine bodyPost_ret (v := .agg #[.pointer (some ⟨b, 0, none⟩), .int .i64 t, .int .i64 q, .int .i64 s, .int .i64 hd, .int .i64 ((l : Int) - 1)]) (by simp [results, Tryz.results60, go_sem, r0, r1, r2, r3, r4, r5]) rfl ⟨rfl, ?_⟩
 exact Bnew (Bnew (B0 _) _) _

section
variable {base b n : Nat} {wh : Bool} {K : Nat -> Option Nat} {st : Vst} {w w0 : World} {A G : Nat -> Prop} {t q s hd p : Int}

theorem lkFirst_c (hn : n < 2 ^ 40) (h : (vOb base b n wh K).At w0 A G st w) :
  Calls Tryz.prog 57 #[.agg #[.pointer (some ⟨b, 0, none⟩), .int .i64 t, .int .i64 q, .int .i64 s, .int .i64 hd]] w fun e w' => e = .returned (.int .u32 ((getV n K st hd : Nat) : Int)) /\ (vOb base b n wh K).At w0 A G (getS n K st hd) w' /\ Stay G w w' := by
 have HA := hidp (h.alloc (.cells #[.pointer (some ⟨b, 0, none⟩), .int .i64 t, .int .i64 q, .int .i64 s, .int .i64 hd] 107))
 have hS : Stay G w (w.alloc (.cells #[.pointer (some ⟨b, 0, none⟩), .int .i64 t, .int .i64 q, .int .i64 s, .int .i64 hd] 107)) := Stay.of_below (Bnew (B0 w) _) G
 clear h
 go_enter Tryz.func57, Tryz.ntmps57
 go_wp2_with fail
 refine (vGetA hn hd HA.out).mono ?_
 rintro e w1 ⟨rfl, h1, h2⟩
 go_wp2
 go_ret
 exact ⟨rfl, h1, hS.trans h2⟩

theorem lkSetFirst_c (hn : n < 2 ^ 40) (l : Nat) (hl : l < 2 ^ 32) (h : (vOb base b n wh K).At w0 A G st w) :
  Calls Tryz.prog 62 #[.agg #[.pointer (some ⟨b, 0, none⟩), .int .i64 t, .int .i64 q, .int .i64 s, .int .i64 hd], .int .u32 (l : Int)] w fun e w' => e = .returned (.tuple #[]) /\ (vOb base b n wh K).At w0 A G (putS n st hd l) w' /\ Stay G w w' := by
 have HA := hidp (h.alloc (.cells #[.pointer (some ⟨b, 0, none⟩), .int .i64 t, .int .i64 q, .int .i64 s, .int .i64 hd] 107))
 have hS : Stay G w (w.alloc (.cells #[.pointer (some ⟨b, 0, none⟩), .int .i64 t, .int .i64 q, .int .i64 s, .int .i64 hd] 107)) := Stay.of_below (Bnew (B0 w) _) G
 clear h
 go_enter Tryz.func62, Tryz.ntmps62
 go_wp2_with fail
 refine (vPutA hn hd l hl HA.out).mono ?_
 rintro e w1 ⟨rfl, h1, h2⟩
 go_wp2
 go_end0
 exact ⟨rfl, h1, hS.trans h2⟩

set_option maxHeartbeats 1600000 in
theorem lkSetNext_c (hn : n < 2 ^ 40) (l : Nat) (hl : l < 2 ^ 32) (h : (vOb base b n wh K).At w0 A G st w) :
  Calls Tryz.prog 58 #[.agg #[.pointer (some ⟨b, 0, none⟩), .int .i64 t, .int .i64 q, .int .i64 s, .int .i64 hd, .int .i64 p], .int .u32 (l : Int)] w fun e w' => e = .returned (.tuple #[]) /\ (vOb base b n wh K).At w0 A G (putS n st (pageI t q s p 2) l) w' /\ Stay G w w' := by
 have HA := hidp (h.box (.cells #[.pointer (some ⟨b, 0, none⟩), .int .i64 t, .int .i64 q, .int .i64 s, .int .i64 hd, .int .i64 p] 109))
 have HC := hidp (Held.new w 109 #[.pointer (some ⟨b, 0, none⟩), .int .i64 t, .int .i64 q, .int .i64 s, .int .i64 hd, .int .i64 p])
 have HS := hidp (Stay.of_below (Bnew (B0 w) (.cells #[.pointer (some ⟨b, 0, none⟩), .int .i64 t, .int .i64 q, .int .i64 s, .int .i64 hd, .int .i64 p] 109)) G)
 clear h
 go_enter Tryz.func58, Tryz.ntmps58
 go_wp2_with fail
 refine wp_region_held_drew (S := (fun w' => w'.cell? ⟨w.heap.size, 0, none⟩ = some (.pointer (some ⟨b, 0, none⟩)) /\ w'.cell? ⟨w.heap.size, 1, none⟩ = some (.int .i64 t) /\ w'.cell? ⟨w.heap.size, 2, none⟩ = some (.int .i64 q) /\ w'.cell? ⟨w.heap.size, 3, none⟩ = some (.int .i64 s) /\ w'.cell? ⟨w.heap.size, 4, none⟩ = some (.int .i64 hd) /\ w'.cell? ⟨w.heap.size, 5, none⟩ = some (.int .i64 p))) (by kernel_rfl) ?_ (fun hHeld => ?_)
 ·(try dsimp only)
  first | exact HC.out.drw.six' | exact HC1.out.six' | exact HC2.out.six' | exact hHeld
 refine tkz 0 ?_
 refine tkz 1 ?_
 refine tkz 2 ?_
 refine tkz 3 ?_
 refine tkz 4 ?_
 refine tkz 5 ?_
 refine tkz 6 ?_
 refine tkz 7 ?_
 refine tkz 9 ?_
 refine rdz 8 fun K hK => ?_
 go_simp
 refine (plNext_c _ _ _ _ _).mono ?_; rintro e w1 ⟨rfl, hb1⟩; have HA1 := hidp (HA.out.drew.keep hb1); have HC1 := hidp (HC.out.drw.keep hb1); have HS1 := hidp ((HS.out.trans (Stay.of_below (Bdrew (B0 _)) _)).trans (Stay.of_below hb1 _)); clear HA HC HS hb1
 refine hK.out _ _ ?_ (fun hHeld => ?_)
 ·(try dsimp only)
  first | exact HC.out.drw.six' | exact HC1.out.six' | exact HC2.out.six' | exact hHeld
 clear hK K
 (try simp only [Act.put, gA, gB, gC, sA, sB, sC])
 refine rdz 10 fun K hK => ?_
 go_simp
 refine (vPutA hn _ l hl HA1.out).mono ?_; rintro e w2 ⟨rfl, h1, h2⟩; have HA2 := hidp (h1.less fun g x => Or.inl x); have HC2 := hidp (h2.held (Or.inr rfl) HC1.out); have HS2 := hidp (HS1.out.trans (h2.less fun g x => Or.inl x)); clear HA1 HC1 HS1 h1 h2
 refine hK.out _ _ ?_ (fun hHeld => ?_)
 ·(try dsimp only)
  first | exact HC.out.drw.six' | exact HC1.out.six' | exact HC2.out.six' | exact hHeld
 clear hK K
 (try simp only [Act.put, gA, gB, gC, sA, sB, sC])
 refine dnz ?_
 go_wp2
 go_end0
 exact ⟨rfl, HA2.out, HS2.out⟩

set_option maxHeartbeats 1600000 in
theorem lkSetPrev_c (hn : n < 2 ^ 40) (l : Nat) (hl : l < 2 ^ 32) (h : (vOb base b n wh K).At w0 A G st w) :
  Calls Tryz.prog 59 #[.agg #[.pointer (some ⟨b, 0, none⟩), .int .i64 t, .int .i64 q, .int .i64 s, .int .i64 hd, .int .i64 p], .int .u32 (l : Int)] w fun e w' => e = .returned (.tuple #[]) /\ (vOb base b n wh K).At w0 A G (putS n st (pageI t q s p 3) l) w' /\ Stay G w w' := by
 have HA := hidp (h.box (.cells #[.pointer (some ⟨b, 0, none⟩), .int .i64 t, .int .i64 q, .int .i64 s, .int .i64 hd, .int .i64 p] 109))
 have HC := hidp (Held.new w 109 #[.pointer (some ⟨b, 0, none⟩), .int .i64 t, .int .i64 q, .int .i64 s, .int .i64 hd, .int .i64 p])
 have HS := hidp (Stay.of_below (Bnew (B0 w) (.cells #[.pointer (some ⟨b, 0, none⟩), .int .i64 t, .int .i64 q, .int .i64 s, .int .i64 hd, .int .i64 p] 109)) G)
 clear h
 go_enter Tryz.func59, Tryz.ntmps59
 go_wp2_with fail
 refine wp_region_held_drew (S := (fun w' => w'.cell? ⟨w.heap.size, 0, none⟩ = some (.pointer (some ⟨b, 0, none⟩)) /\ w'.cell? ⟨w.heap.size, 1, none⟩ = some (.int .i64 t) /\ w'.cell? ⟨w.heap.size, 2, none⟩ = some (.int .i64 q) /\ w'.cell? ⟨w.heap.size, 3, none⟩ = some (.int .i64 s) /\ w'.cell? ⟨w.heap.size, 4, none⟩ = some (.int .i64 hd) /\ w'.cell? ⟨w.heap.size, 5, none⟩ = some (.int .i64 p))) (by kernel_rfl) ?_ (fun hHeld => ?_)
 ·(try dsimp only)
  first | exact HC.out.drw.six' | exact HC1.out.six' | exact HC2.out.six' | exact hHeld
 refine tkz 0 ?_
 refine tkz 1 ?_
 refine tkz 2 ?_
 refine tkz 3 ?_
 refine tkz 4 ?_
 refine tkz 5 ?_
 refine tkz 6 ?_
 refine tkz 7 ?_
 refine tkz 9 ?_
 refine rdz 8 fun K hK => ?_
 go_simp
 refine (plPrev_c _ _ _ _ _).mono ?_; rintro e w1 ⟨rfl, hb1⟩; have HA1 := hidp (HA.out.drew.keep hb1); have HC1 := hidp (HC.out.drw.keep hb1); have HS1 := hidp ((HS.out.trans (Stay.of_below (Bdrew (B0 _)) _)).trans (Stay.of_below hb1 _)); clear HA HC HS hb1
 refine hK.out _ _ ?_ (fun hHeld => ?_)
 ·(try dsimp only)
  first | exact HC.out.drw.six' | exact HC1.out.six' | exact HC2.out.six' | exact hHeld
 clear hK K
 (try simp only [Act.put, gA, gB, gC, sA, sB, sC])
 refine rdz 10 fun K hK => ?_
 go_simp
 refine (vPutA hn _ l hl HA1.out).mono ?_; rintro e w2 ⟨rfl, h1, h2⟩; have HA2 := hidp (h1.less fun g x => Or.inl x); have HC2 := hidp (h2.held (Or.inr rfl) HC1.out); have HS2 := hidp (HS1.out.trans (h2.less fun g x => Or.inl x)); clear HA1 HC1 HS1 h1 h2
 refine hK.out _ _ ?_ (fun hHeld => ?_)
 ·(try dsimp only)
  first | exact HC.out.drw.six' | exact HC1.out.six' | exact HC2.out.six' | exact hHeld
 clear hK K
 (try simp only [Act.put, gA, gB, gC, sA, sB, sC])
 refine dnz ?_
 go_wp2
 go_end0
 exact ⟨rfl, HA2.out, HS2.out⟩

end
end
section
section
variable {base b n : Nat} {wh : Bool} {K : Nat -> Option Nat} {st : Vst} {w w0 : World} {A G : Nat -> Prop} {t q s hd : Int}

theorem lkPush_no (hn : n < 2 ^ 40) (p : Int) (hp : pgB q p = false) (h : (vOb base b n wh K).At w0 A G st w) :
  Calls Tryz.prog 36 #[.pointer (some ⟨b, 0, none⟩), .agg #[.int .i64 t, .int .i64 q, .int .i64 s], .int .i64 hd, .int .i64 p] w fun e w' => e = .returned (.tuple #[]) /\ (vOb base b n wh K).At w0 A G (st) w' /\ Stay G w w' := by
 have W0 := hidp (WK.two h (.cells #[.int .i64 t, .int .i64 q, .int .i64 s] 23) 109 #[.pointer (some ⟨b, 0, none⟩), .int .i64 t, .int .i64 q, .int .i64 s, .int .i64 hd, .int .i64 p])
 obtain ⟨x0, x1, x2, x3, x4, x5⟩ := W0.out.held.six'
 have HK := hidp hp
 clear h hp
 go_enter Tryz.func36, Tryz.ntmps36
 go_wp2_with fail
 refine (lkIs_c b t q s hd p _).mono ?_; rintro e w1 ⟨rfl, hb⟩; rw [HK.out]; have W1 := hidp (W0.out.keep hb); clear hb W0
 go_wp2
 (try simp only [Exit.inBlock, Exit.then])
 refine bodyPost_ret (results_none rfl _ _ _) rfl ?_
 exact ⟨rfl, W1.out.fin⟩

set_option maxHeartbeats 3200000 in
theorem lkPush_yes (hn : n < 2 ^ 40) (k : Nat) (hk : pgB q (k : Int) = true) (hk31 : k < 2 ^ 31) (h : (vOb base b n wh K).At w0 A G st w) :
  Calls Tryz.prog 36 #[.pointer (some ⟨b, 0, none⟩), .agg #[.int .i64 t, .int .i64 q, .int .i64 s], .int .i64 hd, .int .i64 (k : Int)] w fun e w' => e = .returned (.tuple #[]) /\ (vOb base b n wh K).At w0 A G (pushS n K t q s hd k st) w' /\ Stay G w w' := by
 have W0 := hidp (WK.two h (.cells #[.int .i64 t, .int .i64 q, .int .i64 s] 23) 109 #[.pointer (some ⟨b, 0, none⟩), .int .i64 t, .int .i64 q, .int .i64 s, .int .i64 hd, .int .i64 (k : Int)])
 obtain ⟨x0, x1, x2, x3, x4, x5⟩ := W0.out.held.six'
 have HK := hidp hk
 obtain ⟨l, hl⟩ : ∃ l, getV n K st hd = l := ⟨_, rfl⟩
 have hl32 : l < 2 ^ 32 := by rw [<- hl]; exact vAt_lt h hd
 have HL := hidp hl
 have HQ : Hid (push1 n K t q s hd k st = putS n (putS n (getS n K st hd) (pageI t q s (k : Int) 2) l) (pageI t q s (k : Int) 3) 0) := hidp (by unfold push1; rw [hl])
 have HP : Hid (l = 0 -> pushS n K t q s hd k st = putS n (push1 n K t q s hd k st) hd (k + 1)) := hidp (fun e => by unfold pushS push2; rw [if_pos (hl.trans e)])
 have HR : Hid (l ≠ 0 -> pushS n K t q s hd k st = putS n (putS n (push1 n K t q s hd k st) (pageI t q s ((l : Int) - 1) 3) (k + 1)) hd (k + 1)) := hidp (fun e => by unfold pushS push2; rw [if_neg (by rw [hl]; exact e), hl])
 clear hl
 clear h hk
 go_enter Tryz.func36, Tryz.ntmps36
 go_wp2_with fail
 refine (lkIs_c b t q s hd k _).mono ?_; rintro e w1 ⟨rfl, hb⟩; have W1 := hidp (W0.out.keep hb); clear hb W0; rw [HK.out]
 obtain ⟨x0, x1, x2, x3, x4, x5⟩ := W1.out.held.six'
 go_wp2_with fail
 refine (lkFirst_c hn W1.out.at_).mono ?_; rintro e w2 ⟨rfl, h1, h2⟩; have W2 := hidp (W1.out.call h1 h2); clear h1 h2 W1; rw [HL.out]
 obtain ⟨x0, x1, x2, x3, x4, x5⟩ := W2.out.held.six'
 go_wp2_with fail
 refine (lkSetNext_c hn l hl32 W2.out.at_).mono ?_; rintro e w3 ⟨rfl, h1, h2⟩; have W3 := hidp (W2.out.call h1 h2); clear h1 h2 W2
 obtain ⟨x0, x1, x2, x3, x4, x5⟩ := W3.out.held.six'
 go_wp2_with fail
 refine (lkSetPrev_c hn 0 (by omega) W3.out.at_).mono ?_; rintro e w4 ⟨rfl, h1, h2⟩; have W4 := hidp (W3.out.call h1 h2); clear h1 h2 W3
 obtain ⟨x0, x1, x2, x3, x4, x5⟩ := W4.out.held.six'
 rw [<- HQ.out] at W4
 clear HL HQ HK
 by_cases hz : l = 0
 ·have HE := hidp (HP.out hz)
  subst hz
  clear HP HR
  go_wp2_with fail
  refine wp_region_held_drew (S := (fun w' => w'.cell? ⟨w.heap.size + 1, 0, none⟩ = some (.pointer (some ⟨b, 0, none⟩)) /\ w'.cell? ⟨w.heap.size + 1, 1, none⟩ = some (.int .i64 t) /\ w'.cell? ⟨w.heap.size + 1, 2, none⟩ = some (.int .i64 q) /\ w'.cell? ⟨w.heap.size + 1, 3, none⟩ = some (.int .i64 s) /\ w'.cell? ⟨w.heap.size + 1, 4, none⟩ = some (.int .i64 hd) /\ w'.cell? ⟨w.heap.size + 1, 5, none⟩ = some (.int .i64 (k : Int)))) (by kernel_rfl) ?_ (fun hHeld => ?_)
  ·(try dsimp only)
   first | exact W4.out.drew.held.six' | exact W5.out.held.six' | exact W6.out.held.six' | exact hHeld
  refine tkz 0 ?_
  refine tkz 1 ?_
  refine tkz 2 ?_
  refine rdz 3 fun K hK => ?_
  go_simp
  refine (lkLink_c b t q s hd k hk31 _).mono ?_; rintro e w5 ⟨rfl, hb⟩; have W5 := hidp (W4.out.drew.keep hb); clear hb W4
  refine hK.out _ _ ?_ (fun hHeld => ?_)
  ·(try dsimp only)
   first | exact W4.out.drew.held.six' | exact W5.out.held.six' | exact W6.out.held.six' | exact hHeld
  clear hK K
  (try simp only [Act.put, gA, gB, gC, sA, sB, sC])
  refine rdz 4 fun K hK => ?_
  go_simp
  refine (lkSetFirst_c hn (k + 1) (by omega) W5.out.at_).mono ?_; rintro e w6 ⟨rfl, h1, h2⟩; have W6 := hidp (W5.out.call h1 h2); clear h1 h2 W5
  refine hK.out _ _ ?_ (fun hHeld => ?_)
  ·(try dsimp only)
   first | exact W4.out.drew.held.six' | exact W5.out.held.six' | exact W6.out.held.six' | exact hHeld
  clear hK K
  (try simp only [Act.put, gA, gB, gC, sA, sB, sC])
  refine dnz ?_
  obtain ⟨x0, x1, x2, x3, x4, x5⟩ := W6.out.held.six'
  go_wp2
  go_end0
  exact ⟨rfl, by rw [HE.out]; exact W6.out.fin⟩
 ·have HE := hidp (HR.out hz)
  have t1 : ((l : Int) == 0) = false := by simp; omega
  have t2 : ((l : Int) != 0) = true := by simp; omega
  clear HP HR
  go_wp2_with fail
  refine wp_region_held_drew (S := (fun w' => w'.cell? ⟨w.heap.size + 1, 0, none⟩ = some (.pointer (some ⟨b, 0, none⟩)) /\ w'.cell? ⟨w.heap.size + 1, 1, none⟩ = some (.int .i64 t) /\ w'.cell? ⟨w.heap.size + 1, 2, none⟩ = some (.int .i64 q) /\ w'.cell? ⟨w.heap.size + 1, 3, none⟩ = some (.int .i64 s) /\ w'.cell? ⟨w.heap.size + 1, 4, none⟩ = some (.int .i64 hd) /\ w'.cell? ⟨w.heap.size + 1, 5, none⟩ = some (.int .i64 (k : Int)))) (by kernel_rfl) ?_ (fun hHeld => ?_)
  ·(try dsimp only)
   first | exact W4.out.drew.held.six' | exact W5.out.held.six' | exact W6.out.held.six' | exact W7.out.held.six' | exact hHeld
  refine tkz 0 ?_
  refine tkz 1 ?_
  refine tkz 2 ?_
  refine tkz 4 ?_
  refine rdz 3 fun K hK => ?_
  go_simp
  refine (lkTo_c b t q s hd l hl32 _).mono ?_; rintro e w5 ⟨rfl, hb⟩; have W5 := hidp (W4.out.drew.keep hb); clear hb W4
  refine hK.out _ _ ?_ (fun hHeld => ?_)
  ·(try dsimp only)
   first | exact W4.out.drew.held.six' | exact W5.out.held.six' | exact W6.out.held.six' | exact W7.out.held.six' | exact hHeld
  clear hK K
  (try simp only [Act.put, gA, gB, gC, sA, sB, sC])
  refine rdz 5 fun K hK => ?_
  go_simp
  refine (lkLink_c b t q s hd k hk31 _).mono ?_; rintro e w6 ⟨rfl, hb⟩; have W6 := hidp (W5.out.keep hb); clear hb W5
  refine hK.out _ _ ?_ (fun hHeld => ?_)
  ·(try dsimp only)
   first | exact W4.out.drew.held.six' | exact W5.out.held.six' | exact W6.out.held.six' | exact W7.out.held.six' | exact hHeld
  clear hK K
  (try simp only [Act.put, gA, gB, gC, sA, sB, sC])
  refine rdz 6 fun K hK => ?_
  go_simp
  refine (lkSetPrev_c hn (k + 1) (by omega) W6.out.at_).mono ?_; rintro e w7 ⟨rfl, h1, h2⟩; have W7 := hidp (W6.out.call h1 h2); clear h1 h2 W6
  refine hK.out _ _ ?_ (fun hHeld => ?_)
  ·(try dsimp only)
   first | exact W4.out.drew.held.six' | exact W5.out.held.six' | exact W6.out.held.six' | exact W7.out.held.six' | exact hHeld
  clear hK K
  (try simp only [Act.put, gA, gB, gC, sA, sB, sC])
  refine dnz ?_
  obtain ⟨x0, x1, x2, x3, x4, x5⟩ := W7.out.held.six'
  go_wp2_with fail
  refine wp_region_held_drew (S := (fun w' => w'.cell? ⟨w.heap.size + 1, 0, none⟩ = some (.pointer (some ⟨b, 0, none⟩)) /\ w'.cell? ⟨w.heap.size + 1, 1, none⟩ = some (.int .i64 t) /\ w'.cell? ⟨w.heap.size + 1, 2, none⟩ = some (.int .i64 q) /\ w'.cell? ⟨w.heap.size + 1, 3, none⟩ = some (.int .i64 s) /\ w'.cell? ⟨w.heap.size + 1, 4, none⟩ = some (.int .i64 hd) /\ w'.cell? ⟨w.heap.size + 1, 5, none⟩ = some (.int .i64 (k : Int)))) (by kernel_rfl) ?_ (fun hHeld => ?_)
  ·(try dsimp only)
   first | exact W7.out.drew.held.six' | exact W8.out.held.six' | exact W9.out.held.six' | exact hHeld
  refine tkz 0 ?_
  refine tkz 1 ?_
  refine tkz 2 ?_
  refine rdz 3 fun K hK => ?_
  go_simp
  refine (lkLink_c b t q s hd k hk31 _).mono ?_; rintro e w8 ⟨rfl, hb⟩; have W8 := hidp (W7.out.drew.keep hb); clear hb W7
  refine hK.out _ _ ?_ (fun hHeld => ?_)
  ·(try dsimp only)
   first | exact W7.out.drew.held.six' | exact W8.out.held.six' | exact W9.out.held.six' | exact hHeld
  clear hK K
  (try simp only [Act.put, gA, gB, gC, sA, sB, sC])
  refine rdz 4 fun K hK => ?_
  go_simp
  refine (lkSetFirst_c hn (k + 1) (by omega) W8.out.at_).mono ?_; rintro e w9 ⟨rfl, h1, h2⟩; have W9 := hidp (W8.out.call h1 h2); clear h1 h2 W8
  refine hK.out _ _ ?_ (fun hHeld => ?_)
  ·(try dsimp only)
   first | exact W7.out.drew.held.six' | exact W8.out.held.six' | exact W9.out.held.six' | exact hHeld
  clear hK K
  (try simp only [Act.put, gA, gB, gC, sA, sB, sC])
  refine dnz ?_
  obtain ⟨x0, x1, x2, x3, x4, x5⟩ := W9.out.held.six'
  go_wp2
  go_end0
  exact ⟨rfl, by rw [HE.out]; exact W9.out.fin⟩
theorem lkPush_c (hn : n < 2 ^ 40) (hq : q <= 2 ^ 31) (p : Int) (h : (vOb base b n wh K).At w0 A G st w) :
  Calls Tryz.prog 36 #[.pointer (some ⟨b, 0, none⟩), .agg #[.int .i64 t, .int .i64 q, .int .i64 s], .int .i64 hd, .int .i64 p] w fun e w' => e = .returned (.tuple #[]) /\ (vOb base b n wh K).At w0 A G (pushI n K t q s hd p st) w' /\ Stay G w w' := by
 cases hp : pgB q p with
 | false => rw [(pgB_none hp).1]; exact lkPush_no hn p hp h
 | true =>
  have h1 := (pgB_iff _ _).1 hp
  obtain ⟨k, rfl⟩ := Int.eq_ofNat_of_zero_le h1.1
  rw [(pgB_nat hp).1]
  exact lkPush_yes hn k hp (by omega) h

end
end
end Go.Proofs.YtlpcdfcghgapkaaGreat
