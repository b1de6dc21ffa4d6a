/-
  Rule 9: how many pages are free, and how many blocks live. Written by audit/gen_r9.py.
-/
import Derived.Test.YtnmhdlpnimdffaaGreatDoorC03
import Derived.Test.YtnmhdlpnimdffaaGreatDoorC01
import Derived.Laws.CopyOwn
import Derived.Laws.MakeOwn
import Derived.Laws.BitsAllLaws
import Derived.Deep.RegionLaw
import Derived.Deep.AppendLies
namespace Go.Proofs.YtnmhdlpnimdffaaGreatDoor
open Go.ChangeShapes Go.WideShapes Go.ChangeAt Go.RowKit Go.Shelf
set_option linter.unusedVariables false
set_option linter.unusedSimpArgs false
section
namespace AuH
variable (H : AuH)
def freeF (q : Nat) : Nat := if H.K q = 1 then H.ln q else 0
def liveF (q : Nat) : Nat := if H.K q = 2 then 1 else if H.K q = 3 then HM.onesTo (H.cel q 4) 32 else 0
def R9 : Prop := H.V 0 = sumTo H.freeF H.p % 4294967296 /\ H.V 1 = sumTo H.liveF H.p % 4294967296
variable {H}
theorem freeF_no {q : Nat} (h : H.K q = 0) : H.freeF q = 0 := by unfold freeF; rw [if_neg (by omega)]
theorem liveF_no {q : Nat} (h : H.K q = 0) : H.liveF q = 0 := by unfold liveF; rw [if_neg (by omega), if_neg (by omega)]
theorem freeF_le (q : Nat) : H.freeF q <= 1024 := by
 unfold freeF
 split
 ·exact (H.ln_pos q (by omega)).2
 ·omega
theorem liveF_le (q : Nat) : H.liveF q <= 32 := by
 unfold liveF
 split
 ·omega
 ·split
  ·exact HM.onesTo_le _ _
  ·omega
theorem sums_le (x : Nat) (hx : x <= 1024) : sumTo H.freeF x <= 1048576 /\ sumTo H.liveF x <= 32768 := by
 have h1 := sumTo_le H.freeF 1024 x (fun q _ => freeF_le q)
 have h2 := sumTo_le H.liveF 32 x (fun q _ => liveF_le q)
 have h3 : x * 1024 <= 1024 * 1024 := Nat.mul_le_mul_right _ hx
 have h4 : x * 32 <= 1024 * 32 := Nat.mul_le_mul_right _ hx
 omega
end AuH
section
attribute [local go_sem] Oper.semAt_some

end
end
section
namespace AuH
def tgt (H : AuH) (q : Nat) : Int := if H.K q = 1 then 2 + HM.logI (H.ln q : Int) else if H.K q = 3 /\ H.cel q 5 ≠ 2 ^ slotI (H.Cl q) - 1 then 13 + H.Cl q else -1
variable {H : AuH}
theorem tgt_free {q : Nat} (h : H.K q = 1) : H.tgt q = 2 + HM.logI (H.ln q : Int) := by unfold tgt; rw [if_pos h]
theorem tgt_slab {q : Nat} (h : H.K q = 3) (h2 : H.cel q 5 ≠ 2 ^ slotI (H.Cl q) - 1) : H.tgt q = 13 + H.Cl q := by unfold tgt; rw [if_neg (by omega), if_pos ⟨h, h2⟩]
theorem tgt_full {q : Nat} (h : H.K q = 3) (h2 : H.cel q 5 = 2 ^ slotI (H.Cl q) - 1) : H.tgt q = -1 := by unfold tgt; rw [if_neg (by omega), if_neg (fun h3 => h3.2 h2)]
theorem tgt_used {q : Nat} (h : H.K q = 2) : H.tgt q = -1 := by unfold tgt; rw [if_neg (by omega), if_neg (by omega)]
theorem tgt_none {q : Nat} (h : H.K q = 0) : H.tgt q = -1 := by unfold tgt; rw [if_neg (by omega), if_neg (by omega)]
theorem log_few {n : Nat} (h1 : 1 <= n) (h2 : n <= 1024) : 0 <= HM.logI (n : Int) /\ HM.logI (n : Int) <= 10 := by
 have h : ∃ k : Nat, k <= 10 /\ 2 ^ k <= n /\ n < 2 ^ (k + 1) := by
  rcases Nat.lt_or_ge n 1024 with h3 | h3
  ·refine ⟨Nat.log2 n, ?_, Nat.log2_self_le (by omega), Nat.lt_log2_self⟩
   have := Nat.log2_lt (n := n) (k := 10) (by omega)
   have := this.2 h3
   omega
  ·exact ⟨10, by omega, by omega, by omega⟩
 obtain ⟨k, hk, ha, hb⟩ := h
 rw [HM.logI_at (n : Int) k (by
  have e : ((n : Int) / 2 ^ k) = ((n / 2 ^ k : Nat) : Int) := by push_cast; rfl
  rw [e]
  have := Nat.div_le_div_right (c := 2 ^ k) ha
  rw [Nat.div_self (Nat.two_pow_pos k)] at this
  omega) (by
  have e : ((n : Int) / 2 ^ (k + 1)) = ((n / 2 ^ (k + 1) : Nat) : Int) := by push_cast; rfl
  rw [e, Nat.div_eq_of_lt hb]
  omega)]
 omega
end AuH
section
attribute [local go_sem] Oper.semAt_some

end
end
section
namespace AuH
variable (H : AuH)
def chain (head : Int) : Nat -> Nat -> Nat -> Prop
 | 0, at_, _ => at_ = 0
 | m + 1, at_, ahead => (1 <= at_ /\ at_ <= H.p /\ H.tgt (at_ - 1) = head /\ H.cel (at_ - 1) 3 = ahead) /\ chain head m (H.cel (at_ - 1) 2) at_
def isF (head : Int) (q : Nat) : Nat := if H.tgt q = head then 1 else 0
def cnt (head : Int) (x : Nat) : Nat := sumTo (H.isF head) x
def ListOk (head : Nat) : Prop := H.chain head (H.cnt head H.p) (H.V head) 0
variable {H}
end AuH
end
section
namespace AuH
def R8 (H : AuH) : Prop := ∀ q, q < H.p -> H.tgt q = -1 -> H.cel q 2 = 0 /\ H.cel q 3 = 0
end AuH
end
section
namespace AuH
variable (H : AuH)
def LiveAt (a : Int) : Prop := spotB H.t H.p H.s a = true /\
  ((H.K (spotP H.t H.p H.s a).toNat = 2 /\ spotO H.t H.p H.s a = 0) \/
   (H.K (spotP H.t H.p H.s a).toNat = 3 /\ slotB H.t H.p H.s (H.Cl (spotP H.t H.p H.s a).toNat) (spotO H.t H.p H.s a) = true /\
     (H.cel (spotP H.t H.p H.s a).toNat 4).testBit (slotR H.t H.p H.s (H.Cl (spotP H.t H.p H.s a).toNat) (spotO H.t H.p H.s a)).toNat = true))
def R10 : Prop := ∀ i, i < 8 -> H.V (22 + i) ≠ 0 -> H.LiveAt (H.V (22 + i) : Int)
end AuH

def rootsV (H : AuH) : Value := .agg #[.int .i64 (H.V 22 : Nat), .int .i64 (H.V 23 : Nat), .int .i64 (H.V 24 : Nat), .int .i64 (H.V 25 : Nat), .int .i64 (H.V 26 : Nat), .int .i64 (H.V 27 : Nat), .int .i64 (H.V 28 : Nat), .int .i64 (H.V 29 : Nat)]
end
section
def AuH.rule (H : AuH) : Nat -> Prop
 | 1 => H.Tiled
 | 2 => H.R3
 | 3 => H.R4
 | 4 => H.R5
 | 5 => ∀ k, k < 11 -> H.ListOk (2 + k)
 | 6 => ∀ k, k < 9 -> H.ListOk (13 + k)
 | 7 => H.R8
 | 8 => H.R9
 | 9 => H.R10
 | _ => True
def AuH.Told (H : AuH) (m : Nat) (b : Bool) : Prop := (b = true /\ m = 0 /\ ∀ i, i < 10 -> H.rule i) \/ (b = false /\ ∃ k, m = k + 1 /\ 1 <= k /\ k < 10 /\ (∀ i, i < k -> H.rule i) /\ ¬ H.rule k)
theorem first_no (R : Nat -> Prop) : ∀ n, (∀ i, i < n -> R i) \/ ∃ k, k < n /\ (∀ i, i < k -> R i) /\ ¬ R k
 | 0 => .inl fun i h => absurd h (by omega)
 | n + 1 => by
  rcases first_no R n with h | ⟨k, h1, h2, h3⟩
  ·by_cases hn : R n
   ·exact .inl fun i hi => by
     rcases Nat.lt_or_ge i n with h4 | h4
     ·exact h i h4
     ·have : i = n := by omega
      subst this; exact hn
   ·exact .inr ⟨n, by omega, h, hn⟩
  ·exact .inr ⟨k, by omega, h2, h3⟩
theorem AuH.told_is (H : AuH) : ∃ m b, H.Told m b := by
 rcases first_no H.rule 10 with h | ⟨k, h1, h2, h3⟩
 ·exact ⟨0, true, .inl ⟨rfl, rfl, h⟩⟩
 ·refine ⟨k + 1, false, .inr ⟨rfl, k, rfl, ?_, h1, h2, h3⟩⟩
  rcases Nat.eq_zero_or_pos k with h6 | h6
  ·subst h6; exact absurd trivial h3
  ·exact h6
end
section
namespace AuH
inductive Starts (H : AuH) : List Nat -> Nat -> Prop where
 | nil : Starts H [] 0
 | snoc {l : List Nat} {q : Nat} : Starts H l q -> H.can q = true -> Starts H (l ++ [q]) (H.nx q)
variable {H : AuH} {l : List Nat} {x : Nat}
theorem Starts.at_ (h : H.Starts l x) : H.At x := by
 induction h with
 | nil => exact .zero
 | snoc h hc ih => exact .step ih hc
theorem Starts.len (h : H.Starts l x) : l.length <= x := by
 induction h with
 | nil => simp
 | snoc h hc ih =>
  have := (H.nx_gt hc).1
  rw [List.length_append]
  simp
  omega
theorem Starts.next (h : H.Starts l x) : ∀ {i a : Nat}, l[i]? = some a -> (H.At a /\ H.can a = true /\ a < x) /\ (l[i + 1]? = some (H.nx a) \/ (i + 1 = l.length /\ H.nx a = x)) := by
 induction h with
 | nil => intro i a h; simp at h
 | snoc h hc ih =>
  rename_i l q
  intro i a hi
  have hgt := (H.nx_gt hc).1
  rcases Nat.lt_or_ge i l.length with hl | hl
  ·rw [List.getElem?_append_left hl] at hi
   obtain ⟨⟨h1, h2, h3⟩, h4⟩ := ih hi
   refine ⟨⟨h1, h2, by omega⟩, .inl ?_⟩
   rcases h4 with h4 | ⟨h4, h5⟩
   ·have : i + 1 < l.length := by
     rcases Nat.lt_or_ge (i + 1) l.length with h | h
     ·exact h
     ·rw [List.getElem?_eq_none h] at h4; cases h4
    rw [List.getElem?_append_left this]
    exact h4
   ·rw [List.getElem?_append_right (by omega), h4, Nat.sub_self, h5]
    rfl
  ·have hil : i = l.length := by
    rcases Nat.lt_or_ge l.length i with h | h
    ·rw [List.getElem?_append_right hl, List.getElem?_eq_none (by simp; omega)] at hi; cases hi
    ·omega
   subst hil
   rw [List.getElem?_append_right (Nat.le_refl _), Nat.sub_self] at hi
   have hqa : q = a := by simpa using hi
   subst hqa
   exact ⟨⟨h.at_, hc, hgt⟩, .inr ⟨by simp, rfl⟩⟩
theorem Starts.head (h : H.Starts l x) : (l = [] /\ x = 0) \/ l[0]? = some 0 := by
 induction h with
 | nil => exact .inl ⟨rfl, rfl⟩
 | snoc h hc ih =>
  right
  rcases ih with ⟨rfl, rfl⟩ | ih
  ·rfl
  ·rename_i l q
   have : 0 < l.length := by
    rcases Nat.lt_or_ge 0 l.length with h | h
    ·exact h
    ·rw [List.getElem?_eq_none h] at ih; cases ih
   rw [List.getElem?_append_left this]
   exact ih
theorem Starts.find (h : H.Starts l x) : ∀ {q : Nat}, H.At q -> q < x -> ∃ i : Nat, l[i]? = some q := by
 induction h with
 | nil => intro q _ h; omega
 | snoc h hc ih =>
  rename_i l q0
  intro q hq hl
  rcases Nat.lt_trichotomy q q0 with h1 | h1 | h1
  ·obtain ⟨i, hi⟩ := ih hq h1
   refine ⟨i, ?_⟩
   have : i < l.length := by
    rcases Nat.lt_or_ge i l.length with h | h
    ·exact h
    ·rw [List.getElem?_eq_none h] at hi; cases hi
   rw [List.getElem?_append_left this]
   exact hi
  ·subst h1
   exact ⟨l.length, by rw [List.getElem?_append_right (Nat.le_refl _), Nat.sub_self]; rfl⟩
  ·have := (At.next h.at_ hq h1).2
   omega

def Front (H : AuH) (l : List Nat) (n p : Nat) : Prop := ∃ f, (l[n]? = some f \/ (n = l.length /\ f = H.p)) /\ p <= f /\ ∀ q, H.At q -> p <= q -> f <= q
theorem Front.zero (h : H.Starts l H.p) : H.Front l 0 0 := by
 rcases h.head with ⟨rfl, h1⟩ | h1
 ·exact ⟨H.p, .inr ⟨rfl, rfl⟩, Nat.zero_le _, fun q _ _ => by omega⟩
 ·exact ⟨0, .inl h1, Nat.le_refl _, fun q _ _ => Nat.zero_le _⟩
theorem Front.yes {n p : Nat} (h : H.Starts l H.p) (hf : H.Front l n p) (hn : l[n]? = some p) : H.At p /\ H.Front l (n + 1) (p + 1) := by
 obtain ⟨⟨h1, h2, h3⟩, h4⟩ := h.next hn
 have hg := (H.nx_gt h2).1
 refine ⟨h1, H.nx p, ?_, hg, fun q hq hp => (At.next h1 hq (by omega)).2⟩
 rcases h4 with h4 | ⟨h4, h5⟩
 ·exact .inl h4
 ·exact .inr ⟨h4, h5⟩
theorem Front.no {n p : Nat} (h : H.Starts l H.p) (hf : H.Front l n p) (hp : p < H.p) (hn : l[n]? ≠ some p) : ¬ H.At p /\ H.Front l n (p + 1) := by
 obtain ⟨f, h1, h2, h3⟩ := hf
 have hne : f ≠ p := by
  rintro rfl
  rcases h1 with h1 | ⟨_, h1⟩
  ·exact hn h1
  ·omega
 exact ⟨fun ha => by have := h3 p ha (Nat.le_refl _); omega, f, h1, by omega, fun q hq hl => h3 q hq (by omega)⟩

theorem tiled_iff (ha : H.At H.p) : H.Tiled ↔ ∀ q, q < H.p -> ¬ H.At q -> H.cel q 0 = 0 := by
 constructor
 ·rintro ⟨_, hb⟩ q hq hn
  obtain ⟨a, h1, h2, h3, h4⟩ := ha.cover q hq
  exact hb a h1 h2 (by omega) q (by rcases Nat.eq_or_lt_of_le h3 with h | h; (subst h; exact absurd h1 hn); exact h) h4
 ·intro h
  refine ⟨ha, fun a h1 h2 h3 q h4 h5 => h q (by have := (H.nx_gt h2).2; omega) (fun hq => ?_)⟩
  have := (At.next h1 hq h4).2
  omega
theorem tiled_not {q : Nat} (h : H.Tiled) (hq : q < H.p) (hn : ¬ H.At q) : H.cel q 0 = 0 := (tiled_iff h.1).1 h q hq hn

def FootAt (H : AuH) (a q : Nat) : Prop := H.cel q 1 = if q + 1 = H.nx a then a + 1 else 0
theorem r3_iff (ht : H.Tiled) : H.R3 ↔ ∀ q, q < H.p -> ∀ a, H.At a -> a <= q -> q < H.nx a -> H.FootAt a q := by
 constructor
 ·intro h q hq a ha h1 h2
  have hc := ht.at_can ha (show a < H.p by omega)
  have hk := ht.at_K ha (show a < H.p by omega)
  obtain ⟨h3, h4⟩ := h a (by omega) hk
  unfold FootAt
  have hnx : H.nx a = a + H.ln a := rfl
  by_cases he : q + 1 = H.nx a
  ·rw [if_pos he, show q = a + H.ln a - 1 by omega]
   exact h4
  ·rw [if_neg he]
   exact h3 q h1 (by omega)
 ·intro h q hq hk
  obtain ⟨ha, hc⟩ := ht.start hq hk
  have hg := H.nx_gt hc
  have hl := H.ln_pos q hk
  have hnx : H.nx q = q + H.ln q := rfl
  refine ⟨fun r h1 h2 => ?_, ?_⟩
  ·have := h r (by omega) q ha h1 (by omega)
   unfold FootAt at this
   rw [if_neg (by omega)] at this
   exact this
  ·have := h (q + H.ln q - 1) (by omega) q ha (by omega) (by omega)
   unfold FootAt at this
   rw [if_pos (by omega)] at this
   exact this

def ApartTo (H : AuH) (l : List Nat) (n : Nat) : Prop := ∀ (i a b : Nat), i + 1 < n -> l[i]? = some a -> l[i + 1]? = some b -> ¬ (H.K b = 1 /\ H.K a = 1)
theorem apart_all (h : H.Starts l H.p) {n : Nat} (hn : l.length <= n) (ha : H.ApartTo l n) : H.R4 := by
 intro q hq hp hk hx h2
 obtain ⟨i, hi⟩ := h.find hq hp
 rcases (h.next hi).2 with h4 | ⟨h4, h5⟩
 ·have : i + 1 < l.length := by
   rcases Nat.lt_or_ge (i + 1) l.length with h | h
   ·exact h
   ·rw [List.getElem?_eq_none h] at h4; cases h4
  exact ha i q _ (by omega) hi h4 ⟨h2, hk⟩
 ·omega
theorem apart_not (h : H.Starts l H.p) {i a b : Nat} (h1 : l[i]? = some a) (h2 : l[i + 1]? = some b) (hb : H.K b = 1) (ha : H.K a = 1) : ¬ H.R4 := by
 intro hr
 obtain ⟨⟨g1, g2, g3⟩, g4⟩ := h.next h1
 rcases g4 with g4 | ⟨g4, g5⟩
 ·rw [g4] at h2
  have e : H.nx a = b := by simpa using h2
  subst e
  exact hr a g1 g3 ha (h.next g4).1.2.2 hb
 ·rw [List.getElem?_eq_none (by omega)] at h2; cases h2
theorem ApartTo.step {n a b : Nat} (h : H.ApartTo l (n + 1)) (h1 : l[n]? = some a) (h2 : l[n + 1]? = some b) (hn : ¬ (H.K b = 1 /\ H.K a = 1)) : H.ApartTo l (n + 1 + 1) := by
 intro i a' b' hi g1 g2
 rcases Nat.lt_or_ge (i + 1) (n + 1) with h3 | h3
 ·exact h i a' b' h3 g1 g2
 ·have : i = n := by omega
  subst this
  rw [h1] at g1
  rw [h2] at g2
  simp only [Option.some.injEq] at g1 g2
  subst g1
  subst g2
  exact hn

def SlotBad (H : AuH) (q b : Nat) : Prop := ((H.cel q 4).testBit b = true /\ (H.cel q 5).testBit b = false) \/ ((H.cel q 5).testBit b = true /\ (H.K q ≠ 3 \/ slotI (H.Cl q) <= b))
theorem slot5_iff (q : Nat) (h4 : H.cel q 4 < 2 ^ 32) (h5 : H.cel q 5 < 2 ^ 32) : H.Slot5 q ↔ (∀ b, b < 32 -> ¬ H.SlotBad q b) /\ ¬ (H.K q = 3 /\ H.cel q 5 = 0) := by
 have hs := slotI_le (H.Cl q)
 constructor
 ·rintro ⟨hy, hn⟩
  by_cases hk : H.K q = 3
  ·obtain ⟨h1, h2, h3⟩ := hy hk
   refine ⟨fun b hb hbad => ?_, fun h => h1 h.2⟩
   rcases hbad with ⟨g1, g2⟩ | ⟨g1, g2⟩
   ·rw [h3 b hb g1] at g2; cases g2
   ·rcases g2 with g2 | g2
    ·exact g2 hk
    ·rw [Nat.testBit_lt_two_pow (Nat.lt_of_lt_of_le h2 (Nat.pow_le_pow_right (by omega) g2))] at g1; cases g1
  ·obtain ⟨h1, h2⟩ := hn hk
   refine ⟨fun b hb hbad => ?_, fun h => hk h.1⟩
   rcases hbad with ⟨g1, _⟩ | ⟨g1, _⟩
   ·rw [h2] at g1; simp at g1
   ·rw [h1] at g1; simp at g1
 ·rintro ⟨hb, hz⟩
  have hsub : SubB (H.cel q 4) (H.cel q 5) := fun i hi h => by
   cases hc : (H.cel q 5).testBit i
   ·exact absurd (show H.SlotBad q i from .inl ⟨h, hc⟩) (hb i hi)
   ·rfl
  refine ⟨fun hk => ⟨fun h => hz ⟨hk, h⟩, (sub_mask _ _ h5 hs).1 (fun i hi h => ?_), hsub⟩, fun hk => ?_⟩
  ·have : i < slotI (H.Cl q) := by
    rcases Nat.lt_or_ge i (slotI (H.Cl q)) with g | g
    ·exact g
    ·exact absurd (show H.SlotBad q i from .inr ⟨h, .inr g⟩) (hb i hi)
   rw [Nat.testBit_two_pow_sub_one]
   simpa using this
  ·have h0 : H.cel q 5 = 0 := (sub_zero _ h5).1 (fun i hi h => absurd (show H.SlotBad q i from .inr ⟨h, .inl hk⟩) (hb i hi))
   refine ⟨h0, (sub_zero _ h4).1 (fun i hi h => ?_)⟩
   have := hsub i hi h
   rw [h0] at this
   simp at this

inductive Path (H : AuH) (head : Nat) : List Nat -> Nat -> Nat -> Prop where
 | nil : Path H head [] (H.V head) 0
 | snoc {l : List Nat} {q a : Nat} : Path H head l q a -> 1 <= q -> q <= H.p -> H.cel (q - 1) 3 = a -> Path H head (l ++ [q - 1]) (H.cel (q - 1) 2) q
def cntIn (l : List Nat) (q : Nat) : Nat := (l.filter fun y => decide (y = q)).length
theorem cntIn_snoc (l : List Nat) (y q : Nat) : cntIn (l ++ [y]) q = cntIn l q + if y = q then 1 else 0 := by
 unfold cntIn
 rw [List.filter_append, List.length_append]
 congr 1
 by_cases h : y = q <;> simp [h]
theorem cntIn_pos {l : List Nat} {q : Nat} (h : q ∈ l) : 1 <= cntIn l q := by
 unfold cntIn
 exact List.length_pos_of_mem (List.mem_filter.2 ⟨h, by simp⟩)
theorem cntIn_zero {l : List Nat} {q : Nat} (h : ¬ q ∈ l) : cntIn l q = 0 := by
 unfold cntIn
 rw [List.length_eq_zero_iff, List.filter_eq_nil_iff]
 intro y hy
 simp
 rintro rfl
 exact h hy
variable {head q a : Nat}
theorem Path.lt (h : H.Path head l q a) : ∀ y ∈ l, y < H.p := by
 induction h with
 | nil => simp
 | snoc h h1 h2 h3 ih =>
  rename_i l q a
  intro y hy
  rcases List.mem_append.1 hy with hy | hy
  ·exact ih y hy
  ·have : y = q - 1 := by simpa using hy
   omega
theorem Path.once (h : H.Path head l q a) : (∀ y ∈ l, H.cel y 3 ≠ a) /\ (∀ y ∈ l, H.cel y 3 = 0 \/ ∃ z ∈ l, H.cel y 3 = z + 1) /\ (a = 0 \/ ∃ z ∈ l, a = z + 1) /\ ∀ y, cntIn l y <= 1 := by
 induction h with
 | nil => exact ⟨by simp, by simp, .inl rfl, fun y => by simp [cntIn]⟩
 | snoc h h1 h2 h3 ih =>
  rename_i l q a
  obtain ⟨i1, i2, i3, i4⟩ := ih
  have hnot : ¬ (q - 1) ∈ l := fun hm => i1 _ hm h3
  have hmem : ∀ y ∈ l ++ [q - 1], H.cel y 3 = 0 \/ ∃ z ∈ l, H.cel y 3 = z + 1 := by
   intro y hy
   rcases List.mem_append.1 hy with hy | hy
   ·exact i2 y hy
   ·have : y = q - 1 := by simpa using hy
    subst this
    rw [h3]
    exact i3
  refine ⟨fun y hy he => ?_, fun y hy => ?_, .inr ⟨q - 1, by simp, by omega⟩, fun y => ?_⟩
  ·rcases hmem y hy with h | ⟨z, hz, h⟩
   ·omega
   ·have : z = q - 1 := by omega
    subst this
    exact hnot hz
  ·rcases hmem y hy with h | ⟨z, hz, h⟩
   ·exact .inl h
   ·exact .inr ⟨z, List.mem_append_left _ hz, h⟩
  ·rw [cntIn_snoc]
   by_cases he : q - 1 = y
   ·subst he
    rw [if_pos rfl, cntIn_zero hnot]
    omega
   ·rw [if_neg he]
    exact i4 y
theorem chain_path {m : Nat} (hc : H.chain head m (H.V head) 0) (h : H.Path head l q a) : l.length <= m /\ H.chain head (m - l.length) q a /\ ∀ y ∈ l, H.tgt y = head := by
 induction h with
 | nil => exact ⟨by simp, hc, by simp⟩
 | snoc h h1 h2 h3 ih =>
  rename_i l q a
  obtain ⟨i1, i2, i3⟩ := ih
  rcases hr : m - l.length with _ | r
  ·rw [hr] at i2
   have : q = 0 := i2
   omega
  ·rw [hr] at i2
   obtain ⟨⟨_, _, g3, _⟩, g5⟩ := i2
   have e : m - (l ++ [q - 1]).length = r := by rw [List.length_append]; simp; omega
   refine ⟨by rw [List.length_append]; simp; omega, by rw [e]; exact g5, fun y hy => ?_⟩
   rcases List.mem_append.1 hy with hy | hy
   ·exact i3 y hy
   ·have : y = q - 1 := by simpa using hy
    rw [this]
    exact g3
theorem path_chain (h : H.Path head l q a) : ∀ {m : Nat}, (∀ y ∈ l, H.tgt y = head) -> H.chain head m q a -> H.chain head (l.length + m) (H.V head) 0 := by
 induction h with
 | nil => intro m _ hc; simpa using hc
 | snoc h h1 h2 h3 ih =>
  rename_i l q a
  intro m hy hc
  have := ih (m := m + 1) (fun y hm => hy y (List.mem_append_left _ hm)) ⟨⟨h1, h2, hy _ (by simp), h3⟩, hc⟩
  rw [List.length_append]
  rw [show l.length + [q - 1].length + m = l.length + (m + 1) by simp; omega]
  exact this
theorem sumTo_add (f g : Nat -> Nat) : ∀ n, sumTo (fun q => f q + g q) n = sumTo f n + sumTo g n
 | 0 => rfl
 | n + 1 => by
  show sumTo (fun q => f q + g q) n + (f n + g n) = (sumTo f n + f n) + (sumTo g n + g n)
  rw [sumTo_add f g n]
  omega
theorem sumTo_zero : ∀ n, sumTo (fun _ => 0) n = 0
 | 0 => rfl
 | n + 1 => by show sumTo (fun _ => 0) n + 0 = 0; rw [sumTo_zero n]
theorem sumTo_one (y : Nat) : ∀ n, sumTo (fun q => if y = q then 1 else 0) n = if y < n then 1 else 0
 | 0 => by simp [sumTo]
 | n + 1 => by
  show sumTo _ n + (if y = n then 1 else 0) = _
  rw [sumTo_one y n]
  by_cases h1 : y < n
  ·rw [if_pos h1, if_neg (by omega), if_pos (by omega)]
  ·rw [if_neg h1]
   by_cases h2 : y = n
   ·rw [if_pos h2, if_pos (by omega)]
   ·rw [if_neg h2, if_neg (by omega)]
theorem sumTo_congr {f g : Nat -> Nat} : ∀ n, (∀ q, q < n -> f q = g q) -> sumTo f n = sumTo g n
 | 0, _ => rfl
 | n + 1, h => by
  show sumTo f n + f n = sumTo g n + g n
  rw [sumTo_congr n (fun q hq => h q (by omega)), h n (by omega)]
theorem sumTo_mono {f g : Nat -> Nat} : ∀ n, (∀ q, q < n -> f q <= g q) -> sumTo f n <= sumTo g n
 | 0, _ => Nat.le_refl _
 | n + 1, h => by
  have h1 := sumTo_mono n (fun q hq => h q (by omega))
  have h2 := h n (by omega)
  show sumTo f n + f n <= sumTo g n + g n
  omega
theorem sumTo_eq {f g : Nat -> Nat} : ∀ n, (∀ q, q < n -> f q <= g q) -> sumTo f n = sumTo g n -> ∀ q, q < n -> f q = g q
 | 0, _, _, q, hq => by omega
 | n + 1, h, he, q, hq => by
  have h1 := sumTo_mono n (fun q hq => h q (by omega))
  have h2 := h n (by omega)
  have he' : sumTo f n + f n = sumTo g n + g n := he
  rcases Nat.lt_or_ge q n with h3 | h3
  ·exact sumTo_eq n (fun q hq => h q (by omega)) (by omega) q h3
  ·have : q = n := by omega
   subst this
   omega
theorem sumTo_cntIn (n : Nat) : ∀ l : List Nat, (∀ y ∈ l, y < n) -> sumTo (cntIn l) n = l.length
 | [], _ => sumTo_zero n
 | y :: l, h => by
  have e : ∀ q, q < n -> cntIn (y :: l) q = (if y = q then 1 else 0) + cntIn l q := fun q _ => by
   unfold cntIn
   rw [List.filter_cons]
   by_cases h : y = q
   ·simp [h]; omega
   ·simp [h]
  rw [sumTo_congr n e, sumTo_add, sumTo_one, if_pos (h y (by simp)), sumTo_cntIn n l (fun z hz => h z (by simp [hz]))]
  simp
  omega
theorem cnt_le (head : Int) (n : Nat) : H.cnt head n <= n := by
 have := sumTo_le (H.isF head) 1 n (fun q _ => by unfold isF; split <;> omega)
 unfold cnt
 omega
theorem listOk_iff (h : H.Path head l 0 a) : H.ListOk head ↔ ∀ q, q < H.p -> cntIn l q = H.isF head q := by
 constructor
 ·intro hk
  obtain ⟨h1, h2, h3⟩ := chain_path hk h
  have hlen : l.length = H.cnt head H.p := by
   rcases hr : H.cnt head H.p - l.length with _ | r
   ·omega
   ·rw [hr] at h2
    have := h2.1.1
    omega
  refine sumTo_eq H.p (fun q hq => ?_) (by rw [sumTo_cntIn _ _ h.lt, hlen]; rfl)
  by_cases hm : q ∈ l
  ·have := h.once.2.2.2 q
   unfold isF
   rw [if_pos (h3 q hm)]
   exact this
  ·rw [cntIn_zero hm]
   exact Nat.zero_le _
 ·intro hq
  have hm : ∀ y ∈ l, H.tgt y = head := fun y hy => by
   have h1 := cntIn_pos hy
   rw [hq y (h.lt y hy)] at h1
   unfold isF at h1
   by_cases he : H.tgt y = head
   ·exact he
   ·rw [if_neg he] at h1; omega
  have hlen : l.length = H.cnt head H.p := by
   rw [<- sumTo_cntIn _ _ h.lt]
   exact sumTo_congr _ hq
  have := path_chain h (m := 0) hm rfl
  rw [Nat.add_zero, hlen] at this
  exact this
theorem listOk_goes (hk : H.ListOk head) (h : H.Path head l q a) (hq : q ≠ 0) : 1 <= q /\ q <= H.p /\ H.cel (q - 1) 3 = a /\ l.length < H.p := by
 obtain ⟨h1, h2, h3⟩ := chain_path hk h
 have hc := cnt_le (H := H) head H.p
 rcases hr : H.cnt head H.p - l.length with _ | r
 ·rw [hr] at h2
  exact absurd h2 hq
 ·rw [hr] at h2
  obtain ⟨⟨g1, g2, _, g4⟩, _⟩ := h2
  exact ⟨g1, g2, g4, by omega⟩

theorem ones_full {v n : Nat} (hv : v < 2 ^ n) (hn : n <= 32) : HM.onesTo v 32 = n ↔ v = 2 ^ n - 1 := by
 have h32 : ∀ k, HM.onesTo v (n + k) = HM.onesTo v n := by
  intro k
  induction k with
  | zero => rfl
  | succ k ih =>
   rw [<- Nat.add_assoc, HM.onesTo_succ, ih, Nat.testBit_lt_two_pow (Nat.lt_of_lt_of_le hv (Nat.pow_le_pow_right (by omega) (by omega)))]
   simp
 have e : HM.onesTo v 32 = HM.onesTo v n := by
  have := h32 (32 - n)
  rwa [show n + (32 - n) = 32 by omega] at this
 rw [e]
 have hf := HM.ones_free v n
 constructor
 ·intro h
  have h0 : HM.freeTo v n = [] := List.length_eq_zero_iff.1 (by omega)
  apply Nat.eq_of_testBit_eq
  intro i
  rw [Nat.testBit_two_pow_sub_one]
  by_cases hi : i < n
  ·unfold HM.freeTo at h0
   rw [List.filter_eq_nil_iff] at h0
   have := h0 i (List.mem_range.2 hi)
   simp at this
   rw [this, decide_eq_true hi]
  ·rw [Nat.testBit_lt_two_pow (Nat.lt_of_lt_of_le hv (Nat.pow_le_pow_right (by omega) (by omega))), decide_eq_false hi]
 ·intro h
  have h0 : HM.freeTo v n = [] := by
   unfold HM.freeTo
   rw [List.filter_eq_nil_iff]
   intro i hi
   rw [h, Nat.testBit_two_pow_sub_one]
   simpa using List.mem_range.1 hi
  rw [h0] at hf
  simpa using hf
end AuH
end
end Go.Proofs.YtnmhdlpnimdffaaGreatDoor

namespace Go.Proofs.YtnmhdlpnimdffaaGreatDoor
open Go.ChangeShapes Go.WideShapes Go.ChangeAt Go.RowKit Go.Maps
set_option linter.unusedVariables false
set_option linter.unusedSimpArgs false
section
def upd (g : Int -> Nat) (c : Int) (v : Nat) : Int -> Nat := fun a => if a = c then v else g a
theorem upd_same (g : Int -> Nat) (c : Int) (v : Nat) : upd g c v c = v := if_pos rfl
theorem upd_other (g : Int -> Nat) {c a : Int} (v : Nat) (h : a ≠ c) : upd g c v a = g a := if_neg h

structure Geo (P : Nat) (nx pv : Nat -> Int) (hd : Int) : Prop where
 nn : ∀ a b, nx a = nx b -> a = b
 pp : ∀ a b, pv a = pv b -> a = b
 np : ∀ a b, nx a ≠ pv b
 hn : ∀ a, hd ≠ nx a
 hp : ∀ a, hd ≠ pv a

def Seg (P : Nat) (nx pv : Nat -> Int) (g : Int -> Nat) : Nat -> Nat -> List Nat -> Nat -> Nat -> Prop
 | a, x, [], a', x' => a = a' /\ x = x'
 | a, x, p :: r, a', x' => (x = p + 1 /\ p < P /\ g (pv p) = a) /\ Seg P nx pv g (p + 1) (g (nx p)) r a' x'

section
variable {P : Nat} {nx pv : Nat -> Int} {hd : Int} {g g' : Int -> Nat} {l l1 l2 : List Nat} {a x a' x' p : Nat}
theorem Seg.append : ∀ {l1 l2 : List Nat} {a x a' x' : Nat}, Seg P nx pv g a x (l1 ++ l2) a' x' ↔ ∃ b y, Seg P nx pv g a x l1 b y /\ Seg P nx pv g b y l2 a' x'
 | [], l2, a, x, a', x' => by
  constructor
  ·intro h; exact ⟨a, x, ⟨rfl, rfl⟩, h⟩
  ·rintro ⟨b, y, ⟨rfl, rfl⟩, h⟩; exact h
 | p :: r, l2, a, x, a', x' => by
  constructor
  ·rintro ⟨h1, h2⟩
   obtain ⟨b, y, h3, h4⟩ := Seg.append.1 h2
   exact ⟨b, y, ⟨h1, h3⟩, h4⟩
  ·rintro ⟨b, y, ⟨h1, h3⟩, h4⟩
   exact ⟨h1, Seg.append.2 ⟨b, y, h3, h4⟩⟩
theorem Seg.frame : ∀ {l : List Nat} {a x a' x' : Nat}, Seg P nx pv g a x l a' x' -> (∀ p ∈ l, g' (nx p) = g (nx p) /\ g' (pv p) = g (pv p)) -> Seg P nx pv g' a x l a' x'
 | [], a, x, a', x', h, _ => h
 | p :: r, a, x, a', x', ⟨⟨h1, h2, h3⟩, h4⟩, hf => by
  have hp := hf p (List.mem_cons_self ..)
  refine ⟨⟨h1, h2, by rw [hp.2]; exact h3⟩, ?_⟩
  rw [hp.1]
  exact Seg.frame h4 (fun q hq => hf q (List.mem_cons_of_mem _ hq))
theorem Seg.lt : ∀ {l : List Nat} {a x a' x' : Nat}, Seg P nx pv g a x l a' x' -> ∀ p ∈ l, p < P
 | [], a, x, a', x', _, p, hp => by cases hp
 | q :: r, a, x, a', x', ⟨⟨_, h2, _⟩, h4⟩, p, hp => by
  rcases List.mem_cons.1 hp with rfl | hp
  ·exact h2
  ·exact h4.lt p hp
theorem Seg.last (h : Seg P nx pv g a x (l ++ [p]) a' x') : a' = p + 1 /\ x' = g (nx p) := by
 obtain ⟨b, y, _, h2, h3⟩ := Seg.append.1 h
 exact ⟨h3.1.symm, h3.2.symm⟩
structure IsL (P : Nat) (nx pv : Nat -> Int) (hd : Int) (g : Int -> Nat) (l : List Nat) : Prop where
 seg : ∃ a, Seg P nx pv g 0 (g hd) l a 0
 nodup : l.Nodup

def lk1 : List Nat -> Nat
 | [] => 0
 | p :: _ => p + 1
theorem Seg.first {a' : Nat} (h : Seg P nx pv g a x l a' 0) : x = lk1 l := by
 cases l with
 | nil => exact h.2
 | cons p r => exact h.1.1
theorem Seg.reprev (G : Geo P nx pv hd) {b : Nat} (hl : l.Nodup) (h : Seg P nx pv g a x l a' x') (h1 : ∀ p ∈ l, g' (nx p) = g (nx p)) (h2 : ∀ p ∈ l.drop 1, g' (pv p) = g (pv p)) (h3 : ∀ p r, l = p :: r -> g' (pv p) = b) (h0 : l = [] -> a' = a) :
  ∃ c, Seg P nx pv g' b x l c x' := by
 cases l with
 | nil => exact ⟨b, rfl, h.2⟩
 | cons p r =>
  refine ⟨a', ⟨h.1.1, h.1.2.1, h3 p r rfl⟩, ?_⟩
  rw [h1 p (List.mem_cons_self ..)]
  exact h.2.frame (fun q hq => ⟨h1 q (List.mem_cons_of_mem _ hq), h2 q (by simpa using hq)⟩)

def push1G (nx pv : Nat -> Int) (hd : Int) (p : Nat) (g : Int -> Nat) : Int -> Nat := upd (upd g (nx p) (g hd)) (pv p) 0
def pushG (nx pv : Nat -> Int) (hd : Int) (p : Nat) (g : Int -> Nat) : Int -> Nat :=
 upd (if g hd = 0 then push1G nx pv hd p g else upd (push1G nx pv hd p g) (pv (g hd - 1)) (p + 1)) hd (p + 1)
theorem IsL.push (G : Geo P nx pv hd) (h : IsL P nx pv hd g l) (hp : p < P) (hn : ¬ p ∈ l) : IsL P nx pv hd (pushG nx pv hd p g) (p :: l) := by
 obtain ⟨⟨a', hs⟩, hd'⟩ := h
 have hf := hs.first
 have e0 : pushG nx pv hd p g hd = p + 1 := upd_same _ _ _
 have e1 : ∀ c, c ≠ hd -> c ≠ nx p -> c ≠ pv p -> (∀ u r, l = u :: r -> c ≠ pv u) -> pushG nx pv hd p g c = g c := by
  intro c c1 c2 c3 c4
  unfold pushG
  rw [upd_other _ _ c1]
  have b1 : push1G nx pv hd p g c = g c := by unfold push1G; rw [upd_other _ _ c3, upd_other _ _ c2]
  split
  ·exact b1
  ·rename_i hz
   have : c ≠ pv (g hd - 1) := by
    cases l with
    | nil => exact absurd hf hz
    | cons u r => rw [hf]; exact c4 u r rfl
   rw [upd_other _ _ this, b1]
 have e2 : pushG nx pv hd p g (nx p) = g hd := by
  unfold pushG
  rw [upd_other _ _ (G.hn p).symm]
  have b1 : push1G nx pv hd p g (nx p) = g hd := by unfold push1G; rw [upd_other _ _ (G.np p p), upd_same]
  split
  ·exact b1
  ·rw [upd_other _ _ (G.np _ _), b1]
 have e3 : pushG nx pv hd p g (pv p) = 0 := by
  unfold pushG
  rw [upd_other _ _ (G.hp p).symm]
  have b1 : push1G nx pv hd p g (pv p) = 0 := by unfold push1G; rw [upd_same]
  split
  ·exact b1
  ·rename_i hz
   have : pv p ≠ pv (g hd - 1) := fun e => by
    have e := G.pp _ _ e
    cases l with
    | nil => exact hz hf
    | cons u r => have hf : g hd = u + 1 := hf; exact hn (by rw [e, hf]; simp)
   rw [upd_other _ _ this, b1]
 have e4 : ∀ u r, l = u :: r -> pushG nx pv hd p g (pv u) = p + 1 := by
  intro u r hl
  subst hl
  have hf : g hd = u + 1 := hf
  unfold pushG
  rw [upd_other _ _ (G.hp u).symm, if_neg (by omega), hf]
  exact upd_same _ _ _
 refine ⟨?_, by rw [List.nodup_cons]; exact ⟨hn, hd'⟩⟩
 have hne : ∀ u ∈ l, u ≠ p := fun u hu e => hn (e ▸ hu)
 have hd2 : ∀ u r, l = u :: r -> ∀ v ∈ r, v ≠ u := fun u r hl v hv e => by
  subst hl
  rw [List.nodup_cons] at hd'
  exact hd'.1 (e ▸ hv)
 obtain ⟨c, hc⟩ := hs.reprev (g' := pushG nx pv hd p g) (b := p + 1) G hd' (fun u hu => e1 _ (G.hn u).symm (fun e => hne u hu (G.nn _ _ e)) (G.np _ _) (fun v r _ => G.np _ _))
  (fun u hu => e1 _ (G.hp u).symm (fun e => G.np _ _ e.symm) (fun e => hne u (List.mem_of_mem_drop hu) (G.pp _ _ e)) (fun v r hl e => by
   have := G.pp _ _ e
   subst hl
   exact hd2 v r rfl u (by simpa using hu) this))
  e4 (fun hl => by subst hl; exact hs.1.symm)
 refine ⟨c, ?_⟩
 rw [e0]
 exact ⟨⟨rfl, hp, e3⟩, by rw [e2]; exact hc⟩

def pull1G (nx pv : Nat -> Int) (hd : Int) (p : Nat) (g : Int -> Nat) : Int -> Nat := if g (pv p) = 0 then upd g hd (g (nx p)) else upd g (nx (g (pv p) - 1)) (g (nx p))
def pull2G (nx pv : Nat -> Int) (hd : Int) (p : Nat) (g : Int -> Nat) : Int -> Nat := if g (nx p) = 0 then pull1G nx pv hd p g else upd (pull1G nx pv hd p g) (pv (g (nx p) - 1)) (g (pv p))
def pullG (nx pv : Nat -> Int) (hd : Int) (p : Nat) (g : Int -> Nat) : Int -> Nat := upd (upd (pull2G nx pv hd p g) (nx p) 0) (pv p) 0
theorem pull_far (G : Geo P nx pv hd) (hl : (l1 ++ p :: l2).Nodup) (hs : Seg P nx pv g 0 (g hd) (l1 ++ p :: l2) a' 0) {c : Int} (c1 : c ≠ hd) (c2 : ∀ u ∈ l1 ++ p :: l2, c ≠ nx u /\ c ≠ pv u) : pullG nx pv hd p g c = g c := by
 obtain ⟨b, y, s1, ⟨s2, s3, s4⟩, s5⟩ := Seg.append.1 hs
 have cp := c2 p (by simp)
 unfold pullG
 rw [upd_other _ _ cp.2, upd_other _ _ cp.1]
 have b1 : pull1G nx pv hd p g c = g c := by
  unfold pull1G
  split
  ·exact upd_other _ _ c1
  ·rename_i hz
   rw [s4] at hz ⊢
   rcases List.eq_nil_or_concat l1 with rfl | ⟨m1, u, rfl⟩
   ·exact absurd s1.1.symm hz
   ·rw [List.concat_eq_append] at s1 c2
    have := s1.last.1
    rw [this]
    exact upd_other _ _ (c2 u (by simp)).1
 unfold pull2G
 split
 ·exact b1
 ·rename_i hz
  have hx := s5.first
  cases l2 with
  | nil => exact absurd hx hz
  | cons v r =>
   have hx : g (nx p) = v + 1 := hx
   rw [hx, Nat.add_sub_cancel, upd_other _ _ (c2 v (by simp)).2]
   exact b1
theorem IsL.pull (G : Geo P nx pv hd) (h : IsL P nx pv hd g (l1 ++ p :: l2)) : IsL P nx pv hd (pullG nx pv hd p g) (l1 ++ l2) := by
 obtain ⟨⟨a', hs⟩, hl⟩ := h
 obtain ⟨b, y, s1, ⟨s2, s3, s4⟩, s5⟩ := Seg.append.1 hs
 have hx := s5.first
 have hnd := hl
 rw [List.nodup_append] at hnd
 obtain ⟨n1, n2, n3⟩ := hnd
 rw [List.nodup_cons] at n2
 obtain ⟨n4, n5⟩ := n2
 have q1 : ∀ u ∈ l1, u ≠ p := fun u hu => n3 u hu p (List.mem_cons_self ..)
 have q2 : ∀ u ∈ l2, u ≠ p := fun u hu e => n4 (e ▸ hu)
 have q3 : ∀ u ∈ l1, ∀ v ∈ l2, u ≠ v := fun u hu v hv => n3 u hu v (List.mem_cons_of_mem _ hv)
 -- what the cells are, but for those of p
 have w0 : ∀ c, c ≠ nx p -> c ≠ pv p -> pullG nx pv hd p g c = pull2G nx pv hd p g c := fun c c1 c2 => by unfold pullG; rw [upd_other _ _ c2, upd_other _ _ c1]
 have w1 : ∀ c, (∀ v r, l2 = v :: r -> c ≠ pv v) -> pull2G nx pv hd p g c = pull1G nx pv hd p g c := fun c c1 => by
  unfold pull2G
  split
  ·rfl
  ·rename_i hz
   cases l2 with
   | nil => exact absurd hx hz
   | cons v r =>
    have hx : g (nx p) = v + 1 := hx
    rw [hx, Nat.add_sub_cancel, upd_other _ _ (c1 v r rfl)]
 have w2 : ∀ v r, l2 = v :: r -> pull2G nx pv hd p g (pv v) = b := fun v r e => by
  subst e
  have hx : g (nx p) = v + 1 := hx
  unfold pull2G
  rw [if_neg (by omega), hx, Nat.add_sub_cancel, upd_same, s4]
 have hs1 : ∃ b', Seg P nx pv (pullG nx pv hd p g) 0 (pullG nx pv hd p g hd) l1 b' (lk1 l2) /\ b' = b := by
  have hdw : pullG nx pv hd p g hd = pull1G nx pv hd p g hd := by rw [w0 _ (G.hn p) (G.hp p), w1 _ (fun v r _ => G.hp v)]
  rcases List.eq_nil_or_concat l1 with rfl | ⟨m1, u, rfl⟩
  ·have hb : b = 0 := s1.1.symm
   refine ⟨0, ⟨rfl, ?_⟩, hb.symm⟩
   rw [hdw]
   unfold pull1G
   rw [if_pos (by rw [s4]; exact hb), upd_same, hx]
  ·rw [List.concat_eq_append] at *
   have hbu := s1.last.1
   have hb0 : ¬ g (pv p) = 0 := by rw [s4, hbu]; omega
   have w3 : ∀ c, c ≠ nx u -> pull1G nx pv hd p g c = g c := fun c c1 => by
    unfold pull1G
    rw [if_neg hb0, s4, hbu, Nat.add_sub_cancel, upd_other _ _ c1]
   have w4 : pull1G nx pv hd p g (nx u) = lk1 l2 := by
    unfold pull1G
    rw [if_neg hb0, s4, hbu, Nat.add_sub_cancel, upd_same, hx]
   obtain ⟨b0, y0, t1, ⟨t2, t3, t4⟩, t5⟩ := Seg.append.1 s1
   have hum : ∀ v ∈ m1, v ≠ u := fun v hv => by
    have n1' := n1
    rw [List.nodup_append] at n1'
    exact n1'.2.2 v hv u (by simp)
   have k1 : Seg P nx pv (pullG nx pv hd p g) 0 (pullG nx pv hd p g hd) m1 b0 y0 := by
    rw [hdw, w3 _ (G.hn u)]
    refine t1.frame (fun v hv => ⟨?_, ?_⟩)
    ·rw [w0 _ (fun e => q1 v (by simp [hv]) (G.nn _ _ e)) (G.np _ _), w1 _ (fun _ _ _ => G.np _ _), w3 _ (fun e => hum v hv (G.nn _ _ e))]
    ·rw [w0 _ (fun e => G.np _ _ e.symm) (fun e => q1 v (by simp [hv]) (G.pp _ _ e)), w1 _ (fun z r hz e => q3 v (by simp [hv]) z (by rw [hz]; simp) (G.pp _ _ e)), w3 _ (fun e => G.np _ _ e.symm)]
   have k2 : pullG nx pv hd p g (pv u) = b0 := by
    rw [w0 _ (fun e => G.np _ _ e.symm) (fun e => q1 u (by simp) (G.pp _ _ e)), w1 _ (fun z r hz e => q3 u (by simp) z (by rw [hz]; simp) (G.pp _ _ e)), w3 _ (fun e => G.np _ _ e.symm), t4]
   have k3 : pullG nx pv hd p g (nx u) = lk1 l2 := by
    rw [w0 _ (fun e => q1 u (by simp) (G.nn _ _ e)) (G.np _ _), w1 _ (fun _ _ _ => G.np _ _), w4]
   exact ⟨b, Seg.append.2 ⟨b0, y0, k1, ⟨t2, t3, k2⟩, hbu.symm, k3⟩, rfl⟩
 obtain ⟨b', h1, rfl⟩ := hs1
 have w5 : ∀ c, c ≠ hd -> (∀ u ∈ l1, c ≠ nx u) -> pull1G nx pv hd p g c = g c := fun c c1 c2 => by
  unfold pull1G
  split
  ·exact upd_other _ _ c1
  ·rename_i hz
   rw [s4] at hz ⊢
   rcases List.eq_nil_or_concat l1 with rfl | ⟨m1, u, rfl⟩
   ·exact absurd s1.1.symm hz
   ·rw [List.concat_eq_append] at s1 c2
    have := s1.last.1
    rw [this]
    exact upd_other _ _ (c2 u (by simp))
 have hd2 : ∀ u r, l2 = u :: r -> ∀ v ∈ r, v ≠ u := fun u r hl v hv e => by
  subst hl
  rw [List.nodup_cons] at n5
  exact n5.1 (e ▸ hv)
 obtain ⟨c, hc⟩ := s5.reprev (g' := pullG nx pv hd p g) (b := b') G n5
  (fun u hu => by rw [w0 _ (fun e => q2 u hu (G.nn _ _ e)) (G.np _ _), w1 _ (fun _ _ _ => G.np _ _), w5 _ (G.hn u).symm (fun v hv e => q3 v hv u hu (G.nn _ _ e.symm))])
  (fun u hu => by
   have hu' := List.mem_of_mem_drop hu
   rw [w0 _ (fun e => G.np _ _ e.symm) (fun e => q2 u hu' (G.pp _ _ e)), w1 _ (fun z r hz e => by
    have := G.pp _ _ e
    subst hz
    exact hd2 z r rfl u (by simpa using hu) this), w5 _ (G.hp u).symm (fun v hv e => G.np _ _ e.symm)])
  (fun v r e => by rw [w0 _ (fun e => G.np _ _ e.symm) (fun e2 => q2 v (by rw [e]; simp) (G.pp _ _ e2)), w2 v r e])
  (fun e => by subst e; exact s5.1.symm)
 rw [hx] at hc
 refine ⟨⟨c, Seg.append.2 ⟨b', _, h1, hc⟩⟩, ?_⟩
 rw [List.nodup_append]
 exact ⟨n1, n5, fun u hu v hv => q3 u hu v hv⟩
end
end
section
structure VW (n : Nat) (K : Nat -> Option Nat) (s : Vst) : Prop where
 all : ∀ i, i < n -> ∃ v, K i = some v
 lost : s.lost = false
section
variable {n : Nat} {K : Nat -> Option Nat} {s : Vst} {c : Int} {v : Nat}
theorem VW.at_ (h : VW n K s) {i : Nat} (hi : i < n) : getV n K s (i : Int) = (match pos s.wr i with | some k => atW s.wr k | none => (K i).getD 0) := by
 have ho := opn_yes hi h.lost
 unfold getV
 rw [if_pos ho, Int.toNat_natCast]
 cases pos s.wr i <;> rfl
theorem getV_far (n : Nat) (K : Nat -> Option Nat) (s : Vst) {a : Int} (h : ¬ (0 <= a /\ a < n)) : getV n K s a = 0 := getV_no (by unfold opn; simp; intro _ h1; omega)
theorem VW.get (h : VW n K s) (c : Int) : VW n K (getS n K s c) /\ getV n K (getS n K s c) = getV n K s := by
 by_cases ho : opn n s c = true
 ·obtain ⟨i, rfl, hi, hl⟩ := opn_at ho
  cases hp : pos s.wr i with
  | some k => rw [getS_put ho hp]; exact ⟨h, rfl⟩
  | none =>
   obtain ⟨v, hv⟩ := h.all i hi
   rw [getS_known ho hp hv]
   have e1 : (noteS s i).wr = s.wr /\ (noteS s i).lost = s.lost := by unfold noteS; split <;> exact ⟨rfl, rfl⟩
   refine ⟨⟨h.all, e1.2.trans h.lost⟩, ?_⟩
   funext a
   unfold getV opn
   rw [e1.1, e1.2]
 ·rw [getS_no (by simpa using ho)]; exact ⟨h, rfl⟩
theorem VW.put (h : VW n K s) {i : Nat} (hi : i < n) (v : Nat) : VW n K (putS n s (i : Int) v) /\ getV n K (putS n s (i : Int) v) = upd (getV n K s) (i : Int) v := by
 have ho := opn_yes hi h.lost
 have hV : VW n K (putS n s (i : Int) v) := ⟨h.all, by rw [putS_yes ho]; exact h.lost⟩
 refine ⟨hV, ?_⟩
 funext a
 by_cases ha : 0 <= a /\ a < n
 ·obtain ⟨j, rfl⟩ := Int.eq_ofNat_of_zero_le ha.1
  have hj : j < n := by omega
  rw [hV.at_ hj]
  have hw : (putS n s (i : Int) v).wr = putW s.wr i v := by rw [putS_yes ho]
  rw [hw, pos_putW]
  unfold upd
  cases hp : pos s.wr i with
  | some k =>
   obtain ⟨hk, hc⟩ := pos_some hp
   rw [putW_some hp]
   simp only
   by_cases e : j = i
   ·subst e
    rw [if_pos rfl, hp]
    simp [atW, List.getD, hk]
   ·rw [if_neg (by omega), h.at_ hj]
    cases hq : pos s.wr j with
    | none => rfl
    | some m =>
     have hm := pos_some hq
     have : m ≠ k := fun e2 => by subst e2; exact e (hm.2.symm.trans hc)
     simp [atW, List.getD, List.getElem?_set_ne (Ne.symm this)]
  | none =>
   rw [putW_none hp]
   simp only
   by_cases e : j = i
   ·subst e
    rw [if_pos rfl, if_pos rfl]
    simp [atW, List.getD]
   ·rw [if_neg e, if_neg (by omega), h.at_ hj]
    cases hq : pos s.wr j with
    | none => rfl
    | some m =>
     have hm := pos_some hq
     simp [atW, List.getD, List.getElem?_append_left hm.1]
 ·rw [getV_far n K _ ha]
  unfold upd
  rw [if_neg (by omega), getV_far n K _ ha]
end

def nxH (t p : Nat) : Int := ((30 + 4 * t + 6 * p + 2 : Nat) : Int)
def pvH (t p : Nat) : Int := ((30 + 4 * t + 6 * p + 3 : Nat) : Int)
theorem geo (P t hd : Nat) (h : hd < 30) : Geo P (nxH t) (pvH t) (hd : Int) :=
 ⟨fun a b e => by unfold nxH at e; omega, fun a b e => by unfold pvH at e; omega, fun a b e => by unfold nxH pvH at e; omega, fun a e => by unfold nxH at e; omega, fun a e => by unfold pvH at e; omega⟩

section
variable {t P s n hd : Nat} {K : Nat -> Option Nat} {st : Vst} {l l1 l2 : List Nat} {p : Nat}
structure Fit (t P s n : Nat) : Prop where
 right : rightB t P s = true
 len : n = 30 + 4 * t + 6 * P
theorem Fit.nums (h : Fit t P s n) : 4 <= P /\ P <= 1024 := by
 have := (rightB_iff _ _ _).1 h.right
 omega
theorem Fit.nx (h : Fit t P s n) (hp : p < P) : pageI (t : Int) (P : Int) (s : Int) (p : Int) 2 = nxH t p := by
 rw [pcell_yes h.right (by omega) (by omega) (by omega) (by omega)]
 unfold nxH
 push_cast
 omega
theorem Fit.pv (h : Fit t P s n) (hp : p < P) : pageI (t : Int) (P : Int) (s : Int) (p : Int) 3 = pvH t p := by
 rw [pcell_yes h.right (by omega) (by omega) (by omega) (by omega)]
 unfold pvH
 push_cast
 omega
theorem Fit.nxl (h : Fit t P s n) {x : Nat} (h0 : x ≠ 0) (hp : x - 1 < P) : pageI (t : Int) (P : Int) (s : Int) ((x : Int) - 1) 2 = nxH t (x - 1) := by
 rw [<- h.nx hp]
 congr 1
 omega
theorem Fit.pvl (h : Fit t P s n) {x : Nat} (h0 : x ≠ 0) (hp : x - 1 < P) : pageI (t : Int) (P : Int) (s : Int) ((x : Int) - 1) 3 = pvH t (x - 1) := by
 rw [<- h.pv hp]
 congr 1
 omega
theorem Fit.putN (h : Fit t P s n) (hV : VW n K st) (hp : p < P) (v : Nat) : VW n K (putS n st (nxH t p) v) /\ getV n K (putS n st (nxH t p) v) = upd (getV n K st) (nxH t p) v := hV.put (by have := h.len; omega) v
theorem Fit.putP (h : Fit t P s n) (hV : VW n K st) (hp : p < P) (v : Nat) : VW n K (putS n st (pvH t p) v) /\ getV n K (putS n st (pvH t p) v) = upd (getV n K st) (pvH t p) v := hV.put (by have := h.len; omega) v
theorem Fit.putH (h : Fit t P s n) (hV : VW n K st) (hh : hd < 30) (v : Nat) : VW n K (putS n st (hd : Int) v) /\ getV n K (putS n st (hd : Int) v) = upd (getV n K st) (hd : Int) v := hV.put (by have := h.len; omega) v

theorem Fit.push (h : Fit t P s n) (hh : hd < 30) (hV : VW n K st) (hp : p < P) (hx : getV n K st hd = 0 \/ getV n K st hd - 1 < P) :
  VW n K (pushS n K t P s hd p st) /\ getV n K (pushS n K t P s hd p st) = pushG (nxH t) (pvH t) hd p (getV n K st) := by
 obtain ⟨a1, a2⟩ := hV.get (hd : Int)
 obtain ⟨b1, b2⟩ := h.putN a1 hp (getV n K st hd)
 obtain ⟨c1, c2⟩ := h.putP b1 hp 0
 have hc : push1 n K t P s hd p st = putS n (putS n (getS n K st hd) (nxH t p) (getV n K st hd)) (pvH t p) 0 := by unfold push1; rw [h.nx hp, h.pv hp]
 rw [<- hc] at c1 c2
 rw [b2, a2] at c2
 have hc2 : getV n K (push1 n K t P s hd p st) = push1G (nxH t) (pvH t) hd p (getV n K st) := c2
 have hd2 : VW n K (push2 n K t P s hd p st) /\ getV n K (push2 n K t P s hd p st) = if getV n K st hd = 0 then push1G (nxH t) (pvH t) hd p (getV n K st) else upd (push1G (nxH t) (pvH t) hd p (getV n K st)) (pvH t (getV n K st hd - 1)) (p + 1) := by
  unfold push2
  by_cases hz : getV n K st hd = 0
  ·rw [if_pos hz, if_pos hz]
   exact ⟨c1, hc2⟩
  ·rw [if_neg hz, if_neg hz, h.pvl hz (by omega)]
   obtain ⟨d1, d2⟩ := h.putP c1 (show getV n K st hd - 1 < P by omega) (p + 1)
   rw [hc2] at d2
   exact ⟨d1, d2⟩
 obtain ⟨e1, e2⟩ := h.putH hd2.1 hh (p + 1)
 rw [hd2.2] at e2
 exact ⟨e1, e2⟩

theorem Fit.pull (h : Fit t P s n) (hh : hd < 30) (hV : VW n K st) (hp : p < P) (hx : getV n K st (nxH t p) = 0 \/ getV n K st (nxH t p) - 1 < P) (hy : getV n K st (pvH t p) = 0 \/ getV n K st (pvH t p) - 1 < P) :
  VW n K (pullS n K t P s hd p st) /\ getV n K (pullS n K t P s hd p st) = pullG (nxH t) (pvH t) hd p (getV n K st) := by
 obtain ⟨a1, a2⟩ := hV.get (nxH t p)
 obtain ⟨b1, b2⟩ := a1.get (pvH t p)
 have eN : pullN n K t P s p st = getV n K st (nxH t p) := by unfold pullN; rw [h.nx hp]
 have eB : pullB n K t P s p st = getV n K st (pvH t p) := by unfold pullB; rw [h.nx hp, h.pv hp, a2]
 have e0 : pull0 n K t P s p st = getS n K (getS n K st (nxH t p)) (pvH t p) := by unfold pull0; rw [h.nx hp, h.pv hp]
 rw [<- e0] at b1 b2
 rw [a2] at b2
 have c : VW n K (pull1 n K t P s hd p st) /\ getV n K (pull1 n K t P s hd p st) = pull1G (nxH t) (pvH t) hd p (getV n K st) := by
  unfold pull1 pull1G
  rw [eB, eN]
  by_cases hz : getV n K st (pvH t p) = 0
  ·rw [if_pos hz, if_pos hz]
   obtain ⟨d1, d2⟩ := h.putH b1 hh (getV n K st (nxH t p))
   rw [b2] at d2
   exact ⟨d1, d2⟩
  ·rw [if_neg hz, if_neg hz, h.nxl hz (by omega)]
   obtain ⟨d1, d2⟩ := h.putN b1 (show getV n K st (pvH t p) - 1 < P by omega) (getV n K st (nxH t p))
   rw [b2] at d2
   exact ⟨d1, d2⟩
 have d : VW n K (pull2 n K t P s hd p st) /\ getV n K (pull2 n K t P s hd p st) = pull2G (nxH t) (pvH t) hd p (getV n K st) := by
  unfold pull2 pull2G
  rw [eB, eN]
  by_cases hz : getV n K st (nxH t p) = 0
  ·rw [if_pos hz, if_pos hz]
   exact c
  ·rw [if_neg hz, if_neg hz, h.pvl hz (by omega)]
   obtain ⟨d1, d2⟩ := h.putP c.1 (show getV n K st (nxH t p) - 1 < P by omega) (getV n K st (pvH t p))
   rw [c.2] at d2
   exact ⟨d1, d2⟩
 unfold pullS pullG
 rw [h.nx hp, h.pv hp]
 obtain ⟨f1, f2⟩ := h.putN d.1 hp 0
 obtain ⟨g1, g2⟩ := h.putP f1 hp 0
 rw [f2, d.2] at g2
 exact ⟨g1, g2⟩

def HasL (t P hd n : Nat) (K : Nat -> Option Nat) (st : Vst) (l : List Nat) : Prop := IsL P (nxH t) (pvH t) hd (getV n K st) l
theorem HasL.lt (h : HasL t P hd n K st l) : ∀ u ∈ l, u < P := by obtain ⟨⟨a, hs⟩, _⟩ := h; exact hs.lt
theorem HasL.push (h : HasL t P hd n K st l) (hf : Fit t P s n) (hh : hd < 30) (hV : VW n K st) (hp : p < P) (hn : ¬ p ∈ l) :
  HasL t P hd n K (pushS n K t P s hd p st) (p :: l) /\ VW n K (pushS n K t P s hd p st) := by
 have h1 : getV n K st hd = 0 \/ getV n K st hd - 1 < P := by
  obtain ⟨⟨a, hs⟩, _⟩ := h
  have := hs.first
  cases l with
  | nil => exact .inl this
  | cons u r => right; have h2 := hs.lt u (by simp); have h3 : getV n K st hd = u + 1 := this; omega
 obtain ⟨h2, h3⟩ := hf.push hh hV hp h1
 refine ⟨?_, h2⟩
 unfold HasL
 rw [h3]
 exact IsL.push (geo P t hd hh) h hp hn
theorem HasL.links (h : HasL t P hd n K st (l1 ++ p :: l2)) : p < P /\ (getV n K st (nxH t p) = 0 \/ getV n K st (nxH t p) - 1 < P) /\ (getV n K st (pvH t p) = 0 \/ getV n K st (pvH t p) - 1 < P) := by
 have hlt := h.lt
 obtain ⟨⟨a, hs⟩, _⟩ := h
 obtain ⟨b, y, s1, ⟨s2, s3, s4⟩, s5⟩ := Seg.append.1 hs
 refine ⟨s3, ?_, ?_⟩
 ·have := s5.first
  cases l2 with
  | nil => exact .inl this
  | cons u r => right; have h2 := hlt u (by simp); have h3 : getV n K st (nxH t p) = u + 1 := this; omega
 ·rw [s4]
  rcases List.eq_nil_or_concat l1 with rfl | ⟨m1, u, rfl⟩
  ·exact .inl s1.1.symm
  ·rw [List.concat_eq_append] at s1 hlt
   right
   have h2 := hlt u (by simp)
   have h3 := s1.last.1
   omega
theorem HasL.pull (h : HasL t P hd n K st (l1 ++ p :: l2)) (hf : Fit t P s n) (hh : hd < 30) (hV : VW n K st) :
  HasL t P hd n K (pullS n K t P s hd p st) (l1 ++ l2) /\ VW n K (pullS n K t P s hd p st) := by
 obtain ⟨hp, hx, hy⟩ := h.links
 obtain ⟨h2, h3⟩ := hf.pull hh hV hp hx hy
 refine ⟨?_, h2⟩
 unfold HasL
 rw [h3]
 exact IsL.pull (geo P t hd hh) h
theorem HasL.other {hd2 : Nat} {l' : List Nat} (h : HasL t P hd n K st (l1 ++ p :: l2)) (hf : Fit t P s n) (hh : hd < 30) (hV : VW n K st) (h2 : HasL t P hd2 n K st l') (hne : hd2 ≠ hd) (hh2 : hd2 < 30) (hap : ∀ u ∈ l', ¬ u ∈ l1 ++ p :: l2) :
  HasL t P hd2 n K (pullS n K t P s hd p st) l' := by
 obtain ⟨hp, hx, hy⟩ := h.links
 obtain ⟨_, h3⟩ := hf.pull hh hV hp hx hy
 have G := geo P t hd hh
 have G2 := geo P t hd2 hh2
 obtain ⟨⟨a, hs⟩, hnd⟩ := h
 obtain ⟨⟨a2, hs2⟩, hnd2⟩ := h2
 unfold HasL
 rw [h3]
 refine ⟨⟨a2, ?_⟩, hnd2⟩
 rw [pull_far G hnd hs (c := (hd2 : Int)) (by omega) (fun u _ => ⟨G2.hn u, G2.hp u⟩)]
 refine hs2.frame (fun u hu => ⟨?_, ?_⟩)
 ·refine pull_far G hnd hs (G.hn u).symm (fun v hv => ⟨fun e => hap u hu (by rw [G.nn _ _ e]; exact hv), G.np _ _⟩)
 ·refine pull_far G hnd hs (G.hp u).symm (fun v hv => ⟨fun e => G.np _ _ e.symm, fun e => hap u hu (by rw [G.pp _ _ e]; exact hv)⟩)
end

namespace AuH
variable {H : AuH}
theorem chain_full {head : Nat} : ∀ (r : Nat) (l : List Nat) (q a : Nat), H.Path head l q a -> H.chain head r q a -> ∃ l' a', H.Path head l' 0 a'
 | 0, l, q, a, hp, hc => by
  have : q = 0 := hc
  subst this
  exact ⟨l, a, hp⟩
 | r + 1, l, q, a, hp, hc => by
  obtain ⟨⟨h1, h2, h3, h4⟩, h5⟩ := hc
  exact chain_full r _ _ _ (.snoc hp h1 h2 h4) h5
theorem listOk_path {head : Nat} (h : H.ListOk head) : ∃ l a, H.Path head l 0 a := chain_full _ _ _ _ .nil h
end AuH
section
variable {H : AuH} {n c hd : Nat} {K : Nat -> Option Nat} {l : List Nat}
theorem HeapV.fit (HV : HeapV H n c) : Fit H.t H.p H.s n := ⟨HV.right, HV.len⟩
theorem path_seg (hK : ∀ i, i < n -> K i = some (H.V i)) (hn : n = 30 + 4 * H.t + 6 * H.p) {g : Int -> Nat} (hg : ∀ i : Nat, i < n -> g i = H.V i) (hh : hd < 30) {q a : Nat} (h : H.Path hd l q a) : Seg H.p (nxH H.t) (pvH H.t) g 0 (g hd) l a q := by
 induction h with
 | nil => exact ⟨rfl, hg hd (by omega)⟩
 | snoc h h1 h2 h3 ih =>
  rename_i l q a
  refine Seg.append.2 ⟨a, q, ih, ⟨by omega, by omega, ?_⟩, by omega, ?_⟩
  ·unfold pvH
   rw [hg _ (by omega), <- h3]
   rfl
  ·unfold nxH
   rw [hg _ (by omega)]
   rfl
theorem cntIn_nodup : ∀ {l : List Nat}, (∀ y, AuH.cntIn l y <= 1) -> l.Nodup
 | [], _ => List.nodup_nil
 | a :: r, h => by
  have e : ∀ y, AuH.cntIn (a :: r) y = (if a = y then 1 else 0) + AuH.cntIn r y := fun y => by
   unfold AuH.cntIn
   rw [List.filter_cons]
   by_cases h : a = y
   ·simp [h]; omega
   ·simp [h]
  refine List.nodup_cons.2 ⟨fun hm => ?_, cntIn_nodup (fun y => by have := h y; rw [e] at this; omega)⟩
  have h1 := h a
  rw [e, if_pos rfl] at h1
  have := AuH.cntIn_pos hm
  omega
end
end
end Go.Proofs.YtnmhdlpnimdffaaGreatDoor

namespace Go.Proofs.YtnmhdlpnimdffaaGreatDoor
open Go.ChangeShapes Go.WideShapes Go.ChangeAt Go.RowKit Go.Shelf
set_option linter.unusedVariables false
set_option linter.unusedSimpArgs false
section
def ptVs (l : List (Int × Int × Int)) : List Value := l.flatMap fun x => [.int .i64 x.1, .int .i64 x.2.1, .int .i64 x.2.2]
theorem ptVs_len (l : List (Int × Int × Int)) : (ptVs l).length = l.length * 3 := by unfold ptVs; induction l with
 | nil => rfl
 | cons x l ih => rw [List.flatMap_cons, List.length_append, ih]; simp; omega
theorem ptVs_app (l m : List (Int × Int × Int)) : ptVs (l ++ m) = ptVs l ++ ptVs m := by unfold ptVs; rw [List.flatMap_append]
theorem ptVs_one (x : Int × Int × Int) : ptVs [x] = [.int .i64 x.1, .int .i64 x.2.1, .int .i64 x.2.2] := by simp [ptVs]
theorem partInfo : (Tryz.prog.info? 102).map (fun i => (i.zero, i.size, i.bytes)) = some (some (.agg #[.int .i64 0, .int .i64 0, .int .i64 0]), 3, 24) := by kernel_rfl

namespace AuH
variable (H : AuH)
def pg : Nat := 2 ^ H.s
def first (q : Nat) : Int := ((q : Int) + 1) * (H.pg : Int)
def zs (q : Nat) : Nat := sizeN (H.s : Int) (H.Cl q)
def sl (q : Nat) : Nat := slotI (H.Cl q)
def slotPart (q i : Nat) : Int × Int × Int := ((slotKd (H.cel q 5) (H.cel q 4) i : Nat), H.first q + (i : Int) * (H.zs q : Int), (H.zs q : Int))
def slotsTo (q k : Nat) : List (Int × Int × Int) := (List.range k).map (H.slotPart q)
def slack (q : Nat) : List (Int × Int × Int) := if H.sl q * H.zs q < H.pg then [(5, H.first q + ((H.sl q * H.zs q : Nat) : Int), (H.pg : Int) - ((H.sl q * H.zs q : Nat) : Int))] else []
def partsAt (q : Nat) : List (Int × Int × Int) :=
 if H.K q = 1 then [(1, H.first q, (H.ln q : Int) * (H.pg : Int))] else if H.K q = 2 then [(2, H.first q, (H.ln q : Int) * (H.pg : Int))]
 else if H.K q = 3 then H.slotsTo q (H.sl q) ++ H.slack q else []
def parts : List (Int × Int × Int) := catTo H.partsAt H.p
variable {H}
theorem slotsTo_succ (q k : Nat) : H.slotsTo q (k + 1) = H.slotsTo q k ++ [H.slotPart q k] := by unfold slotsTo; rw [List.range_succ, List.map_append]; rfl
theorem slotsTo_len (q k : Nat) : (H.slotsTo q k).length = k := by unfold slotsTo; simp
theorem partsAt_no {q : Nat} (h : H.K q = 0) : H.partsAt q = [] := by unfold partsAt; rw [if_neg (by omega), if_neg (by omega), if_neg (by omega)]
theorem partsAt_len (q : Nat) : (H.partsAt q).length <= 33 := by
 unfold partsAt
 split
 ·simp
 ·split
  ·simp
  ·split
   ·rw [List.length_append, slotsTo_len]
    have := slotI_le (H.Cl q)
    unfold slack sl
    split <;> simp <;> omega
   ·simp
theorem parts_len : ∀ x, (catTo H.partsAt x).length <= x * 33
 | 0 => by simp [catTo]
 | x + 1 => by
  have h1 := parts_len x
  have h2 := partsAt_len (H := H) x
  show (catTo H.partsAt x ++ H.partsAt x).length <= _
  rw [List.length_append]
  omega
end AuH
theorem pg_le {H : AuH} {n c : Nat} (HV : HeapV H n c) : 1024 <= H.pg /\ H.pg <= 1048576 /\ H.pg = pageS H.s /\ pageN H.t H.p H.s = H.pg := by
 obtain ⟨g, q, h1, h2, h3, h4, h5, h6, h7, h8, h9, h10, h11⟩ := right_nums HV.right
 have e : H.pg = g := by unfold AuH.pg; rw [h8, Int.toNat_natCast]
 rw [e]
 exact ⟨h6, h7, by rw [pageS_yes ⟨h9, h10⟩]; exact h8, h1⟩
theorem first_eq {H : AuH} {n c : Nat} (HV : HeapV H n c) {q : Nat} (hq : q < H.p) : addrI H.t H.p H.s q 0 = H.first q /\ addrB H.t H.p H.s q 0 = true /\ 1024 <= H.first q /\ H.first q <= 1075838976 := by
 have hg := pg_le HV
 have hB : addrB H.t H.p H.s q 0 = true := by unfold addrB; rw [HV.right, hg.2.2.2, Bool.true_and, decide_eq_true_iff]; omega
 have hA : addrI H.t H.p H.s q 0 = ((q : Int) + 1) * (H.pg : Int) + 0 := by unfold addrI; rw [if_pos hB, hg.2.2.2]
 have hY := addr_yes hB
 rw [hA, Int.add_zero] at hY
 exact ⟨by rw [hA, Int.add_zero]; rfl, hB, hY.2.2.2.2.1, hY.2.2.2.2.2⟩

theorem held_grown {w w' : World} {row : Option Nat} {g : Nat} {t : TypeId} {cs : Array Value} (h : Held w g t cs) (hg : w.grownBy w' row) (hr : row ≠ some g) : Held w' g t cs := (hg.block g h.lt (fun e => hr e.symm)).trans h
end
section
theorem own_down {w : World} {base base' : Nat} {e : TypeId} {size : Nat} {v : Value} {n : Nat} {xs : List Value} (h : w.ownsRow base e size v n xs) (hb : base' <= base) : w.ownsRow base' e size v n xs :=
 ⟨h.1, h.2.imp id fun ⟨g, cap, cur, h1, h2, h3⟩ => ⟨g, cap, cur, h1, Nat.le_trans hb h2, h3⟩⟩
section
attribute [local go_sem] Oper.semAt_some

end
end
section
def blocksOf (l : List (Int × Int × Int)) : List (Int × Int) := (l.filter fun x => decide (x.1 = 2)).map fun x => x.2
def bkVs (l : List (Int × Int)) : List Value := l.flatMap fun x => [.int .i64 x.1, .int .i64 x.2]
theorem bkVs_snoc (l : List (Int × Int)) (x : Int × Int) : bkVs (l ++ [x]) = bkVs l ++ [.int .i64 x.1, .int .i64 x.2] := by unfold bkVs; rw [List.flatMap_append]; simp
theorem blocksOf_app (l m : List (Int × Int × Int)) : blocksOf (l ++ m) = blocksOf l ++ blocksOf m := by unfold blocksOf; rw [List.filter_append, List.map_append]
theorem blocksOf_yes {x : Int × Int × Int} (h : x.1 = 2) : blocksOf [x] = [x.2] := by simp [blocksOf, h]
theorem blocksOf_no {x : Int × Int × Int} (h : x.1 ≠ 2) : blocksOf [x] = [] := by simp [blocksOf, h]
theorem blocksOf_len (l : List (Int × Int × Int)) : (blocksOf l).length <= l.length := by unfold blocksOf; rw [List.length_map]; exact List.length_filter_le _ _
theorem blockInfo : (Tryz.prog.info? 94).map (fun i => (i.zero, i.size, i.bytes)) = some (some (.agg #[.int .i64 0, .int .i64 0]), 2, 16) := by kernel_rfl
theorem ptVs_get : ∀ (l : List (Int × Int × Int)) (i : Nat) (x : Int × Int × Int), l[i]? = some x -> (ptVs l)[i * 3]? = some (.int .i64 x.1) /\ (ptVs l)[i * 3 + 1]? = some (.int .i64 x.2.1) /\ (ptVs l)[i * 3 + 2]? = some (.int .i64 x.2.2)
 | [], i, x, h => by simp at h
 | y :: l, 0, x, h => by
  simp at h
  subst h
  simp [ptVs]
 | y :: l, i + 1, x, h => by
  have h' : l[i]? = some x := by simpa using h
  obtain ⟨h1, h2, h3⟩ := ptVs_get l i x h'
  have e : ptVs (y :: l) = [.int .i64 y.1, .int .i64 y.2.1, .int .i64 y.2.2] ++ ptVs l := by simp [ptVs]
  have g : ∀ k, (ptVs (y :: l))[(i * 3 + k) + 3]? = (ptVs l)[i * 3 + k]? := fun k => by
   rw [e, List.getElem?_append_right (by simp)]
   simp
  exact ⟨by have := g 0; rw [Nat.add_zero] at this; rw [show (i + 1) * 3 = i * 3 + 3 by omega, this]; exact h1, by rw [show (i + 1) * 3 + 1 = (i * 3 + 1) + 3 by omega, g]; exact h2, by rw [show (i + 1) * 3 + 2 = (i * 3 + 2) + 3 by omega, g]; exact h3⟩
theorem own_caps3 {w : World} {base : Nat} {e : TypeId} {size n c : Nat} {A : Option Addr} {xs : List Value} (h : w.ownsRow base e size (.slice A n c) n xs) : n <= c /\ c <= maxLen := by
 rcases h.2 with ⟨h1, h2⟩ | ⟨g, cap, cur, h1, hb, hg, hnc, hcm, hr⟩
 ·injection h1 with _ h1 h3; omega
 ·injection h1 with _ _ h3; omega
theorem own_part {w : World} {base n g cap : Nat} {e : TypeId} {l : List (Int × Int × Int)} (h : w.ownsRow base e 3 (.slice (some ⟨g, 0, none⟩) n cap) n (ptVs l)) (hn : l.length = n) {i : Nat} {x : Int × Int × Int} (hx : l[i]? = some x) :
  w.cell? ⟨g, i * 3, none⟩ = some (.int .i64 x.1) /\ w.cell? ⟨g, i * 3 + 1, none⟩ = some (.int .i64 x.2.1) /\ w.cell? ⟨g, i * 3 + 2, none⟩ = some (.int .i64 x.2.2) := by
 have hi : i < n := by
  rcases Nat.lt_or_ge i n with h1 | h1
  ·exact h1
  ·rw [List.getElem?_eq_none (by omega)] at hx; cases hx
 obtain ⟨h1, h2, h3⟩ := ptVs_get l i x hx
 exact ⟨(h.cellAt _ (by omega)).trans h1, (h.cellAt _ (by omega)).trans h2, (h.cellAt _ (by omega)).trans h3⟩
end
end Go.Proofs.YtnmhdlpnimdffaaGreatDoor

namespace Go.Proofs.YtnmhdlpnimdffaaGreatDoor
open Go.ChangeShapes Go.WideShapes Go.ChangeAt Go.RowKit Go.Maps
set_option linter.unusedVariables false
set_option linter.unusedSimpArgs false
section
namespace AuH
def re (H : AuH) (V : Nat -> Nat) : AuH := ⟨H.t, H.p, H.s, V⟩
variable {H : AuH} {V : Nat -> Nat}
namespace Twin
end Twin
end AuH

section
variable {H : AuH} {hd : Nat} {g : Int -> Nat} {l : List Nat}
theorem seg_path (hg : ∀ i : Nat, i < 30 + 4 * H.t + 6 * H.p -> g i = H.V i) (hh : hd < 30) : ∀ (l : List Nat) {a x : Nat}, Seg H.p (nxH H.t) (pvH H.t) g 0 (g hd) l a x -> H.Path hd l x a := by
 intro l
 induction hn : l.length generalizing l with
 | zero =>
  intro a x h
  have : l = [] := List.eq_nil_of_length_eq_zero hn
  subst this
  obtain ⟨rfl, rfl⟩ := h
  rw [hg hd (by omega)]
  exact .nil
 | succ n ih =>
  intro a x h
  rcases List.eq_nil_or_concat l with rfl | ⟨m, p, rfl⟩
  ·simp at hn
  ·rw [List.concat_eq_append] at h hn ⊢
   obtain ⟨b, y, s1, ⟨rfl, s3, s4⟩, s5, s6⟩ := Seg.append.1 h
   have h1 := ih m (by simpa using hn) s1
   have h2 := AuH.Path.snoc h1 (by omega) (by omega) (by
    show H.cel (p + 1 - 1) 3 = b
    rw [Nat.add_sub_cancel, <- s4]
    unfold pvH
    rw [hg _ (by omega)]
    rfl)
   rw [Nat.add_sub_cancel] at h2
   subst s5
   have e : H.cel p 2 = x := by
    rw [<- s6]
    unfold nxH
    rw [hg _ (by omega)]
    rfl
   rw [e] at h2
   exact h2
theorem listOk_of (hg : ∀ i : Nat, i < 30 + 4 * H.t + 6 * H.p -> g i = H.V i) (hh : hd < 30) (hl : IsL H.p (nxH H.t) (pvH H.t) hd g l) (ht : ∀ y ∈ l, H.tgt y = hd) (hc : l.length = H.cnt hd H.p) : H.ListOk hd := by
 obtain ⟨⟨a, hs⟩, _⟩ := hl
 have := AuH.path_chain (seg_path hg hh l hs) (m := 0) ht rfl
 rw [Nat.add_zero, hc] at this
 exact this
theorem path_len {a : Nat} (hp : H.Path hd l 0 a) (hk : H.ListOk hd) : l.length = H.cnt hd H.p /\ ∀ y ∈ l, H.tgt y = hd := by
 obtain ⟨h1, h2, h3⟩ := AuH.chain_path hk hp
 refine ⟨?_, h3⟩
 rcases hr : H.cnt hd H.p - l.length with _ | r
 ·omega
 ·rw [hr] at h2
  have := h2.1.1
  omega
end
end
section
def curV (n : Nat) (g : Int -> Nat) (V : Nat -> Nat) : Nat -> Nat := fun i => if i < n then g (i : Int) else V i
theorem curV_in {n : Nat} {g : Int -> Nat} {V : Nat -> Nat} {i : Nat} (h : i < n) : curV n g V i = g i := if_pos h
section
variable {H : AuH} {n c hd : Nat} {g0 g' : Int -> Nat} {l l' : List Nat}
def ListCell (t hd : Nat) (l : List Nat) (c : Int) : Prop := c = hd \/ ∃ u ∈ l, c = nxH t u \/ c = pvH t u
theorem path_mem {a q : Nat} (hp : H.Path hd l 0 a) (hk : H.ListOk hd) (hq : q < H.p) (ht : H.tgt q = hd) : q ∈ l := by
 have h1 := (AuH.listOk_iff hp).1 hk q hq
 unfold AuH.isF at h1
 rw [if_pos ht] at h1
 rcases Nat.eq_zero_or_pos (AuH.cntIn l q) with h2 | h2
 ·omega
 ·unfold AuH.cntIn at h2
  obtain ⟨x, hx⟩ := List.exists_mem_of_length_pos h2
  rw [List.mem_filter] at hx
  have : x = q := by simpa using hx.2
  subst this
  exact hx.1
end

section
variable {P hd t : Nat} {g : Int -> Nat} {l l1 l2 : List Nat} {p a' : Nat}
theorem push_far (hh : hd < 30) (hs : Seg P (nxH t) (pvH t) g 0 (g hd) l a' 0) {c : Int} (hc : ¬ ListCell t hd (p :: l) c) : pushG (nxH t) (pvH t) hd p g c = g c := by
 have c1 : c ≠ hd := fun e => hc (.inl e)
 have c2 : c ≠ nxH t p := fun e => hc (.inr ⟨p, by simp, .inl e⟩)
 have c3 : c ≠ pvH t p := fun e => hc (.inr ⟨p, by simp, .inr e⟩)
 have hf := hs.first
 unfold pushG
 rw [upd_other _ _ c1]
 have b1 : push1G (nxH t) (pvH t) hd p g c = g c := by unfold push1G; rw [upd_other _ _ c3, upd_other _ _ c2]
 split
 ·exact b1
 ·rename_i hz
  have : c ≠ pvH t (g hd - 1) := by
   cases l with
   | nil => exact absurd hf hz
   | cons u r =>
    intro e
    refine hc (.inr ⟨u, by simp, .inr ?_⟩)
    rw [e, hf]
    rfl
  rw [upd_other _ _ this, b1]
theorem pull_far' (hh : hd < 30) (hl : (l1 ++ p :: l2).Nodup) (hs : Seg P (nxH t) (pvH t) g 0 (g hd) (l1 ++ p :: l2) a' 0) {c : Int} (hc : ¬ ListCell t hd (l1 ++ p :: l2) c) : pullG (nxH t) (pvH t) hd p g c = g c :=
 pull_far (geo P t hd hh) hl hs (fun e => hc (.inl e)) (fun u hu => ⟨fun e => hc (.inr ⟨u, hu, .inl e⟩), fun e => hc (.inr ⟨u, hu, .inr e⟩)⟩)
end
end
section
namespace AuH
structure Spans (H : AuH) : Prop where
 pos : 0 < H.p
 zero : H.K 0 ≠ 0
 fit : ∀ q, q < H.p -> H.K q ≠ 0 -> H.nx q <= H.p
 next : ∀ q, q < H.p -> H.K q ≠ 0 -> H.nx q < H.p -> H.K (H.nx q) ≠ 0
 inside : ∀ q r, q < H.p -> H.K q ≠ 0 -> q < r -> r < H.nx q -> H.cel r 0 = 0
 none : ∀ q, q < H.p -> H.K q = 0 -> H.cel q 0 = 0
variable {H : AuH}
theorem Spans.can (h : H.Spans) {q : Nat} (hq : q < H.p) (hk : H.K q ≠ 0) : H.can q = true := (H.can_iff q).2 ⟨hq, hk, h.fit q hq hk⟩
theorem Spans.reach (h : H.Spans) : ∀ n x, x <= n -> x <= H.p -> (x = H.p \/ H.K x ≠ 0) -> H.At x := by
  intro n
  induction n with
  | zero => intro x hx _ _; have : x = 0 := by omega
            subst this; exact .zero
  | succ n ih =>
    intro x hx hxp hk
    rcases Nat.lt_or_ge x (n + 1) with h1 | h1
    · exact ih x (by omega) hxp hk
    · have hx0 : x = n + 1 := by omega
      subst hx0
      -- the last page below x with a span's info
      have hlast : ∀ m, m <= n + 1 -> ∃ a, a < n + 1 /\ H.K a ≠ 0 /\ (∀ r, a < r -> r < n + 1 -> r <= m -> H.K r = 0) := by
        intro m
        induction m with
        | zero => intro _; exact ⟨0, by omega, h.zero, fun r h1 h2 h3 => by omega⟩
        | succ m ihm =>
          intro hm
          obtain ⟨a, a1, a2, a3⟩ := ihm (by omega)
          by_cases hkm : H.K (m + 1) ≠ 0 /\ m + 1 < n + 1
          · exact ⟨m + 1, hkm.2, hkm.1, fun r h1 h2 h3 => by omega⟩
          · refine ⟨a, a1, a2, fun r h1 h2 h3 => ?_⟩
            rcases Nat.lt_or_ge r (m + 1) with h4 | h4
            · exact a3 r h1 h2 (by omega)
            · have : r = m + 1 := by omega
              subst this
              by_cases h5 : H.K (m + 1) = 0
              · exact h5
              · exact absurd ⟨h5, h2⟩ hkm
      obtain ⟨a, a1, a2, a3⟩ := hlast (n + 1) (Nat.le_refl _)
      have hap : a < H.p := by omega
      have haa := ih a (by omega) (by omega) (.inr a2)
      have hgt := (H.nx_gt (h.can hap a2)).1
      have hfit := h.fit a hap a2
      have e : H.nx a = n + 1 := by
        rcases Nat.lt_trichotomy (H.nx a) (n + 1) with h2 | h2 | h2
        · have h3 := h.next a hap a2 (by omega)
          exact absurd (a3 _ hgt h2 (by omega)) h3
        · exact h2
        · have h3 := h.inside a (n + 1) hap a2 (by omega) h2
          have h4 := (H.K_zero (n + 1) h3).1
          rcases hk with h5 | h5
          · omega
          · exact absurd h4 h5
      have := At.step haa (h.can hap a2)
      rwa [e] at this
theorem Spans.tiled (h : H.Spans) : H.Tiled := by
 refine ⟨h.reach H.p H.p (Nat.le_refl _) (Nat.le_refl _) (.inl rfl), fun a ha hc hp q h1 h2 => ?_⟩
 have hcan := (H.can_iff a).1 hc
 exact h.inside a q hcan.1 hcan.2.1 h1 h2
theorem Tiled.spans (h : H.Tiled) (hp : 0 < H.p) : H.Spans where
 pos := hp
 zero := h.at_K .zero hp
 fit q hq hk := ((H.can_iff q).1 (h.start hq hk).2).2.2
 next q hq hk hn := by
  have hs := h.start hq hk
  exact h.at_K (.step hs.1 hs.2) hn
 inside q r hq hk h1 h2 := by
  have hs := h.start hq hk
  exact h.2 q hs.1 hs.2 hq r h1 h2
 none q hq hk := by
  obtain ⟨a, a1, a2, a3, a4, a5⟩ := h.cover hq
  rcases Nat.eq_or_lt_of_le a4 with h6 | h6
  ·subst h6; exact absurd hk a3
  ·have hs := h.start a2 a3
   exact h.2 a hs.1 hs.2 a2 q h6 a5
structure Ok (H : AuH) (L : Nat -> List Nat) : Prop where
 spans : H.Spans
 feet : H.R3
 apart : ∀ q, q < H.p -> H.K q = 1 -> H.nx q < H.p -> H.K (H.nx q) ≠ 1
 slots : H.R5
 list : ∀ hd : Nat, 2 <= hd -> hd <= 21 -> IsL H.p (nxH H.t) (pvH H.t) hd (fun c => H.V c.toNat) (L hd)
 mem : ∀ hd : Nat, 2 <= hd -> hd <= 21 -> ∀ y, y ∈ L hd ↔ y < H.p /\ H.tgt y = hd
 loose : H.R8
 counts : H.R9
 roots : H.R10
theorem nodup_len {P : Nat -> Bool} : ∀ (n : Nat) (l : List Nat), l.Nodup -> (∀ y, y ∈ l ↔ y < n /\ P y = true) -> l.length = sumTo (fun q => if P q = true then 1 else 0) n
 | 0, l, hl, h => by
  cases l with
  | nil => rfl
  | cons a r => have := (h a).1 (by simp); omega
 | n + 1, l, hl, h => by
  show l.length = sumTo (fun q => if P q = true then 1 else 0) n + (if P n = true then 1 else 0)
  by_cases hn : P n = true
  ·have hm : n ∈ l := (h n).2 ⟨by omega, hn⟩
   have h1 := nodup_len n (l.erase n) (hl.erase n) (fun y => by
    rw [hl.mem_erase_iff, h y]
    constructor
    ·rintro ⟨h2, h3, h4⟩; exact ⟨by omega, h4⟩
    ·rintro ⟨h2, h3⟩; exact ⟨by omega, by omega, h3⟩)
   rw [List.length_erase_of_mem hm] at h1
   have : 0 < l.length := List.length_pos_of_mem hm
   rw [if_pos hn]
   omega
  ·rw [if_neg hn, Nat.add_zero]
   exact nodup_len n l hl (fun y => by
    rw [h y]
    constructor
    ·rintro ⟨h3, h4⟩
     refine ⟨?_, h4⟩
     rcases Nat.lt_or_ge y n with h5 | h5
     ·exact h5
     ·have : y = n := by omega
      subst this
      exact absurd h4 hn
    ·rintro ⟨h3, h4⟩; exact ⟨by omega, h4⟩)
theorem Ok.rules {L : Nat -> List Nat} (h : H.Ok L) : ∀ i, i < 10 -> H.rule i := by
 have hok : ∀ hd, 2 <= hd -> hd <= 21 -> H.ListOk hd := fun hd h2 h21 => by
  have hl := h.list hd h2 h21
  have hm := h.mem hd h2 h21
  refine listOk_of (g := fun c => H.V c.toNat) (fun i _ => by simp) (by omega) hl (fun y hy => ((hm y).1 hy).2) ?_
  have := nodup_len (P := fun q => decide (H.tgt q = (hd : Int))) H.p (L hd) hl.nodup (fun y => by rw [hm y, decide_eq_true_iff])
  rw [this]
  unfold cnt
  refine sumTo_congr _ (fun q _ => ?_)
  unfold isF
  simp
 intro i hi
 match i, hi with
 | 0, _ => trivial
 | 1, _ => exact h.spans.tiled
 | 2, _ => exact h.feet
 | 3, _ => exact fun q ha hq hk hn => h.apart q hq hk hn
 | 4, _ => exact h.slots
 | 5, _ => exact fun k hk => hok (2 + k) (by omega) (by omega)
 | 6, _ => exact fun k hk => hok (13 + k) (by omega) (by omega)
 | 7, _ => exact h.loose
 | 8, _ => exact h.counts
 | 9, _ => exact h.roots
 | i + 10, hi => omega
theorem okL_of (hp : 0 < H.p) (hr : ∀ i, i < 10 -> H.rule i) : ∃ L, H.Ok L := by
 have hti : H.Tiled := hr 1 (by omega)
 have hok : ∀ h, 2 <= h -> h <= 21 -> H.ListOk h := fun h a1 a2 => by
  rcases Nat.lt_or_ge h 13 with h1 | h1
  ·have h5 : ∀ k, k < 11 -> H.ListOk (2 + k) := hr 5 (by omega)
   have := h5 (h - 2) (by omega)
   rwa [show 2 + (h - 2) = h by omega] at this
  ·have h6 : ∀ k, k < 9 -> H.ListOk (13 + k) := hr 6 (by omega)
   have := h6 (h - 13) (by omega)
   rwa [show 13 + (h - 13) = h by omega] at this
 have hex : ∀ j, ∃ l : List Nat, 2 <= j -> j <= 21 -> ∃ a, H.Path j l 0 a := fun j => by
  by_cases hj : 2 <= j /\ j <= 21
  ·obtain ⟨l, a, h⟩ := AuH.listOk_path (hok j hj.1 hj.2)
   exact ⟨l, fun _ _ => ⟨a, h⟩⟩
  ·exact ⟨[], fun h1 h2 => absurd ⟨h1, h2⟩ hj⟩
 refine ⟨fun j => (hex j).choose, hti.spans hp, hr 2 (by omega), fun q hq hk hn => ?_, hr 4 (by omega), fun hd h2 h21 => ?_, fun hd h2 h21 y => ?_, hr 7 (by omega), hr 8 (by omega), hr 9 (by omega)⟩
 ·exact (show H.R4 from hr 3 (by omega)) q (hti.start hq (by omega)).1 hq hk hn
 ·obtain ⟨a, hpa⟩ := (hex hd).choose_spec h2 h21
  exact ⟨⟨a, path_seg (n := 30 + 4 * H.t + 6 * H.p) (K := fun i => some (H.V i)) (fun i _ => rfl) rfl (fun i _ => by simp) (by omega) hpa⟩, cntIn_nodup hpa.once.2.2.2⟩
 ·obtain ⟨a, hpa⟩ := (hex hd).choose_spec h2 h21
  exact ⟨fun hy => ⟨hpa.lt y hy, (path_len hpa (hok hd h2 h21)).2 y hy⟩, fun hy => path_mem hpa (hok hd h2 h21) hy.1 hy.2⟩
end AuH
end
end Go.Proofs.YtnmhdlpnimdffaaGreatDoor
