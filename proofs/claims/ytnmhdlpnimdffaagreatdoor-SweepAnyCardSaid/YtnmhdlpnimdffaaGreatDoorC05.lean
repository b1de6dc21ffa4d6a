/-
  The spans of some pages side by side are laid anew: what is to be shown of those pages alone. No program is named here.
-/
import Derived.Test.YtnmhdlpnimdffaaGreatDoorC04
import Derived.Test.YtnmhdlpnimdffaaGreatDoorC03
namespace Go.Proofs.YtnmhdlpnimdffaaGreatDoor
open Go.ChangeShapes Go.WideShapes Go.ChangeAt Go.RowKit Go.Maps
set_option linter.unusedVariables false
set_option linter.unusedSimpArgs false
section
namespace AuH
structure Whole (H : AuH) (a b : Nat) : Prop where
 lt : a < b
 le : b <= H.p
 first : H.K a ≠ 0
 last : b < H.p -> H.K b ≠ 0
variable {H : AuH} {V : Nat -> Nat} {a b : Nat}
theorem Spans.ahead (h : H.Spans) {q x : Nat} (hx : H.K x ≠ 0) (hq : q < x) (hxp : x <= H.p) (hk : H.K q ≠ 0) : H.nx q <= x := by
 rcases Nat.lt_or_ge x (H.nx q) with h1 | h1
 ·exact absurd (H.K_zero x (h.inside q x (by omega) hk hq h1)).1 hx
 ·exact h1
structure Recut (H : AuH) (V : Nat -> Nat) (a b : Nat) : Prop where
 whole : H.Whole a b
 out : ∀ q, q < H.p -> ¬ (a <= q /\ q < b) -> (H.re V).cel q 0 = H.cel q 0
 first : (H.re V).K a ≠ 0
 fit : ∀ q, a <= q -> q < b -> (H.re V).K q ≠ 0 -> (H.re V).nx q <= b
 next : ∀ q, a <= q -> q < b -> (H.re V).K q ≠ 0 -> (H.re V).nx q < b -> (H.re V).K ((H.re V).nx q) ≠ 0
 inside : ∀ q r, a <= q -> q < b -> (H.re V).K q ≠ 0 -> q < r -> r < (H.re V).nx q -> (H.re V).cel r 0 = 0
 none : ∀ q, a <= q -> q < b -> (H.re V).K q = 0 -> (H.re V).cel q 0 = 0
namespace Recut
theorem K (R : H.Recut V a b) {q : Nat} (hq : q < H.p) (h : ¬ (a <= q /\ q < b)) : (H.re V).K q = H.K q := by unfold AuH.K; rw [R.out q hq h]
theorem ln (R : H.Recut V a b) {q : Nat} (hq : q < H.p) (h : ¬ (a <= q /\ q < b)) : (H.re V).ln q = H.ln q := by unfold AuH.ln AuH.L; rw [R.out q hq h]
theorem Cl (R : H.Recut V a b) {q : Nat} (hq : q < H.p) (h : ¬ (a <= q /\ q < b)) : (H.re V).Cl q = H.Cl q := by unfold AuH.Cl; rw [R.out q hq h]
theorem nx (R : H.Recut V a b) {q : Nat} (hq : q < H.p) (h : ¬ (a <= q /\ q < b)) : (H.re V).nx q = H.nx q := by unfold AuH.nx; rw [R.ln hq h]
theorem ahead (R : H.Recut V a b) (h : H.Spans) {q : Nat} (hq : q < a) (hk : H.K q ≠ 0) : H.nx q <= a := h.ahead R.whole.first hq (by have := R.whole.lt; have := R.whole.le; omega) hk
theorem spans (R : H.Recut V a b) (h : H.Spans) : (H.re V).Spans := by
 have w := R.whole
 have hlt := w.lt
 have hle := w.le
 refine ⟨h.pos, ?_, fun q hq hk => ?_, fun q hq hk hn => ?_, fun q r hq hk h1 h2 => ?_, fun q hq hk => ?_⟩
 ·by_cases h0 : a <= 0 /\ 0 < b
  ·have : a = 0 := by omega
   subst this
   exact R.first
  ·rw [R.K h.pos h0]; exact h.zero
 ·by_cases hi : a <= q /\ q < b
  ·have := R.fit q hi.1 hi.2 hk
   show (H.re V).nx q <= H.p
   omega
  ·have hq : q < H.p := hq
   rw [R.K hq hi] at hk
   rw [R.nx hq hi]
   exact h.fit q hq hk
 ·have hn : (H.re V).nx q < H.p := hn
  have hq : q < H.p := hq
  by_cases hi : a <= q /\ q < b
  ·have h1 := R.fit q hi.1 hi.2 hk
   rcases Nat.eq_or_lt_of_le h1 with h2 | h2
   ·rw [h2] at hn ⊢
    rw [R.K hn (by omega)]
    exact w.last hn
   ·exact R.next q hi.1 hi.2 hk h2
  ·rw [R.K hq hi] at hk
   rw [R.nx hq hi] at hn ⊢
   by_cases hj : a <= H.nx q /\ H.nx q < b
   ·rcases Nat.lt_or_ge q a with h2 | h2
    ·have := R.ahead h h2 hk
     have : H.nx q = a := by omega
     rw [this]
     exact R.first
    ·have := (H.nx_gt (h.can hq hk)).1
     omega
   ·rw [R.K hn hj]
    exact h.next q hq hk hn
 ·have hq : q < H.p := hq
  by_cases hi : a <= q /\ q < b
  ·exact R.inside q r hi.1 hi.2 hk h1 h2
  ·rw [R.K hq hi] at hk
   rw [R.nx hq hi] at h2
   have hfit := h.fit q hq hk
   have hj : ¬ (a <= r /\ r < b) := by
    rintro ⟨j1, j2⟩
    rcases Nat.lt_or_ge q a with h3 | h3
    ·have := R.ahead h h3 hk; omega
    ·omega
   rw [R.out r (by omega) hj]
   exact h.inside q r hq hk h1 h2
 ·have hq : q < H.p := hq
  by_cases hi : a <= q /\ q < b
  ·exact R.none q hi.1 hi.2 hk
  ·rw [R.K hq hi] at hk
   rw [R.out q hq hi]
   exact h.none q hq hk
theorem feet (R : H.Recut V a b) (h : H.Spans) (hf : H.R3) (ho : ∀ q, q < H.p -> ¬ (a <= q /\ q < b) -> (H.re V).cel q 1 = H.cel q 1) (hi : ∀ q, a <= q -> q < b -> (H.re V).K q ≠ 0 -> (H.re V).Foot q) : (H.re V).R3 := fun q hq hk => by
 have hq : q < H.p := hq
 have hlt := R.whole.lt
 by_cases hin : a <= q /\ q < b
 ·exact hi q hin.1 hin.2 hk
 ·rw [R.K hq hin] at hk
  obtain ⟨f1, f2⟩ := hf q hq hk
  have hfit := h.fit q hq hk
  have hpos := H.ln_pos q hk
  have hnx : H.nx q = q + H.ln q := rfl
  have hout : ∀ r, q <= r -> r < q + H.ln q -> ¬ (a <= r /\ r < b) := fun r h1 h2 => by
   rintro ⟨j1, j2⟩
   rcases Nat.lt_or_ge q a with h3 | h3
   ·have := R.ahead h h3 hk; omega
   ·omega
  unfold Foot
  rw [R.ln hq hin]
  refine ⟨fun r h1 h2 => ?_, ?_⟩
  ·rw [ho r (by omega) (hout r h1 (by omega))]
   exact f1 r h1 h2
  ·rw [ho _ (by omega) (hout _ (by omega) (by omega))]
   exact f2
theorem apart (R : H.Recut V a b) (h : H.Spans) (ha : ∀ q, q < H.p -> H.K q = 1 -> H.nx q < H.p -> H.K (H.nx q) ≠ 1)
  (h1 : ∀ q, q < a -> H.K q = 1 -> H.nx q = a -> (H.re V).K a ≠ 1) (h2 : ∀ q, a <= q -> q < b -> (H.re V).K q = 1 -> (H.re V).nx q < b -> (H.re V).K ((H.re V).nx q) ≠ 1)
  (h3 : ∀ q, a <= q -> q < b -> (H.re V).K q = 1 -> (H.re V).nx q = b -> b < H.p -> H.K b ≠ 1) : ∀ q, q < H.p -> (H.re V).K q = 1 -> (H.re V).nx q < H.p -> (H.re V).K ((H.re V).nx q) ≠ 1 := fun q hq hk hn => by
 have hlt := R.whole.lt
 by_cases hi : a <= q /\ q < b
 ·have hfit := R.fit q hi.1 hi.2 (by omega)
  rcases Nat.eq_or_lt_of_le hfit with h4 | h4
  ·rw [h4] at hn ⊢
   rw [R.K hn (by omega)]
   exact h3 q hi.1 hi.2 hk h4 hn
  ·exact h2 q hi.1 hi.2 hk h4
 ·rw [R.K hq hi] at hk
  rw [R.nx hq hi] at hn ⊢
  by_cases hj : a <= H.nx q /\ H.nx q < b
  ·rcases Nat.lt_or_ge q a with h5 | h5
   ·have := R.ahead h h5 (by omega)
    have e : H.nx q = a := by omega
    rw [e]
    exact h1 q h5 hk e
   ·have := (H.nx_gt (h.can hq (by omega))).1
    omega
  ·rw [R.K hn hj]
   exact ha q hq hk hn
end Recut

theorem sumTo_split (f : Nat -> Nat) (a : Nat) : ∀ m, sumTo f (a + m) = sumTo f a + sumTo (fun i => f (a + i)) m
 | 0 => by simp [sumTo]
 | m + 1 => by
  show sumTo f (a + m) + f (a + m) = sumTo f a + (sumTo (fun i => f (a + i)) m + f (a + m))
  rw [sumTo_split f a m]
  omega
theorem sumTo_recut {f g : Nat -> Nat} {a m p : Nat} (h : a + m <= p) (ho : ∀ q, q < p -> ¬ (a <= q /\ q < a + m) -> g q = f q) :
  sumTo g p + sumTo (fun i => f (a + i)) m = sumTo f p + sumTo (fun i => g (a + i)) m := by
 obtain ⟨r, rfl⟩ : ∃ r, p = a + m + r := ⟨p - (a + m), by omega⟩
 rw [sumTo_split g (a + m) r, sumTo_split f (a + m) r, sumTo_split g a m, sumTo_split f a m]
 rw [sumTo_congr (f := g) (g := f) a (fun q hq => ho q (by omega) (by omega)), sumTo_congr (f := fun i => g (a + m + i)) (g := fun i => f (a + m + i)) r (fun q hq => ho _ (by omega) (by omega))]
 omega
theorem sumTo_first {f : Nat -> Nat} {m : Nat} (hm : 0 < m) (h : ∀ i, 0 < i -> i < m -> f i = 0) : sumTo f m = f 0 := by
 obtain ⟨r, rfl⟩ : ∃ r, m = 1 + r := ⟨m - 1, by omega⟩
 rw [sumTo_split f 1 r, sumTo_congr (f := fun i => f (1 + i)) (g := fun _ => 0) r (fun q hq => h _ (by omega) (by omega)), sumTo_zero]
 simp [sumTo]
theorem sumTo_pair {f : Nat -> Nat} {k m : Nat} (hk : 0 < k) (hm : k < m) (h : ∀ i, 0 < i -> i < m -> i ≠ k -> f i = 0) : sumTo f m = f 0 + f k := by
 obtain ⟨r, rfl⟩ : ∃ r, m = k + r := ⟨m - k, by omega⟩
 rw [sumTo_split f k r, sumTo_first hk (fun i h1 h2 => h i h1 (by omega) (by omega)), sumTo_first (f := fun i => f (k + i)) (by omega) (fun i h1 h2 => h _ (by omega) (by omega) (by omega))]
 rfl
end AuH
end
section
def ofI (n : Int) : Int := if n < 1 \/ 1024 < n then -1 else HM.logI n
theorem ofI_nat {n : Nat} (h1 : 1 <= n) (h2 : n <= 1024) : ∃ k : Nat, ofI (n : Int) = k /\ k <= 10 /\ 2 ^ k <= n /\ n < 2 ^ (k + 1) := by
 have h : ∃ k : Nat, k <= 10 /\ 2 ^ k <= n /\ n < 2 ^ (k + 1) := by
  rcases Nat.lt_or_ge n 1024 with h3 | h3
  ·refine ⟨Nat.log2 n, ?_, Nat.log2_self_le (by omega), Nat.lt_log2_self⟩
   have := Nat.log2_lt (n := n) (k := 10) (by omega)
   have := this.2 h3
   omega
  ·exact ⟨10, by omega, by omega, by omega⟩
 obtain ⟨k, hk, ha, hb⟩ := h
 refine ⟨k, ?_, hk, ha, hb⟩
 unfold ofI
 rw [if_neg (by omega)]
 exact HM.logI_at (n : Int) k (by
  have e : ((n : Int) / 2 ^ k) = ((n / 2 ^ k : Nat) : Int) := by push_cast; rfl
  rw [e]
  have := Nat.div_le_div_right (c := 2 ^ k) ha
  rw [Nat.div_self (Nat.two_pow_pos k)] at this
  omega) (by
  have e : ((n : Int) / 2 ^ (k + 1)) = ((n / 2 ^ (k + 1) : Nat) : Int) := by push_cast; rfl
  rw [e, Nat.div_eq_of_lt hb]
  omega)

section
variable (n : Nat) (K : Nat -> Option Nat) (t q s nn : Int)
end

def binH (nn : Int) : Int := nthI 2 11 1 (ofI nn)
theorem binH_nat {nn k : Nat} (h : ofI (nn : Int) = (k : Int)) (hk : k <= 10) : binH (nn : Int) = ((2 + k : Nat) : Int) := by
 unfold binH
 rw [h, nth_on (by omega) (by omega) (by omega)]
 push_cast
 omega
section
variable (n : Nat) (K : Nat -> Option Nat) (t q s : Int)
def infoOf (p : Int) (st : Vst) : Int × Int × Int × Bool := infoG (getV n K st (pageI t q s p 0))
def dropV (p : Int) (st : Vst) : Int := if pgB q p then (if (infoOf n K t q s p st).1 = 1 then (infoOf n K t q s p st).2.1 else 0) else 0
def dropS (p : Int) (st : Vst) : Vst := if pgB q p then (if (infoOf n K t q s p st).1 = 1 then pullI n K t q s (binH (infoOf n K t q s p st).2.1) p (getS n K st (pageI t q s p 0)) else getS n K st (pageI t q s p 0)) else st
def addS (p nn : Int) (st : Vst) : Vst := if pgB q p = true /\ 1 <= nn /\ nn <= q - p then pushI n K t q s (binH nn) p (putS n (putS n st (pageI t q s p 0) (infoV 1 nn 0)) (pageI t q s (p + nn - 1) 1) (p.toNat + 1)) else st
end
end
section
def inH (t p : Nat) : Int := ((30 + 4 * t + 6 * p : Nat) : Int)
section
variable {n : Nat} {K : Nat -> Option Nat} {st st' st'' : Vst} {t P s : Nat} {nn : Int}
theorem Fit.inf (h : Fit t P s n) {p : Nat} (hp : p < P) : pageI (t : Int) (P : Int) (s : Int) (p : Int) 0 = inH t p := by
 rw [pcell_yes h.right (by omega) (by omega) (by omega) (by omega)]
 unfold inH
 push_cast
 omega
end

section
variable {H : AuH} {n c : Nat} {K : Nat -> Option Nat}
end
end
section
theorem infoG_free {m : Nat} (h1 : 1 <= m) (h2 : m <= 1024) : infoG (infoV 1 (m : Int) 0) = (1, (m : Int), 0, true) := infoG_put (infoB_yes (by unfold infoP; omega))
namespace AuH
variable {H : AuH} {V : Nat -> Nat} {L L' : Nat -> List Nat} {A k e : Nat}
theorem sum_free_le (h : H.Spans) (x : Nat) (hx : x <= H.p) (hk : x = H.p \/ H.K x ≠ 0) : sumTo H.freeF x <= x := by
 have ha := h.reach x x (Nat.le_refl _) hx hk
 induction ha with
 | zero => exact Nat.le_refl _
 | step ha hc ih =>
  rename_i q
  have hcan := (H.can_iff q).1 hc
  have h1 := ih (by omega) (.inr hcan.2.1)
  have h2 := h.tiled.sum (f := H.freeF) ha hcan.1 (fun r hr hz => by unfold freeF; rw [if_neg (by omega)])
  have h3 : H.freeF q <= H.ln q := by unfold freeF; split <;> omega
  have h4 : H.nx q = q + H.ln q := rfl
  omega
end AuH
end
end Go.Proofs.YtnmhdlpnimdffaaGreatDoor

namespace Go.Proofs.YtnmhdlpnimdffaaGreatDoor
open Go.ChangeShapes Go.WideShapes Go.ChangeAt Go.RowKit Go.Shelf
set_option linter.unusedVariables false
set_option linter.unusedSimpArgs false
section
namespace AuH
theorem mem_catTo {α : Type} {f : Nat -> List α} {x : α} : ∀ n, x ∈ catTo f n ↔ ∃ q, q < n /\ x ∈ f q
 | 0 => by simp [catTo]
 | n + 1 => by
  show x ∈ catTo f n ++ f n ↔ _
  rw [List.mem_append, mem_catTo n]
  constructor
  ·rintro (⟨q, h1, h2⟩ | h)
   ·exact ⟨q, by omega, h2⟩
   ·exact ⟨n, by omega, h⟩
  ·rintro ⟨q, h1, h2⟩
   rcases Nat.lt_or_ge q n with h | h
   ·exact .inl ⟨q, h, h2⟩
   ·obtain rfl : q = n := by omega
    exact .inr h2
end AuH
theorem mem_blocksOf {l : List (Int × Int × Int)} {x : Int × Int} : x ∈ blocksOf l ↔ (2, x) ∈ l := by
 unfold blocksOf
 rw [List.mem_map]
 constructor
 ·rintro ⟨y, h1, rfl⟩
  rw [List.mem_filter] at h1
  obtain ⟨h1, h2⟩ := h1
  have : y.1 = 2 := by simpa using h2
  rw [<- this]
  exact h1
 ·intro h
  exact ⟨(2, x), List.mem_filter.2 ⟨h, by simp⟩, rfl⟩
namespace AuH
theorem addr_at {H : AuH} {n c : Nat} (HV : HeapV H n c) {q o : Nat} (hq : q < H.p) (ho : o < H.pg) :
  addrB H.t H.p H.s q o = true /\ addrI H.t H.p H.s q o = H.first q + (o : Int) := by
 have hg := pg_le HV
 have hB : addrB H.t H.p H.s q o = true := by unfold addrB; rw [HV.right, hg.2.2.2, Bool.true_and, decide_eq_true_iff]; omega
 refine ⟨hB, ?_⟩
 unfold addrI
 rw [if_pos hB, hg.2.2.2]
 rfl
theorem spot_at {H : AuH} {n c : Nat} (HV : HeapV H n c) {q o : Nat} (hq : q < H.p) (ho : o < H.pg) :
  spotB H.t H.p H.s (H.first q + (o : Int)) = true /\ spotP H.t H.p H.s (H.first q + (o : Int)) = q /\ spotO H.t H.p H.s (H.first q + (o : Int)) = o := by
 obtain ⟨h1, h2⟩ := addr_at HV hq ho
 have h := addr_yes h1
 rw [h2] at h
 exact ⟨h.2.1, h.2.2.1, h.2.2.2.1⟩
theorem kd_two {a b i : Nat} (h : ((slotKd a b i : Nat) : Int) = 2) : b.testBit i = true := by
 unfold slotKd at h
 cases hb : b.testBit i
 ·rw [hb, if_neg (by simp)] at h
  split at h <;> omega
 ·rfl
theorem live_iff {H : AuH} {n c : Nat} (HV : HeapV H n c) (a : Int) : (∃ x ∈ blocksOf H.parts, x.1 = a) ↔ H.LiveAt a := by
 have hs := HV.nums
 have hg := pg_le HV
 constructor
 ·rintro ⟨⟨a', z⟩, hx, rfl⟩
  obtain ⟨q, hq, hx⟩ := (mem_catTo H.p).1 (mem_blocksOf.1 hx)
  show H.LiveAt a'
  unfold partsAt at hx
  by_cases h1 : H.K q = 1
  ·rw [if_pos h1] at hx
   simp at hx
  ·rw [if_neg h1] at hx
   by_cases h2 : H.K q = 2
   ·rw [if_pos h2] at hx
    simp at hx
    obtain ⟨g1, g2, g3⟩ := spot_at HV hq (show 0 < H.pg by omega)
    rw [show H.first q + ((0 : Nat) : Int) = a' by rw [hx.1]; simp] at g1 g2 g3
    refine ⟨g1, .inl ⟨?_, g3⟩⟩
    rw [g2, Int.toNat_natCast]
    exact h2
   ·rw [if_neg h2] at hx
    by_cases h3 : H.K q = 3
    ·rw [if_pos h3] at hx
     rcases List.mem_append.1 hx with hx | hx
     ·unfold slotsTo at hx
      obtain ⟨i, hi, he⟩ := List.mem_map.1 hx
      have hi := List.mem_range.1 hi
      unfold slotPart at he
      injection he with e1 e2
      injection e2 with e2 e3
      have hin := slot_in (s := (H.s : Int)) (k := H.Cl q) (by omega) (show i < slotI (H.Cl q) from hi)
      have hz : H.zs q = sizeN (H.s : Int) (H.Cl q) := rfl
      have ho : i * H.zs q < H.pg := by
       have h := hin.1
       rw [Nat.succ_mul] at h
       rw [hz, hg.2.2.1]
       omega
      obtain ⟨g1, g2, g3⟩ := spot_at HV hq ho
      have hcast : ((i * H.zs q : Nat) : Int) = (i : Int) * (H.zs q : Int) := by push_cast; rfl
      rw [show H.first q + ((i * H.zs q : Nat) : Int) = a' by rw [hcast]; exact e2] at g1 g2 g3
      have hsl := slot_at (t := H.t) (p := H.p) (s := H.s) (k := H.Cl q) HV.right i hi (o := ((i * H.zs q : Nat) : Int)) hcast
      refine ⟨g1, .inr ?_⟩
      rw [g2, g3, Int.toNat_natCast]
      exact ⟨h3, hsl.1, by rw [hsl.2, Int.toNat_natCast]; exact kd_two e1⟩
     ·unfold slack at hx
      split at hx
      ·simp at hx
      ·simp at hx
    ·rw [if_neg h3] at hx
     simp at hx
 ·rintro ⟨hs1, h⟩
  obtain ⟨h1, h2, _⟩ := spot_parts hs1
  obtain ⟨_, ⟨h9, h10⟩, h11, h12⟩ := addr_parts h1
  obtain ⟨q, hqq⟩ : ∃ q : Nat, spotP H.t H.p H.s a = q := ⟨(spotP H.t H.p H.s a).toNat, by omega⟩
  rw [hqq] at h1 h2 h h10
  rw [Int.toNat_natCast] at h
  have hq : q < H.p := by omega
  have hA : a = H.first q + spotO H.t H.p H.s a := by
   have : addrI H.t H.p H.s q (spotO H.t H.p H.s a) = H.first q + spotO H.t H.p H.s a := by
    unfold addrI
    rw [if_pos h1, hg.2.2.2]
    rfl
   rw [<- this]
   exact h2.symm
  rcases h with ⟨hk, ho⟩ | ⟨hk, hsb, htb⟩
  ·rw [ho] at hA
   refine ⟨(a, (H.ln q : Int) * (H.pg : Int)), mem_blocksOf.2 ((mem_catTo H.p).2 ⟨q, hq, ?_⟩), rfl⟩
   unfold partsAt
   rw [if_neg (by omega), if_pos hk, hA, Int.add_zero]
   simp
  ·obtain ⟨_, i, g1, g2, g3⟩ := slot_parts hsb
   rw [g3, Int.toNat_natCast] at htb
   refine ⟨(a, (H.zs q : Int)), mem_blocksOf.2 ((mem_catTo H.p).2 ⟨q, hq, ?_⟩), rfl⟩
   unfold partsAt
   rw [if_neg (by omega), if_neg (by omega), if_pos hk]
   refine List.mem_append_left _ (List.mem_map.2 ⟨i, List.mem_range.2 g1, ?_⟩)
   unfold slotPart slotKd
   rw [if_pos htb, hA, g2]
   rfl
end AuH
end
end Go.Proofs.YtnmhdlpnimdffaaGreatDoor

namespace Go.Proofs.YtnmhdlpnimdffaaGreatDoor
open Go.ChangeShapes Go.WideShapes Go.ChangeAt Go.RowKit
set_option linter.unusedVariables false
section
def Contig : Int -> List (Int × Int × Int) -> Int -> Prop
 | a, [], b => a = b
 | a, x :: l, b => (x.2.1 = a /\ 1 <= x.2.2 /\ 1 <= x.1 /\ x.1 <= 5) /\ Contig (a + x.2.2) l b
theorem Contig.app : ∀ {l : List (Int × Int × Int)} {a b c : Int} {m : List (Int × Int × Int)}, Contig a l b -> Contig b m c -> Contig a (l ++ m) c
 | [], a, b, c, m, h, h' => by
  have : a = b := h
  subst this
  exact h'
 | x :: l, a, b, c, m, h, h' => ⟨h.1, Contig.app h.2 h'⟩
theorem Contig.one {k a z : Int} (hk : 1 <= k /\ k <= 5) (hz : 1 <= z) : Contig a [(k, a, z)] (a + z) := ⟨⟨rfl, hz, hk.1, hk.2⟩, rfl⟩
namespace AuH
variable {H : AuH}
theorem first_add (q m : Nat) : H.first q + (m : Int) * (H.pg : Int) = H.first (q + m) := by
 unfold first
 rw [<- Int.add_mul]
 congr 1
 push_cast
 omega
theorem slot_kd (q i : Nat) : 1 <= (H.slotPart q i).1 /\ (H.slotPart q i).1 <= 5 := by
 show 1 <= ((slotKd _ _ i : Nat) : Int) /\ ((slotKd _ _ i : Nat) : Int) <= 5
 unfold slotKd
 split
 ·decide
 ·split <;> decide
theorem slots_contig (q : Nat) (hz : 1 <= H.zs q) : ∀ k, Contig (H.first q) (H.slotsTo q k) (H.first q + (k : Int) * (H.zs q : Int))
 | 0 => by
  have e : H.first q + ((0 : Nat) : Int) * (H.zs q : Int) = H.first q := by simp
  rw [e]
  exact rfl
 | k + 1 => by
  rw [slotsTo_succ]
  have e : H.first q + ((k + 1 : Nat) : Int) * (H.zs q : Int) = (H.first q + (k : Int) * (H.zs q : Int)) + (H.zs q : Int) := by
   push_cast
   rw [Int.add_mul]
   omega
  rw [e]
  exact (slots_contig q hz k).app ⟨⟨rfl, by show 1 <= (H.zs q : Int); omega, (slot_kd q k).1, (slot_kd q k).2⟩, rfl⟩
theorem partsAt_contig {n c : Nat} (HV : HeapV H n c) {q : Nat} (hk : H.K q ≠ 0) : Contig (H.first q) (H.partsAt q) (H.first (H.nx q)) := by
 have hg := pg_le HV
 have hs := HV.nums
 have hkc := H.K_cases q
 have hnx : H.first (H.nx q) = H.first q + (H.ln q : Int) * (H.pg : Int) := (first_add q (H.ln q)).symm
 have hpos : ∀ m : Nat, 1 <= m -> 1 <= (m : Int) * (H.pg : Int) := fun m hm => by
  have h1 : 1 * 1 <= m * H.pg := Nat.mul_le_mul hm (by omega)
  have h2 : ((m * H.pg : Nat) : Int) = (m : Int) * (H.pg : Int) := by push_cast; rfl
  rw [<- h2]
  omega
 rw [hnx]
 unfold partsAt
 by_cases h1 : H.K q = 1
 ·rw [if_pos h1]
  exact Contig.one (by omega) (hpos _ (by omega))
 ·rw [if_neg h1]
  by_cases h2 : H.K q = 2
  ·rw [if_pos h2]
   exact Contig.one (by omega) (hpos _ (by omega))
  ·have h3 : H.K q = 3 := by omega
   have hl : H.ln q = 1 := by omega
   rw [if_neg h2, if_pos h3, hl]
   obtain ⟨kc, hkc2⟩ : ∃ kc : Nat, H.Cl q = kc := ⟨(H.Cl q).toNat, by omega⟩
   have hf := size_facts (s := (H.s : Int)) (by omega) (k := kc) (by omega)
   have hz : H.zs q = sizeN (H.s : Int) (kc : Int) := by unfold zs; rw [hkc2]
   have hsl : H.sl q = slotN kc := by unfold sl; rw [hkc2, slotI_nat]
   have hfit : H.sl q * H.zs q <= H.pg := by rw [hz, hsl, hg.2.2.1, Nat.mul_comm]; exact hf.2.2.1
   have hc := slots_contig (H := H) q (by rw [hz]; omega) (H.sl q)
   have e1 : (H.sl q : Int) * (H.zs q : Int) = ((H.sl q * H.zs q : Nat) : Int) := by push_cast; rfl
   rw [e1] at hc
   unfold slack
   have e2 : H.first q + ((1 : Nat) : Int) * (H.pg : Int) = H.first q + (H.pg : Int) := by simp
   rw [e2]
   by_cases h4 : H.sl q * H.zs q < H.pg
   ·rw [if_pos h4]
    have := hc.app (Contig.one (k := 5) (a := H.first q + ((H.sl q * H.zs q : Nat) : Int)) (z := (H.pg : Int) - ((H.sl q * H.zs q : Nat) : Int)) (by omega) (by omega))
    have e3 : H.first q + ((H.sl q * H.zs q : Nat) : Int) + ((H.pg : Int) - ((H.sl q * H.zs q : Nat) : Int)) = H.first q + (H.pg : Int) := by omega
    rwa [e3] at this
   ·rw [if_neg h4, List.append_nil]
    have e3 : ((H.sl q * H.zs q : Nat) : Int) = (H.pg : Int) := by omega
    rwa [e3] at hc
theorem parts_contig {n c : Nat} (HV : HeapV H n c) (ht : H.Tiled) : Contig (H.pg : Int) H.parts (H.first H.p) := by
 have h : ∀ x, H.At x -> Contig (H.pg : Int) (catTo H.partsAt x) (H.first x) := by
  intro x hx
  induction hx with
  | zero =>
   show (H.pg : Int) = H.first 0
   unfold first
   simp
  | step ha hc ih =>
   have hk := (H.can_iff _).1 hc
   rw [ht.cat ha hk.1 (fun q _ h => partsAt_no h)]
   exact ih.app (partsAt_contig HV hk.2.1)
 exact h _ ht.1
end AuH
end
end Go.Proofs.YtnmhdlpnimdffaaGreatDoor

namespace Go.Proofs.YtnmhdlpnimdffaaGreatDoor
open Go.ChangeShapes Go.WideShapes Go.ChangeAt Go.RowKit Go.Maps
set_option linter.unusedVariables false
set_option linter.unusedSimpArgs false
section
namespace AuH
variable {H : AuH} {V : Nat -> Nat} {L L' : Nat -> List Nat} {A k e n c : Nat}
theorem catTo_split {α : Type} (f : Nat -> List α) (a : Nat) : ∀ m, catTo f (a + m) = catTo f a ++ catTo (fun i => f (a + i)) m
 | 0 => by simp [catTo]
 | m + 1 => by
  show catTo f (a + m) ++ f (a + m) = catTo f a ++ (catTo (fun i => f (a + i)) m ++ f (a + m))
  rw [catTo_split f a m, List.append_assoc]
theorem catTo_congr {α : Type} {f g : Nat -> List α} : ∀ m, (∀ i, i < m -> f i = g i) -> catTo f m = catTo g m
 | 0, _ => rfl
 | m + 1, h => by
  show catTo f m ++ f m = catTo g m ++ g m
  rw [catTo_congr m (fun i hi => h i (by omega)), h m (by omega)]
end AuH
end
section
namespace AuH
variable {H : AuH} {V : Nat -> Nat} {L L' : Nat -> List Nat} {A m n c : Nat}
structure Laid (H : AuH) (V : Nat -> Nat) (L L' : Nat -> List Nat) (A m : Nat) : Prop where
 cut : H.Recut V A (A + m)
 foot : ∀ q, A <= q -> q < A + m -> (H.re V).K q ≠ 0 -> (H.re V).Foot q
 feet : ∀ q, q < H.p -> ¬ (A <= q /\ q < A + m) -> (H.re V).cel q 1 = H.cel q 1
 left : ∀ q, q < A -> H.K q = 1 -> H.nx q = A -> (H.re V).K A ≠ 1
 mid : ∀ q, A <= q -> q < A + m -> (H.re V).K q = 1 -> (H.re V).nx q < A + m -> (H.re V).K ((H.re V).nx q) ≠ 1
 right : ∀ q, A <= q -> q < A + m -> (H.re V).K q = 1 -> (H.re V).nx q = A + m -> A + m < H.p -> H.K (A + m) ≠ 1
 slot : ∀ q, A <= q -> q < A + m -> (H.re V).Slot5 q
 bits : ∀ q, q < H.p -> ¬ (A <= q /\ q < A + m) -> (H.re V).cel q 4 = H.cel q 4 /\ (H.re V).cel q 5 = H.cel q 5
 list : ∀ hd : Nat, 2 <= hd -> hd <= 21 -> IsL H.p (nxH H.t) (pvH H.t) hd (fun c => V c.toNat) (L' hd)
 memIn : ∀ hd : Nat, 2 <= hd -> hd <= 21 -> ∀ y, A <= y -> y < A + m -> (y ∈ L' hd ↔ (H.re V).tgt y = hd)
 memOut : ∀ hd : Nat, 2 <= hd -> hd <= 21 -> ∀ y, ¬ (A <= y /\ y < A + m) -> (y ∈ L' hd ↔ y ∈ L hd)
 bare : ∀ q, A <= q -> q < A + m -> (H.re V).tgt q = -1 -> (H.re V).cel q 2 = 0 /\ (H.re V).cel q 3 = 0
 loose : ∀ q, q < H.p -> ¬ (A <= q /\ q < A + m) -> H.tgt q = -1 -> (H.re V).cel q 2 = H.cel q 2 /\ (H.re V).cel q 3 = H.cel q 3
 free : V 0 + sumTo (fun i => H.freeF (A + i)) m = H.V 0 + sumTo (fun i => (H.re V).freeF (A + i)) m
 live : V 1 + sumTo (fun i => H.liveF (A + i)) m = H.V 1 + sumTo (fun i => (H.re V).liveF (A + i)) m
 few : V 0 < 4294967296 /\ V 1 < 4294967296
 roots : ∀ i, i < 8 -> V (22 + i) = H.V (22 + i)
 named : ∀ i, i < 8 -> H.V (22 + i) ≠ 0 -> A <= (spotP H.t H.p H.s (H.V (22 + i) : Int)).toNat -> (spotP H.t H.p H.s (H.V (22 + i) : Int)).toNat < A + m -> (H.re V).LiveAt (H.V (22 + i) : Int)
theorem Laid.ok (T : H.Laid V L L' A m) (h : H.Ok L) (hp10 : H.p <= 1024) : (H.re V).Ok L' := by
 have hS := h.spans
 have R := T.cut
 have hw := R.whole.le
 have t3 : ∀ q, q < H.p -> ¬ (A <= q /\ q < A + m) -> (H.re V).tgt q = H.tgt q := fun q h1 h2 => by
  unfold AuH.tgt
  rw [R.K h1 h2, R.ln h1 h2, R.Cl h1 h2, (T.bits q h1 h2).2]
 refine ⟨R.spans hS, R.feet hS h.feet T.feet T.foot, R.apart hS h.apart T.left T.mid T.right, fun q hq => ?_, T.list, fun hd h2 h21 y => ?_, fun q hq ht => ?_, ?_, fun i hi hv => ?_⟩
 ·-- slots
  have hq : q < H.p := hq
  by_cases h1 : A <= q /\ q < A + m
  ·exact T.slot q h1.1 h1.2
  ·have h0 := h.slots q hq
   unfold Slot5 at h0 ⊢
   rw [(T.bits q hq h1).1, (T.bits q hq h1).2, R.K hq h1, R.Cl hq h1]
   exact h0
 ·-- lists
  show _ ↔ y < H.p /\ _
  by_cases h1 : A <= y /\ y < A + m
  ·rw [T.memIn hd h2 h21 y h1.1 h1.2]
   exact ⟨fun h3 => ⟨by omega, h3⟩, fun h3 => h3.2⟩
  ·rw [T.memOut hd h2 h21 y h1, h.mem hd h2 h21 y]
   constructor
   ·rintro ⟨h4, h5⟩; exact ⟨h4, by rw [t3 y h4 h1]; exact h5⟩
   ·rintro ⟨h4, h5⟩; rw [t3 y h4 h1] at h5; exact ⟨h4, h5⟩
 ·-- what is in no list
  have hq : q < H.p := hq
  by_cases h1 : A <= q /\ q < A + m
  ·exact T.bare q h1.1 h1.2 ht
  ·rw [t3 q hq h1] at ht
   obtain ⟨a1, a2⟩ := T.loose q hq h1 ht
   rw [a1, a2]
   exact h.loose q hq ht
 ·-- counts
  obtain ⟨c1, c2⟩ := h.counts
  have e1 := sumTo_recut (f := H.freeF) (g := (H.re V).freeF) (a := A) (m := m) (p := H.p) (by omega) (fun q h1 h2 => by
   unfold freeF
   rw [R.K h1 h2, R.ln h1 h2])
  have e2 := sumTo_recut (f := H.liveF) (g := (H.re V).liveF) (a := A) (m := m) (p := H.p) (by omega) (fun q h1 h2 => by
   unfold liveF
   rw [R.K h1 h2, (T.bits q h1 h2).1])
  have b1 := sums_le (H := H) H.p hp10
  have b2 := sums_le (H := H.re V) H.p hp10
  rw [Nat.mod_eq_of_lt (by omega)] at c1 c2
  have hf := T.free
  have hv := T.live
  refine ⟨?_, ?_⟩
  ·show V 0 = sumTo (H.re V).freeF H.p % 4294967296
   rw [Nat.mod_eq_of_lt (by omega)]
   omega
  ·show V 1 = sumTo (H.re V).liveF H.p % 4294967296
   rw [Nat.mod_eq_of_lt (by omega)]
   omega
 ·-- roots
  have e0 : (H.re V).V (22 + i) = H.V (22 + i) := T.roots i hi
  rw [e0] at hv ⊢
  obtain ⟨s1, s2⟩ := h.roots i hi hv
  have hnm := T.named i hi hv
  have hsp : (spotP H.t H.p H.s (H.V (22 + i) : Int)).toNat < H.p := by
   have h1 := (spot_parts s1).1
   unfold addrB at h1
   rw [Bool.and_eq_true, decide_eq_true_iff] at h1
   have := h1.2
   omega
  by_cases hin : A <= (spotP H.t H.p H.s (H.V (22 + i) : Int)).toNat /\ (spotP H.t H.p H.s (H.V (22 + i) : Int)).toNat < A + m
  ·exact hnm hin.1 hin.2
  ·refine ⟨s1, ?_⟩
   show ((H.re V).K (spotP H.t H.p H.s (H.V (22 + i) : Int)).toNat = 2 /\ _) \/ ((H.re V).K (spotP H.t H.p H.s (H.V (22 + i) : Int)).toNat = 3 /\ slotB H.t H.p H.s ((H.re V).Cl (spotP H.t H.p H.s (H.V (22 + i) : Int)).toNat) _ = true /\ ((H.re V).cel (spotP H.t H.p H.s (H.V (22 + i) : Int)).toNat 4).testBit (slotR H.t H.p H.s ((H.re V).Cl (spotP H.t H.p H.s (H.V (22 + i) : Int)).toNat) _).toNat = true)
   rw [R.K hsp hin, R.Cl hsp hin, (T.bits _ hsp hin).1]
   exact s2
theorem Laid.parts (T : H.Laid V L L' A m) : ∃ r, H.p = A + m + r /\ H.parts = catTo H.partsAt A ++ catTo (fun i => H.partsAt (A + i)) m ++ catTo (fun i => H.partsAt (A + m + i)) r /\
  (H.re V).parts = catTo H.partsAt A ++ catTo (fun i => (H.re V).partsAt (A + i)) m ++ catTo (fun i => H.partsAt (A + m + i)) r := by
 have R := T.cut
 have hw := R.whole.le
 obtain ⟨r, hr⟩ : ∃ r, H.p = A + m + r := ⟨H.p - (A + m), by omega⟩
 have hout : ∀ q, q < H.p -> ¬ (A <= q /\ q < A + m) -> (H.re V).partsAt q = H.partsAt q := fun q h1 h2 => by
  obtain ⟨b4, b5⟩ := T.bits q h1 h2
  unfold partsAt slotsTo slack slotPart sl zs first pg
  rw [R.K h1 h2, R.ln h1 h2, R.Cl h1 h2, b4, b5]
  rfl
 refine ⟨r, hr, ?_, ?_⟩
 ·unfold AuH.parts
  rw [hr, catTo_split _ (A + m) r, catTo_split _ A m]
 ·unfold AuH.parts
  show catTo (H.re V).partsAt H.p = _
  rw [hr, catTo_split _ (A + m) r, catTo_split _ A m,
   catTo_congr (f := (H.re V).partsAt) (g := H.partsAt) A (fun i hi => hout i (by omega) (by omega)),
   catTo_congr (f := fun i => (H.re V).partsAt (A + m + i)) (g := fun i => H.partsAt (A + m + i)) r (fun i hi => hout _ (by omega) (by omega))]
theorem Laid.blocks (T : H.Laid V L L' A m) (hb : blocksOf (catTo (fun i => (H.re V).partsAt (A + i)) m) = blocksOf (catTo (fun i => H.partsAt (A + i)) m)) : blocksOf (H.re V).parts = blocksOf H.parts := by
 obtain ⟨r, _, e1, e2⟩ := T.parts
 rw [e1, e2, blocksOf_app, blocksOf_app, blocksOf_app, blocksOf_app, hb]
end AuH
end
section
section
variable {n : Nat} {K : Nat -> Option Nat} {st : Vst} {t P s : Nat}
def ftH (t p : Nat) : Int := ((30 + 4 * t + 6 * p + 1 : Nat) : Int)
theorem Fit.foot (h : Fit t P s n) {p : Nat} (hp : p < P) : pageI (t : Int) (P : Int) (s : Int) (p : Int) 1 = ftH t p := by
 rw [pcell_yes h.right (by omega) (by omega) (by omega) (by omega)]
 unfold ftH
 push_cast
 omega
end

section
variable {H : AuH} {n c : Nat} {K : Nat -> Option Nat}
end
end
section
structure Lists (t P n : Nat) (K : Nat -> Option Nat) (st : Vst) (L : Nat -> List Nat) : Prop where
 vw : VW n K st
 has : ∀ hd : Nat, 2 <= hd -> hd <= 21 -> HasL t P hd n K st (L hd)
 apart : ∀ a b : Nat, 2 <= a -> a <= 21 -> 2 <= b -> b <= 21 -> a ≠ b -> ∀ u ∈ L a, ¬ u ∈ L b
def LinkCell (t : Nat) (c : Int) : Prop := (∃ hd : Nat, 2 <= hd /\ hd <= 21 /\ c = hd) \/ ∃ u, c = nxH t u \/ c = pvH t u
section
variable {t P s n : Nat} {K : Nat -> Option Nat} {st : Vst} {L : Nat -> List Nat} {hd p : Nat} {l1 l2 : List Nat}
theorem ListCell.link {l : List Nat} (h2 : 2 <= hd) (h21 : hd <= 21) {c : Int} (h : ListCell t hd l c) : LinkCell t c := by
 rcases h with h | ⟨u, _, h⟩
 ·exact .inl ⟨hd, h2, h21, h⟩
 ·exact .inr ⟨u, h⟩
theorem HasL.congr {st' : Vst} {l : List Nat} (h : HasL t P hd n K st l) (hh : getV n K st' (hd : Int) = getV n K st (hd : Int)) (hf : ∀ u ∈ l, getV n K st' (nxH t u) = getV n K st (nxH t u) /\ getV n K st' (pvH t u) = getV n K st (pvH t u)) : HasL t P hd n K st' l := by
 obtain ⟨⟨a, hs⟩, hn⟩ := h
 refine ⟨⟨a, ?_⟩, hn⟩
 rw [hh]
 exact hs.frame hf
theorem Lists.pull (h : Lists t P n K st L) (hf : Fit t P s n) (h2 : 2 <= hd) (h21 : hd <= 21) (hl : L hd = l1 ++ p :: l2) :
  Lists t P n K (pullS n K t P s hd p st) (updF L hd (l1 ++ l2)) /\ (∀ c : Int, ¬ ListCell t hd (L hd) c -> getV n K (pullS n K t P s hd p st) c = getV n K st c) /\
  getV n K (pullS n K t P s hd p st) (nxH t p) = 0 /\ getV n K (pullS n K t P s hd p st) (pvH t p) = 0 := by
 have hH := h.has hd h2 h21
 rw [hl] at hH
 have hlk := hH.links
 obtain ⟨b1, b2⟩ := hf.pull (hd := hd) (by omega) h.vw hlk.1 hlk.2.1 hlk.2.2
 have hP := hH.pull hf (by omega) h.vw
 refine ⟨⟨b1, fun x x2 x21 => ?_, fun a b a2 a21 b2' b21 hne u hu => ?_⟩, fun c hc => ?_, ?_, ?_⟩
 ·by_cases e : x = hd
  ·subst e; rw [updF_same]; exact hP.1
  ·rw [updF_other _ _ e]
   exact hH.other hf (by omega) h.vw (h.has x x2 x21) e (by omega) (fun u hu => by rw [<- hl]; exact h.apart x hd x2 x21 h2 h21 e u hu)
 ·have hsub : ∀ x : Nat, ∀ u, u ∈ updF L hd (l1 ++ l2) x -> u ∈ L x := fun x u hu => by
   by_cases e : x = hd
   ·subst e
    rw [updF_same] at hu
    rw [hl]
    rcases List.mem_append.1 hu with hu | hu <;> simp [hu]
   ·rwa [updF_other _ _ e] at hu
  exact fun hv => h.apart a b a2 a21 b2' b21 hne u (hsub a u hu) (hsub b u hv)
 ·rw [b2]
  rw [hl] at hc
  obtain ⟨⟨aa, hs0⟩, hnd⟩ := id hH
  exact pull_far' (by omega) hnd hs0 hc
 ·rw [b2]
  unfold pullG
  rw [upd_other _ _ ((geo P t hd (by omega)).np p p), upd_same]
 ·rw [b2]
  unfold pullG
  exact upd_same _ _ _
theorem Lists.push (h : Lists t P n K st L) (hf : Fit t P s n) (h2 : 2 <= hd) (h21 : hd <= 21) (hp : p < P) (hno : ∀ x : Nat, 2 <= x -> x <= 21 -> ¬ p ∈ L x) :
  Lists t P n K (pushS n K t P s hd p st) (updF L hd (p :: L hd)) /\ ∀ c : Int, ¬ ListCell t hd (p :: L hd) c -> getV n K (pushS n K t P s hd p st) c = getV n K st c := by
 have hH := h.has hd h2 h21
 have hx : getV n K st hd = 0 \/ getV n K st hd - 1 < P := by
  obtain ⟨⟨a, hs⟩, _⟩ := id hH
  have := hs.first
  cases hll : L hd with
  | nil => rw [hll] at this; exact .inl this
  | cons u r =>
   right
   rw [hll] at this hs
   have h2 := hs.lt u (by simp)
   have h3 : getV n K st hd = u + 1 := this
   omega
 obtain ⟨b1, b2⟩ := hf.push (hd := hd) (by omega) h.vw hp hx
 have hP := hH.push hf (by omega) h.vw hp (hno hd h2 h21)
 have far : ∀ c : Int, ¬ ListCell t hd (p :: L hd) c -> getV n K (pushS n K t P s hd p st) c = getV n K st c := fun c hc => by
  rw [b2]
  obtain ⟨⟨aa, hs0⟩, hnd⟩ := id hH
  exact push_far (by omega) hs0 hc
 refine ⟨⟨b1, fun x x2 x21 => ?_, fun a b a2 a21 b2' b21 hne u hu hv => ?_⟩, far⟩
 ·by_cases e : x = hd
  ·subst e; rw [updF_same]; exact hP.1
  ·rw [updF_other _ _ e]
   have hap := h.apart x hd x2 x21 h2 h21 e
   have hpx := hno x x2 x21
   have hne : ∀ u ∈ L x, ∀ v ∈ p :: L hd, u ≠ v := fun u hu v hv e2 => by
    subst e2
    rcases List.mem_cons.1 hv with e3 | e3
    ·subst e3; exact hpx hu
    ·exact hap u hu e3
   refine (h.has x x2 x21).congr (far _ ?_) (fun u hu => ⟨far _ ?_, far _ ?_⟩)
   ·rintro (h3 | ⟨u, _, h3 | h3⟩)
    ·omega
    ·unfold nxH at h3; omega
    ·unfold pvH at h3; omega
   ·rintro (h3 | ⟨v, hv, h3 | h3⟩)
    ·unfold nxH at h3; omega
    ·unfold nxH at h3; exact hne u hu v hv (by omega)
    ·unfold nxH pvH at h3; omega
   ·rintro (h3 | ⟨v, hv, h3 | h3⟩)
    ·unfold pvH at h3; omega
    ·unfold nxH pvH at h3; omega
    ·unfold pvH at h3; exact hne u hu v hv (by omega)
 ·have hsub : ∀ x : Nat, 2 <= x -> x <= 21 -> ∀ u, u ∈ updF L hd (p :: L hd) x -> u ∈ L x \/ (u = p /\ x = hd) := fun x x2 x21 u hu => by
   by_cases e : x = hd
   ·subst e
    rw [updF_same] at hu
    rcases List.mem_cons.1 hu with e2 | e2
    ·exact .inr ⟨e2, rfl⟩
    ·exact .inl e2
   ·rw [updF_other _ _ e] at hu; exact .inl hu
  rcases hsub a a2 a21 u hu with h3 | ⟨h3, h4⟩ <;> rcases hsub b b2' b21 u hv with h5 | ⟨h5, h6⟩
  ·exact h.apart a b a2 a21 b2' b21 hne u h3 h5
  ·subst h5; exact hno a a2 a21 h3
  ·subst h3; exact hno b b2' b21 h5
  ·omega
theorem Lists.put (h : Lists t P n K st L) {i : Nat} (hi : i < n) (hc : ¬ LinkCell t (i : Int)) (v : Nat) :
  Lists t P n K (putS n st (i : Int) v) L /\ getV n K (putS n st (i : Int) v) = upd (getV n K st) (i : Int) v := by
 obtain ⟨b1, b2⟩ := h.vw.put hi v
 refine ⟨⟨b1, fun x x2 x21 => (h.has x x2 x21).congr ?_ (fun u hu => ⟨?_, ?_⟩), h.apart⟩, b2⟩
 ·rw [b2, upd_other]
  exact fun e => hc (.inl ⟨x, x2, x21, e.symm⟩)
 ·rw [b2, upd_other]
  exact fun e => hc (.inr ⟨u, .inl e.symm⟩)
 ·rw [b2, upd_other]
  exact fun e => hc (.inr ⟨u, .inr e.symm⟩)
theorem Lists.get (h : Lists t P n K st L) (c : Int) : Lists t P n K (getS n K st c) L /\ getV n K (getS n K st c) = getV n K st := by
 obtain ⟨b1, b2⟩ := h.vw.get c
 refine ⟨⟨b1, fun x x2 x21 => ?_, h.apart⟩, b2⟩
 unfold HasL
 rw [b2]
 exact h.has x x2 x21
theorem cell_far {q b : Nat} (hb : b < 6) (h2 : b ≠ 2) (h3 : b ≠ 3) : ¬ LinkCell t ((30 + 4 * t + 6 * q + b : Nat) : Int) := by
 rintro (⟨hd, _, _, e⟩ | ⟨u, e | e⟩)
 ·omega
 ·unfold nxH at e; omega
 ·unfold pvH at e; omega
theorem low_far {i : Nat} (h : i < 2 \/ (22 <= i /\ i < 30)) : ¬ LinkCell t (i : Int) := by
 rintro (⟨hd, _, _, e⟩ | ⟨u, e | e⟩)
 ·omega
 ·unfold nxH at e; omega
 ·unfold pvH at e; omega
end
section
variable {H : AuH} {n c : Nat} {K : Nat -> Option Nat} {st : Vst} {L : Nat -> List Nat}
theorem Lists.of_ok (h : H.Ok L) (HV : HeapV H n c) (hK : ∀ i, i < n -> K i = some (H.V i)) : Lists H.t H.p n K freshS L := by
 have hV : VW n K freshS := ⟨fun i hi => ⟨_, hK i hi⟩, rfl⟩
 have hlen := HV.len
 have hg : ∀ i : Nat, i < n -> getV n K freshS (i : Int) = H.V i := fun i hi => by rw [hV.at_ hi, hK i hi]; rfl
 refine ⟨hV, fun hd h2 h21 => ?_, fun a b a2 a21 b2 b21 hne u hu hv => ?_⟩
 ·obtain ⟨⟨a, hs⟩, hn⟩ := h.list hd h2 h21
  refine ⟨⟨a, ?_⟩, hn⟩
  rw [hg hd (by omega)]
  simp only [Int.toNat_natCast] at hs
  refine hs.frame (fun u hu => ?_)
  have hup := ((h.mem hd h2 h21 u).1 hu).1
  unfold nxH pvH
  rw [hg _ (by omega), hg _ (by omega)]
  simp only [Int.toNat_natCast]
  exact ⟨trivial, trivial⟩
 ·have e1 := ((h.mem a a2 a21 u).1 hu).2
  have e2 := ((h.mem b b2 b21 u).1 hv).2
  omega
theorem Lists.isL (h : Lists H.t H.p n K st L) (HV : HeapV H n c) {hd : Nat} (h2 : 2 <= hd) (h21 : hd <= 21) : IsL H.p (nxH H.t) (pvH H.t) hd (fun c => curV n (getV n K st) H.V c.toNat) (L hd) := by
 have hlen := HV.len
 obtain ⟨⟨a, hs⟩, hn⟩ := h.has hd h2 h21
 have e : ∀ i : Nat, i < n -> curV n (getV n K st) H.V i = getV n K st (i : Int) := fun i hi => curV_in hi
 refine ⟨⟨a, ?_⟩, hn⟩
 show Seg H.p (nxH H.t) (pvH H.t) (fun c => curV n (getV n K st) H.V c.toNat) 0 (curV n (getV n K st) H.V ((hd : Int).toNat)) (L hd) a 0
 rw [Int.toNat_natCast, e hd (by omega)]
 refine hs.frame (fun u hu => ?_)
 have hup := hs.lt u hu
 unfold nxH pvH
 simp only [Int.toNat_natCast]
 rw [e _ (by omega), e _ (by omega)]
 exact ⟨rfl, rfl⟩
end
end
section
structure Work (t P s n : Nat) (K : Nat -> Option Nat) (st : Vst) (L : Nat -> List Nat) (g : Nat -> Nat) : Prop where
 lists : Lists t P n K st L
 near : ∀ i : Nat, i < n -> ¬ LinkCell t (i : Int) -> getV n K st (i : Int) = g i
 out : ∀ q, q < P -> (∀ hd : Nat, 2 <= hd -> hd <= 21 -> ¬ q ∈ L hd) -> getV n K st (nxH t q) = 0 /\ getV n K st (pvH t q) = 0
def pc (t q b : Nat) : Nat := 30 + 4 * t + 6 * q + b
theorem pc_far {t q b : Nat} (hb : b < 6) (h2 : b ≠ 2) (h3 : b ≠ 3) : ¬ LinkCell t ((pc t q b : Nat) : Int) := cell_far hb h2 h3
section
variable {t P s n : Nat} {K : Nat -> Option Nat} {st : Vst} {L : Nat -> List Nat} {g : Nat -> Nat}
theorem Work.vw (W : Work t P s n K st L g) : VW n K st := W.lists.vw
theorem Work.get (W : Work t P s n K st L g) (c : Int) : Work t P s n K (getS n K st c) L g := by
 obtain ⟨h1, h2⟩ := W.lists.get c
 exact ⟨h1, fun i hi hc => by rw [h2]; exact W.near i hi hc, fun q hq h => by rw [h2]; exact W.out q hq h⟩
theorem Work.put (W : Work t P s n K st L g) {i : Nat} (hi : i < n) (hc : ¬ LinkCell t (i : Int)) (v : Nat) : Work t P s n K (putS n st (i : Int) v) L (updF g i v) := by
 obtain ⟨h1, h2⟩ := W.lists.put hi hc v
 refine ⟨h1, fun j hj hcj => ?_, fun q hq h => ?_⟩
 ·rw [h2]
  by_cases e : j = i
  ·subst e; rw [upd_same, updF_same]
  ·rw [upd_other _ _ (by omega), updF_other _ _ e]
   exact W.near j hj hcj
 ·rw [h2, upd_other _ _ (fun e => hc (.inr ⟨q, .inl e.symm⟩)), upd_other _ _ (fun e => hc (.inr ⟨q, .inr e.symm⟩))]
  exact W.out q hq h
theorem Work.drop (W : Work t P s n K st L g) (hf : Fit t P s n) {p l : Nat} (hp : p < P) (hi : infoG (g (pc t p 0)) = (1, (l : Int), 0, true)) {k : Nat} (hk : ofI (l : Int) = (k : Int)) (hk10 : k <= 10) (hm : p ∈ L (2 + k)) :
  dropV n K t P s p st = (l : Int) /\ ∃ L', Work t P s n K (dropS n K t P s p st) L' g /\ ∀ hd : Nat, 2 <= hd -> hd <= 21 -> ∀ y, y ∈ L' hd ↔ y ∈ L hd /\ y ≠ p := by
 have hlen := hf.len
 have epg : pgB (P : Int) (p : Int) = true := (pgB_iff _ _).2 ⟨by omega, by omega⟩
 have hin : 30 + 4 * t + 6 * p < n := by omega
 have e0 : pageI (t : Int) (P : Int) (s : Int) (p : Int) 0 = inH t p := hf.inf hp
 have ei : infoOf n K t P s p st = (1, (l : Int), 0, true) := by
  unfold infoOf
  rw [e0]
  unfold inH
  rw [W.near _ hin (pc_far (b := 0) (by omega) (by omega) (by omega))]
  exact hi
 have ebin : binH (l : Int) = ((2 + k : Nat) : Int) := binH_nat hk hk10
 refine ⟨by unfold dropV; rw [if_pos epg, ei]; rfl, ?_⟩
 have eds : dropS n K t P s p st = pullS n K t P s ((2 + k : Nat) : Int) p (getS n K st (inH t p)) := by
  unfold dropS
  rw [if_pos epg, ei]
  simp only [if_true]
  rw [ebin, e0, (pgB_nat epg).2]
 have W1 := W.get (inH t p)
 obtain ⟨l1, l2, hl⟩ := List.append_of_mem hm
 obtain ⟨h1, h2, h3, h4⟩ := W1.lists.pull hf (hd := 2 + k) (by omega) (by omega) hl
 rw [<- eds] at h1 h2 h3 h4
 have hnd : (L (2 + k)).Nodup := (W.lists.has (2 + k) (by omega) (by omega)).nodup
 have hmem : ∀ hd : Nat, 2 <= hd -> hd <= 21 -> ∀ y, y ∈ updF L (2 + k) (l1 ++ l2) hd ↔ y ∈ L hd /\ y ≠ p := fun hd a2 a21 y => by
  by_cases e : hd = 2 + k
  ·subst e
   rw [updF_same, hl]
   rw [hl] at hnd
   simp only [List.mem_append, List.mem_cons]
   rw [List.nodup_append] at hnd
   constructor
   ·rintro (h | h)
    ·exact ⟨.inl h, fun e => hnd.2.2 y h p (List.mem_cons_self ..) e⟩
    ·exact ⟨.inr (.inr h), fun e => (List.nodup_cons.1 hnd.2.1).1 (e ▸ h)⟩
   ·rintro ⟨h | h | h, hne⟩
    ·exact .inl h
    ·exact absurd h hne
    ·exact .inr h
  ·rw [updF_other _ _ e]
   exact ⟨fun h => ⟨h, fun e2 => W.lists.apart hd (2 + k) a2 a21 (by omega) (by omega) e y h (e2 ▸ hm)⟩, fun h => h.1⟩
 refine ⟨_, ⟨h1, fun i hi' hc => ?_, fun q hq h => ?_⟩, hmem⟩
 ·rw [h2 _ (fun hx => hc (hx.link (by omega) (by omega)))]
  exact W1.near i hi' hc
 ·by_cases e : q = p
  ·subst e; exact ⟨h3, h4⟩
  ·have hno : ∀ hd : Nat, 2 <= hd -> hd <= 21 -> ¬ q ∈ L hd := fun hd a2 a21 hm2 => h hd a2 a21 ((hmem hd a2 a21 q).2 ⟨hm2, e⟩)
   have hq2 := hno (2 + k) (by omega) (by omega)
   rw [h2 _ (by
    rintro (e1 | ⟨u, hu, e1 | e1⟩)
    ·unfold nxH at e1; omega
    ·have : q = u := by unfold nxH at e1; omega
     exact hq2 (this ▸ hu)
    ·unfold nxH pvH at e1; omega), h2 _ (by
    rintro (e1 | ⟨u, hu, e1 | e1⟩)
    ·unfold pvH at e1; omega
    ·unfold nxH pvH at e1; omega
    ·have : q = u := by unfold pvH at e1; omega
     exact hq2 (this ▸ hu))]
   exact W1.out q hq hno
theorem Work.add (W : Work t P s n K st L g) (hf : Fit t P s n) {p m : Nat} (h1 : 1 <= m) (h2 : p + m <= P) (hno : ∀ hd : Nat, 2 <= hd -> hd <= 21 -> ¬ p ∈ L hd) :
  ∃ L', Work t P s n K (addS n K t P s p m st) L' (updF (updF g (pc t p 0) (infoV 1 (m : Int) 0)) (pc t (p + m - 1) 1) (p + 1)) /\ ∀ hd : Nat, 2 <= hd -> hd <= 21 -> ∀ y, y ∈ L' hd ↔ y ∈ L hd \/ (y = p /\ ((hd : Nat) : Int) = 2 + HM.logI (m : Int)) := by
 have hlen := hf.len
 have hP := hf.nums
 have epg : pgB (P : Int) (p : Int) = true := (pgB_iff _ _).2 ⟨by omega, by omega⟩
 obtain ⟨k, hk, hk10, _⟩ := ofI_nat (n := m) h1 (by omega)
 have ebin : binH (m : Int) = ((2 + k : Nat) : Int) := binH_nat hk hk10
 have elog : HM.logI (m : Int) = (k : Int) := by
  unfold ofI at hk
  rw [if_neg (by omega)] at hk
  exact hk
 have hin : pc t p 0 < n := by unfold pc; omega
 have hfn : pc t (p + m - 1) 1 < n := by unfold pc; omega
 have e0 : pageI (t : Int) (P : Int) (s : Int) (p : Int) 0 = ((pc t p 0 : Nat) : Int) := hf.inf (by omega)
 have e1 : pageI (t : Int) (P : Int) (s : Int) ((p : Int) + (m : Int) - 1) 1 = ((pc t (p + m - 1) 1 : Nat) : Int) := by
  have : ((p : Int) + (m : Int) - 1) = ((p + m - 1 : Nat) : Int) := by omega
  rw [this]
  exact hf.foot (by omega)
 have W2 := (W.put hin (pc_far (by omega) (by omega) (by omega)) (infoV 1 (m : Int) 0)).put hfn (pc_far (by omega) (by omega) (by omega)) (p + 1)
 have eas : addS n K t P s p m st = pushS n K t P s ((2 + k : Nat) : Int) p (putS n (putS n st ((pc t p 0 : Nat) : Int) (infoV 1 (m : Int) 0)) ((pc t (p + m - 1) 1 : Nat) : Int) (p + 1)) := by
  unfold addS
  rw [if_pos ⟨epg, by omega, by omega⟩, ebin, (pgB_nat epg).1, e0, e1]
  rfl
 obtain ⟨g1, g2⟩ := W2.lists.push hf (hd := 2 + k) (by omega) (by omega) (p := p) (by omega) hno
 rw [<- eas] at g1 g2
 have hmem : ∀ hd : Nat, 2 <= hd -> hd <= 21 -> ∀ y, y ∈ updF L (2 + k) (p :: L (2 + k)) hd ↔ y ∈ L hd \/ (y = p /\ ((hd : Nat) : Int) = 2 + HM.logI (m : Int)) := fun hd a2 a21 y => by
  rw [elog]
  by_cases e : hd = 2 + k
  ·subst e
   rw [updF_same, List.mem_cons]
   constructor
   ·rintro (h | h)
    ·exact .inr ⟨h, by omega⟩
    ·exact .inl h
   ·rintro (h | h)
    ·exact .inr h
    ·exact .inl h.1
  ·rw [updF_other _ _ e]
   exact ⟨fun h => .inl h, fun h => by
    rcases h with h | h
    ·exact h
    ·omega⟩
 refine ⟨_, ⟨g1, fun i hi hc => ?_, fun q hq h => ?_⟩, hmem⟩
 ·rw [g2 _ (fun hx => hc (hx.link (by omega) (by omega)))]
  exact W2.near i hi hc
 ·have hq2 : ¬ q ∈ p :: L (2 + k) := by
   have := h (2 + k) (by omega) (by omega)
   rwa [updF_same] at this
  have hno2 : ∀ hd : Nat, 2 <= hd -> hd <= 21 -> ¬ q ∈ L hd := fun hd a2 a21 hm2 => h hd a2 a21 ((hmem hd a2 a21 q).2 (.inl hm2))
  rw [g2 _ (by
   rintro (e2 | ⟨u, hu, e2 | e2⟩)
   ·unfold nxH at e2; omega
   ·have : q = u := by unfold nxH at e2; omega
    exact hq2 (this ▸ hu)
   ·unfold nxH pvH at e2; omega), g2 _ (by
   rintro (e2 | ⟨u, hu, e2 | e2⟩)
   ·unfold pvH at e2; omega
   ·unfold nxH pvH at e2; omega
   ·have : q = u := by unfold pvH at e2; omega
    exact hq2 (this ▸ hu))]
  exact W2.out q hq hno2
end
section
variable {H : AuH} {n c : Nat} {K : Nat -> Option Nat} {st : Vst} {L : Nat -> List Nat} {g : Nat -> Nat}
theorem Work.of_ok (h : H.Ok L) (HV : HeapV H n c) (hK : ∀ i, i < n -> K i = some (H.V i)) : Work H.t H.p H.s n K freshS L H.V := by
 have hL := Lists.of_ok h HV hK
 have hlen := HV.len
 have hg : ∀ i : Nat, i < n -> getV n K freshS (i : Int) = H.V i := fun i hi => by rw [hL.vw.at_ hi, hK i hi]; rfl
 refine ⟨hL, fun i hi _ => hg i hi, fun q hq hno => ?_⟩
 have htg : H.tgt q = -1 := by
  rcases H.K_cases q with h3 | ⟨h3 | h3, _⟩ | ⟨h3, _, h4, h5⟩
  ·exact AuH.tgt_none h3.1
  ·exfalso
   have h4 := H.ln_pos q (by omega)
   obtain ⟨k, hk, hk10, _⟩ := ofI_nat (n := H.ln q) h4.1 h4.2
   unfold ofI at hk
   rw [if_neg (by omega)] at hk
   exact hno (2 + k) (by omega) (by omega) ((h.mem (2 + k) (by omega) (by omega) q).2 ⟨hq, by rw [AuH.tgt_free h3, hk]; push_cast; rfl⟩)
  ·exact AuH.tgt_used h3
  ·by_cases hfull : H.cel q 5 = 2 ^ slotI (H.Cl q) - 1
   ·exact AuH.tgt_full h3 hfull
   ·exfalso
    refine hno (13 + (H.Cl q).toNat) (by omega) (by omega) ((h.mem (13 + (H.Cl q).toNat) (by omega) (by omega) q).2 ⟨hq, ?_⟩)
    rw [AuH.tgt_slab h3 hfull]
    push_cast
    omega
 obtain ⟨h6, h7⟩ := h.loose q hq htg
 unfold nxH pvH
 rw [hg _ (by omega), hg _ (by omega)]
 exact ⟨h6, h7⟩
theorem Work.cel (W : Work H.t H.p H.s n K st L g) (hlen : n = 30 + 4 * H.t + 6 * H.p) {q b : Nat} (hq : q < H.p) (hb : b < 6) (h2 : b ≠ 2) (h3 : b ≠ 3) : (H.re (curV n (getV n K st) H.V)).cel q b = g (pc H.t q b) := by
 show curV n (getV n K st) H.V (30 + 4 * H.t + 6 * q + b) = _
 rw [curV_in (by omega)]
 exact W.near _ (by omega) (pc_far hb h2 h3)
theorem Work.low (W : Work H.t H.p H.s n K st L g) (hlen : n = 30 + 4 * H.t + 6 * H.p) {i : Nat} (h : i < 2 \/ (22 <= i /\ i < 30)) : curV n (getV n K st) H.V i = g i := by
 rw [curV_in (by omega)]
 exact W.near _ (by omega) (low_far h)
theorem Work.links (W : Work H.t H.p H.s n K st L g) (hlen : n = 30 + 4 * H.t + 6 * H.p) {q : Nat} (hq : q < H.p) (hno : ∀ hd : Nat, 2 <= hd -> hd <= 21 -> ¬ q ∈ L hd) : (H.re (curV n (getV n K st) H.V)).cel q 2 = 0 /\ (H.re (curV n (getV n K st) H.V)).cel q 3 = 0 := by
 obtain ⟨h1, h2⟩ := W.out q hq hno
 refine ⟨?_, ?_⟩
 ·show curV n (getV n K st) H.V (30 + 4 * H.t + 6 * q + 2) = 0
  rw [curV_in (by omega)]
  exact h1
 ·show curV n (getV n K st) H.V (30 + 4 * H.t + 6 * q + 3) = 0
  rw [curV_in (by omega)]
  exact h2
end
end
section
def add32 (a : Nat) (m : Int) : Nat := (((a : Int) + m) % 4294967296).toNat
def sub32 (a : Nat) (m : Int) : Nat := (((a : Int) - m) % 4294967296).toNat
theorem add32_lt (a : Nat) (m : Int) : add32 a m < 2 ^ 32 := by unfold add32; have := Int.emod_lt_of_pos ((a : Int) + m) (show (0 : Int) < 4294967296 by omega); have := Int.emod_nonneg ((a : Int) + m) (show (4294967296 : Int) ≠ 0 by omega); omega
theorem add32_small {a m : Nat} (h : a + m < 4294967296) : add32 a m = a + m := by unfold add32; rw [Int.emod_eq_of_lt (by omega) (by omega)]; omega
theorem sub32_small {a m : Nat} (h : m <= a) (h2 : a < 4294967296) : sub32 a m = a - m := by unfold sub32; rw [Int.emod_eq_of_lt (by omega) (by omega)]; omega
section
variable (n : Nat) (K : Nat -> Option Nat) (t q s : Int)
def lessS (m : Nat) (st : Vst) : Vst := putS n (getS n K st 0) 0 (sub32 (getV n K st 0) (m : Int))
def moreS (m : Nat) (st : Vst) : Vst := putS n (getS n K st 0) 0 (add32 (getV n K st 0) (m : Int))
def relL (p : Nat) (st : Vst) : Vst × Int × Int := if p = 0 then (st, (p : Int), 0) else
  (let f : Int := ((getV n K st (pageI t q s ((p : Int) - 1) 1) : Nat) : Int)
   let st1 := getS n K st (pageI t q s ((p : Int) - 1) 1)
   let st2 := getS n K st1 (pageI t q s (f - 1) 0)
   if (infoOf n K t q s (f - 1) st1).1 = 1 then (putS n (putS n (dropS n K t q s (f - 1) st2) (pageI t q s p 0) 0) (pageI t q s ((p : Int) - 1) 1) 0, f - 1, dropV n K t q s (f - 1) st2)
   else (st2, (p : Int), 0))
def relR (r : Nat) (st : Vst) : Vst × Int := if (r : Int) < q then
  (let st1 := getS n K st (pageI t q s r 0)
   if (infoOf n K t q s r st).1 = 1 then (putS n (putS n (dropS n K t q s r st1) (pageI t q s r 0) 0) (pageI t q s ((r : Int) - 1) 1) 0, dropV n K t q s r st1)
   else (st1, 0))
  else (st, 0)
def releaseS (p m : Nat) (st : Vst) : Vst :=
 moreS n K m (addS n K t q s (relL n K t q s p st).2.1 ((m : Int) + (relL n K t q s p st).2.2 + (relR n K t q s (p + m) (relL n K t q s p st).1).2) (relR n K t q s (p + m) (relL n K t q s p st).1).1)
end
end
section
section
variable {H : AuH} {n c : Nat} {K : Nat -> Option Nat} {st : Vst} {L L' : Nat -> List Nat} {g : Nat -> Nat} {A k e : Nat}
theorem span_at (h : H.Ok L) {p : Nat} (hp : p < H.p) (hk : H.K p ≠ 0) (hs : H.K p ≠ 3) : H.nx p = p + H.ln p /\ 1 <= H.ln p /\ p + H.ln p <= H.p /\ (p + H.ln p < H.p -> H.K (p + H.ln p) ≠ 0) /\ (∀ q, p < q -> q < p + H.ln p -> H.cel q 0 = 0 /\ H.K q = 0) /\ (∀ q, p <= q -> q + 1 < p + H.ln p -> H.cel q 1 = 0) /\ H.cel (p + H.ln p - 1) 1 = p + 1 := by
 have hl := H.ln_pos p (by rcases H.K_cases p with h1 | h1 | h1 <;> omega)
 have hnx : H.nx p = p + H.ln p := rfl
 have hf := h.spans.fit p hp hk
 obtain ⟨f1, f2⟩ := h.feet p hp hk
 refine ⟨hnx, hl.1, by omega, fun h1 => by have := h.spans.next p hp hk (by omega); rwa [hnx] at this, fun q h1 h2 => ?_, fun q h1 h2 => f1 q h1 h2, f2⟩
 have := h.spans.inside p q hp hk h1 (by omega)
 exact ⟨this, (H.K_zero q this).1⟩
theorem free_list (h : H.Ok L) {p : Nat} (hp : p < H.p) (hk : H.K p = 1) : ∃ k : Nat, ofI (H.ln p : Int) = (k : Int) /\ k <= 10 /\ p ∈ L (2 + k) := by
 have hl := H.ln_pos p (by omega)
 obtain ⟨k, e, hk10, _⟩ := ofI_nat hl.1 hl.2
 refine ⟨k, e, hk10, (h.mem (2 + k) (by omega) (by omega) p).2 ⟨hp, ?_⟩⟩
 unfold ofI at e
 rw [if_neg (by omega)] at e
 rw [AuH.tgt_free hk, e]
 push_cast
 rfl
theorem free_info {p : Nat} (hk : H.K p = 1) : infoG (H.cel p 0) = (1, (H.ln p : Int), 0, true) := by
 rw [H.info_eq, hk, H.L_ln, H.ok_of p (by omega)]
 rcases H.K_cases p with h1 | ⟨_, _, _, h1⟩ | h1
 ·omega
 ·rw [h1]
 ·omega
theorem inner_no (h : H.Ok L) {q : Nat} (hq : H.K q = 0) : ∀ hd : Nat, 2 <= hd -> hd <= 21 -> ¬ q ∈ L hd := fun hd a2 a21 hm => by
 have := ((h.mem hd a2 a21 q).1 hm).2
 rw [AuH.tgt_none hq] at this
 omega
theorem Work.less (W : Work H.t H.p H.s n K st L' g) (hf : Fit H.t H.p H.s n) {m : Nat} (h1 : m <= g 0) (h2 : g 0 < 4294967296) : Work H.t H.p H.s n K (lessS n K m st) L' (updF g 0 (g 0 - m)) := by
 have hlen := hf.len
 unfold lessS
 have e : getV n K st 0 = g 0 := W.near 0 (by omega) (low_far (i := 0) (.inl (by omega)))
 rw [e, sub32_small h1 h2]
 exact (W.get 0).put (i := 0) (by omega) (low_far (.inl (by omega))) _
theorem Work.more (W : Work H.t H.p H.s n K st L' g) (hf : Fit H.t H.p H.s n) {m : Nat} (h2 : g 0 + m < 4294967296) : Work H.t H.p H.s n K (moreS n K m st) L' (updF g 0 (g 0 + m)) := by
 have hlen := hf.len
 unfold moreS
 have e : getV n K st 0 = g 0 := W.near 0 (by omega) (low_far (i := 0) (.inl (by omega)))
 rw [e, add32_small h2]
 exact (W.get 0).put (i := 0) (by omega) (low_far (.inl (by omega))) _
end
end
section
theorem updF_pcN {α : Type} {t q b q' b' : Nat} (g : Nat -> α) (v : α) (hb : b < 6) (hb' : b' < 6) (h : q' ≠ q \/ b' ≠ b) : updF g (pc t q b) v (pc t q' b') = g (pc t q' b') := by
 unfold updF pc
 rw [if_neg (by omega)]
theorem updF_pcE {α : Type} {t q b q' : Nat} (g : Nat -> α) (v : α) (h : q' = q) : updF g (pc t q b) v (pc t q' b) = v := by
 subst h
 exact if_pos rfl
theorem updF_pc0 {α : Type} {t q b : Nat} (g : Nat -> α) (v : α) : updF g 0 v (pc t q b) = g (pc t q b) := by unfold updF pc; rw [if_neg (by omega)]
theorem updF_low {α : Type} {t q b i : Nat} (g : Nat -> α) (v : α) (h : i < 30) : updF g (pc t q b) v i = g i := by unfold updF pc; rw [if_neg (by omega)]
section
variable {H : AuH} {n c : Nat} {K : Nat -> Option Nat} {st : Vst} {L L' : Nat -> List Nat} {g : Nat -> Nat}
theorem sums_at (h : H.Ok L) {p : Nat} (hp : p < H.p) (hk : H.K p ≠ 0) (hs : H.K p ≠ 3) :
  AuH.sumTo (fun i => H.freeF (p + i)) (H.ln p) = H.freeF p /\ AuH.sumTo (fun i => H.liveF (p + i)) (H.ln p) = H.liveF p := by
 obtain ⟨_, h1, _, _, h4, _⟩ := span_at h hp hk hs
 refine ⟨?_, ?_⟩
 ·exact AuH.sumTo_first (f := fun i => H.freeF (p + i)) (by omega) (fun i h5 h6 => AuH.freeF_no (h4 (p + i) (by omega) (by omega)).2)
 ·exact AuH.sumTo_first (f := fun i => H.liveF (p + i)) (by omega) (fun i h5 h6 => AuH.liveF_no (h4 (p + i) (by omega) (by omega)).2)
theorem free_few (h : H.Ok L) (hP : H.p <= 1024) : H.V 0 = AuH.sumTo H.freeF H.p /\ H.V 0 <= 1024 := by
 have h1 := AuH.sum_free_le h.spans H.p (Nat.le_refl _) (.inl rfl)
 have h2 := h.counts.1
 rw [Nat.mod_eq_of_lt (by omega)] at h2
 exact ⟨h2, by omega⟩
end
end
section
section
variable {t P s n : Nat} {K : Nat -> Option Nat} {st : Vst} {L : Nat -> List Nat} {g : Nat -> Nat} {hd p : Nat}
theorem Work.pull (W : Work t P s n K st L g) (hf : Fit t P s n) (h2 : 2 <= hd) (h21 : hd <= 21) (hp : p < P) (hm : p ∈ L hd) :
  ∃ L', Work t P s n K (pullI n K t P s (hd : Int) p st) L' g /\ ∀ x : Nat, 2 <= x -> x <= 21 -> ∀ y, y ∈ L' x ↔ y ∈ L x /\ y ≠ p := by
 have hlen := hf.len
 have epg : pgB (P : Int) (p : Int) = true := (pgB_iff _ _).2 ⟨by omega, by omega⟩
 have e0 : pullI n K t P s (hd : Int) p st = pullS n K t P s ((hd : Nat) : Int) p st := by
  unfold pullI
  rw [if_pos epg, Int.toNat_natCast]
 obtain ⟨l1, l2, hl⟩ := List.append_of_mem hm
 obtain ⟨h1, h2', h3, h4⟩ := W.lists.pull hf h2 h21 hl
 rw [<- e0] at h1 h2' h3 h4
 have hnd : (L hd).Nodup := (W.lists.has hd h2 h21).nodup
 have hmem : ∀ x : Nat, 2 <= x -> x <= 21 -> ∀ y, y ∈ updF L hd (l1 ++ l2) x ↔ y ∈ L x /\ y ≠ p := fun x a2 a21 y => by
  by_cases e : x = hd
  ·subst e
   rw [updF_same, hl]
   rw [hl] at hnd
   simp only [List.mem_append, List.mem_cons]
   rw [List.nodup_append] at hnd
   constructor
   ·rintro (h | h)
    ·exact ⟨.inl h, fun e => hnd.2.2 y h p (List.mem_cons_self ..) e⟩
    ·exact ⟨.inr (.inr h), fun e => (List.nodup_cons.1 hnd.2.1).1 (e ▸ h)⟩
   ·rintro ⟨h | h | h, hne⟩
    ·exact .inl h
    ·exact absurd h hne
    ·exact .inr h
  ·rw [updF_other _ _ e]
   exact ⟨fun h => ⟨h, fun e2 => W.lists.apart x hd a2 a21 h2 h21 e y h (e2 ▸ hm)⟩, fun h => h.1⟩
 refine ⟨_, ⟨h1, fun i hi' hc => ?_, fun q hq h => ?_⟩, hmem⟩
 ·rw [h2' _ (fun hx => hc (hx.link h2 h21))]
  exact W.near i hi' hc
 ·by_cases e : q = p
  ·subst e; exact ⟨h3, h4⟩
  ·have hno : ∀ x : Nat, 2 <= x -> x <= 21 -> ¬ q ∈ L x := fun x a2 a21 hm2 => h x a2 a21 ((hmem x a2 a21 q).2 ⟨hm2, e⟩)
   have hq2 := hno hd h2 h21
   rw [h2' _ (by
    rintro (e1 | ⟨u, hu, e1 | e1⟩)
    ·unfold nxH at e1; omega
    ·have : q = u := by unfold nxH at e1; omega
     exact hq2 (this ▸ hu)
    ·unfold nxH pvH at e1; omega), h2' _ (by
    rintro (e1 | ⟨u, hu, e1 | e1⟩)
    ·unfold pvH at e1; omega
    ·unfold nxH pvH at e1; omega
    ·have : q = u := by unfold pvH at e1; omega
     exact hq2 (this ▸ hu))]
   exact W.out q hq hno
theorem Work.push (W : Work t P s n K st L g) (hf : Fit t P s n) (h2 : 2 <= hd) (h21 : hd <= 21) (hp : p < P) (hno : ∀ x : Nat, 2 <= x -> x <= 21 -> ¬ p ∈ L x) :
  ∃ L', Work t P s n K (pushI n K t P s (hd : Int) p st) L' g /\ ∀ x : Nat, 2 <= x -> x <= 21 -> ∀ y, y ∈ L' x ↔ y ∈ L x \/ (y = p /\ x = hd) := by
 have hlen := hf.len
 have epg : pgB (P : Int) (p : Int) = true := (pgB_iff _ _).2 ⟨by omega, by omega⟩
 have e0 : pushI n K t P s (hd : Int) p st = pushS n K t P s ((hd : Nat) : Int) p st := by
  unfold pushI
  rw [if_pos epg, Int.toNat_natCast]
 obtain ⟨g1, g2⟩ := W.lists.push hf h2 h21 hp hno
 rw [<- e0] at g1 g2
 have hmem : ∀ x : Nat, 2 <= x -> x <= 21 -> ∀ y, y ∈ updF L hd (p :: L hd) x ↔ y ∈ L x \/ (y = p /\ x = hd) := fun x a2 a21 y => by
  by_cases e : x = hd
  ·subst e
   rw [updF_same, List.mem_cons]
   constructor
   ·rintro (h | h)
    ·exact .inr ⟨h, rfl⟩
    ·exact .inl h
   ·rintro (h | h)
    ·exact .inr h
    ·exact .inl h.1
  ·rw [updF_other _ _ e]
   exact ⟨fun h => .inl h, fun h => by
    rcases h with h | h
    ·exact h
    ·exact absurd h.2 e⟩
 refine ⟨_, ⟨g1, fun i hi hc => ?_, fun q hq h => ?_⟩, hmem⟩
 ·rw [g2 _ (fun hx => hc (hx.link h2 h21))]
  exact W.near i hi hc
 ·have hq2 : ¬ q ∈ p :: L hd := by
   have := h hd h2 h21
   rwa [updF_same] at this
  have hno2 : ∀ x : Nat, 2 <= x -> x <= 21 -> ¬ q ∈ L x := fun x a2 a21 hm2 => h x a2 a21 ((hmem x a2 a21 q).2 (.inl hm2))
  rw [g2 _ (by
   rintro (e2 | ⟨u, hu, e2 | e2⟩)
   ·unfold nxH at e2; omega
   ·have : q = u := by unfold nxH at e2; omega
    exact hq2 (this ▸ hu)
   ·unfold nxH pvH at e2; omega), g2 _ (by
   rintro (e2 | ⟨u, hu, e2 | e2⟩)
   ·unfold pvH at e2; omega
   ·unfold nxH pvH at e2; omega
   ·have : q = u := by unfold pvH at e2; omega
    exact hq2 (this ▸ hu))]
  exact W.out q hq hno2
end
section
variable {H : AuH} {n c : Nat} {K : Nat -> Option Nat} {st : Vst} {L L' : Nat -> List Nat} {g : Nat -> Nat} {p u : Nat}
theorem slab_at (h : H.Ok L) (hp : p < H.p) (hk : H.K p = 3) : H.ln p = 1 /\ H.nx p = p + 1 /\ (p + 1 < H.p -> H.K (p + 1) ≠ 0) := by
 have hl : H.ln p = 1 := by have := H.K_cases p; omega
 have hnx : H.nx p = p + 1 := by unfold AuH.nx; rw [hl]
 refine ⟨hl, hnx, fun h1 => ?_⟩
 have := h.spans.next p hp (by omega) (by rw [hnx]; exact h1)
 rwa [hnx] at this
structure SlabG (H : AuH) (g : Nat -> Nat) (L L' : Nat -> List Nat) (p u : Nat) : Prop where
 at_ : p < H.p
 kind : H.K p = 3
 some_ : u ≠ 0
 lim : u < 2 ^ slotI (H.Cl p)
 sub : SubB (H.cel p 4) u
 taken : g (pc H.t p 5) = u
 cells : ∀ q b, q < H.p -> b < 6 -> b ≠ 2 -> b ≠ 3 -> ¬ (q = p /\ b = 5) -> g (pc H.t q b) = H.cel q b
 low : ∀ i, i < 2 \/ (22 <= i /\ i < 30) -> g i = H.V i
 mem : ∀ hd : Nat, 2 <= hd -> hd <= 21 -> ∀ y, y ∈ L' hd ↔ (y ∈ L hd /\ y ≠ p) \/ (y = p /\ u ≠ 2 ^ slotI (H.Cl p) - 1 /\ ((hd : Nat) : Int) = 13 + H.Cl p)
theorem slab_laid (HV : HeapV H n c) (h : H.Ok L) (W : Work H.t H.p H.s n K st L' g) (S : SlabG H g L L' p u) : H.Laid (curV n (getV n K st) H.V) L L' p 1 := by
 have hlen := HV.len
 have hp := S.at_
 have hc : ∀ q b, q < H.p -> b < 6 -> b ≠ 2 -> b ≠ 3 -> (H.re (curV n (getV n K st) H.V)).cel q b = g (pc H.t q b) := fun q b hq hb h2 h3 => W.cel hlen hq hb h2 h3
 have h0 : ∀ q, q < H.p -> (H.re (curV n (getV n K st) H.V)).cel q 0 = H.cel q 0 := fun q hq => by rw [hc q 0 hq (by omega) (by omega) (by omega), S.cells q 0 hq (by omega) (by omega) (by omega) (by omega)]
 have h1 : ∀ q, q < H.p -> (H.re (curV n (getV n K st) H.V)).cel q 1 = H.cel q 1 := fun q hq => by rw [hc q 1 hq (by omega) (by omega) (by omega), S.cells q 1 hq (by omega) (by omega) (by omega) (by omega)]
 have h4 : ∀ q, q < H.p -> (H.re (curV n (getV n K st) H.V)).cel q 4 = H.cel q 4 := fun q hq => by rw [hc q 4 hq (by omega) (by omega) (by omega), S.cells q 4 hq (by omega) (by omega) (by omega) (by omega)]
 have h5 : ∀ q, q < H.p -> q ≠ p -> (H.re (curV n (getV n K st) H.V)).cel q 5 = H.cel q 5 := fun q hq hne => by rw [hc q 5 hq (by omega) (by omega) (by omega), S.cells q 5 hq (by omega) (by omega) (by omega) (by omega)]
 have h5p : (H.re (curV n (getV n K st) H.V)).cel p 5 = u := by rw [hc p 5 hp (by omega) (by omega) (by omega), S.taken]
 have hK : ∀ q, q < H.p -> (H.re (curV n (getV n K st) H.V)).K q = H.K q /\ (H.re (curV n (getV n K st) H.V)).ln q = H.ln q /\ (H.re (curV n (getV n K st) H.V)).Cl q = H.Cl q /\ (H.re (curV n (getV n K st) H.V)).nx q = H.nx q := fun q hq => by
  unfold AuH.nx AuH.ln AuH.L AuH.K AuH.Cl
  rw [h0 q hq]
  exact ⟨rfl, rfl, rfl, rfl⟩
 obtain ⟨s1, s2, s3⟩ := slab_at h hp S.kind
 have hKp := hK p hp
 have hlow : ∀ i, i < 2 \/ (22 <= i /\ i < 30) -> curV n (getV n K st) H.V i = H.V i := fun i hi => (W.low hlen hi).trans (S.low i hi)
 have hr : HM.onesTo (H.cel p 4) 32 = HM.onesTo (H.cel p 4) 32 := rfl
 have hb := AuH.sums_le (H := H) H.p (by have := HV.fit.nums; omega)
 have hcnt := h.counts
 have e3 : (H.re (curV n (getV n K st) H.V)).K p = 3 := by rw [hKp.1]; exact S.kind
 exact {
  cut := ⟨⟨by omega, by omega, by rw [S.kind]; decide, s3⟩, fun q hq _ => h0 q hq, by rw [e3]; decide, fun q a1 a2 _ => by
    obtain rfl : q = p := by omega
    rw [hKp.2.2.2, s2]; exact Nat.le_refl _, fun q a1 a2 _ a3 => by
    obtain rfl : q = p := by omega
    rw [hKp.2.2.2, s2] at a3; omega, fun q r a1 a2 _ a3 a4 => by
    obtain rfl : q = p := by omega
    rw [hKp.2.2.2, s2] at a4; omega, fun q a1 a2 a3 => by
    obtain rfl : q = p := by omega
    rw [e3] at a3; omega⟩
  foot := fun q a1 a2 _ => by
   obtain rfl : q = p := by omega
   obtain ⟨f1, f2⟩ := h.feet q hp (by rw [S.kind]; decide)
   unfold AuH.Foot
   rw [hKp.2.1, s1] at *
   exact ⟨fun r b1 b2 => by omega, by rw [h1 _ (by omega)]; exact f2⟩
  feet := fun q hq _ => h1 q hq
  left := fun q _ _ _ => by rw [e3]; decide
  mid := fun q a1 a2 a3 => by
   obtain rfl : q = p := by omega
   rw [e3] at a3; omega
  right := fun q a1 a2 a3 => by
   obtain rfl : q = p := by omega
   rw [e3] at a3; omega
  slot := fun q a1 a2 => by
   obtain rfl : q = p := by omega
   unfold AuH.Slot5
   rw [h5p, h4 q hp, hKp.2.2.1]
   exact ⟨fun _ => ⟨S.some_, S.lim, S.sub⟩, fun a3 => absurd e3 a3⟩
  bits := fun q hq a => ⟨h4 q hq, h5 q hq (by omega)⟩
  list := fun hd h2 h21 => W.lists.isL HV h2 h21
  memIn := fun hd h2 h21 y a1 a2 => by
   obtain rfl : y = p := by omega
   rw [S.mem hd h2 h21 y]
   by_cases hfull : u = 2 ^ slotI (H.Cl y) - 1
   ·rw [AuH.tgt_full e3 (by rw [h5p, hKp.2.2.1]; exact hfull)]
    constructor
    ·rintro (⟨_, a3⟩ | ⟨_, a3, _⟩)
     ·exact absurd rfl a3
     ·exact absurd hfull a3
    ·intro a3; omega
   ·rw [AuH.tgt_slab e3 (by rw [h5p, hKp.2.2.1]; exact hfull), hKp.2.2.1]
    constructor
    ·rintro (⟨_, a3⟩ | ⟨_, _, a3⟩)
     ·exact absurd rfl a3
     ·exact a3.symm
    ·intro a3; exact .inr ⟨rfl, hfull, a3.symm⟩
  memOut := fun hd h2 h21 y a => by
   rw [S.mem hd h2 h21 y]
   constructor
   ·rintro (⟨a3, _⟩ | ⟨a3, _⟩)
    ·exact a3
    ·omega
   ·intro a3; exact .inl ⟨a3, by omega⟩
  bare := fun q a1 a2 a3 => by
   obtain rfl : q = p := by omega
   refine W.links hlen hp (fun hd h2 h21 hm => ?_)
   rcases (S.mem hd h2 h21 q).1 hm with ⟨_, b⟩ | ⟨_, b1, b2⟩
   ·exact b rfl
   ·rw [AuH.tgt_slab e3 (by rw [h5p, hKp.2.2.1]; exact b1), hKp.2.2.1] at a3
    omega
  loose := fun q hq a ht => by
   have hno : ∀ hd : Nat, 2 <= hd -> hd <= 21 -> ¬ q ∈ L' hd := fun hd h2 h21 hm => by
    rcases (S.mem hd h2 h21 q).1 hm with ⟨b, _⟩ | ⟨b, _⟩
    ·have := ((h.mem hd h2 h21 q).1 b).2
     omega
    ·omega
   obtain ⟨b1, b2⟩ := W.links hlen hq hno
   obtain ⟨b3, b4⟩ := h.loose q hq ht
   rw [b1, b2, b3, b4]
   exact ⟨rfl, rfl⟩
  free := by
   rw [hlow 0 (by omega)]
   show H.V 0 + (0 + H.freeF (p + 0)) = H.V 0 + (0 + (H.re (curV n (getV n K st) H.V)).freeF (p + 0))
   rw [Nat.add_zero]
   unfold AuH.freeF
   rw [hKp.1, hKp.2.1]
  live := by
   rw [hlow 1 (by omega)]
   show H.V 1 + (0 + H.liveF (p + 0)) = H.V 1 + (0 + (H.re (curV n (getV n K st) H.V)).liveF (p + 0))
   rw [Nat.add_zero]
   unfold AuH.liveF
   rw [hKp.1, h4 p hp]
  few := by
   rw [hlow 0 (by omega), hlow 1 (by omega)]
   obtain ⟨c1, c2⟩ := hcnt
   exact ⟨by omega, by omega⟩
  roots := fun i hi => hlow (22 + i) (by omega)
  named := fun i hi hv a1 a2 => by
   obtain ⟨b1, b2⟩ := h.roots i hi hv
   have e : (spotP H.t H.p H.s (H.V (22 + i) : Int)).toNat = p := by omega
   refine ⟨b1, ?_⟩
   show ((H.re (curV n (getV n K st) H.V)).K (spotP H.t H.p H.s (H.V (22 + i) : Int)).toNat = 2 /\ _) \/ ((H.re (curV n (getV n K st) H.V)).K (spotP H.t H.p H.s (H.V (22 + i) : Int)).toNat = 3 /\ slotB H.t H.p H.s ((H.re (curV n (getV n K st) H.V)).Cl (spotP H.t H.p H.s (H.V (22 + i) : Int)).toNat) _ = true /\ ((H.re (curV n (getV n K st) H.V)).cel (spotP H.t H.p H.s (H.V (22 + i) : Int)).toNat 4).testBit (slotR H.t H.p H.s ((H.re (curV n (getV n K st) H.V)).Cl (spotP H.t H.p H.s (H.V (22 + i) : Int)).toNat) _).toNat = true)
   rw [e] at b2 ⊢
   rw [hKp.1, hKp.2.2.1, h4 p hp]
   exact b2 }
end
end
end Go.Proofs.YtnmhdlpnimdffaaGreatDoor
