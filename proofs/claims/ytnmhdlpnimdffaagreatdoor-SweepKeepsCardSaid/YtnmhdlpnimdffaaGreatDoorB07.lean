/-
  How many cells are written at most. No program is named here but for the Views'.
-/
import Derived.Test.YtnmhdlpnimdffaaGreatDoorB06
import Derived.Test.YtnmhdlpnimdffaaGreatDoorB03
import Derived.Test.YtnmhdlpnimdffaaGreatDoorB01
import Derived.Deep.RegionHeld3
import Derived.IntWalk
import Derived.KernelRfl
import Derived.Test.YtnmhdlpnimdffaaGreatDoorB05
namespace Go.Proofs.YtnmhdlpnimdffaaGreatDoor
open Go.ChangeShapes Go.WideShapes Go.ChangeAt Go.RowKit Go.Maps
set_option linter.unusedVariables false
set_option linter.unusedSimpArgs false
section
def FewW (m : Nat) (s s' : Vst) : Prop := s'.wr.length <= s.wr.length + m
section
variable {n : Nat} {K : Nat -> Option Nat} {t q s hd : Int} {st s1 s2 : Vst} {a b m : Nat}
theorem FewW.refl (st : Vst) : FewW 0 st st := Nat.le_refl _
theorem FewW.trans (h1 : FewW a st s1) (h2 : FewW b s1 s2) : FewW (a + b) st s2 := by unfold FewW at *; omega
theorem FewW.more (h : FewW a st s1) (hab : a <= b) : FewW b st s1 := by unfold FewW at *; omega
theorem FewW.get (h : FewW a st s1) (c : Int) : FewW a st (getS n K s1 c) := by unfold FewW at *; rw [(get_len n K s1 c).2]; exact h
theorem FewW.put (h : FewW a st s1) (c : Int) (v : Nat) : FewW (a + 1) st (putS n s1 c v) := by unfold FewW at *; have := (put_len n s1 c v).1; omega
theorem FewW.pull (h : FewW a st s1) (p : Int) : FewW (a + 4) st (pullI n K t q s hd p s1) := by
 unfold pullI
 split
 ·unfold pullS
  have h2 : FewW (a + 2) st (pull2 n K t q s hd p.toNat s1) := by
   have h1 : FewW (a + 1) st (pull1 n K t q s hd p.toNat s1) := by
    unfold pull1 pull0
    split
    ·exact ((h.get _).get _).put _ _
    ·exact ((h.get _).get _).put _ _
   unfold pull2
   split
   ·exact h1.more (by omega)
   ·exact h1.put _ _
  exact (h2.put _ _).put _ _
 ·exact h.more (by omega)
theorem FewW.push (h : FewW a st s1) (p : Int) : FewW (a + 4) st (pushI n K t q s hd p s1) := by
 unfold pushI
 split
 ·have h1 : FewW (a + 2) st (push1 n K t q s hd p.toNat s1) := ((h.get _).put _ _).put _ _
  have h2 : FewW (a + 3) st (push2 n K t q s hd p.toNat s1) := by
   unfold push2
   split
   ·exact h1.more (by omega)
   ·exact h1.put _ _
  exact h2.put _ _
 ·exact h.more (by omega)
theorem FewW.drop (h : FewW a st s1) (p : Int) : FewW (a + 4) st (dropS n K t q s p s1) := by
 unfold dropS
 split
 ·split
  ·exact (h.get _).pull _
  ·exact (h.get _).more (by omega)
 ·exact h.more (by omega)
theorem FewW.add (h : FewW a st s1) (p l : Int) : FewW (a + 6) st (addS n K t q s p l s1) := by
 unfold addS
 split
 ·exact ((h.put _ _).put _ _).push _
 ·exact h.more (by omega)
theorem FewW.relL (h : FewW a st s1) (p : Nat) : FewW (a + 6) st (relL n K t q s p s1).1 := by
 unfold Go.Proofs.YtnmhdlpnimdffaaGreatDoor.relL
 split
 ·exact h.more (by omega)
 ·simp only
  split
  ·exact ((((h.get _).get _).drop _).put _ _).put _ _
  ·exact ((h.get _).get _).more (by omega)
theorem FewW.relR (h : FewW a st s1) (p : Nat) : FewW (a + 6) st (relR n K t q s p s1).1 := by
 unfold Go.Proofs.YtnmhdlpnimdffaaGreatDoor.relR
 split
 ·simp only
  split
  ·exact (((h.get _).drop _).put _ _).put _ _
  ·exact (h.get _).more (by omega)
 ·exact h.more (by omega)
theorem FewW.release (h : FewW a st s1) (p l : Nat) : FewW (a + 19) st (releaseS n K t q s p l s1) := by
 unfold releaseS moreS
 exact ((((h.relL _).relR _).add _ _).get _).put _ _
theorem FewW.back (h : FewW a st s1) (k : Int) (p u : Nat) (full : Bool) : FewW (a + 5) st (backS n K t q s k p u full s1) := by
 unfold backS
 split
 ·exact (h.put _ _).push _
 ·exact (h.put _ _).more (by omega)
end
end
section
section
variable (n : Nat) (K : Nat -> Option Nat) (t q s : Int)
def sweepAt (k : Int) (p l : Nat) (full : Bool) (st : Vst) : Vst :=
 if l = 0 then releaseS n K t q s p 1 (if full = true then putS n st (pageI t q s p 5) l else pullI n K t q s (13 + k) p (putS n st (pageI t q s p 5) l))
 else backS n K t q s k p l full st
def read3 (p : Nat) (st : Vst) : Vst := getS n K (getS n K (getS n K st (pageI t q s p 0)) (pageI t q s p 4)) (pageI t q s p 5)
def sweepI (p : Nat) (st : Vst) : Bool × Vst :=
  if (infoOf n K t q s (p : Int) st).1 = 3 then
    (if getV n K (getS n K st (pageI t q s p 0)) (pageI t q s p 4) = getV n K (getS n K (getS n K st (pageI t q s p 0)) (pageI t q s p 4)) (pageI t q s p 5) then (false, read3 n K t q s p st)
     else (true, sweepAt n K t q s (infoOf n K t q s (p : Int) st).2.2.1 p (getV n K (getS n K st (pageI t q s p 0)) (pageI t q s p 4)) (fullB (getV n K (getS n K (getS n K st (pageI t q s p 0)) (pageI t q s p 4)) (pageI t q s p 5)) (infoOf n K t q s (p : Int) st).2.2.1) (read3 n K t q s p st)))
  else (false, getS n K st (pageI t q s p 0))
def sweepP (p : Int) (st : Vst) : Bool × Vst := if pgB q p = true then sweepI n K t q s p.toNat st else (false, st)
def sweepTo : Nat -> Vst -> Nat × Vst
 | 0, st => (0, st)
 | m + 1, st => ((sweepTo m st).1 + (if (sweepI n K t q s m (sweepTo m st).2).1 = true then 1 else 0), (sweepI n K t q s m (sweepTo m st).2).2)
end
structure Swept (H H' : AuH) (L : Nat -> List Nat) (p : Nat) : Prop where
 ok : H'.Ok L
 roots : ∀ i, i < 8 -> H'.V (22 + i) = H.V (22 + i)
 live : H'.V 1 = H.V 1
 blocks : blocksOf H'.parts = blocksOf H.parts
 hand : ∀ q i, H'.hand q i ↔ H.hand q i /\ q ≠ p
 kinds : ∀ q, q < H.p -> (H'.K q = 3 ↔ H.K q = 3 /\ ¬ (q = p /\ H.cel p 4 = 0))
 bits : ∀ q, q < H.p -> H'.K q = 3 -> H'.cel q 4 = H.cel q 4
 free : H'.V 0 = H.V 0 + if H.K p = 3 /\ H.cel p 4 = 0 then 1 else 0
section
variable {H : AuH} {n c : Nat} {K : Nat -> Option Nat} {st : Vst} {L : Nat -> List Nat} {p : Nat}
theorem swept_same (h : H.Ok L) (hn : ∀ i, ¬ H.hand p i) (hz : ¬ (H.K p = 3 /\ H.cel p 4 = 0)) : Swept H H L p :=
 ⟨h, fun _ _ => rfl, rfl, rfl, fun q i => ⟨fun x => ⟨x, fun e => hn i (e ▸ x)⟩, fun x => x.1⟩, fun q _ => ⟨fun x => ⟨x, fun e => hz ⟨e.1 ▸ x, e.2⟩⟩, fun x => x.1⟩, fun _ _ _ => rfl, by rw [if_neg hz]; rfl⟩
theorem swept_some (HV : HeapV H n c) (h : H.Ok L) (W : Work H.t H.p H.s n K st L H.V) (hp : p < H.p) (hk : H.K p = 3) (h0 : H.cel p 4 ≠ 0) (hne : H.cel p 4 ≠ H.cel p 5) :
  ∃ L' g', Work H.t H.p H.s n K (sweepAt n K H.t H.p H.s (H.Cl p) p (H.cel p 4) (fullB (H.cel p 5) (H.Cl p)) st) L' g' /\
   Swept H (nowH H n K (sweepAt n K H.t H.p H.s (H.Cl p) p (H.cel p 4) (fullB (H.cel p 5) (H.Cl p)) st)) L' p := by
 obtain ⟨b0, b1, b2⟩ := slab_bits h hp hk
 have hlt4 : H.cel p 4 < 2 ^ slotI (H.Cl p) := by
  have hb : H.cel p 4 < 2 ^ 32 := HV.lt (pc H.t p 4) (by have := HV.len; unfold pc; omega)
  refine Nat.lt_pow_two_of_testBit _ fun j hj => ?_
  cases hx : (H.cel p 4).testBit j
  ·rfl
  ·exfalso
   have hj32 : j < 32 := by
    rcases Nat.lt_or_ge j 32 with hj2 | hj2
    ·exact hj2
    ·rw [Nat.testBit_lt_two_pow (Nat.lt_of_lt_of_le hb (Nat.pow_le_pow_right (by omega) hj2))] at hx
     cases hx
   have h5 := b2 j hj32 hx
   rw [Nat.testBit_lt_two_pow (Nat.lt_of_lt_of_le b1 (Nat.pow_le_pow_right (by omega) hj))] at h5
   cases h5
 have hnf : H.cel p 4 ≠ 2 ^ slotI (H.Cl p) - 1 := fun e => hne (by
  rw [e]
  apply Nat.eq_of_testBit_eq
  intro j
  rw [Nat.testBit_two_pow_sub_one]
  by_cases hj : j < slotI (H.Cl p)
  ·have h32 := slotI_le (H.Cl p)
   rw [b2 j (by omega) (by rw [e, Nat.testBit_two_pow_sub_one, decide_eq_true hj]), decide_eq_true hj]
  ·rw [decide_eq_false hj, Nat.testBit_lt_two_pow (Nat.lt_of_lt_of_le b1 (Nat.pow_le_pow_right (by omega) (by omega)))])
 unfold sweepAt
 rw [if_neg h0, fullB_is b1]
 obtain ⟨L', W', S⟩ := give_slab HV h W hp hk h0 hlt4 (fun j _ hj => hj) hnf
 obtain ⟨d1, d2, d3, d4, d5, d6, d7, d8, d9, d10⟩ := slab_done HV h W' S
 obtain ⟨k1, k2⟩ := slab_hand HV W' S
 have hlen := HV.len
 have hc : ∀ q b, q < H.p -> b < 6 -> b ≠ 2 -> b ≠ 3 -> b ≠ 5 -> (nowH H n K (backS n K H.t H.p H.s (H.Cl p) p (H.cel p 4) (decide (H.cel p 5 = 2 ^ slotI (H.Cl p) - 1)) st)).cel q b = H.cel q b := fun q b hq hb h2 h3 h5 => (W'.cel hlen hq hb h2 h3).trans (S.cells q b hq hb h2 h3 (by omega))
 refine ⟨L', _, W', d1, d2, d4, d5, fun q i => ?_, fun q hq => ?_, fun q hq _ => hc q 4 hq (by omega) (by omega) (by omega) (by omega), by rw [d3, if_neg (fun x => h0 x.2)]; rfl⟩
 ·rw [k1]
  constructor
  ·rintro (⟨a1, a2⟩ | ⟨_, _, a3, a4⟩)
   ·exact ⟨a2, a1⟩
   ·rw [a3] at a4; cases a4
  ·exact fun x => .inl ⟨x.2, x.1⟩
 ·have : (nowH H n K (backS n K H.t H.p H.s (H.Cl p) p (H.cel p 4) (decide (H.cel p 5 = 2 ^ slotI (H.Cl p) - 1)) st)).K q = H.K q := by unfold AuH.K; rw [hc q 0 hq (by omega) (by omega) (by omega) (by omega)]
  rw [this]
  exact ⟨fun x => ⟨x, fun e => h0 e.2⟩, fun x => x.1⟩
theorem swept_none (HV : HeapV H n c) (h : H.Ok L) (W : Work H.t H.p H.s n K st L H.V) (hp : p < H.p) (hk : H.K p = 3) (h4 : H.cel p 4 = 0) :
  ∃ L' g', Work H.t H.p H.s n K (sweepAt n K H.t H.p H.s (H.Cl p) p (H.cel p 4) (fullB (H.cel p 5) (H.Cl p)) st) L' g' /\
   Swept H (nowH H n K (sweepAt n K H.t H.p H.s (H.Cl p) p (H.cel p 4) (fullB (H.cel p 5) (H.Cl p)) st)) L' p := by
 have hlen := HV.len
 obtain ⟨b0, b1, b2⟩ := slab_bits h hp hk
 have W1 := W.put (i := pc H.t p 5) (by unfold pc; omega) (pc_far (by omega) (by omega) (by omega)) 0
 rw [<- HV.fit.taken hp] at W1
 obtain ⟨L1, W2, m1⟩ := unrack HV h W1 hp hk
 obtain ⟨L', g', A, la, lr, W', R, a, z1, z0⟩ := empty_from HV h W2 m1 hp hk h4
 unfold sweepAt
 rw [if_pos h4, h4, fullB_is b1]
 have hA := a.ahead
 have hle := a.le
 obtain ⟨p1, p2⟩ := a.parts h4
 have p1' : blocksOf (AuH.catTo (fun i => H.partsAt (A + i)) (0 + (la + 1 + lr))) = [] := by rw [Nat.zero_add]; exact p1
 obtain ⟨d1, d2, d3, d4, d5, _, d7⟩ := anew_done HV h W' R p1'
 obtain ⟨k1, k2⟩ := anew_hand HV h W' R p1' (fun q _ _ _ b => by omega)
 have hkin : ∀ q, A <= q -> q < A + 0 + (la + 1 + lr) -> q ≠ p -> H.K q ≠ 3 := fun q a1 a2 a3 => by
  rcases a.kinds q (by omega) (by omega) with ⟨h1, _⟩ | ⟨_, _, h1⟩ | ⟨_, _, h1⟩ | ⟨h1, _⟩
  ·exact absurd h1 a3
  ·omega
  ·omega
  ·omega
 generalize hst : releaseS n K (H.t : Int) (H.p : Int) (H.s : Int) p 1 _ = s' at *
 have hce : ∀ q b, q < H.p -> b < 6 -> b ≠ 2 -> b ≠ 3 -> (nowH H n K s').cel q b = g' (pc H.t q b) := fun q b hq hb h2 h3 => W'.cel hlen hq hb h2 h3
 have hin : ∀ q, A <= q -> q < A + 0 + (la + 1 + lr) -> (nowH H n K s').K q ≠ 3 := fun q a1 a2 => by
  by_cases hqA : q = A
  ·have : (nowH H n K s').K q = 1 := by
    unfold AuH.K
    rw [hce q 0 (by omega) (by omega) (by omega) (by omega)]
    have := R.rest (by omega)
    rw [Nat.add_zero, <- hqA] at this
    rw [this, infoG_free (by omega) (by have := HV.fit.nums; omega)]
   omega
  ·have := ((nowH H n K s').K_zero q (by
    rw [hce q 0 (by omega) (by omega) (by omega) (by omega)]
    exact R.blank q (by omega) (by omega) (by omega) (by omega))).1
   omega
 have hout : ∀ q, q < H.p -> ¬ (A <= q /\ q < A + 0 + (la + 1 + lr)) -> (nowH H n K s').K q = H.K q /\ (nowH H n K s').cel q 4 = H.cel q 4 := fun q hq hx => by
  constructor
  ·unfold AuH.K
   rw [hce q 0 hq (by omega) (by omega) (by omega), R.infos q hq hx]
  ·rw [hce q 4 hq (by omega) (by omega) (by omega), (R.bits q hq hx).1]
 refine ⟨L', g', W', d1, d2, by rw [d4, z1], d5, fun q i => ?_, fun q hq => ?_, fun q hq hkq => ?_, by rw [d3, z0, if_pos ⟨hk, h4⟩]⟩
 ·constructor
  ·intro hx
   rcases (k1 q i).1 hx with ⟨e1, e2⟩ | ⟨e, _⟩
   ·exact ⟨e2, fun e => e1 ⟨by omega, by omega⟩⟩
   ·omega
  ·rintro ⟨hx, hne⟩
   exact (k1 q i).2 (.inl ⟨fun e2 => hkin q e2.1 e2.2 hne hx.2.1, hx⟩)
 ·by_cases hx : A <= q /\ q < A + 0 + (la + 1 + lr)
  ·constructor
   ·exact fun e => absurd e (hin q hx.1 hx.2)
   ·rintro ⟨e1, e2⟩
    by_cases e : q = p
    ·exact absurd ⟨e, h4⟩ e2
    ·exact absurd e1 (hkin q hx.1 hx.2 e)
  ·rw [(hout q hq hx).1]
   exact ⟨fun e => ⟨e, fun e2 => hx ⟨by omega, by omega⟩⟩, fun e => e.1⟩
 ·by_cases hx : A <= q /\ q < A + 0 + (la + 1 + lr)
  ·exact absurd hkq (hin q hx.1 hx.2)
  ·exact (hout q hq hx).2
theorem sweep_heap (HV : HeapV H n c) (h : H.Ok L) (W : Work H.t H.p H.s n K st L H.V) (hs : nowH H n K st = H) (hp : p < H.p) :
  ∃ L' g', Work H.t H.p H.s n K (sweepI n K H.t H.p H.s p st).2 L' g' /\ Swept H (nowH H n K (sweepI n K H.t H.p H.s p st).2) L' p /\
   ((sweepI n K H.t H.p H.s p st).1 = true \/ (sweepI n K H.t H.p H.s p st).2.wr = st.wr) /\ FewW 24 st (sweepI n K H.t H.p H.s p st).2 /\
   ((∀ i, ¬ H.hand p i) -> (sweepI n K H.t H.p H.s p st).1 = false) := by
 have hlen := HV.len
 have hI : infoOf n K H.t H.p H.s (p : Int) st = (H.K p, H.L p, H.Cl p, H.ok p) := (W.infoAt HV.fit hp).trans (H.info_eq p)
 have W1 := W.get (pageI H.t H.p H.s p 0)
 have W2 := W1.get (pageI H.t H.p H.s p 4)
 have W3 := W2.get (pageI H.t H.p H.s p 5)
 have h4 : getV n K (getS n K st (pageI H.t H.p H.s p 0)) (pageI H.t H.p H.s p 4) = H.cel p 4 := by
  rw [show (4 : Int) = ((4 : Nat) : Int) from rfl, HV.page hp (by omega)]
  exact W1.near _ (by omega) (pc_far (q := p) (b := 4) (by omega) (by omega) (by omega))
 have h5 : getV n K (getS n K (getS n K st (pageI H.t H.p H.s p 0)) (pageI H.t H.p H.s p 4)) (pageI H.t H.p H.s p 5) = H.cel p 5 := by
  rw [show (5 : Int) = ((5 : Nat) : Int) from rfl, HV.page hp (by omega)]
  exact W2.near _ (by omega) (pc_far (q := p) (b := 5) (by omega) (by omega) (by omega))
 have n1 : nowH H n K (getS n K st (pageI H.t H.p H.s p 0)) = H := by unfold nowH; rw [(W.vw.get _).2]; exact hs
 have n3 : nowH H n K (read3 n K H.t H.p H.s p st) = H := by unfold nowH read3; rw [(W2.vw.get _).2, (W1.vw.get _).2, (W.vw.get _).2]; exact hs
 have w3 : (read3 n K H.t H.p H.s p st).wr = st.wr := by unfold read3; rw [(get_len n K _ _).2, (get_len n K _ _).2, (get_len n K _ _).2]
 have f3 : FewW 0 st (read3 n K H.t H.p H.s p st) := (((FewW.refl st).get _).get _).get _
 unfold sweepI
 rw [hI, h4, h5]
 by_cases hk : H.K p = 3
 ·rw [if_pos hk]
  by_cases he : H.cel p 4 = H.cel p 5
  ·rw [if_pos he]
   have hno : ∀ i, ¬ H.hand p i := fun i hx => by
    have a := hx.2.2.2.1
    rw [<- he, hx.2.2.2.2] at a
    cases a
   refine ⟨L, H.V, W3, ?_, .inr w3, f3.more (by omega), fun _ => rfl⟩
   show Swept H (nowH H n K (read3 n K H.t H.p H.s p st)) L p
   rw [n3]
   exact swept_same h hno (fun x => (slab_bits h hp hk).1 (by rw [<- he]; exact x.2))
  ·rw [if_neg he]
   have hy : ∃ i, H.hand p i := by
    obtain ⟨b0, b1, b2⟩ := slab_bits h hp hk
    apply Classical.byContradiction
    intro hno
    apply he
    apply Nat.eq_of_testBit_eq
    intro j
    rcases Nat.lt_or_ge j (slotI (H.Cl p)) with hj | hj
    ·have h32 := slotI_le (H.Cl p)
     cases hx : (H.cel p 4).testBit j
     ·cases hy : (H.cel p 5).testBit j
      ·rfl
      ·exact absurd ⟨j, hp, hk, hj, hy, hx⟩ hno
     ·exact (b2 j (by omega) hx).symm
    ·rw [Nat.testBit_lt_two_pow (Nat.lt_of_lt_of_le b1 (Nat.pow_le_pow_right (by omega) hj))]
     cases hx : (H.cel p 4).testBit j
     ·rfl
     ·have hb : H.cel p 4 < 2 ^ 32 := HV.lt (pc H.t p 4) (by unfold pc; omega)
      rcases Nat.lt_or_ge j 32 with hj2 | hj2
      ·have := b2 j hj2 hx
       rw [Nat.testBit_lt_two_pow (Nat.lt_of_lt_of_le b1 (Nat.pow_le_pow_right (by omega) hj))] at this
       cases this
      ·rw [Nat.testBit_lt_two_pow (Nat.lt_of_lt_of_le hb (Nat.pow_le_pow_right (by omega) hj2))] at hx
       cases hx
   have hw : ∀ k u b, FewW 24 st (sweepAt n K H.t H.p H.s k p u b (read3 n K H.t H.p H.s p st)) := fun k u b => by
    unfold sweepAt
    split
    ·split
     ·exact ((f3.put _ _).release _ _).more (by omega)
     ·exact (((f3.put _ _).pull _).release _ _).more (by omega)
    ·exact (f3.back _ _ _ _).more (by omega)
   by_cases h0 : H.cel p 4 = 0
   ·obtain ⟨L', g', W', S⟩ := swept_none HV h W3 hp hk h0
    exact ⟨L', g', W', S, .inl rfl, hw _ _ _, fun hno => absurd hy.choose_spec (hno _)⟩
   ·obtain ⟨L', g', W', S⟩ := swept_some HV h W3 hp hk h0 he
    exact ⟨L', g', W', S, .inl rfl, hw _ _ _, fun hno => absurd hy.choose_spec (hno _)⟩
 ·rw [if_neg hk]
  refine ⟨L, H.V, W1, ?_, .inr (get_len n K st _).2, ((FewW.refl st).get _).more (by omega), fun _ => rfl⟩
  show Swept H (nowH H n K (getS n K st (pageI H.t H.p H.s p 0))) L p
  rw [n1]
  exact swept_same h (fun i hx => hk hx.2.1) (fun x => hk x.1)
end
end
end Go.Proofs.YtnmhdlpnimdffaaGreatDoor

namespace Go.Proofs.YtnmhdlpnimdffaaGreatDoor
open Go.ChangeShapes Go.WideShapes Go.ChangeAt Go.RowKit Go.Maps
set_option linter.unusedVariables false
set_option linter.unusedSimpArgs false
set_option maxRecDepth 100000
section
theorem own_lower {w : World} {base base' : Nat} {e : TypeId} {size n : Nat} {v : Value} {xs : List Value} (h : w.ownsRow base e size v n xs) (hb : base' <= base) : w.ownsRow base' e size v n xs := by
 refine ⟨h.1, ?_⟩
 rcases h.2 with h2 | ⟨g, cap, cur, rfl, hbg, hg, hr⟩
 ·exact .inl h2
 ·exact .inr ⟨g, cap, cur, rfl, Nat.le_trans hb hbg, hg, hr⟩

section
variable {O : Ob} {w0 ws w w' : World} {A G : Nat -> Prop} {N : Nat} {T : TypeId} {cs : Array Value} {base : Nat} {u : Value} {nl : Nat} {xs : List Value} {st s' : Vst}
theorem heldOwn_ne {t e : TypeId} {size : Nat} {v : Value} {g : Nat} (h : Held w g t cs) (ho : w.ownsRow base e size v nl xs) (hne : t ≠ e) : v.ownBlock ≠ some g := by
 intro hv
 rcases ho.2 with ⟨rfl, _⟩ | ⟨g', cap, cur, rfl, hb, hg, _⟩
 ·simp [Value.ownBlock] at hv
 ·have : g' = g := by simpa [Value.ownBlock] using hv
  subst this
  unfold Held at h
  rw [h] at hg
  injection hg with hg
  injection hg with _ h2
  exact hne h2
end
end
section
structure Blk where
 n : Nat
 t : TypeId
 cs : Array Value
def GB (G : Nat -> Prop) (L : List Blk) : Nat -> Prop := fun g => G g \/ ∃ x, x ∈ L /\ x.n = g

structure WL (O : Ob) (w0 : World) (A G : Nat -> Prop) (ws : World) (L : List Blk) (st : Vst) (w : World) : Prop where
 at_ : O.At w0 A (GB G L) st w
 held : ∀ x ∈ L, Held w x.n x.t x.cs
 stay : Stay G ws w
 lo : ∀ x ∈ L, ws.heap.size <= x.n
 nd : (L.map (·.n)).Nodup

section
variable {O : Ob} {w0 ws w w' : World} {A G : Nat -> Prop} {L : List Blk} {x y z : Blk} {st s' : Vst}
theorem WL.start (h : O.At w0 A G st ws) : WL O w0 A G ws [] st ws :=
 ⟨h.less (fun g hg => by
  rcases hg with hg | ⟨x, hx, _⟩
  ·exact hg
  ·exact absurd hx (List.not_mem_nil)), fun x hx => absurd hx (List.not_mem_nil), Stay.of_below (B0 _) G, fun x hx => absurd hx (List.not_mem_nil), List.nodup_nil⟩
theorem WL.keep (h : WL O w0 A G ws L st w) (hb : Below w.heap.size w w') : WL O w0 A G ws L st w' :=
 ⟨h.at_.keep hb, fun x hx => (h.held x hx).keep hb, h.stay.trans (Stay.of_below hb G), h.lo, h.nd⟩
theorem WL.drew (h : WL O w0 A G ws L st w) : WL O w0 A G ws L st w.drew := h.keep (Bdrew (B0 w))
theorem WL.alloc (h : WL O w0 A G ws L st w) (o : Obj) : WL O w0 A G ws L st (w.alloc o) := h.keep (Bnew (B0 w) o)
theorem WL.call (h : WL O w0 A G ws L st w) (h1 : O.At w0 A (GB G L) s' w') (h2 : Stay (GB G L) w w') : WL O w0 A G ws L s' w' :=
 ⟨h1, fun x hx => h2.held (.inr ⟨x, hx, rfl⟩) (h.held x hx), h.stay.trans (h2.less fun g x => .inl x), h.lo, h.nd⟩
theorem WL.fin (h : WL O w0 A G ws L st w) : O.At w0 A G st w /\ Stay G ws w := ⟨h.at_.less fun g x => .inl x, h.stay⟩
theorem WL.new (h : WL O w0 A G ws L st w) (t : TypeId) (cs : Array Value) : WL O w0 A G ws (⟨w.heap.size, t, cs⟩ :: L) st (w.alloc (.cells cs t)) := by
 have hk := h.alloc (.cells cs t)
 refine ⟨(h.at_.box (.cells cs t)).less (fun g hg => ?_), fun x hx => ?_, hk.stay, fun x hx => ?_, ?_⟩
 ·rcases hg with hg | ⟨x, hx, rfl⟩
  ·exact .inl (.inl hg)
  ·rcases List.mem_cons.1 hx with rfl | hx
   ·exact .inr rfl
   ·exact .inl (.inr ⟨x, hx, rfl⟩)
 ·rcases List.mem_cons.1 hx with rfl | hx
  ·exact Held.new w t cs
  ·exact hk.held x hx
 ·rcases List.mem_cons.1 hx with rfl | hx
  ·exact h.stay.1
  ·exact h.lo x hx
 ·rw [List.map_cons]
  refine List.nodup_cons.2 ⟨fun hm => ?_, h.nd⟩
  obtain ⟨x, hx, e⟩ := List.mem_map.1 hm
  have h1 := (h.held x hx).lt
  have e : x.n = w.heap.size := e
  omega
theorem WL.put (h : WL O w0 A G ws (x :: L) st w) (i : Nat) (v : Value) : WL O w0 A G ws (⟨x.n, x.t, x.cs.setIfInBounds i v⟩ :: L) st (w.setCell ⟨x.n, i, none⟩ v) := by
 have hnd := List.nodup_cons.1 h.nd
 have hlo := h.lo x (List.mem_cons_self ..)
 refine ⟨(h.at_.put (p := ⟨x.n, i, none⟩) (.inr ⟨x, List.mem_cons_self .., rfl⟩) v).less (fun g hg => ?_), fun y hy => ?_, ⟨by simp; exact h.stay.1, fun g hg hl => (Below.heap_setCell w ⟨x.n, i, none⟩ v g (fun e => by have e : g = x.n := e; omega)).trans (h.stay.2 g hg hl)⟩, fun y hy => ?_, h.nd⟩
 ·rcases hg with hg | ⟨y, hy, rfl⟩
  ·exact .inl hg
  ·rcases List.mem_cons.1 hy with rfl | hy
   ·exact .inr ⟨x, List.mem_cons_self .., rfl⟩
   ·exact .inr ⟨y, List.mem_cons_of_mem _ hy, rfl⟩
 ·rcases List.mem_cons.1 hy with rfl | hy
  ·exact (h.held x (List.mem_cons_self ..)).put i v
  ·refine (h.held y (List.mem_cons_of_mem _ hy)).far (p := ⟨x.n, i, none⟩) (fun e => hnd.1 ?_) v
   have e : y.n = x.n := e
   exact List.mem_map.2 ⟨y, hy, e⟩
 ·rcases List.mem_cons.1 hy with rfl | hy
  ·exact hlo
  ·exact h.lo y (List.mem_cons_of_mem _ hy)
theorem WL.swap (h : WL O w0 A G ws (x :: y :: L) st w) : WL O w0 A G ws (y :: x :: L) st w := by
 refine ⟨h.at_.less (fun g hg => ?_), fun z hz => h.held z (by simp at hz ⊢; rcases hz with e | e | e <;> simp [e]), h.stay, fun z hz => h.lo z (by simp at hz ⊢; rcases hz with e | e | e <;> simp [e]), ?_⟩
 ·rcases hg with hg | ⟨z, hz, e⟩
  ·exact .inl hg
  ·exact .inr ⟨z, by simp at hz ⊢; rcases hz with e | e | e <;> simp [e], e⟩
 ·have := h.nd
  simp only [List.map_cons, List.nodup_cons, List.mem_cons, not_or] at this ⊢
  exact ⟨⟨fun e => this.1.1 e.symm, this.2.1⟩, this.1.2, this.2.2⟩
theorem WL.h0 (h : WL O w0 A G ws (x :: L) st w) : Held w x.n x.t x.cs := h.held x (List.mem_cons_self ..)
theorem WL.h1 (h : WL O w0 A G ws (x :: y :: L) st w) : Held w y.n y.t y.cs := h.held y (List.mem_cons_of_mem _ (List.mem_cons_self ..))
theorem WL.h2 (h : WL O w0 A G ws (x :: y :: z :: L) st w) : Held w z.n z.t z.cs := h.held z (List.mem_cons_of_mem _ (List.mem_cons_of_mem _ (List.mem_cons_self ..)))
theorem vWL_lt {base b n : Nat} {wh : Bool} {K : Nat -> Option Nat} (h : WL (vOb base b n wh K) w0 A G ws L st w) (a : Int) : getV n K st a < 2 ^ 32 := vAt_lt h.at_ a
end
end
section
theorem Held.drw {w : World} {g : Nat} {t : TypeId} {cs : Array Value} (h : Held w g t cs) : Held w.drew g t cs := h
section
variable {w : World} {g : Nat} {t : TypeId} {c0 c1 c2 c3 c4 c5 : Value}
theorem Held.six' (h : Held w g t #[c0, c1, c2, c3, c4, c5]) : w.cell? ⟨g, 0, none⟩ = some c0 /\ w.cell? ⟨g, 1, none⟩ = some c1 /\ w.cell? ⟨g, 2, none⟩ = some c2 /\ w.cell? ⟨g, 3, none⟩ = some c3 /\ w.cell? ⟨g, 4, none⟩ = some c4 /\ w.cell? ⟨g, 5, none⟩ = some c5 := ⟨h.cell 0, h.cell 1, h.cell 2, h.cell 3, h.cell 4, h.cell 5⟩
end

theorem lkIs_c (b : Nat) (t q s hd p : Int) (w : World) :
  Calls Tryz.prog 82 #[.agg #[.pointer (some ⟨b, 0, none⟩), .int .i64 t, .int .i64 q, .int .i64 s, .int .i64 hd, .int .i64 p]] w fun e w' => e = .returned (.bool (pgB q p)) /\ Below w.heap.size w w' := by
 have hB := Bnew (B0 w) (.cells #[.pointer (some ⟨b, 0, none⟩), .int .i64 t, .int .i64 q, .int .i64 s, .int .i64 hd, .int .i64 p] 122)
 obtain ⟨x0, x1, x2, x3, x4, x5⟩ := (Held.new w 122 #[.pointer (some ⟨b, 0, none⟩), .int .i64 t, .int .i64 q, .int .i64 s, .int .i64 hd, .int .i64 p]).six'
 unfold pgB
 by_cases h0 : 0 <= p
 ·have t0 : decide ((0 : Int) <= p) = true := decide_eq_true h0
  obtain ⟨c, t1⟩ : ∃ c, decide (p < q) = c := ⟨_, rfl⟩
  rw [t0, t1]
  cases c with
  | true =>
   go_enter Tryz.func82, Tryz.ntmps82
   go_wp2
   go_ret
   exact ⟨rfl, hB⟩
  | false =>
   go_enter Tryz.func82, Tryz.ntmps82
   go_wp2
   go_ret
   exact ⟨rfl, hB⟩
 ·have t0 : decide ((0 : Int) <= p) = false := decide_eq_false h0
  rw [t0]
  go_enter Tryz.func82, Tryz.ntmps82
  go_wp2
  go_ret
  exact ⟨rfl, hB⟩

theorem lkLink_c (b : Nat) (t q s hd : Int) (k : Nat) (hk : k < 2 ^ 31) (w : World) :
  Calls Tryz.prog 91 #[.agg #[.pointer (some ⟨b, 0, none⟩), .int .i64 t, .int .i64 q, .int .i64 s, .int .i64 hd, .int .i64 (k : Int)]] w fun e w' => e = .returned (.int .u32 ((k + 1 : Nat) : Int)) /\ Below w.heap.size w w' := by
 have hB := Bnew (B0 w) (.cells #[.pointer (some ⟨b, 0, none⟩), .int .i64 t, .int .i64 q, .int .i64 s, .int .i64 hd, .int .i64 (k : Int)] 122)
 go_enter Tryz.func91, Tryz.ntmps91
 go_wp2
 go_ret
 exact ⟨by simp, hB⟩

set_option maxHeartbeats 1600000 in
theorem lkTo_c (b : Nat) (t q s hd : Int) (l : Nat) (hl : l < 2 ^ 32) (w : World) :
  Calls Tryz.prog 86 #[.agg #[.pointer (some ⟨b, 0, none⟩), .int .i64 t, .int .i64 q, .int .i64 s, .int .i64 hd], .int .u32 (l : Int)] w fun e w' => e = .returned (.agg #[.pointer (some ⟨b, 0, none⟩), .int .i64 t, .int .i64 q, .int .i64 s, .int .i64 hd, .int .i64 ((l : Int) - 1)]) /\ Below w.heap.size w w' := by
 go_enter Tryz.func86, Tryz.ntmps86
 go_wp2
 have hfin := Held.new2 w (.cells #[.pointer (some ⟨b, 0, none⟩), .int .i64 t, .int .i64 q, .int .i64 s, .int .i64 hd] 120) 122 #[.pointer (some ⟨b, 0, none⟩), .int .i64 t, .int .i64 q, .int .i64 s, .int .i64 hd, .int .i64 ((l : Int) - 1)]
 obtain ⟨r0, r1, r2, r3, r4, r5⟩ := hfin.six'
 refine bodyPost_ret (v := .agg #[.pointer (some ⟨b, 0, none⟩), .int .i64 t, .int .i64 q, .int .i64 s, .int .i64 hd, .int .i64 ((l : Int) - 1)]) (by simp [results, Tryz.results86, go_sem, r0, r1, r2, r3, r4, r5]) rfl ⟨rfl, ?_⟩
 exact Bnew (Bnew (B0 _) _) _

section
variable {base b n : Nat} {wh : Bool} {K : Nat -> Option Nat} {st : Vst} {w w0 : World} {A G : Nat -> Prop} {t q s hd p : Int}

theorem lkFirst_c (hn : n < 2 ^ 40) (h : (vOb base b n wh K).At w0 A G st w) :
  Calls Tryz.prog 90 #[.agg #[.pointer (some ⟨b, 0, none⟩), .int .i64 t, .int .i64 q, .int .i64 s, .int .i64 hd]] w fun e w' => e = .returned (.int .u32 ((getV n K st hd : Nat) : Int)) /\ (vOb base b n wh K).At w0 A G (getS n K st hd) w' /\ Stay G w w' := by
 have HA := hidp (h.alloc (.cells #[.pointer (some ⟨b, 0, none⟩), .int .i64 t, .int .i64 q, .int .i64 s, .int .i64 hd] 120))
 have hS : Stay G w (w.alloc (.cells #[.pointer (some ⟨b, 0, none⟩), .int .i64 t, .int .i64 q, .int .i64 s, .int .i64 hd] 120)) := Stay.of_below (Bnew (B0 w) _) G
 clear h
 go_enter Tryz.func90, Tryz.ntmps90
 go_wp2_with fail
 refine (vGetA hn hd HA.out).mono ?_
 rintro e w1 ⟨rfl, h1, h2⟩
 go_wp2
 go_ret
 exact ⟨rfl, h1, hS.trans h2⟩

theorem lkSetFirst_c (hn : n < 2 ^ 40) (l : Nat) (hl : l < 2 ^ 32) (h : (vOb base b n wh K).At w0 A G st w) :
  Calls Tryz.prog 85 #[.agg #[.pointer (some ⟨b, 0, none⟩), .int .i64 t, .int .i64 q, .int .i64 s, .int .i64 hd], .int .u32 (l : Int)] w fun e w' => e = .returned (.tuple #[]) /\ (vOb base b n wh K).At w0 A G (putS n st hd l) w' /\ Stay G w w' := by
 have HA := hidp (h.alloc (.cells #[.pointer (some ⟨b, 0, none⟩), .int .i64 t, .int .i64 q, .int .i64 s, .int .i64 hd] 120))
 have hS : Stay G w (w.alloc (.cells #[.pointer (some ⟨b, 0, none⟩), .int .i64 t, .int .i64 q, .int .i64 s, .int .i64 hd] 120)) := Stay.of_below (Bnew (B0 w) _) G
 clear h
 go_enter Tryz.func85, Tryz.ntmps85
 go_wp2_with fail
 refine (vPutA hn hd l hl HA.out).mono ?_
 rintro e w1 ⟨rfl, h1, h2⟩
 go_wp2
 go_end0
 exact ⟨rfl, h1, hS.trans h2⟩

set_option maxHeartbeats 1600000 in
theorem lkNext_c (hn : n < 2 ^ 40) (h : (vOb base b n wh K).At w0 A G st w) :
  Calls Tryz.prog 83 #[.agg #[.pointer (some ⟨b, 0, none⟩), .int .i64 t, .int .i64 q, .int .i64 s, .int .i64 hd, .int .i64 p]] w fun e w' => e = .returned (.int .u32 ((getV n K st (pageI t q s p 2) : Nat) : Int)) /\ (vOb base b n wh K).At w0 A G (getS n K st (pageI t q s p 2)) w' /\ Stay G w w' := by
 have HA := hidp (h.box (.cells #[.pointer (some ⟨b, 0, none⟩), .int .i64 t, .int .i64 q, .int .i64 s, .int .i64 hd, .int .i64 p] 122))
 have HC := hidp (Held.new w 122 #[.pointer (some ⟨b, 0, none⟩), .int .i64 t, .int .i64 q, .int .i64 s, .int .i64 hd, .int .i64 p])
 have HS := hidp (Stay.of_below (Bnew (B0 w) (.cells #[.pointer (some ⟨b, 0, none⟩), .int .i64 t, .int .i64 q, .int .i64 s, .int .i64 hd, .int .i64 p] 122)) G)
 clear h
 go_enter Tryz.func83, Tryz.ntmps83
 go_wp2_with fail
 refine wp_region_held_drew (S := (fun w' => w'.cell? ⟨w.heap.size, 0, none⟩ = some (.pointer (some ⟨b, 0, none⟩)) /\ w'.cell? ⟨w.heap.size, 1, none⟩ = some (.int .i64 t) /\ w'.cell? ⟨w.heap.size, 2, none⟩ = some (.int .i64 q) /\ w'.cell? ⟨w.heap.size, 3, none⟩ = some (.int .i64 s) /\ w'.cell? ⟨w.heap.size, 4, none⟩ = some (.int .i64 hd) /\ w'.cell? ⟨w.heap.size, 5, none⟩ = some (.int .i64 p))) (by kernel_rfl) ?_ (fun hHeld => ?_)
 ·(try dsimp only)
  first | exact HC.out.drw.six' | exact HC1.out.six' | exact HC2.out.six' | exact hHeld
 refine tkz 0 ?_
 refine tkz 1 ?_
 refine tkz 2 ?_
 refine tkz 3 ?_
 refine tkz 4 ?_
 refine tkz 5 ?_
 refine tkz 6 ?_
 refine tkz 7 ?_
 refine rdz 8 fun K hK => ?_
 go_simp
 refine (plNext_c _ _ _ _ _).mono ?_; rintro e w1 ⟨rfl, hb1⟩; have HA1 := hidp (HA.out.drew.keep hb1); have HC1 := hidp (HC.out.drw.keep hb1); have HS1 := hidp ((HS.out.trans (Stay.of_below (Bdrew (B0 _)) _)).trans (Stay.of_below hb1 _)); clear HA HC HS hb1
 refine hK.out _ _ ?_ (fun hHeld => ?_)
 ·(try dsimp only)
  first | exact HC.out.drw.six' | exact HC1.out.six' | exact HC2.out.six' | exact hHeld
 clear hK K
 (try simp only [Act.put, gA, gB, gC, sA, sB, sC])
 refine rdz 9 fun K hK => ?_
 go_simp
 refine (vGetA hn _ HA1.out).mono ?_; rintro e w2 ⟨rfl, h1, h2⟩; have HA2 := hidp (h1.less fun g x => Or.inl x); have HC2 := hidp (h2.held (Or.inr rfl) HC1.out); have HS2 := hidp (HS1.out.trans (h2.less fun g x => Or.inl x)); clear HA1 HC1 HS1 h1 h2
 refine hK.out _ _ ?_ (fun hHeld => ?_)
 ·(try dsimp only)
  first | exact HC.out.drw.six' | exact HC1.out.six' | exact HC2.out.six' | exact hHeld
 clear hK K
 (try simp only [Act.put, gA, gB, gC, sA, sB, sC])
 refine tkz 10 ?_
 refine dnz ?_
 go_wp2
 go_ret
 exact ⟨rfl, HA2.out, HS2.out⟩

set_option maxHeartbeats 1600000 in
theorem lkSetNext_c (hn : n < 2 ^ 40) (l : Nat) (hl : l < 2 ^ 32) (h : (vOb base b n wh K).At w0 A G st w) :
  Calls Tryz.prog 87 #[.agg #[.pointer (some ⟨b, 0, none⟩), .int .i64 t, .int .i64 q, .int .i64 s, .int .i64 hd, .int .i64 p], .int .u32 (l : Int)] w fun e w' => e = .returned (.tuple #[]) /\ (vOb base b n wh K).At w0 A G (putS n st (pageI t q s p 2) l) w' /\ Stay G w w' := by
 have HA := hidp (h.box (.cells #[.pointer (some ⟨b, 0, none⟩), .int .i64 t, .int .i64 q, .int .i64 s, .int .i64 hd, .int .i64 p] 122))
 have HC := hidp (Held.new w 122 #[.pointer (some ⟨b, 0, none⟩), .int .i64 t, .int .i64 q, .int .i64 s, .int .i64 hd, .int .i64 p])
 have HS := hidp (Stay.of_below (Bnew (B0 w) (.cells #[.pointer (some ⟨b, 0, none⟩), .int .i64 t, .int .i64 q, .int .i64 s, .int .i64 hd, .int .i64 p] 122)) G)
 clear h
 go_enter Tryz.func87, Tryz.ntmps87
 go_wp2_with fail
 refine wp_region_held_drew (S := (fun w' => w'.cell? ⟨w.heap.size, 0, none⟩ = some (.pointer (some ⟨b, 0, none⟩)) /\ w'.cell? ⟨w.heap.size, 1, none⟩ = some (.int .i64 t) /\ w'.cell? ⟨w.heap.size, 2, none⟩ = some (.int .i64 q) /\ w'.cell? ⟨w.heap.size, 3, none⟩ = some (.int .i64 s) /\ w'.cell? ⟨w.heap.size, 4, none⟩ = some (.int .i64 hd) /\ w'.cell? ⟨w.heap.size, 5, none⟩ = some (.int .i64 p))) (by kernel_rfl) ?_ (fun hHeld => ?_)
 ·(try dsimp only)
  first | exact HC.out.drw.six' | exact HC1.out.six' | exact HC2.out.six' | exact hHeld
 refine tkz 0 ?_
 refine tkz 1 ?_
 refine tkz 2 ?_
 refine tkz 3 ?_
 refine tkz 4 ?_
 refine tkz 5 ?_
 refine tkz 6 ?_
 refine tkz 7 ?_
 refine tkz 9 ?_
 refine rdz 8 fun K hK => ?_
 go_simp
 refine (plNext_c _ _ _ _ _).mono ?_; rintro e w1 ⟨rfl, hb1⟩; have HA1 := hidp (HA.out.drew.keep hb1); have HC1 := hidp (HC.out.drw.keep hb1); have HS1 := hidp ((HS.out.trans (Stay.of_below (Bdrew (B0 _)) _)).trans (Stay.of_below hb1 _)); clear HA HC HS hb1
 refine hK.out _ _ ?_ (fun hHeld => ?_)
 ·(try dsimp only)
  first | exact HC.out.drw.six' | exact HC1.out.six' | exact HC2.out.six' | exact hHeld
 clear hK K
 (try simp only [Act.put, gA, gB, gC, sA, sB, sC])
 refine rdz 10 fun K hK => ?_
 go_simp
 refine (vPutA hn _ l hl HA1.out).mono ?_; rintro e w2 ⟨rfl, h1, h2⟩; have HA2 := hidp (h1.less fun g x => Or.inl x); have HC2 := hidp (h2.held (Or.inr rfl) HC1.out); have HS2 := hidp (HS1.out.trans (h2.less fun g x => Or.inl x)); clear HA1 HC1 HS1 h1 h2
 refine hK.out _ _ ?_ (fun hHeld => ?_)
 ·(try dsimp only)
  first | exact HC.out.drw.six' | exact HC1.out.six' | exact HC2.out.six' | exact hHeld
 clear hK K
 (try simp only [Act.put, gA, gB, gC, sA, sB, sC])
 refine dnz ?_
 go_wp2
 go_end0
 exact ⟨rfl, HA2.out, HS2.out⟩

set_option maxHeartbeats 1600000 in
theorem lkPrev_c (hn : n < 2 ^ 40) (h : (vOb base b n wh K).At w0 A G st w) :
  Calls Tryz.prog 84 #[.agg #[.pointer (some ⟨b, 0, none⟩), .int .i64 t, .int .i64 q, .int .i64 s, .int .i64 hd, .int .i64 p]] w fun e w' => e = .returned (.int .u32 ((getV n K st (pageI t q s p 3) : Nat) : Int)) /\ (vOb base b n wh K).At w0 A G (getS n K st (pageI t q s p 3)) w' /\ Stay G w w' := by
 have HA := hidp (h.box (.cells #[.pointer (some ⟨b, 0, none⟩), .int .i64 t, .int .i64 q, .int .i64 s, .int .i64 hd, .int .i64 p] 122))
 have HC := hidp (Held.new w 122 #[.pointer (some ⟨b, 0, none⟩), .int .i64 t, .int .i64 q, .int .i64 s, .int .i64 hd, .int .i64 p])
 have HS := hidp (Stay.of_below (Bnew (B0 w) (.cells #[.pointer (some ⟨b, 0, none⟩), .int .i64 t, .int .i64 q, .int .i64 s, .int .i64 hd, .int .i64 p] 122)) G)
 clear h
 go_enter Tryz.func84, Tryz.ntmps84
 go_wp2_with fail
 refine wp_region_held_drew (S := (fun w' => w'.cell? ⟨w.heap.size, 0, none⟩ = some (.pointer (some ⟨b, 0, none⟩)) /\ w'.cell? ⟨w.heap.size, 1, none⟩ = some (.int .i64 t) /\ w'.cell? ⟨w.heap.size, 2, none⟩ = some (.int .i64 q) /\ w'.cell? ⟨w.heap.size, 3, none⟩ = some (.int .i64 s) /\ w'.cell? ⟨w.heap.size, 4, none⟩ = some (.int .i64 hd) /\ w'.cell? ⟨w.heap.size, 5, none⟩ = some (.int .i64 p))) (by kernel_rfl) ?_ (fun hHeld => ?_)
 ·(try dsimp only)
  first | exact HC.out.drw.six' | exact HC1.out.six' | exact HC2.out.six' | exact hHeld
 refine tkz 0 ?_
 refine tkz 1 ?_
 refine tkz 2 ?_
 refine tkz 3 ?_
 refine tkz 4 ?_
 refine tkz 5 ?_
 refine tkz 6 ?_
 refine tkz 7 ?_
 refine rdz 8 fun K hK => ?_
 go_simp
 refine (plPrev_c _ _ _ _ _).mono ?_; rintro e w1 ⟨rfl, hb1⟩; have HA1 := hidp (HA.out.drew.keep hb1); have HC1 := hidp (HC.out.drw.keep hb1); have HS1 := hidp ((HS.out.trans (Stay.of_below (Bdrew (B0 _)) _)).trans (Stay.of_below hb1 _)); clear HA HC HS hb1
 refine hK.out _ _ ?_ (fun hHeld => ?_)
 ·(try dsimp only)
  first | exact HC.out.drw.six' | exact HC1.out.six' | exact HC2.out.six' | exact hHeld
 clear hK K
 (try simp only [Act.put, gA, gB, gC, sA, sB, sC])
 refine rdz 9 fun K hK => ?_
 go_simp
 refine (vGetA hn _ HA1.out).mono ?_; rintro e w2 ⟨rfl, h1, h2⟩; have HA2 := hidp (h1.less fun g x => Or.inl x); have HC2 := hidp (h2.held (Or.inr rfl) HC1.out); have HS2 := hidp (HS1.out.trans (h2.less fun g x => Or.inl x)); clear HA1 HC1 HS1 h1 h2
 refine hK.out _ _ ?_ (fun hHeld => ?_)
 ·(try dsimp only)
  first | exact HC.out.drw.six' | exact HC1.out.six' | exact HC2.out.six' | exact hHeld
 clear hK K
 (try simp only [Act.put, gA, gB, gC, sA, sB, sC])
 refine tkz 10 ?_
 refine dnz ?_
 go_wp2
 go_ret
 exact ⟨rfl, HA2.out, HS2.out⟩

set_option maxHeartbeats 1600000 in
theorem lkSetPrev_c (hn : n < 2 ^ 40) (l : Nat) (hl : l < 2 ^ 32) (h : (vOb base b n wh K).At w0 A G st w) :
  Calls Tryz.prog 88 #[.agg #[.pointer (some ⟨b, 0, none⟩), .int .i64 t, .int .i64 q, .int .i64 s, .int .i64 hd, .int .i64 p], .int .u32 (l : Int)] w fun e w' => e = .returned (.tuple #[]) /\ (vOb base b n wh K).At w0 A G (putS n st (pageI t q s p 3) l) w' /\ Stay G w w' := by
 have HA := hidp (h.box (.cells #[.pointer (some ⟨b, 0, none⟩), .int .i64 t, .int .i64 q, .int .i64 s, .int .i64 hd, .int .i64 p] 122))
 have HC := hidp (Held.new w 122 #[.pointer (some ⟨b, 0, none⟩), .int .i64 t, .int .i64 q, .int .i64 s, .int .i64 hd, .int .i64 p])
 have HS := hidp (Stay.of_below (Bnew (B0 w) (.cells #[.pointer (some ⟨b, 0, none⟩), .int .i64 t, .int .i64 q, .int .i64 s, .int .i64 hd, .int .i64 p] 122)) G)
 clear h
 go_enter Tryz.func88, Tryz.ntmps88
 go_wp2_with fail
 refine wp_region_held_drew (S := (fun w' => w'.cell? ⟨w.heap.size, 0, none⟩ = some (.pointer (some ⟨b, 0, none⟩)) /\ w'.cell? ⟨w.heap.size, 1, none⟩ = some (.int .i64 t) /\ w'.cell? ⟨w.heap.size, 2, none⟩ = some (.int .i64 q) /\ w'.cell? ⟨w.heap.size, 3, none⟩ = some (.int .i64 s) /\ w'.cell? ⟨w.heap.size, 4, none⟩ = some (.int .i64 hd) /\ w'.cell? ⟨w.heap.size, 5, none⟩ = some (.int .i64 p))) (by kernel_rfl) ?_ (fun hHeld => ?_)
 ·(try dsimp only)
  first | exact HC.out.drw.six' | exact HC1.out.six' | exact HC2.out.six' | exact hHeld
 refine tkz 0 ?_
 refine tkz 1 ?_
 refine tkz 2 ?_
 refine tkz 3 ?_
 refine tkz 4 ?_
 refine tkz 5 ?_
 refine tkz 6 ?_
 refine tkz 7 ?_
 refine tkz 9 ?_
 refine rdz 8 fun K hK => ?_
 go_simp
 refine (plPrev_c _ _ _ _ _).mono ?_; rintro e w1 ⟨rfl, hb1⟩; have HA1 := hidp (HA.out.drew.keep hb1); have HC1 := hidp (HC.out.drw.keep hb1); have HS1 := hidp ((HS.out.trans (Stay.of_below (Bdrew (B0 _)) _)).trans (Stay.of_below hb1 _)); clear HA HC HS hb1
 refine hK.out _ _ ?_ (fun hHeld => ?_)
 ·(try dsimp only)
  first | exact HC.out.drw.six' | exact HC1.out.six' | exact HC2.out.six' | exact hHeld
 clear hK K
 (try simp only [Act.put, gA, gB, gC, sA, sB, sC])
 refine rdz 10 fun K hK => ?_
 go_simp
 refine (vPutA hn _ l hl HA1.out).mono ?_; rintro e w2 ⟨rfl, h1, h2⟩; have HA2 := hidp (h1.less fun g x => Or.inl x); have HC2 := hidp (h2.held (Or.inr rfl) HC1.out); have HS2 := hidp (HS1.out.trans (h2.less fun g x => Or.inl x)); clear HA1 HC1 HS1 h1 h2
 refine hK.out _ _ ?_ (fun hHeld => ?_)
 ·(try dsimp only)
  first | exact HC.out.drw.six' | exact HC1.out.six' | exact HC2.out.six' | exact hHeld
 clear hK K
 (try simp only [Act.put, gA, gB, gC, sA, sB, sC])
 refine dnz ?_
 go_wp2
 go_end0
 exact ⟨rfl, HA2.out, HS2.out⟩

end
end
section
section
variable {base b n : Nat} {wh : Bool} {K : Nat -> Option Nat} {st : Vst} {w w0 : World} {A G : Nat -> Prop} {t q s hd : Int}

theorem lkPush_no (hn : n < 2 ^ 40) (p : Int) (hp : pgB q p = false) (h : (vOb base b n wh K).At w0 A G st w) :
  Calls Tryz.prog 38 #[.pointer (some ⟨b, 0, none⟩), .agg #[.int .i64 t, .int .i64 q, .int .i64 s], .int .i64 hd, .int .i64 p] w fun e w' => e = .returned (.tuple #[]) /\ (vOb base b n wh K).At w0 A G (st) w' /\ Stay G w w' := by
 have W0 := hidp (WK.two h (.cells #[.int .i64 t, .int .i64 q, .int .i64 s] 23) 122 #[.pointer (some ⟨b, 0, none⟩), .int .i64 t, .int .i64 q, .int .i64 s, .int .i64 hd, .int .i64 p])
 obtain ⟨x0, x1, x2, x3, x4, x5⟩ := W0.out.held.six'
 have HK := hidp hp
 clear h hp
 go_enter Tryz.func38, Tryz.ntmps38
 go_wp2_with fail
 refine (lkIs_c b t q s hd p _).mono ?_; rintro e w1 ⟨rfl, hb⟩; rw [HK.out]; have W1 := hidp (W0.out.keep hb); clear hb W0
 go_wp2
 (try simp only [Exit.inBlock, Exit.then])
 refine bodyPost_ret (results_none rfl _ _ _) rfl ?_
 exact ⟨rfl, W1.out.fin⟩

set_option maxHeartbeats 3200000 in
theorem lkPush_yes (hn : n < 2 ^ 40) (k : Nat) (hk : pgB q (k : Int) = true) (hk31 : k < 2 ^ 31) (h : (vOb base b n wh K).At w0 A G st w) :
  Calls Tryz.prog 38 #[.pointer (some ⟨b, 0, none⟩), .agg #[.int .i64 t, .int .i64 q, .int .i64 s], .int .i64 hd, .int .i64 (k : Int)] w fun e w' => e = .returned (.tuple #[]) /\ (vOb base b n wh K).At w0 A G (pushS n K t q s hd k st) w' /\ Stay G w w' := by
 have W0 := hidp (WK.two h (.cells #[.int .i64 t, .int .i64 q, .int .i64 s] 23) 122 #[.pointer (some ⟨b, 0, none⟩), .int .i64 t, .int .i64 q, .int .i64 s, .int .i64 hd, .int .i64 (k : Int)])
 obtain ⟨x0, x1, x2, x3, x4, x5⟩ := W0.out.held.six'
 have HK := hidp hk
 obtain ⟨l, hl⟩ : ∃ l, getV n K st hd = l := ⟨_, rfl⟩
 have hl32 : l < 2 ^ 32 := by rw [<- hl]; exact vAt_lt h hd
 have HL := hidp hl
 have HQ : Hid (push1 n K t q s hd k st = putS n (putS n (getS n K st hd) (pageI t q s (k : Int) 2) l) (pageI t q s (k : Int) 3) 0) := hidp (by unfold push1; rw [hl])
 have HP : Hid (l = 0 -> pushS n K t q s hd k st = putS n (push1 n K t q s hd k st) hd (k + 1)) := hidp (fun e => by unfold pushS push2; rw [if_pos (hl.trans e)])
 have HR : Hid (l ≠ 0 -> pushS n K t q s hd k st = putS n (putS n (push1 n K t q s hd k st) (pageI t q s ((l : Int) - 1) 3) (k + 1)) hd (k + 1)) := hidp (fun e => by unfold pushS push2; rw [if_neg (by rw [hl]; exact e), hl])
 clear hl
 clear h hk
 go_enter Tryz.func38, Tryz.ntmps38
 go_wp2_with fail
 refine (lkIs_c b t q s hd k _).mono ?_; rintro e w1 ⟨rfl, hb⟩; have W1 := hidp (W0.out.keep hb); clear hb W0; rw [HK.out]
 obtain ⟨x0, x1, x2, x3, x4, x5⟩ := W1.out.held.six'
 go_wp2_with fail
 refine (lkFirst_c hn W1.out.at_).mono ?_; rintro e w2 ⟨rfl, h1, h2⟩; have W2 := hidp (W1.out.call h1 h2); clear h1 h2 W1; rw [HL.out]
 obtain ⟨x0, x1, x2, x3, x4, x5⟩ := W2.out.held.six'
 go_wp2_with fail
 refine (lkSetNext_c hn l hl32 W2.out.at_).mono ?_; rintro e w3 ⟨rfl, h1, h2⟩; have W3 := hidp (W2.out.call h1 h2); clear h1 h2 W2
 obtain ⟨x0, x1, x2, x3, x4, x5⟩ := W3.out.held.six'
 go_wp2_with fail
 refine (lkSetPrev_c hn 0 (by omega) W3.out.at_).mono ?_; rintro e w4 ⟨rfl, h1, h2⟩; have W4 := hidp (W3.out.call h1 h2); clear h1 h2 W3
 obtain ⟨x0, x1, x2, x3, x4, x5⟩ := W4.out.held.six'
 rw [<- HQ.out] at W4
 clear HL HQ HK
 by_cases hz : l = 0
 ·have HE := hidp (HP.out hz)
  subst hz
  clear HP HR
  go_wp2_with fail
  refine wp_region_held_drew (S := (fun w' => w'.cell? ⟨w.heap.size + 1, 0, none⟩ = some (.pointer (some ⟨b, 0, none⟩)) /\ w'.cell? ⟨w.heap.size + 1, 1, none⟩ = some (.int .i64 t) /\ w'.cell? ⟨w.heap.size + 1, 2, none⟩ = some (.int .i64 q) /\ w'.cell? ⟨w.heap.size + 1, 3, none⟩ = some (.int .i64 s) /\ w'.cell? ⟨w.heap.size + 1, 4, none⟩ = some (.int .i64 hd) /\ w'.cell? ⟨w.heap.size + 1, 5, none⟩ = some (.int .i64 (k : Int)))) (by kernel_rfl) ?_ (fun hHeld => ?_)
  ·(try dsimp only)
   first | exact W4.out.drew.held.six' | exact W5.out.held.six' | exact W6.out.held.six' | exact hHeld
  refine tkz 0 ?_
  refine tkz 1 ?_
  refine tkz 2 ?_
  refine rdz 3 fun K hK => ?_
  go_simp
  refine (lkLink_c b t q s hd k hk31 _).mono ?_; rintro e w5 ⟨rfl, hb⟩; have W5 := hidp (W4.out.drew.keep hb); clear hb W4
  refine hK.out _ _ ?_ (fun hHeld => ?_)
  ·(try dsimp only)
   first | exact W4.out.drew.held.six' | exact W5.out.held.six' | exact W6.out.held.six' | exact hHeld
  clear hK K
  (try simp only [Act.put, gA, gB, gC, sA, sB, sC])
  refine rdz 4 fun K hK => ?_
  go_simp
  refine (lkSetFirst_c hn (k + 1) (by omega) W5.out.at_).mono ?_; rintro e w6 ⟨rfl, h1, h2⟩; have W6 := hidp (W5.out.call h1 h2); clear h1 h2 W5
  refine hK.out _ _ ?_ (fun hHeld => ?_)
  ·(try dsimp only)
   first | exact W4.out.drew.held.six' | exact W5.out.held.six' | exact W6.out.held.six' | exact hHeld
  clear hK K
  (try simp only [Act.put, gA, gB, gC, sA, sB, sC])
  refine dnz ?_
  obtain ⟨x0, x1, x2, x3, x4, x5⟩ := W6.out.held.six'
  go_wp2
  go_end0
  exact ⟨rfl, by rw [HE.out]; exact W6.out.fin⟩
 ·have HE := hidp (HR.out hz)
  have t1 : ((l : Int) == 0) = false := by simp; omega
  have t2 : ((l : Int) != 0) = true := by simp; omega
  clear HP HR
  go_wp2_with fail
  refine wp_region_held_drew (S := (fun w' => w'.cell? ⟨w.heap.size + 1, 0, none⟩ = some (.pointer (some ⟨b, 0, none⟩)) /\ w'.cell? ⟨w.heap.size + 1, 1, none⟩ = some (.int .i64 t) /\ w'.cell? ⟨w.heap.size + 1, 2, none⟩ = some (.int .i64 q) /\ w'.cell? ⟨w.heap.size + 1, 3, none⟩ = some (.int .i64 s) /\ w'.cell? ⟨w.heap.size + 1, 4, none⟩ = some (.int .i64 hd) /\ w'.cell? ⟨w.heap.size + 1, 5, none⟩ = some (.int .i64 (k : Int)))) (by kernel_rfl) ?_ (fun hHeld => ?_)
  ·(try dsimp only)
   first | exact W4.out.drew.held.six' | exact W5.out.held.six' | exact W6.out.held.six' | exact W7.out.held.six' | exact hHeld
  refine tkz 0 ?_
  refine tkz 1 ?_
  refine tkz 2 ?_
  refine tkz 4 ?_
  refine rdz 3 fun K hK => ?_
  go_simp
  refine (lkTo_c b t q s hd l hl32 _).mono ?_; rintro e w5 ⟨rfl, hb⟩; have W5 := hidp (W4.out.drew.keep hb); clear hb W4
  refine hK.out _ _ ?_ (fun hHeld => ?_)
  ·(try dsimp only)
   first | exact W4.out.drew.held.six' | exact W5.out.held.six' | exact W6.out.held.six' | exact W7.out.held.six' | exact hHeld
  clear hK K
  (try simp only [Act.put, gA, gB, gC, sA, sB, sC])
  refine rdz 5 fun K hK => ?_
  go_simp
  refine (lkLink_c b t q s hd k hk31 _).mono ?_; rintro e w6 ⟨rfl, hb⟩; have W6 := hidp (W5.out.keep hb); clear hb W5
  refine hK.out _ _ ?_ (fun hHeld => ?_)
  ·(try dsimp only)
   first | exact W4.out.drew.held.six' | exact W5.out.held.six' | exact W6.out.held.six' | exact W7.out.held.six' | exact hHeld
  clear hK K
  (try simp only [Act.put, gA, gB, gC, sA, sB, sC])
  refine rdz 6 fun K hK => ?_
  go_simp
  refine (lkSetPrev_c hn (k + 1) (by omega) W6.out.at_).mono ?_; rintro e w7 ⟨rfl, h1, h2⟩; have W7 := hidp (W6.out.call h1 h2); clear h1 h2 W6
  refine hK.out _ _ ?_ (fun hHeld => ?_)
  ·(try dsimp only)
   first | exact W4.out.drew.held.six' | exact W5.out.held.six' | exact W6.out.held.six' | exact W7.out.held.six' | exact hHeld
  clear hK K
  (try simp only [Act.put, gA, gB, gC, sA, sB, sC])
  refine dnz ?_
  obtain ⟨x0, x1, x2, x3, x4, x5⟩ := W7.out.held.six'
  go_wp2_with fail
  refine wp_region_held_drew (S := (fun w' => w'.cell? ⟨w.heap.size + 1, 0, none⟩ = some (.pointer (some ⟨b, 0, none⟩)) /\ w'.cell? ⟨w.heap.size + 1, 1, none⟩ = some (.int .i64 t) /\ w'.cell? ⟨w.heap.size + 1, 2, none⟩ = some (.int .i64 q) /\ w'.cell? ⟨w.heap.size + 1, 3, none⟩ = some (.int .i64 s) /\ w'.cell? ⟨w.heap.size + 1, 4, none⟩ = some (.int .i64 hd) /\ w'.cell? ⟨w.heap.size + 1, 5, none⟩ = some (.int .i64 (k : Int)))) (by kernel_rfl) ?_ (fun hHeld => ?_)
  ·(try dsimp only)
   first | exact W7.out.drew.held.six' | exact W8.out.held.six' | exact W9.out.held.six' | exact hHeld
  refine tkz 0 ?_
  refine tkz 1 ?_
  refine tkz 2 ?_
  refine rdz 3 fun K hK => ?_
  go_simp
  refine (lkLink_c b t q s hd k hk31 _).mono ?_; rintro e w8 ⟨rfl, hb⟩; have W8 := hidp (W7.out.drew.keep hb); clear hb W7
  refine hK.out _ _ ?_ (fun hHeld => ?_)
  ·(try dsimp only)
   first | exact W7.out.drew.held.six' | exact W8.out.held.six' | exact W9.out.held.six' | exact hHeld
  clear hK K
  (try simp only [Act.put, gA, gB, gC, sA, sB, sC])
  refine rdz 4 fun K hK => ?_
  go_simp
  refine (lkSetFirst_c hn (k + 1) (by omega) W8.out.at_).mono ?_; rintro e w9 ⟨rfl, h1, h2⟩; have W9 := hidp (W8.out.call h1 h2); clear h1 h2 W8
  refine hK.out _ _ ?_ (fun hHeld => ?_)
  ·(try dsimp only)
   first | exact W7.out.drew.held.six' | exact W8.out.held.six' | exact W9.out.held.six' | exact hHeld
  clear hK K
  (try simp only [Act.put, gA, gB, gC, sA, sB, sC])
  refine dnz ?_
  obtain ⟨x0, x1, x2, x3, x4, x5⟩ := W9.out.held.six'
  go_wp2
  go_end0
  exact ⟨rfl, by rw [HE.out]; exact W9.out.fin⟩
theorem lkPush_c (hn : n < 2 ^ 40) (hq : q <= 2 ^ 31) (p : Int) (h : (vOb base b n wh K).At w0 A G st w) :
  Calls Tryz.prog 38 #[.pointer (some ⟨b, 0, none⟩), .agg #[.int .i64 t, .int .i64 q, .int .i64 s], .int .i64 hd, .int .i64 p] w fun e w' => e = .returned (.tuple #[]) /\ (vOb base b n wh K).At w0 A G (pushI n K t q s hd p st) w' /\ Stay G w w' := by
 cases hp : pgB q p with
 | false => rw [(pgB_none hp).1]; exact lkPush_no hn p hp h
 | true =>
  have h1 := (pgB_iff _ _).1 hp
  obtain ⟨k, rfl⟩ := Int.eq_ofNat_of_zero_le h1.1
  rw [(pgB_nat hp).1]
  exact lkPush_yes hn k hp (by omega) h

theorem lkPull_no (hn : n < 2 ^ 40) (p : Int) (hp : pgB q p = false) (h : (vOb base b n wh K).At w0 A G st w) :
  Calls Tryz.prog 36 #[.pointer (some ⟨b, 0, none⟩), .agg #[.int .i64 t, .int .i64 q, .int .i64 s], .int .i64 hd, .int .i64 p] w fun e w' => e = .returned (.tuple #[]) /\ (vOb base b n wh K).At w0 A G (st) w' /\ Stay G w w' := by
 have W0 := hidp (WK.two h (.cells #[.int .i64 t, .int .i64 q, .int .i64 s] 23) 122 #[.pointer (some ⟨b, 0, none⟩), .int .i64 t, .int .i64 q, .int .i64 s, .int .i64 hd, .int .i64 p])
 obtain ⟨x0, x1, x2, x3, x4, x5⟩ := W0.out.held.six'
 have HK := hidp hp
 clear h hp
 go_enter Tryz.func36, Tryz.ntmps36
 go_wp2_with fail
 refine (lkIs_c b t q s hd p _).mono ?_; rintro e w1 ⟨rfl, hb⟩; rw [HK.out]; have W1 := hidp (W0.out.keep hb); clear hb W0
 go_wp2
 (try simp only [Exit.inBlock, Exit.then])
 refine bodyPost_ret (results_none rfl _ _ _) rfl ?_
 exact ⟨rfl, W1.out.fin⟩

set_option maxHeartbeats 3200000 in
theorem lkPull_yes (hn : n < 2 ^ 40) (k : Nat) (hk : pgB q (k : Int) = true) (hk31 : k < 2 ^ 31) (h : (vOb base b n wh K).At w0 A G st w) :
  Calls Tryz.prog 36 #[.pointer (some ⟨b, 0, none⟩), .agg #[.int .i64 t, .int .i64 q, .int .i64 s], .int .i64 hd, .int .i64 (k : Int)] w fun e w' => e = .returned (.tuple #[]) /\ (vOb base b n wh K).At w0 A G (pullS n K t q s hd k st) w' /\ Stay G w w' := by
 have W0 := hidp (WK.two h (.cells #[.int .i64 t, .int .i64 q, .int .i64 s] 23) 122 #[.pointer (some ⟨b, 0, none⟩), .int .i64 t, .int .i64 q, .int .i64 s, .int .i64 hd, .int .i64 (k : Int)])
 obtain ⟨x0, x1, x2, x3, x4, x5⟩ := W0.out.held.six'
 have HK := hidp hk
 obtain ⟨x, hx⟩ : ∃ x, pullN n K t q s k st = x := ⟨_, rfl⟩
 obtain ⟨y, hy⟩ : ∃ y, pullB n K t q s k st = y := ⟨_, rfl⟩
 have hx32 : x < 2 ^ 32 := by rw [<- hx]; exact vAt_lt h _
 have HX : Hid (getV n K st (pageI t q s (k : Int) 2) = x) := hidp hx
 have HY : Hid (getV n K (getS n K st (pageI t q s (k : Int) 2)) (pageI t q s (k : Int) 3) = y) := hidp hy
 have H0 : Hid (pull0 n K t q s k st = getS n K (getS n K st (pageI t q s (k : Int) 2)) (pageI t q s (k : Int) 3)) := hidp rfl
 have HA : Hid (y = 0 -> pull1 n K t q s hd k st = putS n (pull0 n K t q s k st) hd x) := hidp (fun e => by unfold pull1; rw [if_pos (hy.trans e), hx])
 have HB : Hid (y ≠ 0 -> pull1 n K t q s hd k st = putS n (pull0 n K t q s k st) (pageI t q s ((y : Int) - 1) 2) x) := hidp (fun e => by unfold pull1; rw [if_neg (by rw [hy]; exact e), hx, hy])
 have HC : Hid (x = 0 -> pull2 n K t q s hd k st = pull1 n K t q s hd k st) := hidp (fun e => by unfold pull2; rw [if_pos (hx.trans e)])
 have HD : Hid (x ≠ 0 -> pull2 n K t q s hd k st = putS n (pull1 n K t q s hd k st) (pageI t q s ((x : Int) - 1) 3) y) := hidp (fun e => by unfold pull2; rw [if_neg (by rw [hx]; exact e), hx, hy])
 have HE : Hid (pullS n K t q s hd k st = putS n (putS n (pull2 n K t q s hd k st) (pageI t q s (k : Int) 2) 0) (pageI t q s (k : Int) 3) 0) := hidp rfl
 clear hx hy
 clear h hk
 go_enter Tryz.func36, Tryz.ntmps36
 go_wp2_with fail
 refine (lkIs_c b t q s hd k _).mono ?_; rintro e w1 ⟨rfl, hb⟩; have W1 := hidp (W0.out.keep hb); clear hb W0; rw [HK.out]
 obtain ⟨x0, x1, x2, x3, x4, x5⟩ := W1.out.held.six'
 go_wp2_with fail
 refine wp_region_held_drew (S := (fun w' => w'.cell? ⟨w.heap.size + 1, 0, none⟩ = some (.pointer (some ⟨b, 0, none⟩)) /\ w'.cell? ⟨w.heap.size + 1, 1, none⟩ = some (.int .i64 t) /\ w'.cell? ⟨w.heap.size + 1, 2, none⟩ = some (.int .i64 q) /\ w'.cell? ⟨w.heap.size + 1, 3, none⟩ = some (.int .i64 s) /\ w'.cell? ⟨w.heap.size + 1, 4, none⟩ = some (.int .i64 hd) /\ w'.cell? ⟨w.heap.size + 1, 5, none⟩ = some (.int .i64 (k : Int)))) (by kernel_rfl) ?_ (fun hHeld => ?_)
 ·(try dsimp only)
  first | exact W1.out.drew.held.six' | exact W2.out.held.six' | exact W3.out.held.six' | exact hHeld
 refine tkz 0 ?_
 refine tkz 2 ?_
 refine rdz 1 fun K hK => ?_
 go_simp
 refine (lkNext_c hn W1.out.drew.at_).mono ?_; rintro e w2 ⟨rfl, h1, h2⟩; have W2 := hidp (W1.out.drew.call h1 h2); have HZ := W2; clear h1 h2 W1; rw [HX.out]
 refine hK.out _ _ ?_ (fun hHeld => ?_)
 ·(try dsimp only)
  first | exact W1.out.drew.held.six' | exact W2.out.held.six' | exact W3.out.held.six' | exact hHeld
 clear hK K
 (try simp only [Act.put, gA, gB, gC, sA, sB, sC])
 refine rdz 3 fun K hK => ?_
 go_simp
 refine (lkPrev_c hn W2.out.at_).mono ?_; rintro e w3 ⟨rfl, h1, h2⟩; have W3 := hidp (W2.out.call h1 h2); clear h1 h2 W2; have hy32 : y < 2 ^ 32 := by { rw [<- HY.out]; exact vAt_lt HZ.out.at_ _ }; clear HZ; rw [HY.out]
 refine hK.out _ _ ?_ (fun hHeld => ?_)
 ·(try dsimp only)
  first | exact W1.out.drew.held.six' | exact W2.out.held.six' | exact W3.out.held.six' | exact hHeld
 clear hK K
 (try simp only [Act.put, gA, gB, gC, sA, sB, sC])
 refine tkz 4 ?_
 refine tkz 5 ?_
 refine dnz ?_
 obtain ⟨x0, x1, x2, x3, x4, x5⟩ := W3.out.held.six'
 rw [<- H0.out] at W3
 clear HX HY H0 HK
 by_cases hyz : y = 0
 ·have HM := hidp (HA.out hyz)
  subst hyz
  go_wp2_with fail
  refine (lkSetFirst_c hn x hx32 W3.out.at_).mono ?_; rintro e w4 ⟨rfl, h1, h2⟩; have W4 := hidp (W3.out.call h1 h2); clear h1 h2 W3
  obtain ⟨x0, x1, x2, x3, x4, x5⟩ := W4.out.held.six'
  rw [<- HM.out] at W4
  clear HA HB HM
  by_cases hxz : x = 0
  ·have HN := hidp (HC.out hxz)
   subst hxz
   clear HC HD
   go_wp2_with fail
   refine (lkSetNext_c hn 0 (by omega) W4.out.at_).mono ?_; rintro e w5 ⟨rfl, h1, h2⟩; have W5 := hidp (W4.out.call h1 h2); clear h1 h2 W4
   obtain ⟨x0, x1, x2, x3, x4, x5⟩ := W5.out.held.six'
   go_wp2_with fail
   refine (lkSetPrev_c hn 0 (by omega) W5.out.at_).mono ?_; rintro e w6 ⟨rfl, h1, h2⟩; have W6 := hidp (W5.out.call h1 h2); clear h1 h2 W5
   obtain ⟨x0, x1, x2, x3, x4, x5⟩ := W6.out.held.six'
   go_wp2
   go_end0
   exact ⟨rfl, by rw [HE.out, HN.out]; exact W6.out.fin⟩
  ·have HN := hidp (HD.out hxz)
   have t3 : ((x : Int) == 0) = false := by simp; omega
   have t4 : ((x : Int) != 0) = true := by simp; omega
   clear HC HD
   go_wp2_with fail
   refine (lkTo_c b t q s hd x hx32 _).mono ?_; rintro e w5 ⟨rfl, hb⟩; have W5 := hidp (W4.out.keep hb); clear hb W4
   obtain ⟨x0, x1, x2, x3, x4, x5⟩ := W5.out.held.six'
   go_wp2_with fail
   refine (lkSetPrev_c hn 0 (by omega) W5.out.at_).mono ?_; rintro e w6 ⟨rfl, h1, h2⟩; have W6 := hidp (W5.out.call h1 h2); clear h1 h2 W5
   obtain ⟨x0, x1, x2, x3, x4, x5⟩ := W6.out.held.six'
   go_wp2_with fail
   refine (lkSetNext_c hn 0 (by omega) W6.out.at_).mono ?_; rintro e w7 ⟨rfl, h1, h2⟩; have W7 := hidp (W6.out.call h1 h2); clear h1 h2 W6
   obtain ⟨x0, x1, x2, x3, x4, x5⟩ := W7.out.held.six'
   go_wp2_with fail
   refine (lkSetPrev_c hn 0 (by omega) W7.out.at_).mono ?_; rintro e w8 ⟨rfl, h1, h2⟩; have W8 := hidp (W7.out.call h1 h2); clear h1 h2 W7
   obtain ⟨x0, x1, x2, x3, x4, x5⟩ := W8.out.held.six'
   go_wp2
   go_end0
   exact ⟨rfl, by rw [HE.out, HN.out]; exact W8.out.fin⟩
 ·have HM := hidp (HB.out hyz)
  have t1 : ((y : Int) == 0) = false := by simp; omega
  have t2 : ((y : Int) != 0) = true := by simp; omega
  go_wp2_with fail
  refine (lkTo_c b t q s hd y hy32 _).mono ?_; rintro e w4 ⟨rfl, hb⟩; have W4 := hidp (W3.out.keep hb); clear hb W3
  obtain ⟨x0, x1, x2, x3, x4, x5⟩ := W4.out.held.six'
  go_wp2_with fail
  refine (lkSetNext_c hn x hx32 W4.out.at_).mono ?_; rintro e w5 ⟨rfl, h1, h2⟩; have W5 := hidp (W4.out.call h1 h2); clear h1 h2 W4
  obtain ⟨x0, x1, x2, x3, x4, x5⟩ := W5.out.held.six'
  rw [<- HM.out] at W5
  clear HA HB HM
  by_cases hxz : x = 0
  ·have HN := hidp (HC.out hxz)
   subst hxz
   clear HC HD
   go_wp2_with fail
   refine (lkSetNext_c hn 0 (by omega) W5.out.at_).mono ?_; rintro e w6 ⟨rfl, h1, h2⟩; have W6 := hidp (W5.out.call h1 h2); clear h1 h2 W5
   obtain ⟨x0, x1, x2, x3, x4, x5⟩ := W6.out.held.six'
   go_wp2_with fail
   refine (lkSetPrev_c hn 0 (by omega) W6.out.at_).mono ?_; rintro e w7 ⟨rfl, h1, h2⟩; have W7 := hidp (W6.out.call h1 h2); clear h1 h2 W6
   obtain ⟨x0, x1, x2, x3, x4, x5⟩ := W7.out.held.six'
   go_wp2
   go_end0
   exact ⟨rfl, by rw [HE.out, HN.out]; exact W7.out.fin⟩
  ·have HN := hidp (HD.out hxz)
   have t3 : ((x : Int) == 0) = false := by simp; omega
   have t4 : ((x : Int) != 0) = true := by simp; omega
   clear HC HD
   go_wp2_with fail
   refine (lkTo_c b t q s hd x hx32 _).mono ?_; rintro e w6 ⟨rfl, hb⟩; have W6 := hidp (W5.out.keep hb); clear hb W5
   obtain ⟨x0, x1, x2, x3, x4, x5⟩ := W6.out.held.six'
   go_wp2_with fail
   refine (lkSetPrev_c hn y hy32 W6.out.at_).mono ?_; rintro e w7 ⟨rfl, h1, h2⟩; have W7 := hidp (W6.out.call h1 h2); clear h1 h2 W6
   obtain ⟨x0, x1, x2, x3, x4, x5⟩ := W7.out.held.six'
   go_wp2_with fail
   refine (lkSetNext_c hn 0 (by omega) W7.out.at_).mono ?_; rintro e w8 ⟨rfl, h1, h2⟩; have W8 := hidp (W7.out.call h1 h2); clear h1 h2 W7
   obtain ⟨x0, x1, x2, x3, x4, x5⟩ := W8.out.held.six'
   go_wp2_with fail
   refine (lkSetPrev_c hn 0 (by omega) W8.out.at_).mono ?_; rintro e w9 ⟨rfl, h1, h2⟩; have W9 := hidp (W8.out.call h1 h2); clear h1 h2 W8
   obtain ⟨x0, x1, x2, x3, x4, x5⟩ := W9.out.held.six'
   go_wp2
   go_end0
   exact ⟨rfl, by rw [HE.out, HN.out]; exact W9.out.fin⟩
theorem lkPull_c (hn : n < 2 ^ 40) (hq : q <= 2 ^ 31) (p : Int) (h : (vOb base b n wh K).At w0 A G st w) :
  Calls Tryz.prog 36 #[.pointer (some ⟨b, 0, none⟩), .agg #[.int .i64 t, .int .i64 q, .int .i64 s], .int .i64 hd, .int .i64 p] w fun e w' => e = .returned (.tuple #[]) /\ (vOb base b n wh K).At w0 A G (pullI n K t q s hd p st) w' /\ Stay G w w' := by
 cases hp : pgB q p with
 | false => rw [(pgB_none hp).2]; exact lkPull_no hn p hp h
 | true =>
  have h1 := (pgB_iff _ _).1 hp
  obtain ⟨k, rfl⟩ := Int.eq_ofNat_of_zero_le h1.1
  rw [(pgB_nat hp).2]
  exact lkPull_yes hn k hp (by omega) h

end
end
end Go.Proofs.YtnmhdlpnimdffaaGreatDoor

namespace Go.Proofs.YtnmhdlpnimdffaaGreatDoor
open Go.ChangeShapes Go.WideShapes Go.ChangeAt Go.RowKit
set_option linter.unusedVariables false
set_option linter.unusedSimpArgs false
section
theorem w64 {x : Int} (h : -9223372036854775808 <= x) (h' : x <= 9223372036854775807) : IntKind.i64.wrap x = x := by
 simp only [IntKind.wrap, IntKind.bits, IntKind.signed]; simp; omega

theorem r7Bin_c (k : Int) (w : World) :
  Calls Tryz.prog 113 #[.int .i64 k] w fun z w' => z = .returned (.int .i64 (nthI 2 11 1 k)) /\ w = w' := by
 by_cases c0 : k < 0
 ·have HN := hidp (nth_off (f := 2) (n := 11) (e := 1) (.inr (.inl c0)))
  go_enter Tryz.func113, Tryz.ntmps113
  go_wp2
  go_ret
  exact ⟨by rw [HN.out]; rfl, rfl⟩
 ·by_cases c1 : 11 <= k
  ·have HN := hidp (nth_off (f := 2) (n := 11) (e := 1) (.inr (.inr c1)))
   go_enter Tryz.func113, Tryz.ntmps113
   go_wp2
   go_ret
   exact ⟨by rw [HN.out]; rfl, rfl⟩
  ·have HN := hidp (show nthI 2 11 1 k = 2 + k by rw [nth_on (by omega) (by omega) (by omega)]; omega)
   go_enter Tryz.func113, Tryz.ntmps113
   go_wp2
   go_ret
   exact ⟨by rw [HN.out]; rfl, rfl⟩

theorem r7Rack_c (k : Int) (w : World) :
  Calls Tryz.prog 46 #[.int .i64 k] w fun z w' => z = .returned (.int .i64 (nthI 13 9 1 k)) /\ w = w' := by
 by_cases c0 : k < 0
 ·have HN := hidp (nth_off (f := 13) (n := 9) (e := 1) (.inr (.inl c0)))
  go_enter Tryz.func46, Tryz.ntmps46
  go_wp2
  go_ret
  exact ⟨by rw [HN.out]; rfl, rfl⟩
 ·by_cases c1 : 9 <= k
  ·have HN := hidp (nth_off (f := 13) (n := 9) (e := 1) (.inr (.inr c1)))
   go_enter Tryz.func46, Tryz.ntmps46
   go_wp2
   go_ret
   exact ⟨by rw [HN.out]; rfl, rfl⟩
  ·have HN := hidp (show nthI 13 9 1 k = 13 + k by rw [nth_on (by omega) (by omega) (by omega)]; omega)
   go_enter Tryz.func46, Tryz.ntmps46
   go_wp2
   go_ret
   exact ⟨by rw [HN.out]; rfl, rfl⟩

theorem r7Root_c (k : Int) (w : World) :
  Calls Tryz.prog 56 #[.int .i64 k] w fun z w' => z = .returned (.int .i64 (nthI 22 8 1 k)) /\ w = w' := by
 by_cases c0 : k < 0
 ·have HN := hidp (nth_off (f := 22) (n := 8) (e := 1) (.inr (.inl c0)))
  go_enter Tryz.func56, Tryz.ntmps56
  go_wp2
  go_ret
  exact ⟨by rw [HN.out]; rfl, rfl⟩
 ·by_cases c1 : 8 <= k
  ·have HN := hidp (nth_off (f := 22) (n := 8) (e := 1) (.inr (.inr c1)))
   go_enter Tryz.func56, Tryz.ntmps56
   go_wp2
   go_ret
   exact ⟨by rw [HN.out]; rfl, rfl⟩
  ·have HN := hidp (show nthI 22 8 1 k = 22 + k by rw [nth_on (by omega) (by omega) (by omega)]; omega)
   go_enter Tryz.func56, Tryz.ntmps56
   go_wp2
   go_ret
   exact ⟨by rw [HN.out]; rfl, rfl⟩

theorem r7Cells_c (t p s : Int) (w : World) :
  Calls Tryz.prog 62 #[.agg #[.int .i64 t, .int .i64 p, .int .i64 s]] w fun z w' => z = .returned (.int .i64 (lC t p s)) /\ Below w.heap.size w w' := by
 have hc := Held.new w 23 #[.int .i64 t, .int .i64 p, .int .i64 s]
 cases hr : rightB t p s
 ·have HR := hidp hr
  have HN := hidp (lay_no hr).hC
  clear hr
  go_enter Tryz.func62, Tryz.ntmps62
  go_wp2_with fail
  refine (r4Right_c t p s _).mono ?_
  rintro e w1 ⟨rfl, hb1⟩
  rw [HR.out]
  have hc1 := hc.keep hb1
  obtain ⟨x0, x1, x2⟩ := hc1.three
  go_wp2
  go_ret
  exact ⟨by rw [HN.out]; rfl, Bgo (Bnew (B0 _) _) hb1⟩
 ·have HR := hidp hr
  have HN := hidp (lay_yes hr).hC
  have hn := (rightB_iff t p s).1 hr
  have t0 : 1 <= t := by omega
  have t1 : t <= 16 := by omega
  have p0 : 4 <= p := by omega
  have p1 : p <= 1024 := by omega
  clear hn
  clear hr
  go_enter Tryz.func62, Tryz.ntmps62
  go_wp2_with fail
  refine (r4Right_c t p s _).mono ?_
  rintro e w1 ⟨rfl, hb1⟩
  rw [HR.out]
  have hc1 := hc.keep hb1
  obtain ⟨x0, x1, x2⟩ := hc1.three
  go_wp2
  go_ret
  exact ⟨by rw [HN.out]; rfl, Bgo (Bnew (B0 _) _) hb1⟩

set_option maxHeartbeats 1600000 in
theorem r7Page_c (t p s q b : Int) (b0 : 0 <= b) (b1 : b < 6) (w : World) :
  Calls Tryz.prog 95 #[.agg #[.int .i64 t, .int .i64 p, .int .i64 s], .int .i64 q, .int .i64 b] w fun z w' => z = .returned (.int .i64 (pageI t p s q b)) /\ Below w.heap.size w w' := by
 have hc := Held.new w 23 #[.int .i64 t, .int .i64 p, .int .i64 s]
 cases hr : rightB t p s
 ·have HR := hidp hr
  have HN := hidp (show pageI t p s q b = -1 from pcell_no (by intro h; rw [h.1] at hr; cases hr))
  clear hr
  go_enter Tryz.func95, Tryz.ntmps95
  go_wp2_with fail
  refine (r4Right_c t p s _).mono ?_
  rintro e w1 ⟨rfl, hb1⟩
  rw [HR.out]
  have hc1 := hc.keep hb1
  obtain ⟨x0, x1, x2⟩ := hc1.three
  go_wp2
  go_ret
  refine ⟨by rw [HN.out]; rfl, ?_⟩
  all_goals exact blz
 ·have HR := hidp hr
  have hn := (rightB_iff t p s).1 hr
  have t0 : 1 <= t := by omega
  have t1 : t <= 16 := by omega
  have p0 : 4 <= p := by omega
  have p1 : p <= 1024 := by omega
  clear hn
  by_cases c0 : q < 0
  ·clear hr
   have HN := hidp (show pageI t p s q b = -1 from pcell_no (by intro h; omega))
   go_enter Tryz.func95, Tryz.ntmps95
   go_wp2_with fail
   refine (r4Right_c t p s _).mono ?_
   rintro e w1 ⟨rfl, hb1⟩
   rw [HR.out]
   have hc1 := hc.keep hb1
   obtain ⟨x0, x1, x2⟩ := hc1.three
   go_wp2
   go_ret
   refine ⟨by rw [HN.out]; rfl, ?_⟩
   all_goals exact blz
  ·skip
   by_cases c1 : p <= q
   ·clear hr
    have HN := hidp (show pageI t p s q b = -1 from pcell_no (by intro h; omega))
    go_enter Tryz.func95, Tryz.ntmps95
    go_wp2_with fail
    refine (r4Right_c t p s _).mono ?_
    rintro e w1 ⟨rfl, hb1⟩
    rw [HR.out]
    have hc1 := hc.keep hb1
    obtain ⟨x0, x1, x2⟩ := hc1.three
    go_wp2
    go_ret
    refine ⟨by rw [HN.out]; rfl, ?_⟩
    all_goals exact blz
   ·skip
    have HN := hidp (show pageI t p s q b = 30 + 4 * t + 6 * q + b from pcell_yes hr (by omega) (by omega) b0 b1)
    clear hr
    go_enter Tryz.func95, Tryz.ntmps95
    go_wp2_with fail
    refine (r4Right_c t p s _).mono ?_
    rintro e w1 ⟨rfl, hb1⟩
    rw [HR.out]
    have hc1 := hc.keep hb1
    obtain ⟨x0, x1, x2⟩ := hc1.three
    go_wp2
    go_ret
    refine ⟨by rw [HN.out]; rfl, ?_⟩
    all_goals exact blz

theorem r7Info_c (t p s q : Int) (w : World) :
  Calls Tryz.prog 93 #[.agg #[.int .i64 t, .int .i64 p, .int .i64 s], .int .i64 q] w fun z w' => z = .returned (.int .i64 (pageI t p s q 0)) /\ Below w.heap.size w w' := by
 go_enter Tryz.func93, Tryz.ntmps93
 go_wp2_with fail
 refine (r7Page_c t p s q 0 (by omega) (by omega) _).mono ?_
 rintro e w1 ⟨rfl, hb1⟩
 go_wp2
 go_ret
 exact ⟨by first | rfl | trivial, Bgo (Bnew (B0 _) _) hb1⟩

theorem r7Foot_c (t p s q : Int) (w : World) :
  Calls Tryz.prog 100 #[.agg #[.int .i64 t, .int .i64 p, .int .i64 s], .int .i64 q] w fun z w' => z = .returned (.int .i64 (pageI t p s q 1)) /\ Below w.heap.size w w' := by
 go_enter Tryz.func100, Tryz.ntmps100
 go_wp2_with fail
 refine (r7Page_c t p s q 1 (by omega) (by omega) _).mono ?_
 rintro e w1 ⟨rfl, hb1⟩
 go_wp2
 go_ret
 exact ⟨by first | rfl | trivial, Bgo (Bnew (B0 _) _) hb1⟩

theorem r7Next_c (t p s q : Int) (w : World) :
  Calls Tryz.prog 98 #[.agg #[.int .i64 t, .int .i64 p, .int .i64 s], .int .i64 q] w fun z w' => z = .returned (.int .i64 (pageI t p s q 2)) /\ Below w.heap.size w w' := by
 go_enter Tryz.func98, Tryz.ntmps98
 go_wp2_with fail
 refine (r7Page_c t p s q 2 (by omega) (by omega) _).mono ?_
 rintro e w1 ⟨rfl, hb1⟩
 go_wp2
 go_ret
 exact ⟨by first | rfl | trivial, Bgo (Bnew (B0 _) _) hb1⟩

theorem r7Prev_c (t p s q : Int) (w : World) :
  Calls Tryz.prog 99 #[.agg #[.int .i64 t, .int .i64 p, .int .i64 s], .int .i64 q] w fun z w' => z = .returned (.int .i64 (pageI t p s q 3)) /\ Below w.heap.size w w' := by
 go_enter Tryz.func99, Tryz.ntmps99
 go_wp2_with fail
 refine (r7Page_c t p s q 3 (by omega) (by omega) _).mono ?_
 rintro e w1 ⟨rfl, hb1⟩
 go_wp2
 go_ret
 exact ⟨by first | rfl | trivial, Bgo (Bnew (B0 _) _) hb1⟩

theorem r7Slots_c (t p s q : Int) (w : World) :
  Calls Tryz.prog 41 #[.agg #[.int .i64 t, .int .i64 p, .int .i64 s], .int .i64 q] w fun z w' => z = .returned (.int .i64 (pageI t p s q 4)) /\ Below w.heap.size w w' := by
 go_enter Tryz.func41, Tryz.ntmps41
 go_wp2_with fail
 refine (r7Page_c t p s q 4 (by omega) (by omega) _).mono ?_
 rintro e w1 ⟨rfl, hb1⟩
 go_wp2
 go_ret
 exact ⟨by first | rfl | trivial, Bgo (Bnew (B0 _) _) hb1⟩

theorem r7Taken_c (t p s q : Int) (w : World) :
  Calls Tryz.prog 42 #[.agg #[.int .i64 t, .int .i64 p, .int .i64 s], .int .i64 q] w fun z w' => z = .returned (.int .i64 (pageI t p s q 5)) /\ Below w.heap.size w w' := by
 go_enter Tryz.func42, Tryz.ntmps42
 go_wp2_with fail
 refine (r7Page_c t p s q 5 (by omega) (by omega) _).mono ?_
 rintro e w1 ⟨rfl, hb1⟩
 go_wp2
 go_ret
 exact ⟨by first | rfl | trivial, Bgo (Bnew (B0 _) _) hb1⟩
end
end Go.Proofs.YtnmhdlpnimdffaaGreatDoor

namespace Go.Proofs.YtnmhdlpnimdffaaGreatDoor
open Go.ChangeShapes Go.WideShapes Go.ChangeAt Go.RowKit Go.Maps
set_option linter.unusedVariables false
set_option linter.unusedSimpArgs false
set_option maxRecDepth 100000
section
theorem ofI_log {n : Int} (h : n <= 1024) : HM.logI n = ofI n := by
 unfold ofI
 by_cases h1 : n < 1
 ·rw [if_pos (.inl h1), HM.logI_no n h1]
 ·rw [if_neg (by omega)]
theorem ofI_high {n : Int} (h : 1024 < n) : ofI n = -1 := by unfold ofI; rw [if_pos (.inr h)]
theorem addS_no {n : Nat} {K : Nat -> Option Nat} {t q s p nn : Int} {st : Vst} (h : ¬ (pgB q p = true /\ 1 <= nn /\ nn <= q - p)) : addS n K t q s p nn st = st := by unfold addS; rw [if_neg h]
theorem addS_yes {n : Nat} {K : Nat -> Option Nat} {t q s : Int} {k m : Nat} {st : Vst} (h : pgB q (k : Int) = true /\ 1 <= (m : Int) /\ (m : Int) <= q - (k : Int)) :
  addS n K t q s (k : Int) (m : Int) st = pushI n K t q s (binH (m : Int)) (k : Int) (putS n (putS n st (pageI t q s (k : Int) 0) (infoV 1 (m : Int) 0)) (pageI t q s ((k : Int) + (m : Int) - 1) 1) (k + 1)) := by
 unfold addS
 rw [if_pos h, Int.toNat_natCast]
theorem infoG_len {v : Nat} {l c : Int} {ok : Bool} (h : infoG v = (1, l, c, ok)) : 0 <= l /\ l <= 1024 := by
 cases hb : infoB (v % 16 : Nat) (v / 16 % 4096 : Nat) (v / 65536 : Nat)
 ·rw [infoG_no hb] at h
  injection h with h _
  omega
 ·rw [infoG_yes hb] at h
  have h1 := infoB_iff hb
  injection h with h2 h
  injection h with h3 _
  unfold infoP at h1
  omega

theorem bnOf_c (n : Int) (h0 : -9223372036854775808 <= n) (h1 : n <= 9223372036854775807) (w : World) :
  Calls Tryz.prog 150 #[.int .i64 n] w fun e w' => e = .returned (.int .i64 (ofI n)) /\ w = w' := by
 by_cases h : 1024 < n
 ·have t0 : decide ((1024 : Int) < n) = true := decide_eq_true h
  have HO := hidp (ofI_high h)
  go_enter Tryz.func150, Tryz.ntmps150
  go_wp2
  go_ret
  exact ⟨by rw [HO.out]; rfl, rfl⟩
 ·have t0 : decide ((1024 : Int) < n) = false := decide_eq_false h
  have HO : Hid (HM.logI n = ofI n) := hidp (ofI_log (by omega))
  go_enter Tryz.func150, Tryz.ntmps150
  go_wp2_with fail
  refine (Log_c n h0 h1 _).mono ?_
  rintro e w1 ⟨rfl, rfl⟩
  rw [HO.out]
  go_wp2
  go_ret
  exact ⟨rfl, rfl⟩
theorem bnIsPage_c (t q s p : Int) (w : World) :
  Calls Tryz.prog 147 #[.agg #[.int .i64 t, .int .i64 q, .int .i64 s], .int .i64 p] w fun e w' => e = .returned (.bool (pgB q p)) /\ Below w.heap.size w w' := by
 have hB := Bnew (B0 w) (.cells #[.int .i64 t, .int .i64 q, .int .i64 s] 23)
 obtain ⟨x0, x1, x2⟩ := (Held.new w 23 #[.int .i64 t, .int .i64 q, .int .i64 s]).three
 unfold pgB
 by_cases h0 : 0 <= p
 ·have t0 : decide ((0 : Int) <= p) = true := decide_eq_true h0
  obtain ⟨c, t1⟩ : ∃ c, decide (p < q) = c := ⟨_, rfl⟩
  rw [t0, t1]
  cases c with
  | true =>
   go_enter Tryz.func147, Tryz.ntmps147
   go_wp2
   go_ret
   exact ⟨rfl, hB⟩
  | false =>
   go_enter Tryz.func147, Tryz.ntmps147
   go_wp2
   go_ret
   exact ⟨rfl, hB⟩
 ·have t0 : decide ((0 : Int) <= p) = false := decide_eq_false h0
  rw [t0]
  go_enter Tryz.func147, Tryz.ntmps147
  go_wp2
  go_ret
  exact ⟨rfl, hB⟩

section
variable {base b n : Nat} {wh all : Bool} {K : Nat -> Option Nat} {st : Vst} {w w0 : World} {A G : Nat -> Prop} {t q s : Int}
set_option maxHeartbeats 1600000 in
theorem bnBegins_c (hn : n < 2 ^ 40) (p k l c : Int) (ok : Bool) (hI : infoOf n K t q s p st = (k, l, c, ok)) (h : (vOb base b n wh K).At w0 A G st w) :
  Calls Tryz.prog 148 #[.pointer (some ⟨b, 0, none⟩), .agg #[.int .i64 t, .int .i64 q, .int .i64 s], .int .i64 p] w fun e w' => e = .returned (.agg #[.int .i64 k, .int .i64 l, .int .i64 c]) /\ (vOb base b n wh K).At w0 A G (getS n K st (pageI t q s p 0)) w' /\ Stay G w w' := by
 have W0 := hidp (((WL.start h).new 23 #[.int .i64 t, .int .i64 q, .int .i64 s]).new 68 #[.int .i64 0, .int .i64 0, .int .i64 0])
 rw [World.size_alloc] at W0
 obtain ⟨x0, x1, x2⟩ := W0.out.h1.three
 obtain ⟨v, hv⟩ : ∃ v, getV n K st (pageI t q s p 0) = v := ⟨_, rfl⟩
 have hv32 : v < 2 ^ 32 := by rw [<- hv]; exact vAt_lt h _
 have HI : Hid (infoG v = (k, l, c, ok)) := hidp (by rw [<- hv]; exact hI)
 have HV := hidp hv
 clear h hI hv
 go_enter Tryz.func148, Tryz.ntmps148
 go_wp2_with fail
 refine (plInfo_c t q s p _).mono ?_; rintro e w1 ⟨rfl, hb⟩; have W1 := hidp (W0.out.keep hb); clear hb W0
 go_wp2_with fail
 refine (vGetA hn _ W1.out.at_).mono ?_; rintro e w2 ⟨rfl, h1, h2⟩; have W2 := hidp (W1.out.call h1 h2); clear h1 h2 W1; rw [HV.out]
 go_wp2_with fail
 refine (inGet_c v k l c ok hv32 HI.out _).mono ?_; rintro e w3 ⟨rfl, hb⟩; have W3 := hidp (W2.out.keep hb); clear hb W2
 have W4 := hidp (((((W3.out.alloc (.cells #[.int .i64 k, .int .i64 l, .int .i64 c] 68)).put 0 (.int .i64 k)).put 1 (.int .i64 l)).put 2 (.int .i64 c)))
 obtain ⟨y0, y1, y2⟩ := (Held.new w3 68 #[.int .i64 k, .int .i64 l, .int .i64 c]).three
 have hfz := (W3.out.alloc (.cells #[.int .i64 k, .int .i64 l, .int .i64 c] 68)).h0.thawed
 obtain ⟨z0, z1, z2⟩ := (W3.out.alloc (.cells #[.int .i64 k, .int .i64 l, .int .i64 c] 68)).h0.three
 obtain ⟨r0, r1, r2⟩ := W4.out.h0.three
 go_wp2
 refine bodyPost_ret (v := .agg #[.int .i64 k, .int .i64 l, .int .i64 c]) (by simp [results, Tryz.results148, go_sem, r0, r1, r2]) rfl ⟨rfl, ?_⟩
 exact W4.out.fin
end
end
end Go.Proofs.YtnmhdlpnimdffaaGreatDoor
