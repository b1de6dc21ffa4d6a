/-
  Releasing, shrinking and growing used spans of a heap. No program is named here but for the Views'.
-/
import Derived.Test.YtnmhdlpnimdffaaGreatDoorA06
import Derived.Test.YtnmhdlpnimdffaaGreatDoorA05
import Derived.Test.YtnmhdlpnimdffaaGreatDoorAKit
import Derived.Test.YtnmhdlpnimdffaaGreatDoorA04
namespace Go.Proofs.YtnmhdlpnimdffaaGreatDoor
open Go.ChangeShapes Go.WideShapes Go.ChangeAt Go.RowKit Go.Maps
set_option linter.unusedVariables false
set_option linter.unusedSimpArgs false
section
section
variable {H : AuH} {n c : Nat} {K : Nat -> Option Nat} {st : Vst} {L : Nat -> List Nat} {g : Nat -> Nat}
theorem span_ahead (h : H.Ok L) {p : Nat} (hp : p < H.p) (hk : H.K p ≠ 0) (h0 : 0 < p) :
  ∃ a, a < p /\ H.K a ≠ 0 /\ H.nx a = p /\ H.cel (p - 1) 1 = a + 1 /\ ∀ q, q < p -> H.K q ≠ 0 -> H.nx q = p -> q = a := by
 have ha := h.spans.reach p p (Nat.le_refl _) (by omega) (.inr hk)
 generalize hx : p = x at ha
 cases ha with
 | zero => omega
 | step ha hc =>
  rename_i a
  obtain ⟨a1, a2, a3⟩ := (H.can_iff a).1 hc
  have hl := H.ln_pos a (by rcases H.K_cases a with h1 | h1 | h1 <;> omega)
  have hnx : H.nx a = a + H.ln a := rfl
  have hap : a < p := by omega
  obtain ⟨_, f2⟩ := h.feet a a1 a2
  refine ⟨a, by omega, a2, hx ▸ rfl, ?_, fun q hq hkq hn => ?_⟩
  ·rw [<- f2]; rfl
  ·rcases Nat.lt_trichotomy q a with h1 | h1 | h1
   ·have := h.spans.ahead a2 h1 (by omega) hkq
    omega
   ·exact h1
   ·have := h.spans.ahead hkq h1 (by omega) a2
    omega
theorem any_info (p : Nat) : ∃ ll cc ok, infoG (H.cel p 0) = (H.K p, ll, cc, ok) := ⟨_, _, _, H.info_eq p⟩
theorem left_of_span (h : H.Ok L) {p : Nat} (hp : p < H.p) (hk : H.K p ≠ 0) (hk1 : H.K p ≠ 1) :
  ∃ A la, A + la = p /\ (la = 0 -> p = 0 \/ ∃ f kk ll cc ok, f < H.p /\ H.V (pc H.t (p - 1) 1) = f + 1 /\ infoG (H.V (pc H.t f 0)) = (kk, ll, cc, ok) /\ kk ≠ 1) /\
   (0 < la -> H.V (pc H.t (p - 1) 1) = A + 1 /\ infoG (H.V (pc H.t A 0)) = (1, (la : Int), 0, true) /\ ∃ k : Nat, ofI (la : Int) = (k : Int) /\ k <= 10 /\ A ∈ L (2 + k)) /\
   (0 < la -> H.K A = 1 /\ H.ln A = la) /\ (∀ q, q < A -> H.K q = 1 -> H.nx q ≠ A) := by
 rcases Nat.eq_zero_or_pos p with h0 | h0
 ·exact ⟨p, 0, rfl, fun _ => .inl h0, fun h => by omega, fun h => by omega, fun q hq => by omega⟩
 ·obtain ⟨a, ha, hka, hna, hfa, huq⟩ := span_ahead h hp hk h0
  by_cases hf : H.K a = 1
  ·obtain ⟨_, h1, h2, _⟩ := span_at h (p := a) (by omega) (by omega) (by omega)
   have hnx : H.nx a = a + H.ln a := rfl
   refine ⟨a, H.ln a, by omega, fun h => by omega, fun _ => ⟨hfa, free_info hf, free_list h (by omega) hf⟩, fun _ => ⟨hf, rfl⟩, fun q hq hkq hn => ?_⟩
   have := h.apart q (by omega) hkq (by omega)
   rw [hn] at this
   exact this hf
  ·obtain ⟨ll, cc, ok, hi⟩ := any_info (H := H) a
   refine ⟨p, 0, rfl, fun _ => .inr ⟨a, H.K a, ll, cc, ok, by omega, hfa, hi, hf⟩, fun h => by omega, fun h => by omega, fun q hq hkq hn => ?_⟩
   have := huq q hq (by omega) hn
   subst this
   exact hf hkq
theorem right_of_span (h : H.Ok L) {r : Nat} (hk : r < H.p -> H.K r ≠ 0) (hr : r <= H.p) :
  ∃ lr, r + lr <= H.p /\ (lr = 0 -> r < H.p -> ∃ kk ll cc ok, infoG (H.V (pc H.t r 0)) = (kk, ll, cc, ok) /\ kk ≠ 1) /\
   (0 < lr -> r < H.p /\ infoG (H.V (pc H.t r 0)) = (1, (lr : Int), 0, true) /\ ∃ k : Nat, ofI (lr : Int) = (k : Int) /\ k <= 10 /\ r ∈ L (2 + k)) /\
   (0 < lr -> H.K r = 1 /\ H.ln r = lr) /\ (lr = 0 -> r < H.p -> H.K r ≠ 1) /\ (r + lr < H.p -> H.K (r + lr) ≠ 0 /\ H.K (r + lr) ≠ 1) := by
 by_cases hrp : r < H.p
 ·by_cases hf : H.K r = 1
  ·obtain ⟨hnx, h1, h2, h3, _⟩ := span_at h hrp (by omega) (by omega)
   refine ⟨H.ln r, h2, fun h => by omega, fun _ => ⟨hrp, free_info hf, free_list h hrp hf⟩, fun _ => ⟨hf, rfl⟩, fun h => by omega, fun h4 => ⟨h3 h4, ?_⟩⟩
   have := h.apart r hrp hf (by rw [hnx]; exact h4)
   rwa [hnx] at this
  ·obtain ⟨ll, cc, ok, hi⟩ := any_info (H := H) r
   exact ⟨0, by omega, fun _ _ => ⟨_, _, _, _, hi, hf⟩, fun h => by omega, fun h => by omega, fun _ _ => hf, fun _ => ⟨hk hrp, hf⟩⟩
 ·exact ⟨0, by omega, fun _ h => absurd h hrp, fun h => by omega, fun h => by omega, fun _ h => absurd h hrp, fun h => absurd h (by omega)⟩

end
end
section
section
variable {H : AuH} {n c : Nat} {K : Nat -> Option Nat} {st : Vst} {L L' : Nat -> List Nat} {g : Nat -> Nat} {A k e : Nat}
def nowH (H : AuH) (n : Nat) (K : Nat -> Option Nat) (st : Vst) : AuH := H.re (curV n (getV n K st) H.V)
theorem Work.again (W : Work H.t H.p H.s n K st L g) : Work H.t H.p H.s n K st L (nowH H n K st).V :=
 ⟨W.lists, fun i hi _ => (curV_in hi).symm, W.out⟩
theorem nowH_heap (HV : HeapV H n c) (hok : VOk n st) (h32 : ∀ i x, K i = some x -> x < 2 ^ 32) {cp : Nat} (hcp : n <= cp) (hcm : cp <= maxLen) : HeapV (nowH H n K st) n cp :=
 ⟨HV.right, HV.len, hcp, hcm, fun i hi => by
  show curV n (getV n K st) H.V i < 2 ^ 32
  rw [curV_in hi]
  exact getV_lt hok h32⟩
theorem blocks_none {f : Nat -> List (Int × Int × Int)} : ∀ m, (∀ i, i < m -> blocksOf (f i) = []) -> blocksOf (AuH.catTo f m) = []
 | 0, _ => rfl
 | m + 1, h => by
  show blocksOf (AuH.catTo f m ++ f m) = _
  rw [blocksOf_app, blocks_none m (fun i hi => h i (by omega)), h m (by omega)]
  rfl
theorem page_none {q : Nat} (hk : H.K q = 0 \/ H.K q = 1) : blocksOf (H.partsAt q) = [] := by
 unfold AuH.partsAt
 rcases hk with h | h
 ·rw [if_neg (by omega), if_neg (by omega), if_neg (by omega)]; rfl
 ·rw [if_pos h]; exact blocksOf_no (by simp)
end
end
section
def kindN (d : Int) (l : List (Int × Int × Int)) : Nat := (l.filter fun x => decide (x.1 = d)).length
theorem kindN_app (d : Int) (l m : List (Int × Int × Int)) : kindN d (l ++ m) = kindN d l + kindN d m := by unfold kindN; rw [List.filter_append, List.length_append]
def idleB (u v : Nat) : Nat -> Nat
 | 0 => 0
 | k + 1 => idleB u v k + if u.testBit k = true /\ v.testBit k = false then 1 else 0
section
variable {H H' : AuH} {q : Nat}
theorem slotKd_live (u v : Nat) (i : Nat) : (slotKd u v i = 2 ↔ v.testBit i = true) /\ (slotKd u v i = 4 ↔ u.testBit i = true /\ v.testBit i = false) := by
 unfold slotKd
 cases hv : v.testBit i <;> cases hu : u.testBit i <;> simp [hv, hu]
theorem kindN_slots (k : Nat) : kindN 4 (H.slotsTo q k) = idleB (H.cel q 5) (H.cel q 4) k := by
 induction k with
 | zero => rfl
 | succ k ih =>
  rw [AuH.slotsTo_succ, kindN_app, ih]
  show _ + kindN 4 [H.slotPart q k] = idleB _ _ k + _
  have h := (slotKd_live (H.cel q 5) (H.cel q 4) k).2
  congr 1
  unfold kindN AuH.slotPart
  by_cases hb : (H.cel q 5).testBit k = true /\ (H.cel q 4).testBit k = false
  ·rw [if_pos hb, h.2 hb]; rfl
  ·rw [if_neg hb]
   have : ((slotKd (H.cel q 5) (H.cel q 4) k : Nat) : Int) ≠ 4 := fun e => hb (h.1 (by omega))
   simp [this]
theorem kindN_slack : kindN 4 (H.slack q) = 0 /\ blocksOf (H.slack q) = [] := by
 unfold AuH.slack kindN
 split
 ·exact ⟨by simp, blocksOf_no (by simp)⟩
 ·exact ⟨rfl, rfl⟩
theorem kindN_slab (hk : H.K q = 3) : kindN 4 (H.partsAt q) = idleB (H.cel q 5) (H.cel q 4) (slotI (H.Cl q)) := by
 unfold AuH.partsAt
 rw [if_neg (by omega), if_neg (by omega), if_pos hk, kindN_app, kindN_slots, kindN_slack.1]
 rfl
theorem blocks_slots (hf : H'.first q = H.first q) (hz : H'.zs q = H.zs q) (h4 : H'.cel q 4 = H.cel q 4) (k : Nat) : blocksOf (H'.slotsTo q k) = blocksOf (H.slotsTo q k) := by
 induction k with
 | zero => rfl
 | succ k ih =>
  rw [AuH.slotsTo_succ, AuH.slotsTo_succ, blocksOf_app, blocksOf_app, ih]
  congr 1
  have h1 := (slotKd_live (H.cel q 5) (H.cel q 4) k).1
  have h2 := (slotKd_live (H'.cel q 5) (H'.cel q 4) k).1
  rw [h4] at h2
  unfold AuH.slotPart
  rw [hf, hz, h4]
  by_cases hb : (H.cel q 4).testBit k = true
  ·rw [h1.2 hb, h2.2 hb]
  ·rw [blocksOf_no (by intro e; exact hb (h2.1 (by have e : ((slotKd (H'.cel q 5) (H.cel q 4) k : Nat) : Int) = 2 := e; omega))), blocksOf_no (by intro e; exact hb (h1.1 (by have e : ((slotKd (H.cel q 5) (H.cel q 4) k : Nat) : Int) = 2 := e; omega)))]
theorem blocks_slab (hs : H'.s = H.s) (hk : H.K q = 3) (hk' : H'.K q = 3) (hc : H'.Cl q = H.Cl q) (h4 : H'.cel q 4 = H.cel q 4) : blocksOf (H'.partsAt q) = blocksOf (H.partsAt q) := by
 have e1 : H'.first q = H.first q := by unfold AuH.first AuH.pg; rw [hs]
 have e2 : H'.zs q = H.zs q := by unfold AuH.zs; rw [hs, hc]
 have e3 : H'.sl q = H.sl q := by unfold AuH.sl; rw [hc]
 unfold AuH.partsAt
 rw [if_neg (by omega), if_neg (by omega), if_pos hk', if_neg (by omega), if_neg (by omega), if_pos hk, blocksOf_app, blocksOf_app, kindN_slack.2, kindN_slack.2, e3, blocks_slots e1 e2 h4]
end
section
variable {H : AuH} {n c : Nat} {K : Nat -> Option Nat} {st : Vst} {L L' : Nat -> List Nat} {g : Nat -> Nat} {p u : Nat}
theorem slab_done (HV : HeapV H n c) (h : H.Ok L) (W : Work H.t H.p H.s n K st L' g) (S : SlabG H g L L' p u) :
  (nowH H n K st).Ok L' /\ (∀ i, i < 8 -> (nowH H n K st).V (22 + i) = H.V (22 + i)) /\ (nowH H n K st).V 0 = H.V 0 /\ (nowH H n K st).V 1 = H.V 1 /\ blocksOf (nowH H n K st).parts = blocksOf H.parts /\
   (nowH H n K st).K p = 3 /\ (nowH H n K st).Cl p = H.Cl p /\ (nowH H n K st).cel p 5 = u /\ (nowH H n K st).cel p 4 = H.cel p 4 /\
   kindN 4 (nowH H n K st).parts + idleB (H.cel p 5) (H.cel p 4) (slotI (H.Cl p)) = kindN 4 H.parts + idleB u (H.cel p 4) (slotI (H.Cl p)) := by
 have hlen := HV.len
 have hp := S.at_
 have T := slab_laid HV h W S
 have e0 : (nowH H n K st).cel p 0 = H.cel p 0 := (W.cel hlen hp (b := 0) (by omega) (by omega) (by omega)).trans (S.cells p 0 hp (by omega) (by omega) (by omega) (by omega))
 have e4 : (nowH H n K st).cel p 4 = H.cel p 4 := (W.cel hlen hp (b := 4) (by omega) (by omega) (by omega)).trans (S.cells p 4 hp (by omega) (by omega) (by omega) (by omega))
 have e5 : (nowH H n K st).cel p 5 = u := (W.cel hlen hp (b := 5) (by omega) (by omega) (by omega)).trans S.taken
 have eK : (nowH H n K st).K p = 3 := by unfold AuH.K; rw [e0]; exact S.kind
 have eC : (nowH H n K st).Cl p = H.Cl p := by unfold AuH.Cl; rw [e0]
 have hbl := blocks_slab (H := H) (H' := nowH H n K st) rfl S.kind eK eC e4
 refine ⟨T.ok h (by have := HV.fit.nums; omega), T.roots, (W.low hlen (.inl (by omega))).trans (S.low 0 (by omega)), (W.low hlen (.inl (by omega))).trans (S.low 1 (by omega)), ?_, eK, eC, e5, e4, ?_⟩
 ·refine T.blocks ?_
  show blocksOf ([] ++ (nowH H n K st).partsAt (p + 0)) = blocksOf ([] ++ H.partsAt (p + 0))
  rw [Nat.add_zero, List.nil_append, List.nil_append]
  exact hbl
 ·obtain ⟨r, _, f1, f2⟩ := T.parts
  have f2 : (nowH H n K st).parts = _ := f2
  rw [f1, f2, kindN_app, kindN_app, kindN_app, kindN_app]
  have g1 : kindN 4 (AuH.catTo (fun i => H.partsAt (p + i)) 1) = idleB (H.cel p 5) (H.cel p 4) (slotI (H.Cl p)) := by
   show kindN 4 ([] ++ H.partsAt (p + 0)) = _
   rw [Nat.add_zero, List.nil_append]
   exact kindN_slab S.kind
  have g2 : kindN 4 (AuH.catTo (fun i => (nowH H n K st).partsAt (p + i)) 1) = idleB u (H.cel p 4) (slotI (H.Cl p)) := by
   show kindN 4 ([] ++ (nowH H n K st).partsAt (p + 0)) = _
   rw [Nat.add_zero, List.nil_append, kindN_slab eK, e5, e4, eC]
  rw [g1]
  have g2 : kindN 4 (AuH.catTo (fun i => (H.re (curV n (getV n K st) H.V)).partsAt (p + i)) 1) = idleB u (H.cel p 4) (slotI (H.Cl p)) := g2
  rw [g2]
  omega
end
end
section
theorem infoG_slab {k : Int} (h1 : 0 <= k) (h2 : k <= 8) : infoG (infoV 3 1 k) = (3, 1, k, true) := infoG_put (infoB_yes (by unfold infoP; omega))
structure AnewG (H : AuH) (g : Nat -> Nat) (L L' : Nat -> List Nat) (A s e : Nat) (k : Int) (u : Nat) : Prop where
 pos : 0 < s + e
 one : s <= 1
 k0 : 0 <= k
 k8 : k <= 8
 whole : H.Whole A (A + s + e)
 left : s = 0 -> ∀ q, q < A -> H.K q = 1 -> H.nx q ≠ A
 right : 0 < e -> A + s + e < H.p -> H.K (A + s + e) ≠ 1
 slab : 0 < s -> g (pc H.t A 0) = infoV 3 1 k
 rest : 0 < e -> g (pc H.t (A + s) 0) = infoV 1 (e : Int) 0
 blank : ∀ q, A <= q -> q < A + s + e -> ¬ (0 < s /\ q = A) -> ¬ (0 < e /\ q = A + s) -> g (pc H.t q 0) = 0
 infos : ∀ q, q < H.p -> ¬ (A <= q /\ q < A + s + e) -> g (pc H.t q 0) = H.cel q 0
 footu : 0 < s -> g (pc H.t A 1) = A + 1
 footr : 0 < e -> g (pc H.t (A + s + e - 1) 1) = A + s + 1
 blankf : ∀ q, A <= q -> q < A + s + e -> ¬ (0 < s /\ q = A) -> ¬ (0 < e /\ q = A + s + e - 1) -> g (pc H.t q 1) = 0
 feet : ∀ q, q < H.p -> ¬ (A <= q /\ q < A + s + e) -> g (pc H.t q 1) = H.cel q 1
 taken : 0 < s -> g (pc H.t A 5) = u /\ g (pc H.t A 4) = 0 /\ u ≠ 0 /\ u < 2 ^ slotI k
 bare : ∀ q, A <= q -> q < A + s + e -> ¬ (0 < s /\ q = A) -> g (pc H.t q 4) = 0 /\ g (pc H.t q 5) = 0
 bits : ∀ q, q < H.p -> ¬ (A <= q /\ q < A + s + e) -> g (pc H.t q 4) = H.cel q 4 /\ g (pc H.t q 5) = H.cel q 5
 mem : ∀ hd : Nat, 2 <= hd -> hd <= 21 -> ∀ y, y ∈ L' hd ↔ (y ∈ L hd /\ ¬ (A <= y /\ y < A + s + e)) \/ (0 < e /\ y = A + s /\ ((hd : Nat) : Int) = 2 + HM.logI (e : Int)) \/ (0 < s /\ y = A /\ u ≠ 2 ^ slotI k - 1 /\ ((hd : Nat) : Int) = 13 + k)
 free : g 0 + AuH.sumTo (fun i => H.freeF (A + i)) (s + e) = H.V 0 + e
 live : g 1 + AuH.sumTo (fun i => H.liveF (A + i)) (s + e) = H.V 1
 few : g 0 < 4294967296
 roots : ∀ i, i < 8 -> g (22 + i) = H.V (22 + i)
 bareroot : ∀ i, i < 8 -> H.V (22 + i) ≠ 0 -> ¬ (A <= (spotP H.t H.p H.s (H.V (22 + i) : Int)).toNat /\ (spotP H.t H.p H.s (H.V (22 + i) : Int)).toNat < A + s + e)
section
variable {H : AuH} {n c : Nat} {K : Nat -> Option Nat} {st : Vst} {L L' : Nat -> List Nat} {g : Nat -> Nat} {A s e u : Nat} {k : Int}
theorem anew_laid (HV : HeapV H n c) (h : H.Ok L) (W : Work H.t H.p H.s n K st L' g) (R : AnewG H g L L' A s e k u) : H.Laid (curV n (getV n K st) H.V) L L' A (s + e) := by
 have hlen := HV.len
 have hw := R.whole.le
 have hpos := R.pos
 have hone := R.one
 have hP := HV.fit.nums
 obtain ⟨V', hV'⟩ : ∃ V', curV n (getV n K st) H.V = V' := ⟨_, rfl⟩
 have hc : ∀ q b, q < H.p -> b < 6 -> b ≠ 2 -> b ≠ 3 -> (H.re V').cel q b = g (pc H.t q b) := fun q b hq hb h2 h3 => by rw [<- hV']; exact W.cel hlen hq hb h2 h3
 have hlk : ∀ q, q < H.p -> (∀ hd : Nat, 2 <= hd -> hd <= 21 -> ¬ q ∈ L' hd) -> (H.re V').cel q 2 = 0 /\ (H.re V').cel q 3 = 0 := fun q hq hno => by rw [<- hV']; exact W.links hlen hq hno
 have hlow : ∀ i, i < 2 \/ (22 <= i /\ i < 30) -> V' i = g i := fun i hi => by rw [<- hV']; exact W.low hlen hi
 have hli : ∀ hd : Nat, 2 <= hd -> hd <= 21 -> IsL H.p (nxH H.t) (pvH H.t) hd (fun c => V' c.toNat) (L' hd) := fun hd h2 h21 => by rw [<- hV']; exact W.lists.isL HV h2 h21
 rw [hV']
 have hs : 0 < s -> (H.re V').K A = 3 /\ (H.re V').ln A = 1 /\ (H.re V').Cl A = k /\ (H.re V').nx A = A + s := fun h0 => by
  have e1 : (H.re V').K A = 3 /\ (H.re V').ln A = 1 /\ (H.re V').Cl A = k := by
   unfold AuH.ln AuH.L AuH.K AuH.Cl
   rw [hc A 0 (by omega) (by omega) (by omega) (by omega), R.slab h0, infoG_slab R.k0 R.k8]
   exact ⟨rfl, rfl, rfl⟩
  exact ⟨e1.1, e1.2.1, e1.2.2, by unfold AuH.nx; rw [e1.2.1]; omega⟩
 have he : 0 < e -> (H.re V').K (A + s) = 1 /\ (H.re V').ln (A + s) = e /\ (H.re V').nx (A + s) = A + s + e := fun h0 => by
  have e1 : (H.re V').K (A + s) = 1 /\ (H.re V').ln (A + s) = e := by
   unfold AuH.ln AuH.L AuH.K
   rw [hc (A + s) 0 (by omega) (by omega) (by omega) (by omega), R.rest h0, infoG_free h0 (by omega)]
   exact ⟨rfl, by simp⟩
  exact ⟨e1.1, e1.2, by unfold AuH.nx; rw [e1.2]⟩
 have hb : ∀ q, A <= q -> q < A + s + e -> ¬ (0 < s /\ q = A) -> ¬ (0 < e /\ q = A + s) -> (H.re V').cel q 0 = 0 := fun q a1 a2 a3 a4 => by rw [hc q 0 (by omega) (by omega) (by omega) (by omega)]; exact R.blank q a1 a2 a3 a4
 have hn : ∀ q, A <= q -> q < A + s + e -> ¬ (0 < s /\ q = A) -> ¬ (0 < e /\ q = A + s) -> (H.re V').K q = 0 := fun q a1 a2 a3 a4 => ((H.re V').K_zero q (hb q a1 a2 a3 a4)).1
 have cases : ∀ q, A <= q -> q < A + s + e -> (H.re V').K q ≠ 0 -> (0 < s /\ q = A) \/ (0 < e /\ q = A + s) := fun q a1 a2 a3 => by
  by_cases b1 : 0 < s /\ q = A
  ·exact .inl b1
  ·by_cases b2 : 0 < e /\ q = A + s
   ·exact .inr b2
   ·exact absurd (hn q a1 a2 b1 b2) a3
 have hout : ∀ q, q < H.p -> ¬ (A <= q /\ q < A + s + e) -> (H.re V').cel q 0 = H.cel q 0 := fun q a1 a2 => by rw [hc q 0 a1 (by omega) (by omega) (by omega)]; exact R.infos q a1 a2
 have eas : A + (s + e) = A + s + e := by omega
 have tS : 0 < s -> (H.re V').tgt A = if u ≠ 2 ^ slotI k - 1 then 13 + k else -1 := fun h0 => by
  have h5 : (H.re V').cel A 5 = u := by rw [hc A 5 (by omega) (by omega) (by omega) (by omega)]; exact (R.taken h0).1
  by_cases hf : u = 2 ^ slotI k - 1
  ·rw [if_neg (fun x => x hf)]
   exact AuH.tgt_full (hs h0).1 (by rw [h5, (hs h0).2.2.1]; exact hf)
  ·rw [if_pos hf, AuH.tgt_slab (hs h0).1 (by rw [h5, (hs h0).2.2.1]; exact hf), (hs h0).2.2.1]
 have tF : 0 < e -> (H.re V').tgt (A + s) = 2 + HM.logI (e : Int) := fun h0 => by rw [AuH.tgt_free (he h0).1, (he h0).2.1]
 have tN : ∀ q, A <= q -> q < A + s + e -> ¬ (0 < s /\ q = A) -> ¬ (0 < e /\ q = A + s) -> (H.re V').tgt q = -1 := fun q a1 a2 a3 a4 => AuH.tgt_none (hn q a1 a2 a3 a4)
 have hlg : 0 < e -> 0 <= HM.logI (e : Int) /\ HM.logI (e : Int) <= 10 := fun h0 => AuH.log_few h0 (by omega)
 have k0 := R.k0
 have k8 := R.k8
 exact {
  cut := by
   refine ⟨by rw [eas]; exact R.whole, fun q a1 a2 => hout q a1 (by omega), ?_, fun q a1 a2 a3 => ?_, fun q a1 a2 a3 a4 => ?_, fun q r a1 a2 a3 a4 a5 => ?_, fun q a1 a2 a3 => ?_⟩
   ·rcases Nat.eq_zero_or_pos s with h0 | h0
    ·have := (he (by omega)).1
     rw [h0, Nat.add_zero] at this
     omega
    ·have := (hs h0).1; omega
   ·rcases cases q a1 (by omega) a3 with ⟨b1, rfl⟩ | ⟨b1, rfl⟩
    ·have := (hs b1).2.2.2; omega
    ·have := (he b1).2.2; omega
   ·rcases cases q a1 (by omega) a3 with ⟨b1, rfl⟩ | ⟨b1, rfl⟩
    ·have h1 := (hs b1).2.2.2
     rw [h1] at a4 ⊢
     have := (he (by omega)).1
     omega
    ·have := (he b1).2.2; omega
   ·rcases cases q a1 (by omega) a3 with ⟨b1, rfl⟩ | ⟨b1, rfl⟩
    ·have h1 := (hs b1).2.2.2
     exact hb r (by omega) (by omega) (by omega) (by omega)
    ·have h1 := (he b1).2.2
     exact hb r (by omega) (by omega) (by omega) (by omega)
   ·refine hb q a1 (by omega) (fun b => ?_) (fun b => ?_)
    ·obtain ⟨b1, rfl⟩ := b; have := (hs b1).1; omega
    ·obtain ⟨b1, rfl⟩ := b; have := (he b1).1; omega
  foot := fun q a1 a2 a3 => by
   rcases cases q a1 (by omega) a3 with ⟨b1, rfl⟩ | ⟨b1, rfl⟩
   ·unfold AuH.Foot
    rw [(hs b1).2.1]
    refine ⟨fun r h5 h6 => by omega, ?_⟩
    show (H.re V').cel q 1 = q + 1
    rw [hc q 1 (by omega) (by omega) (by omega) (by omega)]
    exact R.footu b1
   ·unfold AuH.Foot
    rw [(he b1).2.1]
    refine ⟨fun r h5 h6 => ?_, ?_⟩
    ·rw [hc r 1 (by omega) (by omega) (by omega) (by omega)]
     exact R.blankf r (by omega) (by omega) (by omega) (by omega)
    ·rw [hc _ 1 (by omega) (by omega) (by omega) (by omega)]
     exact R.footr b1
  feet := fun q a1 a2 => by rw [hc q 1 a1 (by omega) (by omega) (by omega)]; exact R.feet q a1 (by omega)
  left := fun q a1 a2 a3 => by
   rcases Nat.eq_zero_or_pos s with h0 | h0
   ·exact absurd a3 (R.left h0 q a1 a2)
   ·rw [(hs h0).1]; decide
  mid := fun q a1 a2 a3 a4 => by
   rcases cases q a1 (by omega) (by omega) with ⟨b1, rfl⟩ | ⟨b1, rfl⟩
   ·have := (hs b1).1; omega
   ·have := (he b1).2.2; omega
  right := fun q a1 a2 a3 a4 a5 => by
   rcases cases q a1 (by omega) (by omega) with ⟨b1, rfl⟩ | ⟨b1, rfl⟩
   ·have := (hs b1).1; omega
   ·rw [eas] at a5 ⊢; exact R.right b1 a5
  slot := fun q a1 a2 => by
   unfold AuH.Slot5
   rw [hc q 4 (by omega) (by omega) (by omega) (by omega), hc q 5 (by omega) (by omega) (by omega) (by omega)]
   by_cases b : 0 < s /\ q = A
   ·obtain ⟨b1, rfl⟩ := b
    obtain ⟨c1, c2, c3, c4⟩ := R.taken b1
    rw [c1, c2, (hs b1).2.2.1]
    refine ⟨fun _ => ⟨c3, c4, fun i _ hx => ?_⟩, fun x => absurd (hs b1).1 x⟩
    rw [Nat.zero_testBit] at hx
    cases hx
   ·obtain ⟨c1, c2⟩ := R.bare q a1 (by omega) b
    rw [c1, c2]
    refine ⟨fun x => ?_, fun _ => ⟨rfl, rfl⟩⟩
    rcases cases q a1 (by omega) (by omega) with b2 | ⟨b2, rfl⟩
    ·exact absurd b2 b
    ·have := (he b2).1; omega
  bits := fun q a1 a2 => by
   rw [hc q 4 a1 (by omega) (by omega) (by omega), hc q 5 a1 (by omega) (by omega) (by omega)]
   exact R.bits q a1 (by omega)
  list := hli
  memIn := fun hd h2 h21 y a1 a2 => by
   rw [R.mem hd h2 h21 y]
   by_cases b1 : 0 < s /\ y = A
   ·obtain ⟨b1, rfl⟩ := b1
    rw [tS b1]
    constructor
    ·rintro (⟨_, x⟩ | ⟨x1, x2, _⟩ | ⟨_, _, x3, x4⟩)
     ·exact absurd ⟨a1, by omega⟩ x
     ·omega
     ·rw [if_pos x3]; omega
    ·intro x
     split at x
     ·rename_i x3; exact .inr (.inr ⟨b1, rfl, x3, by omega⟩)
     ·omega
   ·by_cases b2 : 0 < e /\ y = A + s
    ·obtain ⟨b2, rfl⟩ := b2
     rw [tF b2]
     constructor
     ·rintro (⟨_, x⟩ | ⟨_, _, x3⟩ | ⟨x1, x2, _⟩)
      ·exact absurd ⟨a1, by omega⟩ x
      ·omega
      ·exact absurd ⟨x1, x2⟩ b1
     ·intro x; exact .inr (.inl ⟨b2, rfl, by omega⟩)
    ·rw [tN y a1 (by omega) b1 b2]
     constructor
     ·rintro (⟨_, x⟩ | ⟨x1, x2, _⟩ | ⟨x1, x2, _⟩)
      ·exact absurd ⟨a1, by omega⟩ x
      ·exact absurd ⟨x1, x2⟩ b2
      ·exact absurd ⟨x1, x2⟩ b1
     ·intro x; omega
  memOut := fun hd h2 h21 y a => by
   rw [R.mem hd h2 h21 y]
   constructor
   ·rintro (⟨x, _⟩ | ⟨x1, x2, _⟩ | ⟨x1, x2, _⟩)
    ·exact x
    ·omega
    ·omega
   ·intro x; exact .inl ⟨x, by omega⟩
  bare := fun q a1 a2 a3 => by
   refine hlk q (by omega) (fun hd h2 h21 hm => ?_)
   rcases (R.mem hd h2 h21 q).1 hm with ⟨_, x⟩ | ⟨x1, x2, x3⟩ | ⟨x1, x2, x3, x4⟩
   ·exact x ⟨a1, by omega⟩
   ·subst x2; rw [tF x1] at a3; have := hlg x1; omega
   ·subst x2; rw [tS x1, if_pos x3] at a3; omega
  loose := fun q a1 a2 a3 => by
   have hno : ∀ hd : Nat, 2 <= hd -> hd <= 21 -> ¬ q ∈ L' hd := fun hd h2 h21 hm => by
    rcases (R.mem hd h2 h21 q).1 hm with ⟨x, _⟩ | ⟨x1, x2, _⟩ | ⟨x1, x2, _⟩
    ·have := ((h.mem hd h2 h21 q).1 x).2; omega
    ·omega
    ·omega
   obtain ⟨b1, b2⟩ := hlk q a1 hno
   obtain ⟨b3, b4⟩ := h.loose q a1 a3
   rw [b1, b2, b3, b4]
   exact ⟨rfl, rfl⟩
  free := by
   rw [hlow 0 (by omega), R.free]
   congr 1
   rcases Nat.eq_zero_or_pos s with h0 | h0
   ·subst h0
    have h1 := he (by omega)
    rw [AuH.sumTo_first (by omega) (fun i b1 b2 => AuH.freeF_no (hn (A + i) (by omega) (by omega) (by omega) (by omega)))]
    show e = (H.re V').freeF (A + 0)
    unfold AuH.freeF
    rw [if_pos h1.1, h1.2.1]
   ·obtain rfl : s = 1 := by omega
    have h1 := (hs h0).1
    have z0 : (H.re V').freeF A = 0 := by unfold AuH.freeF; rw [if_neg (by omega)]
    rcases Nat.eq_zero_or_pos e with h2 | h2
    ·subst h2
     rw [AuH.sumTo_first (by omega) (fun i b1 b2 => by omega)]
     exact z0.symm
    ·rw [AuH.sumTo_pair (k := 1) (by omega) (by omega) (fun i b1 b2 b3 => AuH.freeF_no (hn (A + i) (by omega) (by omega) (by omega) (by omega)))]
     have z1 : (H.re V').freeF (A + 1) = e := by unfold AuH.freeF; rw [if_pos (he h2).1, (he h2).2.1]
     show e = (H.re V').freeF (A + 0) + (H.re V').freeF (A + 1)
     rw [Nat.add_zero, z0, z1]; omega
  live := by
   rw [hlow 1 (by omega), R.live]
   have z : ∀ i, i < s + e -> (H.re V').liveF (A + i) = 0 := fun i hi => by
    unfold AuH.liveF
    by_cases b1 : 0 < s /\ A + i = A
    ·rw [b1.2, if_neg (by have := (hs b1.1).1; omega), if_pos (hs b1.1).1, hc A 4 (by omega) (by omega) (by omega) (by omega), (R.taken b1.1).2.1]
     decide
    ·by_cases b2 : 0 < e /\ A + i = A + s
     ·rw [b2.2, if_neg (by have := (he b2.1).1; omega), if_neg (by have := (he b2.1).1; omega)]
     ·have := hn (A + i) (by omega) (by omega) b1 b2
      rw [if_neg (by omega), if_neg (by omega)]
   rw [AuH.sumTo_congr (f := fun i => (H.re V').liveF (A + i)) (g := fun _ => 0) (s + e) (fun i hi => z i hi), AuH.sumTo_zero]
   rfl
  few := by
   rw [hlow 0 (by omega), hlow 1 (by omega)]
   have hbl := AuH.sums_le (H := H) H.p (by omega)
   obtain ⟨_, c2⟩ := h.counts
   have := R.live
   exact ⟨R.few, by omega⟩
  roots := fun i hi => by rw [hlow (22 + i) (by omega)]; exact R.roots i hi
  named := fun i hi hv a1 a2 => absurd ⟨a1, by omega⟩ (R.bareroot i hi hv) }
end
end
section
section
variable (n : Nat) (K : Nat -> Option Nat) (t q s : Int)
end
theorem Fit.taken {t P s n : Nat} (h : Fit t P s n) {p : Nat} (hp : p < P) : pageI (t : Int) (P : Int) (s : Int) (p : Int) 5 = ((pc t p 5 : Nat) : Int) := by
 rw [pcell_yes h.right (by omega) (by omega) (by omega) (by omega)]
 unfold pc
 push_cast
 omega
section
variable {t P s n : Nat} {K : Nat -> Option Nat} {st : Vst} {L : Nat -> List Nat} {g : Nat -> Nat} {p u : Nat} {k : Int}
end
section
variable {H : AuH} {n c : Nat} {K : Nat -> Option Nat} {st : Vst} {L L1 : Nat -> List Nat} {g1 : Nat -> Nat} {p u : Nat} {k : Int}
end
end
section
section
variable (n : Nat) (K : Nat -> Option Nat) (t q s : Int)
end
structure AroundS (H : AuH) (p A la lr : Nat) : Prop where
 slab : H.K p = 3
 ahead : A + la = p
 le : p + 1 + lr <= H.p
 firstK : H.K A ≠ 0
 lastK : p + 1 + lr < H.p -> H.K (p + 1 + lr) ≠ 0 /\ H.K (p + 1 + lr) ≠ 1
 kinds : ∀ q, A <= q -> q < p + 1 + lr -> (q = p /\ H.K q = 3) \/ (0 < la /\ q = A /\ H.K q = 1) \/ (0 < lr /\ q = p + 1 /\ H.K q = 1) \/ (H.K q = 0 /\ H.cel q 0 = 0 /\ q ≠ p /\ ¬ (0 < la /\ q = A) /\ ¬ (0 < lr /\ q = p + 1))
 feet : ∀ q, A <= q -> q < p + 1 + lr -> q ≠ p -> ¬ (0 < la /\ q + 1 = p) -> ¬ (0 < lr /\ q + 1 = p + 1 + lr) -> H.cel q 1 = 0
 free : AuH.sumTo (fun i => H.freeF (A + i)) (la + 1 + lr) = la + lr
 live : AuH.sumTo (fun i => H.liveF (A + i)) (la + 1 + lr) = H.liveF p
section
variable {H : AuH} {n c : Nat} {K : Nat -> Option Nat} {st : Vst} {L : Nat -> List Nat}
theorem aroundS (h : H.Ok L) {p A la lr : Nat} (hp : p < H.p) (hk : H.K p = 3) (hA : A + la = p) (hle : p + 1 + lr <= H.p)
  (hl : 0 < la -> H.K A = 1 /\ H.ln A = la) (hr : 0 < lr -> H.K (p + 1) = 1 /\ H.ln (p + 1) = lr) (hlast : p + 1 + lr < H.p -> H.K (p + 1 + lr) ≠ 0 /\ H.K (p + 1 + lr) ≠ 1) :
  AroundS H p A la lr := by
 have hL : 0 < la -> (∀ q, A < q -> q < p -> H.cel q 0 = 0 /\ H.K q = 0) /\ ∀ q, A <= q -> q + 1 < p -> H.cel q 1 = 0 := fun h0 => by
  obtain ⟨_, _, _, _, b4, b5, _⟩ := span_at h (p := A) (by omega) (by have := (hl h0).1; omega) (by have := (hl h0).1; omega)
  rw [(hl h0).2, hA] at b4 b5
  exact ⟨b4, b5⟩
 have hR : 0 < lr -> (∀ q, p + 1 < q -> q < p + 1 + lr -> H.cel q 0 = 0 /\ H.K q = 0) /\ ∀ q, p + 1 <= q -> q + 1 < p + 1 + lr -> H.cel q 1 = 0 := fun h0 => by
  obtain ⟨_, _, _, _, b4, b5, _⟩ := span_at h (p := p + 1) (by omega) (by have := (hr h0).1; omega) (by have := (hr h0).1; omega)
  rw [(hr h0).2] at b4 b5
  exact ⟨b4, b5⟩
 have kinds : ∀ q, A <= q -> q < p + 1 + lr -> (q = p /\ H.K q = 3) \/ (0 < la /\ q = A /\ H.K q = 1) \/ (0 < lr /\ q = p + 1 /\ H.K q = 1) \/ (H.K q = 0 /\ H.cel q 0 = 0 /\ q ≠ p /\ ¬ (0 < la /\ q = A) /\ ¬ (0 < lr /\ q = p + 1)) := fun q h1 h2 => by
  by_cases e1 : q = p
  ·exact .inl ⟨e1, e1 ▸ hk⟩
  ·by_cases e2 : 0 < la /\ q = A
   ·exact .inr (.inl ⟨e2.1, e2.2, e2.2 ▸ (hl e2.1).1⟩)
   ·by_cases e3 : 0 < lr /\ q = p + 1
    ·exact .inr (.inr (.inl ⟨e3.1, e3.2, e3.2 ▸ (hr e3.1).1⟩))
    ·refine .inr (.inr (.inr ?_))
     rcases Nat.lt_or_ge q p with h3 | h3
     ·have := (hL (by omega)).1 q (by omega) h3
      exact ⟨this.2, this.1, e1, e2, e3⟩
     ·have := (hR (by omega)).1 q (by omega) h2
      exact ⟨this.2, this.1, e1, e2, e3⟩
 have hsplit : ∀ f : Nat -> Nat, AuH.sumTo (fun i => f (A + i)) (la + 1 + lr) = AuH.sumTo (fun i => f (A + i)) la + f p + AuH.sumTo (fun i => f (p + 1 + i)) lr := fun f => by
  rw [AuH.sumTo_split (fun i => f (A + i)) (la + 1) lr, AuH.sumTo_split (fun i => f (A + i)) la 1]
  have e2 : (fun i => f (A + (la + 1 + i))) = fun i => f (p + 1 + i) := by funext i; congr 1; omega
  rw [e2]
  show _ + (0 + f (A + (la + 0))) + _ = _
  rw [Nat.add_zero, hA, Nat.zero_add]
 have ff : ∀ q, H.K q = 1 -> H.freeF q = H.ln q /\ H.liveF q = 0 := fun q h1 => by unfold AuH.freeF AuH.liveF; rw [if_pos h1, if_neg (by omega), if_neg (by omega)]; exact ⟨rfl, rfl⟩
 have side : ∀ a m, a + m <= H.p -> (0 < m -> H.K a = 1 /\ H.ln a = m) -> AuH.sumTo (fun i => H.freeF (a + i)) m = m /\ AuH.sumTo (fun i => H.liveF (a + i)) m = 0 := fun a m h1 h2 => by
  rcases Nat.eq_zero_or_pos m with h0 | h0
  ·subst h0; exact ⟨rfl, rfl⟩
  ·have := sums_at h (p := a) (by omega) (by have := (h2 h0).1; omega) (by have := (h2 h0).1; omega)
   rw [(h2 h0).2, (ff a (h2 h0).1).1, (ff a (h2 h0).1).2, (h2 h0).2] at this
   exact this
 have s1 := side A la (by omega) hl
 have s2 := side (p + 1) lr (by omega) hr
 exact {
  slab := hk, ahead := hA, le := hle
  firstK := by
   rcases Nat.eq_zero_or_pos la with h0 | h0
   ·have : A = p := by omega
    rw [this]; omega
   ·have := (hl h0).1; omega
  lastK := hlast, kinds := kinds
  feet := fun q h1 h2 h3 h4 h5 => by
   rcases Nat.lt_or_ge q p with h6 | h6
   ·exact (hL (by omega)).2 q h1 (by omega)
   ·exact (hR (by omega)).2 q (by omega) (by omega)
  free := by
   rw [hsplit, s1.1, s2.1]
   have : H.freeF p = 0 := by unfold AuH.freeF; rw [if_neg (by omega)]
   omega
  live := by rw [hsplit, s1.2, s2.2, Nat.zero_add, Nat.add_zero] }
theorem ones_zero : ∀ k, HM.onesTo 0 k = 0
 | 0 => rfl
 | k + 1 => by rw [HM.onesTo_succ, ones_zero k, Nat.zero_testBit]; rfl
theorem AroundS.root {p A la lr : Nat} (a : AroundS H p A la lr) (h : H.Ok L) (h4 : H.cel p 4 = 0) {i : Nat} (hi : i < 8) (hv : H.V (22 + i) ≠ 0) (h1 : A <= (spotP H.t H.p H.s (H.V (22 + i) : Int)).toNat) (h2 : (spotP H.t H.p H.s (H.V (22 + i) : Int)).toNat < p + 1 + lr) : False := by
 obtain ⟨_, h3⟩ := h.roots i hi hv
 have hk := a.kinds _ h1 h2
 generalize (spotP H.t H.p H.s (H.V (22 + i) : Int)).toNat = q at *
 rcases h3 with ⟨h5, _⟩ | ⟨h5, _, h6⟩
 ·rcases hk with ⟨_, h7⟩ | ⟨_, _, h7⟩ | ⟨_, _, h7⟩ | ⟨h7, _⟩ <;> omega
 ·rcases hk with ⟨h7, _⟩ | ⟨_, _, h7⟩ | ⟨_, _, h7⟩ | ⟨h7, _⟩
  ·rw [h7, h4, Nat.zero_testBit] at h6
   cases h6
  ·omega
  ·omega
  ·omega
theorem empty_from (HV : HeapV H n c) (h : H.Ok L) {s1 : Vst} {L1 : Nat -> List Nat} {p : Nat} (W2 : Work H.t H.p H.s n K s1 L1 (updF H.V (pc H.t p 5) 0)) (m1 : ∀ x : Nat, 2 <= x -> x <= 21 -> ∀ y, y ∈ L1 x ↔ y ∈ L x /\ y ≠ p) (hp : p < H.p) (hk : H.K p = 3) (h4 : H.cel p 4 = 0) :
  ∃ L' g' A la lr, Work H.t H.p H.s n K (releaseS n K H.t H.p H.s p 1 s1) L' g' /\ AnewG H g' L L' A 0 (la + 1 + lr) 0 0 /\ AroundS H p A la lr /\ g' 1 = H.V 1 /\ g' 0 = H.V 0 + 1 := by
 have hf := HV.fit
 have hP := hf.nums
 have hlen := hf.len
 have hv1 := (free_few h hP.2).2
 obtain ⟨hl1, hnx, s3⟩ := slab_at h hp hk
 have hcl : 0 <= H.Cl p /\ H.Cl p <= 8 := by have := H.K_cases p; omega
 obtain ⟨A, la, hA, l0, l1, l2, l3⟩ := left_of_span h hp (by omega) (by omega)
 obtain ⟨lr, r0, r1, r2, r3, r4, r5⟩ := right_of_span h (r := p + 1) s3 (by omega)
 have a := aroundS h hp hk hA r0 l2 r3 r5
 have g0 : ∀ q b, b < 5 -> updF H.V (pc H.t p 5) 0 (pc H.t q b) = H.V (pc H.t q b) := fun q b hb => updF_pcN _ _ (by omega) (by omega) (by omega)
 have gl : ∀ i, i < 30 -> updF H.V (pc H.t p 5) 0 i = H.V i := fun i hi => updF_low _ _ hi
 obtain ⟨L', g', W', m', z0, z1, zi, zf, zb⟩ := W2.release hf (p := p) (m := 1) (A := A) (la := la) (lr := lr) (by omega) r0 hA
  (fun e => by
   rcases l0 e with e | ⟨f, kk, ll, cc, ok, b1, b2, b3, b4⟩
   ·exact .inl e
   ·exact .inr ⟨f, kk, ll, cc, ok, b1, by rw [g0 _ _ (by omega)]; exact b2, by rw [g0 _ _ (by omega)]; exact b3, b4⟩)
  (fun e => by
   obtain ⟨b1, b2, k, b3, b4, b5⟩ := l1 e
   exact ⟨by rw [g0 _ _ (by omega)]; exact b1, by rw [g0 _ _ (by omega)]; exact b2, k, b3, b4, (m1 _ (by omega) (by omega) _).2 ⟨b5, by omega⟩⟩)
  (fun e e2 => by
   rw [g0 _ _ (by omega)]
   exact r1 e e2)
  (fun e => by
   obtain ⟨b1, b2, k, b3, b4, b5⟩ := r2 e
   exact ⟨b1, by rw [g0 _ _ (by omega)]; exact b2, k, b3, b4, (m1 _ (by omega) (by omega) _).2 ⟨b5, by omega⟩⟩)
  (fun hd a2 a21 hx => by
   rcases Nat.eq_zero_or_pos la with e | e
   ·exact absurd (show A = p by omega) ((m1 hd a2 a21 A).1 hx).2
   ·exact e)
  (by rw [gl 0 (by omega)]; omega)
 refine ⟨L', g', A, la, lr, W', ?_, a, by rw [z1 1 (by omega) (by omega), gl 1 (by omega)], by rw [z0, gl 0 (by omega)]⟩
 have e : A + 0 + (la + 1 + lr) = p + 1 + lr := by omega
 exact {
  pos := by omega
  one := by omega
  k0 := by omega
  k8 := by omega
  whole := by rw [e]; exact ⟨by omega, r0, a.firstK, fun h1 => (a.lastK h1).1⟩
  left := fun _ => l3
  right := fun _ h1 => by rw [e] at h1 ⊢; exact (a.lastK h1).2
  slab := fun h1 => by omega
  rest := fun _ => by rw [Nat.add_zero, zi, if_pos rfl]
  blank := fun q h1 h2 h3 h5 => by
   rw [zi, if_neg (by omega)]
   split
   ·rfl
   ·rename_i h6
    rw [g0 _ _ (by omega)]
    rcases a.kinds q h1 (by omega) with ⟨h7, _⟩ | ⟨_, h7, _⟩ | ⟨h7, h8, _⟩ | ⟨_, h7, _⟩
    ·exfalso; exact h6 (.inl ⟨by omega, h7⟩)
    ·omega
    ·exact absurd (.inr ⟨h7, h8⟩) h6
    ·exact h7
  infos := fun q h1 h2 => by rw [zi, if_neg (by omega), if_neg (by omega), g0 _ _ (by omega)]; rfl
  footu := fun h1 => by omega
  footr := fun _ => by rw [zf, if_pos (by omega)]
  blankf := fun q h1 h2 h3 h5 => by
   rw [zf, if_neg (by omega)]
   split
   ·rfl
   ·rename_i h6
    rw [g0 _ _ (by omega)]
    exact a.feet q h1 (by omega) (by omega) (by omega) (by omega)
  feet := fun q h1 h2 => by rw [zf, if_neg (by omega), if_neg (by omega), g0 _ _ (by omega)]; rfl
  taken := fun h1 => by omega
  bare := fun q h1 h2 _ => by
   rw [(zb q).1, (zb q).2, g0 _ _ (by omega)]
   by_cases e2 : q = p
   ·rw [e2]
    exact ⟨h4, updF_pcE _ _ rfl⟩
   ·rw [updF_pcN _ _ (by omega) (by omega) (by omega)]
    have hk3 : H.K q ≠ 3 := by
     rcases a.kinds q h1 (by omega) with ⟨h7, _⟩ | ⟨_, _, h7⟩ | ⟨_, _, h7⟩ | ⟨h7, _⟩
     ·exact absurd h7 e2
     ·omega
     ·omega
     ·omega
    exact ⟨((h.slots q (by omega)).2 hk3).2, ((h.slots q (by omega)).2 hk3).1⟩
  bits := fun q h1 h2 => by
   rw [(zb q).1, (zb q).2, g0 _ _ (by omega), updF_pcN _ _ (by omega) (by omega) (by omega)]
   exact ⟨rfl, rfl⟩
  mem := fun hd a2 a21 y => by
   rw [m' hd a2 a21 y, m1 hd a2 a21 y, e]
   have out : y ∈ L hd -> A <= y -> y < p + 1 + lr -> y = p \/ (0 < la /\ y = A) \/ (0 < lr /\ y = p + 1) := fun b1 b2 b3 => by
    rcases a.kinds y b2 b3 with ⟨h5, _⟩ | ⟨h5, h6, _⟩ | ⟨h5, h6, _⟩ | ⟨h5, _⟩
    ·exact .inl h5
    ·exact .inr (.inl ⟨h5, h6⟩)
    ·exact .inr (.inr ⟨h5, h6⟩)
    ·exact absurd b1 (inner_no h h5 hd a2 a21)
   constructor
   ·rintro (⟨⟨b1, b2⟩, b3, b4⟩ | ⟨h1, h2⟩)
    ·refine .inl ⟨b1, fun b5 => ?_⟩
     rcases out b1 b5.1 b5.2 with h5 | h5 | h5
     ·exact b2 h5
     ·exact b3 h5
     ·exact b4 h5
    ·exact .inr (.inl ⟨by omega, by omega, h2⟩)
   ·rintro (⟨b1, b2⟩ | ⟨_, h1, h2⟩ | ⟨h1, _⟩)
    ·exact .inl ⟨⟨b1, by omega⟩, by omega, by omega⟩
    ·exact .inr ⟨by omega, h2⟩
    ·omega
  free := by rw [z0, gl 0 (by omega), Nat.zero_add, a.free]; omega
  live := by
   rw [z1 1 (by omega) (by omega), gl 1 (by omega), Nat.zero_add, a.live]
   have : H.liveF p = 0 := by unfold AuH.liveF; rw [if_neg (by omega), if_pos hk, h4, ones_zero]
   omega
  few := by rw [z0, gl 0 (by omega)]; omega
  roots := fun i hi => by rw [z1 (22 + i) (by omega) (by omega), gl (22 + i) (by omega)]
  bareroot := fun i hi hv hh => a.root h h4 hi hv hh.1 (by omega) }
theorem unrack (HV : HeapV H n c) (h : H.Ok L) {s1 : Vst} {g : Nat -> Nat} (W : Work H.t H.p H.s n K s1 L g) {p : Nat} (hp : p < H.p) (hk : H.K p = 3) :
  ∃ L1, Work H.t H.p H.s n K (if decide (H.cel p 5 = 2 ^ slotI (H.Cl p) - 1) = true then s1 else pullI n K H.t H.p H.s (13 + H.Cl p) p s1) L1 g /\ ∀ x : Nat, 2 <= x -> x <= 21 -> ∀ y, y ∈ L1 x ↔ y ∈ L x /\ y ≠ p := by
 have hf := HV.fit
 have hcl : 0 <= H.Cl p /\ H.Cl p <= 8 := by have := H.K_cases p; omega
 by_cases hfull : H.cel p 5 = 2 ^ slotI (H.Cl p) - 1
 ·rw [if_pos (decide_eq_true hfull)]
  refine ⟨L, W, fun x a2 a21 y => ⟨fun hy => ⟨hy, fun e => ?_⟩, fun hy => hy.1⟩⟩
  have := ((h.mem x a2 a21 y).1 hy).2
  rw [e, AuH.tgt_full hk hfull] at this
  omega
 ·rw [if_neg (by simpa using hfull)]
  have eh : 13 + H.Cl p = ((13 + (H.Cl p).toNat : Nat) : Int) := by omega
  have hm : p ∈ L (13 + (H.Cl p).toNat) := (h.mem _ (by omega) (by omega) p).2 ⟨hp, by rw [AuH.tgt_slab hk hfull]; omega⟩
  rw [eh]
  exact W.pull hf (by omega) (by omega) hp hm
end
end
section
section
variable {H : AuH} {q : Nat}
theorem blocks_dead (h4 : H.cel q 4 = 0) (k : Nat) : blocksOf (H.slotsTo q k) = [] := by
 induction k with
 | zero => rfl
 | succ k ih =>
  rw [AuH.slotsTo_succ, blocksOf_app, ih, List.nil_append]
  have h := (slotKd_live (H.cel q 5) 0 k).1
  rw [Nat.zero_testBit] at h
  refine blocksOf_no fun e => ?_
  unfold AuH.slotPart at e
  rw [h4] at e
  have h2 : ((slotKd (H.cel q 5) 0 k : Nat) : Int) = 2 := e
  exact absurd (h.1 (by omega)) (by simp)
theorem slab_dead (hk : H.K q = 3) (h4 : H.cel q 4 = 0) : blocksOf (H.partsAt q) = [] := by
 unfold AuH.partsAt
 rw [if_neg (by omega), if_neg (by omega), if_pos hk, blocksOf_app, blocks_dead h4, kindN_slack.2]
 rfl
theorem kindN_none (hk : H.K q = 0 \/ H.K q = 1) : kindN 4 (H.partsAt q) = 0 := by
 unfold AuH.partsAt
 rcases hk with h | h
 ·rw [if_neg (by omega), if_neg (by omega), if_neg (by omega)]; rfl
 ·rw [if_pos h]; rfl
theorem kindN_zero {f : Nat -> List (Int × Int × Int)} : ∀ m, (∀ i, i < m -> kindN 4 (f i) = 0) -> kindN 4 (AuH.catTo f m) = 0
 | 0, _ => rfl
 | m + 1, h => by
  show kindN 4 (AuH.catTo f m ++ f m) = _
  rw [kindN_app, kindN_zero m (fun i hi => h i (by omega)), h m (by omega)]
theorem kindN_only {f : Nat -> List (Int × Int × Int)} {i0 : Nat} : ∀ m, i0 < m -> (∀ i, i < m -> i ≠ i0 -> kindN 4 (f i) = 0) -> kindN 4 (AuH.catTo f m) = kindN 4 (f i0)
 | 0, h, _ => by omega
 | m + 1, h, ho => by
  show kindN 4 (AuH.catTo f m ++ f m) = _
  rw [kindN_app]
  rcases Nat.lt_or_ge i0 m with h1 | h1
  ·rw [kindN_only m h1 (fun i hi hne => ho i (by omega) hne), ho m (by omega) (by omega), Nat.add_zero]
  ·obtain rfl : i0 = m := by omega
   rw [kindN_zero i0 (fun i hi => ho i (by omega) (by omega)), Nat.zero_add]
end
section
variable {H : AuH} {n c : Nat} {K : Nat -> Option Nat} {st : Vst} {L L' : Nat -> List Nat} {g : Nat -> Nat} {A s e u : Nat} {k : Int}
theorem anew_done (HV : HeapV H n c) (h : H.Ok L) (W : Work H.t H.p H.s n K st L' g) (R : AnewG H g L L' A s e k u) (hold : blocksOf (AuH.catTo (fun i => H.partsAt (A + i)) (s + e)) = []) :
  (nowH H n K st).Ok L' /\ (∀ i, i < 8 -> (nowH H n K st).V (22 + i) = H.V (22 + i)) /\ (nowH H n K st).V 0 = g 0 /\ (nowH H n K st).V 1 = g 1 /\ blocksOf (nowH H n K st).parts = blocksOf H.parts /\
   (0 < s -> (nowH H n K st).K A = 3 /\ (nowH H n K st).Cl A = k /\ (nowH H n K st).cel A 5 = u /\ (nowH H n K st).cel A 4 = 0) /\
   kindN 4 (nowH H n K st).parts + kindN 4 (AuH.catTo (fun i => H.partsAt (A + i)) (s + e)) = kindN 4 H.parts + if 0 < s then idleB u 0 (slotI k) else 0 := by
 have hlen := HV.len
 have hP := HV.fit.nums
 have hw := R.whole.le
 have hone := R.one
 have T := anew_laid HV h W R
 have hc : ∀ q b, q < H.p -> b < 6 -> b ≠ 2 -> b ≠ 3 -> (nowH H n K st).cel q b = g (pc H.t q b) := fun q b hq hb h2 h3 => W.cel hlen hq hb h2 h3
 have hs : 0 < s -> (nowH H n K st).K A = 3 /\ (nowH H n K st).Cl A = k /\ (nowH H n K st).cel A 5 = u /\ (nowH H n K st).cel A 4 = 0 := fun h0 => by
  refine ⟨?_, ?_, ?_, ?_⟩
  ·unfold AuH.K; rw [hc A 0 (by omega) (by omega) (by omega) (by omega), R.slab h0, infoG_slab R.k0 R.k8]
  ·unfold AuH.Cl; rw [hc A 0 (by omega) (by omega) (by omega) (by omega), R.slab h0, infoG_slab R.k0 R.k8]
  ·rw [hc A 5 (by omega) (by omega) (by omega) (by omega)]; exact (R.taken h0).1
  ·rw [hc A 4 (by omega) (by omega) (by omega) (by omega)]; exact (R.taken h0).2.1
 have hr : ∀ q, A <= q -> q < A + s + e -> ¬ (0 < s /\ q = A) -> (nowH H n K st).K q = 0 \/ (nowH H n K st).K q = 1 := fun q a1 a2 a3 => by
  by_cases b : 0 < e /\ q = A + s
  ·obtain ⟨b1, rfl⟩ := b
   refine .inr ?_
   unfold AuH.K
   rw [hc (A + s) 0 (by omega) (by omega) (by omega) (by omega), R.rest b1, infoG_free b1 (by omega)]
  ·refine .inl ((nowH H n K st).K_zero q ?_).1
   rw [hc q 0 (by omega) (by omega) (by omega) (by omega)]
   exact R.blank q a1 a2 a3 b
 refine ⟨T.ok h hP.2, T.roots, W.low hlen (.inl (by omega)), W.low hlen (.inl (by omega)), T.blocks ?_, hs, ?_⟩
 ·rw [hold]
  refine blocks_none _ fun i hi => ?_
  by_cases b : 0 < s /\ A + i = A
  ·show blocksOf ((nowH H n K st).partsAt (A + i)) = []
   rw [b.2]
   exact slab_dead (hs b.1).1 (hs b.1).2.2.2
  ·exact page_none (H := nowH H n K st) (hr (A + i) (by omega) (by omega) b)
 ·obtain ⟨r, _, f1, f2⟩ := T.parts
  have f2 : (nowH H n K st).parts = _ := f2
  rw [f1, f2, kindN_app, kindN_app, kindN_app, kindN_app]
  have g2 : kindN 4 (AuH.catTo (fun i => (H.re (curV n (getV n K st) H.V)).partsAt (A + i)) (s + e)) = if 0 < s then idleB u 0 (slotI k) else 0 := by
   show kindN 4 (AuH.catTo (fun i => (nowH H n K st).partsAt (A + i)) (s + e)) = _
   by_cases h0 : 0 < s
   ·rw [if_pos h0, kindN_only (i0 := 0) _ (by omega) (fun i hi hne => kindN_none (H := nowH H n K st) (hr (A + i) (by omega) (by omega) (by omega)))]
    show kindN 4 ((nowH H n K st).partsAt (A + 0)) = _
    rw [Nat.add_zero, kindN_slab (hs h0).1, (hs h0).2.1, (hs h0).2.2.1, (hs h0).2.2.2]
   ·rw [if_neg h0]
    exact kindN_zero _ (fun i hi => kindN_none (H := nowH H n K st) (hr (A + i) (by omega) (by omega) (by omega)))
  rw [g2]
  omega
theorem AroundS.parts {p A la lr : Nat} (a : AroundS H p A la lr) (h4 : H.cel p 4 = 0) : blocksOf (AuH.catTo (fun i => H.partsAt (A + i)) (la + 1 + lr)) = [] /\ kindN 4 (AuH.catTo (fun i => H.partsAt (A + i)) (la + 1 + lr)) = idleB (H.cel p 5) 0 (slotI (H.Cl p)) := by
 have hA := a.ahead
 have hk : ∀ i, i < la + 1 + lr -> i ≠ la -> H.K (A + i) = 0 \/ H.K (A + i) = 1 := fun i hi hne => by
  rcases a.kinds (A + i) (by omega) (by omega) with ⟨h1, _⟩ | ⟨_, _, h1⟩ | ⟨_, _, h1⟩ | ⟨h1, _⟩
  ·omega
  ·exact .inr h1
  ·exact .inr h1
  ·exact .inl h1
 refine ⟨blocks_none _ fun i hi => ?_, ?_⟩
 ·by_cases e1 : i = la
  ·show blocksOf (H.partsAt (A + i)) = []
   rw [e1, hA]
   exact slab_dead a.slab h4
  ·exact page_none (hk i hi e1)
 ·rw [kindN_only (i0 := la) _ (by omega) (fun i hi hne => kindN_none (hk i hi hne))]
  show kindN 4 (H.partsAt (A + la)) = _
  rw [hA, kindN_slab a.slab, h4]
end
end
section
section
variable (n : Nat) (K : Nat -> Option Nat) (t q s : Int)
def backS (k : Int) (p u : Nat) (full : Bool) (st : Vst) : Vst :=
 if full = true then pushI n K t q s (13 + k) p (putS n st (pageI t q s p 5) u) else putS n st (pageI t q s p 5) u
end
section
variable {t P s n : Nat} {K : Nat -> Option Nat} {st : Vst} {L : Nat -> List Nat} {g : Nat -> Nat} {p u : Nat} {k : Int}
theorem Work.back (W : Work t P s n K st L g) (hf : Fit t P s n) (hp : p < P) (k0 : 0 <= k) (k8 : k <= 8) {full : Bool} (hno : full = true -> ∀ x : Nat, 2 <= x -> x <= 21 -> ¬ p ∈ L x) :
  ∃ L', Work t P s n K (backS n K t P s k p u full st) L' (updF g (pc t p 5) u) /\ ∀ x : Nat, 2 <= x -> x <= 21 -> ∀ y, y ∈ L' x ↔ y ∈ L x \/ (full = true /\ y = p /\ ((x : Nat) : Int) = 13 + k) := by
 have hlen := hf.len
 have eh : 13 + k = ((13 + k.toNat : Nat) : Int) := by omega
 have W1 := W.put (i := pc t p 5) (by unfold pc; omega) (pc_far (by omega) (by omega) (by omega)) u
 unfold backS
 rw [hf.taken hp]
 cases full with
 | false =>
  rw [if_neg (by simp)]
  exact ⟨L, W1, fun x _ _ y => by simp⟩
 | true =>
  rw [if_pos rfl]
  obtain ⟨L', W2, m⟩ := W1.push hf (hd := 13 + k.toNat) (by omega) (by omega) hp (hno rfl)
  refine ⟨L', by rw [eh]; exact W2, fun x a2 a21 y => ?_⟩
  rw [m x a2 a21 y]
  constructor
  ·rintro (h | ⟨h1, h2⟩)
   ·exact .inl h
   ·exact .inr ⟨rfl, h1, by omega⟩
  ·rintro (h | ⟨_, h1, h2⟩)
   ·exact .inl h
   ·exact .inr ⟨h1, by omega⟩
end
section
variable {H : AuH} {n c : Nat} {K : Nat -> Option Nat} {st : Vst} {L L' : Nat -> List Nat} {p u : Nat}
theorem slabG_of (h : H.Ok L) (hp : p < H.p) (hk : H.K p = 3) (hu0 : u ≠ 0) (hu : u < 2 ^ slotI (H.Cl p)) (hs : SubB (H.cel p 4) u)
  (hm : ∀ hd : Nat, 2 <= hd -> hd <= 21 -> ∀ y, y ∈ L' hd ↔ (y ∈ L hd /\ y ≠ p) \/ (y = p /\ u ≠ 2 ^ slotI (H.Cl p) - 1 /\ ((hd : Nat) : Int) = 13 + H.Cl p)) :
  SlabG H (updF H.V (pc H.t p 5) u) L L' p u where
 at_ := hp
 kind := hk
 some_ := hu0
 lim := hu
 sub := hs
 taken := updF_pcE _ _ rfl
 cells := fun q b hq hb h2 h3 h4 => by rw [updF_pcN _ _ (by omega) hb (by omega)]; rfl
 low := fun i hi => updF_low _ _ (by omega)
 mem := hm
theorem slab_list (h : H.Ok L) (hp : p < H.p) (hk : H.K p = 3) {hd : Nat} (h2 : 2 <= hd) (h21 : hd <= 21) : p ∈ L hd ↔ H.cel p 5 ≠ 2 ^ slotI (H.Cl p) - 1 /\ ((hd : Nat) : Int) = 13 + H.Cl p := by
 rw [h.mem hd h2 h21 p]
 by_cases hf : H.cel p 5 = 2 ^ slotI (H.Cl p) - 1
 ·rw [AuH.tgt_full hk hf]
  constructor
  ·rintro ⟨_, x⟩; omega
  ·rintro ⟨x, _⟩; exact absurd hf x
 ·rw [AuH.tgt_slab hk hf]
  constructor
  ·rintro ⟨_, x⟩; exact ⟨hf, by omega⟩
  ·rintro ⟨_, x⟩; exact ⟨hp, by omega⟩
theorem slab_class (hk : H.K p = 3) : 0 <= H.Cl p /\ H.Cl p <= 8 := by have := H.K_cases p; omega
theorem give_slab (HV : HeapV H n c) (h : H.Ok L) (W : Work H.t H.p H.s n K st L H.V) (hp : p < H.p) (hk : H.K p = 3) (hu0 : u ≠ 0) (hu : u < 2 ^ slotI (H.Cl p)) (hs : SubB (H.cel p 4) u) (hlt : u ≠ 2 ^ slotI (H.Cl p) - 1) :
  ∃ L', Work H.t H.p H.s n K (backS n K H.t H.p H.s (H.Cl p) p u (decide (H.cel p 5 = 2 ^ slotI (H.Cl p) - 1)) st) L' (updF H.V (pc H.t p 5) u) /\ SlabG H (updF H.V (pc H.t p 5) u) L L' p u := by
 obtain ⟨k0, k8⟩ := slab_class hk
 obtain ⟨L', W', m⟩ := W.back HV.fit (u := u) hp k0 k8 (full := decide (H.cel p 5 = 2 ^ slotI (H.Cl p) - 1)) (fun hf x a2 a21 hx => ((slab_list h hp hk a2 a21).1 hx).1 (by simpa using hf))
 refine ⟨L', W', slabG_of h hp hk hu0 hu hs fun hd a2 a21 y => ?_⟩
 rw [m hd a2 a21 y]
 simp only [decide_eq_true_eq]
 by_cases e : y = p
 ·subst e
  rw [slab_list h hp hk a2 a21]
  constructor
  ·rintro (b1 | ⟨_, _, b2⟩)
   ·exact .inr ⟨rfl, hlt, b1.2⟩
   ·exact .inr ⟨rfl, hlt, b2⟩
  ·rintro (b1 | ⟨_, _, b3⟩)
   ·exact absurd rfl b1.2
   ·by_cases hf : H.cel y 5 = 2 ^ slotI (H.Cl y) - 1
    ·exact .inr ⟨hf, rfl, b3⟩
    ·exact .inl ⟨hf, b3⟩
 ·constructor
  ·rintro (b1 | b1)
   ·exact .inl ⟨b1, e⟩
   ·exact absurd b1.2.1 e
  ·rintro (b1 | b1)
   ·exact .inl b1.1
   ·exact absurd b1.1 e
end
end
section
theorem mem_catTo {α : Type} {f : Nat -> List α} {x : α} : ∀ {n : Nat}, x ∈ AuH.catTo f n ↔ ∃ i, i < n /\ x ∈ f i
 | 0 => by simp [AuH.catTo]
 | n + 1 => by
  show x ∈ AuH.catTo f n ++ f n ↔ _
  rw [List.mem_append, mem_catTo]
  constructor
  ·rintro (⟨i, h1, h2⟩ | h)
   ·exact ⟨i, by omega, h2⟩
   ·exact ⟨n, by omega, h⟩
  ·rintro ⟨i, h1, h2⟩
   by_cases h : i = n
   ·subst h; exact .inr h2
   ·exact .inl ⟨i, by omega, h2⟩
def AuH.hand (H : AuH) (q i : Nat) : Prop := q < H.p /\ H.K q = 3 /\ i < slotI (H.Cl q) /\ (H.cel q 5).testBit i = true /\ (H.cel q 4).testBit i = false
section
variable {H H' : AuH}
end
end
section
structure HandG (H H' : AuH) (P : Nat -> Nat -> Prop) : Prop where
 hand : ∀ q i, H'.hand q i ↔ P q i
 cls : ∀ q, q < H.p -> H.K q = 3 -> H'.K q = 3 -> H'.Cl q = H.Cl q /\ H'.cel q 4 = H.cel q 4
section
variable {H : AuH} {n c : Nat} {K : Nat -> Option Nat} {st : Vst} {L L' : Nat -> List Nat} {g : Nat -> Nat} {p u : Nat}
theorem slab_hand (HV : HeapV H n c) (W : Work H.t H.p H.s n K st L' g) (S : SlabG H g L L' p u) :
  HandG H (nowH H n K st) (fun q i => (q ≠ p /\ H.hand q i) \/ (q = p /\ i < slotI (H.Cl p) /\ u.testBit i = true /\ (H.cel p 4).testBit i = false)) := by
 have hlen := HV.len
 have hp := S.at_
 have hc : ∀ q b, q < H.p -> b < 6 -> b ≠ 2 -> b ≠ 3 -> ¬ (q = p /\ b = 5) -> (nowH H n K st).cel q b = H.cel q b := fun q b hq hb h2 h3 hne => (W.cel hlen hq hb h2 h3).trans (S.cells q b hq hb h2 h3 hne)
 have eK : ∀ q, q < H.p -> (nowH H n K st).K q = H.K q := fun q hq => by unfold AuH.K; rw [hc q 0 hq (by omega) (by omega) (by omega) (by omega)]
 have eC : ∀ q, q < H.p -> (nowH H n K st).Cl q = H.Cl q := fun q hq => by unfold AuH.Cl; rw [hc q 0 hq (by omega) (by omega) (by omega) (by omega)]
 have e5 : (nowH H n K st).cel p 5 = u := (W.cel hlen hp (b := 5) (by omega) (by omega) (by omega)).trans S.taken
 refine ⟨fun q i => ?_, fun q hq _ _ => ⟨eC q hq, hc q 4 hq (by omega) (by omega) (by omega) (by omega)⟩⟩
 constructor
 ·rintro ⟨a1, a2, a3, a4, a5⟩
  have a1 : q < H.p := a1
  rw [eK q a1] at a2
  rw [eC q a1] at a3
  rw [hc q 4 a1 (by omega) (by omega) (by omega) (by omega)] at a5
  by_cases e : q = p
  ·subst e
   rw [e5] at a4
   exact .inr ⟨rfl, a3, a4, a5⟩
  ·rw [hc q 5 a1 (by omega) (by omega) (by omega) (by omega)] at a4
   exact .inl ⟨e, a1, a2, a3, a4, a5⟩
 ·rintro (⟨e, a1, a2, a3, a4, a5⟩ | ⟨rfl, a3, a4, a5⟩)
  ·exact ⟨a1, by rw [eK q a1]; exact a2, by rw [eC q a1]; exact a3, by rw [hc q 5 a1 (by omega) (by omega) (by omega) (by omega)]; exact a4, by rw [hc q 4 a1 (by omega) (by omega) (by omega) (by omega)]; exact a5⟩
  ·exact ⟨hp, by rw [eK q hp]; exact S.kind, by rw [eC q hp]; exact a3, by rw [e5]; exact a4, by rw [hc q 4 hp (by omega) (by omega) (by omega) (by omega)]; exact a5⟩
end
section
variable {H : AuH} {n c : Nat} {K : Nat -> Option Nat} {st : Vst} {L L' : Nat -> List Nat} {g : Nat -> Nat} {A s e u : Nat} {k : Int}
theorem anew_hand (HV : HeapV H n c) (h : H.Ok L) (W : Work H.t H.p H.s n K st L' g) (R : AnewG H g L L' A s e k u) (hold : blocksOf (AuH.catTo (fun i => H.partsAt (A + i)) (s + e)) = [])
  (hk : ∀ q, A <= q -> q < A + s + e -> H.K q = 3 -> ¬ (0 < s /\ q = A)) :
  HandG H (nowH H n K st) (fun q i => (¬ (A <= q /\ q < A + s + e) /\ H.hand q i) \/ (0 < s /\ q = A /\ i < slotI k /\ u.testBit i = true)) := by
 have hlen := HV.len
 have hP := HV.fit.nums
 have hw := R.whole.le
 have hone := R.one
 obtain ⟨_, _, _, _, _, hs, _⟩ := anew_done HV h W R hold
 have hc : ∀ q b, q < H.p -> b < 6 -> b ≠ 2 -> b ≠ 3 -> (nowH H n K st).cel q b = g (pc H.t q b) := fun q b hq hb h2 h3 => W.cel hlen hq hb h2 h3
 have hin : ∀ q, A <= q -> q < A + s + e -> ¬ (0 < s /\ q = A) -> (nowH H n K st).K q ≠ 3 := fun q a1 a2 a3 => by
  by_cases b : 0 < e /\ q = A + s
  ·obtain ⟨b1, rfl⟩ := b
   have : (nowH H n K st).K (A + s) = 1 := by
    unfold AuH.K
    rw [hc (A + s) 0 (by omega) (by omega) (by omega) (by omega), R.rest b1, infoG_free b1 (by omega)]
   omega
  ·have := ((nowH H n K st).K_zero q (by rw [hc q 0 (by omega) (by omega) (by omega) (by omega)]; exact R.blank q a1 a2 a3 b)).1
   omega
 have ho : ∀ q, q < H.p -> ¬ (A <= q /\ q < A + s + e) -> (nowH H n K st).cel q 0 = H.cel q 0 /\ (nowH H n K st).cel q 4 = H.cel q 4 /\ (nowH H n K st).cel q 5 = H.cel q 5 := fun q hq hne =>
  ⟨(hc q 0 hq (by omega) (by omega) (by omega)).trans (R.infos q hq hne), (hc q 4 hq (by omega) (by omega) (by omega)).trans (R.bits q hq hne).1, (hc q 5 hq (by omega) (by omega) (by omega)).trans (R.bits q hq hne).2⟩
 refine ⟨fun q i => ?_, fun q hq h3 h3' => ?_⟩
 ·constructor
  ·rintro ⟨a1, a2, a3, a4, a5⟩
   have a1 : q < H.p := a1
   by_cases hi : A <= q /\ q < A + s + e
   ·by_cases b : 0 < s /\ q = A
    ·obtain ⟨b1, rfl⟩ := b
     obtain ⟨c1, c2, c3, c4⟩ := hs b1
     exact .inr ⟨b1, rfl, by rw [<- c2]; exact a3, by rw [<- c3]; exact a4⟩
    ·exact absurd a2 (hin q hi.1 hi.2 b)
   ·obtain ⟨b0, b4, b5⟩ := ho q a1 hi
    unfold AuH.K at a2
    unfold AuH.Cl at a3
    rw [b0] at a2 a3
    exact .inl ⟨hi, a1, a2, a3, by rw [<- b5]; exact a4, by rw [<- b4]; exact a5⟩
  ·rintro (⟨hi, a1, a2, a3, a4, a5⟩ | ⟨b1, rfl, a3, a4⟩)
   ·obtain ⟨b0, b4, b5⟩ := ho q a1 hi
    unfold AuH.K at a2
    unfold AuH.Cl at a3
    rw [<- b0] at a2 a3
    exact ⟨a1, a2, a3, by rw [b5]; exact a4, by rw [b4]; exact a5⟩
   ·obtain ⟨c1, c2, c3, c4⟩ := hs b1
    exact ⟨by show q < H.p; omega, c1, by rw [c2]; exact a3, by rw [c3]; exact a4, by rw [c4]; exact Nat.zero_testBit i⟩
 ·by_cases hi : A <= q /\ q < A + s + e
  ·exact absurd h3' (hin q hi.1 hi.2 (hk q hi.1 hi.2 h3))
  ·obtain ⟨b0, b4, _⟩ := ho q hq hi
   exact ⟨by unfold AuH.Cl; rw [b0], b4⟩
end
end
section
section
variable {H : AuH} {n c : Nat} {K : Nat -> Option Nat} {st st' : Vst} {L L' : Nat -> List Nat} {g : Nat -> Nat}
theorem slab_bits (h : H.Ok L) {p : Nat} (hp : p < H.p) (hk : H.K p = 3) : H.cel p 5 ≠ 0 /\ H.cel p 5 < 2 ^ slotI (H.Cl p) /\ SubB (H.cel p 4) (H.cel p 5) := (h.slots p hp).1 hk
end
end
section
def fullB (u : Nat) (k : Int) : Bool := decide (HM.onesTo u 32 = slotI k)
theorem fullB_is {u : Nat} {k : Int} (hu : u < 2 ^ slotI k) : fullB u k = decide (u = 2 ^ slotI k - 1) := decide_eq_decide.2 (AuH.ones_full hu (slotI_le k))
section
variable (n : Nat) (K : Nat -> Option Nat) (t q s : Int)
end
section
variable {n : Nat} {K : Nat -> Option Nat} {t q s : Int} {st s1 : Vst} {k : Int} {p w v : Nat}
end
section
variable {H : AuH} {n c : Nat} {K : Nat -> Option Nat} {st st' : Vst} {L L' : Nat -> List Nat} {g : Nat -> Nat}
end
end
section
def FewW (m : Nat) (s s' : Vst) : Prop := s'.wr.length <= s.wr.length + m
section
variable {n : Nat} {K : Nat -> Option Nat} {t q s hd : Int} {st s1 s2 : Vst} {a b m : Nat}
theorem FewW.refl (st : Vst) : FewW 0 st st := Nat.le_refl _
theorem FewW.trans (h1 : FewW a st s1) (h2 : FewW b s1 s2) : FewW (a + b) st s2 := by unfold FewW at *; omega
theorem FewW.more (h : FewW a st s1) (hab : a <= b) : FewW b st s1 := by unfold FewW at *; omega
theorem FewW.get (h : FewW a st s1) (c : Int) : FewW a st (getS n K s1 c) := by unfold FewW at *; rw [(get_len n K s1 c).2]; exact h
theorem FewW.put (h : FewW a st s1) (c : Int) (v : Nat) : FewW (a + 1) st (putS n s1 c v) := by unfold FewW at *; have := (put_len n s1 c v).1; omega
theorem FewW.pull (h : FewW a st s1) (p : Int) : FewW (a + 4) st (pullI n K t q s hd p s1) := by
 unfold pullI
 split
 ·unfold pullS
  have h2 : FewW (a + 2) st (pull2 n K t q s hd p.toNat s1) := by
   have h1 : FewW (a + 1) st (pull1 n K t q s hd p.toNat s1) := by
    unfold pull1 pull0
    split
    ·exact ((h.get _).get _).put _ _
    ·exact ((h.get _).get _).put _ _
   unfold pull2
   split
   ·exact h1.more (by omega)
   ·exact h1.put _ _
  exact (h2.put _ _).put _ _
 ·exact h.more (by omega)
theorem FewW.push (h : FewW a st s1) (p : Int) : FewW (a + 4) st (pushI n K t q s hd p s1) := by
 unfold pushI
 split
 ·have h1 : FewW (a + 2) st (push1 n K t q s hd p.toNat s1) := ((h.get _).put _ _).put _ _
  have h2 : FewW (a + 3) st (push2 n K t q s hd p.toNat s1) := by
   unfold push2
   split
   ·exact h1.more (by omega)
   ·exact h1.put _ _
  exact h2.put _ _
 ·exact h.more (by omega)
theorem FewW.drop (h : FewW a st s1) (p : Int) : FewW (a + 4) st (dropS n K t q s p s1) := by
 unfold dropS
 split
 ·split
  ·exact (h.get _).pull _
  ·exact (h.get _).more (by omega)
 ·exact h.more (by omega)
theorem FewW.add (h : FewW a st s1) (p l : Int) : FewW (a + 6) st (addS n K t q s p l s1) := by
 unfold addS
 split
 ·exact ((h.put _ _).put _ _).push _
 ·exact h.more (by omega)
theorem FewW.relL (h : FewW a st s1) (p : Nat) : FewW (a + 6) st (relL n K t q s p s1).1 := by
 unfold Go.Proofs.YtnmhdlpnimdffaaGreatDoor.relL
 split
 ·exact h.more (by omega)
 ·simp only
  split
  ·exact ((((h.get _).get _).drop _).put _ _).put _ _
  ·exact ((h.get _).get _).more (by omega)
theorem FewW.relR (h : FewW a st s1) (p : Nat) : FewW (a + 6) st (relR n K t q s p s1).1 := by
 unfold Go.Proofs.YtnmhdlpnimdffaaGreatDoor.relR
 split
 ·simp only
  split
  ·exact (((h.get _).drop _).put _ _).put _ _
  ·exact (h.get _).more (by omega)
 ·exact h.more (by omega)
theorem FewW.release (h : FewW a st s1) (p l : Nat) : FewW (a + 19) st (releaseS n K t q s p l s1) := by
 unfold releaseS moreS
 exact ((((h.relL _).relR _).add _ _).get _).put _ _
theorem FewW.back (h : FewW a st s1) (k : Int) (p u : Nat) (full : Bool) : FewW (a + 5) st (backS n K t q s k p u full s1) := by
 unfold backS
 split
 ·exact (h.put _ _).push _
 ·exact (h.put _ _).more (by omega)
end
end
section
section
variable (n : Nat) (K : Nat -> Option Nat) (t q s : Int)
def sweepAt (k : Int) (p l : Nat) (full : Bool) (st : Vst) : Vst :=
 if l = 0 then releaseS n K t q s p 1 (if full = true then putS n st (pageI t q s p 5) l else pullI n K t q s (13 + k) p (putS n st (pageI t q s p 5) l))
 else backS n K t q s k p l full st
def read3 (p : Nat) (st : Vst) : Vst := getS n K (getS n K (getS n K st (pageI t q s p 0)) (pageI t q s p 4)) (pageI t q s p 5)
def sweepI (p : Nat) (st : Vst) : Bool × Vst :=
  if (infoOf n K t q s (p : Int) st).1 = 3 then
    (if getV n K (getS n K st (pageI t q s p 0)) (pageI t q s p 4) = getV n K (getS n K (getS n K st (pageI t q s p 0)) (pageI t q s p 4)) (pageI t q s p 5) then (false, read3 n K t q s p st)
     else (true, sweepAt n K t q s (infoOf n K t q s (p : Int) st).2.2.1 p (getV n K (getS n K st (pageI t q s p 0)) (pageI t q s p 4)) (fullB (getV n K (getS n K (getS n K st (pageI t q s p 0)) (pageI t q s p 4)) (pageI t q s p 5)) (infoOf n K t q s (p : Int) st).2.2.1) (read3 n K t q s p st)))
  else (false, getS n K st (pageI t q s p 0))
def sweepP (p : Int) (st : Vst) : Bool × Vst := if pgB q p = true then sweepI n K t q s p.toNat st else (false, st)
def sweepTo : Nat -> Vst -> Nat × Vst
 | 0, st => (0, st)
 | m + 1, st => ((sweepTo m st).1 + (if (sweepI n K t q s m (sweepTo m st).2).1 = true then 1 else 0), (sweepI n K t q s m (sweepTo m st).2).2)
end
structure Swept (H H' : AuH) (L : Nat -> List Nat) (p : Nat) : Prop where
 ok : H'.Ok L
 roots : ∀ i, i < 8 -> H'.V (22 + i) = H.V (22 + i)
 live : H'.V 1 = H.V 1
 blocks : blocksOf H'.parts = blocksOf H.parts
 hand : ∀ q i, H'.hand q i ↔ H.hand q i /\ q ≠ p
 kinds : ∀ q, q < H.p -> (H'.K q = 3 ↔ H.K q = 3 /\ ¬ (q = p /\ H.cel p 4 = 0))
 bits : ∀ q, q < H.p -> H'.K q = 3 -> H'.cel q 4 = H.cel q 4
 free : H'.V 0 = H.V 0 + if H.K p = 3 /\ H.cel p 4 = 0 then 1 else 0
section
variable {H : AuH} {n c : Nat} {K : Nat -> Option Nat} {st : Vst} {L : Nat -> List Nat} {p : Nat}
theorem swept_same (h : H.Ok L) (hn : ∀ i, ¬ H.hand p i) (hz : ¬ (H.K p = 3 /\ H.cel p 4 = 0)) : Swept H H L p :=
 ⟨h, fun _ _ => rfl, rfl, rfl, fun q i => ⟨fun x => ⟨x, fun e => hn i (e ▸ x)⟩, fun x => x.1⟩, fun q _ => ⟨fun x => ⟨x, fun e => hz ⟨e.1 ▸ x, e.2⟩⟩, fun x => x.1⟩, fun _ _ _ => rfl, by rw [if_neg hz]; rfl⟩
theorem swept_some (HV : HeapV H n c) (h : H.Ok L) (W : Work H.t H.p H.s n K st L H.V) (hp : p < H.p) (hk : H.K p = 3) (h0 : H.cel p 4 ≠ 0) (hne : H.cel p 4 ≠ H.cel p 5) :
  ∃ L' g', Work H.t H.p H.s n K (sweepAt n K H.t H.p H.s (H.Cl p) p (H.cel p 4) (fullB (H.cel p 5) (H.Cl p)) st) L' g' /\
   Swept H (nowH H n K (sweepAt n K H.t H.p H.s (H.Cl p) p (H.cel p 4) (fullB (H.cel p 5) (H.Cl p)) st)) L' p := by
 obtain ⟨b0, b1, b2⟩ := slab_bits h hp hk
 have hlt4 : H.cel p 4 < 2 ^ slotI (H.Cl p) := by
  have hb : H.cel p 4 < 2 ^ 32 := HV.lt (pc H.t p 4) (by have := HV.len; unfold pc; omega)
  refine Nat.lt_pow_two_of_testBit _ fun j hj => ?_
  cases hx : (H.cel p 4).testBit j
  ·rfl
  ·exfalso
   have hj32 : j < 32 := by
    rcases Nat.lt_or_ge j 32 with hj2 | hj2
    ·exact hj2
    ·rw [Nat.testBit_lt_two_pow (Nat.lt_of_lt_of_le hb (Nat.pow_le_pow_right (by omega) hj2))] at hx
     cases hx
   have h5 := b2 j hj32 hx
   rw [Nat.testBit_lt_two_pow (Nat.lt_of_lt_of_le b1 (Nat.pow_le_pow_right (by omega) hj))] at h5
   cases h5
 have hnf : H.cel p 4 ≠ 2 ^ slotI (H.Cl p) - 1 := fun e => hne (by
  rw [e]
  apply Nat.eq_of_testBit_eq
  intro j
  rw [Nat.testBit_two_pow_sub_one]
  by_cases hj : j < slotI (H.Cl p)
  ·have h32 := slotI_le (H.Cl p)
   rw [b2 j (by omega) (by rw [e, Nat.testBit_two_pow_sub_one, decide_eq_true hj]), decide_eq_true hj]
  ·rw [decide_eq_false hj, Nat.testBit_lt_two_pow (Nat.lt_of_lt_of_le b1 (Nat.pow_le_pow_right (by omega) (by omega)))])
 unfold sweepAt
 rw [if_neg h0, fullB_is b1]
 obtain ⟨L', W', S⟩ := give_slab HV h W hp hk h0 hlt4 (fun j _ hj => hj) hnf
 obtain ⟨d1, d2, d3, d4, d5, d6, d7, d8, d9, d10⟩ := slab_done HV h W' S
 obtain ⟨k1, k2⟩ := slab_hand HV W' S
 have hlen := HV.len
 have hc : ∀ q b, q < H.p -> b < 6 -> b ≠ 2 -> b ≠ 3 -> b ≠ 5 -> (nowH H n K (backS n K H.t H.p H.s (H.Cl p) p (H.cel p 4) (decide (H.cel p 5 = 2 ^ slotI (H.Cl p) - 1)) st)).cel q b = H.cel q b := fun q b hq hb h2 h3 h5 => (W'.cel hlen hq hb h2 h3).trans (S.cells q b hq hb h2 h3 (by omega))
 refine ⟨L', _, W', d1, d2, d4, d5, fun q i => ?_, fun q hq => ?_, fun q hq _ => hc q 4 hq (by omega) (by omega) (by omega) (by omega), by rw [d3, if_neg (fun x => h0 x.2)]; rfl⟩
 ·rw [k1]
  constructor
  ·rintro (⟨a1, a2⟩ | ⟨_, _, a3, a4⟩)
   ·exact ⟨a2, a1⟩
   ·rw [a3] at a4; cases a4
  ·exact fun x => .inl ⟨x.2, x.1⟩
 ·have : (nowH H n K (backS n K H.t H.p H.s (H.Cl p) p (H.cel p 4) (decide (H.cel p 5 = 2 ^ slotI (H.Cl p) - 1)) st)).K q = H.K q := by unfold AuH.K; rw [hc q 0 hq (by omega) (by omega) (by omega) (by omega)]
  rw [this]
  exact ⟨fun x => ⟨x, fun e => h0 e.2⟩, fun x => x.1⟩
theorem swept_none (HV : HeapV H n c) (h : H.Ok L) (W : Work H.t H.p H.s n K st L H.V) (hp : p < H.p) (hk : H.K p = 3) (h4 : H.cel p 4 = 0) :
  ∃ L' g', Work H.t H.p H.s n K (sweepAt n K H.t H.p H.s (H.Cl p) p (H.cel p 4) (fullB (H.cel p 5) (H.Cl p)) st) L' g' /\
   Swept H (nowH H n K (sweepAt n K H.t H.p H.s (H.Cl p) p (H.cel p 4) (fullB (H.cel p 5) (H.Cl p)) st)) L' p := by
 have hlen := HV.len
 obtain ⟨b0, b1, b2⟩ := slab_bits h hp hk
 have W1 := W.put (i := pc H.t p 5) (by unfold pc; omega) (pc_far (by omega) (by omega) (by omega)) 0
 rw [<- HV.fit.taken hp] at W1
 obtain ⟨L1, W2, m1⟩ := unrack HV h W1 hp hk
 obtain ⟨L', g', A, la, lr, W', R, a, z1, z0⟩ := empty_from HV h W2 m1 hp hk h4
 unfold sweepAt
 rw [if_pos h4, h4, fullB_is b1]
 have hA := a.ahead
 have hle := a.le
 obtain ⟨p1, p2⟩ := a.parts h4
 have p1' : blocksOf (AuH.catTo (fun i => H.partsAt (A + i)) (0 + (la + 1 + lr))) = [] := by rw [Nat.zero_add]; exact p1
 obtain ⟨d1, d2, d3, d4, d5, _, d7⟩ := anew_done HV h W' R p1'
 obtain ⟨k1, k2⟩ := anew_hand HV h W' R p1' (fun q _ _ _ b => by omega)
 have hkin : ∀ q, A <= q -> q < A + 0 + (la + 1 + lr) -> q ≠ p -> H.K q ≠ 3 := fun q a1 a2 a3 => by
  rcases a.kinds q (by omega) (by omega) with ⟨h1, _⟩ | ⟨_, _, h1⟩ | ⟨_, _, h1⟩ | ⟨h1, _⟩
  ·exact absurd h1 a3
  ·omega
  ·omega
  ·omega
 generalize hst : releaseS n K (H.t : Int) (H.p : Int) (H.s : Int) p 1 _ = s' at *
 have hce : ∀ q b, q < H.p -> b < 6 -> b ≠ 2 -> b ≠ 3 -> (nowH H n K s').cel q b = g' (pc H.t q b) := fun q b hq hb h2 h3 => W'.cel hlen hq hb h2 h3
 have hin : ∀ q, A <= q -> q < A + 0 + (la + 1 + lr) -> (nowH H n K s').K q ≠ 3 := fun q a1 a2 => by
  by_cases hqA : q = A
  ·have : (nowH H n K s').K q = 1 := by
    unfold AuH.K
    rw [hce q 0 (by omega) (by omega) (by omega) (by omega)]
    have := R.rest (by omega)
    rw [Nat.add_zero, <- hqA] at this
    rw [this, infoG_free (by omega) (by have := HV.fit.nums; omega)]
   omega
  ·have := ((nowH H n K s').K_zero q (by
    rw [hce q 0 (by omega) (by omega) (by omega) (by omega)]
    exact R.blank q (by omega) (by omega) (by omega) (by omega))).1
   omega
 have hout : ∀ q, q < H.p -> ¬ (A <= q /\ q < A + 0 + (la + 1 + lr)) -> (nowH H n K s').K q = H.K q /\ (nowH H n K s').cel q 4 = H.cel q 4 := fun q hq hx => by
  constructor
  ·unfold AuH.K
   rw [hce q 0 hq (by omega) (by omega) (by omega), R.infos q hq hx]
  ·rw [hce q 4 hq (by omega) (by omega) (by omega), (R.bits q hq hx).1]
 refine ⟨L', g', W', d1, d2, by rw [d4, z1], d5, fun q i => ?_, fun q hq => ?_, fun q hq hkq => ?_, by rw [d3, z0, if_pos ⟨hk, h4⟩]⟩
 ·constructor
  ·intro hx
   rcases (k1 q i).1 hx with ⟨e1, e2⟩ | ⟨e, _⟩
   ·exact ⟨e2, fun e => e1 ⟨by omega, by omega⟩⟩
   ·omega
  ·rintro ⟨hx, hne⟩
   exact (k1 q i).2 (.inl ⟨fun e2 => hkin q e2.1 e2.2 hne hx.2.1, hx⟩)
 ·by_cases hx : A <= q /\ q < A + 0 + (la + 1 + lr)
  ·constructor
   ·exact fun e => absurd e (hin q hx.1 hx.2)
   ·rintro ⟨e1, e2⟩
    by_cases e : q = p
    ·exact absurd ⟨e, h4⟩ e2
    ·exact absurd e1 (hkin q hx.1 hx.2 e)
  ·rw [(hout q hq hx).1]
   exact ⟨fun e => ⟨e, fun e2 => hx ⟨by omega, by omega⟩⟩, fun e => e.1⟩
 ·by_cases hx : A <= q /\ q < A + 0 + (la + 1 + lr)
  ·exact absurd hkq (hin q hx.1 hx.2)
  ·exact (hout q hq hx).2
theorem sweep_heap (HV : HeapV H n c) (h : H.Ok L) (W : Work H.t H.p H.s n K st L H.V) (hs : nowH H n K st = H) (hp : p < H.p) :
  ∃ L' g', Work H.t H.p H.s n K (sweepI n K H.t H.p H.s p st).2 L' g' /\ Swept H (nowH H n K (sweepI n K H.t H.p H.s p st).2) L' p /\
   ((sweepI n K H.t H.p H.s p st).1 = true \/ (sweepI n K H.t H.p H.s p st).2.wr = st.wr) /\ FewW 24 st (sweepI n K H.t H.p H.s p st).2 /\
   ((∀ i, ¬ H.hand p i) -> (sweepI n K H.t H.p H.s p st).1 = false) := by
 have hlen := HV.len
 have hI : infoOf n K H.t H.p H.s (p : Int) st = (H.K p, H.L p, H.Cl p, H.ok p) := (W.infoAt HV.fit hp).trans (H.info_eq p)
 have W1 := W.get (pageI H.t H.p H.s p 0)
 have W2 := W1.get (pageI H.t H.p H.s p 4)
 have W3 := W2.get (pageI H.t H.p H.s p 5)
 have h4 : getV n K (getS n K st (pageI H.t H.p H.s p 0)) (pageI H.t H.p H.s p 4) = H.cel p 4 := by
  rw [show (4 : Int) = ((4 : Nat) : Int) from rfl, HV.page hp (by omega)]
  exact W1.near _ (by omega) (pc_far (q := p) (b := 4) (by omega) (by omega) (by omega))
 have h5 : getV n K (getS n K (getS n K st (pageI H.t H.p H.s p 0)) (pageI H.t H.p H.s p 4)) (pageI H.t H.p H.s p 5) = H.cel p 5 := by
  rw [show (5 : Int) = ((5 : Nat) : Int) from rfl, HV.page hp (by omega)]
  exact W2.near _ (by omega) (pc_far (q := p) (b := 5) (by omega) (by omega) (by omega))
 have n1 : nowH H n K (getS n K st (pageI H.t H.p H.s p 0)) = H := by unfold nowH; rw [(W.vw.get _).2]; exact hs
 have n3 : nowH H n K (read3 n K H.t H.p H.s p st) = H := by unfold nowH read3; rw [(W2.vw.get _).2, (W1.vw.get _).2, (W.vw.get _).2]; exact hs
 have w3 : (read3 n K H.t H.p H.s p st).wr = st.wr := by unfold read3; rw [(get_len n K _ _).2, (get_len n K _ _).2, (get_len n K _ _).2]
 have f3 : FewW 0 st (read3 n K H.t H.p H.s p st) := (((FewW.refl st).get _).get _).get _
 unfold sweepI
 rw [hI, h4, h5]
 by_cases hk : H.K p = 3
 ·rw [if_pos hk]
  by_cases he : H.cel p 4 = H.cel p 5
  ·rw [if_pos he]
   have hno : ∀ i, ¬ H.hand p i := fun i hx => by
    have a := hx.2.2.2.1
    rw [<- he, hx.2.2.2.2] at a
    cases a
   refine ⟨L, H.V, W3, ?_, .inr w3, f3.more (by omega), fun _ => rfl⟩
   show Swept H (nowH H n K (read3 n K H.t H.p H.s p st)) L p
   rw [n3]
   exact swept_same h hno (fun x => (slab_bits h hp hk).1 (by rw [<- he]; exact x.2))
  ·rw [if_neg he]
   have hy : ∃ i, H.hand p i := by
    obtain ⟨b0, b1, b2⟩ := slab_bits h hp hk
    apply Classical.byContradiction
    intro hno
    apply he
    apply Nat.eq_of_testBit_eq
    intro j
    rcases Nat.lt_or_ge j (slotI (H.Cl p)) with hj | hj
    ·have h32 := slotI_le (H.Cl p)
     cases hx : (H.cel p 4).testBit j
     ·cases hy : (H.cel p 5).testBit j
      ·rfl
      ·exact absurd ⟨j, hp, hk, hj, hy, hx⟩ hno
     ·exact (b2 j (by omega) hx).symm
    ·rw [Nat.testBit_lt_two_pow (Nat.lt_of_lt_of_le b1 (Nat.pow_le_pow_right (by omega) hj))]
     cases hx : (H.cel p 4).testBit j
     ·rfl
     ·have hb : H.cel p 4 < 2 ^ 32 := HV.lt (pc H.t p 4) (by unfold pc; omega)
      rcases Nat.lt_or_ge j 32 with hj2 | hj2
      ·have := b2 j hj2 hx
       rw [Nat.testBit_lt_two_pow (Nat.lt_of_lt_of_le b1 (Nat.pow_le_pow_right (by omega) hj))] at this
       cases this
      ·rw [Nat.testBit_lt_two_pow (Nat.lt_of_lt_of_le hb (Nat.pow_le_pow_right (by omega) hj2))] at hx
       cases hx
   have hw : ∀ k u b, FewW 24 st (sweepAt n K H.t H.p H.s k p u b (read3 n K H.t H.p H.s p st)) := fun k u b => by
    unfold sweepAt
    split
    ·split
     ·exact ((f3.put _ _).release _ _).more (by omega)
     ·exact (((f3.put _ _).pull _).release _ _).more (by omega)
    ·exact (f3.back _ _ _ _).more (by omega)
   by_cases h0 : H.cel p 4 = 0
   ·obtain ⟨L', g', W', S⟩ := swept_none HV h W3 hp hk h0
    exact ⟨L', g', W', S, .inl rfl, hw _ _ _, fun hno => absurd hy.choose_spec (hno _)⟩
   ·obtain ⟨L', g', W', S⟩ := swept_some HV h W3 hp hk h0 he
    exact ⟨L', g', W', S, .inl rfl, hw _ _ _, fun hno => absurd hy.choose_spec (hno _)⟩
 ·rw [if_neg hk]
  refine ⟨L, H.V, W1, ?_, .inr (get_len n K st _).2, ((FewW.refl st).get _).more (by omega), fun _ => rfl⟩
  show Swept H (nowH H n K (getS n K st (pageI H.t H.p H.s p 0))) L p
  rw [n1]
  exact swept_same h (fun i hx => hk hx.2.1) (fun x => hk x.1)
end
end
end Go.Proofs.YtnmhdlpnimdffaaGreatDoor

namespace Go.Proofs.YtnmhdlpnimdffaaGreatDoor
open Go.ChangeShapes Go.WideShapes Go.ChangeAt Go.RowKit Go.Maps
set_option linter.unusedVariables false
set_option linter.unusedSimpArgs false
set_option maxRecDepth 100000
section
structure Blk where
 n : Nat
 t : TypeId
 cs : Array Value
def GB (G : Nat -> Prop) (L : List Blk) : Nat -> Prop := fun g => G g \/ ∃ x, x ∈ L /\ x.n = g

structure WL (O : Ob) (w0 : World) (A G : Nat -> Prop) (ws : World) (L : List Blk) (st : Vst) (w : World) : Prop where
 at_ : O.At w0 A (GB G L) st w
 held : ∀ x ∈ L, Held w x.n x.t x.cs
 stay : Stay G ws w
 lo : ∀ x ∈ L, ws.heap.size <= x.n
 nd : (L.map (·.n)).Nodup

section
variable {O : Ob} {w0 ws w w' : World} {A G : Nat -> Prop} {L : List Blk} {x y z : Blk} {st s' : Vst}
theorem WL.start (h : O.At w0 A G st ws) : WL O w0 A G ws [] st ws :=
 ⟨h.less (fun g hg => by
  rcases hg with hg | ⟨x, hx, _⟩
  ·exact hg
  ·exact absurd hx (List.not_mem_nil)), fun x hx => absurd hx (List.not_mem_nil), Stay.of_below (B0 _) G, fun x hx => absurd hx (List.not_mem_nil), List.nodup_nil⟩
theorem WL.keep (h : WL O w0 A G ws L st w) (hb : Below w.heap.size w w') : WL O w0 A G ws L st w' :=
 ⟨h.at_.keep hb, fun x hx => (h.held x hx).keep hb, h.stay.trans (Stay.of_below hb G), h.lo, h.nd⟩
theorem WL.drew (h : WL O w0 A G ws L st w) : WL O w0 A G ws L st w.drew := h.keep (Bdrew (B0 w))
theorem WL.alloc (h : WL O w0 A G ws L st w) (o : Obj) : WL O w0 A G ws L st (w.alloc o) := h.keep (Bnew (B0 w) o)
theorem WL.call (h : WL O w0 A G ws L st w) (h1 : O.At w0 A (GB G L) s' w') (h2 : Stay (GB G L) w w') : WL O w0 A G ws L s' w' :=
 ⟨h1, fun x hx => h2.held (.inr ⟨x, hx, rfl⟩) (h.held x hx), h.stay.trans (h2.less fun g x => .inl x), h.lo, h.nd⟩
theorem WL.fin (h : WL O w0 A G ws L st w) : O.At w0 A G st w /\ Stay G ws w := ⟨h.at_.less fun g x => .inl x, h.stay⟩
theorem WL.new (h : WL O w0 A G ws L st w) (t : TypeId) (cs : Array Value) : WL O w0 A G ws (⟨w.heap.size, t, cs⟩ :: L) st (w.alloc (.cells cs t)) := by
 have hk := h.alloc (.cells cs t)
 refine ⟨(h.at_.box (.cells cs t)).less (fun g hg => ?_), fun x hx => ?_, hk.stay, fun x hx => ?_, ?_⟩
 ·rcases hg with hg | ⟨x, hx, rfl⟩
  ·exact .inl (.inl hg)
  ·rcases List.mem_cons.1 hx with rfl | hx
   ·exact .inr rfl
   ·exact .inl (.inr ⟨x, hx, rfl⟩)
 ·rcases List.mem_cons.1 hx with rfl | hx
  ·exact Held.new w t cs
  ·exact hk.held x hx
 ·rcases List.mem_cons.1 hx with rfl | hx
  ·exact h.stay.1
  ·exact h.lo x hx
 ·rw [List.map_cons]
  refine List.nodup_cons.2 ⟨fun hm => ?_, h.nd⟩
  obtain ⟨x, hx, e⟩ := List.mem_map.1 hm
  have h1 := (h.held x hx).lt
  have e : x.n = w.heap.size := e
  omega
theorem WL.put (h : WL O w0 A G ws (x :: L) st w) (i : Nat) (v : Value) : WL O w0 A G ws (⟨x.n, x.t, x.cs.setIfInBounds i v⟩ :: L) st (w.setCell ⟨x.n, i, none⟩ v) := by
 have hnd := List.nodup_cons.1 h.nd
 have hlo := h.lo x (List.mem_cons_self ..)
 refine ⟨(h.at_.put (p := ⟨x.n, i, none⟩) (.inr ⟨x, List.mem_cons_self .., rfl⟩) v).less (fun g hg => ?_), fun y hy => ?_, ⟨by simp; exact h.stay.1, fun g hg hl => (Below.heap_setCell w ⟨x.n, i, none⟩ v g (fun e => by have e : g = x.n := e; omega)).trans (h.stay.2 g hg hl)⟩, fun y hy => ?_, h.nd⟩
 ·rcases hg with hg | ⟨y, hy, rfl⟩
  ·exact .inl hg
  ·rcases List.mem_cons.1 hy with rfl | hy
   ·exact .inr ⟨x, List.mem_cons_self .., rfl⟩
   ·exact .inr ⟨y, List.mem_cons_of_mem _ hy, rfl⟩
 ·rcases List.mem_cons.1 hy with rfl | hy
  ·exact (h.held x (List.mem_cons_self ..)).put i v
  ·refine (h.held y (List.mem_cons_of_mem _ hy)).far (p := ⟨x.n, i, none⟩) (fun e => hnd.1 ?_) v
   have e : y.n = x.n := e
   exact List.mem_map.2 ⟨y, hy, e⟩
 ·rcases List.mem_cons.1 hy with rfl | hy
  ·exact hlo
  ·exact h.lo y (List.mem_cons_of_mem _ hy)
theorem WL.swap (h : WL O w0 A G ws (x :: y :: L) st w) : WL O w0 A G ws (y :: x :: L) st w := by
 refine ⟨h.at_.less (fun g hg => ?_), fun z hz => h.held z (by simp at hz ⊢; rcases hz with e | e | e <;> simp [e]), h.stay, fun z hz => h.lo z (by simp at hz ⊢; rcases hz with e | e | e <;> simp [e]), ?_⟩
 ·rcases hg with hg | ⟨z, hz, e⟩
  ·exact .inl hg
  ·exact .inr ⟨z, by simp at hz ⊢; rcases hz with e | e | e <;> simp [e], e⟩
 ·have := h.nd
  simp only [List.map_cons, List.nodup_cons, List.mem_cons, not_or] at this ⊢
  exact ⟨⟨fun e => this.1.1 e.symm, this.2.1⟩, this.1.2, this.2.2⟩
theorem WL.h0 (h : WL O w0 A G ws (x :: L) st w) : Held w x.n x.t x.cs := h.held x (List.mem_cons_self ..)
theorem WL.h1 (h : WL O w0 A G ws (x :: y :: L) st w) : Held w y.n y.t y.cs := h.held y (List.mem_cons_of_mem _ (List.mem_cons_self ..))
theorem WL.h2 (h : WL O w0 A G ws (x :: y :: z :: L) st w) : Held w z.n z.t z.cs := h.held z (List.mem_cons_of_mem _ (List.mem_cons_of_mem _ (List.mem_cons_self ..)))
theorem vWL_lt {base b n : Nat} {wh : Bool} {K : Nat -> Option Nat} (h : WL (vOb base b n wh K) w0 A G ws L st w) (a : Int) : getV n K st a < 2 ^ 32 := vAt_lt h.at_ a
theorem rWL_lt {base b n : Nat} {all : Bool} {K : Nat -> Option Nat} (h : WL (rOb base b n all K) w0 A G ws L st w) (a : Int) : getV n K st a < 2 ^ 32 := rAt_lt h.at_ a
end
end
end Go.Proofs.YtnmhdlpnimdffaaGreatDoor
