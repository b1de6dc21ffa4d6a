/-
  Behind a change of a slab's taken slots: the same live blocks; how many slots are taken, and not live. No program is named here but for the Views'.
-/
import Derived.Test.YtioolaaphbddbaaGreatDoorQ15
namespace Go.Proofs.YtioolaaphbddbaaGreatDoor
open Go.ChangeShapes Go.WideShapes Go.ChangeAt Go.RowKit Go.Maps
set_option linter.unusedVariables false
set_option linter.unusedSimpArgs false
section
def kindN (d : Int) (l : List (Int × Int × Int)) : Nat := (l.filter fun x => decide (x.1 = d)).length
theorem kindN_app (d : Int) (l m : List (Int × Int × Int)) : kindN d (l ++ m) = kindN d l + kindN d m := by unfold kindN; rw [List.filter_append, List.length_append]
def idleB (u v : Nat) : Nat → Nat
  | 0 => 0
  | k + 1 => idleB u v k + if u.testBit k = true ∧ v.testBit k = false then 1 else 0
section
variable {H H' : AuH} {q : Nat}
theorem slotKd_live (u v : Nat) (i : Nat) : (slotKd u v i = 2 ↔ v.testBit i = true) ∧ (slotKd u v i = 4 ↔ u.testBit i = true ∧ v.testBit i = false) := by
  unfold slotKd
  cases hv : v.testBit i <;> cases hu : u.testBit i <;> simp [hv, hu]
theorem kindN_slots (k : Nat) : kindN 4 (H.slotsTo q k) = idleB (H.cel q 5) (H.cel q 4) k := by
  induction k with
  | zero => rfl
  | succ k ih =>
    rw [AuH.slotsTo_succ, kindN_app, ih]
    show _ + kindN 4 [H.slotPart q k] = idleB _ _ k + _
    have h := (slotKd_live (H.cel q 5) (H.cel q 4) k).2
    congr 1
    unfold kindN AuH.slotPart
    by_cases hb : (H.cel q 5).testBit k = true ∧ (H.cel q 4).testBit k = false
    · rw [if_pos hb, h.2 hb]; rfl
    · rw [if_neg hb]
      have : ((slotKd (H.cel q 5) (H.cel q 4) k : Nat) : Int) ≠ 4 := fun e => hb (h.1 (by omega))
      simp [this]
theorem kindN_slack : kindN 4 (H.slack q) = 0 ∧ blocksOf (H.slack q) = [] := by
  unfold AuH.slack kindN
  split
  · exact ⟨by simp, blocksOf_no (by simp)⟩
  · exact ⟨rfl, rfl⟩
theorem kindN_slab (hk : H.K q = 3) : kindN 4 (H.partsAt q) = idleB (H.cel q 5) (H.cel q 4) (slotI (H.Cl q)) := by
  unfold AuH.partsAt
  rw [if_neg (by omega), if_neg (by omega), if_pos hk, kindN_app, kindN_slots, kindN_slack.1]
  rfl
theorem blocks_slots (hf : H'.first q = H.first q) (hz : H'.zs q = H.zs q) (h4 : H'.cel q 4 = H.cel q 4) (k : Nat) : blocksOf (H'.slotsTo q k) = blocksOf (H.slotsTo q k) := by
  induction k with
  | zero => rfl
  | succ k ih =>
    rw [AuH.slotsTo_succ, AuH.slotsTo_succ, blocksOf_app, blocksOf_app, ih]
    congr 1
    have h1 := (slotKd_live (H.cel q 5) (H.cel q 4) k).1
    have h2 := (slotKd_live (H'.cel q 5) (H'.cel q 4) k).1
    rw [h4] at h2
    unfold AuH.slotPart
    rw [hf, hz, h4]
    by_cases hb : (H.cel q 4).testBit k = true
    · rw [h1.2 hb, h2.2 hb]
    · rw [blocksOf_no (by intro e; exact hb (h2.1 (by have e : ((slotKd (H'.cel q 5) (H.cel q 4) k : Nat) : Int) = 2 := e; omega))), blocksOf_no (by intro e; exact hb (h1.1 (by have e : ((slotKd (H.cel q 5) (H.cel q 4) k : Nat) : Int) = 2 := e; omega)))]
theorem blocks_slab (hs : H'.s = H.s) (hk : H.K q = 3) (hk' : H'.K q = 3) (hc : H'.Cl q = H.Cl q) (h4 : H'.cel q 4 = H.cel q 4) : blocksOf (H'.partsAt q) = blocksOf (H.partsAt q) := by
  have e1 : H'.first q = H.first q := by unfold AuH.first AuH.pg; rw [hs]
  have e2 : H'.zs q = H.zs q := by unfold AuH.zs; rw [hs, hc]
  have e3 : H'.sl q = H.sl q := by unfold AuH.sl; rw [hc]
  unfold AuH.partsAt
  rw [if_neg (by omega), if_neg (by omega), if_pos hk', if_neg (by omega), if_neg (by omega), if_pos hk, blocksOf_app, blocksOf_app, kindN_slack.2, kindN_slack.2, e3, blocks_slots e1 e2 h4]
end
section
variable {H : AuH} {n c : Nat} {K : Nat → Option Nat} {st : Vst} {L L' : Nat → List Nat} {g : Nat → Nat} {p u : Nat}
theorem slab_done (HV : HeapV H n c) (h : H.Ok L) (W : Work H.t H.p H.s n K st L' g) (S : SlabG H g L L' p u) :
    (nowH H n K st).Ok L' ∧ (∀ i, i < 8 → (nowH H n K st).V (22 + i) = H.V (22 + i)) ∧ (nowH H n K st).V 0 = H.V 0 ∧ (nowH H n K st).V 1 = H.V 1 ∧ blocksOf (nowH H n K st).parts = blocksOf H.parts ∧
      (nowH H n K st).K p = 3 ∧ (nowH H n K st).Cl p = H.Cl p ∧ (nowH H n K st).cel p 5 = u ∧ (nowH H n K st).cel p 4 = H.cel p 4 ∧
      kindN 4 (nowH H n K st).parts + idleB (H.cel p 5) (H.cel p 4) (slotI (H.Cl p)) = kindN 4 H.parts + idleB u (H.cel p 4) (slotI (H.Cl p)) := by
  have hlen := HV.len
  have hp := S.at_
  have T := slab_laid HV h W S
  have e0 : (nowH H n K st).cel p 0 = H.cel p 0 := (W.cel hlen hp (b := 0) (by omega) (by omega) (by omega)).trans (S.cells p 0 hp (by omega) (by omega) (by omega) (by omega))
  have e4 : (nowH H n K st).cel p 4 = H.cel p 4 := (W.cel hlen hp (b := 4) (by omega) (by omega) (by omega)).trans (S.cells p 4 hp (by omega) (by omega) (by omega) (by omega))
  have e5 : (nowH H n K st).cel p 5 = u := (W.cel hlen hp (b := 5) (by omega) (by omega) (by omega)).trans S.taken
  have eK : (nowH H n K st).K p = 3 := by unfold AuH.K; rw [e0]; exact S.kind
  have eC : (nowH H n K st).Cl p = H.Cl p := by unfold AuH.Cl; rw [e0]
  have hbl := blocks_slab (H := H) (H' := nowH H n K st) rfl S.kind eK eC e4
  refine ⟨T.ok h (by have := HV.fit.nums; omega), T.roots, (W.low hlen (.inl (by omega))).trans (S.low 0 (by omega)), (W.low hlen (.inl (by omega))).trans (S.low 1 (by omega)), ?_, eK, eC, e5, e4, ?_⟩
  · refine T.blocks ?_
    show blocksOf ([] ++ (nowH H n K st).partsAt (p + 0)) = blocksOf ([] ++ H.partsAt (p + 0))
    rw [Nat.add_zero, List.nil_append, List.nil_append]
    exact hbl
  · obtain ⟨r, _, f1, f2⟩ := T.parts
    have f2 : (nowH H n K st).parts = _ := f2
    rw [f1, f2, kindN_app, kindN_app, kindN_app, kindN_app]
    have g1 : kindN 4 (AuH.catTo (fun i => H.partsAt (p + i)) 1) = idleB (H.cel p 5) (H.cel p 4) (slotI (H.Cl p)) := by
      show kindN 4 ([] ++ H.partsAt (p + 0)) = _
      rw [Nat.add_zero, List.nil_append]
      exact kindN_slab S.kind
    have g2 : kindN 4 (AuH.catTo (fun i => (nowH H n K st).partsAt (p + i)) 1) = idleB u (H.cel p 4) (slotI (H.Cl p)) := by
      show kindN 4 ([] ++ (nowH H n K st).partsAt (p + 0)) = _
      rw [Nat.add_zero, List.nil_append, kindN_slab eK, e5, e4, eC]
    rw [g1]
    have g2 : kindN 4 (AuH.catTo (fun i => (H.re (curV n (getV n K st) H.V)).partsAt (p + i)) 1) = idleB u (H.cel p 4) (slotI (H.Cl p)) := g2
    rw [g2]
    omega
end
end
section
theorem infoG_slab {k : Int} (h1 : 0 ≤ k) (h2 : k ≤ 8) : infoG (infoV 3 1 k) = (3, 1, k, true) := infoG_put (infoB_yes (by unfold infoP; omega))
structure AnewG (H : AuH) (g : Nat → Nat) (L L' : Nat → List Nat) (A s e : Nat) (k : Int) (u : Nat) : Prop where
  pos : 0 < s + e
  one : s ≤ 1
  k0 : 0 ≤ k
  k8 : k ≤ 8
  whole : H.Whole A (A + s + e)
  left : s = 0 → ∀ q, q < A → H.K q = 1 → H.nx q ≠ A
  right : 0 < e → A + s + e < H.p → H.K (A + s + e) ≠ 1
  slab : 0 < s → g (pc H.t A 0) = infoV 3 1 k
  rest : 0 < e → g (pc H.t (A + s) 0) = infoV 1 (e : Int) 0
  blank : ∀ q, A ≤ q → q < A + s + e → ¬ (0 < s ∧ q = A) → ¬ (0 < e ∧ q = A + s) → g (pc H.t q 0) = 0
  infos : ∀ q, q < H.p → ¬ (A ≤ q ∧ q < A + s + e) → g (pc H.t q 0) = H.cel q 0
  footu : 0 < s → g (pc H.t A 1) = A + 1
  footr : 0 < e → g (pc H.t (A + s + e - 1) 1) = A + s + 1
  blankf : ∀ q, A ≤ q → q < A + s + e → ¬ (0 < s ∧ q = A) → ¬ (0 < e ∧ q = A + s + e - 1) → g (pc H.t q 1) = 0
  feet : ∀ q, q < H.p → ¬ (A ≤ q ∧ q < A + s + e) → g (pc H.t q 1) = H.cel q 1
  taken : 0 < s → g (pc H.t A 5) = u ∧ g (pc H.t A 4) = 0 ∧ u ≠ 0 ∧ u < 2 ^ slotI k
  bare : ∀ q, A ≤ q → q < A + s + e → ¬ (0 < s ∧ q = A) → g (pc H.t q 4) = 0 ∧ g (pc H.t q 5) = 0
  bits : ∀ q, q < H.p → ¬ (A ≤ q ∧ q < A + s + e) → g (pc H.t q 4) = H.cel q 4 ∧ g (pc H.t q 5) = H.cel q 5
  mem : ∀ hd : Nat, 2 ≤ hd → hd ≤ 21 → ∀ y, y ∈ L' hd ↔ (y ∈ L hd ∧ ¬ (A ≤ y ∧ y < A + s + e)) ∨ (0 < e ∧ y = A + s ∧ ((hd : Nat) : Int) = 2 + HM.logI (e : Int)) ∨ (0 < s ∧ y = A ∧ u ≠ 2 ^ slotI k - 1 ∧ ((hd : Nat) : Int) = 13 + k)
  free : g 0 + AuH.sumTo (fun i => H.freeF (A + i)) (s + e) = H.V 0 + e
  live : g 1 + AuH.sumTo (fun i => H.liveF (A + i)) (s + e) = H.V 1
  few : g 0 < 4294967296
  roots : ∀ i, i < 8 → g (22 + i) = H.V (22 + i)
  bareroot : ∀ i, i < 8 → H.V (22 + i) ≠ 0 → ¬ (A ≤ (spotP H.t H.p H.s (H.V (22 + i) : Int)).toNat ∧ (spotP H.t H.p H.s (H.V (22 + i) : Int)).toNat < A + s + e)
section
variable {H : AuH} {n c : Nat} {K : Nat → Option Nat} {st : Vst} {L L' : Nat → List Nat} {g : Nat → Nat} {A s e u : Nat} {k : Int}
theorem anew_laid (HV : HeapV H n c) (h : H.Ok L) (W : Work H.t H.p H.s n K st L' g) (R : AnewG H g L L' A s e k u) : H.Laid (curV n (getV n K st) H.V) L L' A (s + e) := by
  have hlen := HV.len
  have hw := R.whole.le
  have hpos := R.pos
  have hone := R.one
  have hP := HV.fit.nums
  obtain ⟨V', hV'⟩ : ∃ V', curV n (getV n K st) H.V = V' := ⟨_, rfl⟩
  have hc : ∀ q b, q < H.p → b < 6 → b ≠ 2 → b ≠ 3 → (H.re V').cel q b = g (pc H.t q b) := fun q b hq hb h2 h3 => by rw [← hV']; exact W.cel hlen hq hb h2 h3
  have hlk : ∀ q, q < H.p → (∀ hd : Nat, 2 ≤ hd → hd ≤ 21 → ¬ q ∈ L' hd) → (H.re V').cel q 2 = 0 ∧ (H.re V').cel q 3 = 0 := fun q hq hno => by rw [← hV']; exact W.links hlen hq hno
  have hlow : ∀ i, i < 2 ∨ (22 ≤ i ∧ i < 30) → V' i = g i := fun i hi => by rw [← hV']; exact W.low hlen hi
  have hli : ∀ hd : Nat, 2 ≤ hd → hd ≤ 21 → IsL H.p (nxH H.t) (pvH H.t) hd (fun c => V' c.toNat) (L' hd) := fun hd h2 h21 => by rw [← hV']; exact W.lists.isL HV h2 h21
  rw [hV']
  have hs : 0 < s → (H.re V').K A = 3 ∧ (H.re V').ln A = 1 ∧ (H.re V').Cl A = k ∧ (H.re V').nx A = A + s := fun h0 => by
    have e1 : (H.re V').K A = 3 ∧ (H.re V').ln A = 1 ∧ (H.re V').Cl A = k := by
      unfold AuH.ln AuH.L AuH.K AuH.Cl
      rw [hc A 0 (by omega) (by omega) (by omega) (by omega), R.slab h0, infoG_slab R.k0 R.k8]
      exact ⟨rfl, rfl, rfl⟩
    exact ⟨e1.1, e1.2.1, e1.2.2, by unfold AuH.nx; rw [e1.2.1]; omega⟩
  have he : 0 < e → (H.re V').K (A + s) = 1 ∧ (H.re V').ln (A + s) = e ∧ (H.re V').nx (A + s) = A + s + e := fun h0 => by
    have e1 : (H.re V').K (A + s) = 1 ∧ (H.re V').ln (A + s) = e := by
      unfold AuH.ln AuH.L AuH.K
      rw [hc (A + s) 0 (by omega) (by omega) (by omega) (by omega), R.rest h0, infoG_free h0 (by omega)]
      exact ⟨rfl, by simp⟩
    exact ⟨e1.1, e1.2, by unfold AuH.nx; rw [e1.2]⟩
  have hb : ∀ q, A ≤ q → q < A + s + e → ¬ (0 < s ∧ q = A) → ¬ (0 < e ∧ q = A + s) → (H.re V').cel q 0 = 0 := fun q a1 a2 a3 a4 => by rw [hc q 0 (by omega) (by omega) (by omega) (by omega)]; exact R.blank q a1 a2 a3 a4
  have hn : ∀ q, A ≤ q → q < A + s + e → ¬ (0 < s ∧ q = A) → ¬ (0 < e ∧ q = A + s) → (H.re V').K q = 0 := fun q a1 a2 a3 a4 => ((H.re V').K_zero q (hb q a1 a2 a3 a4)).1
  have cases : ∀ q, A ≤ q → q < A + s + e → (H.re V').K q ≠ 0 → (0 < s ∧ q = A) ∨ (0 < e ∧ q = A + s) := fun q a1 a2 a3 => by
    by_cases b1 : 0 < s ∧ q = A
    · exact .inl b1
    · by_cases b2 : 0 < e ∧ q = A + s
      · exact .inr b2
      · exact absurd (hn q a1 a2 b1 b2) a3
  have hout : ∀ q, q < H.p → ¬ (A ≤ q ∧ q < A + s + e) → (H.re V').cel q 0 = H.cel q 0 := fun q a1 a2 => by rw [hc q 0 a1 (by omega) (by omega) (by omega)]; exact R.infos q a1 a2
  have eas : A + (s + e) = A + s + e := by omega
  have tS : 0 < s → (H.re V').tgt A = if u ≠ 2 ^ slotI k - 1 then 13 + k else -1 := fun h0 => by
    have h5 : (H.re V').cel A 5 = u := by rw [hc A 5 (by omega) (by omega) (by omega) (by omega)]; exact (R.taken h0).1
    by_cases hf : u = 2 ^ slotI k - 1
    · rw [if_neg (fun x => x hf)]
      exact AuH.tgt_full (hs h0).1 (by rw [h5, (hs h0).2.2.1]; exact hf)
    · rw [if_pos hf, AuH.tgt_slab (hs h0).1 (by rw [h5, (hs h0).2.2.1]; exact hf), (hs h0).2.2.1]
  have tF : 0 < e → (H.re V').tgt (A + s) = 2 + HM.logI (e : Int) := fun h0 => by rw [AuH.tgt_free (he h0).1, (he h0).2.1]
  have tN : ∀ q, A ≤ q → q < A + s + e → ¬ (0 < s ∧ q = A) → ¬ (0 < e ∧ q = A + s) → (H.re V').tgt q = -1 := fun q a1 a2 a3 a4 => AuH.tgt_none (hn q a1 a2 a3 a4)
  have hlg : 0 < e → 0 ≤ HM.logI (e : Int) ∧ HM.logI (e : Int) ≤ 10 := fun h0 => AuH.log_few h0 (by omega)
  have k0 := R.k0
  have k8 := R.k8
  exact {
    cut := by
      refine ⟨by rw [eas]; exact R.whole, fun q a1 a2 => hout q a1 (by omega), ?_, fun q a1 a2 a3 => ?_, fun q a1 a2 a3 a4 => ?_, fun q r a1 a2 a3 a4 a5 => ?_, fun q a1 a2 a3 => ?_⟩
      · rcases Nat.eq_zero_or_pos s with h0 | h0
        · have := (he (by omega)).1
          rw [h0, Nat.add_zero] at this
          omega
        · have := (hs h0).1; omega
      · rcases cases q a1 (by omega) a3 with ⟨b1, rfl⟩ | ⟨b1, rfl⟩
        · have := (hs b1).2.2.2; omega
        · have := (he b1).2.2; omega
      · rcases cases q a1 (by omega) a3 with ⟨b1, rfl⟩ | ⟨b1, rfl⟩
        · have h1 := (hs b1).2.2.2
          rw [h1] at a4 ⊢
          have := (he (by omega)).1
          omega
        · have := (he b1).2.2; omega
      · rcases cases q a1 (by omega) a3 with ⟨b1, rfl⟩ | ⟨b1, rfl⟩
        · have h1 := (hs b1).2.2.2
          exact hb r (by omega) (by omega) (by omega) (by omega)
        · have h1 := (he b1).2.2
          exact hb r (by omega) (by omega) (by omega) (by omega)
      · refine hb q a1 (by omega) (fun b => ?_) (fun b => ?_)
        · obtain ⟨b1, rfl⟩ := b; have := (hs b1).1; omega
        · obtain ⟨b1, rfl⟩ := b; have := (he b1).1; omega
    foot := fun q a1 a2 a3 => by
      rcases cases q a1 (by omega) a3 with ⟨b1, rfl⟩ | ⟨b1, rfl⟩
      · unfold AuH.Foot
        rw [(hs b1).2.1]
        refine ⟨fun r h5 h6 => by omega, ?_⟩
        show (H.re V').cel q 1 = q + 1
        rw [hc q 1 (by omega) (by omega) (by omega) (by omega)]
        exact R.footu b1
      · unfold AuH.Foot
        rw [(he b1).2.1]
        refine ⟨fun r h5 h6 => ?_, ?_⟩
        · rw [hc r 1 (by omega) (by omega) (by omega) (by omega)]
          exact R.blankf r (by omega) (by omega) (by omega) (by omega)
        · rw [hc _ 1 (by omega) (by omega) (by omega) (by omega)]
          exact R.footr b1
    feet := fun q a1 a2 => by rw [hc q 1 a1 (by omega) (by omega) (by omega)]; exact R.feet q a1 (by omega)
    left := fun q a1 a2 a3 => by
      rcases Nat.eq_zero_or_pos s with h0 | h0
      · exact absurd a3 (R.left h0 q a1 a2)
      · rw [(hs h0).1]; decide
    mid := fun q a1 a2 a3 a4 => by
      rcases cases q a1 (by omega) (by omega) with ⟨b1, rfl⟩ | ⟨b1, rfl⟩
      · have := (hs b1).1; omega
      · have := (he b1).2.2; omega
    right := fun q a1 a2 a3 a4 a5 => by
      rcases cases q a1 (by omega) (by omega) with ⟨b1, rfl⟩ | ⟨b1, rfl⟩
      · have := (hs b1).1; omega
      · rw [eas] at a5 ⊢; exact R.right b1 a5
    slot := fun q a1 a2 => by
      unfold AuH.Slot5
      rw [hc q 4 (by omega) (by omega) (by omega) (by omega), hc q 5 (by omega) (by omega) (by omega) (by omega)]
      by_cases b : 0 < s ∧ q = A
      · obtain ⟨b1, rfl⟩ := b
        obtain ⟨c1, c2, c3, c4⟩ := R.taken b1
        rw [c1, c2, (hs b1).2.2.1]
        refine ⟨fun _ => ⟨c3, c4, fun i _ hx => ?_⟩, fun x => absurd (hs b1).1 x⟩
        rw [Nat.zero_testBit] at hx
        cases hx
      · obtain ⟨c1, c2⟩ := R.bare q a1 (by omega) b
        rw [c1, c2]
        refine ⟨fun x => ?_, fun _ => ⟨rfl, rfl⟩⟩
        rcases cases q a1 (by omega) (by omega) with b2 | ⟨b2, rfl⟩
        · exact absurd b2 b
        · have := (he b2).1; omega
    bits := fun q a1 a2 => by
      rw [hc q 4 a1 (by omega) (by omega) (by omega), hc q 5 a1 (by omega) (by omega) (by omega)]
      exact R.bits q a1 (by omega)
    list := hli
    memIn := fun hd h2 h21 y a1 a2 => by
      rw [R.mem hd h2 h21 y]
      by_cases b1 : 0 < s ∧ y = A
      · obtain ⟨b1, rfl⟩ := b1
        rw [tS b1]
        constructor
        · rintro (⟨_, x⟩ | ⟨x1, x2, _⟩ | ⟨_, _, x3, x4⟩)
          · exact absurd ⟨a1, by omega⟩ x
          · omega
          · rw [if_pos x3]; omega
        · intro x
          split at x
          · rename_i x3; exact .inr (.inr ⟨b1, rfl, x3, by omega⟩)
          · omega
      · by_cases b2 : 0 < e ∧ y = A + s
        · obtain ⟨b2, rfl⟩ := b2
          rw [tF b2]
          constructor
          · rintro (⟨_, x⟩ | ⟨_, _, x3⟩ | ⟨x1, x2, _⟩)
            · exact absurd ⟨a1, by omega⟩ x
            · omega
            · exact absurd ⟨x1, x2⟩ b1
          · intro x; exact .inr (.inl ⟨b2, rfl, by omega⟩)
        · rw [tN y a1 (by omega) b1 b2]
          constructor
          · rintro (⟨_, x⟩ | ⟨x1, x2, _⟩ | ⟨x1, x2, _⟩)
            · exact absurd ⟨a1, by omega⟩ x
            · exact absurd ⟨x1, x2⟩ b2
            · exact absurd ⟨x1, x2⟩ b1
          · intro x; omega
    memOut := fun hd h2 h21 y a => by
      rw [R.mem hd h2 h21 y]
      constructor
      · rintro (⟨x, _⟩ | ⟨x1, x2, _⟩ | ⟨x1, x2, _⟩)
        · exact x
        · omega
        · omega
      · intro x; exact .inl ⟨x, by omega⟩
    bare := fun q a1 a2 a3 => by
      refine hlk q (by omega) (fun hd h2 h21 hm => ?_)
      rcases (R.mem hd h2 h21 q).1 hm with ⟨_, x⟩ | ⟨x1, x2, x3⟩ | ⟨x1, x2, x3, x4⟩
      · exact x ⟨a1, by omega⟩
      · subst x2; rw [tF x1] at a3; have := hlg x1; omega
      · subst x2; rw [tS x1, if_pos x3] at a3; omega
    loose := fun q a1 a2 a3 => by
      have hno : ∀ hd : Nat, 2 ≤ hd → hd ≤ 21 → ¬ q ∈ L' hd := fun hd h2 h21 hm => by
        rcases (R.mem hd h2 h21 q).1 hm with ⟨x, _⟩ | ⟨x1, x2, _⟩ | ⟨x1, x2, _⟩
        · have := ((h.mem hd h2 h21 q).1 x).2; omega
        · omega
        · omega
      obtain ⟨b1, b2⟩ := hlk q a1 hno
      obtain ⟨b3, b4⟩ := h.loose q a1 a3
      rw [b1, b2, b3, b4]
      exact ⟨rfl, rfl⟩
    free := by
      rw [hlow 0 (by omega), R.free]
      congr 1
      rcases Nat.eq_zero_or_pos s with h0 | h0
      · subst h0
        have h1 := he (by omega)
        rw [AuH.sumTo_first (by omega) (fun i b1 b2 => AuH.freeF_no (hn (A + i) (by omega) (by omega) (by omega) (by omega)))]
        show e = (H.re V').freeF (A + 0)
        unfold AuH.freeF
        rw [if_pos h1.1, h1.2.1]
      · obtain rfl : s = 1 := by omega
        have h1 := (hs h0).1
        have z0 : (H.re V').freeF A = 0 := by unfold AuH.freeF; rw [if_neg (by omega)]
        rcases Nat.eq_zero_or_pos e with h2 | h2
        · subst h2
          rw [AuH.sumTo_first (by omega) (fun i b1 b2 => by omega)]
          exact z0.symm
        · rw [AuH.sumTo_pair (k := 1) (by omega) (by omega) (fun i b1 b2 b3 => AuH.freeF_no (hn (A + i) (by omega) (by omega) (by omega) (by omega)))]
          have z1 : (H.re V').freeF (A + 1) = e := by unfold AuH.freeF; rw [if_pos (he h2).1, (he h2).2.1]
          show e = (H.re V').freeF (A + 0) + (H.re V').freeF (A + 1)
          rw [Nat.add_zero, z0, z1]; omega
    live := by
      rw [hlow 1 (by omega), R.live]
      have z : ∀ i, i < s + e → (H.re V').liveF (A + i) = 0 := fun i hi => by
        unfold AuH.liveF
        by_cases b1 : 0 < s ∧ A + i = A
        · rw [b1.2, if_neg (by have := (hs b1.1).1; omega), if_pos (hs b1.1).1, hc A 4 (by omega) (by omega) (by omega) (by omega), (R.taken b1.1).2.1]
          decide
        · by_cases b2 : 0 < e ∧ A + i = A + s
          · rw [b2.2, if_neg (by have := (he b2.1).1; omega), if_neg (by have := (he b2.1).1; omega)]
          · have := hn (A + i) (by omega) (by omega) b1 b2
            rw [if_neg (by omega), if_neg (by omega)]
      rw [AuH.sumTo_congr (f := fun i => (H.re V').liveF (A + i)) (g := fun _ => 0) (s + e) (fun i hi => z i hi), AuH.sumTo_zero]
      rfl
    few := by
      rw [hlow 0 (by omega), hlow 1 (by omega)]
      have hbl := AuH.sums_le (H := H) H.p (by omega)
      obtain ⟨_, c2⟩ := h.counts
      have := R.live
      exact ⟨R.few, by omega⟩
    roots := fun i hi => by rw [hlow (22 + i) (by omega)]; exact R.roots i hi
    named := fun i hi hv a1 a2 => absurd ⟨a1, by omega⟩ (R.bareroot i hi hv) }
end
end
section
section
variable (n : Nat) (K : Nat → Option Nat) (t q s : Int)
def slabS (k : Int) (p : Nat) (st : Vst) : Vst := pushI n K t q s (13 + k) p (putS n st (pageI t q s p 0) (infoV 3 1 k))
def bitsS (k : Int) (p u : Nat) (full : Bool) (st : Vst) : Vst :=
  if full = true then pullI n K t q s (13 + k) p (putS n (getS n K st (pageI t q s p 5)) (pageI t q s p 5) u)
  else putS n (getS n K st (pageI t q s p 5)) (pageI t q s p 5) u
end
theorem Fit.taken {t P s n : Nat} (h : Fit t P s n) {p : Nat} (hp : p < P) : pageI (t : Int) (P : Int) (s : Int) (p : Int) 5 = ((pc t p 5 : Nat) : Int) := by
  rw [pcell_yes h.right (by omega) (by omega) (by omega) (by omega)]
  unfold pc
  push_cast
  omega
section
variable {t P s n : Nat} {K : Nat → Option Nat} {st : Vst} {L : Nat → List Nat} {g : Nat → Nat} {p u : Nat} {k : Int}
theorem Work.slab (W : Work t P s n K st L g) (hf : Fit t P s n) (hp : p < P) (k0 : 0 ≤ k) (k8 : k ≤ 8) (hno : ∀ x : Nat, 2 ≤ x → x ≤ 21 → ¬ p ∈ L x) :
    ∃ L', Work t P s n K (slabS n K t P s k p st) L' (updF g (pc t p 0) (infoV 3 1 k)) ∧ ∀ x : Nat, 2 ≤ x → x ≤ 21 → ∀ y, y ∈ L' x ↔ y ∈ L x ∨ (y = p ∧ ((x : Nat) : Int) = 13 + k) := by
  have hlen := hf.len
  have e0 : pageI (t : Int) (P : Int) (s : Int) (p : Int) 0 = ((pc t p 0 : Nat) : Int) := hf.inf hp
  have eh : 13 + k = ((13 + k.toNat : Nat) : Int) := by omega
  have W1 := W.put (i := pc t p 0) (by unfold pc; omega) (pc_far (by omega) (by omega) (by omega)) (infoV 3 1 k)
  obtain ⟨L', W2, m⟩ := W1.push hf (hd := 13 + k.toNat) (by omega) (by omega) hp hno
  refine ⟨L', ?_, fun x a2 a21 y => ?_⟩
  · unfold slabS
    rw [e0, eh]
    exact W2
  · rw [m x a2 a21 y]
    constructor
    · rintro (h | ⟨h1, h2⟩)
      · exact .inl h
      · exact .inr ⟨h1, by omega⟩
    · rintro (h | ⟨h1, h2⟩)
      · exact .inl h
      · exact .inr ⟨h1, by omega⟩
theorem Work.bits (W : Work t P s n K st L g) (hf : Fit t P s n) (hp : p < P) (k0 : 0 ≤ k) (k8 : k ≤ 8) {full : Bool} (hm : full = true → p ∈ L (13 + k.toNat)) :
    ∃ L', Work t P s n K (bitsS n K t P s k p u full st) L' (updF g (pc t p 5) u) ∧ ∀ x : Nat, 2 ≤ x → x ≤ 21 → ∀ y, y ∈ L' x ↔ y ∈ L x ∧ ¬ (full = true ∧ y = p) := by
  have hlen := hf.len
  have eh : 13 + k = ((13 + k.toNat : Nat) : Int) := by omega
  have W1 := (W.get ((pc t p 5 : Nat) : Int)).put (i := pc t p 5) (by unfold pc; omega) (pc_far (by omega) (by omega) (by omega)) u
  unfold bitsS
  rw [hf.taken hp]
  cases full with
  | false =>
    rw [if_neg (by simp)]
    exact ⟨L, W1, fun x _ _ y => by simp⟩
  | true =>
    rw [if_pos rfl, eh]
    obtain ⟨L', W2, m⟩ := W1.pull hf (hd := 13 + k.toNat) (by omega) (by omega) hp (hm rfl)
    exact ⟨L', W2, fun x a2 a21 y => by rw [m x a2 a21 y]; simp⟩
end
section
variable {H : AuH} {n c : Nat} {K : Nat → Option Nat} {st : Vst} {L L1 : Nat → List Nat} {g1 : Nat → Nat} {p u : Nat} {k : Int}
theorem fresh_heap (HV : HeapV H n c) (h : H.Ok L) (W : Work H.t H.p H.s n K st L1 g1) (hp : p < H.p) (hk : H.K p = 1) (R : RelaidG H g1 L L1 p 1 (H.ln p - 1))
    (h1 : g1 1 = H.V 1) (h32 : g1 0 < 4294967296) (k0 : 0 ≤ k) (k8 : k ≤ 8) (hu0 : u ≠ 0) (hu : u < 2 ^ slotI k) :
    ∃ L2 g2, Work H.t H.p H.s n K (bitsS n K H.t H.p H.s k p u (decide (u = 2 ^ slotI k - 1)) (slabS n K H.t H.p H.s k p st)) L2 g2 ∧ AnewG H g2 L L2 p 1 (H.ln p - 1) k u ∧ g2 0 = g1 0 ∧ g2 1 = g1 1 := by
  have hf := HV.fit
  obtain ⟨hnx, hl1, hle, hnext, hin, hft, hfe⟩ := span_at h hp (by omega) (by omega)
  have hsum := sums_at h hp (by omega) (by omega)
  have hlv : H.liveF p = 0 := by unfold AuH.liveF; rw [if_neg (by omega), if_neg (by omega)]
  have hpno : ∀ x : Nat, 2 ≤ x → x ≤ 21 → ¬ p ∈ L1 x := fun x a2 a21 hx => by
    rcases (R.mem x a2 a21 p).1 hx with h3 | h3 <;> omega
  obtain ⟨L2, W2, m2⟩ := W.slab hf hp k0 k8 hpno
  have hin2 : p ∈ L2 (13 + k.toNat) := (m2 _ (by omega) (by omega) _).2 (.inr ⟨rfl, by omega⟩)
  obtain ⟨L3, W3, m3⟩ := W2.bits hf (u := u) hp k0 k8 (full := decide (u = 2 ^ slotI k - 1)) (fun _ => hin2)
  refine ⟨L3, _, W3, ?_, by rw [updF_low _ _ (by omega), updF_low _ _ (by omega)], by rw [updF_low _ _ (by omega), updF_low _ _ (by omega)]⟩
  have hb5 : ∀ q, q < H.p → H.K q ≠ 3 → H.cel q 4 = 0 ∧ H.cel q 5 = 0 := fun q hq h3 => by
    exact ⟨((h.slots q hq).2 h3).2, ((h.slots q hq).2 h3).1⟩
  have hspan : ∀ q, p ≤ q → q < p + 1 + (H.ln p - 1) → H.cel q 4 = 0 ∧ H.cel q 5 = 0 := fun q a1 a2 => hb5 q (by omega) (R.noslab q a1 a2)
  exact {
    pos := by omega
    one := by omega
    k0 := k0
    k8 := k8
    whole := R.whole
    left := fun e => by omega
    right := R.right
    slab := fun _ => by simp (disch := omega) only [updF_pcN, updF_pcE]
    rest := fun e => by simp (disch := omega) only [updF_pcN, updF_pcE]; exact R.rest e
    blank := fun q a1 a2 a3 a4 => by simp (disch := omega) only [updF_pcN, updF_pcE]; exact R.blank q a1 a2 a3 a4
    infos := fun q a1 a2 => by simp (disch := omega) only [updF_pcN, updF_pcE]; exact R.infos q a1 a2
    footu := fun _ => by simp (disch := omega) only [updF_pcN, updF_pcE]; exact R.footu (by omega)
    footr := fun e => by simp (disch := omega) only [updF_pcN, updF_pcE]; exact R.footr e
    blankf := fun q a1 a2 a3 a4 => by simp (disch := omega) only [updF_pcN, updF_pcE]; exact R.blankf q a1 a2 (fun e => a3 ⟨e.1, by omega⟩) a4
    feet := fun q a1 a2 => by simp (disch := omega) only [updF_pcN, updF_pcE]; exact R.feet q a1 a2
    taken := fun _ => ⟨by simp (disch := omega) only [updF_pcN, updF_pcE], by simp (disch := omega) only [updF_pcN, updF_pcE]; rw [(R.bits p hp).1]; exact (hspan p (by omega) (by omega)).1, hu0, hu⟩
    bare := fun q a1 a2 a3 => by
      simp (disch := omega) only [updF_pcN, updF_pcE]
      rw [(R.bits q (by omega)).1, (R.bits q (by omega)).2]
      exact hspan q a1 a2
    bits := fun q a1 a2 => by
      simp (disch := omega) only [updF_pcN, updF_pcE]
      exact R.bits q a1
    mem := fun hd a2 a21 y => by
      rw [m3 hd a2 a21 y, m2 hd a2 a21 y, R.mem hd a2 a21 y]
      simp only [decide_eq_true_eq]
      constructor
      · rintro ⟨(b1 | b1) | b1, b2⟩
        · exact .inl b1
        · exact .inr (.inl b1)
        · exact .inr (.inr ⟨by omega, b1.1, fun e => b2 ⟨e, b1.1⟩, b1.2⟩)
      · rintro (b1 | b1 | ⟨_, b1, b2, b3⟩)
        · exact ⟨.inl (.inl b1), fun e => by omega⟩
        · exact ⟨.inl (.inr b1), fun e => by omega⟩
        · exact ⟨.inr ⟨b1, b3⟩, fun e => b2 e.1⟩
    free := by rw [updF_low _ _ (by omega), updF_low _ _ (by omega)]; exact R.free
    live := by
      rw [updF_low _ _ (by omega), updF_low _ _ (by omega), show 1 + (H.ln p - 1) = H.ln p by omega, hsum.2, hlv, h1]
      rfl
    few := by rw [updF_low _ _ (by omega), updF_low _ _ (by omega)]; exact h32
    roots := fun i hi => by rw [updF_low _ _ (by omega), updF_low _ _ (by omega)]; exact R.roots i hi
    bareroot := fun i hi hv hh => free_root h hp hk hi hv hh.1 (by omega) }
end
end
section
section
variable (n : Nat) (K : Nat → Option Nat) (t q s : Int)
def emptyS (k : Int) (p : Nat) (full : Bool) (st : Vst) : Vst :=
  releaseS n K t q s p 1 (putS n (if full = true then st else pullI n K t q s (13 + k) p st) (pageI t q s p 5) 0)
end
structure AroundS (H : AuH) (p A la lr : Nat) : Prop where
  slab : H.K p = 3
  ahead : A + la = p
  le : p + 1 + lr ≤ H.p
  firstK : H.K A ≠ 0
  lastK : p + 1 + lr < H.p → H.K (p + 1 + lr) ≠ 0 ∧ H.K (p + 1 + lr) ≠ 1
  kinds : ∀ q, A ≤ q → q < p + 1 + lr → (q = p ∧ H.K q = 3) ∨ (0 < la ∧ q = A ∧ H.K q = 1) ∨ (0 < lr ∧ q = p + 1 ∧ H.K q = 1) ∨ (H.K q = 0 ∧ H.cel q 0 = 0 ∧ q ≠ p ∧ ¬ (0 < la ∧ q = A) ∧ ¬ (0 < lr ∧ q = p + 1))
  feet : ∀ q, A ≤ q → q < p + 1 + lr → q ≠ p → ¬ (0 < la ∧ q + 1 = p) → ¬ (0 < lr ∧ q + 1 = p + 1 + lr) → H.cel q 1 = 0
  free : AuH.sumTo (fun i => H.freeF (A + i)) (la + 1 + lr) = la + lr
  live : AuH.sumTo (fun i => H.liveF (A + i)) (la + 1 + lr) = H.liveF p
section
variable {H : AuH} {n c : Nat} {K : Nat → Option Nat} {st : Vst} {L : Nat → List Nat}
theorem aroundS (h : H.Ok L) {p A la lr : Nat} (hp : p < H.p) (hk : H.K p = 3) (hA : A + la = p) (hle : p + 1 + lr ≤ H.p)
    (hl : 0 < la → H.K A = 1 ∧ H.ln A = la) (hr : 0 < lr → H.K (p + 1) = 1 ∧ H.ln (p + 1) = lr) (hlast : p + 1 + lr < H.p → H.K (p + 1 + lr) ≠ 0 ∧ H.K (p + 1 + lr) ≠ 1) :
    AroundS H p A la lr := by
  have hL : 0 < la → (∀ q, A < q → q < p → H.cel q 0 = 0 ∧ H.K q = 0) ∧ ∀ q, A ≤ q → q + 1 < p → H.cel q 1 = 0 := fun h0 => by
    obtain ⟨_, _, _, _, b4, b5, _⟩ := span_at h (p := A) (by omega) (by have := (hl h0).1; omega) (by have := (hl h0).1; omega)
    rw [(hl h0).2, hA] at b4 b5
    exact ⟨b4, b5⟩
  have hR : 0 < lr → (∀ q, p + 1 < q → q < p + 1 + lr → H.cel q 0 = 0 ∧ H.K q = 0) ∧ ∀ q, p + 1 ≤ q → q + 1 < p + 1 + lr → H.cel q 1 = 0 := fun h0 => by
    obtain ⟨_, _, _, _, b4, b5, _⟩ := span_at h (p := p + 1) (by omega) (by have := (hr h0).1; omega) (by have := (hr h0).1; omega)
    rw [(hr h0).2] at b4 b5
    exact ⟨b4, b5⟩
  have kinds : ∀ q, A ≤ q → q < p + 1 + lr → (q = p ∧ H.K q = 3) ∨ (0 < la ∧ q = A ∧ H.K q = 1) ∨ (0 < lr ∧ q = p + 1 ∧ H.K q = 1) ∨ (H.K q = 0 ∧ H.cel q 0 = 0 ∧ q ≠ p ∧ ¬ (0 < la ∧ q = A) ∧ ¬ (0 < lr ∧ q = p + 1)) := fun q h1 h2 => by
    by_cases e1 : q = p
    · exact .inl ⟨e1, e1 ▸ hk⟩
    · by_cases e2 : 0 < la ∧ q = A
      · exact .inr (.inl ⟨e2.1, e2.2, e2.2 ▸ (hl e2.1).1⟩)
      · by_cases e3 : 0 < lr ∧ q = p + 1
        · exact .inr (.inr (.inl ⟨e3.1, e3.2, e3.2 ▸ (hr e3.1).1⟩))
        · refine .inr (.inr (.inr ?_))
          rcases Nat.lt_or_ge q p with h3 | h3
          · have := (hL (by omega)).1 q (by omega) h3
            exact ⟨this.2, this.1, e1, e2, e3⟩
          · have := (hR (by omega)).1 q (by omega) h2
            exact ⟨this.2, this.1, e1, e2, e3⟩
  have hsplit : ∀ f : Nat → Nat, AuH.sumTo (fun i => f (A + i)) (la + 1 + lr) = AuH.sumTo (fun i => f (A + i)) la + f p + AuH.sumTo (fun i => f (p + 1 + i)) lr := fun f => by
    rw [AuH.sumTo_split (fun i => f (A + i)) (la + 1) lr, AuH.sumTo_split (fun i => f (A + i)) la 1]
    have e2 : (fun i => f (A + (la + 1 + i))) = fun i => f (p + 1 + i) := by funext i; congr 1; omega
    rw [e2]
    show _ + (0 + f (A + (la + 0))) + _ = _
    rw [Nat.add_zero, hA, Nat.zero_add]
  have ff : ∀ q, H.K q = 1 → H.freeF q = H.ln q ∧ H.liveF q = 0 := fun q h1 => by unfold AuH.freeF AuH.liveF; rw [if_pos h1, if_neg (by omega), if_neg (by omega)]; exact ⟨rfl, rfl⟩
  have side : ∀ a m, a + m ≤ H.p → (0 < m → H.K a = 1 ∧ H.ln a = m) → AuH.sumTo (fun i => H.freeF (a + i)) m = m ∧ AuH.sumTo (fun i => H.liveF (a + i)) m = 0 := fun a m h1 h2 => by
    rcases Nat.eq_zero_or_pos m with h0 | h0
    · subst h0; exact ⟨rfl, rfl⟩
    · have := sums_at h (p := a) (by omega) (by have := (h2 h0).1; omega) (by have := (h2 h0).1; omega)
      rw [(h2 h0).2, (ff a (h2 h0).1).1, (ff a (h2 h0).1).2, (h2 h0).2] at this
      exact this
  have s1 := side A la (by omega) hl
  have s2 := side (p + 1) lr (by omega) hr
  exact {
    slab := hk, ahead := hA, le := hle
    firstK := by
      rcases Nat.eq_zero_or_pos la with h0 | h0
      · have : A = p := by omega
        rw [this]; omega
      · have := (hl h0).1; omega
    lastK := hlast, kinds := kinds
    feet := fun q h1 h2 h3 h4 h5 => by
      rcases Nat.lt_or_ge q p with h6 | h6
      · exact (hL (by omega)).2 q h1 (by omega)
      · exact (hR (by omega)).2 q (by omega) (by omega)
    free := by
      rw [hsplit, s1.1, s2.1]
      have : H.freeF p = 0 := by unfold AuH.freeF; rw [if_neg (by omega)]
      omega
    live := by rw [hsplit, s1.2, s2.2, Nat.zero_add, Nat.add_zero] }
theorem ones_zero : ∀ k, HM.onesTo 0 k = 0
  | 0 => rfl
  | k + 1 => by rw [HM.onesTo_succ, ones_zero k, Nat.zero_testBit]; rfl
theorem AroundS.root {p A la lr : Nat} (a : AroundS H p A la lr) (h : H.Ok L) (h4 : H.cel p 4 = 0) {i : Nat} (hi : i < 8) (hv : H.V (22 + i) ≠ 0) (h1 : A ≤ (spotP H.t H.p H.s (H.V (22 + i) : Int)).toNat) (h2 : (spotP H.t H.p H.s (H.V (22 + i) : Int)).toNat < p + 1 + lr) : False := by
  obtain ⟨_, h3⟩ := h.roots i hi hv
  have hk := a.kinds _ h1 h2
  generalize (spotP H.t H.p H.s (H.V (22 + i) : Int)).toNat = q at *
  rcases h3 with ⟨h5, _⟩ | ⟨h5, _, h6⟩
  · rcases hk with ⟨_, h7⟩ | ⟨_, _, h7⟩ | ⟨_, _, h7⟩ | ⟨h7, _⟩ <;> omega
  · rcases hk with ⟨h7, _⟩ | ⟨_, _, h7⟩ | ⟨_, _, h7⟩ | ⟨h7, _⟩
    · rw [h7, h4, Nat.zero_testBit] at h6
      cases h6
    · omega
    · omega
    · omega
theorem empty_heap (HV : HeapV H n c) (h : H.Ok L) (W : Work H.t H.p H.s n K st L H.V) {p : Nat} (hp : p < H.p) (hk : H.K p = 3) (h4 : H.cel p 4 = 0) :
    ∃ L' g' A la lr, Work H.t H.p H.s n K (emptyS n K H.t H.p H.s (H.Cl p) p (decide (H.cel p 5 = 2 ^ slotI (H.Cl p) - 1)) st) L' g' ∧ AnewG H g' L L' A 0 (la + 1 + lr) 0 0 ∧ AroundS H p A la lr ∧ g' 1 = H.V 1 ∧ g' 0 = H.V 0 + 1 := by
  have hf := HV.fit
  have hP := hf.nums
  have hlen := hf.len
  have hv1 := (free_few h hP.2).2
  obtain ⟨hl1, hnx, s3⟩ := slab_at h hp hk
  have hcl : 0 ≤ H.Cl p ∧ H.Cl p ≤ 8 := by have := H.K_cases p; omega
  obtain ⟨A, la, hA, l0, l1, l2, l3⟩ := left_of_span h hp (by omega) (by omega)
  obtain ⟨lr, r0, r1, r2, r3, r4, r5⟩ := right_of_span h (r := p + 1) s3 (by omega)
  have a := aroundS h hp hk hA r0 l2 r3 r5
  -- out of its rack
  have hp1 : ∃ L1, Work H.t H.p H.s n K (if decide (H.cel p 5 = 2 ^ slotI (H.Cl p) - 1) = true then st else pullI n K H.t H.p H.s (13 + H.Cl p) p st) L1 H.V ∧ ∀ x : Nat, 2 ≤ x → x ≤ 21 → ∀ y, y ∈ L1 x ↔ y ∈ L x ∧ y ≠ p := by
    by_cases hfull : H.cel p 5 = 2 ^ slotI (H.Cl p) - 1
    · rw [if_pos (decide_eq_true hfull)]
      refine ⟨L, W, fun x a2 a21 y => ⟨fun hy => ⟨hy, fun e => ?_⟩, fun hy => hy.1⟩⟩
      have := ((h.mem x a2 a21 y).1 hy).2
      rw [e, AuH.tgt_full hk hfull] at this
      omega
    · rw [if_neg (by simpa using hfull)]
      have eh : 13 + H.Cl p = ((13 + (H.Cl p).toNat : Nat) : Int) := by omega
      have hm : p ∈ L (13 + (H.Cl p).toNat) := (h.mem _ (by omega) (by omega) p).2 ⟨hp, by rw [AuH.tgt_slab hk hfull]; omega⟩
      rw [eh]
      exact W.pull hf (by omega) (by omega) hp hm
  obtain ⟨L1, W1, m1⟩ := hp1
  have W2 := W1.put (i := pc H.t p 5) (by unfold pc; omega) (pc_far (by omega) (by omega) (by omega)) 0
  rw [← hf.taken hp] at W2
  have g0 : ∀ q b, b < 5 → updF H.V (pc H.t p 5) 0 (pc H.t q b) = H.V (pc H.t q b) := fun q b hb => updF_pcN _ _ (by omega) (by omega) (by omega)
  have gl : ∀ i, i < 30 → updF H.V (pc H.t p 5) 0 i = H.V i := fun i hi => updF_low _ _ hi
  obtain ⟨L', g', W', m', z0, z1, zi, zf, zb⟩ := W2.release hf (p := p) (m := 1) (A := A) (la := la) (lr := lr) (by omega) r0 hA
    (fun e => by
      rcases l0 e with e | ⟨f, kk, ll, cc, ok, b1, b2, b3, b4⟩
      · exact .inl e
      · exact .inr ⟨f, kk, ll, cc, ok, b1, by rw [g0 _ _ (by omega)]; exact b2, by rw [g0 _ _ (by omega)]; exact b3, b4⟩)
    (fun e => by
      obtain ⟨b1, b2, k, b3, b4, b5⟩ := l1 e
      exact ⟨by rw [g0 _ _ (by omega)]; exact b1, by rw [g0 _ _ (by omega)]; exact b2, k, b3, b4, (m1 _ (by omega) (by omega) _).2 ⟨b5, by omega⟩⟩)
    (fun e e2 => by
      rw [g0 _ _ (by omega)]
      exact r1 e e2)
    (fun e => by
      obtain ⟨b1, b2, k, b3, b4, b5⟩ := r2 e
      exact ⟨b1, by rw [g0 _ _ (by omega)]; exact b2, k, b3, b4, (m1 _ (by omega) (by omega) _).2 ⟨b5, by omega⟩⟩)
    (fun hd a2 a21 hx => by
      rcases Nat.eq_zero_or_pos la with e | e
      · exact absurd (show A = p by omega) ((m1 hd a2 a21 A).1 hx).2
      · exact e)
    (by rw [gl 0 (by omega)]; omega)
  refine ⟨L', g', A, la, lr, W', ?_, a, by rw [z1 1 (by omega) (by omega), gl 1 (by omega)], by rw [z0, gl 0 (by omega)]⟩
  have e : A + 0 + (la + 1 + lr) = p + 1 + lr := by omega
  exact {
    pos := by omega
    one := by omega
    k0 := by omega
    k8 := by omega
    whole := by rw [e]; exact ⟨by omega, r0, a.firstK, fun h1 => (a.lastK h1).1⟩
    left := fun _ => l3
    right := fun _ h1 => by rw [e] at h1 ⊢; exact (a.lastK h1).2
    slab := fun h1 => by omega
    rest := fun _ => by rw [Nat.add_zero, zi, if_pos rfl]
    blank := fun q h1 h2 h3 h5 => by
      rw [zi, if_neg (by omega)]
      split
      · rfl
      · rename_i h6
        rw [g0 _ _ (by omega)]
        rcases a.kinds q h1 (by omega) with ⟨h7, _⟩ | ⟨_, h7, _⟩ | ⟨h7, h8, _⟩ | ⟨_, h7, _⟩
        · exfalso; exact h6 (.inl ⟨by omega, h7⟩)
        · omega
        · exact absurd (.inr ⟨h7, h8⟩) h6
        · exact h7
    infos := fun q h1 h2 => by rw [zi, if_neg (by omega), if_neg (by omega), g0 _ _ (by omega)]; rfl
    footu := fun h1 => by omega
    footr := fun _ => by rw [zf, if_pos (by omega)]
    blankf := fun q h1 h2 h3 h5 => by
      rw [zf, if_neg (by omega)]
      split
      · rfl
      · rename_i h6
        rw [g0 _ _ (by omega)]
        exact a.feet q h1 (by omega) (by omega) (by omega) (by omega)
    feet := fun q h1 h2 => by rw [zf, if_neg (by omega), if_neg (by omega), g0 _ _ (by omega)]; rfl
    taken := fun h1 => by omega
    bare := fun q h1 h2 _ => by
      rw [(zb q).1, (zb q).2, g0 _ _ (by omega)]
      by_cases e2 : q = p
      · rw [e2]
        exact ⟨h4, updF_pcE _ _ rfl⟩
      · rw [updF_pcN _ _ (by omega) (by omega) (by omega)]
        have hk3 : H.K q ≠ 3 := by
          rcases a.kinds q h1 (by omega) with ⟨h7, _⟩ | ⟨_, _, h7⟩ | ⟨_, _, h7⟩ | ⟨h7, _⟩
          · exact absurd h7 e2
          · omega
          · omega
          · omega
        exact ⟨((h.slots q (by omega)).2 hk3).2, ((h.slots q (by omega)).2 hk3).1⟩
    bits := fun q h1 h2 => by
      rw [(zb q).1, (zb q).2, g0 _ _ (by omega), updF_pcN _ _ (by omega) (by omega) (by omega)]
      exact ⟨rfl, rfl⟩
    mem := fun hd a2 a21 y => by
      rw [m' hd a2 a21 y, m1 hd a2 a21 y, e]
      have out : y ∈ L hd → A ≤ y → y < p + 1 + lr → y = p ∨ (0 < la ∧ y = A) ∨ (0 < lr ∧ y = p + 1) := fun b1 b2 b3 => by
        rcases a.kinds y b2 b3 with ⟨h5, _⟩ | ⟨h5, h6, _⟩ | ⟨h5, h6, _⟩ | ⟨h5, _⟩
        · exact .inl h5
        · exact .inr (.inl ⟨h5, h6⟩)
        · exact .inr (.inr ⟨h5, h6⟩)
        · exact absurd b1 (inner_no h h5 hd a2 a21)
      constructor
      · rintro (⟨⟨b1, b2⟩, b3, b4⟩ | ⟨h1, h2⟩)
        · refine .inl ⟨b1, fun b5 => ?_⟩
          rcases out b1 b5.1 b5.2 with h5 | h5 | h5
          · exact b2 h5
          · exact b3 h5
          · exact b4 h5
        · exact .inr (.inl ⟨by omega, by omega, h2⟩)
      · rintro (⟨b1, b2⟩ | ⟨_, h1, h2⟩ | ⟨h1, _⟩)
        · exact .inl ⟨⟨b1, by omega⟩, by omega, by omega⟩
        · exact .inr ⟨by omega, h2⟩
        · omega
    free := by rw [z0, gl 0 (by omega), Nat.zero_add, a.free]; omega
    live := by
      rw [z1 1 (by omega) (by omega), gl 1 (by omega), Nat.zero_add, a.live]
      have : H.liveF p = 0 := by unfold AuH.liveF; rw [if_neg (by omega), if_pos hk, h4, ones_zero]
      omega
    few := by rw [z0, gl 0 (by omega)]; omega
    roots := fun i hi => by rw [z1 (22 + i) (by omega) (by omega), gl (22 + i) (by omega)]
    bareroot := fun i hi hv hh => a.root h h4 hi hv hh.1 (by omega) }
end
end
section
section
variable {H : AuH} {q : Nat}
theorem blocks_dead (h4 : H.cel q 4 = 0) (k : Nat) : blocksOf (H.slotsTo q k) = [] := by
  induction k with
  | zero => rfl
  | succ k ih =>
    rw [AuH.slotsTo_succ, blocksOf_app, ih, List.nil_append]
    have h := (slotKd_live (H.cel q 5) 0 k).1
    rw [Nat.zero_testBit] at h
    refine blocksOf_no fun e => ?_
    unfold AuH.slotPart at e
    rw [h4] at e
    have h2 : ((slotKd (H.cel q 5) 0 k : Nat) : Int) = 2 := e
    exact absurd (h.1 (by omega)) (by simp)
theorem slab_dead (hk : H.K q = 3) (h4 : H.cel q 4 = 0) : blocksOf (H.partsAt q) = [] := by
  unfold AuH.partsAt
  rw [if_neg (by omega), if_neg (by omega), if_pos hk, blocksOf_app, blocks_dead h4, kindN_slack.2]
  rfl
theorem kindN_none (hk : H.K q = 0 ∨ H.K q = 1) : kindN 4 (H.partsAt q) = 0 := by
  unfold AuH.partsAt
  rcases hk with h | h
  · rw [if_neg (by omega), if_neg (by omega), if_neg (by omega)]; rfl
  · rw [if_pos h]; rfl
theorem kindN_zero {f : Nat → List (Int × Int × Int)} : ∀ m, (∀ i, i < m → kindN 4 (f i) = 0) → kindN 4 (AuH.catTo f m) = 0
  | 0, _ => rfl
  | m + 1, h => by
    show kindN 4 (AuH.catTo f m ++ f m) = _
    rw [kindN_app, kindN_zero m (fun i hi => h i (by omega)), h m (by omega)]
theorem kindN_only {f : Nat → List (Int × Int × Int)} {i0 : Nat} : ∀ m, i0 < m → (∀ i, i < m → i ≠ i0 → kindN 4 (f i) = 0) → kindN 4 (AuH.catTo f m) = kindN 4 (f i0)
  | 0, h, _ => by omega
  | m + 1, h, ho => by
    show kindN 4 (AuH.catTo f m ++ f m) = _
    rw [kindN_app]
    rcases Nat.lt_or_ge i0 m with h1 | h1
    · rw [kindN_only m h1 (fun i hi hne => ho i (by omega) hne), ho m (by omega) (by omega), Nat.add_zero]
    · obtain rfl : i0 = m := by omega
      rw [kindN_zero i0 (fun i hi => ho i (by omega) (by omega)), Nat.zero_add]
end
section
variable {H : AuH} {n c : Nat} {K : Nat → Option Nat} {st : Vst} {L L' : Nat → List Nat} {g : Nat → Nat} {A s e u : Nat} {k : Int}
theorem anew_done (HV : HeapV H n c) (h : H.Ok L) (W : Work H.t H.p H.s n K st L' g) (R : AnewG H g L L' A s e k u) (hold : blocksOf (AuH.catTo (fun i => H.partsAt (A + i)) (s + e)) = []) :
    (nowH H n K st).Ok L' ∧ (∀ i, i < 8 → (nowH H n K st).V (22 + i) = H.V (22 + i)) ∧ (nowH H n K st).V 0 = g 0 ∧ (nowH H n K st).V 1 = g 1 ∧ blocksOf (nowH H n K st).parts = blocksOf H.parts ∧
      (0 < s → (nowH H n K st).K A = 3 ∧ (nowH H n K st).Cl A = k ∧ (nowH H n K st).cel A 5 = u ∧ (nowH H n K st).cel A 4 = 0) ∧
      kindN 4 (nowH H n K st).parts + kindN 4 (AuH.catTo (fun i => H.partsAt (A + i)) (s + e)) = kindN 4 H.parts + if 0 < s then idleB u 0 (slotI k) else 0 := by
  have hlen := HV.len
  have hP := HV.fit.nums
  have hw := R.whole.le
  have hone := R.one
  have T := anew_laid HV h W R
  have hc : ∀ q b, q < H.p → b < 6 → b ≠ 2 → b ≠ 3 → (nowH H n K st).cel q b = g (pc H.t q b) := fun q b hq hb h2 h3 => W.cel hlen hq hb h2 h3
  have hs : 0 < s → (nowH H n K st).K A = 3 ∧ (nowH H n K st).Cl A = k ∧ (nowH H n K st).cel A 5 = u ∧ (nowH H n K st).cel A 4 = 0 := fun h0 => by
    refine ⟨?_, ?_, ?_, ?_⟩
    · unfold AuH.K; rw [hc A 0 (by omega) (by omega) (by omega) (by omega), R.slab h0, infoG_slab R.k0 R.k8]
    · unfold AuH.Cl; rw [hc A 0 (by omega) (by omega) (by omega) (by omega), R.slab h0, infoG_slab R.k0 R.k8]
    · rw [hc A 5 (by omega) (by omega) (by omega) (by omega)]; exact (R.taken h0).1
    · rw [hc A 4 (by omega) (by omega) (by omega) (by omega)]; exact (R.taken h0).2.1
  have hr : ∀ q, A ≤ q → q < A + s + e → ¬ (0 < s ∧ q = A) → (nowH H n K st).K q = 0 ∨ (nowH H n K st).K q = 1 := fun q a1 a2 a3 => by
    by_cases b : 0 < e ∧ q = A + s
    · obtain ⟨b1, rfl⟩ := b
      refine .inr ?_
      unfold AuH.K
      rw [hc (A + s) 0 (by omega) (by omega) (by omega) (by omega), R.rest b1, infoG_free b1 (by omega)]
    · refine .inl ((nowH H n K st).K_zero q ?_).1
      rw [hc q 0 (by omega) (by omega) (by omega) (by omega)]
      exact R.blank q a1 a2 a3 b
  refine ⟨T.ok h hP.2, T.roots, W.low hlen (.inl (by omega)), W.low hlen (.inl (by omega)), T.blocks ?_, hs, ?_⟩
  · rw [hold]
    refine blocks_none _ fun i hi => ?_
    by_cases b : 0 < s ∧ A + i = A
    · show blocksOf ((nowH H n K st).partsAt (A + i)) = []
      rw [b.2]
      exact slab_dead (hs b.1).1 (hs b.1).2.2.2
    · exact page_none (H := nowH H n K st) (hr (A + i) (by omega) (by omega) b)
  · obtain ⟨r, _, f1, f2⟩ := T.parts
    have f2 : (nowH H n K st).parts = _ := f2
    rw [f1, f2, kindN_app, kindN_app, kindN_app, kindN_app]
    have g2 : kindN 4 (AuH.catTo (fun i => (H.re (curV n (getV n K st) H.V)).partsAt (A + i)) (s + e)) = if 0 < s then idleB u 0 (slotI k) else 0 := by
      show kindN 4 (AuH.catTo (fun i => (nowH H n K st).partsAt (A + i)) (s + e)) = _
      by_cases h0 : 0 < s
      · rw [if_pos h0, kindN_only (i0 := 0) _ (by omega) (fun i hi hne => kindN_none (H := nowH H n K st) (hr (A + i) (by omega) (by omega) (by omega)))]
        show kindN 4 ((nowH H n K st).partsAt (A + 0)) = _
        rw [Nat.add_zero, kindN_slab (hs h0).1, (hs h0).2.1, (hs h0).2.2.1, (hs h0).2.2.2]
      · rw [if_neg h0]
        exact kindN_zero _ (fun i hi => kindN_none (H := nowH H n K st) (hr (A + i) (by omega) (by omega) (by omega)))
    rw [g2]
    omega
theorem kindN_free (h : H.Ok L) {p : Nat} (hp : p < H.p) (hk : H.K p = 1) : kindN 4 (AuH.catTo (fun i => H.partsAt (p + i)) (H.ln p)) = 0 := by
  obtain ⟨_, _, _, _, h4, _⟩ := span_at h hp (by omega) (by omega)
  refine kindN_zero _ fun i hi => kindN_none ?_
  by_cases e : i = 0
  · subst e; exact .inr hk
  · exact .inl (h4 (p + i) (by omega) (by omega)).2
theorem AroundS.parts {p A la lr : Nat} (a : AroundS H p A la lr) (h4 : H.cel p 4 = 0) : blocksOf (AuH.catTo (fun i => H.partsAt (A + i)) (la + 1 + lr)) = [] ∧ kindN 4 (AuH.catTo (fun i => H.partsAt (A + i)) (la + 1 + lr)) = idleB (H.cel p 5) 0 (slotI (H.Cl p)) := by
  have hA := a.ahead
  have hk : ∀ i, i < la + 1 + lr → i ≠ la → H.K (A + i) = 0 ∨ H.K (A + i) = 1 := fun i hi hne => by
    rcases a.kinds (A + i) (by omega) (by omega) with ⟨h1, _⟩ | ⟨_, _, h1⟩ | ⟨_, _, h1⟩ | ⟨h1, _⟩
    · omega
    · exact .inr h1
    · exact .inr h1
    · exact .inl h1
  refine ⟨blocks_none _ fun i hi => ?_, ?_⟩
  · by_cases e1 : i = la
    · show blocksOf (H.partsAt (A + i)) = []
      rw [e1, hA]
      exact slab_dead a.slab h4
    · exact page_none (hk i hi e1)
  · rw [kindN_only (i0 := la) _ (by omega) (fun i hi hne => kindN_none (hk i hi hne))]
    show kindN 4 (H.partsAt (A + la)) = _
    rw [hA, kindN_slab a.slab, h4]
end
end
section
section
variable (n : Nat) (K : Nat → Option Nat) (t q s : Int)
def backS (k : Int) (p u : Nat) (full : Bool) (st : Vst) : Vst :=
  if full = true then pushI n K t q s (13 + k) p (putS n st (pageI t q s p 5) u) else putS n st (pageI t q s p 5) u
end
section
variable {t P s n : Nat} {K : Nat → Option Nat} {st : Vst} {L : Nat → List Nat} {g : Nat → Nat} {p u : Nat} {k : Int}
theorem Work.back (W : Work t P s n K st L g) (hf : Fit t P s n) (hp : p < P) (k0 : 0 ≤ k) (k8 : k ≤ 8) {full : Bool} (hno : full = true → ∀ x : Nat, 2 ≤ x → x ≤ 21 → ¬ p ∈ L x) :
    ∃ L', Work t P s n K (backS n K t P s k p u full st) L' (updF g (pc t p 5) u) ∧ ∀ x : Nat, 2 ≤ x → x ≤ 21 → ∀ y, y ∈ L' x ↔ y ∈ L x ∨ (full = true ∧ y = p ∧ ((x : Nat) : Int) = 13 + k) := by
  have hlen := hf.len
  have eh : 13 + k = ((13 + k.toNat : Nat) : Int) := by omega
  have W1 := W.put (i := pc t p 5) (by unfold pc; omega) (pc_far (by omega) (by omega) (by omega)) u
  unfold backS
  rw [hf.taken hp]
  cases full with
  | false =>
    rw [if_neg (by simp)]
    exact ⟨L, W1, fun x _ _ y => by simp⟩
  | true =>
    rw [if_pos rfl]
    obtain ⟨L', W2, m⟩ := W1.push hf (hd := 13 + k.toNat) (by omega) (by omega) hp (hno rfl)
    refine ⟨L', by rw [eh]; exact W2, fun x a2 a21 y => ?_⟩
    rw [m x a2 a21 y]
    constructor
    · rintro (h | ⟨h1, h2⟩)
      · exact .inl h
      · exact .inr ⟨rfl, h1, by omega⟩
    · rintro (h | ⟨_, h1, h2⟩)
      · exact .inl h
      · exact .inr ⟨h1, by omega⟩
end
section
variable {H : AuH} {n c : Nat} {K : Nat → Option Nat} {st : Vst} {L L' : Nat → List Nat} {p u : Nat}
theorem slabG_of (h : H.Ok L) (hp : p < H.p) (hk : H.K p = 3) (hu0 : u ≠ 0) (hu : u < 2 ^ slotI (H.Cl p)) (hs : SubB (H.cel p 4) u)
    (hm : ∀ hd : Nat, 2 ≤ hd → hd ≤ 21 → ∀ y, y ∈ L' hd ↔ (y ∈ L hd ∧ y ≠ p) ∨ (y = p ∧ u ≠ 2 ^ slotI (H.Cl p) - 1 ∧ ((hd : Nat) : Int) = 13 + H.Cl p)) :
    SlabG H (updF H.V (pc H.t p 5) u) L L' p u where
  at_ := hp
  kind := hk
  some_ := hu0
  lim := hu
  sub := hs
  taken := updF_pcE _ _ rfl
  cells := fun q b hq hb h2 h3 h4 => by rw [updF_pcN _ _ (by omega) hb (by omega)]; rfl
  low := fun i hi => updF_low _ _ (by omega)
  mem := hm
theorem slab_list (h : H.Ok L) (hp : p < H.p) (hk : H.K p = 3) {hd : Nat} (h2 : 2 ≤ hd) (h21 : hd ≤ 21) : p ∈ L hd ↔ H.cel p 5 ≠ 2 ^ slotI (H.Cl p) - 1 ∧ ((hd : Nat) : Int) = 13 + H.Cl p := by
  rw [h.mem hd h2 h21 p]
  by_cases hf : H.cel p 5 = 2 ^ slotI (H.Cl p) - 1
  · rw [AuH.tgt_full hk hf]
    constructor
    · rintro ⟨_, x⟩; omega
    · rintro ⟨x, _⟩; exact absurd hf x
  · rw [AuH.tgt_slab hk hf]
    constructor
    · rintro ⟨_, x⟩; exact ⟨hf, by omega⟩
    · rintro ⟨_, x⟩; exact ⟨hp, by omega⟩
theorem slab_class (hk : H.K p = 3) : 0 ≤ H.Cl p ∧ H.Cl p ≤ 8 := by have := H.K_cases p; omega
theorem pick_slab (HV : HeapV H n c) (h : H.Ok L) (W : Work H.t H.p H.s n K st L H.V) (hp : p < H.p) (hk : H.K p = 3) (hnf : H.cel p 5 ≠ 2 ^ slotI (H.Cl p) - 1) (hu0 : u ≠ 0) (hu : u < 2 ^ slotI (H.Cl p)) (hs : SubB (H.cel p 4) u) :
    ∃ L', Work H.t H.p H.s n K (bitsS n K H.t H.p H.s (H.Cl p) p u (decide (u = 2 ^ slotI (H.Cl p) - 1)) st) L' (updF H.V (pc H.t p 5) u) ∧ SlabG H (updF H.V (pc H.t p 5) u) L L' p u := by
  obtain ⟨k0, k8⟩ := slab_class hk
  obtain ⟨L', W', m⟩ := W.bits HV.fit (u := u) hp k0 k8 (full := decide (u = 2 ^ slotI (H.Cl p) - 1)) (fun _ => (slab_list h hp hk (by omega) (by omega)).2 ⟨hnf, by omega⟩)
  refine ⟨L', W', slabG_of h hp hk hu0 hu hs fun hd a2 a21 y => ?_⟩
  rw [m hd a2 a21 y]
  simp only [decide_eq_true_eq]
  by_cases e : y = p
  · subst e
    rw [slab_list h hp hk a2 a21]
    constructor
    · rintro ⟨b1, b2⟩; exact .inr ⟨rfl, fun x => b2 ⟨x, rfl⟩, b1.2⟩
    · rintro (b1 | ⟨_, b2, b3⟩)
      · exact absurd rfl b1.2
      · exact ⟨⟨hnf, b3⟩, fun x => b2 x.1⟩
  · constructor
    · rintro ⟨b1, _⟩; exact .inl ⟨b1, e⟩
    · rintro (b1 | b1)
      · exact ⟨b1.1, fun x => e x.2⟩
      · exact absurd b1.1 e
theorem give_slab (HV : HeapV H n c) (h : H.Ok L) (W : Work H.t H.p H.s n K st L H.V) (hp : p < H.p) (hk : H.K p = 3) (hu0 : u ≠ 0) (hu : u < 2 ^ slotI (H.Cl p)) (hs : SubB (H.cel p 4) u) (hlt : u ≠ 2 ^ slotI (H.Cl p) - 1) :
    ∃ L', Work H.t H.p H.s n K (backS n K H.t H.p H.s (H.Cl p) p u (decide (H.cel p 5 = 2 ^ slotI (H.Cl p) - 1)) st) L' (updF H.V (pc H.t p 5) u) ∧ SlabG H (updF H.V (pc H.t p 5) u) L L' p u := by
  obtain ⟨k0, k8⟩ := slab_class hk
  obtain ⟨L', W', m⟩ := W.back HV.fit (u := u) hp k0 k8 (full := decide (H.cel p 5 = 2 ^ slotI (H.Cl p) - 1)) (fun hf x a2 a21 hx => ((slab_list h hp hk a2 a21).1 hx).1 (by simpa using hf))
  refine ⟨L', W', slabG_of h hp hk hu0 hu hs fun hd a2 a21 y => ?_⟩
  rw [m hd a2 a21 y]
  simp only [decide_eq_true_eq]
  by_cases e : y = p
  · subst e
    rw [slab_list h hp hk a2 a21]
    constructor
    · rintro (b1 | ⟨_, _, b2⟩)
      · exact .inr ⟨rfl, hlt, b1.2⟩
      · exact .inr ⟨rfl, hlt, b2⟩
    · rintro (b1 | ⟨_, _, b3⟩)
      · exact absurd rfl b1.2
      · by_cases hf : H.cel y 5 = 2 ^ slotI (H.Cl y) - 1
        · exact .inr ⟨hf, rfl, b3⟩
        · exact .inl ⟨hf, b3⟩
  · constructor
    · rintro (b1 | b1)
      · exact .inl ⟨b1, e⟩
      · exact absurd b1.2.1 e
    · rintro (b1 | b1)
      · exact .inl b1.1
      · exact absurd b1.1 e
end
end
section
def layB (t : Nat) (l : List Nat) : Nat := l.foldl (fun u i => u ||| 2 ^ i) t
theorem testBit_pow (i j : Nat) : (2 ^ i).testBit j = decide (j = i) := by
  rw [Nat.testBit_two_pow]
  by_cases h : i = j
  · rw [decide_eq_true h, decide_eq_true h.symm]
  · rw [decide_eq_false h, decide_eq_false (fun e => h e.symm)]
theorem layB_bit (j : Nat) : ∀ (l : List Nat) (t : Nat), (layB t l).testBit j = (t.testBit j || decide (j ∈ l))
  | [], t => by simp [layB]
  | i :: l, t => by
    show (layB (t ||| 2 ^ i) l).testBit j = _
    rw [layB_bit j l, Nat.testBit_or, testBit_pow, Bool.or_assoc]
    congr 1
    simp [List.mem_cons]
theorem layB_lt {m : Nat} : ∀ (l : List Nat) (t : Nat), t < 2 ^ m → (∀ i ∈ l, i < m) → layB t l < 2 ^ m
  | [], t, h, _ => h
  | i :: l, t, h, hl => layB_lt l _ (Nat.or_lt_two_pow h (Nat.pow_lt_pow_right (by omega) (hl i (by simp)))) (fun j hj => hl j (by simp [hj]))
theorem layB_le (l : List Nat) (t : Nat) : SubB t (layB t l) := fun j _ h => by rw [layB_bit, h]; rfl
theorem layB_ne {l : List Nat} {t i : Nat} (h : i ∈ l) : layB t l ≠ 0 := fun e => by
  have := layB_bit i l t
  rw [e, Nat.zero_testBit, decide_eq_true h, Bool.or_true] at this
  cases this
def someF (t m w : Nat) : List Nat := (HM.freeTo t m).take w
theorem someF_mem {t m w i : Nat} (h : i ∈ someF t m w) : i < m ∧ t.testBit i = false := by
  have := List.mem_of_mem_take h
  unfold HM.freeTo at this
  rw [List.mem_filter, List.mem_range] at this
  exact ⟨this.1, by simpa using this.2⟩
theorem someF_up (t m w : Nat) : (someF t m w).Pairwise (· < ·) := by
  unfold someF HM.freeTo
  exact List.Pairwise.sublist (List.take_sublist _ _) (List.Pairwise.filter _ List.pairwise_lt_range)
theorem someF_len (t m w : Nat) : (someF t m w).length ≤ w ∧ (someF t m w).length ≤ m := by
  unfold someF
  rw [List.length_take]
  have := HM.freeTo_le t m
  omega
theorem someF_some {t m w : Nat} (h1 : 1 ≤ w) (ht : t < 2 ^ m) (hm : m ≤ 32) (hf : t ≠ 2 ^ m - 1) : 1 ≤ (someF t m w).length := by
  unfold someF
  rw [List.length_take]
  have h2 := HM.ones_free t m
  have h3 : HM.onesTo t m ≠ m := fun e => by
    have h4 : ∀ k, HM.onesTo t (m + k) = HM.onesTo t m := fun k => by
      induction k with
      | zero => rfl
      | succ k ih =>
        rw [← Nat.add_assoc, HM.onesTo_succ, ih, Nat.testBit_lt_two_pow (Nat.lt_of_lt_of_le ht (Nat.pow_le_pow_right (by omega) (by omega)))]
        simp
    have h5 := h4 (32 - m)
    rw [show m + (32 - m) = 32 by omega, e] at h5
    exact hf ((AuH.ones_full ht hm).1 h5)
  omega
theorem idleB_same {u t v : Nat} : ∀ m, (∀ j, j < m → t.testBit j = u.testBit j) → idleB t v m = idleB u v m
  | 0, _ => rfl
  | m + 1, h => by
    show idleB t v m + _ = idleB u v m + _
    rw [idleB_same m (fun j hj => h j (by omega)), h m (by omega)]
theorem idleB_on {u t v i : Nat} (hu : u.testBit i = false) (hv : v.testBit i = false) : ∀ m, i < m → (∀ j, j < m → t.testBit j = (u.testBit j || decide (j = i))) → idleB t v m = idleB u v m + 1
  | 0, h, _ => by omega
  | m + 1, hi, h => by
    show idleB t v m + _ = idleB u v m + _ + 1
    rw [h m (by omega)]
    rcases Nat.lt_or_ge i m with h1 | h1
    · rw [idleB_on hu hv m h1 (fun j hj => h j (by omega)), decide_eq_false (by omega), Bool.or_false]
      omega
    · obtain rfl : i = m := by omega
      rw [idleB_same (u := u) (t := t) i (fun j hj => by rw [h j (by omega), decide_eq_false (by omega), Bool.or_false]), decide_eq_true rfl, Bool.or_true, hu, if_pos ⟨rfl, hv⟩, if_neg (by simp)]
theorem idleB_lay {v m : Nat} : ∀ (l : List Nat) (t : Nat), l.Pairwise (· < ·) → (∀ i ∈ l, i < m ∧ t.testBit i = false ∧ v.testBit i = false) → idleB (layB t l) v m = idleB t v m + l.length
  | [], t, _, _ => rfl
  | i :: l, t, hp, h => by
    obtain ⟨h1, h2⟩ := List.pairwise_cons.1 hp
    obtain ⟨a1, a2, a3⟩ := h i (by simp)
    show idleB (layB (t ||| 2 ^ i) l) v m = _
    rw [idleB_lay l _ h2 (fun j hj => by
      obtain ⟨b1, b2, b3⟩ := h j (by simp [hj])
      have := h1 j hj
      exact ⟨b1, by rw [Nat.testBit_or, testBit_pow, b2, decide_eq_false (by omega)]; rfl, b3⟩),
      idleB_on a2 a3 m a1 (fun j _ => by rw [Nat.testBit_or, testBit_pow]), List.length_cons]
    omega
theorem ones_on {u t i : Nat} (hu : u.testBit i = false) : ∀ m, i < m → (∀ j, j < m → t.testBit j = (u.testBit j || decide (j = i))) → HM.onesTo t m = HM.onesTo u m + 1
  | 0, h, _ => by omega
  | m + 1, hi, h => by
    rw [HM.onesTo_succ, HM.onesTo_succ, h m (by omega)]
    rcases Nat.lt_or_ge i m with h1 | h1
    · rw [ones_on hu m h1 (fun j hj => h j (by omega)), decide_eq_false (by omega), Bool.or_false]
      omega
    · obtain rfl : i = m := by omega
      have e : ∀ k, k ≤ i → HM.onesTo t k = HM.onesTo u k := fun k => by
        induction k with
        | zero => intro _; rfl
        | succ k ih => intro hk; rw [HM.onesTo_succ, HM.onesTo_succ, ih (by omega), h k (by omega), decide_eq_false (by omega), Bool.or_false]
      rw [e i (Nat.le_refl _), decide_eq_true rfl, Bool.or_true, hu]
      simp
theorem ones_none {u : Nat} : ∀ m, u < 2 ^ m → (HM.onesTo u m = 0 ↔ u = 0) := fun m hm => by
  constructor
  · intro h
    apply Nat.eq_of_testBit_eq
    intro j
    rw [Nat.zero_testBit]
    rcases Nat.lt_or_ge j m with h1 | h1
    · cases hb : u.testBit j
      · rfl
      · exfalso
        unfold HM.onesTo at h
        have : j ∈ (List.range m).filter fun i => u.testBit i := List.mem_filter.2 ⟨List.mem_range.2 h1, hb⟩
        rw [List.length_eq_zero_iff.1 h] at this
        cases this
    · exact Nat.testBit_lt_two_pow (Nat.lt_of_lt_of_le hm (Nat.pow_le_pow_right (by omega) h1))
  · rintro rfl
    unfold HM.onesTo
    simp
end
section
section
variable {H : AuH} {n c : Nat} {K : Nat → Option Nat} {st st' : Vst} {L L' : Nat → List Nat} {g : Nat → Nat}
theorem Work.look16 (W : Work H.t H.p H.s n K st L H.V) (h : H.Ok L) (HV : HeapV H n c) {nn k : Nat} (h1 : 1 ≤ nn) (hk : k ≤ 10) (ha : 2 ^ k ≤ nn) (hb : nn < 2 ^ (k + 1)) :
    Looked n K st (findF n K H.t H.p H.s nn k st).2 ∧ (((findF n K H.t H.p H.s nn k st).1 = none ∧ ∀ p, p < H.p → H.K p = 1 → H.ln p < nn) ∨ ∃ p, (findF n K H.t H.p H.s nn k st).1 = some p ∧ p < H.p ∧ H.K p = 1 ∧ nn ≤ H.ln p) := by
  have hL : ∀ j, j < 11 → HasL H.t H.p (2 + j) n K st (L (2 + j)) := fun j hj => W.lists.has (2 + j) (by omega) (by omega)
  have hfit : ∀ p, p < H.p → (fitB (nn : Int) (getV n K st (inH H.t p)) = true ↔ H.K p = 1 ∧ nn ≤ H.ln p) := fun p hp => by
    have e : getV n K st (inH H.t p) = H.cel p 0 := W.val (i := pc H.t p 0) (by have := HV.len; unfold pc; omega) (pc_far (by omega) (by omega) (by omega))
    unfold fitB
    rw [e, Bool.and_eq_true, decide_eq_true_iff, decide_eq_true_iff]
    show H.K p = 1 ∧ (nn : Int) ≤ H.L p ↔ _
    rw [AuH.L_ln]
    omega
  have hmem : ∀ j, j < 11 → ∀ y ∈ L (2 + j), H.K y = 1 ∧ 2 ^ j ≤ H.ln y := fun j hj y hy => by
    have ht := ((h.mem (2 + j) (by omega) (by omega) y).1 hy).2
    have hky : H.K y = 1 := by
      rcases H.K_cases y with h3 | ⟨h3 | h3, _⟩ | ⟨h3, _, h4, h5⟩
      · rw [AuH.tgt_none h3.1] at ht; omega
      · exact h3
      · rw [AuH.tgt_used h3] at ht; omega
      · by_cases hfull : H.cel y 5 = 2 ^ slotI (H.Cl y) - 1
        · rw [AuH.tgt_full h3 hfull] at ht; omega
        · rw [AuH.tgt_slab h3 hfull] at ht; omega
    obtain ⟨k', _, e, h6, _⟩ := free_bin hky
    rw [e] at ht
    have : k' = j := by omega
    subst this
    exact ⟨hky, h6⟩
  have hin : ∀ p, p < H.p → H.K p = 1 → ∃ j, j < 11 ∧ p ∈ L (2 + j) ∧ 2 ^ j ≤ H.ln p ∧ H.ln p < 2 ^ (j + 1) := fun p hp hkp => by
    obtain ⟨j, hj, e, h6, h7⟩ := free_bin hkp
    exact ⟨j, by omega, (h.mem (2 + j) (by omega) (by omega) p).2 ⟨hp, e⟩, h6, h7⟩
  have hk11 := hL k (by omega)
  obtain ⟨a, hs⟩ := hk11.seg
  obtain ⟨l1, l2⟩ := look_seg (st := st) (nn := (nn : Int)) HV.fit (L (2 + k)) (H.p : Int).toNat (getV n K st ((2 + k : Nat) : Int)) 0 a (getS n K st ((2 + k : Nat) : Int)) ((Looked.refl W.vw).get _) (by rw [Int.toNat_natCast]; exact hk11.len) hs
  unfold findF
  simp only
  cases hf : (L (2 + k)).find? (fun p => fitB (nn : Int) (getV n K st (inH H.t p))) with
  | some p =>
    rw [l1, hf]
    have hpm := List.mem_of_find?_eq_some hf
    have hpl := hk11.lt p hpm
    have := (hfit p hpl).1 (List.find?_some (p := fun p => fitB (nn : Int) (getV n K st (inH H.t p))) hf)
    exact ⟨l2, .inr ⟨p, rfl, hpl, this.1, this.2⟩⟩
  | none =>
    rw [l1, hf]
    have hno : ∀ p ∈ L (2 + k), ¬ nn ≤ H.ln p := fun p hp hle => by
      have h8 := List.find?_eq_none.1 hf p hp
      exact h8 ((hfit p (hk11.lt p hp)).2 ⟨(hmem k (by omega) p hp).1, hle⟩)
    obtain ⟨n1, n2⟩ := next_bins (fun j => L (2 + j)) hL (11 - (k + 1)) (k + 1) _ l2 (by omega)
    refine ⟨n1, ?_⟩
    rcases n2 with ⟨n2, n3⟩ | ⟨p, i, r, n2, n3, n4, n5⟩
    · refine .inl ⟨n2, fun p hp hkp => ?_⟩
      obtain ⟨j, hj, hpj, h6, h7⟩ := hin p hp hkp
      rcases Nat.lt_trichotomy j k with h9 | h9 | h9
      · have : 2 ^ (j + 1) ≤ 2 ^ k := Nat.pow_le_pow_right (by omega) (by omega)
        omega
      · subst h9
        have := hno p hpj
        omega
      · rw [n3 j (by omega) (by omega)] at hpj
        cases hpj
    · have n5 : L (2 + i) = p :: r := n5
      have hpm : p ∈ L (2 + i) := by rw [n5]; simp
      have h6 := hmem i (by omega) p hpm
      have h7 : 2 ^ (k + 1) ≤ 2 ^ i := Nat.pow_le_pow_right (by omega) n3
      exact .inr ⟨p, n2, (hL i (by omega)).lt p hpm, h6.1, by omega⟩
theorem Work.of_looked (W : Work H.t H.p H.s n K st L g) (hl : Looked n K st st') : Work H.t H.p H.s n K st' L g := by
  obtain ⟨h1, h2, h3⟩ := hl
  refine ⟨⟨h1, fun hd a2 a21 => ?_, W.lists.apart⟩, fun i hi hc => by rw [h2]; exact W.near i hi hc, fun q hq hno => by rw [h2]; exact W.out q hq hno⟩
  unfold HasL
  rw [h2]
  exact W.lists.has hd a2 a21
theorem rack_first (W : Work H.t H.p H.s n K st L H.V) (h : H.Ok L) {k : Int} (k0 : 0 ≤ k) (k8 : k ≤ 8) :
    (getV n K st (13 + k) = 0) ∨ ∃ p, getV n K st (13 + k) = p + 1 ∧ p < H.p ∧ H.K p = 3 ∧ H.Cl p = k ∧ H.cel p 5 ≠ 2 ^ slotI k - 1 := by
  have eh : 13 + k = ((13 + k.toNat : Nat) : Int) := by omega
  have hL := W.lists.has (13 + k.toNat) (by omega) (by omega)
  obtain ⟨a, hs⟩ := hL.seg
  have hf := hs.first
  cases hl : L (13 + k.toNat) with
  | nil =>
    rw [hl] at hf
    exact .inl (by rw [eh]; exact hf)
  | cons p r =>
    rw [hl] at hf
    have hpm : p ∈ L (13 + k.toNat) := by rw [hl]; simp
    obtain ⟨hp, ht⟩ := (h.mem _ (by omega) (by omega) p).1 hpm
    have : H.K p = 3 ∧ H.Cl p = k ∧ H.cel p 5 ≠ 2 ^ slotI k - 1 := by
      rcases H.K_cases p with h3 | ⟨h3 | h3, _⟩ | ⟨h3, _, h4, h5⟩
      · rw [AuH.tgt_none h3.1] at ht; omega
      · exfalso
        obtain ⟨k', hk', e, _⟩ := free_bin h3
        rw [e] at ht
        omega
      · rw [AuH.tgt_used h3] at ht; omega
      · by_cases hfull : H.cel p 5 = 2 ^ slotI (H.Cl p) - 1
        · rw [AuH.tgt_full h3 hfull] at ht; omega
        · rw [AuH.tgt_slab h3 hfull] at ht
          have : H.Cl p = k := by omega
          rw [this] at hfull
          exact ⟨h3, this, hfull⟩
    exact .inr ⟨p, by rw [eh]; exact hf, hp, this⟩
theorem slab_bits (h : H.Ok L) {p : Nat} (hp : p < H.p) (hk : H.K p = 3) : H.cel p 5 ≠ 0 ∧ H.cel p 5 < 2 ^ slotI (H.Cl p) ∧ SubB (H.cel p 4) (H.cel p 5) := (h.slots p hp).1 hk
structure Picked (H : AuH) (n : Nat) (K : Nat → Option Nat) (st : Vst) (L : Nat → List Nat) (k : Int) (p : Nat) (l : List Nat) : Prop where
  ok : (nowH H n K st).Ok L
  roots : ∀ i, i < 8 → (nowH H n K st).V (22 + i) = H.V (22 + i)
  live : (nowH H n K st).V 1 = H.V 1
  blocks : blocksOf (nowH H n K st).parts = blocksOf H.parts
  at_ : p < H.p
  kind : (nowH H n K st).K p = 3
  cls : (nowH H n K st).Cl p = k
  up : l.Pairwise (· < ·)
  bits : ∀ i ∈ l, i < slotI k ∧ ((nowH H n K st).cel p 5).testBit i = true ∧ ((nowH H n K st).cel p 4).testBit i = false ∧ (H.K p = 3 → (H.cel p 5).testBit i = false)
  more : kindN 4 (nowH H n K st).parts = kindN 4 H.parts + l.length
theorem picked_rack (HV : HeapV H n c) (h : H.Ok L) (W : Work H.t H.p H.s n K st L H.V) {p w : Nat} {k : Int} (hp : p < H.p) (hk : H.K p = 3) (hc : H.Cl p = k) (hnf : H.cel p 5 ≠ 2 ^ slotI k - 1) (hw : 1 ≤ w) :
    1 ≤ (someF (H.cel p 5) (slotI k) w).length ∧ ∃ L', Work H.t H.p H.s n K (bitsS n K H.t H.p H.s k p (layB (H.cel p 5) (someF (H.cel p 5) (slotI k) w)) (decide (layB (H.cel p 5) (someF (H.cel p 5) (slotI k) w) = 2 ^ slotI k - 1)) st) L' (updF H.V (pc H.t p 5) (layB (H.cel p 5) (someF (H.cel p 5) (slotI k) w))) ∧
      Picked H n K (bitsS n K H.t H.p H.s k p (layB (H.cel p 5) (someF (H.cel p 5) (slotI k) w)) (decide (layB (H.cel p 5) (someF (H.cel p 5) (slotI k) w) = 2 ^ slotI k - 1)) st) L' k p (someF (H.cel p 5) (slotI k) w) := by
  subst hc
  obtain ⟨b0, b1, b2⟩ := slab_bits h hp hk
  have hl1 := someF_some hw b1 (slotI_le _) hnf
  have hmem := fun i (hi : i ∈ someF (H.cel p 5) (slotI (H.Cl p)) w) => someF_mem hi
  have hup := someF_up (H.cel p 5) (slotI (H.Cl p)) w
  generalize hl : someF (H.cel p 5) (slotI (H.Cl p)) w = l at *
  have h32 := slotI_le (H.Cl p)
  have hdead : ∀ i, i < 32 → (H.cel p 5).testBit i = false → (H.cel p 4).testBit i = false := fun i hi hf => by
    cases hb : (H.cel p 4).testBit i
    · rfl
    · rw [b2 i hi hb] at hf; cases hf
  obtain ⟨i0, hi0⟩ : ∃ i0, i0 ∈ l := by
    cases l with
    | nil => simp at hl1
    | cons i r => exact ⟨i, by simp⟩
  have hlt := layB_lt l _ b1 (fun i hi => (hmem i hi).1)
  have hsub : SubB (H.cel p 4) (layB (H.cel p 5) l) := fun j hj hb => layB_le l _ j hj (b2 j hj hb)
  obtain ⟨L', W', S⟩ := pick_slab HV h W hp hk hnf (layB_ne hi0) hlt hsub
  obtain ⟨d1, d2, _, d4, d5, d6, d7, d8, d9, d10⟩ := slab_done HV h W' S
  refine ⟨hl1, L', W', d1, d2, d4, d5, hp, d6, d7, hup, fun i hi => ?_, ?_⟩
  · obtain ⟨a1, a2⟩ := hmem i hi
    refine ⟨a1, ?_, ?_, fun _ => a2⟩
    · rw [d8, layB_bit, decide_eq_true hi, Bool.or_true]
    · rw [d9]; exact hdead i (by omega) a2
  · rw [idleB_lay l _ hup (fun i hi => ⟨(hmem i hi).1, (hmem i hi).2, hdead i (by have := (hmem i hi).1; omega) (hmem i hi).2⟩)] at d10
    omega
theorem picked_fresh (HV : HeapV H n c) (h : H.Ok L) (W : Work H.t H.p H.s n K st L H.V) {p w : Nat} {k : Int} (hp : p < H.p) (hk : H.K p = 1) (k0 : 0 ≤ k) (k8 : k ≤ 8) (hw : 1 ≤ w) :
    1 ≤ (someF 0 (slotI k) w).length ∧ ∃ L' g', Work H.t H.p H.s n K (bitsS n K H.t H.p H.s k p (layB 0 (someF 0 (slotI k) w)) (decide (layB 0 (someF 0 (slotI k) w) = 2 ^ slotI k - 1)) (slabS n K H.t H.p H.s k p (takeS n K H.t H.p H.s p 1 st))) L' g' ∧
      Picked H n K (bitsS n K H.t H.p H.s k p (layB 0 (someF 0 (slotI k) w)) (decide (layB 0 (someF 0 (slotI k) w) = 2 ^ slotI k - 1)) (slabS n K H.t H.p H.s k p (takeS n K H.t H.p H.s p 1 st))) L' k p (someF 0 (slotI k) w) := by
  obtain ⟨_, hl1, hle, _, hin, _⟩ := span_at h hp (by omega) (by omega)
  have h32 := slotI_le k
  have hne : slotI k ≠ 0 := fun e => by have := slotI_zero.1 e; omega
  have h2 : (2 : Nat) ^ 1 ≤ 2 ^ slotI k := Nat.pow_le_pow_right (by omega) (by omega)
  have hlen := someF_some (t := 0) (m := slotI k) hw (by omega) h32 (by omega)
  have hmem := fun i (hi : i ∈ someF 0 (slotI k) w) => someF_mem hi
  have hup := someF_up 0 (slotI k) w
  generalize hl : someF 0 (slotI k) w = l at *
  obtain ⟨i0, hi0⟩ : ∃ i0, i0 ∈ l := by
    cases l with
    | nil => simp at hlen
    | cons i r => exact ⟨i, by simp⟩
  have hlt := layB_lt l 0 (m := slotI k) (by omega) (fun i hi => (hmem i hi).1)
  obtain ⟨L1, g1, W1, R1, e1, e0, _⟩ := take_heap HV h W hp hk (Nat.le_refl 1) hl1
  have hv := (free_few h HV.fit.nums.2).2
  obtain ⟨L2, g2, W2, R2, z0, z1⟩ := fresh_heap HV h W1 hp hk R1 e1 (by omega) k0 k8 (layB_ne hi0) hlt
  have hones : 1 + (H.ln p - 1) = H.ln p := by omega
  obtain ⟨d1, d2, _, d4, d5, d6, d7⟩ := anew_done HV h W2 R2 (by rw [hones]; exact blocks_free h hp hk)
  rw [hones, kindN_free h hp hk, if_pos (by omega), idleB_lay l 0 hup (fun i hi => ⟨(hmem i hi).1, Nat.zero_testBit i, Nat.zero_testBit i⟩)] at d7
  have hz : ∀ m, idleB 0 0 m = 0 := fun m => by
    induction m with
    | zero => rfl
    | succ m ih => show idleB 0 0 m + _ = 0; rw [ih, Nat.zero_testBit]; rfl
  rw [hz] at d7
  obtain ⟨c1, c2, c3, c4⟩ := d6 (by omega)
  refine ⟨hlen, L2, g2, W2, d1, d2, by rw [d4, z1, e1], d5, hp, c1, c2, hup, fun i hi => ⟨(hmem i hi).1, ?_, ?_, fun e => by omega⟩, by omega⟩
  · rw [c3, layB_bit, decide_eq_true hi, Bool.or_true]
  · rw [c4, Nat.zero_testBit]
end
end
section
section
variable {H : AuH} {n c : Nat} {K : Nat → Option Nat} {st st' : Vst} {L L' : Nat → List Nat} {g : Nat → Nat}
structure GivenBack (H : AuH) (n : Nat) (K : Nat → Option Nat) (st : Vst) (L : Nat → List Nat) (p s : Nat) : Prop where
  ok : (nowH H n K st).Ok L
  roots : ∀ i, i < 8 → (nowH H n K st).V (22 + i) = H.V (22 + i)
  live : (nowH H n K st).V 1 = H.V 1
  blocks : blocksOf (nowH H n K st).parts = blocksOf H.parts
  less : kindN 4 (nowH H n K st).parts + 1 = kindN 4 H.parts
  left : (HM.onesTo (H.cel p 5) 32 = 1 ∧ (nowH H n K st).K p ≠ 3 ∧ (nowH H n K st).V 0 = H.V 0 + 1) ∨
    (HM.onesTo (H.cel p 5) 32 ≠ 1 ∧ (nowH H n K st).K p = 3 ∧ (nowH H n K st).V 0 = H.V 0 ∧ ((nowH H n K st).cel p 5).testBit s = false)
structure Off (H : AuH) (p s u : Nat) : Prop where
  at_ : p < H.p
  kind : H.K p = 3
  taken : (H.cel p 5).testBit s = true
  idle : (H.cel p 4).testBit s = false
  bits : ∀ j, u.testBit j = ((H.cel p 5).testBit j && !decide (j = s))
theorem Off.slot {p s u : Nat} (o : Off H p s u) (h : H.Ok L) : s < slotI (H.Cl p) ∧ slotI (H.Cl p) ≤ 32 := by
  obtain ⟨_, b1, _⟩ := slab_bits h o.at_ o.kind
  refine ⟨?_, slotI_le _⟩
  rcases Nat.lt_or_ge s (slotI (H.Cl p)) with h1 | h1
  · exact h1
  · have := Nat.testBit_lt_two_pow (Nat.lt_of_lt_of_le b1 (Nat.pow_le_pow_right (by omega) h1))
    rw [o.taken] at this
    cases this
theorem Off.lim {p s u : Nat} (o : Off H p s u) (h : H.Ok L) : u < 2 ^ slotI (H.Cl p) := by
  obtain ⟨_, b1, _⟩ := slab_bits h o.at_ o.kind
  refine Nat.lt_pow_two_of_testBit _ fun j hj => ?_
  rw [o.bits, Nat.testBit_lt_two_pow (Nat.lt_of_lt_of_le b1 (Nat.pow_le_pow_right (by omega) hj))]
  rfl
theorem Off.on {p s u : Nat} (o : Off H p s u) : u.testBit s = false ∧ ∀ j, (H.cel p 5).testBit j = (u.testBit j || decide (j = s)) := by
  refine ⟨by rw [o.bits, decide_eq_true rfl]; simp, fun j => ?_⟩
  rw [o.bits]
  by_cases e : j = s
  · rw [e, o.taken]; simp
  · rw [decide_eq_false e]; simp
theorem Off.ones {p s u : Nat} (o : Off H p s u) (h : H.Ok L) : HM.onesTo (H.cel p 5) 32 = 1 ↔ u = 0 := by
  obtain ⟨a1, a2⟩ := o.slot h
  have h1 := ones_on o.on.1 32 (by omega) (fun j _ => o.on.2 j)
  have h2 := ones_none (u := u) 32 (Nat.lt_of_lt_of_le (o.lim h) (Nat.pow_le_pow_right (by omega) a2))
  omega
theorem Off.less {p s u : Nat} (o : Off H p s u) (h : H.Ok L) : idleB (H.cel p 5) (H.cel p 4) (slotI (H.Cl p)) = idleB u (H.cel p 4) (slotI (H.Cl p)) + 1 :=
  idleB_on o.on.1 o.idle _ (o.slot h).1 (fun j _ => o.on.2 j)
theorem given_some (HV : HeapV H n c) (h : H.Ok L) (W : Work H.t H.p H.s n K st L H.V) {p s u : Nat} (o : Off H p s u) (hu : u ≠ 0) :
    ∃ L', Work H.t H.p H.s n K (backS n K H.t H.p H.s (H.Cl p) p u (decide (H.cel p 5 = 2 ^ slotI (H.Cl p) - 1)) st) L' (updF H.V (pc H.t p 5) u) ∧
      GivenBack H n K (backS n K H.t H.p H.s (H.Cl p) p u (decide (H.cel p 5 = 2 ^ slotI (H.Cl p) - 1)) st) L' p s := by
  obtain ⟨b0, b1, b2⟩ := slab_bits h o.at_ o.kind
  have hsub : SubB (H.cel p 4) u := fun j hj hb => by
    rw [o.bits, b2 j hj hb]
    have : j ≠ s := fun e => by rw [e, o.idle] at hb; cases hb
    simp [this]
  have hlt : u ≠ 2 ^ slotI (H.Cl p) - 1 := fun e => by
    have h1 := o.on.1
    rw [e, Nat.testBit_two_pow_sub_one, decide_eq_true (o.slot h).1] at h1
    cases h1
  obtain ⟨L', W', S⟩ := give_slab HV h W o.at_ o.kind hu (o.lim h) hsub hlt
  obtain ⟨d1, d2, d3, d4, d5, d6, d7, d8, d9, d10⟩ := slab_done HV h W' S
  have hl := o.less h
  refine ⟨L', W', d1, d2, d4, d5, by omega, .inr ⟨fun e => hu ((o.ones h).1 e), d6, d3, ?_⟩⟩
  rw [d8]; exact o.on.1
theorem given_none (HV : HeapV H n c) (h : H.Ok L) (W : Work H.t H.p H.s n K st L H.V) {p s : Nat} (o : Off H p s 0) :
    ∃ L' g', Work H.t H.p H.s n K (emptyS n K H.t H.p H.s (H.Cl p) p (decide (H.cel p 5 = 2 ^ slotI (H.Cl p) - 1)) st) L' g' ∧
      GivenBack H n K (emptyS n K H.t H.p H.s (H.Cl p) p (decide (H.cel p 5 = 2 ^ slotI (H.Cl p) - 1)) st) L' p s := by
  have hlen := HV.len
  obtain ⟨b0, b1, b2⟩ := slab_bits h o.at_ o.kind
  have hp := o.at_
  have h4 : H.cel p 4 = 0 := by
    have hb : H.cel p 4 < 2 ^ 32 := HV.lt (pc H.t p 4) (by unfold pc; omega)
    apply Nat.eq_of_testBit_eq
    intro j
    rw [Nat.zero_testBit]
    rcases Nat.lt_or_ge j 32 with hj | hj
    · cases hb4 : (H.cel p 4).testBit j
      · rfl
      · exfalso
        have h5 := b2 j hj hb4
        rw [o.on.2 j, Nat.zero_testBit, Bool.false_or, decide_eq_true_eq] at h5
        rw [h5, o.idle] at hb4
        cases hb4
    · exact Nat.testBit_lt_two_pow (Nat.lt_of_lt_of_le hb (Nat.pow_le_pow_right (by omega) hj))
  obtain ⟨L', g', A, la, lr, W', R, a, z1, z0⟩ := empty_heap HV h W hp o.kind h4
  have hA := a.ahead
  have hle := a.le
  obtain ⟨p1, p2⟩ := a.parts h4
  have p1' : blocksOf (AuH.catTo (fun i => H.partsAt (A + i)) (0 + (la + 1 + lr))) = [] := by rw [Nat.zero_add]; exact p1
  obtain ⟨d1, d2, d3, d4, d5, _, d7⟩ := anew_done HV h W' R p1'
  rw [Nat.zero_add, p2, if_neg (by omega)] at d7
  have hl := o.less h
  have hz : ∀ v m, idleB 0 v m = 0 := fun v m => by
    induction m with
    | zero => rfl
    | succ m ih => show idleB 0 v m + _ = 0; rw [ih, Nat.zero_testBit]; simp
  rw [hz, h4] at hl
  refine ⟨L', g', W', d1, d2, by rw [d4, z1], d5, by omega, .inl ⟨(o.ones h).2 rfl, ?_, by rw [d3, z0]⟩⟩
  have e0 : (nowH H n K (emptyS n K H.t H.p H.s (H.Cl p) p (decide (H.cel p 5 = 2 ^ slotI (H.Cl p) - 1)) st)).cel p 0 = g' (pc H.t p 0) := W'.cel hlen hp (by omega) (by omega) (by omega)
  by_cases hpA : p = A
  · have : (nowH H n K (emptyS n K H.t H.p H.s (H.Cl p) p (decide (H.cel p 5 = 2 ^ slotI (H.Cl p) - 1)) st)).K p = 1 := by
      unfold AuH.K
      rw [e0]
      have := R.rest (by omega)
      rw [Nat.add_zero, ← hpA] at this
      rw [this, infoG_free (by omega) (by have := HV.fit.nums; omega)]
    omega
  · have := ((nowH H n K (emptyS n K H.t H.p H.s (H.Cl p) p (decide (H.cel p 5 = 2 ^ slotI (H.Cl p) - 1)) st)).K_zero p (by
      rw [e0]
      exact R.blank p (by omega) (by omega) (by omega) (by omega))).1
    omega
end
end
end Go.Proofs.YtioolaaphbddbaaGreatDoor
