/-
  A heap that is worked on, as a View that knows all has it: its lists, and the cells that are no links. No program is named here but for the Views'.
-/
import Derived.Test.YtnamlhkccgnbfaaGreatJ15
import Derived.Test.YtnamlhkccgnbfaaGreatJ03
import Derived.Test.YtnamlhkccgnbfaaGreatJ12
import Derived.Test.YtnamlhkccgnbfaaGreatJ02
namespace Go.Proofs.YtnamlhkccgnbfaaGreat
open Go.ChangeShapes Go.WideShapes Go.ChangeAt Go.RowKit Go.Maps
set_option linter.unusedVariables false
set_option linter.unusedSimpArgs false
section
structure Work (t P s n : Nat) (K : Nat → Option Nat) (st : Vst) (L : Nat → List Nat) (g : Nat → Nat) : Prop where
  lists : Lists t P n K st L
  near : ∀ i : Nat, i < n → ¬ LinkCell t (i : Int) → getV n K st (i : Int) = g i
  out : ∀ q, q < P → (∀ hd : Nat, 2 ≤ hd → hd ≤ 21 → ¬ q ∈ L hd) → getV n K st (nxH t q) = 0 ∧ getV n K st (pvH t q) = 0
def pc (t q b : Nat) : Nat := 30 + 4 * t + 6 * q + b
theorem pc_far {t q b : Nat} (hb : b < 6) (h2 : b ≠ 2) (h3 : b ≠ 3) : ¬ LinkCell t ((pc t q b : Nat) : Int) := cell_far hb h2 h3
section
variable {t P s n : Nat} {K : Nat → Option Nat} {st : Vst} {L : Nat → List Nat} {g : Nat → Nat}
theorem Work.vw (W : Work t P s n K st L g) : VW n K st := W.lists.vw
theorem Work.val (W : Work t P s n K st L g) {i : Nat} (hi : i < n) (hc : ¬ LinkCell t (i : Int)) : getV n K st (i : Int) = g i := W.near i hi hc
theorem Work.get (W : Work t P s n K st L g) (c : Int) : Work t P s n K (getS n K st c) L g := by
  obtain ⟨h1, h2⟩ := W.lists.get c
  exact ⟨h1, fun i hi hc => by rw [h2]; exact W.near i hi hc, fun q hq h => by rw [h2]; exact W.out q hq h⟩
theorem Work.put (W : Work t P s n K st L g) {i : Nat} (hi : i < n) (hc : ¬ LinkCell t (i : Int)) (v : Nat) : Work t P s n K (putS n st (i : Int) v) L (updF g i v) := by
  obtain ⟨h1, h2⟩ := W.lists.put hi hc v
  refine ⟨h1, fun j hj hcj => ?_, fun q hq h => ?_⟩
  · rw [h2]
    by_cases e : j = i
    · subst e; rw [upd_same, updF_same]
    · rw [upd_other _ _ (by omega), updF_other _ _ e]
      exact W.near j hj hcj
  · rw [h2, upd_other _ _ (fun e => hc (.inr ⟨q, .inl e.symm⟩)), upd_other _ _ (fun e => hc (.inr ⟨q, .inr e.symm⟩))]
    exact W.out q hq h
theorem Work.drop (W : Work t P s n K st L g) (hf : Fit t P s n) {p l : Nat} (hp : p < P) (hi : infoG (g (pc t p 0)) = (1, (l : Int), 0, true)) {k : Nat} (hk : ofI (l : Int) = (k : Int)) (hk10 : k ≤ 10) (hm : p ∈ L (2 + k)) :
    dropV n K t P s p st = (l : Int) ∧ ∃ L', Work t P s n K (dropS n K t P s p st) L' g ∧ ∀ hd : Nat, 2 ≤ hd → hd ≤ 21 → ∀ y, y ∈ L' hd ↔ y ∈ L hd ∧ y ≠ p := by
  have hlen := hf.len
  have epg : pgB (P : Int) (p : Int) = true := (pgB_iff _ _).2 ⟨by omega, by omega⟩
  have hin : 30 + 4 * t + 6 * p < n := by omega
  have e0 : pageI (t : Int) (P : Int) (s : Int) (p : Int) 0 = inH t p := hf.inf hp
  have ei : infoOf n K t P s p st = (1, (l : Int), 0, true) := by
    unfold infoOf
    rw [e0]
    unfold inH
    rw [W.near _ hin (pc_far (b := 0) (by omega) (by omega) (by omega))]
    exact hi
  have ebin : binH (l : Int) = ((2 + k : Nat) : Int) := binH_nat hk hk10
  refine ⟨by unfold dropV; rw [if_pos epg, ei]; rfl, ?_⟩
  have eds : dropS n K t P s p st = pullS n K t P s ((2 + k : Nat) : Int) p (getS n K st (inH t p)) := by
    unfold dropS
    rw [if_pos epg, ei]
    simp only [if_true]
    rw [ebin, e0, (pgB_nat epg).2]
  have W1 := W.get (inH t p)
  obtain ⟨l1, l2, hl⟩ := List.append_of_mem hm
  obtain ⟨h1, h2, h3, h4⟩ := W1.lists.pull hf (hd := 2 + k) (by omega) (by omega) hl
  rw [← eds] at h1 h2 h3 h4
  have hnd : (L (2 + k)).Nodup := (W.lists.has (2 + k) (by omega) (by omega)).nodup
  have hmem : ∀ hd : Nat, 2 ≤ hd → hd ≤ 21 → ∀ y, y ∈ updF L (2 + k) (l1 ++ l2) hd ↔ y ∈ L hd ∧ y ≠ p := fun hd a2 a21 y => by
    by_cases e : hd = 2 + k
    · subst e
      rw [updF_same, hl]
      rw [hl] at hnd
      simp only [List.mem_append, List.mem_cons]
      rw [List.nodup_append] at hnd
      constructor
      · rintro (h | h)
        · exact ⟨.inl h, fun e => hnd.2.2 y h p (List.mem_cons_self ..) e⟩
        · exact ⟨.inr (.inr h), fun e => (List.nodup_cons.1 hnd.2.1).1 (e ▸ h)⟩
      · rintro ⟨h | h | h, hne⟩
        · exact .inl h
        · exact absurd h hne
        · exact .inr h
    · rw [updF_other _ _ e]
      exact ⟨fun h => ⟨h, fun e2 => W.lists.apart hd (2 + k) a2 a21 (by omega) (by omega) e y h (e2 ▸ hm)⟩, fun h => h.1⟩
  refine ⟨_, ⟨h1, fun i hi' hc => ?_, fun q hq h => ?_⟩, hmem⟩
  · rw [h2 _ (fun hx => hc (hx.link (by omega) (by omega)))]
    exact W1.near i hi' hc
  · by_cases e : q = p
    · subst e; exact ⟨h3, h4⟩
    · have hno : ∀ hd : Nat, 2 ≤ hd → hd ≤ 21 → ¬ q ∈ L hd := fun hd a2 a21 hm2 => h hd a2 a21 ((hmem hd a2 a21 q).2 ⟨hm2, e⟩)
      have hq2 := hno (2 + k) (by omega) (by omega)
      rw [h2 _ (by
        rintro (e1 | ⟨u, hu, e1 | e1⟩)
        · unfold nxH at e1; omega
        · have : q = u := by unfold nxH at e1; omega
          exact hq2 (this ▸ hu)
        · unfold nxH pvH at e1; omega), h2 _ (by
        rintro (e1 | ⟨u, hu, e1 | e1⟩)
        · unfold pvH at e1; omega
        · unfold nxH pvH at e1; omega
        · have : q = u := by unfold pvH at e1; omega
          exact hq2 (this ▸ hu))]
      exact W1.out q hq hno
theorem Work.add (W : Work t P s n K st L g) (hf : Fit t P s n) {p m : Nat} (h1 : 1 ≤ m) (h2 : p + m ≤ P) (hno : ∀ hd : Nat, 2 ≤ hd → hd ≤ 21 → ¬ p ∈ L hd) :
    ∃ L', Work t P s n K (addS n K t P s p m st) L' (updF (updF g (pc t p 0) (infoV 1 (m : Int) 0)) (pc t (p + m - 1) 1) (p + 1)) ∧ ∀ hd : Nat, 2 ≤ hd → hd ≤ 21 → ∀ y, y ∈ L' hd ↔ y ∈ L hd ∨ (y = p ∧ ((hd : Nat) : Int) = 2 + HM.logI (m : Int)) := by
  have hlen := hf.len
  have hP := hf.nums
  have epg : pgB (P : Int) (p : Int) = true := (pgB_iff _ _).2 ⟨by omega, by omega⟩
  obtain ⟨k, hk, hk10, _⟩ := ofI_nat (n := m) h1 (by omega)
  have ebin : binH (m : Int) = ((2 + k : Nat) : Int) := binH_nat hk hk10
  have elog : HM.logI (m : Int) = (k : Int) := by
    unfold ofI at hk
    rw [if_neg (by omega)] at hk
    exact hk
  have hin : pc t p 0 < n := by unfold pc; omega
  have hfn : pc t (p + m - 1) 1 < n := by unfold pc; omega
  have e0 : pageI (t : Int) (P : Int) (s : Int) (p : Int) 0 = ((pc t p 0 : Nat) : Int) := hf.inf (by omega)
  have e1 : pageI (t : Int) (P : Int) (s : Int) ((p : Int) + (m : Int) - 1) 1 = ((pc t (p + m - 1) 1 : Nat) : Int) := by
    have : ((p : Int) + (m : Int) - 1) = ((p + m - 1 : Nat) : Int) := by omega
    rw [this]
    exact hf.foot (by omega)
  have W2 := (W.put hin (pc_far (by omega) (by omega) (by omega)) (infoV 1 (m : Int) 0)).put hfn (pc_far (by omega) (by omega) (by omega)) (p + 1)
  have eas : addS n K t P s p m st = pushS n K t P s ((2 + k : Nat) : Int) p (putS n (putS n st ((pc t p 0 : Nat) : Int) (infoV 1 (m : Int) 0)) ((pc t (p + m - 1) 1 : Nat) : Int) (p + 1)) := by
    unfold addS
    rw [if_pos ⟨epg, by omega, by omega⟩, ebin, (pgB_nat epg).1, e0, e1]
    rfl
  obtain ⟨g1, g2⟩ := W2.lists.push hf (hd := 2 + k) (by omega) (by omega) (p := p) (by omega) hno
  rw [← eas] at g1 g2
  have hmem : ∀ hd : Nat, 2 ≤ hd → hd ≤ 21 → ∀ y, y ∈ updF L (2 + k) (p :: L (2 + k)) hd ↔ y ∈ L hd ∨ (y = p ∧ ((hd : Nat) : Int) = 2 + HM.logI (m : Int)) := fun hd a2 a21 y => by
    rw [elog]
    by_cases e : hd = 2 + k
    · subst e
      rw [updF_same, List.mem_cons]
      constructor
      · rintro (h | h)
        · exact .inr ⟨h, by omega⟩
        · exact .inl h
      · rintro (h | h)
        · exact .inr h
        · exact .inl h.1
    · rw [updF_other _ _ e]
      exact ⟨fun h => .inl h, fun h => by
        rcases h with h | h
        · exact h
        · omega⟩
  refine ⟨_, ⟨g1, fun i hi hc => ?_, fun q hq h => ?_⟩, hmem⟩
  · rw [g2 _ (fun hx => hc (hx.link (by omega) (by omega)))]
    exact W2.near i hi hc
  · have hq2 : ¬ q ∈ p :: L (2 + k) := by
      have := h (2 + k) (by omega) (by omega)
      rwa [updF_same] at this
    have hno2 : ∀ hd : Nat, 2 ≤ hd → hd ≤ 21 → ¬ q ∈ L hd := fun hd a2 a21 hm2 => h hd a2 a21 ((hmem hd a2 a21 q).2 (.inl hm2))
    rw [g2 _ (by
      rintro (e2 | ⟨u, hu, e2 | e2⟩)
      · unfold nxH at e2; omega
      · have : q = u := by unfold nxH at e2; omega
        exact hq2 (this ▸ hu)
      · unfold nxH pvH at e2; omega), g2 _ (by
      rintro (e2 | ⟨u, hu, e2 | e2⟩)
      · unfold pvH at e2; omega
      · unfold nxH pvH at e2; omega
      · have : q = u := by unfold pvH at e2; omega
        exact hq2 (this ▸ hu))]
    exact W2.out q hq hno2
end
section
variable {H : AuH} {n c : Nat} {K : Nat → Option Nat} {st : Vst} {L : Nat → List Nat} {g : Nat → Nat}
theorem Work.of_ok (h : H.Ok L) (HV : HeapV H n c) (hK : ∀ i, i < n → K i = some (H.V i)) : Work H.t H.p H.s n K freshS L H.V := by
  have hL := Lists.of_ok h HV hK
  have hlen := HV.len
  have hg : ∀ i : Nat, i < n → getV n K freshS (i : Int) = H.V i := fun i hi => by rw [hL.vw.at_ hi, hK i hi]; rfl
  refine ⟨hL, fun i hi _ => hg i hi, fun q hq hno => ?_⟩
  have htg : H.tgt q = -1 := by
    rcases H.K_cases q with h3 | ⟨h3 | h3, _⟩ | ⟨h3, _, h4, h5⟩
    · exact AuH.tgt_none h3.1
    · exfalso
      have h4 := H.ln_pos q (by omega)
      obtain ⟨k, hk, hk10, _⟩ := ofI_nat (n := H.ln q) h4.1 h4.2
      unfold ofI at hk
      rw [if_neg (by omega)] at hk
      exact hno (2 + k) (by omega) (by omega) ((h.mem (2 + k) (by omega) (by omega) q).2 ⟨hq, by rw [AuH.tgt_free h3, hk]; push_cast; rfl⟩)
    · exact AuH.tgt_used h3
    · by_cases hfull : H.cel q 5 = 2 ^ slotI (H.Cl q) - 1
      · exact AuH.tgt_full h3 hfull
      · exfalso
        refine hno (13 + (H.Cl q).toNat) (by omega) (by omega) ((h.mem (13 + (H.Cl q).toNat) (by omega) (by omega) q).2 ⟨hq, ?_⟩)
        rw [AuH.tgt_slab h3 hfull]
        push_cast
        omega
  obtain ⟨h6, h7⟩ := h.loose q hq htg
  unfold nxH pvH
  rw [hg _ (by omega), hg _ (by omega)]
  exact ⟨h6, h7⟩
theorem Work.cel (W : Work H.t H.p H.s n K st L g) (hlen : n = 30 + 4 * H.t + 6 * H.p) {q b : Nat} (hq : q < H.p) (hb : b < 6) (h2 : b ≠ 2) (h3 : b ≠ 3) : (H.re (curV n (getV n K st) H.V)).cel q b = g (pc H.t q b) := by
  show curV n (getV n K st) H.V (30 + 4 * H.t + 6 * q + b) = _
  rw [curV_in (by omega)]
  exact W.near _ (by omega) (pc_far hb h2 h3)
theorem Work.low (W : Work H.t H.p H.s n K st L g) (hlen : n = 30 + 4 * H.t + 6 * H.p) {i : Nat} (h : i < 2 ∨ (22 ≤ i ∧ i < 30)) : curV n (getV n K st) H.V i = g i := by
  rw [curV_in (by omega)]
  exact W.near _ (by omega) (low_far h)
theorem Work.links (W : Work H.t H.p H.s n K st L g) (hlen : n = 30 + 4 * H.t + 6 * H.p) {q : Nat} (hq : q < H.p) (hno : ∀ hd : Nat, 2 ≤ hd → hd ≤ 21 → ¬ q ∈ L hd) : (H.re (curV n (getV n K st) H.V)).cel q 2 = 0 ∧ (H.re (curV n (getV n K st) H.V)).cel q 3 = 0 := by
  obtain ⟨h1, h2⟩ := W.out q hq hno
  refine ⟨?_, ?_⟩
  · show curV n (getV n K st) H.V (30 + 4 * H.t + 6 * q + 2) = 0
    rw [curV_in (by omega)]
    exact h1
  · show curV n (getV n K st) H.V (30 + 4 * H.t + 6 * q + 3) = 0
    rw [curV_in (by omega)]
    exact h2
end
end
section
structure RelaidG (H : AuH) (g : Nat → Nat) (L L' : Nat → List Nat) (A k e : Nat) : Prop where
  pos : 0 < k + e
  whole : H.Whole A (A + k + e)
  noslab : ∀ q, A ≤ q → q < A + k + e → H.K q ≠ 3
  left : k = 0 → ∀ q, q < A → H.K q = 1 → H.nx q ≠ A
  right : 0 < e → A + k + e < H.p → H.K (A + k + e) ≠ 1
  used : 0 < k → g (pc H.t A 0) = infoV 2 (k : Int) 0
  rest : 0 < e → g (pc H.t (A + k) 0) = infoV 1 (e : Int) 0
  blank : ∀ q, A ≤ q → q < A + k + e → ¬ (0 < k ∧ q = A) → ¬ (0 < e ∧ q = A + k) → g (pc H.t q 0) = 0
  infos : ∀ q, q < H.p → ¬ (A ≤ q ∧ q < A + k + e) → g (pc H.t q 0) = H.cel q 0
  footu : 0 < k → g (pc H.t (A + k - 1) 1) = A + 1
  footr : 0 < e → g (pc H.t (A + k + e - 1) 1) = A + k + 1
  blankf : ∀ q, A ≤ q → q < A + k + e → ¬ (0 < k ∧ q = A + k - 1) → ¬ (0 < e ∧ q = A + k + e - 1) → g (pc H.t q 1) = 0
  feet : ∀ q, q < H.p → ¬ (A ≤ q ∧ q < A + k + e) → g (pc H.t q 1) = H.cel q 1
  bits : ∀ q, q < H.p → g (pc H.t q 4) = H.cel q 4 ∧ g (pc H.t q 5) = H.cel q 5
  mem : ∀ hd : Nat, 2 ≤ hd → hd ≤ 21 → ∀ y, y ∈ L' hd ↔ (y ∈ L hd ∧ ¬ (A ≤ y ∧ y < A + k + e)) ∨ (0 < e ∧ y = A + k ∧ ((hd : Nat) : Int) = 2 + HM.logI (e : Int))
  free : g 0 + AuH.sumTo (fun i => H.freeF (A + i)) (k + e) = H.V 0 + e
  roots : ∀ i, i < 8 → g (22 + i) = H.V (22 + i)
section
variable {H : AuH} {n c : Nat} {K : Nat → Option Nat} {st : Vst} {L L' : Nat → List Nat} {g : Nat → Nat} {A k e : Nat}
theorem relaid_of (HV : HeapV H n c) (h : H.Ok L) (W : Work H.t H.p H.s n K st L' g) (R : RelaidG H g L L' A k e)
    (live : g 1 + AuH.sumTo (fun i => H.liveF (A + i)) (k + e) = H.V 1 + (if 0 < k then 1 else 0))
    (named : ∀ i, i < 8 → H.V (22 + i) ≠ 0 → A ≤ (spotP H.t H.p H.s (H.V (22 + i) : Int)).toNat → (spotP H.t H.p H.s (H.V (22 + i) : Int)).toNat < A + k + e → 0 < k ∧ (spotP H.t H.p H.s (H.V (22 + i) : Int)).toNat = A) :
    H.Relaid (curV n (getV n K st) H.V) L L' A k e := by
  have hlen := HV.len
  have hle := R.whole.le
  have hc : ∀ q b, q < H.p → b < 6 → b ≠ 2 → b ≠ 3 → (H.re (curV n (getV n K st) H.V)).cel q b = g (pc H.t q b) := fun q b hq hb h2 h3 => W.cel hlen hq hb h2 h3
  have hno : ∀ q, q < H.p → ¬ (0 < e ∧ q = A + k) → (∀ hd : Nat, 2 ≤ hd → hd ≤ 21 → ¬ (q ∈ L hd ∧ ¬ (A ≤ q ∧ q < A + k + e))) → ∀ hd : Nat, 2 ≤ hd → hd ≤ 21 → ¬ q ∈ L' hd := fun q hq h1 h2 hd a2 a21 hm => by
    rcases (R.mem hd a2 a21 q).1 hm with h3 | ⟨h3, h4, _⟩
    · exact h2 hd a2 a21 h3
    · exact h1 ⟨h3, h4⟩
  exact {
    pos := R.pos, whole := R.whole, noslab := R.noslab, left := R.left, right := R.right
    used := fun hk => by rw [hc _ _ (by omega) (by omega) (by omega) (by omega)]; exact R.used hk
    rest := fun he => by rw [hc _ _ (by omega) (by omega) (by omega) (by omega)]; exact R.rest he
    blank := fun q h1 h2 h3 h4 => by rw [hc _ _ (by omega) (by omega) (by omega) (by omega)]; exact R.blank q h1 h2 h3 h4
    infos := fun q h1 h2 => by rw [hc _ _ (by omega) (by omega) (by omega) (by omega)]; exact R.infos q h1 h2
    footu := fun hk => by rw [hc _ _ (by omega) (by omega) (by omega) (by omega)]; exact R.footu hk
    footr := fun he => by rw [hc _ _ (by omega) (by omega) (by omega) (by omega)]; exact R.footr he
    blankf := fun q h1 h2 h3 h4 => by rw [hc _ _ (by omega) (by omega) (by omega) (by omega)]; exact R.blankf q h1 h2 h3 h4
    feet := fun q h1 h2 => by rw [hc _ _ (by omega) (by omega) (by omega) (by omega)]; exact R.feet q h1 h2
    bits := fun q h1 => by rw [hc _ _ h1 (by omega) (by omega) (by omega), hc _ _ h1 (by omega) (by omega) (by omega)]; exact R.bits q h1
    list := fun hd h2 h21 => W.lists.isL HV h2 h21
    mem := R.mem
    bare := fun q h1 h2 h3 => W.links hlen (by omega) (hno q (by omega) h3 (fun hd _ _ hx => hx.2 ⟨h1, h2⟩))
    loose := fun q h1 h2 h3 => by
      have h4 := W.links hlen h1 (hno q h1 (fun hx => h2 ⟨by omega, by omega⟩) (fun hd a2 a21 hx => by
        have := ((h.mem hd a2 a21 q).1 hx.1).2
        omega))
      obtain ⟨h5, h6⟩ := h.loose q h1 h3
      exact ⟨h4.1.trans h5.symm, h4.2.trans h6.symm⟩
    free := by rw [W.low hlen (.inl (by omega))]; exact R.free
    live := by rw [W.low hlen (.inl (by omega))]; exact live
    roots := fun i hi => by rw [W.low hlen (.inr ⟨by omega, by omega⟩)]; exact R.roots i hi
    named := named }

theorem span_at (h : H.Ok L) {p : Nat} (hp : p < H.p) (hk : H.K p ≠ 0) (hs : H.K p ≠ 3) : H.nx p = p + H.ln p ∧ 1 ≤ H.ln p ∧ p + H.ln p ≤ H.p ∧ (p + H.ln p < H.p → H.K (p + H.ln p) ≠ 0) ∧ (∀ q, p < q → q < p + H.ln p → H.cel q 0 = 0 ∧ H.K q = 0) ∧ (∀ q, p ≤ q → q + 1 < p + H.ln p → H.cel q 1 = 0) ∧ H.cel (p + H.ln p - 1) 1 = p + 1 := by
  have hl := H.ln_pos p (by rcases H.K_cases p with h1 | h1 | h1 <;> omega)
  have hnx : H.nx p = p + H.ln p := rfl
  have hf := h.spans.fit p hp hk
  obtain ⟨f1, f2⟩ := h.feet p hp hk
  refine ⟨hnx, hl.1, by omega, fun h1 => by have := h.spans.next p hp hk (by omega); rwa [hnx] at this, fun q h1 h2 => ?_, fun q h1 h2 => f1 q h1 h2, f2⟩
  have := h.spans.inside p q hp hk h1 (by omega)
  exact ⟨this, (H.K_zero q this).1⟩
theorem free_list (h : H.Ok L) {p : Nat} (hp : p < H.p) (hk : H.K p = 1) : ∃ k : Nat, ofI (H.ln p : Int) = (k : Int) ∧ k ≤ 10 ∧ p ∈ L (2 + k) := by
  have hl := H.ln_pos p (by omega)
  obtain ⟨k, e, hk10, _⟩ := ofI_nat hl.1 hl.2
  refine ⟨k, e, hk10, (h.mem (2 + k) (by omega) (by omega) p).2 ⟨hp, ?_⟩⟩
  unfold ofI at e
  rw [if_neg (by omega)] at e
  rw [AuH.tgt_free hk, e]
  push_cast
  rfl
theorem free_info {p : Nat} (hk : H.K p = 1) : infoG (H.cel p 0) = (1, (H.ln p : Int), 0, true) := by
  rw [H.info_eq, hk, H.L_ln, H.ok_of p (by omega)]
  rcases H.K_cases p with h1 | ⟨_, _, _, h1⟩ | h1
  · omega
  · rw [h1]
  · omega
theorem inner_no (h : H.Ok L) {q : Nat} (hq : H.K q = 0) : ∀ hd : Nat, 2 ≤ hd → hd ≤ 21 → ¬ q ∈ L hd := fun hd a2 a21 hm => by
  have := ((h.mem hd a2 a21 q).1 hm).2
  rw [AuH.tgt_none hq] at this
  omega
theorem Work.used (W : Work H.t H.p H.s n K st L' g) (hf : Fit H.t H.p H.s n) {p m : Nat} (h1 : 1 ≤ m) (h2 : p + m ≤ H.p) :
    Work H.t H.p H.s n K (usedS n H.t H.p H.s p m st) L' (updF (updF g (pc H.t p 0) (infoV 2 (m : Int) 0)) (pc H.t (p + m - 1) 1) (p + 1)) := by
  have hlen := hf.len
  have e0 : pageI (H.t : Int) (H.p : Int) (H.s : Int) (p : Int) 0 = ((pc H.t p 0 : Nat) : Int) := hf.inf (by omega)
  have e1 : pageI (H.t : Int) (H.p : Int) (H.s : Int) ((p : Int) + (m : Int) - 1) 1 = ((pc H.t (p + m - 1) 1 : Nat) : Int) := by
    have : ((p : Int) + (m : Int) - 1) = ((p + m - 1 : Nat) : Int) := by omega
    rw [this]
    exact hf.foot (by omega)
  unfold usedS
  rw [e0, e1]
  exact (W.put (by unfold pc; omega) (pc_far (by omega) (by omega) (by omega)) _).put (by unfold pc; omega) (pc_far (by omega) (by omega) (by omega)) _
theorem Work.less (W : Work H.t H.p H.s n K st L' g) (hf : Fit H.t H.p H.s n) {m : Nat} (h1 : m ≤ g 0) (h2 : g 0 < 4294967296) : Work H.t H.p H.s n K (lessS n K m st) L' (updF g 0 (g 0 - m)) := by
  have hlen := hf.len
  unfold lessS
  have e : getV n K st 0 = g 0 := W.near 0 (by omega) (low_far (i := 0) (.inl (by omega)))
  rw [e, sub32_small h1 h2]
  exact (W.get 0).put (i := 0) (by omega) (low_far (.inl (by omega))) _
theorem Work.more (W : Work H.t H.p H.s n K st L' g) (hf : Fit H.t H.p H.s n) {m : Nat} (h2 : g 0 + m < 4294967296) : Work H.t H.p H.s n K (moreS n K m st) L' (updF g 0 (g 0 + m)) := by
  have hlen := hf.len
  unfold moreS
  have e : getV n K st 0 = g 0 := W.near 0 (by omega) (low_far (i := 0) (.inl (by omega)))
  rw [e, add32_small h2]
  exact (W.get 0).put (i := 0) (by omega) (low_far (.inl (by omega))) _
end
end
section
theorem updF_pcN {α : Type} {t q b q' b' : Nat} (g : Nat → α) (v : α) (hb : b < 6) (hb' : b' < 6) (h : q' ≠ q ∨ b' ≠ b) : updF g (pc t q b) v (pc t q' b') = g (pc t q' b') := by
  unfold updF pc
  rw [if_neg (by omega)]
theorem updF_pcE {α : Type} {t q b q' : Nat} (g : Nat → α) (v : α) (h : q' = q) : updF g (pc t q b) v (pc t q' b) = v := by
  subst h
  exact if_pos rfl
theorem updF_pc0 {α : Type} {t q b : Nat} (g : Nat → α) (v : α) : updF g 0 v (pc t q b) = g (pc t q b) := by unfold updF pc; rw [if_neg (by omega)]
theorem updF_low {α : Type} {t q b i : Nat} (g : Nat → α) (v : α) (h : i < 30) : updF g (pc t q b) v i = g i := by unfold updF pc; rw [if_neg (by omega)]
section
variable {H : AuH} {n c : Nat} {K : Nat → Option Nat} {st : Vst} {L L' : Nat → List Nat} {g : Nat → Nat}
theorem cel_pc (q b : Nat) : H.V (pc H.t q b) = H.cel q b := rfl
theorem sums_at (h : H.Ok L) {p : Nat} (hp : p < H.p) (hk : H.K p ≠ 0) (hs : H.K p ≠ 3) :
    AuH.sumTo (fun i => H.freeF (p + i)) (H.ln p) = H.freeF p ∧ AuH.sumTo (fun i => H.liveF (p + i)) (H.ln p) = H.liveF p := by
  obtain ⟨_, h1, _, _, h4, _⟩ := span_at h hp hk hs
  refine ⟨?_, ?_⟩
  · exact AuH.sumTo_first (f := fun i => H.freeF (p + i)) (by omega) (fun i h5 h6 => AuH.freeF_no (h4 (p + i) (by omega) (by omega)).2)
  · exact AuH.sumTo_first (f := fun i => H.liveF (p + i)) (by omega) (fun i h5 h6 => AuH.liveF_no (h4 (p + i) (by omega) (by omega)).2)
theorem free_few (h : H.Ok L) (hP : H.p ≤ 1024) : H.V 0 = AuH.sumTo H.freeF H.p ∧ H.V 0 ≤ 1024 := by
  have h1 := AuH.sum_free_le h.spans H.p (Nat.le_refl _) (.inl rfl)
  have h2 := h.counts.1
  rw [Nat.mod_eq_of_lt (by omega)] at h2
  exact ⟨h2, by omega⟩
theorem free_some (h : H.Ok L) (hP : H.p ≤ 1024) {p : Nat} (hp : p < H.p) (hk : H.K p = 1) : H.ln p ≤ H.V 0 := by
  obtain ⟨_, h1, h2, _⟩ := span_at h hp (by omega) (by omega)
  obtain ⟨e, he⟩ : ∃ e, H.p = p + H.ln p + e := ⟨H.p - (p + H.ln p), by omega⟩
  have h3 := AuH.sumTo_split H.freeF (p + H.ln p) e
  rw [← he] at h3
  have h4 := AuH.sumTo_split H.freeF p (H.ln p)
  have h5 := (sums_at h hp (by omega) (by omega)).1
  have h6 : H.freeF p = H.ln p := by unfold AuH.freeF; rw [if_pos hk]
  have h7 := (free_few h hP).1
  omega
end
end
section
section
variable {t P s n : Nat} {K : Nat → Option Nat} {st : Vst} {L : Nat → List Nat} {g : Nat → Nat}
theorem Work.infoAt (W : Work t P s n K st L g) (hf : Fit t P s n) {q : Nat} (hq : q < P) : infoOf n K t P s (q : Int) st = infoG (g (pc t q 0)) := by
  have hlen := hf.len
  unfold infoOf
  rw [hf.inf hq]
  have e : getV n K st ((pc t q 0 : Nat) : Int) = g (pc t q 0) := W.near _ (by unfold pc; omega) (pc_far (by omega) (by omega) (by omega))
  exact congrArg infoG e
theorem Work.footAt (W : Work t P s n K st L g) (hf : Fit t P s n) {q : Nat} (hq : q < P) : getV n K st (pageI (t : Int) (P : Int) (s : Int) (q : Int) 1) = g (pc t q 1) := by
  have hlen := hf.len
  rw [hf.foot hq]
  have e : getV n K st ((pc t q 1 : Nat) : Int) = g (pc t q 1) := W.near _ (by unfold pc; omega) (pc_far (by omega) (by omega) (by omega))
  exact e
theorem Work.zero (W : Work t P s n K st L g) (hf : Fit t P s n) {p : Nat} (h0 : 0 < p) (hp : p < P) :
    Work t P s n K (putS n (putS n st (pageI (t : Int) (P : Int) (s : Int) (p : Int) 0) 0) (pageI (t : Int) (P : Int) (s : Int) ((p : Int) - 1) 1) 0) L (updF (updF g (pc t p 0) 0) (pc t (p - 1) 1) 0) := by
  have hlen := hf.len
  have e1 : pageI (t : Int) (P : Int) (s : Int) ((p : Int) - 1) 1 = ((pc t (p - 1) 1 : Nat) : Int) := by
    rw [show ((p : Int) - 1) = ((p - 1 : Nat) : Int) by omega]
    exact hf.foot (by omega)
  have e0 : pageI (t : Int) (P : Int) (s : Int) (p : Int) 0 = ((pc t p 0 : Nat) : Int) := hf.inf hp
  rw [e1, e0]
  exact (W.put (by unfold pc; omega) (pc_far (by omega) (by omega) (by omega)) _).put (by unfold pc; omega) (pc_far (by omega) (by omega) (by omega)) _
theorem Work.ahead (W : Work t P s n K st L g) (hf : Fit t P s n) {p A l : Nat} (hp : p < P) (hA : A + l = p)
    (hno : l = 0 → p = 0 ∨ ∃ f kk ll cc ok, f < P ∧ g (pc t (p - 1) 1) = f + 1 ∧ infoG (g (pc t f 0)) = (kk, ll, cc, ok) ∧ kk ≠ 1)
    (hyes : 0 < l → g (pc t (p - 1) 1) = A + 1 ∧ infoG (g (pc t A 0)) = (1, (l : Int), 0, true) ∧ ∃ k : Nat, ofI (l : Int) = (k : Int) ∧ k ≤ 10 ∧ A ∈ L (2 + k)) :
    (relL n K t P s p st).2 = ((A : Int), (l : Int)) ∧ ∃ L' g', Work t P s n K (relL n K t P s p st).1 L' g' ∧ (∀ hd : Nat, 2 ≤ hd → hd ≤ 21 → ∀ y, y ∈ L' hd ↔ y ∈ L hd ∧ ¬ (0 < l ∧ y = A)) ∧
      (∀ i, i < 30 → g' i = g i) ∧ (∀ q b, b < 6 → g' (pc t q b) = if 0 < l ∧ ((q = p ∧ b = 0) ∨ (q + 1 = p ∧ b = 1)) then 0 else g (pc t q b)) := by
  unfold relL
  by_cases h0 : p = 0
  · rw [if_pos h0]
    obtain rfl : l = 0 := by omega
    obtain rfl : A = p := by omega
    exact ⟨rfl, L, g, W, fun hd _ _ y => by simp, fun i _ => rfl, fun q b _ => by rw [if_neg (by omega)]⟩
  · rw [if_neg h0]
    dsimp only
    have ep : ((p : Int) - 1) = ((p - 1 : Nat) : Int) := by omega
    have W1 := W.get (pageI (t : Int) (P : Int) (s : Int) ((p : Int) - 1) 1)
    have hft : getV n K st (pageI (t : Int) (P : Int) (s : Int) ((p : Int) - 1) 1) = g (pc t (p - 1) 1) := by rw [ep]; exact W.footAt hf (by omega)
    by_cases hl : l = 0
    · subst hl
      obtain rfl : A = p := by omega
      rcases hno rfl with h1 | ⟨f, kk, ll, cc, ok, hfP, hfo, hfi, hk⟩
      · exact absurd h1 h0
      · have ei : infoOf n K t P s (((getV n K st (pageI (t : Int) (P : Int) (s : Int) ((A : Int) - 1) 1) : Nat) : Int) - 1) (getS n K st (pageI (t : Int) (P : Int) (s : Int) ((A : Int) - 1) 1)) = (kk, ll, cc, ok) := by
          rw [hft, hfo, show (((f + 1 : Nat) : Int) - 1) = (f : Int) by omega, W1.infoAt hf hfP, hfi]
        rw [ei]
        simp only
        rw [if_neg hk]
        exact ⟨rfl, L, g, W1.get _, fun hd _ _ y => by simp, fun i _ => rfl, fun q b _ => by rw [if_neg (by omega)]⟩
    · obtain ⟨hfo, hfi, k, hk, hk10, hm⟩ := hyes (by omega)
      have ef : (((getV n K st (pageI (t : Int) (P : Int) (s : Int) ((p : Int) - 1) 1) : Nat) : Int) - 1) = (A : Int) := by rw [hft, hfo]; omega
      rw [ef]
      have ei : infoOf n K t P s (A : Int) (getS n K st (pageI (t : Int) (P : Int) (s : Int) ((p : Int) - 1) 1)) = (1, (l : Int), 0, true) := by rw [W1.infoAt hf (by omega), hfi]
      rw [ei]
      simp only [if_true]
      have W2 := W1.get (pageI (t : Int) (P : Int) (s : Int) (A : Int) 0)
      obtain ⟨ed, L3, W3, m3⟩ := W2.drop hf (p := A) (by omega) hfi hk hk10 hm
      have W4 := W3.zero hf (p := p) (by omega) hp
      refine ⟨by rw [ed], L3, _, W4, fun hd a2 a21 y => ?_, fun i hi => by rw [updF_low _ _ hi, updF_low _ _ hi], fun q b hb => ?_⟩
      · rw [m3 hd a2 a21 y]
        constructor
        · exact fun h => ⟨h.1, fun h2 => h.2 h2.2⟩
        · exact fun h => ⟨h.1, fun h2 => h.2 ⟨by omega, h2⟩⟩
      · by_cases c1 : q + 1 = p ∧ b = 1
        · obtain ⟨c1, rfl⟩ := c1
          rw [if_pos ⟨by omega, .inr ⟨c1, rfl⟩⟩, updF_pcE _ _ (by omega)]
        · rw [updF_pcN _ _ (by omega) hb (by omega)]
          by_cases c2 : q = p ∧ b = 0
          · obtain ⟨c2, rfl⟩ := c2
            rw [if_pos ⟨by omega, .inl ⟨c2, rfl⟩⟩, updF_pcE _ _ c2]
          · rw [updF_pcN _ _ (by omega) hb (by omega), if_neg (by omega)]
theorem Work.behind (W : Work t P s n K st L g) (hf : Fit t P s n) {r l : Nat} (hr0 : 0 < r)
    (hno : l = 0 → r < P → ∃ kk ll cc ok, infoG (g (pc t r 0)) = (kk, ll, cc, ok) ∧ kk ≠ 1)
    (hyes : 0 < l → r < P ∧ infoG (g (pc t r 0)) = (1, (l : Int), 0, true) ∧ ∃ k : Nat, ofI (l : Int) = (k : Int) ∧ k ≤ 10 ∧ r ∈ L (2 + k)) :
    (relR n K t P s r st).2 = (l : Int) ∧ ∃ L' g', Work t P s n K (relR n K t P s r st).1 L' g' ∧ (∀ hd : Nat, 2 ≤ hd → hd ≤ 21 → ∀ y, y ∈ L' hd ↔ y ∈ L hd ∧ ¬ (0 < l ∧ y = r)) ∧
      (∀ i, i < 30 → g' i = g i) ∧ (∀ q b, b < 6 → g' (pc t q b) = if 0 < l ∧ ((q = r ∧ b = 0) ∨ (q + 1 = r ∧ b = 1)) then 0 else g (pc t q b)) := by
  unfold relR
  by_cases hr : r < P
  · rw [if_pos (by omega)]
    dsimp only
    by_cases hl : l = 0
    · subst hl
      obtain ⟨kk, ll, cc, ok, hfi, hk⟩ := hno rfl hr
      rw [W.infoAt hf hr, hfi]
      simp only
      rw [if_neg hk]
      exact ⟨rfl, L, g, W.get _, fun hd _ _ y => by simp, fun i _ => rfl, fun q b _ => by rw [if_neg (by omega)]⟩
    · obtain ⟨_, hfi, k, hk, hk10, hm⟩ := hyes (by omega)
      rw [W.infoAt hf hr, hfi]
      simp only [if_true]
      have W2 := W.get (pageI (t : Int) (P : Int) (s : Int) (r : Int) 0)
      obtain ⟨ed, L3, W3, m3⟩ := W2.drop hf (p := r) hr hfi hk hk10 hm
      have W4 := W3.zero hf (p := r) hr0 hr
      refine ⟨ed, L3, _, W4, fun hd a2 a21 y => ?_, fun i hi => by rw [updF_low _ _ hi, updF_low _ _ hi], fun q b hb => ?_⟩
      · rw [m3 hd a2 a21 y]
        constructor
        · exact fun h => ⟨h.1, fun h2 => h.2 h2.2⟩
        · exact fun h => ⟨h.1, fun h2 => h.2 ⟨by omega, h2⟩⟩
      · by_cases c1 : q + 1 = r ∧ b = 1
        · obtain ⟨c1, rfl⟩ := c1
          rw [if_pos ⟨by omega, .inr ⟨c1, rfl⟩⟩, updF_pcE _ _ (by omega)]
        · rw [updF_pcN _ _ (by omega) hb (by omega)]
          by_cases c2 : q = r ∧ b = 0
          · obtain ⟨c2, rfl⟩ := c2
            rw [if_pos ⟨by omega, .inl ⟨c2, rfl⟩⟩, updF_pcE _ _ c2]
          · rw [updF_pcN _ _ (by omega) hb (by omega), if_neg (by omega)]
  · rw [if_neg (by omega)]
    obtain rfl : l = 0 := by
      rcases Nat.eq_zero_or_pos l with h | h
      · exact h
      · exact absurd (hyes h).1 hr
    exact ⟨rfl, L, g, W, fun hd _ _ y => by simp, fun i _ => rfl, fun q b _ => by rw [if_neg (by omega)]⟩
end
section
variable {H : AuH} {n : Nat} {K : Nat → Option Nat} {st : Vst} {L : Nat → List Nat} {g : Nat → Nat}
theorem Work.release (W : Work H.t H.p H.s n K st L g) (hf : Fit H.t H.p H.s n) {p m A la lr : Nat} (hm : 1 ≤ m) (hpm : p + m + lr ≤ H.p) (hA : A + la = p)
    (hl0 : la = 0 → p = 0 ∨ ∃ f kk ll cc ok, f < H.p ∧ g (pc H.t (p - 1) 1) = f + 1 ∧ infoG (g (pc H.t f 0)) = (kk, ll, cc, ok) ∧ kk ≠ 1)
    (hl1 : 0 < la → g (pc H.t (p - 1) 1) = A + 1 ∧ infoG (g (pc H.t A 0)) = (1, (la : Int), 0, true) ∧ ∃ k : Nat, ofI (la : Int) = (k : Int) ∧ k ≤ 10 ∧ A ∈ L (2 + k))
    (hr0 : lr = 0 → p + m < H.p → ∃ kk ll cc ok, infoG (g (pc H.t (p + m) 0)) = (kk, ll, cc, ok) ∧ kk ≠ 1)
    (hr1 : 0 < lr → p + m < H.p ∧ infoG (g (pc H.t (p + m) 0)) = (1, (lr : Int), 0, true) ∧ ∃ k : Nat, ofI (lr : Int) = (k : Int) ∧ k ≤ 10 ∧ p + m ∈ L (2 + k))
    (hin : ∀ hd : Nat, 2 ≤ hd → hd ≤ 21 → A ∈ L hd → 0 < la) (h0 : g 0 + m < 4294967296) :
    ∃ L' g', Work H.t H.p H.s n K (releaseS n K H.t H.p H.s p m st) L' g' ∧
      (∀ hd : Nat, 2 ≤ hd → hd ≤ 21 → ∀ y, y ∈ L' hd ↔ (y ∈ L hd ∧ ¬ (0 < la ∧ y = A) ∧ ¬ (0 < lr ∧ y = p + m)) ∨ (y = A ∧ ((hd : Nat) : Int) = 2 + HM.logI ((la + m + lr : Nat) : Int))) ∧
      g' 0 = g 0 + m ∧ (∀ i, 0 < i → i < 30 → g' i = g i) ∧
      (∀ q, g' (pc H.t q 0) = if q = A then infoV 1 ((la + m + lr : Nat) : Int) 0 else if (0 < la ∧ q = p) ∨ (0 < lr ∧ q = p + m) then 0 else g (pc H.t q 0)) ∧
      (∀ q, g' (pc H.t q 1) = if q + 1 = A + (la + m + lr) then A + 1 else if (0 < la ∧ q + 1 = p) ∨ (0 < lr ∧ q + 1 = p + m) then 0 else g (pc H.t q 1)) ∧
      ∀ q, g' (pc H.t q 4) = g (pc H.t q 4) ∧ g' (pc H.t q 5) = g (pc H.t q 5) := by
  obtain ⟨e1, L1, g1, W1, m1, n1, c1⟩ := W.ahead hf (p := p) (by omega) hA hl0 hl1
  have hne : lr = 0 ∨ p + m ≠ A := by omega
  obtain ⟨e2, L2, g2, W2, m2, n2, c2⟩ := W1.behind hf (r := p + m) (l := lr) (by omega)
    (fun h1 h2 => by
      rw [c1 _ _ (by omega), if_neg (by omega)]
      exact hr0 h1 h2)
    (fun h1 => by
      obtain ⟨a1, a2, k, a3, a4, a5⟩ := hr1 h1
      refine ⟨a1, by rw [c1 _ _ (by omega), if_neg (by omega)]; exact a2, k, a3, a4, ?_⟩
      exact (m1 _ (by omega) (by omega) _).2 ⟨a5, fun h2 => by omega⟩)
  have hAno : ∀ hd : Nat, 2 ≤ hd → hd ≤ 21 → ¬ A ∈ L2 hd := fun hd a2 a21 hx => by
    have h1 := (m2 hd a2 a21 _).1 hx
    have h2 := (m1 hd a2 a21 _).1 h1.1
    exact h2.2 ⟨hin hd a2 a21 h2.1, rfl⟩
  obtain ⟨L3, W3, m3⟩ := W2.add hf (p := A) (m := la + m + lr) (by omega) (by omega) hAno
  have est : addS n K H.t H.p H.s (relL n K H.t H.p H.s p st).2.1 ((m : Int) + (relL n K H.t H.p H.s p st).2.2 + (relR n K H.t H.p H.s (p + m) (relL n K H.t H.p H.s p st).1).2) (relR n K H.t H.p H.s (p + m) (relL n K H.t H.p H.s p st).1).1 =
      addS n K H.t H.p H.s (A : Int) ((la + m + lr : Nat) : Int) (relR n K H.t H.p H.s (p + m) (relL n K H.t H.p H.s p st).1).1 := by
    rw [e1, e2]
    congr 1
    simp only
    omega
  rw [← est] at W3
  have e0 : (updF (updF g2 (pc H.t A 0) (infoV 1 ((la + m + lr : Nat) : Int) 0)) (pc H.t (A + (la + m + lr) - 1) 1) (A + 1)) 0 = g 0 := by
    rw [updF_low _ _ (by omega), updF_low _ _ (by omega), n2 0 (by omega), n1 0 (by omega)]
  have W4 := W3.more hf (m := m) (by rw [e0]; exact h0)
  refine ⟨L3, _, W4, fun hd a2 a21 y => ?_, ?_, fun i h1 h2 => ?_, fun q => ?_, fun q => ?_, fun q => ?_⟩
  · rw [m3 hd a2 a21 y, m2 hd a2 a21 y, m1 hd a2 a21 y, and_assoc]
  · rw [updF_same, e0]
  · rw [updF_other _ _ (by omega), updF_low _ _ h2, updF_low _ _ h2, n2 i h2, n1 i h2]
  · rw [updF_pc0, updF_pcN _ _ (by omega) (by omega) (by omega)]
    by_cases h1 : q = A
    · rw [if_pos h1, updF_pcE _ _ h1]
    · rw [if_neg h1, updF_pcN _ _ (by omega) (by omega) (by omega), c2 _ _ (by omega), c1 _ _ (by omega)]
      by_cases h2 : (0 < la ∧ q = p) ∨ (0 < lr ∧ q = p + m)
      · rw [if_pos h2]
        split
        · rfl
        · rw [if_pos (by omega)]
      · rw [if_neg h2, if_neg (by omega), if_neg (by omega)]
  · rw [updF_pc0]
    by_cases h1 : q + 1 = A + (la + m + lr)
    · rw [if_pos h1, updF_pcE _ _ (by omega)]
    · rw [if_neg h1, updF_pcN _ _ (by omega) (by omega) (by omega), updF_pcN _ _ (by omega) (by omega) (by omega), c2 _ _ (by omega), c1 _ _ (by omega)]
      by_cases h2 : (0 < la ∧ q + 1 = p) ∨ (0 < lr ∧ q + 1 = p + m)
      · rw [if_pos h2]
        split
        · rfl
        · rw [if_pos (by omega)]
      · rw [if_neg h2, if_neg (by omega), if_neg (by omega)]
  · simp (disch := omega) only [updF_pc0, updF_pcN]
    rw [c2 _ _ (by omega), c2 _ _ (by omega), c1 _ _ (by omega), c1 _ _ (by omega), if_neg (by omega), if_neg (by omega), if_neg (by omega), if_neg (by omega)]
    exact ⟨rfl, rfl⟩
end
end
section
section
variable {H : AuH} {n c : Nat} {K : Nat → Option Nat} {st : Vst} {L : Nat → List Nat} {g : Nat → Nat}
theorem span_ahead (h : H.Ok L) {p : Nat} (hp : p < H.p) (hk : H.K p ≠ 0) (h0 : 0 < p) :
    ∃ a, a < p ∧ H.K a ≠ 0 ∧ H.nx a = p ∧ H.cel (p - 1) 1 = a + 1 ∧ ∀ q, q < p → H.K q ≠ 0 → H.nx q = p → q = a := by
  have ha := h.spans.reach p p (Nat.le_refl _) (by omega) (.inr hk)
  generalize hx : p = x at ha
  cases ha with
  | zero => omega
  | step ha hc =>
    rename_i a
    obtain ⟨a1, a2, a3⟩ := (H.can_iff a).1 hc
    have hl := H.ln_pos a (by rcases H.K_cases a with h1 | h1 | h1 <;> omega)
    have hnx : H.nx a = a + H.ln a := rfl
    have hap : a < p := by omega
    obtain ⟨_, f2⟩ := h.feet a a1 a2
    refine ⟨a, by omega, a2, hx ▸ rfl, ?_, fun q hq hkq hn => ?_⟩
    · rw [← f2]; rfl
    · rcases Nat.lt_trichotomy q a with h1 | h1 | h1
      · have := h.spans.ahead a2 h1 (by omega) hkq
        omega
      · exact h1
      · have := h.spans.ahead hkq h1 (by omega) a2
        omega
theorem any_info (p : Nat) : ∃ ll cc ok, infoG (H.cel p 0) = (H.K p, ll, cc, ok) := ⟨_, _, _, H.info_eq p⟩
theorem left_of_span (h : H.Ok L) {p : Nat} (hp : p < H.p) (hk : H.K p ≠ 0) (hk1 : H.K p ≠ 1) :
    ∃ A la, A + la = p ∧ (la = 0 → p = 0 ∨ ∃ f kk ll cc ok, f < H.p ∧ H.V (pc H.t (p - 1) 1) = f + 1 ∧ infoG (H.V (pc H.t f 0)) = (kk, ll, cc, ok) ∧ kk ≠ 1) ∧
      (0 < la → H.V (pc H.t (p - 1) 1) = A + 1 ∧ infoG (H.V (pc H.t A 0)) = (1, (la : Int), 0, true) ∧ ∃ k : Nat, ofI (la : Int) = (k : Int) ∧ k ≤ 10 ∧ A ∈ L (2 + k)) ∧
      (0 < la → H.K A = 1 ∧ H.ln A = la) ∧ (∀ q, q < A → H.K q = 1 → H.nx q ≠ A) := by
  rcases Nat.eq_zero_or_pos p with h0 | h0
  · exact ⟨p, 0, rfl, fun _ => .inl h0, fun h => by omega, fun h => by omega, fun q hq => by omega⟩
  · obtain ⟨a, ha, hka, hna, hfa, huq⟩ := span_ahead h hp hk h0
    by_cases hf : H.K a = 1
    · obtain ⟨_, h1, h2, _⟩ := span_at h (p := a) (by omega) (by omega) (by omega)
      have hnx : H.nx a = a + H.ln a := rfl
      refine ⟨a, H.ln a, by omega, fun h => by omega, fun _ => ⟨hfa, free_info hf, free_list h (by omega) hf⟩, fun _ => ⟨hf, rfl⟩, fun q hq hkq hn => ?_⟩
      have := h.apart q (by omega) hkq (by omega)
      rw [hn] at this
      exact this hf
    · obtain ⟨ll, cc, ok, hi⟩ := any_info (H := H) a
      refine ⟨p, 0, rfl, fun _ => .inr ⟨a, H.K a, ll, cc, ok, by omega, hfa, hi, hf⟩, fun h => by omega, fun h => by omega, fun q hq hkq hn => ?_⟩
      have := huq q hq (by omega) hn
      subst this
      exact hf hkq
theorem right_of_span (h : H.Ok L) {r : Nat} (hk : r < H.p → H.K r ≠ 0) (hr : r ≤ H.p) :
    ∃ lr, r + lr ≤ H.p ∧ (lr = 0 → r < H.p → ∃ kk ll cc ok, infoG (H.V (pc H.t r 0)) = (kk, ll, cc, ok) ∧ kk ≠ 1) ∧
      (0 < lr → r < H.p ∧ infoG (H.V (pc H.t r 0)) = (1, (lr : Int), 0, true) ∧ ∃ k : Nat, ofI (lr : Int) = (k : Int) ∧ k ≤ 10 ∧ r ∈ L (2 + k)) ∧
      (0 < lr → H.K r = 1 ∧ H.ln r = lr) ∧ (lr = 0 → r < H.p → H.K r ≠ 1) ∧ (r + lr < H.p → H.K (r + lr) ≠ 0 ∧ H.K (r + lr) ≠ 1) := by
  by_cases hrp : r < H.p
  · by_cases hf : H.K r = 1
    · obtain ⟨hnx, h1, h2, h3, _⟩ := span_at h hrp (by omega) (by omega)
      refine ⟨H.ln r, h2, fun h => by omega, fun _ => ⟨hrp, free_info hf, free_list h hrp hf⟩, fun _ => ⟨hf, rfl⟩, fun h => by omega, fun h4 => ⟨h3 h4, ?_⟩⟩
      have := h.apart r hrp hf (by rw [hnx]; exact h4)
      rwa [hnx] at this
    · obtain ⟨ll, cc, ok, hi⟩ := any_info (H := H) r
      exact ⟨0, by omega, fun _ _ => ⟨_, _, _, _, hi, hf⟩, fun h => by omega, fun h => by omega, fun _ _ => hf, fun _ => ⟨hk hrp, hf⟩⟩
  · exact ⟨0, by omega, fun _ h => absurd h hrp, fun h => by omega, fun h => by omega, fun _ h => absurd h hrp, fun h => absurd h (by omega)⟩

structure Around (H : AuH) (L : Nat → List Nat) (p m A la lr : Nat) : Prop where
  used : H.K p = 2
  len : H.ln p = m
  pos : 1 ≤ m
  ahead : A + la = p
  le : p + m + lr ≤ H.p
  leftF : 0 < la → H.K A = 1 ∧ H.ln A = la
  rightF : 0 < lr → H.K (p + m) = 1 ∧ H.ln (p + m) = lr
  firstK : H.K A ≠ 0
  lastK : p + m + lr < H.p → H.K (p + m + lr) ≠ 0 ∧ H.K (p + m + lr) ≠ 1
  kinds : ∀ q, A ≤ q → q < p + m + lr → (q = p ∧ H.K q = 2) ∨ (0 < la ∧ q = A ∧ H.K q = 1) ∨ (0 < lr ∧ q = p + m ∧ H.K q = 1) ∨ (H.K q = 0 ∧ H.cel q 0 = 0 ∧ q ≠ p ∧ ¬ (0 < la ∧ q = A) ∧ ¬ (0 < lr ∧ q = p + m))
  feet : ∀ q, A ≤ q → q < p + m + lr → q + 1 ≠ p + m → ¬ (0 < la ∧ q + 1 = p) → ¬ (0 < lr ∧ q + 1 = p + m + lr) → H.cel q 1 = 0
  free : AuH.sumTo (fun i => H.freeF (A + i)) (la + m + lr) = la + lr
  live : AuH.sumTo (fun i => H.liveF (A + i)) (la + m + lr) = 1
theorem around (h : H.Ok L) {p m A la lr : Nat} (hp : p < H.p) (hk : H.K p = 2) (hm : H.ln p = m) (hA : A + la = p) (hle : p + m + lr ≤ H.p)
    (hl : 0 < la → H.K A = 1 ∧ H.ln A = la) (hr : 0 < lr → H.K (p + m) = 1 ∧ H.ln (p + m) = lr) (hlast : p + m + lr < H.p → H.K (p + m + lr) ≠ 0 ∧ H.K (p + m + lr) ≠ 1) :
    Around H L p m A la lr := by
  obtain ⟨_, s1, s2, s3, s4, s5, s6⟩ := span_at h hp (by omega) (by omega)
  rw [hm] at s1 s2 s3 s4 s5 s6
  have hL : 0 < la → (∀ q, A < q → q < p → H.cel q 0 = 0 ∧ H.K q = 0) ∧ ∀ q, A ≤ q → q + 1 < p → H.cel q 1 = 0 := fun h0 => by
    obtain ⟨_, _, _, _, b4, b5, _⟩ := span_at h (p := A) (by omega) (by have := (hl h0).1; omega) (by have := (hl h0).1; omega)
    rw [(hl h0).2, hA] at b4 b5
    exact ⟨b4, b5⟩
  have hR : 0 < lr → (∀ q, p + m < q → q < p + m + lr → H.cel q 0 = 0 ∧ H.K q = 0) ∧ ∀ q, p + m ≤ q → q + 1 < p + m + lr → H.cel q 1 = 0 := fun h0 => by
    obtain ⟨_, _, _, _, b4, b5, _⟩ := span_at h (p := p + m) (by omega) (by have := (hr h0).1; omega) (by have := (hr h0).1; omega)
    rw [(hr h0).2] at b4 b5
    exact ⟨b4, b5⟩
  have kinds : ∀ q, A ≤ q → q < p + m + lr → (q = p ∧ H.K q = 2) ∨ (0 < la ∧ q = A ∧ H.K q = 1) ∨ (0 < lr ∧ q = p + m ∧ H.K q = 1) ∨ (H.K q = 0 ∧ H.cel q 0 = 0 ∧ q ≠ p ∧ ¬ (0 < la ∧ q = A) ∧ ¬ (0 < lr ∧ q = p + m)) := fun q h1 h2 => by
    by_cases e1 : q = p
    · exact .inl ⟨e1, e1 ▸ hk⟩
    · by_cases e2 : 0 < la ∧ q = A
      · exact .inr (.inl ⟨e2.1, e2.2, e2.2 ▸ (hl e2.1).1⟩)
      · by_cases e3 : 0 < lr ∧ q = p + m
        · exact .inr (.inr (.inl ⟨e3.1, e3.2, e3.2 ▸ (hr e3.1).1⟩))
        · refine .inr (.inr (.inr ?_))
          rcases Nat.lt_or_ge q p with h3 | h3
          · have := (hL (by omega)).1 q (by omega) h3
            exact ⟨this.2, this.1, e1, e2, e3⟩
          · rcases Nat.lt_or_ge q (p + m) with h4 | h4
            · have := s4 q (by omega) h4
              exact ⟨this.2, this.1, e1, e2, e3⟩
            · have := (hR (by omega)).1 q (by omega) h2
              exact ⟨this.2, this.1, e1, e2, e3⟩
  have ff : ∀ q, H.K q = 1 → H.freeF q = H.ln q := fun q h1 => by unfold AuH.freeF; rw [if_pos h1]
  have hsplit : ∀ f : Nat → Nat, AuH.sumTo (fun i => f (A + i)) (la + m + lr) = AuH.sumTo (fun i => f (A + i)) la + AuH.sumTo (fun i => f (p + i)) m + AuH.sumTo (fun i => f (p + m + i)) lr := fun f => by
    rw [AuH.sumTo_split (fun i => f (A + i)) (la + m) lr, AuH.sumTo_split (fun i => f (A + i)) la m]
    have e1 : (fun i => f (A + (la + i))) = fun i => f (p + i) := by funext i; rw [← Nat.add_assoc, hA]
    have e2 : (fun i => f (A + (la + m + i))) = fun i => f (p + m + i) := by funext i; congr 1; omega
    rw [e1, e2]
  have hs2 := sums_at h hp (by omega) (by omega)
  rw [hm] at hs2
  have hs1 : AuH.sumTo (fun i => H.freeF (A + i)) la = la ∧ AuH.sumTo (fun i => H.liveF (A + i)) la = 0 := by
    rcases Nat.eq_zero_or_pos la with h0 | h0
    · subst h0; exact ⟨rfl, rfl⟩
    · have := sums_at h (p := A) (by omega) (by have := (hl h0).1; omega) (by have := (hl h0).1; omega)
      rw [(hl h0).2, ff A (hl h0).1, (hl h0).2] at this
      refine ⟨this.1, this.2.trans ?_⟩
      unfold AuH.liveF
      rw [if_neg (by have := (hl h0).1; omega), if_neg (by have := (hl h0).1; omega)]
  have hs3 : AuH.sumTo (fun i => H.freeF (p + m + i)) lr = lr ∧ AuH.sumTo (fun i => H.liveF (p + m + i)) lr = 0 := by
    rcases Nat.eq_zero_or_pos lr with h0 | h0
    · subst h0; exact ⟨rfl, rfl⟩
    · have := sums_at h (p := p + m) (by omega) (by have := (hr h0).1; omega) (by have := (hr h0).1; omega)
      rw [(hr h0).2, ff (p + m) (hr h0).1, (hr h0).2] at this
      refine ⟨this.1, this.2.trans ?_⟩
      unfold AuH.liveF
      rw [if_neg (by have := (hr h0).1; omega), if_neg (by have := (hr h0).1; omega)]
  exact {
    used := hk, len := hm, pos := s1, ahead := hA, le := hle, leftF := hl, rightF := hr
    firstK := by
      rcases Nat.eq_zero_or_pos la with h0 | h0
      · have : A = p := by omega
        rw [this]; omega
      · have := (hl h0).1; omega
    lastK := hlast, kinds := kinds
    feet := fun q h1 h2 h3 h4 h5 => by
      rcases Nat.lt_or_ge q p with h6 | h6
      · exact (hL (by omega)).2 q h1 (by omega)
      · rcases Nat.lt_or_ge q (p + m) with h7 | h7
        · exact s5 q h6 (by omega)
        · exact (hR (by omega)).2 q h7 (by omega)
    free := by
      rw [hsplit, hs1.1, hs2.1, hs3.1]
      unfold AuH.freeF
      rw [if_neg (by omega)]
      omega
    live := by
      rw [hsplit, hs1.2, hs2.2, hs3.2]
      unfold AuH.liveF
      rw [if_pos hk] }
theorem Around.mem {p m A la lr : Nat} (a : Around H L p m A la lr) (h : H.Ok L) {hd : Nat} (h2 : 2 ≤ hd) (h21 : hd ≤ 21) (y : Nat) : (y ∈ L hd ∧ ¬ (0 < la ∧ y = A) ∧ ¬ (0 < lr ∧ y = p + m)) ↔ (y ∈ L hd ∧ ¬ (A ≤ y ∧ y < p + m + lr)) := by
  have hAp := a.ahead
  constructor
  · rintro ⟨b1, b2, b3⟩
    refine ⟨b1, fun b4 => ?_⟩
    have ht := ((h.mem hd h2 h21 y).1 b1).2
    rcases a.kinds y b4.1 b4.2 with ⟨_, h5⟩ | ⟨h5, h6, _⟩ | ⟨h5, h6, _⟩ | ⟨h5, _⟩
    · rw [AuH.tgt_used h5] at ht; omega
    · exact b2 ⟨h5, h6⟩
    · exact b3 ⟨h5, h6⟩
    · rw [AuH.tgt_none h5] at ht; omega
  · rintro ⟨b1, b2⟩
    have hpos := a.pos
    exact ⟨b1, fun b3 => b2 ⟨by omega, by omega⟩, fun b3 => b2 ⟨by omega, by omega⟩⟩
theorem release_heap (HV : HeapV H n c) (h : H.Ok L) (W : Work H.t H.p H.s n K st L H.V) {p m : Nat} (hp : p < H.p) (hk : H.K p = 2) (hm : H.ln p = m) :
    ∃ L' g' A la lr, Work H.t H.p H.s n K (releaseS n K H.t H.p H.s p m st) L' g' ∧ RelaidG H g' L L' A 0 (la + m + lr) ∧ Around H L p m A la lr ∧ g' 1 = H.V 1 ∧ g' 0 = H.V 0 + m := by
  have hf := HV.fit
  have hP := hf.nums
  have hv1 := (free_few h hP.2).2
  obtain ⟨hnx, s1, s2, s3, _⟩ := span_at h hp (by omega) (by omega)
  rw [hm] at hnx s1 s2 s3
  obtain ⟨A, la, hA, l0, l1, l2, l3⟩ := left_of_span h hp (by omega) (by omega)
  obtain ⟨lr, r0, r1, r2, r3, r4, r5⟩ := right_of_span h (r := p + m) s3 s2
  have a := around h hp hk hm hA r0 l2 r3 r5
  obtain ⟨L', g', W', m', z0, z1, zi, zf, zb⟩ := W.release hf (p := p) (m := m) (A := A) (la := la) (lr := lr) s1 r0 hA l0 l1 r1 r2 (fun hd a2 a21 hx => by
    rcases Nat.eq_zero_or_pos la with h0 | h0
    · have : A = p := by omega
      have ht := ((h.mem hd a2 a21 A).1 hx).2
      rw [this, AuH.tgt_used hk] at ht
      omega
    · exact h0) (by omega)
  refine ⟨L', g', A, la, lr, W', ?_, a, z1 1 (by omega) (by omega), z0⟩
  have e : A + 0 + (la + m + lr) = p + m + lr := by omega
  exact {
    pos := by omega
    whole := by rw [e]; exact ⟨by omega, r0, a.firstK, fun h1 => (a.lastK h1).1⟩
    noslab := fun q h1 h2 => by rcases a.kinds q h1 (by omega) with ⟨_, h3⟩ | ⟨_, _, h3⟩ | ⟨_, _, h3⟩ | ⟨h3, _⟩ <;> omega
    left := fun _ => l3
    right := fun _ h1 => by rw [e] at h1 ⊢; exact (a.lastK h1).2
    used := fun h1 => by omega
    rest := fun _ => by rw [Nat.add_zero, zi, if_pos rfl]
    blank := fun q h1 h2 h3 h4 => by
      rw [zi, if_neg (by omega)]
      split
      · rfl
      · rename_i h5
        rcases a.kinds q h1 (by omega) with ⟨h6, _⟩ | ⟨_, h6, _⟩ | ⟨h6, h7, _⟩ | ⟨_, h6, _⟩
        · exfalso; exact h5 (.inl ⟨by omega, h6⟩)
        · omega
        · exact absurd (.inr ⟨h6, h7⟩) h5
        · exact h6
    infos := fun q h1 h2 => by rw [zi, if_neg (by omega), if_neg (by omega)]; rfl
    footu := fun h1 => by omega
    footr := fun _ => by rw [zf, if_pos (by omega)]
    blankf := fun q h1 h2 h3 h4 => by
      rw [zf, if_neg (by omega)]
      split
      · rfl
      · rename_i h5
        exact a.feet q h1 (by omega) (by omega) (by omega) (by omega)
    feet := fun q h1 h2 => by rw [zf, if_neg (by omega), if_neg (by omega)]; rfl
    bits := fun q h1 => zb q
    mem := fun hd a2 a21 y => by
      rw [m' hd a2 a21 y, a.mem h a2 a21 y, e]
      constructor
      · rintro (h1 | ⟨h1, h2⟩)
        · exact .inl h1
        · exact .inr ⟨by omega, by omega, h2⟩
      · rintro (h1 | ⟨_, h1, h2⟩)
        · exact .inl h1
        · exact .inr ⟨by omega, h2⟩
    free := by rw [z0, Nat.zero_add, a.free]; omega
    roots := fun i hi => z1 (22 + i) (by omega) (by omega) }
theorem shrink_heap (HV : HeapV H n c) (h : H.Ok L) (W : Work H.t H.p H.s n K st L H.V) {p l m : Nat} (hp : p < H.p) (hk : H.K p = 2) (hl : H.ln p = l) (h1 : 1 ≤ m) (h2 : m < l) :
    ∃ L' g' lr, Work H.t H.p H.s n K (shrinkS n K H.t H.p H.s p l m st) L' g' ∧ RelaidG H g' L L' p m (l - m + lr) ∧ Around H L p l p 0 lr ∧ g' 1 = H.V 1 ∧ g' 0 = H.V 0 + (l - m) := by
  have hf := HV.fit
  have hP := hf.nums
  have hv1 := (free_few h hP.2).2
  obtain ⟨hnx, s1, s2, s3, _⟩ := span_at h hp (by omega) (by omega)
  rw [hl] at hnx s1 s2 s3
  obtain ⟨lr, r0, r1, r2, r3, r4, r5⟩ := right_of_span h (r := p + l) s3 s2
  have a := around h hp hk hl (A := p) (la := 0) (by omega) r0 (fun h => by omega) r3 r5
  have W1 := W.used hf (p := p) (m := m) h1 (by omega)
  have er : p + m + (l - m) = p + l := by omega
  obtain ⟨L', g', W', m', z0, z1, zi, zf, zb⟩ := W1.release hf (p := p + m) (m := l - m) (A := p + m) (la := 0) (lr := lr) (by omega) (by omega) (by omega)
    (fun _ => .inr ⟨p, 2, (m : Int), 0, true, hp, by rw [updF_pcE _ _ rfl], by
      rw [updF_pcN _ _ (by omega) (by omega) (by omega), updF_pcE _ _ rfl]
      exact infoG_used h1 (by omega), by omega⟩) (fun h => by omega)
    (fun h0 h3 => by
      rw [er, updF_pcN _ _ (by omega) (by omega) (by omega), updF_pcN _ _ (by omega) (by omega) (by omega)]
      exact r1 h0 (by omega))
    (fun h0 => by
      rw [er, updF_pcN _ _ (by omega) (by omega) (by omega), updF_pcN _ _ (by omega) (by omega) (by omega)]
      exact r2 h0)
    (fun hd a2 a21 hx => by
      have h0 : H.K (p + m) = 0 := by rcases a.kinds (p + m) (by omega) (by omega) with h3 | h3 | h3 | h3 <;> omega
      exact absurd hx (inner_no h h0 hd a2 a21))
    (by rw [updF_low _ _ (by omega), updF_low _ _ (by omega)]; omega)
  refine ⟨L', g', lr, W', ?_, a, by rw [z1 1 (by omega) (by omega), updF_low _ _ (by omega), updF_low _ _ (by omega)], by rw [z0, updF_low _ _ (by omega), updF_low _ _ (by omega)]⟩
  have e : p + m + (l - m + lr) = p + l + lr := by omega
  exact {
    pos := by omega
    whole := by rw [e]; exact ⟨by omega, r0, a.firstK, fun h1 => (a.lastK h1).1⟩
    noslab := fun q h1 h2 => by rcases a.kinds q h1 (by omega) with ⟨_, h3⟩ | ⟨_, _, h3⟩ | ⟨_, _, h3⟩ | ⟨h3, _⟩ <;> omega
    left := fun h3 => by omega
    right := fun _ h1 => by rw [e] at h1 ⊢; exact (a.lastK h1).2
    used := fun _ => by
      rw [zi, if_neg (by omega), if_neg (by omega), updF_pcN _ _ (by omega) (by omega) (by omega), updF_pcE _ _ rfl]
    rest := fun _ => by
      rw [zi, if_pos rfl, Nat.zero_add]
    blank := fun q h1 h2 h3 h4 => by
      rw [zi, if_neg (by omega)]
      split
      · rfl
      · rename_i h5
        rw [updF_pcN _ _ (by omega) (by omega) (by omega), updF_pcN _ _ (by omega) (by omega) (by omega)]
        rcases a.kinds q h1 (by omega) with ⟨h6, _⟩ | ⟨h6, _⟩ | ⟨h6, h7, _⟩ | ⟨_, h6, _⟩
        · exfalso; omega
        · omega
        · exfalso; exact h5 (.inr ⟨h6, by omega⟩)
        · exact h6
    infos := fun q h1 h2 => by
      rw [zi, if_neg (by omega), if_neg (by omega), updF_pcN _ _ (by omega) (by omega) (by omega), updF_pcN _ _ (by omega) (by omega) (by omega)]
      rfl
    footu := fun _ => by
      rw [zf, if_neg (by omega), if_neg (by omega), updF_pcE _ _ rfl]
    footr := fun _ => by
      rw [zf, if_pos (by omega)]
    blankf := fun q h1 h2 h3 h4 => by
      rw [zf, if_neg (by omega)]
      split
      · rfl
      · rename_i h5
        rw [updF_pcN _ _ (by omega) (by omega) (by omega), updF_pcN _ _ (by omega) (by omega) (by omega)]
        exact a.feet q h1 (by omega) (by omega) (by omega) (by omega)
    feet := fun q h1 h2 => by
      rw [zf, if_neg (by omega), if_neg (by omega), updF_pcN _ _ (by omega) (by omega) (by omega), updF_pcN _ _ (by omega) (by omega) (by omega)]
      rfl
    bits := fun q h1 => by
      obtain ⟨b4, b5⟩ := zb q
      rw [b4, b5, updF_pcN _ _ (by omega) (by omega) (by omega), updF_pcN _ _ (by omega) (by omega) (by omega), updF_pcN _ _ (by omega) (by omega) (by omega), updF_pcN _ _ (by omega) (by omega) (by omega)]
      exact ⟨rfl, rfl⟩
    mem := fun hd a2 a21 y => by
      have am := a.mem h a2 a21 y
      rw [m' hd a2 a21 y, e, ← am, er, Nat.zero_add]
      constructor
      · rintro (h1 | ⟨h1, h2⟩)
        · exact .inl ⟨h1.1, fun h3 => by omega, h1.2.2⟩
        · exact .inr ⟨by omega, h1, h2⟩
      · rintro (h1 | ⟨_, h1, h2⟩)
        · exact .inl ⟨h1.1, fun h3 => by omega, h1.2.2⟩
        · exact .inr ⟨h1, h2⟩
    free := by
      rw [z0, updF_low _ _ (by omega), updF_low _ _ (by omega), show m + (l - m + lr) = 0 + l + lr by omega, a.free]
      omega
    roots := fun i hi => by rw [z1 (22 + i) (by omega) (by omega), updF_low _ _ (by omega), updF_low _ _ (by omega)] }
theorem grow_may (h : H.Ok L) (W : Work H.t H.p H.s n K st L H.V) (hf : Fit H.t H.p H.s n) {p l : Nat} (m : Int) :
    growB n K H.t H.p H.s p l m st = true ↔ p + l < H.p ∧ H.K (p + l) = 1 ∧ m - (l : Int) ≤ (H.ln (p + l) : Int) := by
  unfold growB
  simp only [Bool.and_eq_true, decide_eq_true_iff]
  constructor
  · rintro ⟨⟨h1, h2⟩, h3⟩
    have h4 : p + l < H.p := by omega
    rw [W.infoAt hf h4, show infoG (H.V (pc H.t (p + l) 0)) = (H.K (p + l), H.L (p + l), H.Cl (p + l), H.ok (p + l)) from H.info_eq _] at h2 h3
    exact ⟨h4, h2, by rw [← H.L_ln]; exact h3⟩
  · rintro ⟨h1, h2, h3⟩
    rw [W.infoAt hf h1, show infoG (H.V (pc H.t (p + l) 0)) = (H.K (p + l), H.L (p + l), H.Cl (p + l), H.ok (p + l)) from H.info_eq _]
    exact ⟨⟨by omega, h2⟩, by rw [H.L_ln]; exact h3⟩
theorem grow_no {t q s : Int} {p l : Nat} {m : Int} (h : growB n K t q s p l m st = false) : (growS n K t q s p l m st).wr = st.wr := by
  unfold growS
  simp only
  split
  · rw [if_neg (by rw [h]; simp)]
    exact (get_len n K st _).2
  · rfl
theorem grow_heap (HV : HeapV H n c) (h : H.Ok L) (W : Work H.t H.p H.s n K st L H.V) {p l m : Nat} (hp : p < H.p) (hk : H.K p = 2) (hl : H.ln p = l) (h1 : l < m) (hb : growB n K H.t H.p H.s p l (m : Int) st = true) :
    ∃ L' g' lr, Work H.t H.p H.s n K (growS n K H.t H.p H.s p l (m : Int) st) L' g' ∧ RelaidG H g' L L' p m (l + lr - m) ∧ Around H L p l p 0 lr ∧ 0 < lr ∧ m ≤ l + lr ∧ g' 1 = H.V 1 ∧ g' 0 = H.V 0 - (m - l) ∧ m - l ≤ H.V 0 := by
  have hf := HV.fit
  have hP := hf.nums
  have hv1 := (free_few h hP.2).2
  obtain ⟨g1, g2, g3⟩ := (grow_may h W hf (m : Int)).1 hb
  obtain ⟨hnx, s1, s2, s3, _⟩ := span_at h hp (by omega) (by omega)
  rw [hl] at hnx s1 s2 s3
  obtain ⟨lr, r0, r1, r2, r3, r4, r5⟩ := right_of_span h (r := p + l) s3 s2
  have a := around h hp hk hl (A := p) (la := 0) (by omega) r0 (fun h => by omega) r3 r5
  have hlr : 0 < lr := by
    rcases Nat.eq_zero_or_pos lr with h0 | h0
    · exact absurd g2 (r4 h0 g1)
    · exact h0
  have hll := (r3 hlr).2
  have hv0 := free_some h hP.2 g1 g2
  obtain ⟨_, q2, k, q3, q4, q5⟩ := r2 hlr
  have W1 := W.get (pageI (H.t : Int) (H.p : Int) (H.s : Int) ((p + l : Nat) : Int) 0)
  obtain ⟨ed, L1, W2, m1⟩ := W1.drop hf (p := p + l) g1 q2 q3 q4 q5
  have W3 := W2.zero hf (p := p + l) (by omega) g1
  have W4 := W3.used hf (p := p) (m := m) (by omega) (by omega)
  have est : growS n K H.t H.p H.s p l (m : Int) st = lessS n K (m - l) (restS n K H.t H.p H.s p m ((l : Int) + (lr : Int)) (usedS n H.t H.p H.s p m (putS n (putS n (dropS n K H.t H.p H.s ((p + l : Nat) : Int) (getS n K st (pageI (H.t : Int) (H.p : Int) (H.s : Int) ((p + l : Nat) : Int) 0))) (pageI (H.t : Int) (H.p : Int) (H.s : Int) ((p + l : Nat) : Int) 0) 0) (pageI (H.t : Int) (H.p : Int) (H.s : Int) (((p + l : Nat) : Int) - 1) 1) 0))) := by
    unfold growS
    simp only
    rw [if_pos (by omega), if_pos hb, W.infoAt hf g1, q2, Int.toNat_natCast]
  have e : p + m + (l + lr - m) = p + l + lr := by omega
  have hwhole : H.Whole p (p + m + (l + lr - m)) := by rw [e]; exact ⟨by omega, r0, a.firstK, fun h1 => (a.lastK h1).1⟩
  have hns : ∀ q, p ≤ q → q < p + m + (l + lr - m) → H.K q ≠ 3 := fun q h1 h2 => by rcases a.kinds q h1 (by omega) with ⟨_, h3⟩ | ⟨_, _, h3⟩ | ⟨_, _, h3⟩ | ⟨h3, _⟩ <;> omega
  have hright : 0 < l + lr - m → p + m + (l + lr - m) < H.p → H.K (p + m + (l + lr - m)) ≠ 1 := fun _ h1 => by rw [e] at h1 ⊢; exact (a.lastK h1).2
  have hK0 : ∀ q, p ≤ q → q < p + l + lr → q ≠ p → q ≠ p + l → H.cel q 0 = 0 ∧ H.K q = 0 := fun q h1 h2 h3 h4 => by
    rcases a.kinds q h1 h2 with ⟨h5, _⟩ | ⟨h5, _⟩ | ⟨_, h5, _⟩ | ⟨h5, h6, _⟩
    · exact absurd h5 h3
    · omega
    · exact absurd h5 h4
    · exact ⟨h6, h5⟩
  have hmm : ∀ hd : Nat, 2 ≤ hd → hd ≤ 21 → ∀ y, y ∈ L1 hd ↔ (y ∈ L hd ∧ ¬ (p ≤ y ∧ y < p + l + lr)) := fun hd a2 a21 y => by
    rw [m1 hd a2 a21 y, ← a.mem h a2 a21 y]
    constructor
    · exact fun h1 => ⟨h1.1, fun h2 => by omega, fun h2 => h1.2 h2.2⟩
    · exact fun h1 => ⟨h1.1, fun h2 => h1.2.2 ⟨hlr, h2⟩⟩
  by_cases hlm : m < l + lr
  · have hnop : ∀ hd : Nat, 2 ≤ hd → hd ≤ 21 → ¬ p + m ∈ L1 hd := fun hd a2 a21 hx => ((hmm hd a2 a21 _).1 hx).2 ⟨by omega, by omega⟩
    obtain ⟨L3, W5, m3⟩ := W4.add hf (p := p + m) (m := l + lr - m) (by omega) (by omega) hnop
    have ers : ∀ s' : Vst, restS n K H.t H.p H.s p m ((l : Int) + (lr : Int)) s' = addS n K H.t H.p H.s ((p + m : Nat) : Int) ((l + lr - m : Nat) : Int) s' := fun s' => by
      unfold restS
      rw [if_pos (by omega)]
      congr 1
      omega
    rw [← ers] at W5
    have W6 := W5.less hf (m := m - l) (by simp (disch := omega) only [updF_low]; omega) (by simp (disch := omega) only [updF_low]; omega)
    rw [← est] at W6
    refine ⟨L3, _, lr, W6, ?_, a, hlr, by omega, ?_, ?_, by omega⟩
    · refine ⟨by omega, hwhole, hns, fun e => by omega, hright, ?_, ?_, ?_, ?_, ?_, ?_, ?_, ?_, ?_, ?_, ?_, ?_⟩
      · intro _
        simp (disch := omega) only [updF_pc0, updF_pcN, updF_pcE, cel_pc]
      · intro _
        simp (disch := omega) only [updF_pc0, updF_pcN, updF_pcE, cel_pc]
      · intro q a1 a2 a3 a4
        by_cases e5 : q = p + l
        · subst e5
          simp (disch := omega) only [updF_pc0, updF_pcN, updF_pcE, cel_pc]
        · simp (disch := omega) only [updF_pc0, updF_pcN, updF_pcE, cel_pc]
          exact (hK0 q a1 (by omega) (by omega) e5).1
      · intro q a1 a2
        simp (disch := omega) only [updF_pc0, updF_pcN, updF_pcE, cel_pc]
      · intro _
        simp (disch := omega) only [updF_pc0, updF_pcN, updF_pcE, cel_pc]
      · intro _
        simp (disch := omega) only [updF_pc0, updF_pcN, updF_pcE, cel_pc]
      · intro q a1 a2 a3 a4
        by_cases e5 : q = p + l - 1
        · subst e5
          simp (disch := omega) only [updF_pc0, updF_pcN, updF_pcE, cel_pc]
        · simp (disch := omega) only [updF_pc0, updF_pcN, updF_pcE, cel_pc]
          exact a.feet q a1 (by omega) (by omega) (by omega) (by omega)
      · intro q a1 a2
        simp (disch := omega) only [updF_pc0, updF_pcN, updF_pcE, cel_pc]
      · intro q a1
        simp (disch := omega) only [updF_pc0, updF_pcN, updF_pcE, cel_pc, and_self]
      · intro hd a2 a21 y
        rw [m3 hd a2 a21 y, hmm hd a2 a21 y, e]
        constructor
        · rintro (b1 | ⟨b1, b2⟩)
          · exact .inl b1
          · exact .inr ⟨by omega, b1, b2⟩
        · rintro (b1 | ⟨_, b1, b2⟩)
          · exact .inl b1
          · exact .inr ⟨b1, b2⟩
      · rw [updF_same]
        simp (disch := omega) only [updF_low]
        rw [show m + (l + lr - m) = 0 + l + lr by omega, a.free]
        omega
      · intro i hi
        rw [updF_other _ _ (by omega)]
        simp (disch := omega) only [updF_low]
    · rw [updF_other _ _ (by omega)]
      simp (disch := omega) only [updF_low]
    · rw [updF_same]
      simp (disch := omega) only [updF_low]
  · obtain rfl : m = l + lr := by omega
    have ers : ∀ s' : Vst, restS n K H.t H.p H.s p (l + lr) ((l : Int) + (lr : Int)) s' = s' := fun s' => by
      unfold restS
      rw [if_neg (by omega)]
    have W5 := W4
    rw [← ers (usedS n H.t H.p H.s p (l + lr) _)] at W5
    have W6 := W5.less hf (m := l + lr - l) (by simp (disch := omega) only [updF_low]; omega) (by simp (disch := omega) only [updF_low]; omega)
    rw [← est] at W6
    refine ⟨L1, _, lr, W6, ?_, a, hlr, by omega, ?_, ?_, by omega⟩
    · refine ⟨by omega, hwhole, hns, fun e => by omega, hright, ?_, fun e => by omega, ?_, ?_, ?_, fun e => by omega, ?_, ?_, ?_, ?_, ?_, ?_⟩
      · intro _
        simp (disch := omega) only [updF_pc0, updF_pcN, updF_pcE, cel_pc]
      · intro q a1 a2 a3 a4
        by_cases e5 : q = p + l
        · subst e5
          simp (disch := omega) only [updF_pc0, updF_pcN, updF_pcE, cel_pc]
        · simp (disch := omega) only [updF_pc0, updF_pcN, updF_pcE, cel_pc]
          exact (hK0 q a1 (by omega) (by omega) e5).1
      · intro q a1 a2
        simp (disch := omega) only [updF_pc0, updF_pcN, updF_pcE, cel_pc]
      · intro _
        simp (disch := omega) only [updF_pc0, updF_pcN, updF_pcE, cel_pc]
      · intro q a1 a2 a3 a4
        by_cases e5 : q = p + l - 1
        · subst e5
          simp (disch := omega) only [updF_pc0, updF_pcN, updF_pcE, cel_pc]
        · simp (disch := omega) only [updF_pc0, updF_pcN, updF_pcE, cel_pc]
          exact a.feet q a1 (by omega) (by omega) (by omega) (by omega)
      · intro q a1 a2
        simp (disch := omega) only [updF_pc0, updF_pcN, updF_pcE, cel_pc]
      · intro q a1
        simp (disch := omega) only [updF_pc0, updF_pcN, updF_pcE, cel_pc, and_self]
      · intro hd a2 a21 y
        rw [hmm hd a2 a21 y, e]
        constructor
        · exact fun b1 => .inl b1
        · rintro (b1 | ⟨b0, _⟩)
          · exact b1
          · omega
      · rw [updF_same]
        simp (disch := omega) only [updF_low]
        rw [show l + lr + (l + lr - (l + lr)) = 0 + l + lr by omega, a.free]
        omega
      · intro i hi
        rw [updF_other _ _ (by omega)]
        simp (disch := omega) only [updF_low]
    · rw [updF_other _ _ (by omega)]
      simp (disch := omega) only [updF_low]
    · rw [updF_same]
      simp (disch := omega) only [updF_low]
end
end
section
section
variable {H : AuH} {n c : Nat} {K : Nat → Option Nat} {st : Vst} {L L' : Nat → List Nat} {g : Nat → Nat} {A k e : Nat}
def nowH (H : AuH) (n : Nat) (K : Nat → Option Nat) (st : Vst) : AuH := H.re (curV n (getV n K st) H.V)
theorem Work.again (W : Work H.t H.p H.s n K st L g) : Work H.t H.p H.s n K st L (nowH H n K st).V :=
  ⟨W.lists, fun i hi _ => (curV_in hi).symm, W.out⟩
theorem nowH_heap (HV : HeapV H n c) (hok : VOk n st) (h32 : ∀ i x, K i = some x → x < 2 ^ 32) {cp : Nat} (hcp : n ≤ cp) (hcm : cp ≤ maxLen) : HeapV (nowH H n K st) n cp :=
  ⟨HV.right, HV.len, hcp, hcm, fun i hi => by
    show curV n (getV n K st) H.V i < 2 ^ 32
    rw [curV_in hi]
    exact getV_lt hok h32⟩
theorem done_ok (HV : HeapV H n c) (h : H.Ok L) (W : Work H.t H.p H.s n K st L' g) (R : RelaidG H g L L' A k e)
    (live : g 1 + AuH.sumTo (fun i => H.liveF (A + i)) (k + e) = H.V 1 + (if 0 < k then 1 else 0))
    (named : ∀ i, i < 8 → H.V (22 + i) ≠ 0 → A ≤ (spotP H.t H.p H.s (H.V (22 + i) : Int)).toNat → (spotP H.t H.p H.s (H.V (22 + i) : Int)).toNat < A + k + e → 0 < k ∧ (spotP H.t H.p H.s (H.V (22 + i) : Int)).toNat = A) :
    (nowH H n K st).Ok L' ∧ (∀ i, i < 8 → (nowH H n K st).V (22 + i) = H.V (22 + i)) ∧ (nowH H n K st).V 0 = g 0 ∧ (nowH H n K st).V 1 = g 1 ∧
      ∃ X Y, blocksOf H.parts = X ++ blocksOf (AuH.catTo (fun i => H.partsAt (A + i)) (k + e)) ++ Y ∧
        blocksOf (nowH H n K st).parts = X ++ (if 0 < k then [(H.first A, (k : Int) * (H.pg : Int))] else []) ++ Y ∧
        (∀ b ∈ X, b.1 < H.first A) ∧ ∀ b ∈ Y, H.first (A + k + e) ≤ b.1 := by
  have hP := HV.fit.nums
  have hlen := HV.len
  have T := relaid_of HV h W R live named
  exact ⟨T.ok h hP.2, T.roots, W.low hlen (.inl (by omega)), W.low hlen (.inl (by omega)), AuH.blocks_relaid T h HV hP.2⟩
theorem blocks_only {f : Nat → List (Int × Int × Int)} {i0 : Nat} : ∀ m, i0 < m → (∀ i, i < m → i ≠ i0 → blocksOf (f i) = []) → blocksOf (AuH.catTo f m) = blocksOf (f i0)
  | 0, h, _ => by omega
  | m + 1, h, ho => by
    show blocksOf (AuH.catTo f m ++ f m) = _
    rw [blocksOf_app]
    rcases Nat.lt_or_ge i0 m with h1 | h1
    · rw [blocks_only m h1 (fun i hi hne => ho i (by omega) hne), ho m (by omega) (by omega), List.append_nil]
    · obtain rfl : i0 = m := by omega
      have : ∀ j, j ≤ i0 → blocksOf (AuH.catTo f j) = [] := fun j => by
        induction j with
        | zero => intro _; rfl
        | succ j ih =>
          intro hj
          show blocksOf (AuH.catTo f j ++ f j) = _
          rw [blocksOf_app, ih (by omega), ho j (by omega) (by omega)]
          rfl
      rw [this i0 (Nat.le_refl _), List.nil_append]
theorem page_none {q : Nat} (hk : H.K q = 0 ∨ H.K q = 1) : blocksOf (H.partsAt q) = [] := by
  unfold AuH.partsAt
  rcases hk with h | h
  · rw [if_neg (by omega), if_neg (by omega), if_neg (by omega)]; rfl
  · rw [if_pos h]; exact blocksOf_no (by simp)
theorem page_used {q : Nat} (hk : H.K q = 2) : blocksOf (H.partsAt q) = [(H.first q, (H.ln q : Int) * (H.pg : Int))] := by
  unfold AuH.partsAt
  rw [if_neg (by omega), if_pos hk]
  exact blocksOf_yes rfl
theorem Around.blocks {p m A la lr : Nat} (a : Around H L p m A la lr) : blocksOf (AuH.catTo (fun i => H.partsAt (A + i)) (la + m + lr)) = [(H.first p, (m : Int) * (H.pg : Int))] := by
  have hA := a.ahead
  have hpos := a.pos
  rw [blocks_only (f := fun i => H.partsAt (A + i)) (i0 := la) (la + m + lr) (by omega) (fun i hi hne => ?_)]
  · show blocksOf (H.partsAt (A + la)) = _
    rw [hA, page_used a.used, a.len]
  · refine page_none ?_
    rcases a.kinds (A + i) (by omega) (by omega) with ⟨h5, _⟩ | ⟨_, _, h5⟩ | ⟨_, _, h5⟩ | ⟨h5, _⟩
    · omega
    · exact .inr h5
    · exact .inr h5
    · exact .inl h5
theorem Around.root {p m A la lr : Nat} (a : Around H L p m A la lr) (h : H.Ok L) {i : Nat} (hi : i < 8) (hv : H.V (22 + i) ≠ 0) (h1 : A ≤ (spotP H.t H.p H.s (H.V (22 + i) : Int)).toNat) (h2 : (spotP H.t H.p H.s (H.V (22 + i) : Int)).toNat < p + m + lr) :
    (spotP H.t H.p H.s (H.V (22 + i) : Int)).toNat = p ∧ spotB H.t H.p H.s (H.V (22 + i) : Int) = true ∧ spotO H.t H.p H.s (H.V (22 + i) : Int) = 0 := by
  obtain ⟨h3, h4⟩ := h.roots i hi hv
  have hk := a.kinds _ h1 h2
  rcases h4 with ⟨h5, h6⟩ | ⟨h5, _⟩
  · rcases hk with ⟨h7, _⟩ | ⟨_, _, h7⟩ | ⟨_, _, h7⟩ | ⟨h7, _⟩
    · exact ⟨h7, h3, h6⟩
    · omega
    · omega
    · omega
  · exfalso
    rcases hk with ⟨_, h7⟩ | ⟨_, _, h7⟩ | ⟨_, _, h7⟩ | ⟨h7, _⟩ <;> omega
end
end
end Go.Proofs.YtnamlhkccgnbfaaGreat

namespace Go.Proofs.YtnamlhkccgnbfaaGreat
open Go.ChangeShapes Go.WideShapes Go.ChangeAt Go.RowKit Go.Shelf
set_option linter.unusedVariables false
set_option linter.unusedSimpArgs false
section
set_option maxHeartbeats 1600000 in
theorem xSound_c (t q s : Int) (A : Option Addr) (n c m : Nat) (b : Bool) (w : World) (hC : XCheckIs w t q s A n c m b) :
    Calls Tryz.prog 8 #[.agg #[.int .i64 t, .int .i64 q, .int .i64 s], .slice A n c] w fun e w' => e = .returned (.bool b) ∧ Below w.heap.size w w' := by
  have HX0 := hidp (Held.new w 23 #[.int .i64 t, .int .i64 q, .int .i64 s])
  obtain ⟨c0, c1, c2⟩ := HX0.out.three
  have HBW := hidp (Bnew (B0 w) (.cells #[.int .i64 t, .int .i64 q, .int .i64 s] 23))
  have HCK := hidp (hC _ HBW.out)
  clear hC
  go_enter Tryz.func8, Tryz.ntmps8
  go_wp2_with (first
    | (go_at_call 32; refine HCK.out.mono ?_; rintro e w2 ⟨rfl, hb2⟩; have HB2 := hidp (Bgo HBW.out hb2); clear hb2)
    | fail)
  go_ret
  exact ⟨rfl, HB2.out⟩


set_option maxHeartbeats 1600000 in
theorem xLiveTop_yes {H : AuH} {n c : Nat} (HV : HeapV H n c) (ad : Addr) (m : Nat) (w : World) (hv : IsVals w ad n H.V) (hC : XCheckIs w H.t H.p H.s (some ad) n c m true) :
    Calls Tryz.prog 62 #[.agg #[.int .i64 (H.t : Int), .int .i64 (H.p : Int), .int .i64 (H.s : Int)], .slice (some ad) n c] w fun e w' => ∃ u, e = .returned u ∧ w'.ownsRow w.heap.size 64 2 u (blocksOf H.parts).length (bkVs (blocksOf H.parts)) ∧ Below w.heap.size w w' := by
  have HX0 := hidp (Held.new w 23 #[.int .i64 (H.t : Int), .int .i64 (H.p : Int), .int .i64 (H.s : Int)])
  obtain ⟨c0, c1, c2⟩ := HX0.out.three
  have HBW := hidp (Bnew (B0 w) (.cells #[.int .i64 (H.t : Int), .int .i64 (H.p : Int), .int .i64 (H.s : Int)] 23))
  have HSO := hidp (xSound_c (H.t : Int) (H.p : Int) (H.s : Int) (some ad) n c m true _ (hC.grown HBW.out))
  have HPP := hidp (fun (W : World) (h1 : Below w.heap.size w W) => xBlocks_c HV ad W (hv.below h1))
  unfold hpV at HPP
  clear hC hv
  go_enter Tryz.func62, Tryz.ntmps62
  go_wp2_with (first
    | (go_at_call 8; refine HSO.out.mono ?_; rintro e w2 ⟨rfl, hb2⟩; have HX2 := hidp (HX0.out.keep hb2); have HB2 := hidp (Bgo HBW.out hb2); have HB3 := hidp (Bnew HB2.out (.cells #[.int .i64 (H.t : Int), .int .i64 (H.p : Int), .int .i64 (H.s : Int), .slice (some ad) n c] 101)); clear hb2 c0 c1 c2; obtain ⟨c0, c1, c2⟩ := HX2.out.three; obtain ⟨x0, x1, x2, x3⟩ := (Held.new w2 101 #[.int .i64 (H.t : Int), .int .i64 (H.p : Int), .int .i64 (H.s : Int), .slice (some ad) n c]).four)
    | (go_at_call 98; refine (HPP.out _ HB3.out).mono ?_; rintro e w4 ⟨u, rfl, hown4, hb4⟩; have HO4 := hidp hown4; have HB4 := hidp (Bgo HB3.out hb4); clear hown4 hb4)
    | fail)
  go_ret
  exact ⟨u, rfl, own_down HO4.out HB3.out.size, HB4.out⟩
end
end Go.Proofs.YtnamlhkccgnbfaaGreat

namespace Go.Proofs.YtnamlhkccgnbfaaGreat
open Go.ChangeShapes Go.WideShapes Go.ChangeAt Go.RowKit
set_option linter.unusedVariables false
set_option maxRecDepth 100000
section
section
variable {H : Type} {enc : TypeId × Value → H} {P : Program} {w : World} {base : Nat} {sp : Nat → Bool} {held : Bool}
theorem open_vals {t e : TypeId} {v : Value} {d : DataW H} {p : List MemPlace} (ht : P.underlying t = some (.slice e)) (he : P.underlying e = some (.int .u32)) (hc : P.cellsOf e = 1)
    {r : Reach} {b0 : Nat} (hval : Value.okWide P w r b0 t v) (h : DataW.Trod enc P w base sp held t v d p) (hlt : ∀ x ∈ p, x.block < w.heap.size) :
    ∃ (A : Option Addr) (c : Nat) (ws : List Nat), v = .slice A ws.length c ∧ ws.length ≤ c ∧ c ≤ maxLen ∧ (∀ x ∈ ws, x < 2 ^ 32) ∧ Reads w w.heap.size 1 A ws.length (valVs ws) := by
  obtain ⟨fuel, hf⟩ := h
  have hv : v.cells = #[v] := by
    obtain ⟨A, n, c, rfl⟩ := okWide_slice ht hval
    rfl
  rw [hv] at hf
  rcases open_ints ht he hc hf with ⟨hcs, _⟩ | ⟨a, len, cap, zs, hcs, hb, hl, hm, hz, hx, hcell, hwf⟩
  · injection hcs with hcs
    subst hcs
    exact ⟨none, 0, [], rfl, Nat.le_refl _, Nat.zero_le _, by simp, Reads.none_⟩
  · injection hcs with hcs
    subst hcs
    have hlz : len ≤ zs.length := by rw [hz]; split <;> omega
    have hlen : ((zs.take len).map Int.toNat).length = len := by simp; omega
    refine ⟨some a, cap, (zs.take len).map Int.toNat, by rw [hlen], by rw [hlen]; exact hl, hm, ?_, ?_⟩
    · intro x hx
      obtain ⟨z, hz1, rfl⟩ := List.mem_map.1 hx
      obtain ⟨n, rfl, hn⟩ := u32_nat (hwf z (List.mem_of_mem_take hz1))
      simpa using hn
    · refine ⟨by rw [valVs_len]; omega, fun hn => ?_⟩
      rw [hlen] at hn
      refine ⟨a, rfl, ?_, fun j u hu => ?_⟩
      · have hp : (p : List MemPlace) = MemPlace.row a zs.length := by
          have := congrArg Prod.snd hx
          simpa using this
        have h0 : MemPlace.cell a.block a.off ∈ p ∨ (∃ x ∈ p, x.block = a.block) := by
          right
          rw [hp]
          refine ⟨(MemPlace.row a zs.length)[0]'(by simp [MemPlace.row]; omega), List.getElem_mem _, ?_⟩
          simp [MemPlace.row, MemPlace.block]
        rcases h0 with h0 | ⟨x, hx1, hx2⟩
        · exact hlt _ h0
        · rw [← hx2]; exact hlt x hx1
      · unfold valVs at hu
        rw [List.map_map] at hu
        have hj : j < len := by
          rcases Nat.lt_or_ge j len with h1 | h1
          · exact h1
          · rw [List.getElem?_eq_none (by simp; omega)] at hu; cases hu
        rw [List.getElem?_map, List.getElem?_take_of_lt hj, List.getElem?_eq_getElem (by omega)] at hu
        simp only [Option.map_some, Option.some.injEq, Function.comp_apply] at hu
        subst hu
        rw [hcell j (by omega)]
        have hw := hwf zs[j] (List.getElem_mem _)
        obtain ⟨n, hn1, _⟩ := u32_nat hw
        have : (zs.getD j 0) = zs[j] := by simp [List.getD, List.getElem?_eq_getElem (show j < zs.length by omega)]
        rw [this, hn1]
        simp
end
end
end Go.Proofs.YtnamlhkccgnbfaaGreat

namespace Go.Proofs.YtnamlhkccgnbfaaGreat
open Go.ChangeShapes Go.WideShapes Go.ChangeAt Go.RowKit
set_option linter.unusedVariables false
section
theorem heap13_of (W : World) (t q s : Int) (A : Option Addr) (c : Nat) (vals : List Nat) (hnc : vals.length ≤ c) (hcm : c ≤ maxLen) (h32 : ∀ x ∈ vals, x < 2 ^ 32) (hR : Reads W W.heap.size 1 A vals.length (valVs vals)) (h : lC t q s ≠ 0 ∧ (vals.length : Int) = lC t q s) :
    ∃ (H : AuH) (ad : Addr), t = H.t ∧ q = H.p ∧ s = H.s ∧ A = some ad ∧ (∀ i, H.V i = vals.getD i 0) ∧ HeapV H vals.length c ∧ IsVals W ad vals.length H.V := by
  cases hr : rightB t q s
  · exact absurd (lay_no hr).5 h.1
  · have hn := (rightB_iff t q s).1 hr
    have hl := (lay_yes hr).5
    have hlen : 0 < vals.length := by have := h.2; rw [hl] at this; omega
    obtain ⟨ad, rfl, hb, hc⟩ := hR.2 hlen
    have hx : ∀ i, i < vals.length → vals[i]? = some (vals.getD i 0) := fun i hi => by simp [List.getD, List.getElem?_eq_getElem hi]
    refine ⟨⟨t.toNat, q.toNat, s.toNat, fun i => vals.getD i 0⟩, ad, by show t = _; simp; omega, by show q = _; simp; omega, by show s = _; simp; omega, rfl, fun i => rfl, ⟨?_, ?_, hnc, hcm, fun i hi => ?_⟩, hb, fun i hi => ?_⟩
    · show rightB ((t.toNat : Nat) : Int) ((q.toNat : Nat) : Int) ((s.toNat : Nat) : Int) = true
      rw [show ((t.toNat : Nat) : Int) = t by omega, show ((q.toNat : Nat) : Int) = q by omega, show ((s.toNat : Nat) : Int) = s by omega]
      exact hr
    · show vals.length = 30 + 4 * t.toNat + 6 * q.toNat
      have := h.2
      rw [hl] at this
      omega
    · exact h32 _ (List.mem_of_getElem? (hx i hi))
    · refine hc i _ ?_
      unfold valVs
      rw [List.getElem?_map, hx i hi]
      rfl
theorem heap13_or (W : World) (t q s : Int) (A : Option Addr) (c : Nat) (vals : List Nat) (hnc : vals.length ≤ c) (hcm : c ≤ maxLen) (h32 : ∀ x ∈ vals, x < 2 ^ 32) (hR : Reads W W.heap.size 1 A vals.length (valVs vals)) :
    (∃ m, XCheckIs W t q s A vals.length c m false) ∨ ∃ (H : AuH) (ad : Addr) (m : Nat), t = H.t ∧ q = H.p ∧ s = H.s ∧ A = some ad ∧ (∀ i, H.V i = vals.getD i 0) ∧ HeapV H vals.length c ∧ IsVals W ad vals.length H.V ∧ H.Told m true ∧ XCheckIs W H.t H.p H.s (some ad) vals.length c m true := by
  by_cases h : lC t q s ≠ 0 ∧ (vals.length : Int) = lC t q s
  · obtain ⟨H, ad, rfl, rfl, rfl, rfl, hV, HV, hv⟩ := heap13_of W t q s A c vals hnc hcm h32 hR h
    obtain ⟨m, b, hto⟩ := H.told_is
    have hX := xCheckIs_yes HV ad W hv hto
    cases b with
    | true => exact .inr ⟨H, ad, m, rfl, rfl, rfl, rfl, hV, HV, hv, hto, hX⟩
    | false => exact .inl ⟨m, hX⟩
  · exact .inl ⟨1, xCheckIs_no W t q s A vals.length c hnc hcm h⟩
end
end Go.Proofs.YtnamlhkccgnbfaaGreat
