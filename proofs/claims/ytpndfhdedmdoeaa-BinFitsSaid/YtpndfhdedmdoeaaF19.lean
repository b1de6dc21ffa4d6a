/-
  One list of a heap is laid anew: what it is then is a heap that holds the same.
-/
import Derived.Test.YtpndfhdedmdoeaaF18
import Derived.Test.YtpndfhdedmdoeaaF06
import Derived.Test.YtpndfhdedmdoeaaF16
import Derived.Test.YtpndfhdedmdoeaaF08
import Derived.Deep.RegionWith
import Derived.Deep.CutRange
import Derived.Test.YtpndfhdedmdoeaaF01
namespace Go.Proofs.Ytpndfhdedmdoeaa
open Go.ChangeShapes Go.WideShapes Go.ChangeAt Go.RowKit Go.Maps
set_option linter.unusedVariables false
set_option linter.unusedSimpArgs false

/-- the values of a heap's cells, and what lies beyond -/
def curV (n : Nat) (g : Int → Nat) (V : Nat → Nat) : Nat → Nat := fun i => if i < n then g (i : Int) else V i
theorem curV_in {n : Nat} {g : Int → Nat} {V : Nat → Nat} {i : Nat} (h : i < n) : curV n g V i = g i := if_pos h
theorem curV_out {n : Nat} {g : Int → Nat} {V : Nat → Nat} {i : Nat} (h : ¬ i < n) : curV n g V i = V i := if_neg h

section
variable {H : AuH} {n c hd : Nat} {g0 g' : Int → Nat} {l l' : List Nat}
/-- what a list's own cells are -/
def ListCell (t hd : Nat) (l : List Nat) (c : Int) : Prop := c = hd ∨ ∃ u ∈ l, c = nxH t u ∨ c = pvH t u
theorem twin_of (hn : n = 30 + 4 * H.t + 6 * H.p) (hg : ∀ i : Nat, i < n → g0 i = H.V i) (h2 : 2 ≤ hd) (h21 : hd ≤ 21) (hf : ∀ c : Int, ¬ ListCell H.t hd l c → g' c = g0 c) : H.Twin (curV n g' H.V) := by
  have hsame : ∀ i : Nat, ¬ ListCell H.t hd l (i : Int) → curV n g' H.V i = H.V i := fun i hi => by
    by_cases h : i < n
    · rw [curV_in h, hf _ hi, hg i h]
    · exact curV_out h
  refine ⟨fun q b hb b2 b3 => hsame _ ?_, hsame 0 ?_, hsame 1 ?_, fun i hi => hsame (22 + i) ?_⟩
  · rintro (h | ⟨u, _, h | h⟩)
    · have h : ((30 + 4 * H.t + 6 * q + b : Nat) : Int) = hd := h
      omega
    · have h : ((30 + 4 * H.t + 6 * q + b : Nat) : Int) = nxH H.t u := h
      unfold nxH at h
      omega
    · have h : ((30 + 4 * H.t + 6 * q + b : Nat) : Int) = pvH H.t u := h
      unfold pvH at h
      omega
  · rintro (h | ⟨u, _, h | h⟩)
    · omega
    · unfold nxH at h; omega
    · unfold pvH at h; omega
  · rintro (h | ⟨u, _, h | h⟩)
    · omega
    · unfold nxH at h; omega
    · unfold pvH at h; omega
  · rintro (h | ⟨u, _, h | h⟩)
    · omega
    · unfold nxH at h; omega
    · unfold pvH at h; omega
theorem relist (hn : n = 30 + 4 * H.t + 6 * H.p) (hg : ∀ i : Nat, i < n → g0 i = H.V i) (hr : ∀ i, i < 10 → H.rule i) (h2 : 2 ≤ hd) (h21 : hd ≤ 21) {a : Nat} (hp : H.Path hd l 0 a)
    (hl' : IsL H.p (nxH H.t) (pvH H.t) hd g' l') (hm : ∀ y, y ∈ l' ↔ y ∈ l) (hlen : l'.length = l.length) (hf : ∀ c : Int, ¬ ListCell H.t hd l c → g' c = g0 c) :
    ∀ i, i < 10 → (H.re (curV n g' H.V)).rule i := by
  have T := twin_of hn hg h2 h21 hf
  have hok : ∀ h, 2 ≤ h → h ≤ 21 → H.ListOk h := fun h a1 a2 => by
    rcases Nat.lt_or_ge h 13 with h1 | h1
    · have h5 : ∀ k, k < 11 → H.ListOk (2 + k) := hr 5 (by omega)
      have := h5 (h - 2) (by omega)
      rwa [show 2 + (h - 2) = h by omega] at this
    · have h6 : ∀ k, k < 9 → H.ListOk (13 + k) := hr 6 (by omega)
      have := h6 (h - 13) (by omega)
      rwa [show 13 + (h - 13) = h by omega] at this
  have hgi : ∀ i : Nat, i < 30 + 4 * H.t + 6 * H.p → g' i = (H.re (curV n g' H.V)).V i := fun i hi => (curV_in (by omega)).symm
  have hnod : ∀ {h : Nat} {m : List Nat} {b : Nat}, H.Path h m 0 b → m.Nodup := fun hq => cntIn_nodup hq.once.2.2.2
  refine T.told hr (fun h a1 a2 => ?_) (fun q hq ht => ?_)
  · by_cases e : h = hd
    · subst e
      have hl := path_len hp (hok h a1 a2)
      exact listOk_of (H := H.re (curV n g' H.V)) hgi (by omega) hl' (fun y hy => by rw [T.tgt]; exact hl.2 y ((hm y).1 hy)) (by rw [T.cnt, hlen]; exact hl.1)
    · obtain ⟨m, b, hq⟩ := AuH.listOk_path (hok h a1 a2)
      have hmm := path_len hq (hok h a1 a2)
      have hap := lists_apart hq hp (hok h a1 a2) (hok hd h2 h21) e
      have hs := path_seg (K := fun i => some (H.V i)) (fun i _ => rfl) hn hg (by omega) hq
      refine listOk_of (H := H.re (curV n g' H.V)) hgi (by omega) (l := m) ⟨⟨b, ?_⟩, hnod hq⟩ (fun y hy => by rw [T.tgt]; exact hmm.2 y hy) (by rw [T.cnt]; exact hmm.1)
      have e0 : g' (h : Int) = g0 (h : Int) := hf _ (by
        rintro (h3 | ⟨u, _, h3 | h3⟩)
        · omega
        · unfold nxH at h3; omega
        · unfold pvH at h3; omega)
      rw [e0]
      refine hs.frame (fun u hu => ⟨hf _ ?_, hf _ ?_⟩)
      · rintro (h3 | ⟨v, hv, h3 | h3⟩)
        · unfold nxH at h3; omega
        · unfold nxH at h3
          have : u = v := by omega
          subst this
          exact hap u hu hv
        · unfold nxH pvH at h3; omega
      · rintro (h3 | ⟨v, hv, h3 | h3⟩)
        · unfold pvH at h3; omega
        · unfold nxH pvH at h3; omega
        · unfold pvH at h3
          have : u = v := by omega
          subst this
          exact hap u hu hv
  · have hl := path_len hp (hok hd h2 h21)
    have hnq : ¬ q ∈ l := fun hm => by
      have := hl.2 q hm
      rw [ht] at this
      omega
    have hsame : ∀ i : Nat, ¬ ListCell H.t hd l (i : Int) → curV n g' H.V i = H.V i := fun i hi => by
      by_cases h : i < n
      · rw [curV_in h, hf _ hi, hg i h]
      · exact curV_out h
    refine ⟨hsame _ ?_, hsame _ ?_⟩
    · rintro (h3 | ⟨v, hv, h3 | h3⟩)
      · have h3 : ((30 + 4 * H.t + 6 * q + 2 : Nat) : Int) = hd := h3
        omega
      · have h3 : ((30 + 4 * H.t + 6 * q + 2 : Nat) : Int) = nxH H.t v := h3
        unfold nxH at h3
        have : q = v := by omega
        subst this
        exact hnq hv
      · have h3 : ((30 + 4 * H.t + 6 * q + 2 : Nat) : Int) = pvH H.t v := h3
        unfold pvH at h3
        omega
    · rintro (h3 | ⟨v, hv, h3 | h3⟩)
      · have h3 : ((30 + 4 * H.t + 6 * q + 3 : Nat) : Int) = hd := h3
        omega
      · have h3 : ((30 + 4 * H.t + 6 * q + 3 : Nat) : Int) = nxH H.t v := h3
        unfold nxH at h3
        omega
      · have h3 : ((30 + 4 * H.t + 6 * q + 3 : Nat) : Int) = pvH H.t v := h3
        unfold pvH at h3
        have : q = v := by omega
        subst this
        exact hnq hv
/-- a page is in the list that it belongs in -/
theorem path_mem {a q : Nat} (hp : H.Path hd l 0 a) (hk : H.ListOk hd) (hq : q < H.p) (ht : H.tgt q = hd) : q ∈ l := by
  have h1 := (AuH.listOk_iff hp).1 hk q hq
  unfold AuH.isF at h1
  rw [if_pos ht] at h1
  rcases Nat.eq_zero_or_pos (AuH.cntIn l q) with h2 | h2
  · omega
  · unfold AuH.cntIn at h2
    obtain ⟨x, hx⟩ := List.exists_mem_of_length_pos h2
    rw [List.mem_filter] at hx
    have : x = q := by simpa using hx.2
    subst this
    exact hx.1
end

/-! what pushing leaves as it was, beside a list's own cells -/
section
variable {P hd t : Nat} {g : Int → Nat} {l l1 l2 : List Nat} {p a' : Nat}
theorem push_far (hh : hd < 30) (hs : Seg P (nxH t) (pvH t) g 0 (g hd) l a' 0) {c : Int} (hc : ¬ ListCell t hd (p :: l) c) : pushG (nxH t) (pvH t) hd p g c = g c := by
  have c1 : c ≠ hd := fun e => hc (.inl e)
  have c2 : c ≠ nxH t p := fun e => hc (.inr ⟨p, by simp, .inl e⟩)
  have c3 : c ≠ pvH t p := fun e => hc (.inr ⟨p, by simp, .inr e⟩)
  have hf := hs.first
  unfold pushG
  rw [upd_other _ _ c1]
  have b1 : push1G (nxH t) (pvH t) hd p g c = g c := by unfold push1G; rw [upd_other _ _ c3, upd_other _ _ c2]
  split
  · exact b1
  · rename_i hz
    have : c ≠ pvH t (g hd - 1) := by
      cases l with
      | nil => exact absurd hf hz
      | cons u r =>
        intro e
        refine hc (.inr ⟨u, by simp, .inr ?_⟩)
        rw [e, hf]
        rfl
    rw [upd_other _ _ this, b1]
theorem pull_far' (hh : hd < 30) (hl : (l1 ++ p :: l2).Nodup) (hs : Seg P (nxH t) (pvH t) g 0 (g hd) (l1 ++ p :: l2) a' 0) {c : Int} (hc : ¬ ListCell t hd (l1 ++ p :: l2) c) : pullG (nxH t) (pvH t) hd p g c = g c :=
  pull_far (geo P t hd hh) hl hs (fun e => hc (.inl e)) (fun u hu => ⟨fun e => hc (.inr ⟨u, hu, .inl e⟩), fun e => hc (.inr ⟨u, hu, .inr e⟩)⟩)
end
end Go.Proofs.Ytpndfhdedmdoeaa

/-
  Looking for a free span: what is read for it, and what it comes to on a heap. No program is named here but for the Views'.
-/
namespace Go.Proofs.Ytpndfhdedmdoeaa
open Go.ChangeShapes Go.WideShapes Go.ChangeAt Go.RowKit Go.Maps
set_option linter.unusedVariables false
set_option linter.unusedSimpArgs false

/-! on a heap -/
def inH (t p : Nat) : Int := ((30 + 4 * t + 6 * p : Nat) : Int)
/-- a View that knows all has looked, and not written: its values are as they were -/
structure Looked (n : Nat) (K : Nat → Option Nat) (st st' : Vst) : Prop where
  vw : VW n K st'
  val : getV n K st' = getV n K st
  wr : st'.wr = st.wr
section
variable {n : Nat} {K : Nat → Option Nat} {st st' st'' : Vst} {t P s : Nat} {nn : Int}
theorem Looked.refl (h : VW n K st) : Looked n K st st := ⟨h, rfl, rfl⟩
theorem Looked.get (h : Looked n K st st') (c : Int) : Looked n K st (getS n K st' c) := ⟨(h.vw.get c).1, (h.vw.get c).2.trans h.val, (get_len n K st' c).2.trans h.wr⟩
theorem Fit.inf (h : Fit t P s n) {p : Nat} (hp : p < P) : pageI (t : Int) (P : Int) (s : Int) (p : Int) 0 = inH t p := by
  rw [pcell_yes h.right (by omega) (by omega) (by omega) (by omega)]
  unfold inH
  push_cast
  omega
theorem look_seg (h : Fit t P s n) : ∀ (l : List Nat) (m x a a' : Nat) (st' : Vst), Looked n K st st' → l.length ≤ m → Seg P (nxH t) (pvH t) (getV n K st) a x l a' 0 →
    (lookF n K t P s nn m x st').1 = l.find? (fun p => fitB nn (getV n K st (inH t p))) ∧ Looked n K st (lookF n K t P s nn m x st').2
  | [], m, x, a, a', st', hV, hm, hs => by
    have hx : x = 0 := hs.2
    subst hx
    rw [lookF_end n K t P s nn (by omega)]
    exact ⟨rfl, hV⟩
  | p :: r, m, x, a, a', st', hV, hm, hs => by
    obtain ⟨⟨rfl, hp, _⟩, hr⟩ := hs
    obtain ⟨m', rfl⟩ : ∃ m', m = m' + 1 := ⟨m - 1, by simp at hm; omega⟩
    have ec : (((p + 1 : Nat) : Int) - 1) = (p : Int) := by omega
    have e0 : pageI (t : Int) (P : Int) (s : Int) (((p + 1 : Nat) : Int) - 1) 0 = inH t p := by rw [ec, h.inf hp]
    have e2 : pageI (t : Int) (P : Int) (s : Int) (((p + 1 : Nat) : Int) - 1) 2 = nxH t p := by rw [ec, h.nx hp]
    have hv : getV n K st' (inH t p) = getV n K st (inH t p) := by rw [hV.val]
    cases hf : fitB nn (getV n K st (inH t p)) with
    | true =>
      rw [lookF_found n K t P s nn ⟨by omega, by omega⟩ (by rw [e0, hv]; exact hf), e0]
      refine ⟨?_, hV.get _⟩
      simp [List.find?, hf]
    | false =>
      rw [lookF_step n K t P s nn ⟨by omega, by omega⟩ (by rw [e0, hv]; exact hf), e0, e2]
      have hV1 := hV.get (inH t p)
      have hV2 := hV1.get (nxH t p)
      rw [show getV n K (getS n K st' (inH t p)) (nxH t p) = getV n K st (nxH t p) by rw [hV1.val]]
      obtain ⟨i1, i2⟩ := look_seg h r m' (getV n K st (nxH t p)) (p + 1) a' _ hV2 (by simp at hm; omega) hr
      refine ⟨?_, i2⟩
      rw [i1, List.find?_cons_of_neg (by rw [hf]; simp)]
theorem next_bins (L : Nat → List Nat) (hL : ∀ k, k < 11 → HasL t P (2 + k) n K st (L k)) : ∀ (j k : Nat) (st' : Vst), Looked n K st st' → k + j ≤ 11 →
    Looked n K st (nextF n K P j k st').2 ∧ (((nextF n K P j k st').1 = none ∧ ∀ i, k ≤ i → i < k + j → L i = []) ∨ ∃ p i r, (nextF n K P j k st').1 = some p ∧ k ≤ i ∧ i < k + j ∧ L i = p :: r)
  | 0, k, st', hV, hk => ⟨hV, .inl ⟨rfl, fun i h1 h2 => by omega⟩⟩
  | j + 1, k, st', hV, hk => by
    have hk' := hL k (by omega)
    have hv : getV n K st' ((2 + k : Nat) : Int) = getV n K st ((2 + k : Nat) : Int) := by rw [hV.val]
    obtain ⟨a, hs⟩ := hk'.seg
    have hf := hs.first
    rw [← hv] at hf
    cases hl : L k with
    | nil =>
      rw [hl] at hf
      have hf : getV n K st' ((2 + k : Nat) : Int) = 0 := hf
      rw [nextF_step n K P (by rw [hf]; omega)]
      obtain ⟨i1, i2⟩ := next_bins L hL j (k + 1) _ (hV.get _) (by omega)
      refine ⟨i1, ?_⟩
      rcases i2 with ⟨i2, i3⟩ | ⟨p, i, r, i2, i3, i4, i5⟩
      · refine .inl ⟨i2, fun i h1 h2 => ?_⟩
        rcases Nat.eq_or_lt_of_le h1 with h3 | h3
        · rw [← h3]; exact hl
        · exact i3 i h3 (by omega)
      · exact .inr ⟨p, i, r, i2, by omega, by omega, i5⟩
    | cons p r =>
      have hp := hk'.lt p (by rw [hl]; simp)
      rw [hl] at hf
      have hf : getV n K st' ((2 + k : Nat) : Int) = p + 1 := hf
      rw [nextF_found n K P (by rw [hf]; omega)]
      refine ⟨hV.get _, .inr ⟨p, k, r, ?_, by omega, by omega, hl⟩⟩
      show some _ = some p
      rw [hf]
      rfl
end

/-! what looking comes to on a heap -/
section
variable {H : AuH} {n c : Nat} {K : Nat → Option Nat}
theorem fit_iff (HV : HeapV H n c) (hK : ∀ i, i < n → K i = some (H.V i)) {p nn : Nat} (hp : p < H.p) : fitB (nn : Int) (getV n K freshS (inH H.t p)) = true ↔ H.K p = 1 ∧ nn ≤ H.ln p := by
  have hV : VW n K freshS := ⟨fun i hi => ⟨_, hK i hi⟩, rfl⟩
  have hi : 30 + 4 * H.t + 6 * p < n := by have := HV.len; omega
  have e : getV n K freshS (inH H.t p) = H.cel p 0 := by
    unfold inH
    rw [hV.at_ hi, hK _ hi]
    rfl
  unfold fitB
  rw [e, Bool.and_eq_true, decide_eq_true_iff, decide_eq_true_iff]
  show H.K p = 1 ∧ (nn : Int) ≤ H.L p ↔ _
  rw [AuH.L_ln]
  omega
/-- a free span's bin -/
theorem free_bin {p : Nat} (hk : H.K p = 1) : ∃ k : Nat, k ≤ 10 ∧ H.tgt p = ((2 + k : Nat) : Int) ∧ 2 ^ k ≤ H.ln p ∧ H.ln p < 2 ^ (k + 1) := by
  have h1 := H.ln_pos p (by omega)
  obtain ⟨k, e, hk10, ha, hb⟩ := ofI_nat h1.1 h1.2
  refine ⟨k, hk10, ?_, ha, hb⟩
  unfold ofI at e
  rw [if_neg (by omega)] at e
  rw [AuH.tgt_free hk, e]
  push_cast
  rfl
theorem find_heap (HV : HeapV H n c) (hr : ∀ i, i < 10 → H.rule i) (hK : ∀ i, i < n → K i = some (H.V i)) {nn k : Nat} (h1 : 1 ≤ nn) (hk : k ≤ 10) (ha : 2 ^ k ≤ nn) (hb : nn < 2 ^ (k + 1)) :
    Looked n K freshS (findF n K H.t H.p H.s nn k freshS).2 ∧ (((findF n K H.t H.p H.s nn k freshS).1 = none ∧ ∀ p, p < H.p → H.K p = 1 → H.ln p < nn) ∨ ∃ p, (findF n K H.t H.p H.s nn k freshS).1 = some p ∧ p < H.p ∧ H.K p = 1 ∧ nn ≤ H.ln p) := by
  have h5 : ∀ k, k < 11 → H.ListOk (2 + k) := hr 5 (by omega)
  have hV : VW n K freshS := ⟨fun i hi => ⟨_, hK i hi⟩, rfl⟩
  have hex : ∀ j, ∃ l : List Nat, j < 11 → ∃ a, H.Path (2 + j) l 0 a := fun j => by
    by_cases hj : j < 11
    · obtain ⟨l, a, h⟩ := AuH.listOk_path (h5 j hj)
      exact ⟨l, fun _ => ⟨a, h⟩⟩
    · exact ⟨[], fun h => absurd h hj⟩
  obtain ⟨L, hLp⟩ : ∃ L : Nat → List Nat, ∀ j, j < 11 → ∃ a, H.Path (2 + j) (L j) 0 a := ⟨fun j => (hex j).choose, fun j hj => (hex j).choose_spec hj⟩
  have hL : ∀ j, j < 11 → HasL H.t H.p (2 + j) n K freshS (L j) := fun j hj => by
    obtain ⟨a, h⟩ := hLp j hj
    exact (hasL_of HV hK (by omega) h).1
  have hmem : ∀ j, j < 11 → ∀ y ∈ L j, H.K y = 1 ∧ 2 ^ j ≤ H.ln y := fun j hj y hy => by
    obtain ⟨a, h⟩ := hLp j hj
    have ht := (path_len h (h5 j hj)).2 y hy
    have hky : H.K y = 1 := by
      rcases H.K_cases y with h3 | ⟨h3 | h3, _⟩ | ⟨h3, _, h4, h5⟩
      · rw [AuH.tgt_none h3.1] at ht; omega
      · exact h3
      · rw [AuH.tgt_used h3] at ht; omega
      · by_cases hfull : H.cel y 5 = 2 ^ slotI (H.Cl y) - 1
        · rw [AuH.tgt_full h3 hfull] at ht; omega
        · rw [AuH.tgt_slab h3 hfull] at ht; omega
    obtain ⟨k', _, e, h6, _⟩ := free_bin hky
    rw [e] at ht
    have : k' = j := by omega
    subst this
    exact ⟨hky, h6⟩
  have hin : ∀ p, p < H.p → H.K p = 1 → ∃ j, j < 11 ∧ p ∈ L j ∧ 2 ^ j ≤ H.ln p ∧ H.ln p < 2 ^ (j + 1) := fun p hp hkp => by
    obtain ⟨j, hj, e, h6, h7⟩ := free_bin hkp
    obtain ⟨a, h⟩ := hLp j (by omega)
    exact ⟨j, by omega, path_mem h (h5 j (by omega)) hp e, h6, h7⟩
  have hk11 := hL k (by omega)
  obtain ⟨a, hs⟩ := hk11.seg
  obtain ⟨l1, l2⟩ := look_seg (st := freshS) (nn := (nn : Int)) HV.fit (L k) (H.p : Int).toNat (getV n K freshS ((2 + k : Nat) : Int)) 0 a (getS n K freshS ((2 + k : Nat) : Int)) ((Looked.refl hV).get _) (by rw [Int.toNat_natCast]; exact hk11.len) hs
  unfold findF
  simp only
  cases hf : (L k).find? (fun p => fitB (nn : Int) (getV n K freshS (inH H.t p))) with
  | some p =>
    rw [l1, hf]
    have hpm := List.mem_of_find?_eq_some hf
    have hpl := hk11.lt p hpm
    have hfit := List.find?_some hf
    have := (fit_iff HV hK hpl).1 hfit
    exact ⟨l2, .inr ⟨p, rfl, hpl, this.1, this.2⟩⟩
  | none =>
    rw [l1, hf]
    have hno : ∀ p ∈ L k, ¬ nn ≤ H.ln p := fun p hp hle => by
      have h8 := List.find?_eq_none.1 hf p hp
      exact h8 ((fit_iff HV hK (hk11.lt p hp)).2 ⟨(hmem k (by omega) p hp).1, hle⟩)
    obtain ⟨n1, n2⟩ := next_bins L hL (11 - (k + 1)) (k + 1) _ l2 (by omega)
    refine ⟨n1, ?_⟩
    rcases n2 with ⟨n2, n3⟩ | ⟨p, i, r, n2, n3, n4, n5⟩
    · refine .inl ⟨n2, fun p hp hkp => ?_⟩
      obtain ⟨j, hj, hpj, h6, h7⟩ := hin p hp hkp
      rcases Nat.lt_trichotomy j k with h9 | h9 | h9
      · have : 2 ^ (j + 1) ≤ 2 ^ k := Nat.pow_le_pow_right (by omega) (by omega)
        omega
      · subst h9
        have := hno p hpj
        omega
      · rw [n3 j (by omega) (by omega)] at hpj
        cases hpj
    · have hpm : p ∈ L i := by rw [n5]; simp
      have h8 := hmem i (by omega) p hpm
      have : 2 ^ (k + 1) ≤ 2 ^ i := Nat.pow_le_pow_right (by omega) (by omega)
      exact .inr ⟨p, n2, (hL i (by omega)).lt p hpm, h8.1, by omega⟩
end
end Go.Proofs.Ytpndfhdedmdoeaa

/-
  The document's heap (nacreref12.X): what begins at a page, its slots. Written by doc12/gen_docat.py.
-/
namespace Go.Proofs.Ytpndfhdedmdoeaa
open Go.ChangeShapes Go.WideShapes Go.ChangeAt Go.RowKit Go.Shelf
set_option linter.unusedVariables false
set_option linter.unusedSimpArgs false


set_option maxHeartbeats 1600000 in
theorem xSlots_c {H : AuH} {n c : Nat} (HV : HeapV H n c) (ad : Addr) {q : Nat} (hq : q < H.p) (w : World) (hv : IsVals w ad n H.V) :
    Calls Try.prog 102 #[hpV H ad n c, .int .i64 (q : Int)] w fun e w' => e = .returned (.int .u32 (H.cel q 4 : Nat)) ∧ Below w.heap.size w w' := by
  obtain ⟨i, hii⟩ : ∃ i, 30 + 4 * H.t + 6 * q + 4 = i := ⟨_, rfl⟩
  have hini : i < n := by have := HV.len; omega
  have HI : Hid (pageI H.t H.p H.s q 4 = (i : Int)) := hidp (by have h := HV.page (b := 4) hq (by omega); rw [hii] at h; exact h)
  have h32i := HV.cel_lt hq (show 4 < 6 by omega)
  have hceli : H.cel q 4 = H.V i := by unfold AuH.cel; rw [hii]
  obtain ⟨v, hvvv⟩ : ∃ v, H.cel q 4 = v := ⟨_, rfl⟩
  have HCv := hidp hvvv
  rw [hvvv] at h32i
  have hci := (hv).2 i hini
  rw [← hceli, hvvv] at hci
  have hbli : (ad.add i).block < w.heap.size := by rw [block_of_add]; exact (hv).1
  have hn := HV.nums
  have hcx : c ≤ 9223372036854775807 := hn.2.2.2.2.2.2.2.2
  have hni : n ≤ 6238 := hn.2.2.2.2.2.2.1
  have hnc := HV.cap
  rw [hvvv]
  have hc := Held.new w 53 #[.int .i64 (H.t : Int), .int .i64 (H.p : Int), .int .i64 (H.s : Int), .slice (some ad) n c]
  have HS : Hid (∀ w', Below w.heap.size w w' → Held w' w.heap.size 53 #[.int .i64 (H.t : Int), .int .i64 (H.p : Int), .int .i64 (H.s : Int), .slice (some ad) n c] → (fun w' => w'.cell? ⟨w.heap.size, 0, none⟩ = some (.int .i64 (H.t : Int)) ∧ w'.cell? ⟨w.heap.size, 1, none⟩ = some (.int .i64 (H.p : Int)) ∧ w'.cell? ⟨w.heap.size, 2, none⟩ = some (.int .i64 (H.s : Int)) ∧ w'.cell? ⟨w.heap.size, 3, none⟩ = some (.slice (some ad) n c) ∧ w'.cell? (ad.add i) = some (.int .u32 (v : Int))) w') := hidp (fun w' hb hh => ⟨hh.four.1, hh.four.2.1, hh.four.2.2.1, hh.four.2.2.2, (hb.cell hbli).trans hci⟩)
  clear hv hci hbli hceli hvvv hii hn hq HCv h32i
  unfold hpV
  go_enter Try.func102, Try.ntmps102
  go_wp2_with fail
  refine wp_region_held_drew (S := (fun w' => w'.cell? ⟨w.heap.size, 0, none⟩ = some (.int .i64 (H.t : Int)) ∧ w'.cell? ⟨w.heap.size, 1, none⟩ = some (.int .i64 (H.p : Int)) ∧ w'.cell? ⟨w.heap.size, 2, none⟩ = some (.int .i64 (H.s : Int)) ∧ w'.cell? ⟨w.heap.size, 3, none⟩ = some (.slice (some ad) n c) ∧ w'.cell? (ad.add i) = some (.int .u32 (v : Int)))) (by kernel_rfl) ?_ (fun hHeld => ?_)
  · (try dsimp only)
    first | exact HS.out _ (Bdrew (Bnew (B0 w) _)) hc | exact HS.out _ HB1.out HC1.out | exact hHeld
  refine tkO (i := 0) (v := ?_) rfl (by kernel_rfl) (fun _ _ _ h => h) (by rfl) ?_ (by assumption) ?_
  rotate_left
  · intro w hSw; (try dsimp only at hSw); go_simp; (try with_reducible rfl)
  (try simp only [Act.put, gA, gB, gC, sA, sB, sC])
  refine tkO (i := 1) (v := ?_) rfl (by kernel_rfl) (fun _ _ _ h => h) (by rfl) ?_ (by assumption) ?_
  rotate_left
  · intro w hSw; (try dsimp only at hSw); go_simp; (try with_reducible rfl)
  (try simp only [Act.put, gA, gB, gC, sA, sB, sC])
  refine tkO (i := 2) (v := ?_) rfl (by kernel_rfl) (fun _ _ _ h => h) (by rfl) ?_ (by assumption) ?_
  rotate_left
  · intro w hSw; (try dsimp only at hSw); go_simp; (try with_reducible rfl)
  (try simp only [Act.put, gA, gB, gC, sA, sB, sC])
  refine tkO (i := 3) (v := ?_) rfl (by kernel_rfl) (fun _ _ _ h => h) (by rfl) ?_ (by assumption) ?_
  rotate_left
  · intro w hSw; (try dsimp only at hSw); go_simp; (try with_reducible rfl)
  (try simp only [Act.put, gA, gB, gC, sA, sB, sC])
  refine tkO (i := 4) (v := ?_) rfl (by kernel_rfl) (fun _ _ _ h => h) (by rfl) ?_ (by assumption) ?_
  rotate_left
  · intro w hSw; (try dsimp only at hSw); go_simp; (try with_reducible rfl)
  (try simp only [Act.put, gA, gB, gC, sA, sB, sC])
  refine wpAnyH_ready (rs := [5]) (by kernel_rfl) (by simp) ?_
  refine AllReadyH.cons (o := _) rfl (fun K hK => ?_) AllReadyH.nil
  go_simp
  (go_at_call 117; refine (r7Slots_c _ _ _ _ _).mono ?_; rintro e w1 ⟨rfl, hb1⟩; rw [HI.out]; have HB1 := hidp (Bgo (Bdrew (Bnew (B0 w) _)) hb1); have HC1 := hidp (hc.drew.keep hb1); clear hb1)
  refine hK.out _ _ ?_ (fun hHeld => ?_)
  · (try dsimp only)
    first | exact HS.out _ (Bdrew (Bnew (B0 w) _)) hc | exact HS.out _ HB1.out HC1.out | exact hHeld
  clear hK K
  (try simp only [Act.put, gA, gB, gC, sA, sB, sC])
  refine tkO (i := 6) (v := ?_) rfl (by kernel_rfl) (fun _ _ _ h => h) (by rfl) ?_ (by assumption) ?_
  rotate_left
  · intro w hSw; (try dsimp only at hSw); go_simp; (try with_reducible rfl)
  (try simp only [Act.put, gA, gB, gC, sA, sB, sC])
  refine tkO (i := 7) (v := ?_) rfl (by kernel_rfl) (fun _ _ _ h => h) (by rfl) ?_ (by assumption) ?_
  rotate_left
  · intro w hSw; (try dsimp only at hSw); go_simp; (try with_reducible rfl)
  (try simp only [Act.put, gA, gB, gC, sA, sB, sC])
  refine tkO (i := 8) (v := ?_) rfl (by kernel_rfl) (fun _ _ _ h => h) (by rfl) ?_ (by assumption) ?_
  rotate_left
  · intro w hSw; (try dsimp only at hSw); go_simp; (try with_reducible rfl)
  (try simp only [Act.put, gA, gB, gC, sA, sB, sC])
  refine wpAnyH_done (by kernel_rfl) ?_ _
  go_wp2
  go_ret
  exact ⟨rfl, HB1.out⟩

set_option maxHeartbeats 1600000 in
theorem xTaken_c {H : AuH} {n c : Nat} (HV : HeapV H n c) (ad : Addr) {q : Nat} (hq : q < H.p) (w : World) (hv : IsVals w ad n H.V) :
    Calls Try.prog 103 #[hpV H ad n c, .int .i64 (q : Int)] w fun e w' => e = .returned (.int .u32 (H.cel q 5 : Nat)) ∧ Below w.heap.size w w' := by
  obtain ⟨i, hii⟩ : ∃ i, 30 + 4 * H.t + 6 * q + 5 = i := ⟨_, rfl⟩
  have hini : i < n := by have := HV.len; omega
  have HI : Hid (pageI H.t H.p H.s q 5 = (i : Int)) := hidp (by have h := HV.page (b := 5) hq (by omega); rw [hii] at h; exact h)
  have h32i := HV.cel_lt hq (show 5 < 6 by omega)
  have hceli : H.cel q 5 = H.V i := by unfold AuH.cel; rw [hii]
  obtain ⟨v, hvvv⟩ : ∃ v, H.cel q 5 = v := ⟨_, rfl⟩
  have HCv := hidp hvvv
  rw [hvvv] at h32i
  have hci := (hv).2 i hini
  rw [← hceli, hvvv] at hci
  have hbli : (ad.add i).block < w.heap.size := by rw [block_of_add]; exact (hv).1
  have hn := HV.nums
  have hcx : c ≤ 9223372036854775807 := hn.2.2.2.2.2.2.2.2
  have hni : n ≤ 6238 := hn.2.2.2.2.2.2.1
  have hnc := HV.cap
  rw [hvvv]
  have hc := Held.new w 53 #[.int .i64 (H.t : Int), .int .i64 (H.p : Int), .int .i64 (H.s : Int), .slice (some ad) n c]
  have HS : Hid (∀ w', Below w.heap.size w w' → Held w' w.heap.size 53 #[.int .i64 (H.t : Int), .int .i64 (H.p : Int), .int .i64 (H.s : Int), .slice (some ad) n c] → (fun w' => w'.cell? ⟨w.heap.size, 0, none⟩ = some (.int .i64 (H.t : Int)) ∧ w'.cell? ⟨w.heap.size, 1, none⟩ = some (.int .i64 (H.p : Int)) ∧ w'.cell? ⟨w.heap.size, 2, none⟩ = some (.int .i64 (H.s : Int)) ∧ w'.cell? ⟨w.heap.size, 3, none⟩ = some (.slice (some ad) n c) ∧ w'.cell? (ad.add i) = some (.int .u32 (v : Int))) w') := hidp (fun w' hb hh => ⟨hh.four.1, hh.four.2.1, hh.four.2.2.1, hh.four.2.2.2, (hb.cell hbli).trans hci⟩)
  clear hv hci hbli hceli hvvv hii hn hq HCv h32i
  unfold hpV
  go_enter Try.func103, Try.ntmps103
  go_wp2_with fail
  refine wp_region_held_drew (S := (fun w' => w'.cell? ⟨w.heap.size, 0, none⟩ = some (.int .i64 (H.t : Int)) ∧ w'.cell? ⟨w.heap.size, 1, none⟩ = some (.int .i64 (H.p : Int)) ∧ w'.cell? ⟨w.heap.size, 2, none⟩ = some (.int .i64 (H.s : Int)) ∧ w'.cell? ⟨w.heap.size, 3, none⟩ = some (.slice (some ad) n c) ∧ w'.cell? (ad.add i) = some (.int .u32 (v : Int)))) (by kernel_rfl) ?_ (fun hHeld => ?_)
  · (try dsimp only)
    first | exact HS.out _ (Bdrew (Bnew (B0 w) _)) hc | exact HS.out _ HB1.out HC1.out | exact hHeld
  refine tkO (i := 0) (v := ?_) rfl (by kernel_rfl) (fun _ _ _ h => h) (by rfl) ?_ (by assumption) ?_
  rotate_left
  · intro w hSw; (try dsimp only at hSw); go_simp; (try with_reducible rfl)
  (try simp only [Act.put, gA, gB, gC, sA, sB, sC])
  refine tkO (i := 1) (v := ?_) rfl (by kernel_rfl) (fun _ _ _ h => h) (by rfl) ?_ (by assumption) ?_
  rotate_left
  · intro w hSw; (try dsimp only at hSw); go_simp; (try with_reducible rfl)
  (try simp only [Act.put, gA, gB, gC, sA, sB, sC])
  refine tkO (i := 2) (v := ?_) rfl (by kernel_rfl) (fun _ _ _ h => h) (by rfl) ?_ (by assumption) ?_
  rotate_left
  · intro w hSw; (try dsimp only at hSw); go_simp; (try with_reducible rfl)
  (try simp only [Act.put, gA, gB, gC, sA, sB, sC])
  refine tkO (i := 3) (v := ?_) rfl (by kernel_rfl) (fun _ _ _ h => h) (by rfl) ?_ (by assumption) ?_
  rotate_left
  · intro w hSw; (try dsimp only at hSw); go_simp; (try with_reducible rfl)
  (try simp only [Act.put, gA, gB, gC, sA, sB, sC])
  refine tkO (i := 4) (v := ?_) rfl (by kernel_rfl) (fun _ _ _ h => h) (by rfl) ?_ (by assumption) ?_
  rotate_left
  · intro w hSw; (try dsimp only at hSw); go_simp; (try with_reducible rfl)
  (try simp only [Act.put, gA, gB, gC, sA, sB, sC])
  refine wpAnyH_ready (rs := [5]) (by kernel_rfl) (by simp) ?_
  refine AllReadyH.cons (o := _) rfl (fun K hK => ?_) AllReadyH.nil
  go_simp
  (go_at_call 118; refine (r7Taken_c _ _ _ _ _).mono ?_; rintro e w1 ⟨rfl, hb1⟩; rw [HI.out]; have HB1 := hidp (Bgo (Bdrew (Bnew (B0 w) _)) hb1); have HC1 := hidp (hc.drew.keep hb1); clear hb1)
  refine hK.out _ _ ?_ (fun hHeld => ?_)
  · (try dsimp only)
    first | exact HS.out _ (Bdrew (Bnew (B0 w) _)) hc | exact HS.out _ HB1.out HC1.out | exact hHeld
  clear hK K
  (try simp only [Act.put, gA, gB, gC, sA, sB, sC])
  refine tkO (i := 6) (v := ?_) rfl (by kernel_rfl) (fun _ _ _ h => h) (by rfl) ?_ (by assumption) ?_
  rotate_left
  · intro w hSw; (try dsimp only at hSw); go_simp; (try with_reducible rfl)
  (try simp only [Act.put, gA, gB, gC, sA, sB, sC])
  refine tkO (i := 7) (v := ?_) rfl (by kernel_rfl) (fun _ _ _ h => h) (by rfl) ?_ (by assumption) ?_
  rotate_left
  · intro w hSw; (try dsimp only at hSw); go_simp; (try with_reducible rfl)
  (try simp only [Act.put, gA, gB, gC, sA, sB, sC])
  refine tkO (i := 8) (v := ?_) rfl (by kernel_rfl) (fun _ _ _ h => h) (by rfl) ?_ (by assumption) ?_
  rotate_left
  · intro w hSw; (try dsimp only at hSw); go_simp; (try with_reducible rfl)
  (try simp only [Act.put, gA, gB, gC, sA, sB, sC])
  refine wpAnyH_done (by kernel_rfl) ?_ _
  go_wp2
  go_ret
  exact ⟨rfl, HB1.out⟩

set_option maxHeartbeats 3200000 in
set_option maxRecDepth 100000 in
theorem xInfo_c {H : AuH} {n c : Nat} (HV : HeapV H n c) (ad : Addr) {q : Nat} (hq : q < H.p) (w : World) (hv : IsVals w ad n H.V) :
    Calls Try.prog 24 #[hpV H ad n c, .int .i64 (q : Int)] w fun e w' => e = .returned (.agg #[.int .i64 (H.K q), .int .i64 (H.ln q : Int), .int .i64 (H.Cl q)]) ∧ Below w.heap.size w w' := by
  obtain ⟨i, hii⟩ : ∃ i, 30 + 4 * H.t + 6 * q + 0 = i := ⟨_, rfl⟩
  have hini : i < n := by have := HV.len; omega
  have HI : Hid (pageI H.t H.p H.s q 0 = (i : Int)) := hidp (by have h := HV.page (b := 0) hq (by omega); rw [hii] at h; exact h)
  have h32i := HV.cel_lt hq (show 0 < 6 by omega)
  have hceli : H.cel q 0 = H.V i := by unfold AuH.cel; rw [hii]
  obtain ⟨v, hvvv⟩ : ∃ v, H.cel q 0 = v := ⟨_, rfl⟩
  have HCv := hidp hvvv
  rw [hvvv] at h32i
  have hci := (hv).2 i hini
  rw [← hceli, hvvv] at hci
  have hbli : (ad.add i).block < w.heap.size := by rw [block_of_add]; exact (hv).1
  have hn := HV.nums
  have hcx : c ≤ 9223372036854775807 := hn.2.2.2.2.2.2.2.2
  have hni : n ≤ 6238 := hn.2.2.2.2.2.2.1
  have hnc := HV.cap
  have hie := H.info_eq q
  rw [H.L_ln, hvvv] at hie
  generalize H.K q = k at *
  generalize H.ln q = m at *
  generalize H.Cl q = cl at *
  generalize H.ok q = okb at *
  have HG := hidp hie
  have hc := (Held.new w 53 #[.int .i64 (H.t : Int), .int .i64 (H.p : Int), .int .i64 (H.s : Int), .slice (some ad) n c]).alloc (.cells #[.int .i64 0, .int .i64 0, .int .i64 0] 55)
  have HR := hidp (Held.new2 w (.cells #[.int .i64 (H.t : Int), .int .i64 (H.p : Int), .int .i64 (H.s : Int), .slice (some ad) n c] 53) 55 #[.int .i64 0, .int .i64 0, .int .i64 0])
  have HBW := hidp (Bnew (Bnew (B0 w) (.cells #[.int .i64 (H.t : Int), .int .i64 (H.p : Int), .int .i64 (H.s : Int), .slice (some ad) n c] 53)) (.cells #[.int .i64 0, .int .i64 0, .int .i64 0] 55))
  have HS : Hid (∀ w', Below ((w.alloc (.cells #[.int .i64 (H.t : Int), .int .i64 (H.p : Int), .int .i64 (H.s : Int), .slice (some ad) n c] 53)).alloc (.cells #[.int .i64 0, .int .i64 0, .int .i64 0] 55)).heap.size ((w.alloc (.cells #[.int .i64 (H.t : Int), .int .i64 (H.p : Int), .int .i64 (H.s : Int), .slice (some ad) n c] 53)).alloc (.cells #[.int .i64 0, .int .i64 0, .int .i64 0] 55)) w' → (fun w' => w'.cell? ⟨w.heap.size, 0, none⟩ = some (.int .i64 (H.t : Int)) ∧ w'.cell? ⟨w.heap.size, 1, none⟩ = some (.int .i64 (H.p : Int)) ∧ w'.cell? ⟨w.heap.size, 2, none⟩ = some (.int .i64 (H.s : Int)) ∧ w'.cell? ⟨w.heap.size, 3, none⟩ = some (.slice (some ad) n c) ∧ w'.cell? (ad.add i) = some (.int .u32 (v : Int))) w') := hidp (fun w' hb => by have hh := hc.keep hb; exact ⟨hh.four.1, hh.four.2.1, hh.four.2.2.1, hh.four.2.2.2, ((Bgo HBW.out hb).cell hbli).trans hci⟩)
  clear hv hci hbli hceli hvvv hii hn hq HCv hie hc
  unfold hpV
  go_enter Try.func24, Try.ntmps24
  go_upto_region 1 with fail
  go_cut [5, 6] from 7 to 18 (fun u5 u6 wx => ∃ g : Nat, u5 = .pointer (some ⟨g, 0, none⟩) ∧ Held wx g 55 #[(.int .i64 k), (.int .i64 (m : Int)), (.int .i64 cl)] ∧ Below ((w.alloc (.cells #[.int .i64 (H.t : Int), .int .i64 (H.p : Int), .int .i64 (H.s : Int), .slice (some ad) n c] 53)).alloc (.cells #[.int .i64 0, .int .i64 0, .int .i64 0] 55)).heap.size ((w.alloc (.cells #[.int .i64 (H.t : Int), .int .i64 (H.p : Int), .int .i64 (H.s : Int), .slice (some ad) n c] 53)).alloc (.cells #[.int .i64 0, .int .i64 0, .int .i64 0] 55)) wx ∧ ((w.alloc (.cells #[.int .i64 (H.t : Int), .int .i64 (H.p : Int), .int .i64 (H.s : Int), .slice (some ad) n c] 53)).alloc (.cells #[.int .i64 0, .int .i64 0, .int .i64 0] 55)).heap.size ≤ g)
  case first =>
    have HB := hidp (Bdrew (B0 (((w.alloc (.cells #[.int .i64 (H.t : Int), .int .i64 (H.p : Int), .int .i64 (H.s : Int), .slice (some ad) n c] 53)).alloc (.cells #[.int .i64 0, .int .i64 0, .int .i64 0] 55)))))
    refine wp_region_held_drew (S := (fun w' => w'.cell? ⟨w.heap.size, 0, none⟩ = some (.int .i64 (H.t : Int)) ∧ w'.cell? ⟨w.heap.size, 1, none⟩ = some (.int .i64 (H.p : Int)) ∧ w'.cell? ⟨w.heap.size, 2, none⟩ = some (.int .i64 (H.s : Int)) ∧ w'.cell? ⟨w.heap.size, 3, none⟩ = some (.slice (some ad) n c) ∧ w'.cell? (ad.add i) = some (.int .u32 (v : Int)))) (by kernel_rfl) ?_ (fun hHeld => ?_)
    · (try dsimp only)
      exact HS.out _ HB.out
    generalize hq0 : (((w.alloc (.cells #[.int .i64 (H.t : Int), .int .i64 (H.p : Int), .int .i64 (H.s : Int), .slice (some ad) n c] 53)).alloc (.cells #[.int .i64 0, .int .i64 0, .int .i64 0] 55))).drew = q0 at HB hHeld ⊢
    clear hq0
    refine tkO (i := 0) (v := ?_) rfl (by kernel_rfl) (fun _ _ _ h => h) (by rfl) ?_ (by assumption) ?_
    rotate_left
    · intro w hSw; (try dsimp only at hSw); go_simp; (try with_reducible rfl)
    (try simp only [Act.put, gA, gB, gC, sA, sB, sC])
    refine tkO (i := 1) (v := ?_) rfl (by kernel_rfl) (fun _ _ _ h => h) (by rfl) ?_ (by assumption) ?_
    rotate_left
    · intro w hSw; (try dsimp only at hSw); go_simp; (try with_reducible rfl)
    (try simp only [Act.put, gA, gB, gC, sA, sB, sC])
    refine tkO (i := 2) (v := ?_) rfl (by kernel_rfl) (fun _ _ _ h => h) (by rfl) ?_ (by assumption) ?_
    rotate_left
    · intro w hSw; (try dsimp only at hSw); go_simp; (try with_reducible rfl)
    (try simp only [Act.put, gA, gB, gC, sA, sB, sC])
    refine tkO (i := 3) (v := ?_) rfl (by kernel_rfl) (fun _ _ _ h => h) (by rfl) ?_ (by assumption) ?_
    rotate_left
    · intro w hSw; (try dsimp only at hSw); go_simp; (try with_reducible rfl)
    (try simp only [Act.put, gA, gB, gC, sA, sB, sC])
    refine tkO (i := 4) (v := ?_) rfl (by kernel_rfl) (fun _ _ _ h => h) (by rfl) ?_ (by assumption) ?_
    rotate_left
    · intro w hSw; (try dsimp only at hSw); go_simp; (try with_reducible rfl)
    (try simp only [Act.put, gA, gB, gC, sA, sB, sC])
    refine wpAnyH_ready (rs := [5, 12]) (by kernel_rfl) (by simp) ?_
    refine AllReadyH.cons (o := _) rfl (fun K hK => ?_) (AllReadyH.cons (o := _) rfl (fun K hK => ?_) AllReadyH.nil)
    · skip
      go_simp
      (go_at_call 42; refine (r7Info_c _ _ _ _ _).mono ?_; rintro e q1 ⟨rfl, hb1⟩; rw [HI.out]; have HB := hidp (Bgo HB.out hb1); skip; clear hb1)
      refine hK.out _ _ ?_ (fun hHeld => ?_)
      · (try dsimp only)
        exact HS.out _ HB.out
      clear hK K
      (try simp only [Act.put, gA, gB, gC, sA, sB, sC])
      refine tkO (i := 6) (v := ?_) rfl (by kernel_rfl) (fun _ _ _ h => h) (by rfl) ?_ (by assumption) ?_
      rotate_left
      · intro w hSw; (try dsimp only at hSw); go_simp; (try with_reducible rfl)
      (try simp only [Act.put, gA, gB, gC, sA, sB, sC])
      refine tkO (i := 7) (v := ?_) rfl (by kernel_rfl) (fun _ _ _ h => h) (by rfl) ?_ (by assumption) ?_
      rotate_left
      · intro w hSw; (try dsimp only at hSw); go_simp; (try with_reducible rfl)
      (try simp only [Act.put, gA, gB, gC, sA, sB, sC])
      refine wpAnyH_ready (rs := [8, 12]) (by kernel_rfl) (by simp) ?_
      refine AllReadyH.cons (o := _) rfl (fun K hK => ?_) (AllReadyH.cons (o := _) rfl (fun K hK => ?_) AllReadyH.nil)
      · skip
        go_simp
        (go_at_call 59; refine (r9Get_c _ _ _ _ _ h32i HG.out _).mono ?_; rintro e q2 ⟨rfl, hb1⟩; have HB := hidp (Bgo HB.out hb1); skip; clear hb1)
        refine hK.out _ _ ?_ (fun hHeld => ?_)
        · (try dsimp only)
          exact HS.out _ HB.out
        clear hK K
        (try simp only [Act.put, gA, gB, gC, sA, sB, sC])
        refine tkO (i := 9) (v := ?_) rfl (by kernel_rfl) (fun _ _ _ h => h) (by rfl) ?_ (by assumption) ?_
        rotate_left
        · intro w hSw; (try dsimp only at hSw); go_simp; (try with_reducible rfl)
        (try simp only [Act.put, gA, gB, gC, sA, sB, sC])
        refine tkO (i := 10) (v := ?_) rfl (by kernel_rfl) (fun _ _ _ h => h) (by rfl) ?_ (by assumption) ?_
        rotate_left
        · intro w hSw; (try dsimp only at hSw); go_simp; (try with_reducible rfl)
        (try simp only [Act.put, gA, gB, gC, sA, sB, sC])
        refine tkO (i := 11) (v := ?_) rfl (by kernel_rfl) (fun _ _ _ h => h) (by rfl) ?_ (by assumption) ?_
        rotate_left
        · intro w hSw; (try dsimp only at hSw); go_simp; (try with_reducible rfl)
        (try simp only [Act.put, gA, gB, gC, sA, sB, sC])
        refine wpAnyH_ready (rs := [12]) (by kernel_rfl) (by simp) ?_
        refine AllReadyH.cons (o := _) rfl (fun K hK => ?_) AllReadyH.nil
        · skip
          go_simp
          have HLE := hidp HB.out.size
          have HB := hidp (Bnew HB.out (.cells #[.int .i64 0, .int .i64 0, .int .i64 0] 55))
          have HN := hidp (Held.new q2 55 #[.int .i64 0, .int .i64 0, .int .i64 0])
          try simp only [World.heap_drew] at HLE HN
          generalize hq3 : q2.alloc (.cells #[.int .i64 0, .int .i64 0, .int .i64 0] 55) = q3 at HB HN ⊢
          clear hq3
          refine hK.out _ _ ?_ (fun hHeld => ?_)
          · (try dsimp only)
            exact HS.out _ HB.out
          clear hK K
          (try simp only [Act.put, gA, gB, gC, sA, sB, sC])
          refine wpAnyH_ready (rs := [13]) (by kernel_rfl) (by simp) ?_
          refine AllReadyH.cons (o := _) rfl (fun K hK => ?_) AllReadyH.nil
          obtain ⟨z0, z1, z2⟩ := HN.out.three
          have f0 := HN.out.thawed 0
          have f1 := HN.out.thawed 1
          have f2 := HN.out.thawed 2
          go_simp
          have HN := hidp (HN.out.put 0 (.int .i64 k))
          have HN := hidp (HN.out.put 1 (.int .i64 (m : Int)))
          have HN := hidp (HN.out.put 2 (.int .i64 cl))
          have HB := hidp (Bput (p := ⟨_, 2, none⟩) (Bput (p := ⟨_, 1, none⟩) (Bput (p := ⟨_, 0, none⟩) HB.out HLE.out (.int .i64 k)) HLE.out (.int .i64 (m : Int))) HLE.out (.int .i64 cl))
          clear z0 z1 z2 f0 f1 f2
          refine hK.out _ _ ?_ (fun hHeld => ?_)
          · (try dsimp only)
            exact HS.out _ HB.out
          clear hK K
          (try simp only [Act.put, gA, gB, gC, sA, sB, sC])
          refine tkO (i := 14) (v := ?_) rfl (by kernel_rfl) (fun _ _ _ h => h) (by rfl) ?_ (by assumption) ?_
          rotate_left
          · intro w hSw; (try dsimp only at hSw); go_simp; (try with_reducible rfl)
          (try simp only [Act.put, gA, gB, gC, sA, sB, sC])
          refine wpAnyH_done (by kernel_rfl) ?_ _
          go_wp2_with fail
          go_meet
          case rel => exact ⟨_, rfl, HN.out, HB.out, HLE.out⟩
      · skip
        go_simp
        have HLE := hidp HB.out.size
        have HB := hidp (Bnew HB.out (.cells #[.int .i64 0, .int .i64 0, .int .i64 0] 55))
        have HN := hidp (Held.new q1 55 #[.int .i64 0, .int .i64 0, .int .i64 0])
        try simp only [World.heap_drew] at HLE HN
        generalize hq4 : q1.alloc (.cells #[.int .i64 0, .int .i64 0, .int .i64 0] 55) = q4 at HB HN ⊢
        clear hq4
        refine hK.out _ _ ?_ (fun hHeld => ?_)
        · (try dsimp only)
          exact HS.out _ HB.out
        clear hK K
        (try simp only [Act.put, gA, gB, gC, sA, sB, sC])
        refine wpAnyH_ready (rs := [8]) (by kernel_rfl) (by simp) ?_
        refine AllReadyH.cons (o := _) rfl (fun K hK => ?_) AllReadyH.nil
        · skip
          go_simp
          (go_at_call 59; refine (r9Get_c _ _ _ _ _ h32i HG.out _).mono ?_; rintro e q5 ⟨rfl, hb1⟩; have HB := hidp (Bgo HB.out hb1); have HN := hidp (HN.out.keep hb1); clear hb1)
          refine hK.out _ _ ?_ (fun hHeld => ?_)
          · (try dsimp only)
            exact HS.out _ HB.out
          clear hK K
          (try simp only [Act.put, gA, gB, gC, sA, sB, sC])
          refine tkO (i := 9) (v := ?_) rfl (by kernel_rfl) (fun _ _ _ h => h) (by rfl) ?_ (by assumption) ?_
          rotate_left
          · intro w hSw; (try dsimp only at hSw); go_simp; (try with_reducible rfl)
          (try simp only [Act.put, gA, gB, gC, sA, sB, sC])
          refine tkO (i := 10) (v := ?_) rfl (by kernel_rfl) (fun _ _ _ h => h) (by rfl) ?_ (by assumption) ?_
          rotate_left
          · intro w hSw; (try dsimp only at hSw); go_simp; (try with_reducible rfl)
          (try simp only [Act.put, gA, gB, gC, sA, sB, sC])
          refine tkO (i := 11) (v := ?_) rfl (by kernel_rfl) (fun _ _ _ h => h) (by rfl) ?_ (by assumption) ?_
          rotate_left
          · intro w hSw; (try dsimp only at hSw); go_simp; (try with_reducible rfl)
          (try simp only [Act.put, gA, gB, gC, sA, sB, sC])
          refine wpAnyH_ready (rs := [13]) (by kernel_rfl) (by simp) ?_
          refine AllReadyH.cons (o := _) rfl (fun K hK => ?_) AllReadyH.nil
          obtain ⟨z0, z1, z2⟩ := HN.out.three
          have f0 := HN.out.thawed 0
          have f1 := HN.out.thawed 1
          have f2 := HN.out.thawed 2
          go_simp
          have HN := hidp (HN.out.put 0 (.int .i64 k))
          have HN := hidp (HN.out.put 1 (.int .i64 (m : Int)))
          have HN := hidp (HN.out.put 2 (.int .i64 cl))
          have HB := hidp (Bput (p := ⟨_, 2, none⟩) (Bput (p := ⟨_, 1, none⟩) (Bput (p := ⟨_, 0, none⟩) HB.out HLE.out (.int .i64 k)) HLE.out (.int .i64 (m : Int))) HLE.out (.int .i64 cl))
          clear z0 z1 z2 f0 f1 f2
          refine hK.out _ _ ?_ (fun hHeld => ?_)
          · (try dsimp only)
            exact HS.out _ HB.out
          clear hK K
          (try simp only [Act.put, gA, gB, gC, sA, sB, sC])
          refine tkO (i := 14) (v := ?_) rfl (by kernel_rfl) (fun _ _ _ h => h) (by rfl) ?_ (by assumption) ?_
          rotate_left
          · intro w hSw; (try dsimp only at hSw); go_simp; (try with_reducible rfl)
          (try simp only [Act.put, gA, gB, gC, sA, sB, sC])
          refine wpAnyH_done (by kernel_rfl) ?_ _
          go_wp2_with fail
          go_meet
          case rel => exact ⟨_, rfl, HN.out, HB.out, HLE.out⟩
    · skip
      go_simp
      have HLE := hidp HB.out.size
      have HB := hidp (Bnew HB.out (.cells #[.int .i64 0, .int .i64 0, .int .i64 0] 55))
      have HN := hidp (Held.new q0 55 #[.int .i64 0, .int .i64 0, .int .i64 0])
      try simp only [World.heap_drew] at HLE HN
      generalize hq6 : q0.alloc (.cells #[.int .i64 0, .int .i64 0, .int .i64 0] 55) = q6 at HB HN ⊢
      clear hq6
      refine hK.out _ _ ?_ (fun hHeld => ?_)
      · (try dsimp only)
        exact HS.out _ HB.out
      clear hK K
      (try simp only [Act.put, gA, gB, gC, sA, sB, sC])
      refine wpAnyH_ready (rs := [5]) (by kernel_rfl) (by simp) ?_
      refine AllReadyH.cons (o := _) rfl (fun K hK => ?_) AllReadyH.nil
      · skip
        go_simp
        (go_at_call 42; refine (r7Info_c _ _ _ _ _).mono ?_; rintro e q7 ⟨rfl, hb1⟩; rw [HI.out]; have HB := hidp (Bgo HB.out hb1); have HN := hidp (HN.out.keep hb1); clear hb1)
        refine hK.out _ _ ?_ (fun hHeld => ?_)
        · (try dsimp only)
          exact HS.out _ HB.out
        clear hK K
        (try simp only [Act.put, gA, gB, gC, sA, sB, sC])
        refine tkO (i := 6) (v := ?_) rfl (by kernel_rfl) (fun _ _ _ h => h) (by rfl) ?_ (by assumption) ?_
        rotate_left
        · intro w hSw; (try dsimp only at hSw); go_simp; (try with_reducible rfl)
        (try simp only [Act.put, gA, gB, gC, sA, sB, sC])
        refine tkO (i := 7) (v := ?_) rfl (by kernel_rfl) (fun _ _ _ h => h) (by rfl) ?_ (by assumption) ?_
        rotate_left
        · intro w hSw; (try dsimp only at hSw); go_simp; (try with_reducible rfl)
        (try simp only [Act.put, gA, gB, gC, sA, sB, sC])
        refine wpAnyH_ready (rs := [8]) (by kernel_rfl) (by simp) ?_
        refine AllReadyH.cons (o := _) rfl (fun K hK => ?_) AllReadyH.nil
        · skip
          go_simp
          (go_at_call 59; refine (r9Get_c _ _ _ _ _ h32i HG.out _).mono ?_; rintro e q8 ⟨rfl, hb1⟩; have HB := hidp (Bgo HB.out hb1); have HN := hidp (HN.out.keep hb1); clear hb1)
          refine hK.out _ _ ?_ (fun hHeld => ?_)
          · (try dsimp only)
            exact HS.out _ HB.out
          clear hK K
          (try simp only [Act.put, gA, gB, gC, sA, sB, sC])
          refine tkO (i := 9) (v := ?_) rfl (by kernel_rfl) (fun _ _ _ h => h) (by rfl) ?_ (by assumption) ?_
          rotate_left
          · intro w hSw; (try dsimp only at hSw); go_simp; (try with_reducible rfl)
          (try simp only [Act.put, gA, gB, gC, sA, sB, sC])
          refine tkO (i := 10) (v := ?_) rfl (by kernel_rfl) (fun _ _ _ h => h) (by rfl) ?_ (by assumption) ?_
          rotate_left
          · intro w hSw; (try dsimp only at hSw); go_simp; (try with_reducible rfl)
          (try simp only [Act.put, gA, gB, gC, sA, sB, sC])
          refine tkO (i := 11) (v := ?_) rfl (by kernel_rfl) (fun _ _ _ h => h) (by rfl) ?_ (by assumption) ?_
          rotate_left
          · intro w hSw; (try dsimp only at hSw); go_simp; (try with_reducible rfl)
          (try simp only [Act.put, gA, gB, gC, sA, sB, sC])
          refine wpAnyH_ready (rs := [13]) (by kernel_rfl) (by simp) ?_
          refine AllReadyH.cons (o := _) rfl (fun K hK => ?_) AllReadyH.nil
          obtain ⟨z0, z1, z2⟩ := HN.out.three
          have f0 := HN.out.thawed 0
          have f1 := HN.out.thawed 1
          have f2 := HN.out.thawed 2
          go_simp
          have HN := hidp (HN.out.put 0 (.int .i64 k))
          have HN := hidp (HN.out.put 1 (.int .i64 (m : Int)))
          have HN := hidp (HN.out.put 2 (.int .i64 cl))
          have HB := hidp (Bput (p := ⟨_, 2, none⟩) (Bput (p := ⟨_, 1, none⟩) (Bput (p := ⟨_, 0, none⟩) HB.out HLE.out (.int .i64 k)) HLE.out (.int .i64 (m : Int))) HLE.out (.int .i64 cl))
          clear z0 z1 z2 f0 f1 f2
          refine hK.out _ _ ?_ (fun hHeld => ?_)
          · (try dsimp only)
            exact HS.out _ HB.out
          clear hK K
          (try simp only [Act.put, gA, gB, gC, sA, sB, sC])
          refine tkO (i := 14) (v := ?_) rfl (by kernel_rfl) (fun _ _ _ h => h) (by rfl) ?_ (by assumption) ?_
          rotate_left
          · intro w hSw; (try dsimp only at hSw); go_simp; (try with_reducible rfl)
          (try simp only [Act.put, gA, gB, gC, sA, sB, sC])
          refine wpAnyH_done (by kernel_rfl) ?_ _
          go_wp2_with fail
          go_meet
          case rel => exact ⟨_, rfl, HN.out, HB.out, HLE.out⟩
  case rest =>
    obtain ⟨g, rfl, h1, h2, h3⟩ := hcut
    obtain ⟨x0, x1, x2⟩ := h1.three
    have z := HR.out.keep h2
    obtain ⟨y0, y1, y2⟩ := z.three
    obtain ⟨v0, v1, v2⟩ := (((z.put 0 (.int .i64 k)).put 1 (.int .i64 (m : Int))).put 2 (.int .i64 cl)).three
    have f0 := z.thawed 0
    have f1 := z.thawed 1
    have f2 := z.thawed 2
    go_wp2_with fail
    refine bodyPost_ret (v := .agg #[(.int .i64 k), (.int .i64 (m : Int)), (.int .i64 cl)]) (by simp [results, Try.results24, go_sem, v0, v1, v2]) rfl ⟨rfl, ?_⟩
    exact Bput (Bput (Bput (Bgo HBW.out h2) (by simp) _) (by simp) _) (by simp) _

end Go.Proofs.Ytpndfhdedmdoeaa

/-
  The document's starts of spans. Written by doc12/gen_starts.py.
-/
namespace Go.Proofs.Ytpndfhdedmdoeaa
open Go.ChangeShapes Go.WideShapes Go.ChangeAt Go.RowKit Go.Shelf
set_option linter.unusedVariables false
set_option linter.unusedSimpArgs false


def natVs (l : List Nat) : List Value := l.map fun (n : Nat) => Value.int .i64 (n : Int)
theorem natVs_len (l : List Nat) : (natVs l).length = l.length := by unfold natVs; simp
theorem natVs_snoc (l : List Nat) (q : Nat) : natVs (l ++ [q]) = natVs l ++ [.int .i64 (q : Int)] := by unfold natVs; simp
theorem natVs_get {l : List Nat} {i a : Nat} (h : l[i]? = some a) : (natVs l)[i]? = some (.int .i64 (a : Int)) := by unfold natVs; simp [h]
theorem own_nat {w : World} {base n g cap : Nat} {e : TypeId} {l : List Nat} (h : w.ownsRow base e 1 (.slice (some ⟨g, 0, none⟩) n cap) n (natVs l)) (hn : l.length = n) {i a : Nat} (hi : l[i]? = some a) : w.cell? ⟨g, i, none⟩ = some (.int .i64 (a : Int)) := by
  have hl : i < n := by
    rcases Nat.lt_or_ge i n with h1 | h1
    · exact h1
    · rw [List.getElem?_eq_none (by omega)] at hi; cases hi
  exact (h.cellAt _ (by omega)).trans (natVs_get hi)
/-- what starts hands back -/
def StartsIs (H : AuH) (w : World) (u : Value) (b : Bool) (w' : World) : Prop := (b = true ↔ H.At H.p) ∧ (b = true → ∃ l, H.Starts l H.p ∧ w'.ownsRow w.heap.size 3 1 u l.length (natVs l))
def StartsEnd (H : AuH) (w : World) (e : Ending) (w' : World) : Prop := ∃ u b, e = .returned (.tuple #[u, .bool b]) ∧ StartsIs H w u b w' ∧ Below w.heap.size w w'

set_option maxHeartbeats 6400000 in
set_option maxRecDepth 100000 in
theorem xStarts_c {H : AuH} {n c : Nat} (HV : HeapV H n c) (ad : Addr) (w : World) (hv : IsVals w ad n H.V) :
    Calls Try.prog 100 #[hpV H ad n c] w (StartsEnd H w) := by
  have HVL := hidp hv
  have HX0 := hidp ((Held.new w 53 #[.int .i64 (H.t : Int), .int .i64 (H.p : Int), .int .i64 (H.s : Int), .slice (some ad) n c]).alloc (.cells #[] 3))
  have HBW := hidp (Bnew (Bnew (B0 w) (.cells #[.int .i64 (H.t : Int), .int .i64 (H.p : Int), .int .i64 (H.s : Int), .slice (some ad) n c] 53)) (.cells #[] 3))
  have HOW : Hid (((w.alloc (.cells #[.int .i64 (H.t : Int), .int .i64 (H.p : Int), .int .i64 (H.s : Int), .slice (some ad) n c] 53)).alloc (.cells #[] 3)).ownsRow (w.heap.size + 1) 3 1 (.slice (some ⟨(w.alloc (.cells #[.int .i64 (H.t : Int), .int .i64 (H.p : Int), .int .i64 (H.s : Int), .slice (some ad) n c] 53)).heap.size, 0, none⟩) 0 0) 0 []) := hidp (World.ownsRow_lit (base := (w.heap.size + 1)) (e := 3) (size := 1) (w.alloc (.cells #[.int .i64 (H.t : Int), .int .i64 (H.p : Int), .int .i64 (H.s : Int), .slice (some ad) n c] 53)) #[] 0 (by simp) (by unfold maxLen; omega) rfl)
  obtain ⟨i0, hi0, hz0, hz1, hz2⟩ := info_parts intInfo
  have hn := HV.nums
  have hcx : c ≤ 9223372036854775807 := hn.2.2.2.2.2.2.2.2
  have hni : n ≤ 6238 := hn.2.2.2.2.2.2.1
  have hnc := HV.cap
  have hp1 := hn.2.2.2.1
  clear hv hn
  unfold hpV
  go_enter Try.func100, Try.ntmps100
  go_wp2_with fail
  rw [World.size_alloc] at HOW
  generalize (w.alloc (.cells #[.int .i64 (H.t : Int), .int .i64 (H.p : Int), .int .i64 (H.s : Int), .slice (some ad) n c] 53)).alloc (.cells #[] 3) = W0 at *
  go_loopw [4, 5] (fun u4 u5 wr => ∃ (a : Nat) (l : List Nat) (nl : Nat), u5 = .int .i64 (a : Int) ∧ a ≤ 4096 ∧ Hid ((a ≤ H.p ∧ H.Starts l a) ∨ (H.p < a ∧ ¬ H.At H.p)) ∧ nl ≤ 1024 ∧ Hid (l.length = nl) ∧ Hid (wr.ownsRow (w.heap.size + 1) 3 1 u4 nl (natVs l)) ∧ Hid (Held wr w.heap.size 53 #[.int .i64 (H.t : Int), .int .i64 (H.p : Int), .int .i64 (H.s : Int), .slice (some ad) n c]) ∧ Hid (Below w.heap.size w wr)) (fun _ u5 _ => H.p - (intOf u5).toNat)
  case atStart => exact ⟨0, [], 0, rfl, by omega, hidp (.inl ⟨by omega, .nil⟩), by omega, hidp rfl, HOW, HX0, HBW⟩
  case round =>
    clear HOW HX0 HBW
    obtain ⟨a, l, nl, rfl, ha, HST, hnl, HLN, HO, HX, HB⟩ := hrel
    obtain ⟨c0, c1, c2, c3⟩ := HX.out.four
    by_cases hlt : a < H.p
    · have hst : H.Starts l a := by
        rcases HST.out with h | h
        · exact h.2
        · omega
      have HSL := hidp hst
      have hln := hst.len
      have t0 : decide ((a : Int) < H.p) = true := decide_eq_true (by omega)
      have HVR := hidp (HVL.out.below HB.out)
      obtain ⟨i, hii⟩ : ∃ i, 30 + 4 * H.t + 6 * a + 0 = i := ⟨_, rfl⟩
      have hini : i < n := by have := HV.len; omega
      have HI : Hid (pageI H.t H.p H.s a 0 = (i : Int)) := hidp (by have h := HV.page (b := 0) hlt (by omega); rw [hii] at h; exact h)
      have h32i := HV.cel_lt hlt (show 0 < 6 by omega)
      have hceli : H.cel a 0 = H.V i := by unfold AuH.cel; rw [hii]
      obtain ⟨v, hvvv⟩ : ∃ v, H.cel a 0 = v := ⟨_, rfl⟩
      have HCv := hidp hvvv
      rw [hvvv] at h32i
      have hci := (HVR.out).2 i hini
      rw [← hceli, hvvv] at hci
      have hbli : (ad.add i).block < wr.heap.size := by rw [block_of_add]; exact (HVR.out).1
      have HS : Hid (∀ w', Below wr.heap.size wr w' → (fun w' => w'.cell? ⟨w.heap.size, 0, none⟩ = some (.int .i64 (H.t : Int)) ∧ w'.cell? ⟨w.heap.size, 1, none⟩ = some (.int .i64 (H.p : Int)) ∧ w'.cell? ⟨w.heap.size, 2, none⟩ = some (.int .i64 (H.s : Int)) ∧ w'.cell? ⟨w.heap.size, 3, none⟩ = some (.slice (some ad) n c) ∧ w'.cell? (ad.add i) = some (.int .u32 (v : Int))) w') := hidp (fun w' hb => by have hh := HX.out.keep hb; exact ⟨hh.four.1, hh.four.2.1, hh.four.2.2.1, hh.four.2.2.2, (hb.cell hbli).trans hci⟩)
      have hie := H.info_eq a
      rw [H.L_ln, hvvv] at hie
      have hok := H.ok_of a
      have hkc := H.K_cases a
      have HCN : Hid (H.can a = false → ¬ H.At H.p) := hidp (fun h hp => by have := (AuH.At.next hst.at_ hp hlt).1; rw [h] at this; cases this)
      have HCA : Hid (H.K a ≠ 0 → a + H.ln a ≤ H.p → H.can a = true ∧ H.nx a = a + H.ln a) := hidp (fun h1 h2 => ⟨(H.can_iff a).2 ⟨hlt, h1, h2⟩, rfl⟩)
      have HCF : Hid (H.K a = 0 ∨ H.p < a + H.ln a → H.can a = false) := hidp (fun h => (H.can_no a).2 (by omega))
      generalize H.K a = k at *
      generalize H.ln a = m at *
      generalize H.Cl a = cl at *
      generalize H.ok a = okb at *
      have HG := hidp hie
      clear hci hbli hceli hvvv hii HCv hie hst
      go_upto_region 4 with fail
      go_cut [6, 7] from 14 to 25 (fun u6 u7 wx => ∃ g : Nat, u6 = .pointer (some ⟨g, 0, none⟩) ∧ u7 = .bool okb ∧ Held wx g 55 #[(.int .i64 k), (.int .i64 (m : Int)), (.int .i64 cl)] ∧ Below wr.heap.size wr wx ∧ wr.heap.size ≤ g)
      case first =>
        have HB := hidp (Bdrew (B0 (wr)))
        refine wp_region_held_drew (S := (fun w' => w'.cell? ⟨w.heap.size, 0, none⟩ = some (.int .i64 (H.t : Int)) ∧ w'.cell? ⟨w.heap.size, 1, none⟩ = some (.int .i64 (H.p : Int)) ∧ w'.cell? ⟨w.heap.size, 2, none⟩ = some (.int .i64 (H.s : Int)) ∧ w'.cell? ⟨w.heap.size, 3, none⟩ = some (.slice (some ad) n c) ∧ w'.cell? (ad.add i) = some (.int .u32 (v : Int)))) (by kernel_rfl) ?_ (fun hHeld => ?_)
        · (try dsimp only)
          exact HS.out _ HB.out
        generalize hq0 : (wr).drew = q0 at HB hHeld ⊢
        clear hq0
        refine tkO (i := 0) (v := ?_) rfl (by kernel_rfl) (fun _ _ _ h => h) (by rfl) ?_ (by assumption) ?_
        rotate_left
        · intro w hSw; (try dsimp only at hSw); go_simp; (try with_reducible rfl)
        (try simp only [Act.put, gA, gB, gC, sA, sB, sC])
        refine tkO (i := 1) (v := ?_) rfl (by kernel_rfl) (fun _ _ _ h => h) (by rfl) ?_ (by assumption) ?_
        rotate_left
        · intro w hSw; (try dsimp only at hSw); go_simp; (try with_reducible rfl)
        (try simp only [Act.put, gA, gB, gC, sA, sB, sC])
        refine tkO (i := 2) (v := ?_) rfl (by kernel_rfl) (fun _ _ _ h => h) (by rfl) ?_ (by assumption) ?_
        rotate_left
        · intro w hSw; (try dsimp only at hSw); go_simp; (try with_reducible rfl)
        (try simp only [Act.put, gA, gB, gC, sA, sB, sC])
        refine tkO (i := 3) (v := ?_) rfl (by kernel_rfl) (fun _ _ _ h => h) (by rfl) ?_ (by assumption) ?_
        rotate_left
        · intro w hSw; (try dsimp only at hSw); go_simp; (try with_reducible rfl)
        (try simp only [Act.put, gA, gB, gC, sA, sB, sC])
        refine tkO (i := 4) (v := ?_) rfl (by kernel_rfl) (fun _ _ _ h => h) (by rfl) ?_ (by assumption) ?_
        rotate_left
        · intro w hSw; (try dsimp only at hSw); go_simp; (try with_reducible rfl)
        (try simp only [Act.put, gA, gB, gC, sA, sB, sC])
        refine wpAnyH_ready (rs := [5, 12]) (by kernel_rfl) (by simp) ?_
        refine AllReadyH.cons (o := _) rfl (fun K hK => ?_) (AllReadyH.cons (o := _) rfl (fun K hK => ?_) AllReadyH.nil)
        · skip
          go_simp
          (go_at_call 42; refine (r7Info_c _ _ _ _ _).mono ?_; rintro e q1 ⟨rfl, hb1⟩; rw [HI.out]; have HB := hidp (Bgo HB.out hb1); skip; clear hb1)
          refine hK.out _ _ ?_ (fun hHeld => ?_)
          · (try dsimp only)
            exact HS.out _ HB.out
          clear hK K
          (try simp only [Act.put, gA, gB, gC, sA, sB, sC])
          refine tkO (i := 6) (v := ?_) rfl (by kernel_rfl) (fun _ _ _ h => h) (by rfl) ?_ (by assumption) ?_
          rotate_left
          · intro w hSw; (try dsimp only at hSw); go_simp; (try with_reducible rfl)
          (try simp only [Act.put, gA, gB, gC, sA, sB, sC])
          refine tkO (i := 7) (v := ?_) rfl (by kernel_rfl) (fun _ _ _ h => h) (by rfl) ?_ (by assumption) ?_
          rotate_left
          · intro w hSw; (try dsimp only at hSw); go_simp; (try with_reducible rfl)
          (try simp only [Act.put, gA, gB, gC, sA, sB, sC])
          refine wpAnyH_ready (rs := [8, 12]) (by kernel_rfl) (by simp) ?_
          refine AllReadyH.cons (o := _) rfl (fun K hK => ?_) (AllReadyH.cons (o := _) rfl (fun K hK => ?_) AllReadyH.nil)
          · skip
            go_simp
            (go_at_call 59; refine (r9Get_c _ _ _ _ _ h32i HG.out _).mono ?_; rintro e q2 ⟨rfl, hb1⟩; have HB := hidp (Bgo HB.out hb1); skip; clear hb1)
            refine hK.out _ _ ?_ (fun hHeld => ?_)
            · (try dsimp only)
              exact HS.out _ HB.out
            clear hK K
            (try simp only [Act.put, gA, gB, gC, sA, sB, sC])
            refine tkO (i := 9) (v := ?_) rfl (by kernel_rfl) (fun _ _ _ h => h) (by rfl) ?_ (by assumption) ?_
            rotate_left
            · intro w hSw; (try dsimp only at hSw); go_simp; (try with_reducible rfl)
            (try simp only [Act.put, gA, gB, gC, sA, sB, sC])
            refine tkO (i := 10) (v := ?_) rfl (by kernel_rfl) (fun _ _ _ h => h) (by rfl) ?_ (by assumption) ?_
            rotate_left
            · intro w hSw; (try dsimp only at hSw); go_simp; (try with_reducible rfl)
            (try simp only [Act.put, gA, gB, gC, sA, sB, sC])
            refine tkO (i := 11) (v := ?_) rfl (by kernel_rfl) (fun _ _ _ h => h) (by rfl) ?_ (by assumption) ?_
            rotate_left
            · intro w hSw; (try dsimp only at hSw); go_simp; (try with_reducible rfl)
            (try simp only [Act.put, gA, gB, gC, sA, sB, sC])
            refine wpAnyH_ready (rs := [12]) (by kernel_rfl) (by simp) ?_
            refine AllReadyH.cons (o := _) rfl (fun K hK => ?_) AllReadyH.nil
            · skip
              go_simp
              have HLE := hidp HB.out.size
              have HB := hidp (Bnew HB.out (.cells #[.int .i64 0, .int .i64 0, .int .i64 0] 55))
              have HN := hidp (Held.new q2 55 #[.int .i64 0, .int .i64 0, .int .i64 0])
              try simp only [World.heap_drew] at HLE HN
              generalize hq3 : q2.alloc (.cells #[.int .i64 0, .int .i64 0, .int .i64 0] 55) = q3 at HB HN ⊢
              clear hq3
              refine hK.out _ _ ?_ (fun hHeld => ?_)
              · (try dsimp only)
                exact HS.out _ HB.out
              clear hK K
              (try simp only [Act.put, gA, gB, gC, sA, sB, sC])
              refine wpAnyH_ready (rs := [13]) (by kernel_rfl) (by simp) ?_
              refine AllReadyH.cons (o := _) rfl (fun K hK => ?_) AllReadyH.nil
              obtain ⟨z0, z1, z2⟩ := HN.out.three
              have f0 := HN.out.thawed 0
              have f1 := HN.out.thawed 1
              have f2 := HN.out.thawed 2
              go_simp
              have HN := hidp (HN.out.put 0 (.int .i64 k))
              have HN := hidp (HN.out.put 1 (.int .i64 (m : Int)))
              have HN := hidp (HN.out.put 2 (.int .i64 cl))
              have HB := hidp (Bput (p := ⟨_, 2, none⟩) (Bput (p := ⟨_, 1, none⟩) (Bput (p := ⟨_, 0, none⟩) HB.out HLE.out (.int .i64 k)) HLE.out (.int .i64 (m : Int))) HLE.out (.int .i64 cl))
              clear z0 z1 z2 f0 f1 f2
              refine hK.out _ _ ?_ (fun hHeld => ?_)
              · (try dsimp only)
                exact HS.out _ HB.out
              clear hK K
              (try simp only [Act.put, gA, gB, gC, sA, sB, sC])
              refine tkO (i := 14) (v := ?_) rfl (by kernel_rfl) (fun _ _ _ h => h) (by rfl) ?_ (by assumption) ?_
              rotate_left
              · intro w hSw; (try dsimp only at hSw); go_simp; (try with_reducible rfl)
              (try simp only [Act.put, gA, gB, gC, sA, sB, sC])
              refine wpAnyH_done (by kernel_rfl) ?_ _
              go_wp2_with fail
              go_meet
              case rel => exact ⟨_, rfl, rfl, HN.out, HB.out, HLE.out⟩
          · skip
            go_simp
            have HLE := hidp HB.out.size
            have HB := hidp (Bnew HB.out (.cells #[.int .i64 0, .int .i64 0, .int .i64 0] 55))
            have HN := hidp (Held.new q1 55 #[.int .i64 0, .int .i64 0, .int .i64 0])
            try simp only [World.heap_drew] at HLE HN
            generalize hq4 : q1.alloc (.cells #[.int .i64 0, .int .i64 0, .int .i64 0] 55) = q4 at HB HN ⊢
            clear hq4
            refine hK.out _ _ ?_ (fun hHeld => ?_)
            · (try dsimp only)
              exact HS.out _ HB.out
            clear hK K
            (try simp only [Act.put, gA, gB, gC, sA, sB, sC])
            refine wpAnyH_ready (rs := [8]) (by kernel_rfl) (by simp) ?_
            refine AllReadyH.cons (o := _) rfl (fun K hK => ?_) AllReadyH.nil
            · skip
              go_simp
              (go_at_call 59; refine (r9Get_c _ _ _ _ _ h32i HG.out _).mono ?_; rintro e q5 ⟨rfl, hb1⟩; have HB := hidp (Bgo HB.out hb1); have HN := hidp (HN.out.keep hb1); clear hb1)
              refine hK.out _ _ ?_ (fun hHeld => ?_)
              · (try dsimp only)
                exact HS.out _ HB.out
              clear hK K
              (try simp only [Act.put, gA, gB, gC, sA, sB, sC])
              refine tkO (i := 9) (v := ?_) rfl (by kernel_rfl) (fun _ _ _ h => h) (by rfl) ?_ (by assumption) ?_
              rotate_left
              · intro w hSw; (try dsimp only at hSw); go_simp; (try with_reducible rfl)
              (try simp only [Act.put, gA, gB, gC, sA, sB, sC])
              refine tkO (i := 10) (v := ?_) rfl (by kernel_rfl) (fun _ _ _ h => h) (by rfl) ?_ (by assumption) ?_
              rotate_left
              · intro w hSw; (try dsimp only at hSw); go_simp; (try with_reducible rfl)
              (try simp only [Act.put, gA, gB, gC, sA, sB, sC])
              refine tkO (i := 11) (v := ?_) rfl (by kernel_rfl) (fun _ _ _ h => h) (by rfl) ?_ (by assumption) ?_
              rotate_left
              · intro w hSw; (try dsimp only at hSw); go_simp; (try with_reducible rfl)
              (try simp only [Act.put, gA, gB, gC, sA, sB, sC])
              refine wpAnyH_ready (rs := [13]) (by kernel_rfl) (by simp) ?_
              refine AllReadyH.cons (o := _) rfl (fun K hK => ?_) AllReadyH.nil
              obtain ⟨z0, z1, z2⟩ := HN.out.three
              have f0 := HN.out.thawed 0
              have f1 := HN.out.thawed 1
              have f2 := HN.out.thawed 2
              go_simp
              have HN := hidp (HN.out.put 0 (.int .i64 k))
              have HN := hidp (HN.out.put 1 (.int .i64 (m : Int)))
              have HN := hidp (HN.out.put 2 (.int .i64 cl))
              have HB := hidp (Bput (p := ⟨_, 2, none⟩) (Bput (p := ⟨_, 1, none⟩) (Bput (p := ⟨_, 0, none⟩) HB.out HLE.out (.int .i64 k)) HLE.out (.int .i64 (m : Int))) HLE.out (.int .i64 cl))
              clear z0 z1 z2 f0 f1 f2
              refine hK.out _ _ ?_ (fun hHeld => ?_)
              · (try dsimp only)
                exact HS.out _ HB.out
              clear hK K
              (try simp only [Act.put, gA, gB, gC, sA, sB, sC])
              refine tkO (i := 14) (v := ?_) rfl (by kernel_rfl) (fun _ _ _ h => h) (by rfl) ?_ (by assumption) ?_
              rotate_left
              · intro w hSw; (try dsimp only at hSw); go_simp; (try with_reducible rfl)
              (try simp only [Act.put, gA, gB, gC, sA, sB, sC])
              refine wpAnyH_done (by kernel_rfl) ?_ _
              go_wp2_with fail
              go_meet
              case rel => exact ⟨_, rfl, rfl, HN.out, HB.out, HLE.out⟩
        · skip
          go_simp
          have HLE := hidp HB.out.size
          have HB := hidp (Bnew HB.out (.cells #[.int .i64 0, .int .i64 0, .int .i64 0] 55))
          have HN := hidp (Held.new q0 55 #[.int .i64 0, .int .i64 0, .int .i64 0])
          try simp only [World.heap_drew] at HLE HN
          generalize hq6 : q0.alloc (.cells #[.int .i64 0, .int .i64 0, .int .i64 0] 55) = q6 at HB HN ⊢
          clear hq6
          refine hK.out _ _ ?_ (fun hHeld => ?_)
          · (try dsimp only)
            exact HS.out _ HB.out
          clear hK K
          (try simp only [Act.put, gA, gB, gC, sA, sB, sC])
          refine wpAnyH_ready (rs := [5]) (by kernel_rfl) (by simp) ?_
          refine AllReadyH.cons (o := _) rfl (fun K hK => ?_) AllReadyH.nil
          · skip
            go_simp
            (go_at_call 42; refine (r7Info_c _ _ _ _ _).mono ?_; rintro e q7 ⟨rfl, hb1⟩; rw [HI.out]; have HB := hidp (Bgo HB.out hb1); have HN := hidp (HN.out.keep hb1); clear hb1)
            refine hK.out _ _ ?_ (fun hHeld => ?_)
            · (try dsimp only)
              exact HS.out _ HB.out
            clear hK K
            (try simp only [Act.put, gA, gB, gC, sA, sB, sC])
            refine tkO (i := 6) (v := ?_) rfl (by kernel_rfl) (fun _ _ _ h => h) (by rfl) ?_ (by assumption) ?_
            rotate_left
            · intro w hSw; (try dsimp only at hSw); go_simp; (try with_reducible rfl)
            (try simp only [Act.put, gA, gB, gC, sA, sB, sC])
            refine tkO (i := 7) (v := ?_) rfl (by kernel_rfl) (fun _ _ _ h => h) (by rfl) ?_ (by assumption) ?_
            rotate_left
            · intro w hSw; (try dsimp only at hSw); go_simp; (try with_reducible rfl)
            (try simp only [Act.put, gA, gB, gC, sA, sB, sC])
            refine wpAnyH_ready (rs := [8]) (by kernel_rfl) (by simp) ?_
            refine AllReadyH.cons (o := _) rfl (fun K hK => ?_) AllReadyH.nil
            · skip
              go_simp
              (go_at_call 59; refine (r9Get_c _ _ _ _ _ h32i HG.out _).mono ?_; rintro e q8 ⟨rfl, hb1⟩; have HB := hidp (Bgo HB.out hb1); have HN := hidp (HN.out.keep hb1); clear hb1)
              refine hK.out _ _ ?_ (fun hHeld => ?_)
              · (try dsimp only)
                exact HS.out _ HB.out
              clear hK K
              (try simp only [Act.put, gA, gB, gC, sA, sB, sC])
              refine tkO (i := 9) (v := ?_) rfl (by kernel_rfl) (fun _ _ _ h => h) (by rfl) ?_ (by assumption) ?_
              rotate_left
              · intro w hSw; (try dsimp only at hSw); go_simp; (try with_reducible rfl)
              (try simp only [Act.put, gA, gB, gC, sA, sB, sC])
              refine tkO (i := 10) (v := ?_) rfl (by kernel_rfl) (fun _ _ _ h => h) (by rfl) ?_ (by assumption) ?_
              rotate_left
              · intro w hSw; (try dsimp only at hSw); go_simp; (try with_reducible rfl)
              (try simp only [Act.put, gA, gB, gC, sA, sB, sC])
              refine tkO (i := 11) (v := ?_) rfl (by kernel_rfl) (fun _ _ _ h => h) (by rfl) ?_ (by assumption) ?_
              rotate_left
              · intro w hSw; (try dsimp only at hSw); go_simp; (try with_reducible rfl)
              (try simp only [Act.put, gA, gB, gC, sA, sB, sC])
              refine wpAnyH_ready (rs := [13]) (by kernel_rfl) (by simp) ?_
              refine AllReadyH.cons (o := _) rfl (fun K hK => ?_) AllReadyH.nil
              obtain ⟨z0, z1, z2⟩ := HN.out.three
              have f0 := HN.out.thawed 0
              have f1 := HN.out.thawed 1
              have f2 := HN.out.thawed 2
              go_simp
              have HN := hidp (HN.out.put 0 (.int .i64 k))
              have HN := hidp (HN.out.put 1 (.int .i64 (m : Int)))
              have HN := hidp (HN.out.put 2 (.int .i64 cl))
              have HB := hidp (Bput (p := ⟨_, 2, none⟩) (Bput (p := ⟨_, 1, none⟩) (Bput (p := ⟨_, 0, none⟩) HB.out HLE.out (.int .i64 k)) HLE.out (.int .i64 (m : Int))) HLE.out (.int .i64 cl))
              clear z0 z1 z2 f0 f1 f2
              refine hK.out _ _ ?_ (fun hHeld => ?_)
              · (try dsimp only)
                exact HS.out _ HB.out
              clear hK K
              (try simp only [Act.put, gA, gB, gC, sA, sB, sC])
              refine tkO (i := 14) (v := ?_) rfl (by kernel_rfl) (fun _ _ _ h => h) (by rfl) ?_ (by assumption) ?_
              rotate_left
              · intro w hSw; (try dsimp only at hSw); go_simp; (try with_reducible rfl)
              (try simp only [Act.put, gA, gB, gC, sA, sB, sC])
              refine wpAnyH_done (by kernel_rfl) ?_ _
              go_wp2_with fail
              go_meet
              case rel => exact ⟨_, rfl, rfl, HN.out, HB.out, HLE.out⟩
      case rest =>
        obtain ⟨g, rfl, rfl, h1, h2, h3⟩ := hcut
        obtain ⟨d0, d1, d2⟩ := h1.three
        have HBX := hidp (Bgo HB.out h2)
        have HHX := hidp (HX.out.keep h2)
        have HNX := hidp h1
        have HOX := hidp (own_below HO.out h2)
        have HGE := hidp h3
        clear h1 h2 h3 HS c0 c1 c2 c3
        by_cases hk0 : k = 0
        · have HNA := hidp (HCN.out (HCF.out (.inl hk0)))
          subst hk0
          cases okb
          · go_wp2_with fail
            go_ret2
            exact ⟨_, false, rfl, ⟨⟨fun h => (by cases h), fun h => absurd h HNA.out⟩, fun h => (by cases h)⟩, HBX.out⟩
          · go_wp2_with fail
            go_ret2
            exact ⟨_, false, rfl, ⟨⟨fun h => (by cases h), fun h => absurd h HNA.out⟩, fun h => (by cases h)⟩, HBX.out⟩
        · have e : okb = true := hok hk0
          subst e
          have q0 : (k == 0) = false := by simpa using hk0
          have hmm : 1 ≤ m ∧ m ≤ 1024 := by omega
          have sw : IntKind.i64.wrap ((a : Int) + m) = ((a + m : Nat) : Int) := by rw [i64_same (by omega) (by omega)]; push_cast; rfl
          clear hkc hok
          go_wp2_with (first
            | (at_builtin
               refine wpList_append_own _ rfl _ _ 40 rfl (w.heap.size + 1) 3 i0 (.int .i64 0) 1 8 Try.underlying40 hi0 hz0 hz1 hz2 rfl (by decide) _ _ _ rfl (HOX.out.alloc _) ⟨_, 0, none⟩ 1 1 [.int .i64 (a : Int)] rfl rfl ?c1 ?c2 ?c3 ?c4 ?c5 ?_
               case c1 => intro j y hy; rcases j with _ | j; (· simp at hy; subst hy; simp [Addr.add]); (· simp at hy)
               case c2 => simp [Value.oneCell']
               case c3 => unfold maxLen; omega
               case c4 => omega
               case c5 => have := HBX.out.size; have := HX.out.lt; simp; omega
               intro u1 w3 hown3 hgrow hat3
               have HO3 : Hid (w3.ownsRow (w.heap.size + 1) 3 1 u1 (nl + 1) (natVs (l ++ [a]))) := hidp (by rw [natVs_snoc]; exact hown3)
               have hnb : ∀ j, u4.ownBlock = some j → (w.heap.size + 1) ≤ j := fun j hj => (HOX.out.lt j hj).1
               have HB3 := hidp ((Bnew HBX.out (.cells #[.int .i64 (a : Int)] 3)).grown hgrow (by have := HBX.out.size; simp; omega) (fun j hj => by have := hnb j hj; omega))
               have HX3 := hidp (held_grown (HHX.out.alloc (.cells #[.int .i64 (a : Int)] 3)) hgrow (fun e => by have := hnb _ e; omega))
               have HN3 := hidp (held_grown (HNX.out.alloc (.cells #[.int .i64 (a : Int)] 3)) hgrow (fun e => by have := (HO.out.lt _ e).2; have := HGE.out; omega))
               clear hown3 hgrow hat3 hnb d0 d1 d2
               obtain ⟨d0, d1, d2⟩ := HN3.out.three)
            | fail)
          go_roundw
          case rel =>
            refine ⟨a + m, l ++ [a], nl + 1, by go_num, by omega, ?_, by have := HSL.out.len; have := HLN.out; omega, hidp (by rw [List.length_append, HLN.out]; rfl), HO3, HX3, HB3⟩
            rcases Nat.lt_or_ge H.p (a + m) with h | h
            · exact hidp (.inr ⟨h, HCN.out (HCF.out (.inr h))⟩)
            · have h4 := HCA.out hk0 h
              exact hidp (.inl ⟨h, by rw [← h4.2]; exact .snoc HSL.out h4.1⟩)
          case measure => simp [intOf]; omega
    · have t0 : decide ((a : Int) < H.p) = false := decide_eq_false (by omega)
      obtain ⟨b, hb⟩ : ∃ b : Bool, ((a : Int) == H.p) = b := ⟨_, rfl⟩
      have HSI : Hid (StartsIs H w u4 b wr) := hidp (by
        rcases HST.out with ⟨h1, h2⟩ | ⟨h1, h2⟩
        · have hap : a = H.p := by omega
          have hbt : b = true := by rw [← hb]; simp; omega
          subst hbt
          refine ⟨⟨fun _ => by rw [← hap]; exact h2.at_, fun _ => rfl⟩, fun _ => ⟨l, by rw [← hap]; exact h2, by rw [HLN.out]; exact own_down HO.out (by omega)⟩⟩
        · have hbt : b = false := by rw [← hb]; simp; omega
          subst hbt
          exact ⟨⟨fun h => (by cases h), fun h => absurd h h2⟩, fun h => (by cases h)⟩)
      clear HST
      go_wp2_with fail
      refine wp_region_held_drew (S := (fun w' => w'.cell? ⟨w.heap.size, 0, none⟩ = some (.int .i64 (H.t : Int)) ∧ w'.cell? ⟨w.heap.size, 1, none⟩ = some (.int .i64 (H.p : Int)) ∧ w'.cell? ⟨w.heap.size, 2, none⟩ = some (.int .i64 (H.s : Int)) ∧ w'.cell? ⟨w.heap.size, 3, none⟩ = some (.slice (some ad) n c))) (by kernel_rfl) ?_ (fun hHeld => ?_)
      · (try dsimp only)
        first | exact ⟨c0, c1, c2, c3⟩ | exact hHeld
      refine tkO (i := 0) (v := ?_) rfl (by kernel_rfl) (fun _ _ _ h => h) (by rfl) ?_ (by assumption) ?_
      rotate_left
      · intro w hSw; (try dsimp only at hSw); go_simp; (try with_reducible rfl)
      (try simp only [Act.put, gA, gB, gC, sA, sB, sC])
      refine tkO (i := 1) (v := ?_) rfl (by kernel_rfl) (fun _ _ _ h => h) (by rfl) ?_ (by assumption) ?_
      rotate_left
      · intro w hSw; (try dsimp only at hSw); go_simp; (try with_reducible rfl)
      (try simp only [Act.put, gA, gB, gC, sA, sB, sC])
      refine tkO (i := 2) (v := ?_) rfl (by kernel_rfl) (fun _ _ _ h => h) (by rfl) ?_ (by assumption) ?_
      rotate_left
      · intro w hSw; (try dsimp only at hSw); go_simp; (try with_reducible rfl)
      (try simp only [Act.put, gA, gB, gC, sA, sB, sC])
      refine tkO (i := 3) (v := ?_) rfl (by kernel_rfl) (fun _ _ _ h => h) (by rfl) ?_ (by assumption) ?_
      rotate_left
      · intro w hSw; (try dsimp only at hSw); go_simp; (try with_reducible rfl)
      (try simp only [Act.put, gA, gB, gC, sA, sB, sC])
      refine tkO (i := 4) (v := ?_) rfl (by kernel_rfl) (fun _ _ _ h => h) (by rfl) ?_ (by assumption) ?_
      rotate_left
      · intro w hSw; (try dsimp only at hSw); go_simp; (try with_reducible rfl)
      (try simp only [Act.put, gA, gB, gC, sA, sB, sC])
      refine tkO (i := 5) (v := ?_) rfl (by kernel_rfl) (fun _ _ _ h => h) (by rfl) ?_ (by assumption) ?_
      rotate_left
      · intro w hSw; (try dsimp only at hSw); go_simp; (try with_reducible rfl)
      (try simp only [Act.put, gA, gB, gC, sA, sB, sC])
      refine tkO (i := 6) (v := ?_) rfl (by kernel_rfl) (fun _ _ _ h => h) (by rfl) ?_ (by assumption) ?_
      rotate_left
      · intro w hSw; (try dsimp only at hSw); go_simp; (try with_reducible rfl)
      (try simp only [Act.put, gA, gB, gC, sA, sB, sC])
      refine tkO (i := 7) (v := ?_) rfl (by kernel_rfl) (fun _ _ _ h => h) (by rfl) ?_ (by assumption) ?_
      rotate_left
      · intro w hSw; (try dsimp only at hSw); go_simp; (try with_reducible rfl)
      (try simp only [Act.put, gA, gB, gC, sA, sB, sC])
      refine wpAnyH_done (by kernel_rfl) ?_ _
      go_wp2_with fail
      go_ret2
      exact ⟨_, _, rfl, HSI.out, Bdrew HB.out⟩

end Go.Proofs.Ytpndfhdedmdoeaa
