/-
  The lists of a heap, on a View that knows all: what is walked, and what pushing and pulling leave.
-/
import Derived.Test.YtnamlhkccgnbfaaGreatJ14
import Derived.Test.YtnamlhkccgnbfaaGreatJ05
import Derived.Test.YtnamlhkccgnbfaaGreatJ06
import Derived.Test.YtnamlhkccgnbfaaGreatJ11
import Derived.Test.YtnamlhkccgnbfaaGreatJ03
namespace Go.Proofs.YtnamlhkccgnbfaaGreat
open Go.ChangeShapes Go.WideShapes Go.ChangeAt Go.RowKit Go.Maps
set_option linter.unusedVariables false
set_option linter.unusedSimpArgs false
section
structure VW (n : Nat) (K : Nat → Option Nat) (s : Vst) : Prop where
  all : ∀ i, i < n → ∃ v, K i = some v
  lost : s.lost = false
section
variable {n : Nat} {K : Nat → Option Nat} {s : Vst} {c : Int} {v : Nat}
theorem VW.at_ (h : VW n K s) {i : Nat} (hi : i < n) : getV n K s (i : Int) = (match pos s.wr i with | some k => atW s.wr k | none => (K i).getD 0) := by
  have ho := opn_yes hi h.lost
  unfold getV
  rw [if_pos ho, Int.toNat_natCast]
  cases pos s.wr i <;> rfl
theorem getV_far (n : Nat) (K : Nat → Option Nat) (s : Vst) {a : Int} (h : ¬ (0 ≤ a ∧ a < n)) : getV n K s a = 0 := getV_no (by unfold opn; simp; intro _ h1; omega)
theorem VW.get (h : VW n K s) (c : Int) : VW n K (getS n K s c) ∧ getV n K (getS n K s c) = getV n K s := by
  by_cases ho : opn n s c = true
  · obtain ⟨i, rfl, hi, hl⟩ := opn_at ho
    cases hp : pos s.wr i with
    | some k => rw [getS_put ho hp]; exact ⟨h, rfl⟩
    | none =>
      obtain ⟨v, hv⟩ := h.all i hi
      rw [getS_known ho hp hv]
      have e1 : (noteS s i).wr = s.wr ∧ (noteS s i).lost = s.lost := by unfold noteS; split <;> exact ⟨rfl, rfl⟩
      refine ⟨⟨h.all, e1.2.trans h.lost⟩, ?_⟩
      funext a
      unfold getV opn
      rw [e1.1, e1.2]
  · rw [getS_no (by simpa using ho)]; exact ⟨h, rfl⟩
theorem VW.put (h : VW n K s) {i : Nat} (hi : i < n) (v : Nat) : VW n K (putS n s (i : Int) v) ∧ getV n K (putS n s (i : Int) v) = upd (getV n K s) (i : Int) v := by
  have ho := opn_yes hi h.lost
  have hV : VW n K (putS n s (i : Int) v) := ⟨h.all, by rw [putS_yes ho]; exact h.lost⟩
  refine ⟨hV, ?_⟩
  funext a
  by_cases ha : 0 ≤ a ∧ a < n
  · obtain ⟨j, rfl⟩ := Int.eq_ofNat_of_zero_le ha.1
    have hj : j < n := by omega
    rw [hV.at_ hj]
    have hw : (putS n s (i : Int) v).wr = putW s.wr i v := by rw [putS_yes ho]
    rw [hw, pos_putW]
    unfold upd
    cases hp : pos s.wr i with
    | some k =>
      obtain ⟨hk, hc⟩ := pos_some hp
      rw [putW_some hp]
      simp only
      by_cases e : j = i
      · subst e
        rw [if_pos rfl, hp]
        simp [atW, List.getD, hk]
      · rw [if_neg (by omega), h.at_ hj]
        cases hq : pos s.wr j with
        | none => rfl
        | some m =>
          have hm := pos_some hq
          have : m ≠ k := fun e2 => by subst e2; exact e (hm.2.symm.trans hc)
          simp [atW, List.getD, List.getElem?_set_ne (Ne.symm this)]
    | none =>
      rw [putW_none hp]
      simp only
      by_cases e : j = i
      · subst e
        rw [if_pos rfl, if_pos rfl]
        simp [atW, List.getD]
      · rw [if_neg e, if_neg (by omega), h.at_ hj]
        cases hq : pos s.wr j with
        | none => rfl
        | some m =>
          have hm := pos_some hq
          simp [atW, List.getD, List.getElem?_append_left hm.1]
  · rw [getV_far n K _ ha]
    unfold upd
    rw [if_neg (by omega), getV_far n K _ ha]
end

def nxH (t p : Nat) : Int := ((30 + 4 * t + 6 * p + 2 : Nat) : Int)
def pvH (t p : Nat) : Int := ((30 + 4 * t + 6 * p + 3 : Nat) : Int)
theorem geo (P t hd : Nat) (h : hd < 30) : Geo P (nxH t) (pvH t) (hd : Int) :=
  ⟨fun a b e => by unfold nxH at e; omega, fun a b e => by unfold pvH at e; omega, fun a b e => by unfold nxH pvH at e; omega, fun a e => by unfold nxH at e; omega, fun a e => by unfold pvH at e; omega⟩

section
variable {t P s n hd : Nat} {K : Nat → Option Nat} {st : Vst} {l l1 l2 : List Nat} {p : Nat}
structure Fit (t P s n : Nat) : Prop where
  right : rightB t P s = true
  len : n = 30 + 4 * t + 6 * P
theorem Fit.nums (h : Fit t P s n) : 4 ≤ P ∧ P ≤ 1024 := by
  have := (rightB_iff _ _ _).1 h.right
  omega
theorem Fit.nx (h : Fit t P s n) (hp : p < P) : pageI (t : Int) (P : Int) (s : Int) (p : Int) 2 = nxH t p := by
  rw [pcell_yes h.right (by omega) (by omega) (by omega) (by omega)]
  unfold nxH
  push_cast
  omega
theorem Fit.pv (h : Fit t P s n) (hp : p < P) : pageI (t : Int) (P : Int) (s : Int) (p : Int) 3 = pvH t p := by
  rw [pcell_yes h.right (by omega) (by omega) (by omega) (by omega)]
  unfold pvH
  push_cast
  omega
theorem Fit.nxl (h : Fit t P s n) {x : Nat} (h0 : x ≠ 0) (hp : x - 1 < P) : pageI (t : Int) (P : Int) (s : Int) ((x : Int) - 1) 2 = nxH t (x - 1) := by
  rw [← h.nx hp]
  congr 1
  omega
theorem Fit.pvl (h : Fit t P s n) {x : Nat} (h0 : x ≠ 0) (hp : x - 1 < P) : pageI (t : Int) (P : Int) (s : Int) ((x : Int) - 1) 3 = pvH t (x - 1) := by
  rw [← h.pv hp]
  congr 1
  omega
theorem Fit.putN (h : Fit t P s n) (hV : VW n K st) (hp : p < P) (v : Nat) : VW n K (putS n st (nxH t p) v) ∧ getV n K (putS n st (nxH t p) v) = upd (getV n K st) (nxH t p) v := hV.put (by have := h.len; omega) v
theorem Fit.putP (h : Fit t P s n) (hV : VW n K st) (hp : p < P) (v : Nat) : VW n K (putS n st (pvH t p) v) ∧ getV n K (putS n st (pvH t p) v) = upd (getV n K st) (pvH t p) v := hV.put (by have := h.len; omega) v
theorem Fit.putH (h : Fit t P s n) (hV : VW n K st) (hh : hd < 30) (v : Nat) : VW n K (putS n st (hd : Int) v) ∧ getV n K (putS n st (hd : Int) v) = upd (getV n K st) (hd : Int) v := hV.put (by have := h.len; omega) v

theorem Fit.push (h : Fit t P s n) (hh : hd < 30) (hV : VW n K st) (hp : p < P) (hx : getV n K st hd = 0 ∨ getV n K st hd - 1 < P) :
    VW n K (pushS n K t P s hd p st) ∧ getV n K (pushS n K t P s hd p st) = pushG (nxH t) (pvH t) hd p (getV n K st) := by
  obtain ⟨a1, a2⟩ := hV.get (hd : Int)
  obtain ⟨b1, b2⟩ := h.putN a1 hp (getV n K st hd)
  obtain ⟨c1, c2⟩ := h.putP b1 hp 0
  have hc : push1 n K t P s hd p st = putS n (putS n (getS n K st hd) (nxH t p) (getV n K st hd)) (pvH t p) 0 := by unfold push1; rw [h.nx hp, h.pv hp]
  rw [← hc] at c1 c2
  rw [b2, a2] at c2
  have hc2 : getV n K (push1 n K t P s hd p st) = push1G (nxH t) (pvH t) hd p (getV n K st) := c2
  have hd2 : VW n K (push2 n K t P s hd p st) ∧ getV n K (push2 n K t P s hd p st) = if getV n K st hd = 0 then push1G (nxH t) (pvH t) hd p (getV n K st) else upd (push1G (nxH t) (pvH t) hd p (getV n K st)) (pvH t (getV n K st hd - 1)) (p + 1) := by
    unfold push2
    by_cases hz : getV n K st hd = 0
    · rw [if_pos hz, if_pos hz]
      exact ⟨c1, hc2⟩
    · rw [if_neg hz, if_neg hz, h.pvl hz (by omega)]
      obtain ⟨d1, d2⟩ := h.putP c1 (show getV n K st hd - 1 < P by omega) (p + 1)
      rw [hc2] at d2
      exact ⟨d1, d2⟩
  obtain ⟨e1, e2⟩ := h.putH hd2.1 hh (p + 1)
  rw [hd2.2] at e2
  exact ⟨e1, e2⟩

theorem Fit.pull (h : Fit t P s n) (hh : hd < 30) (hV : VW n K st) (hp : p < P) (hx : getV n K st (nxH t p) = 0 ∨ getV n K st (nxH t p) - 1 < P) (hy : getV n K st (pvH t p) = 0 ∨ getV n K st (pvH t p) - 1 < P) :
    VW n K (pullS n K t P s hd p st) ∧ getV n K (pullS n K t P s hd p st) = pullG (nxH t) (pvH t) hd p (getV n K st) := by
  obtain ⟨a1, a2⟩ := hV.get (nxH t p)
  obtain ⟨b1, b2⟩ := a1.get (pvH t p)
  have eN : pullN n K t P s p st = getV n K st (nxH t p) := by unfold pullN; rw [h.nx hp]
  have eB : pullB n K t P s p st = getV n K st (pvH t p) := by unfold pullB; rw [h.nx hp, h.pv hp, a2]
  have e0 : pull0 n K t P s p st = getS n K (getS n K st (nxH t p)) (pvH t p) := by unfold pull0; rw [h.nx hp, h.pv hp]
  rw [← e0] at b1 b2
  rw [a2] at b2
  have c : VW n K (pull1 n K t P s hd p st) ∧ getV n K (pull1 n K t P s hd p st) = pull1G (nxH t) (pvH t) hd p (getV n K st) := by
    unfold pull1 pull1G
    rw [eB, eN]
    by_cases hz : getV n K st (pvH t p) = 0
    · rw [if_pos hz, if_pos hz]
      obtain ⟨d1, d2⟩ := h.putH b1 hh (getV n K st (nxH t p))
      rw [b2] at d2
      exact ⟨d1, d2⟩
    · rw [if_neg hz, if_neg hz, h.nxl hz (by omega)]
      obtain ⟨d1, d2⟩ := h.putN b1 (show getV n K st (pvH t p) - 1 < P by omega) (getV n K st (nxH t p))
      rw [b2] at d2
      exact ⟨d1, d2⟩
  have d : VW n K (pull2 n K t P s hd p st) ∧ getV n K (pull2 n K t P s hd p st) = pull2G (nxH t) (pvH t) hd p (getV n K st) := by
    unfold pull2 pull2G
    rw [eB, eN]
    by_cases hz : getV n K st (nxH t p) = 0
    · rw [if_pos hz, if_pos hz]
      exact c
    · rw [if_neg hz, if_neg hz, h.pvl hz (by omega)]
      obtain ⟨d1, d2⟩ := h.putP c.1 (show getV n K st (nxH t p) - 1 < P by omega) (getV n K st (pvH t p))
      rw [c.2] at d2
      exact ⟨d1, d2⟩
  unfold pullS pullG
  rw [h.nx hp, h.pv hp]
  obtain ⟨f1, f2⟩ := h.putN d.1 hp 0
  obtain ⟨g1, g2⟩ := h.putP f1 hp 0
  rw [f2, d.2] at g2
  exact ⟨g1, g2⟩

def HasL (t P hd n : Nat) (K : Nat → Option Nat) (st : Vst) (l : List Nat) : Prop := IsL P (nxH t) (pvH t) hd (getV n K st) l
theorem HasL.lt (h : HasL t P hd n K st l) : ∀ u ∈ l, u < P := by obtain ⟨⟨a, hs⟩, _⟩ := h; exact hs.lt
theorem HasL.len (h : HasL t P hd n K st l) : l.length ≤ P := nodup_few P l h.lt h.nodup
theorem walkF_seg (h : Fit t P s n) : ∀ (l : List Nat) (m x a a' : Nat) (st : Vst), VW n K st → l.length ≤ m → Seg P (nxH t) (pvH t) (getV n K st) a x l a' 0 →
    (walkF n K t P s m x st).1 = l ∧ VW n K (walkF n K t P s m x st).2 ∧ getV n K (walkF n K t P s m x st).2 = getV n K st
  | [], m, x, a, a', st, hV, hm, hs => by
    have hx : x = 0 := hs.2
    subst hx
    rw [walkF_end n K t P s (by omega)]
    exact ⟨rfl, hV, rfl⟩
  | p :: r, m, x, a, a', st, hV, hm, hs => by
    obtain ⟨⟨rfl, hp, _⟩, hr⟩ := hs
    obtain ⟨m', rfl⟩ : ∃ m', m = m' + 1 := ⟨m - 1, by simp at hm; omega⟩
    have hc : pageI (t : Int) (P : Int) (s : Int) (((p + 1 : Nat) : Int) - 1) 2 = nxH t p := by rw [h.nxl (by omega) (by omega)]; rfl
    rw [walkF_step n K t P s ⟨by omega, by omega⟩, hc]
    obtain ⟨g1, g2⟩ := hV.get (nxH t p)
    obtain ⟨i1, i2, i3⟩ := walkF_seg h r m' (getV n K st (nxH t p)) (p + 1) a' (getS n K st (nxH t p)) g1 (by simp at hm; omega) (by rw [g2]; exact hr)
    exact ⟨by rw [i1]; simp, i2, i3.trans g2⟩
theorem HasL.walk (h : HasL t P hd n K st l) (hf : Fit t P s n) (hV : VW n K st) : walkL n K t P s hd st = l ∧ VW n K (walkS n K t P s hd st) ∧ getV n K (walkS n K t P s hd st) = getV n K st := by
  obtain ⟨⟨a, hs⟩, hd'⟩ := id h
  obtain ⟨g1, g2⟩ := hV.get (hd : Int)
  have := walkF_seg hf l (P : Int).toNat (getV n K st hd) 0 a (getS n K st hd) g1 (by rw [Int.toNat_natCast]; exact h.len) (by rw [g2]; exact hs)
  exact ⟨this.1, this.2.1, this.2.2.trans g2⟩
theorem HasL.push (h : HasL t P hd n K st l) (hf : Fit t P s n) (hh : hd < 30) (hV : VW n K st) (hp : p < P) (hn : ¬ p ∈ l) :
    HasL t P hd n K (pushS n K t P s hd p st) (p :: l) ∧ VW n K (pushS n K t P s hd p st) := by
  have h1 : getV n K st hd = 0 ∨ getV n K st hd - 1 < P := by
    obtain ⟨⟨a, hs⟩, _⟩ := h
    have := hs.first
    cases l with
    | nil => exact .inl this
    | cons u r => right; have h2 := hs.lt u (by simp); have h3 : getV n K st hd = u + 1 := this; omega
  obtain ⟨h2, h3⟩ := hf.push hh hV hp h1
  refine ⟨?_, h2⟩
  unfold HasL
  rw [h3]
  exact IsL.push (geo P t hd hh) h hp hn
theorem HasL.links (h : HasL t P hd n K st (l1 ++ p :: l2)) : p < P ∧ (getV n K st (nxH t p) = 0 ∨ getV n K st (nxH t p) - 1 < P) ∧ (getV n K st (pvH t p) = 0 ∨ getV n K st (pvH t p) - 1 < P) := by
  have hlt := h.lt
  obtain ⟨⟨a, hs⟩, _⟩ := h
  obtain ⟨b, y, s1, ⟨s2, s3, s4⟩, s5⟩ := Seg.append.1 hs
  refine ⟨s3, ?_, ?_⟩
  · have := s5.first
    cases l2 with
    | nil => exact .inl this
    | cons u r => right; have h2 := hlt u (by simp); have h3 : getV n K st (nxH t p) = u + 1 := this; omega
  · rw [s4]
    rcases List.eq_nil_or_concat l1 with rfl | ⟨m1, u, rfl⟩
    · exact .inl s1.1.symm
    · rw [List.concat_eq_append] at s1 hlt
      right
      have h2 := hlt u (by simp)
      have h3 := s1.last.1
      omega
theorem HasL.pull (h : HasL t P hd n K st (l1 ++ p :: l2)) (hf : Fit t P s n) (hh : hd < 30) (hV : VW n K st) :
    HasL t P hd n K (pullS n K t P s hd p st) (l1 ++ l2) ∧ VW n K (pullS n K t P s hd p st) := by
  obtain ⟨hp, hx, hy⟩ := h.links
  obtain ⟨h2, h3⟩ := hf.pull hh hV hp hx hy
  refine ⟨?_, h2⟩
  unfold HasL
  rw [h3]
  exact IsL.pull (geo P t hd hh) h
theorem HasL.other {hd2 : Nat} {l' : List Nat} (h : HasL t P hd n K st (l1 ++ p :: l2)) (hf : Fit t P s n) (hh : hd < 30) (hV : VW n K st) (h2 : HasL t P hd2 n K st l') (hne : hd2 ≠ hd) (hh2 : hd2 < 30) (hap : ∀ u ∈ l', ¬ u ∈ l1 ++ p :: l2) :
    HasL t P hd2 n K (pullS n K t P s hd p st) l' := by
  obtain ⟨hp, hx, hy⟩ := h.links
  obtain ⟨_, h3⟩ := hf.pull hh hV hp hx hy
  have G := geo P t hd hh
  have G2 := geo P t hd2 hh2
  obtain ⟨⟨a, hs⟩, hnd⟩ := h
  obtain ⟨⟨a2, hs2⟩, hnd2⟩ := h2
  unfold HasL
  rw [h3]
  refine ⟨⟨a2, ?_⟩, hnd2⟩
  rw [pull_far G hnd hs (c := (hd2 : Int)) (by omega) (fun u _ => ⟨G2.hn u, G2.hp u⟩)]
  refine hs2.frame (fun u hu => ⟨?_, ?_⟩)
  · refine pull_far G hnd hs (G.hn u).symm (fun v hv => ⟨fun e => hap u hu (by rw [G.nn _ _ e]; exact hv), G.np _ _⟩)
  · refine pull_far G hnd hs (G.hp u).symm (fun v hv => ⟨fun e => G.np _ _ e.symm, fun e => hap u hu (by rw [G.pp _ _ e]; exact hv)⟩)
end

namespace AuH
variable {H : AuH}
theorem chain_full {head : Nat} : ∀ (r : Nat) (l : List Nat) (q a : Nat), H.Path head l q a → H.chain head r q a → ∃ l' a', H.Path head l' 0 a'
  | 0, l, q, a, hp, hc => by
    have : q = 0 := hc
    subst this
    exact ⟨l, a, hp⟩
  | r + 1, l, q, a, hp, hc => by
    obtain ⟨⟨h1, h2, h3, h4⟩, h5⟩ := hc
    exact chain_full r _ _ _ (.snoc hp h1 h2 h4) h5
theorem listOk_path {head : Nat} (h : H.ListOk head) : ∃ l a, H.Path head l 0 a := chain_full _ _ _ _ .nil h
end AuH
section
variable {H : AuH} {n c hd : Nat} {K : Nat → Option Nat} {l : List Nat}
theorem HeapV.fit (HV : HeapV H n c) : Fit H.t H.p H.s n := ⟨HV.right, HV.len⟩
theorem path_seg (hK : ∀ i, i < n → K i = some (H.V i)) (hn : n = 30 + 4 * H.t + 6 * H.p) {g : Int → Nat} (hg : ∀ i : Nat, i < n → g i = H.V i) (hh : hd < 30) {q a : Nat} (h : H.Path hd l q a) : Seg H.p (nxH H.t) (pvH H.t) g 0 (g hd) l a q := by
  induction h with
  | nil => exact ⟨rfl, hg hd (by omega)⟩
  | snoc h h1 h2 h3 ih =>
    rename_i l q a
    refine Seg.append.2 ⟨a, q, ih, ⟨by omega, by omega, ?_⟩, by omega, ?_⟩
    · unfold pvH
      rw [hg _ (by omega), ← h3]
      rfl
    · unfold nxH
      rw [hg _ (by omega)]
      rfl
theorem cntIn_nodup : ∀ {l : List Nat}, (∀ y, AuH.cntIn l y ≤ 1) → l.Nodup
  | [], _ => List.nodup_nil
  | a :: r, h => by
    have e : ∀ y, AuH.cntIn (a :: r) y = (if a = y then 1 else 0) + AuH.cntIn r y := fun y => by
      unfold AuH.cntIn
      rw [List.filter_cons]
      by_cases h : a = y
      · simp [h]; omega
      · simp [h]
    refine List.nodup_cons.2 ⟨fun hm => ?_, cntIn_nodup (fun y => by have := h y; rw [e] at this; omega)⟩
    have h1 := h a
    rw [e, if_pos rfl] at h1
    have := AuH.cntIn_pos hm
    omega
end
end
section
namespace AuH
def re (H : AuH) (V : Nat → Nat) : AuH := ⟨H.t, H.p, H.s, V⟩
structure Twin (H : AuH) (V : Nat → Nat) : Prop where
  cel : ∀ q b, b < 6 → b ≠ 2 → b ≠ 3 → (H.re V).cel q b = H.cel q b
  v0 : V 0 = H.V 0
  v1 : V 1 = H.V 1
  root : ∀ i, i < 8 → V (22 + i) = H.V (22 + i)
variable {H : AuH} {V : Nat → Nat}
namespace Twin
theorem c0 (T : H.Twin V) (q : Nat) : (H.re V).cel q 0 = H.cel q 0 := T.cel q 0 (by omega) (by omega) (by omega)
theorem c1 (T : H.Twin V) (q : Nat) : (H.re V).cel q 1 = H.cel q 1 := T.cel q 1 (by omega) (by omega) (by omega)
theorem c4 (T : H.Twin V) (q : Nat) : (H.re V).cel q 4 = H.cel q 4 := T.cel q 4 (by omega) (by omega) (by omega)
theorem c5 (T : H.Twin V) (q : Nat) : (H.re V).cel q 5 = H.cel q 5 := T.cel q 5 (by omega) (by omega) (by omega)
theorem K (T : H.Twin V) (q : Nat) : (H.re V).K q = H.K q := by unfold AuH.K; rw [T.c0]
theorem L (T : H.Twin V) (q : Nat) : (H.re V).L q = H.L q := by unfold AuH.L; rw [T.c0]
theorem Cl (T : H.Twin V) (q : Nat) : (H.re V).Cl q = H.Cl q := by unfold AuH.Cl; rw [T.c0]
theorem ln (T : H.Twin V) (q : Nat) : (H.re V).ln q = H.ln q := by unfold AuH.ln; rw [T.L]
theorem can (T : H.Twin V) (q : Nat) : (H.re V).can q = H.can q := by unfold AuH.can; rw [T.K, T.ln]; rfl
theorem nx (T : H.Twin V) (q : Nat) : (H.re V).nx q = H.nx q := by unfold AuH.nx; rw [T.ln]
theorem at_to (T : H.Twin V) {q : Nat} (h : H.At q) : (H.re V).At q := by
  induction h with
  | zero => exact .zero
  | step h hc ih =>
    rename_i q
    have := At.step ih (by rw [T.can]; exact hc)
    rwa [T.nx] at this
theorem at_of (T : H.Twin V) {q : Nat} (h : (H.re V).At q) : H.At q := by
  induction h with
  | zero => exact .zero
  | step h hc ih =>
    rename_i q
    rw [T.can] at hc
    have := At.step ih hc
    rwa [T.nx]
theorem tiled (T : H.Twin V) (h : H.Tiled) : (H.re V).Tiled := by
  refine ⟨T.at_to h.1, fun a ha hc hp q h1 h2 => ?_⟩
  rw [T.c0]
  rw [T.can] at hc
  rw [T.nx] at h2
  exact h.2 a (T.at_of ha) hc hp q h1 h2
theorem r3 (T : H.Twin V) (h : H.R3) : (H.re V).R3 := fun q hq hk => by
  rw [T.K] at hk
  obtain ⟨h1, h2⟩ := h q hq hk
  refine ⟨fun r hr h3 => ?_, ?_⟩
  · rw [T.ln] at h3
    rw [T.c1]
    exact h1 r hr h3
  · rw [T.ln, T.c1]
    exact h2
theorem r4 (T : H.Twin V) (h : H.R4) : (H.re V).R4 := fun q ha hq hk hn => by
  rw [T.K] at hk
  rw [T.nx] at hn ⊢
  rw [T.K]
  exact h q (T.at_of ha) hq hk hn
theorem r5 (T : H.Twin V) (h : H.R5) : (H.re V).R5 := fun q hq => by
  have h1 := h q hq
  unfold Slot5 at h1 ⊢
  rw [T.K, T.c5, T.c4, T.Cl]
  exact h1
theorem tgt (T : H.Twin V) (q : Nat) : (H.re V).tgt q = H.tgt q := by unfold AuH.tgt; rw [T.K, T.ln, T.Cl, T.c5]
theorem isF (T : H.Twin V) (hd : Int) : (H.re V).isF hd = H.isF hd := by funext q; unfold AuH.isF; rw [T.tgt]
theorem cnt (T : H.Twin V) (hd : Int) (x : Nat) : (H.re V).cnt hd x = H.cnt hd x := by unfold AuH.cnt; rw [T.isF]
theorem r9 (T : H.Twin V) (h : H.R9) : (H.re V).R9 := by
  have e1 : (H.re V).freeF = H.freeF := by funext q; unfold freeF; rw [T.K, T.ln]
  have e2 : (H.re V).liveF = H.liveF := by funext q; unfold liveF; rw [T.K, T.c4]
  unfold R9
  rw [e1, e2]
  exact ⟨T.v0.trans h.1, T.v1.trans h.2⟩
theorem liveAt (T : H.Twin V) (a : Int) : (H.re V).LiveAt a ↔ H.LiveAt a := by
  unfold LiveAt
  simp only [T.K, T.Cl, T.c4]
  exact Iff.rfl
theorem r10 (T : H.Twin V) (h : H.R10) : (H.re V).R10 := fun i hi hv => by
  have e : (H.re V).V (22 + i) = H.V (22 + i) := T.root i hi
  rw [e] at hv ⊢
  exact (T.liveAt _).2 (h i hi hv)
theorem partsAt (T : H.Twin V) : (H.re V).partsAt = H.partsAt := by
  funext q
  unfold AuH.partsAt slotsTo slack slotPart sl zs first pg
  simp only [T.K, T.ln, T.Cl, T.c4, T.c5]
  rfl
theorem parts (T : H.Twin V) : (H.re V).parts = H.parts := by unfold AuH.parts; rw [T.partsAt]; rfl
theorem told (T : H.Twin V) (h : ∀ i, i < 10 → H.rule i) (hl : ∀ hd, 2 ≤ hd → hd ≤ 21 → (H.re V).ListOk hd) (h8 : ∀ q, q < H.p → H.tgt q = -1 → (H.re V).cel q 2 = H.cel q 2 ∧ (H.re V).cel q 3 = H.cel q 3) : ∀ i, i < 10 → (H.re V).rule i
  | 0, _ => trivial
  | 1, _ => T.tiled (h 1 (by omega))
  | 2, _ => T.r3 (h 2 (by omega))
  | 3, _ => T.r4 (h 3 (by omega))
  | 4, _ => T.r5 (h 4 (by omega))
  | 5, _ => fun k hk => hl (2 + k) (by omega) (by omega)
  | 6, _ => fun k hk => hl (13 + k) (by omega) (by omega)
  | 7, _ => fun q hq ht => by
    rw [T.tgt] at ht
    have h1 : H.R8 := h 7 (by omega)
    rw [(h8 q hq ht).1, (h8 q hq ht).2]
    exact h1 q hq ht
  | 8, _ => T.r9 (h 8 (by omega))
  | 9, _ => T.r10 (h 9 (by omega))
  | i + 10, hi => absurd hi (by omega)
end Twin
end AuH

section
variable {H : AuH} {hd : Nat} {g : Int → Nat} {l : List Nat}
theorem seg_path (hg : ∀ i : Nat, i < 30 + 4 * H.t + 6 * H.p → g i = H.V i) (hh : hd < 30) : ∀ (l : List Nat) {a x : Nat}, Seg H.p (nxH H.t) (pvH H.t) g 0 (g hd) l a x → H.Path hd l x a := by
  intro l
  induction hn : l.length generalizing l with
  | zero =>
    intro a x h
    have : l = [] := List.eq_nil_of_length_eq_zero hn
    subst this
    obtain ⟨rfl, rfl⟩ := h
    rw [hg hd (by omega)]
    exact .nil
  | succ n ih =>
    intro a x h
    rcases List.eq_nil_or_concat l with rfl | ⟨m, p, rfl⟩
    · simp at hn
    · rw [List.concat_eq_append] at h hn ⊢
      obtain ⟨b, y, s1, ⟨rfl, s3, s4⟩, s5, s6⟩ := Seg.append.1 h
      have h1 := ih m (by simpa using hn) s1
      have h2 := AuH.Path.snoc h1 (by omega) (by omega) (by
        show H.cel (p + 1 - 1) 3 = b
        rw [Nat.add_sub_cancel, ← s4]
        unfold pvH
        rw [hg _ (by omega)]
        rfl)
      rw [Nat.add_sub_cancel] at h2
      subst s5
      have e : H.cel p 2 = x := by
        rw [← s6]
        unfold nxH
        rw [hg _ (by omega)]
        rfl
      rw [e] at h2
      exact h2
theorem listOk_of (hg : ∀ i : Nat, i < 30 + 4 * H.t + 6 * H.p → g i = H.V i) (hh : hd < 30) (hl : IsL H.p (nxH H.t) (pvH H.t) hd g l) (ht : ∀ y ∈ l, H.tgt y = hd) (hc : l.length = H.cnt hd H.p) : H.ListOk hd := by
  obtain ⟨⟨a, hs⟩, _⟩ := hl
  have := AuH.path_chain (seg_path hg hh l hs) (m := 0) ht rfl
  rw [Nat.add_zero, hc] at this
  exact this
theorem path_len {a : Nat} (hp : H.Path hd l 0 a) (hk : H.ListOk hd) : l.length = H.cnt hd H.p ∧ ∀ y ∈ l, H.tgt y = hd := by
  obtain ⟨h1, h2, h3⟩ := AuH.chain_path hk hp
  refine ⟨?_, h3⟩
  rcases hr : H.cnt hd H.p - l.length with _ | r
  · omega
  · rw [hr] at h2
    have := h2.1.1
    omega
end
end
section
def curV (n : Nat) (g : Int → Nat) (V : Nat → Nat) : Nat → Nat := fun i => if i < n then g (i : Int) else V i
theorem curV_in {n : Nat} {g : Int → Nat} {V : Nat → Nat} {i : Nat} (h : i < n) : curV n g V i = g i := if_pos h
section
variable {H : AuH} {n c hd : Nat} {g0 g' : Int → Nat} {l l' : List Nat}
def ListCell (t hd : Nat) (l : List Nat) (c : Int) : Prop := c = hd ∨ ∃ u ∈ l, c = nxH t u ∨ c = pvH t u
theorem path_mem {a q : Nat} (hp : H.Path hd l 0 a) (hk : H.ListOk hd) (hq : q < H.p) (ht : H.tgt q = hd) : q ∈ l := by
  have h1 := (AuH.listOk_iff hp).1 hk q hq
  unfold AuH.isF at h1
  rw [if_pos ht] at h1
  rcases Nat.eq_zero_or_pos (AuH.cntIn l q) with h2 | h2
  · omega
  · unfold AuH.cntIn at h2
    obtain ⟨x, hx⟩ := List.exists_mem_of_length_pos h2
    rw [List.mem_filter] at hx
    have : x = q := by simpa using hx.2
    subst this
    exact hx.1
end

section
variable {P hd t : Nat} {g : Int → Nat} {l l1 l2 : List Nat} {p a' : Nat}
theorem push_far (hh : hd < 30) (hs : Seg P (nxH t) (pvH t) g 0 (g hd) l a' 0) {c : Int} (hc : ¬ ListCell t hd (p :: l) c) : pushG (nxH t) (pvH t) hd p g c = g c := by
  have c1 : c ≠ hd := fun e => hc (.inl e)
  have c2 : c ≠ nxH t p := fun e => hc (.inr ⟨p, by simp, .inl e⟩)
  have c3 : c ≠ pvH t p := fun e => hc (.inr ⟨p, by simp, .inr e⟩)
  have hf := hs.first
  unfold pushG
  rw [upd_other _ _ c1]
  have b1 : push1G (nxH t) (pvH t) hd p g c = g c := by unfold push1G; rw [upd_other _ _ c3, upd_other _ _ c2]
  split
  · exact b1
  · rename_i hz
    have : c ≠ pvH t (g hd - 1) := by
      cases l with
      | nil => exact absurd hf hz
      | cons u r =>
        intro e
        refine hc (.inr ⟨u, by simp, .inr ?_⟩)
        rw [e, hf]
        rfl
    rw [upd_other _ _ this, b1]
theorem pull_far' (hh : hd < 30) (hl : (l1 ++ p :: l2).Nodup) (hs : Seg P (nxH t) (pvH t) g 0 (g hd) (l1 ++ p :: l2) a' 0) {c : Int} (hc : ¬ ListCell t hd (l1 ++ p :: l2) c) : pullG (nxH t) (pvH t) hd p g c = g c :=
  pull_far (geo P t hd hh) hl hs (fun e => hc (.inl e)) (fun u hu => ⟨fun e => hc (.inr ⟨u, hu, .inl e⟩), fun e => hc (.inr ⟨u, hu, .inr e⟩)⟩)
end
end
section
namespace AuH
structure Spans (H : AuH) : Prop where
  pos : 0 < H.p
  zero : H.K 0 ≠ 0
  fit : ∀ q, q < H.p → H.K q ≠ 0 → H.nx q ≤ H.p
  next : ∀ q, q < H.p → H.K q ≠ 0 → H.nx q < H.p → H.K (H.nx q) ≠ 0
  inside : ∀ q r, q < H.p → H.K q ≠ 0 → q < r → r < H.nx q → H.cel r 0 = 0
  none : ∀ q, q < H.p → H.K q = 0 → H.cel q 0 = 0
variable {H : AuH}
theorem Spans.at_ (h : H.Spans) {q : Nat} (ha : H.At q) : q = H.p ∨ (q < H.p ∧ H.K q ≠ 0) := by
  induction ha with
  | zero => exact .inr ⟨h.pos, h.zero⟩
  | step ha hc ih =>
    rename_i q
    have hcan := (H.can_iff q).1 hc
    rcases Nat.lt_or_ge (H.nx q) H.p with h1 | h1
    · exact .inr ⟨h1, h.next q hcan.1 hcan.2.1 h1⟩
    · have := h.fit q hcan.1 hcan.2.1
      exact .inl (by omega)
theorem Spans.can (h : H.Spans) {q : Nat} (hq : q < H.p) (hk : H.K q ≠ 0) : H.can q = true := (H.can_iff q).2 ⟨hq, hk, h.fit q hq hk⟩
theorem Spans.reach (h : H.Spans) : ∀ n x, x ≤ n → x ≤ H.p → (x = H.p ∨ H.K x ≠ 0) → H.At x := by
  intro n
  induction n with
  | zero => intro x hx _ _; have : x = 0 := by omega
            subst this; exact .zero
  | succ n ih =>
    intro x hx hxp hk
    rcases Nat.lt_or_ge x (n + 1) with h1 | h1
    · exact ih x (by omega) hxp hk
    · have hx0 : x = n + 1 := by omega
      subst hx0
      -- the last page below x with a span's info
      have hlast : ∀ m, m ≤ n + 1 → ∃ a, a < n + 1 ∧ H.K a ≠ 0 ∧ (∀ r, a < r → r < n + 1 → r ≤ m → H.K r = 0) := by
        intro m
        induction m with
        | zero => intro _; exact ⟨0, by omega, h.zero, fun r h1 h2 h3 => by omega⟩
        | succ m ihm =>
          intro hm
          obtain ⟨a, a1, a2, a3⟩ := ihm (by omega)
          by_cases hkm : H.K (m + 1) ≠ 0 ∧ m + 1 < n + 1
          · exact ⟨m + 1, hkm.2, hkm.1, fun r h1 h2 h3 => by omega⟩
          · refine ⟨a, a1, a2, fun r h1 h2 h3 => ?_⟩
            rcases Nat.lt_or_ge r (m + 1) with h4 | h4
            · exact a3 r h1 h2 (by omega)
            · have : r = m + 1 := by omega
              subst this
              by_cases h5 : H.K (m + 1) = 0
              · exact h5
              · exact absurd ⟨h5, h2⟩ hkm
      obtain ⟨a, a1, a2, a3⟩ := hlast (n + 1) (Nat.le_refl _)
      have hap : a < H.p := by omega
      have haa := ih a (by omega) (by omega) (.inr a2)
      have hgt := (H.nx_gt (h.can hap a2)).1
      have hfit := h.fit a hap a2
      have e : H.nx a = n + 1 := by
        rcases Nat.lt_trichotomy (H.nx a) (n + 1) with h2 | h2 | h2
        · have h3 := h.next a hap a2 (by omega)
          exact absurd (a3 _ hgt h2 (by omega)) h3
        · exact h2
        · have h3 := h.inside a (n + 1) hap a2 (by omega) h2
          have h4 := (H.K_zero (n + 1) h3).1
          rcases hk with h5 | h5
          · omega
          · exact absurd h4 h5
      have := At.step haa (h.can hap a2)
      rwa [e] at this
theorem Spans.tiled (h : H.Spans) : H.Tiled := by
  refine ⟨h.reach H.p H.p (Nat.le_refl _) (Nat.le_refl _) (.inl rfl), fun a ha hc hp q h1 h2 => ?_⟩
  have hcan := (H.can_iff a).1 hc
  exact h.inside a q hcan.1 hcan.2.1 h1 h2
theorem Tiled.spans (h : H.Tiled) (hp : 0 < H.p) : H.Spans where
  pos := hp
  zero := h.at_K .zero hp
  fit q hq hk := ((H.can_iff q).1 (h.start hq hk).2).2.2
  next q hq hk hn := by
    have hs := h.start hq hk
    exact h.at_K (.step hs.1 hs.2) hn
  inside q r hq hk h1 h2 := by
    have hs := h.start hq hk
    exact h.2 q hs.1 hs.2 hq r h1 h2
  none q hq hk := by
    obtain ⟨a, a1, a2, a3, a4, a5⟩ := h.cover hq
    rcases Nat.eq_or_lt_of_le a4 with h6 | h6
    · subst h6; exact absurd hk a3
    · have hs := h.start a2 a3
      exact h.2 a hs.1 hs.2 a2 q h6 a5
structure Ok (H : AuH) (L : Nat → List Nat) : Prop where
  spans : H.Spans
  feet : H.R3
  apart : ∀ q, q < H.p → H.K q = 1 → H.nx q < H.p → H.K (H.nx q) ≠ 1
  slots : H.R5
  list : ∀ hd : Nat, 2 ≤ hd → hd ≤ 21 → IsL H.p (nxH H.t) (pvH H.t) hd (fun c => H.V c.toNat) (L hd)
  mem : ∀ hd : Nat, 2 ≤ hd → hd ≤ 21 → ∀ y, y ∈ L hd ↔ y < H.p ∧ H.tgt y = hd
  loose : H.R8
  counts : H.R9
  roots : H.R10
theorem nodup_len {P : Nat → Bool} : ∀ (n : Nat) (l : List Nat), l.Nodup → (∀ y, y ∈ l ↔ y < n ∧ P y = true) → l.length = sumTo (fun q => if P q = true then 1 else 0) n
  | 0, l, hl, h => by
    cases l with
    | nil => rfl
    | cons a r => have := (h a).1 (by simp); omega
  | n + 1, l, hl, h => by
    show l.length = sumTo (fun q => if P q = true then 1 else 0) n + (if P n = true then 1 else 0)
    by_cases hn : P n = true
    · have hm : n ∈ l := (h n).2 ⟨by omega, hn⟩
      have h1 := nodup_len n (l.erase n) (hl.erase n) (fun y => by
        rw [hl.mem_erase_iff, h y]
        constructor
        · rintro ⟨h2, h3, h4⟩; exact ⟨by omega, h4⟩
        · rintro ⟨h2, h3⟩; exact ⟨by omega, by omega, h3⟩)
      rw [List.length_erase_of_mem hm] at h1
      have : 0 < l.length := List.length_pos_of_mem hm
      rw [if_pos hn]
      omega
    · rw [if_neg hn, Nat.add_zero]
      exact nodup_len n l hl (fun y => by
        rw [h y]
        constructor
        · rintro ⟨h3, h4⟩
          refine ⟨?_, h4⟩
          rcases Nat.lt_or_ge y n with h5 | h5
          · exact h5
          · have : y = n := by omega
            subst this
            exact absurd h4 hn
        · rintro ⟨h3, h4⟩; exact ⟨by omega, h4⟩)
theorem Ok.rules {L : Nat → List Nat} (h : H.Ok L) : ∀ i, i < 10 → H.rule i := by
  have hok : ∀ hd, 2 ≤ hd → hd ≤ 21 → H.ListOk hd := fun hd h2 h21 => by
    have hl := h.list hd h2 h21
    have hm := h.mem hd h2 h21
    refine listOk_of (g := fun c => H.V c.toNat) (fun i _ => by simp) (by omega) hl (fun y hy => ((hm y).1 hy).2) ?_
    have := nodup_len (P := fun q => decide (H.tgt q = (hd : Int))) H.p (L hd) hl.nodup (fun y => by rw [hm y, decide_eq_true_iff])
    rw [this]
    unfold cnt
    refine sumTo_congr _ (fun q _ => ?_)
    unfold isF
    simp
  intro i hi
  match i, hi with
  | 0, _ => trivial
  | 1, _ => exact h.spans.tiled
  | 2, _ => exact h.feet
  | 3, _ => exact fun q ha hq hk hn => h.apart q hq hk hn
  | 4, _ => exact h.slots
  | 5, _ => exact fun k hk => hok (2 + k) (by omega) (by omega)
  | 6, _ => exact fun k hk => hok (13 + k) (by omega) (by omega)
  | 7, _ => exact h.loose
  | 8, _ => exact h.counts
  | 9, _ => exact h.roots
  | i + 10, hi => omega
theorem okL_of (hp : 0 < H.p) (hr : ∀ i, i < 10 → H.rule i) : ∃ L, H.Ok L := by
  have hti : H.Tiled := hr 1 (by omega)
  have hok : ∀ h, 2 ≤ h → h ≤ 21 → H.ListOk h := fun h a1 a2 => by
    rcases Nat.lt_or_ge h 13 with h1 | h1
    · have h5 : ∀ k, k < 11 → H.ListOk (2 + k) := hr 5 (by omega)
      have := h5 (h - 2) (by omega)
      rwa [show 2 + (h - 2) = h by omega] at this
    · have h6 : ∀ k, k < 9 → H.ListOk (13 + k) := hr 6 (by omega)
      have := h6 (h - 13) (by omega)
      rwa [show 13 + (h - 13) = h by omega] at this
  have hex : ∀ j, ∃ l : List Nat, 2 ≤ j → j ≤ 21 → ∃ a, H.Path j l 0 a := fun j => by
    by_cases hj : 2 ≤ j ∧ j ≤ 21
    · obtain ⟨l, a, h⟩ := AuH.listOk_path (hok j hj.1 hj.2)
      exact ⟨l, fun _ _ => ⟨a, h⟩⟩
    · exact ⟨[], fun h1 h2 => absurd ⟨h1, h2⟩ hj⟩
  refine ⟨fun j => (hex j).choose, hti.spans hp, hr 2 (by omega), fun q hq hk hn => ?_, hr 4 (by omega), fun hd h2 h21 => ?_, fun hd h2 h21 y => ?_, hr 7 (by omega), hr 8 (by omega), hr 9 (by omega)⟩
  · exact (show H.R4 from hr 3 (by omega)) q (hti.start hq (by omega)).1 hq hk hn
  · obtain ⟨a, hpa⟩ := (hex hd).choose_spec h2 h21
    exact ⟨⟨a, path_seg (n := 30 + 4 * H.t + 6 * H.p) (K := fun i => some (H.V i)) (fun i _ => rfl) rfl (fun i _ => by simp) (by omega) hpa⟩, cntIn_nodup hpa.once.2.2.2⟩
  · obtain ⟨a, hpa⟩ := (hex hd).choose_spec h2 h21
    exact ⟨fun hy => ⟨hpa.lt y hy, (path_len hpa (hok hd h2 h21)).2 y hy⟩, fun hy => path_mem hpa (hok hd h2 h21) hy.1 hy.2⟩
end AuH
end
section
namespace AuH
structure Whole (H : AuH) (a b : Nat) : Prop where
  lt : a < b
  le : b ≤ H.p
  first : H.K a ≠ 0
  last : b < H.p → H.K b ≠ 0
variable {H : AuH} {V : Nat → Nat} {a b : Nat}
theorem Spans.ahead (h : H.Spans) {q x : Nat} (hx : H.K x ≠ 0) (hq : q < x) (hxp : x ≤ H.p) (hk : H.K q ≠ 0) : H.nx q ≤ x := by
  rcases Nat.lt_or_ge x (H.nx q) with h1 | h1
  · exact absurd (H.K_zero x (h.inside q x (by omega) hk hq h1)).1 hx
  · exact h1
theorem Spans.below (h : H.Spans) (w : H.Whole a b) {q : Nat} (hq : q < b) (hk : H.K q ≠ 0) : H.nx q ≤ b := by
  rcases Nat.eq_or_lt_of_le w.le with h1 | h1
  · rw [h1]; exact h.fit q (by omega) hk
  · exact h.ahead (w.last h1) hq w.le hk
structure Recut (H : AuH) (V : Nat → Nat) (a b : Nat) : Prop where
  whole : H.Whole a b
  out : ∀ q, q < H.p → ¬ (a ≤ q ∧ q < b) → (H.re V).cel q 0 = H.cel q 0
  first : (H.re V).K a ≠ 0
  fit : ∀ q, a ≤ q → q < b → (H.re V).K q ≠ 0 → (H.re V).nx q ≤ b
  next : ∀ q, a ≤ q → q < b → (H.re V).K q ≠ 0 → (H.re V).nx q < b → (H.re V).K ((H.re V).nx q) ≠ 0
  inside : ∀ q r, a ≤ q → q < b → (H.re V).K q ≠ 0 → q < r → r < (H.re V).nx q → (H.re V).cel r 0 = 0
  none : ∀ q, a ≤ q → q < b → (H.re V).K q = 0 → (H.re V).cel q 0 = 0
namespace Recut
theorem K (R : H.Recut V a b) {q : Nat} (hq : q < H.p) (h : ¬ (a ≤ q ∧ q < b)) : (H.re V).K q = H.K q := by unfold AuH.K; rw [R.out q hq h]
theorem ln (R : H.Recut V a b) {q : Nat} (hq : q < H.p) (h : ¬ (a ≤ q ∧ q < b)) : (H.re V).ln q = H.ln q := by unfold AuH.ln AuH.L; rw [R.out q hq h]
theorem Cl (R : H.Recut V a b) {q : Nat} (hq : q < H.p) (h : ¬ (a ≤ q ∧ q < b)) : (H.re V).Cl q = H.Cl q := by unfold AuH.Cl; rw [R.out q hq h]
theorem nx (R : H.Recut V a b) {q : Nat} (hq : q < H.p) (h : ¬ (a ≤ q ∧ q < b)) : (H.re V).nx q = H.nx q := by unfold AuH.nx; rw [R.ln hq h]
theorem ahead (R : H.Recut V a b) (h : H.Spans) {q : Nat} (hq : q < a) (hk : H.K q ≠ 0) : H.nx q ≤ a := h.ahead R.whole.first hq (by have := R.whole.lt; have := R.whole.le; omega) hk
theorem spans (R : H.Recut V a b) (h : H.Spans) : (H.re V).Spans := by
  have w := R.whole
  have hlt := w.lt
  have hle := w.le
  refine ⟨h.pos, ?_, fun q hq hk => ?_, fun q hq hk hn => ?_, fun q r hq hk h1 h2 => ?_, fun q hq hk => ?_⟩
  · by_cases h0 : a ≤ 0 ∧ 0 < b
    · have : a = 0 := by omega
      subst this
      exact R.first
    · rw [R.K h.pos h0]; exact h.zero
  · by_cases hi : a ≤ q ∧ q < b
    · have := R.fit q hi.1 hi.2 hk
      show (H.re V).nx q ≤ H.p
      omega
    · have hq : q < H.p := hq
      rw [R.K hq hi] at hk
      rw [R.nx hq hi]
      exact h.fit q hq hk
  · have hn : (H.re V).nx q < H.p := hn
    have hq : q < H.p := hq
    by_cases hi : a ≤ q ∧ q < b
    · have h1 := R.fit q hi.1 hi.2 hk
      rcases Nat.eq_or_lt_of_le h1 with h2 | h2
      · rw [h2] at hn ⊢
        rw [R.K hn (by omega)]
        exact w.last hn
      · exact R.next q hi.1 hi.2 hk h2
    · rw [R.K hq hi] at hk
      rw [R.nx hq hi] at hn ⊢
      by_cases hj : a ≤ H.nx q ∧ H.nx q < b
      · rcases Nat.lt_or_ge q a with h2 | h2
        · have := R.ahead h h2 hk
          have : H.nx q = a := by omega
          rw [this]
          exact R.first
        · have := (H.nx_gt (h.can hq hk)).1
          omega
      · rw [R.K hn hj]
        exact h.next q hq hk hn
  · have hq : q < H.p := hq
    by_cases hi : a ≤ q ∧ q < b
    · exact R.inside q r hi.1 hi.2 hk h1 h2
    · rw [R.K hq hi] at hk
      rw [R.nx hq hi] at h2
      have hfit := h.fit q hq hk
      have hj : ¬ (a ≤ r ∧ r < b) := by
        rintro ⟨j1, j2⟩
        rcases Nat.lt_or_ge q a with h3 | h3
        · have := R.ahead h h3 hk; omega
        · omega
      rw [R.out r (by omega) hj]
      exact h.inside q r hq hk h1 h2
  · have hq : q < H.p := hq
    by_cases hi : a ≤ q ∧ q < b
    · exact R.none q hi.1 hi.2 hk
    · rw [R.K hq hi] at hk
      rw [R.out q hq hi]
      exact h.none q hq hk
theorem feet (R : H.Recut V a b) (h : H.Spans) (hf : H.R3) (ho : ∀ q, q < H.p → ¬ (a ≤ q ∧ q < b) → (H.re V).cel q 1 = H.cel q 1) (hi : ∀ q, a ≤ q → q < b → (H.re V).K q ≠ 0 → (H.re V).Foot q) : (H.re V).R3 := fun q hq hk => by
  have hq : q < H.p := hq
  have hlt := R.whole.lt
  by_cases hin : a ≤ q ∧ q < b
  · exact hi q hin.1 hin.2 hk
  · rw [R.K hq hin] at hk
    obtain ⟨f1, f2⟩ := hf q hq hk
    have hfit := h.fit q hq hk
    have hpos := H.ln_pos q hk
    have hnx : H.nx q = q + H.ln q := rfl
    have hout : ∀ r, q ≤ r → r < q + H.ln q → ¬ (a ≤ r ∧ r < b) := fun r h1 h2 => by
      rintro ⟨j1, j2⟩
      rcases Nat.lt_or_ge q a with h3 | h3
      · have := R.ahead h h3 hk; omega
      · omega
    unfold Foot
    rw [R.ln hq hin]
    refine ⟨fun r h1 h2 => ?_, ?_⟩
    · rw [ho r (by omega) (hout r h1 (by omega))]
      exact f1 r h1 h2
    · rw [ho _ (by omega) (hout _ (by omega) (by omega))]
      exact f2
theorem apart (R : H.Recut V a b) (h : H.Spans) (ha : ∀ q, q < H.p → H.K q = 1 → H.nx q < H.p → H.K (H.nx q) ≠ 1)
    (h1 : ∀ q, q < a → H.K q = 1 → H.nx q = a → (H.re V).K a ≠ 1) (h2 : ∀ q, a ≤ q → q < b → (H.re V).K q = 1 → (H.re V).nx q < b → (H.re V).K ((H.re V).nx q) ≠ 1)
    (h3 : ∀ q, a ≤ q → q < b → (H.re V).K q = 1 → (H.re V).nx q = b → b < H.p → H.K b ≠ 1) : ∀ q, q < H.p → (H.re V).K q = 1 → (H.re V).nx q < H.p → (H.re V).K ((H.re V).nx q) ≠ 1 := fun q hq hk hn => by
  have hlt := R.whole.lt
  by_cases hi : a ≤ q ∧ q < b
  · have hfit := R.fit q hi.1 hi.2 (by omega)
    rcases Nat.eq_or_lt_of_le hfit with h4 | h4
    · rw [h4] at hn ⊢
      rw [R.K hn (by omega)]
      exact h3 q hi.1 hi.2 hk h4 hn
    · exact h2 q hi.1 hi.2 hk h4
  · rw [R.K hq hi] at hk
    rw [R.nx hq hi] at hn ⊢
    by_cases hj : a ≤ H.nx q ∧ H.nx q < b
    · rcases Nat.lt_or_ge q a with h5 | h5
      · have := R.ahead h h5 (by omega)
        have e : H.nx q = a := by omega
        rw [e]
        exact h1 q h5 hk e
      · have := (H.nx_gt (h.can hq (by omega))).1
        omega
    · rw [R.K hn hj]
      exact ha q hq hk hn
end Recut

theorem sumTo_split (f : Nat → Nat) (a : Nat) : ∀ m, sumTo f (a + m) = sumTo f a + sumTo (fun i => f (a + i)) m
  | 0 => by simp [sumTo]
  | m + 1 => by
    show sumTo f (a + m) + f (a + m) = sumTo f a + (sumTo (fun i => f (a + i)) m + f (a + m))
    rw [sumTo_split f a m]
    omega
theorem sumTo_recut {f g : Nat → Nat} {a m p : Nat} (h : a + m ≤ p) (ho : ∀ q, q < p → ¬ (a ≤ q ∧ q < a + m) → g q = f q) :
    sumTo g p + sumTo (fun i => f (a + i)) m = sumTo f p + sumTo (fun i => g (a + i)) m := by
  obtain ⟨r, rfl⟩ : ∃ r, p = a + m + r := ⟨p - (a + m), by omega⟩
  rw [sumTo_split g (a + m) r, sumTo_split f (a + m) r, sumTo_split g a m, sumTo_split f a m]
  rw [sumTo_congr (f := g) (g := f) a (fun q hq => ho q (by omega) (by omega)), sumTo_congr (f := fun i => g (a + m + i)) (g := fun i => f (a + m + i)) r (fun q hq => ho _ (by omega) (by omega))]
  omega
theorem sumTo_first {f : Nat → Nat} {m : Nat} (hm : 0 < m) (h : ∀ i, 0 < i → i < m → f i = 0) : sumTo f m = f 0 := by
  obtain ⟨r, rfl⟩ : ∃ r, m = 1 + r := ⟨m - 1, by omega⟩
  rw [sumTo_split f 1 r, sumTo_congr (f := fun i => f (1 + i)) (g := fun _ => 0) r (fun q hq => h _ (by omega) (by omega)), sumTo_zero]
  simp [sumTo]
theorem sumTo_pair {f : Nat → Nat} {k m : Nat} (hk : 0 < k) (hm : k < m) (h : ∀ i, 0 < i → i < m → i ≠ k → f i = 0) : sumTo f m = f 0 + f k := by
  obtain ⟨r, rfl⟩ : ∃ r, m = k + r := ⟨m - k, by omega⟩
  rw [sumTo_split f k r, sumTo_first hk (fun i h1 h2 => h i h1 (by omega) (by omega)), sumTo_first (f := fun i => f (k + i)) (by omega) (fun i h1 h2 => h _ (by omega) (by omega) (by omega))]
  rfl
end AuH
end
section
def inH (t p : Nat) : Int := ((30 + 4 * t + 6 * p : Nat) : Int)
section
variable {n : Nat} {K : Nat → Option Nat} {st st' st'' : Vst} {t P s : Nat} {nn : Int}
theorem Fit.inf (h : Fit t P s n) {p : Nat} (hp : p < P) : pageI (t : Int) (P : Int) (s : Int) (p : Int) 0 = inH t p := by
  rw [pcell_yes h.right (by omega) (by omega) (by omega) (by omega)]
  unfold inH
  push_cast
  omega
end

section
variable {H : AuH} {n c : Nat} {K : Nat → Option Nat}
end
end
section
theorem infoG_used {m : Nat} (h1 : 1 ≤ m) (h2 : m ≤ 1024) : infoG (infoV 2 (m : Int) 0) = (2, (m : Int), 0, true) := infoG_put (infoB_yes (by unfold infoP; omega))
theorem infoG_free {m : Nat} (h1 : 1 ≤ m) (h2 : m ≤ 1024) : infoG (infoV 1 (m : Int) 0) = (1, (m : Int), 0, true) := infoG_put (infoB_yes (by unfold infoP; omega))
namespace AuH
variable {H : AuH} {V : Nat → Nat} {L L' : Nat → List Nat} {A k e : Nat}
structure Relaid (H : AuH) (V : Nat → Nat) (L L' : Nat → List Nat) (A k e : Nat) : Prop where
  pos : 0 < k + e
  whole : H.Whole A (A + k + e)
  noslab : ∀ q, A ≤ q → q < A + k + e → H.K q ≠ 3
  left : k = 0 → ∀ q, q < A → H.K q = 1 → H.nx q ≠ A
  right : 0 < e → A + k + e < H.p → H.K (A + k + e) ≠ 1
  used : 0 < k → (H.re V).cel A 0 = infoV 2 (k : Int) 0
  rest : 0 < e → (H.re V).cel (A + k) 0 = infoV 1 (e : Int) 0
  blank : ∀ q, A ≤ q → q < A + k + e → ¬ (0 < k ∧ q = A) → ¬ (0 < e ∧ q = A + k) → (H.re V).cel q 0 = 0
  infos : ∀ q, q < H.p → ¬ (A ≤ q ∧ q < A + k + e) → (H.re V).cel q 0 = H.cel q 0
  footu : 0 < k → (H.re V).cel (A + k - 1) 1 = A + 1
  footr : 0 < e → (H.re V).cel (A + k + e - 1) 1 = A + k + 1
  blankf : ∀ q, A ≤ q → q < A + k + e → ¬ (0 < k ∧ q = A + k - 1) → ¬ (0 < e ∧ q = A + k + e - 1) → (H.re V).cel q 1 = 0
  feet : ∀ q, q < H.p → ¬ (A ≤ q ∧ q < A + k + e) → (H.re V).cel q 1 = H.cel q 1
  bits : ∀ q, q < H.p → (H.re V).cel q 4 = H.cel q 4 ∧ (H.re V).cel q 5 = H.cel q 5
  list : ∀ hd : Nat, 2 ≤ hd → hd ≤ 21 → IsL H.p (nxH H.t) (pvH H.t) hd (fun c => V c.toNat) (L' hd)
  mem : ∀ hd : Nat, 2 ≤ hd → hd ≤ 21 → ∀ y, y ∈ L' hd ↔ (y ∈ L hd ∧ ¬ (A ≤ y ∧ y < A + k + e)) ∨ (0 < e ∧ y = A + k ∧ ((hd : Nat) : Int) = 2 + HM.logI (e : Int))
  bare : ∀ q, A ≤ q → q < A + k + e → ¬ (0 < e ∧ q = A + k) → (H.re V).cel q 2 = 0 ∧ (H.re V).cel q 3 = 0
  loose : ∀ q, q < H.p → ¬ (A ≤ q ∧ q < A + k + e) → H.tgt q = -1 → (H.re V).cel q 2 = H.cel q 2 ∧ (H.re V).cel q 3 = H.cel q 3
  free : V 0 + sumTo (fun i => H.freeF (A + i)) (k + e) = H.V 0 + e
  live : V 1 + sumTo (fun i => H.liveF (A + i)) (k + e) = H.V 1 + (if 0 < k then 1 else 0)
  roots : ∀ i, i < 8 → V (22 + i) = H.V (22 + i)
  named : ∀ i, i < 8 → H.V (22 + i) ≠ 0 → A ≤ (spotP H.t H.p H.s (H.V (22 + i) : Int)).toNat → (spotP H.t H.p H.s (H.V (22 + i) : Int)).toNat < A + k + e → 0 < k ∧ (spotP H.t H.p H.s (H.V (22 + i) : Int)).toNat = A
theorem sum_free_le (h : H.Spans) (x : Nat) (hx : x ≤ H.p) (hk : x = H.p ∨ H.K x ≠ 0) : sumTo H.freeF x ≤ x := by
  have ha := h.reach x x (Nat.le_refl _) hx hk
  induction ha with
  | zero => exact Nat.le_refl _
  | step ha hc ih =>
    rename_i q
    have hcan := (H.can_iff q).1 hc
    have h1 := ih (by omega) (.inr hcan.2.1)
    have h2 := h.tiled.sum (f := H.freeF) ha hcan.1 (fun r hr hz => by unfold freeF; rw [if_neg (by omega)])
    have h3 : H.freeF q ≤ H.ln q := by unfold freeF; split <;> omega
    have h4 : H.nx q = q + H.ln q := rfl
    omega
theorem sum_live_le (H : AuH) : sumTo H.liveF H.p ≤ H.p * 32 := sumTo_le H.liveF 32 H.p (fun q _ => by
  unfold liveF
  split
  · omega
  · split
    · exact HM.onesTo_le _ _
    · omega)
structure RelaidK (H : AuH) (V : Nat → Nat) (A k e : Nat) : Prop where
  used : 0 < k → (H.re V).K A = 2 ∧ (H.re V).ln A = k ∧ (H.re V).nx A = A + k
  rest : 0 < e → (H.re V).K (A + k) = 1 ∧ (H.re V).ln (A + k) = e ∧ (H.re V).nx (A + k) = A + k + e
  none : ∀ q, A ≤ q → q < A + k + e → ¬ (0 < k ∧ q = A) → ¬ (0 < e ∧ q = A + k) → (H.re V).K q = 0
  out : ∀ q, q < H.p → ¬ (A ≤ q ∧ q < A + k + e) → (H.re V).K q = H.K q ∧ (H.re V).ln q = H.ln q ∧ (H.re V).Cl q = H.Cl q
theorem Relaid.kinds (T : H.Relaid V L L' A k e) (hp10 : H.p ≤ 1024) : H.RelaidK V A k e := by
  have hw := T.whole.le
  refine ⟨fun hk => ?_, fun he => ?_, fun q h1 h2 h3 h4 => ((H.re V).K_zero q (T.blank q h1 h2 h3 h4)).1, fun q h1 h2 => ?_⟩
  · have e1 : (H.re V).K A = 2 ∧ (H.re V).ln A = k := by
      unfold AuH.ln AuH.L AuH.K
      rw [T.used hk, infoG_used hk (by omega)]
      exact ⟨rfl, by simp⟩
    exact ⟨e1.1, e1.2, by unfold AuH.nx; rw [e1.2]⟩
  · have e1 : (H.re V).K (A + k) = 1 ∧ (H.re V).ln (A + k) = e := by
      unfold AuH.ln AuH.L AuH.K
      rw [T.rest he, infoG_free he (by omega)]
      exact ⟨rfl, by simp⟩
    exact ⟨e1.1, e1.2, by unfold AuH.nx; rw [e1.2]⟩
  · unfold AuH.ln AuH.L AuH.K AuH.Cl
    rw [T.infos q h1 h2]
    exact ⟨rfl, rfl, rfl⟩
theorem RelaidK.cases (I : H.RelaidK V A k e) {q : Nat} (h1 : A ≤ q) (h2 : q < A + k + e) (h3 : (H.re V).K q ≠ 0) : (0 < k ∧ q = A) ∨ (0 < e ∧ q = A + k) := by
  by_cases a1 : 0 < k ∧ q = A
  · exact .inl a1
  · by_cases a2 : 0 < e ∧ q = A + k
    · exact .inr a2
    · exact absurd (I.none q h1 h2 a1 a2) h3
theorem Relaid.recut (T : H.Relaid V L L' A k e) (I : H.RelaidK V A k e) : H.Recut V A (A + k + e) := by
  have hpos := T.pos
  refine ⟨T.whole, T.infos, ?_, fun q h1 h2 h3 => ?_, fun q h1 h2 h3 h4 => ?_, fun q r h1 h2 h3 h4 h5 => ?_, fun q h1 h2 h3 => ?_⟩
  · rcases Nat.eq_zero_or_pos k with h0 | h0
    · have h5 := (I.rest (by omega)).1
      have e0 : A + k = A := by omega
      rw [e0] at h5
      omega
    · have := (I.used h0).1; omega
  · rcases I.cases h1 h2 h3 with ⟨a1, rfl⟩ | ⟨a1, rfl⟩
    · have := (I.used a1).2.2; omega
    · have := (I.rest a1).2.2; omega
  · rcases I.cases h1 h2 h3 with ⟨a1, rfl⟩ | ⟨a1, rfl⟩
    · have e1 := (I.used a1).2.2
      rw [e1] at h4 ⊢
      have := (I.rest (by omega)).1
      omega
    · have := (I.rest a1).2.2; omega
  · rcases I.cases h1 h2 h3 with ⟨a1, rfl⟩ | ⟨a1, rfl⟩
    · have e1 := (I.used a1).2.2
      exact T.blank r (by omega) (by omega) (by omega) (by omega)
    · have e1 := (I.rest a1).2.2
      exact T.blank r (by omega) (by omega) (by omega) (by omega)
  · refine T.blank q h1 h2 (fun h4 => ?_) (fun h4 => ?_)
    · obtain ⟨a1, rfl⟩ := h4; have := (I.used a1).1; omega
    · obtain ⟨a1, rfl⟩ := h4; have := (I.rest a1).1; omega
theorem Relaid.ok (T : H.Relaid V L L' A k e) (h : H.Ok L) (hp10 : H.p ≤ 1024) : (H.re V).Ok L' := by
  have hS := h.spans
  have hpos := T.pos
  have hw := T.whole.le
  have I := T.kinds hp10
  have R := T.recut I
  have t2 : 0 < e → (H.re V).tgt (A + k) = 2 + HM.logI (e : Int) := fun he => by rw [tgt_free (I.rest he).1, (I.rest he).2.1]
  have t1 : ∀ q, A ≤ q → q < A + k + e → ¬ (0 < e ∧ q = A + k) → (H.re V).tgt q = -1 := fun q h1 h2 h3 => by
    by_cases h4 : (H.re V).K q = 0
    · exact tgt_none h4
    · rcases I.cases h1 h2 h4 with ⟨a1, rfl⟩ | a1
      · exact tgt_used (I.used a1).1
      · exact absurd a1 h3
  have t3 : ∀ q, q < H.p → ¬ (A ≤ q ∧ q < A + k + e) → (H.re V).tgt q = H.tgt q := fun q h1 h2 => by
    obtain ⟨a1, a2, a3⟩ := I.out q h1 h2
    unfold AuH.tgt
    rw [a1, a2, a3, (T.bits q h1).2]
  refine ⟨R.spans hS, ?_, ?_, fun q hq => ?_, T.list, fun hd h2 h21 y => ?_, fun q hq ht => ?_, ?_, fun i hi hv => ?_⟩
  · -- feet
    refine R.feet hS h.feet T.feet (fun q h1 h2 h3 => ?_)
    rcases I.cases h1 h2 h3 with ⟨a1, rfl⟩ | ⟨a1, rfl⟩
    · unfold Foot
      rw [(I.used a1).2.1]
      exact ⟨fun r h5 h6 => T.blankf r (by omega) (by omega) (by omega) (by omega), T.footu a1⟩
    · unfold Foot
      rw [(I.rest a1).2.1]
      exact ⟨fun r h5 h6 => T.blankf r (by omega) (by omega) (by omega) (by omega), T.footr a1⟩
  · -- no two free ones side by side
    refine R.apart hS h.apart (fun q h1 h2 h3 => ?_) (fun q h1 h2 h3 h4 => ?_) (fun q h1 h2 h3 h4 h5 => ?_)
    · rcases Nat.eq_zero_or_pos k with h0 | h0
      · exact absurd h3 (T.left h0 q h1 h2)
      · rw [(I.used h0).1]; omega
    · rcases I.cases h1 h2 (by omega) with ⟨a1, rfl⟩ | ⟨a1, rfl⟩
      · have := (I.used a1).1; omega
      · have := (I.rest a1).2.2; omega
    · rcases I.cases h1 h2 (by omega) with ⟨a1, rfl⟩ | ⟨a1, rfl⟩
      · have := (I.used a1).1; omega
      · exact T.right a1 h5
  · -- slots
    have hq : q < H.p := hq
    have h0 := h.slots q hq
    unfold Slot5 at h0 ⊢
    rw [(T.bits q hq).1, (T.bits q hq).2]
    by_cases h1 : A ≤ q ∧ q < A + k + e
    · refine ⟨fun h2 => ?_, fun _ => h0.2 (T.noslab q h1.1 h1.2)⟩
      rcases I.cases h1.1 h1.2 (by omega) with ⟨a1, rfl⟩ | ⟨a1, rfl⟩
      · have := (I.used a1).1; omega
      · have := (I.rest a1).1; omega
    · obtain ⟨a1, a2, a3⟩ := I.out q hq h1
      rw [a1, a3]
      exact h0
  · -- lists
    rw [T.mem hd h2 h21 y, h.mem hd h2 h21 y]
    show _ ↔ y < H.p ∧ _
    by_cases h1 : A ≤ y ∧ y < A + k + e
    · by_cases h3 : 0 < e ∧ y = A + k
      · obtain ⟨h4, rfl⟩ := h3
        rw [t2 h4]
        constructor
        · rintro (⟨_, h6⟩ | ⟨_, _, h6⟩)
          · exact absurd h1 h6
          · exact ⟨by omega, by omega⟩
        · rintro ⟨_, h6⟩; exact .inr ⟨h4, rfl, by omega⟩
      · rw [t1 y h1.1 h1.2 h3]
        constructor
        · rintro (⟨_, h6⟩ | ⟨h6, h7, _⟩)
          · exact absurd h1 h6
          · exact absurd ⟨h6, h7⟩ h3
        · rintro ⟨_, h6⟩; omega
    · constructor
      · rintro (⟨⟨h4, h5⟩, _⟩ | ⟨h4, h5, _⟩)
        · exact ⟨h4, by rw [t3 y h4 h1]; exact h5⟩
        · omega
      · rintro ⟨h4, h5⟩
        rw [t3 y h4 h1] at h5
        exact .inl ⟨⟨h4, h5⟩, h1⟩
  · -- what is in no list
    have hq : q < H.p := hq
    by_cases h1 : A ≤ q ∧ q < A + k + e
    · by_cases h2 : 0 < e ∧ q = A + k
      · obtain ⟨h2, rfl⟩ := h2
        rw [t2 h2] at ht
        have := log_few (n := e) (by omega) (by omega)
        omega
      · exact T.bare q h1.1 h1.2 h2
    · rw [t3 q hq h1] at ht
      obtain ⟨a1, a2⟩ := T.loose q hq h1 ht
      rw [a1, a2]
      exact h.loose q hq ht
  · -- counts
    obtain ⟨c1, c2⟩ := h.counts
    have hle := sum_free_le hS H.p (Nat.le_refl _) (.inl rfl)
    have e1 := sumTo_recut (f := H.freeF) (g := (H.re V).freeF) (a := A) (m := k + e) (p := H.p) (by omega) (fun q h1 h2 => by
      obtain ⟨a1, a2, _⟩ := I.out q h1 (by omega)
      unfold freeF
      rw [a1, a2])
    have e2 := sumTo_recut (f := H.liveF) (g := (H.re V).liveF) (a := A) (m := k + e) (p := H.p) (by omega) (fun q h1 h2 => by
      obtain ⟨a1, a2, _⟩ := I.out q h1 (by omega)
      unfold liveF
      rw [a1, (T.bits q h1).1])
    have g0 : ∀ i, i < k + e → ¬ (0 < k ∧ i = 0) → ¬ (0 < e ∧ i = k) → (H.re V).freeF (A + i) = 0 ∧ (H.re V).liveF (A + i) = 0 := fun i h1 h2 h3 => by
      have := I.none (A + i) (by omega) (by omega) (by omega) (by omega)
      exact ⟨freeF_no this, liveF_no this⟩
    have gu : 0 < k → (H.re V).freeF A = 0 ∧ (H.re V).liveF A = 1 := fun hk => by
      have := (I.used hk).1
      unfold freeF liveF
      exact ⟨if_neg (by omega), if_pos this⟩
    have gr : 0 < e → (H.re V).freeF (A + k) = e ∧ (H.re V).liveF (A + k) = 0 := fun he => by
      have h1 := I.rest he
      unfold freeF liveF
      exact ⟨by rw [if_pos h1.1, h1.2.1], by rw [if_neg (by omega), if_neg (by omega)]⟩
    have z : sumTo (fun i => (H.re V).freeF (A + i)) (k + e) = e ∧ sumTo (fun i => (H.re V).liveF (A + i)) (k + e) = if 0 < k then 1 else 0 := by
      rcases Nat.eq_zero_or_pos k with hk | hk
      · subst hk
        have h1 := gr (by omega)
        rw [sumTo_first (by omega) (fun i h2 h3 => (g0 i h3 (by omega) (by omega)).1), sumTo_first (by omega) (fun i h2 h3 => (g0 i h3 (by omega) (by omega)).2)]
        exact ⟨h1.1, h1.2⟩
      · rw [if_pos hk]
        rcases Nat.eq_zero_or_pos e with he | he
        · subst he
          rw [sumTo_first (by omega) (fun i h2 h3 => (g0 i h3 (by omega) (by omega)).1), sumTo_first (by omega) (fun i h2 h3 => (g0 i h3 (by omega) (by omega)).2)]
          exact gu hk
        · rw [sumTo_pair (k := k) (by omega) (by omega) (fun i h2 h3 h4 => (g0 i h3 (by omega) (by omega)).1), sumTo_pair (k := k) (by omega) (by omega) (fun i h2 h3 h4 => (g0 i h3 (by omega) (by omega)).2)]
          have h1 := gr he
          have h2 := gu hk
          exact ⟨by show (H.re V).freeF A + (H.re V).freeF (A + k) = e; omega, by show (H.re V).liveF A + (H.re V).liveF (A + k) = 1; omega⟩
    rw [z.1] at e1
    rw [z.2] at e2
    have hf := T.free
    have hv := T.live
    have hlive := sum_live_le H
    have hin1 : sumTo (fun i => H.freeF (A + i)) (k + e) ≤ sumTo H.freeF H.p := by
      obtain ⟨r, hr⟩ : ∃ r, H.p = A + (k + e) + r := ⟨H.p - (A + (k + e)), by omega⟩
      rw [hr, sumTo_split H.freeF (A + (k + e)) r, sumTo_split H.freeF A (k + e)]
      omega
    have hin2 : sumTo (fun i => H.liveF (A + i)) (k + e) ≤ sumTo H.liveF H.p := by
      obtain ⟨r, hr⟩ : ∃ r, H.p = A + (k + e) + r := ⟨H.p - (A + (k + e)), by omega⟩
      rw [hr, sumTo_split H.liveF (A + (k + e)) r, sumTo_split H.liveF A (k + e)]
      omega
    refine ⟨?_, ?_⟩
    · show V 0 = sumTo (H.re V).freeF H.p % 4294967296
      omega
    · show V 1 = sumTo (H.re V).liveF H.p % 4294967296
      split at hv <;> split at e2 <;> omega
  · -- roots
    have e0 : (H.re V).V (22 + i) = H.V (22 + i) := T.roots i hi
    rw [e0] at hv ⊢
    obtain ⟨s1, s2⟩ := h.roots i hi hv
    have hnm := T.named i hi hv
    have hsp : (spotP H.t H.p H.s (H.V (22 + i) : Int)).toNat < H.p := by
      have h1 := (spot_parts s1).1
      unfold addrB at h1
      rw [Bool.and_eq_true, decide_eq_true_iff] at h1
      have := h1.2
      omega
    generalize hPG : (spotP H.t H.p H.s (H.V (22 + i) : Int)).toNat = r at *
    refine ⟨s1, ?_⟩
    show ((H.re V).K (spotP H.t H.p H.s (H.V (22 + i) : Int)).toNat = 2 ∧ _) ∨ ((H.re V).K (spotP H.t H.p H.s (H.V (22 + i) : Int)).toNat = 3 ∧ slotB H.t H.p H.s ((H.re V).Cl (spotP H.t H.p H.s (H.V (22 + i) : Int)).toNat) _ = true ∧ ((H.re V).cel (spotP H.t H.p H.s (H.V (22 + i) : Int)).toNat 4).testBit (slotR H.t H.p H.s ((H.re V).Cl (spotP H.t H.p H.s (H.V (22 + i) : Int)).toNat) _).toNat = true)
    rw [hPG]
    by_cases hin : A ≤ r ∧ r < A + k + e
    · obtain ⟨h1, h2⟩ := hnm hin.1 hin.2
      have h3 := T.noslab r hin.1 hin.2
      rcases s2 with s2 | s2
      · subst h2
        exact .inl ⟨(I.used h1).1, s2.2⟩
      · exact absurd s2.1 h3
    · obtain ⟨a1, a2, a3⟩ := I.out r hsp hin
      rw [a1, a3, (T.bits r hsp).1]
      exact s2
end AuH
end
section
section
variable {n : Nat} {K : Nat → Option Nat} {st : Vst} {t P s : Nat}
def ftH (t p : Nat) : Int := ((30 + 4 * t + 6 * p + 1 : Nat) : Int)
theorem Fit.foot (h : Fit t P s n) {p : Nat} (hp : p < P) : pageI (t : Int) (P : Int) (s : Int) (p : Int) 1 = ftH t p := by
  rw [pcell_yes h.right (by omega) (by omega) (by omega) (by omega)]
  unfold ftH
  push_cast
  omega
end

section
variable {H : AuH} {n c : Nat} {K : Nat → Option Nat}
end
end
section
structure Lists (t P n : Nat) (K : Nat → Option Nat) (st : Vst) (L : Nat → List Nat) : Prop where
  vw : VW n K st
  has : ∀ hd : Nat, 2 ≤ hd → hd ≤ 21 → HasL t P hd n K st (L hd)
  apart : ∀ a b : Nat, 2 ≤ a → a ≤ 21 → 2 ≤ b → b ≤ 21 → a ≠ b → ∀ u ∈ L a, ¬ u ∈ L b
def LinkCell (t : Nat) (c : Int) : Prop := (∃ hd : Nat, 2 ≤ hd ∧ hd ≤ 21 ∧ c = hd) ∨ ∃ u, c = nxH t u ∨ c = pvH t u
section
variable {t P s n : Nat} {K : Nat → Option Nat} {st : Vst} {L : Nat → List Nat} {hd p : Nat} {l1 l2 : List Nat}
theorem ListCell.link {l : List Nat} (h2 : 2 ≤ hd) (h21 : hd ≤ 21) {c : Int} (h : ListCell t hd l c) : LinkCell t c := by
  rcases h with h | ⟨u, _, h⟩
  · exact .inl ⟨hd, h2, h21, h⟩
  · exact .inr ⟨u, h⟩
theorem HasL.congr {st' : Vst} {l : List Nat} (h : HasL t P hd n K st l) (hh : getV n K st' (hd : Int) = getV n K st (hd : Int)) (hf : ∀ u ∈ l, getV n K st' (nxH t u) = getV n K st (nxH t u) ∧ getV n K st' (pvH t u) = getV n K st (pvH t u)) : HasL t P hd n K st' l := by
  obtain ⟨⟨a, hs⟩, hn⟩ := h
  refine ⟨⟨a, ?_⟩, hn⟩
  rw [hh]
  exact hs.frame hf
theorem Lists.pull (h : Lists t P n K st L) (hf : Fit t P s n) (h2 : 2 ≤ hd) (h21 : hd ≤ 21) (hl : L hd = l1 ++ p :: l2) :
    Lists t P n K (pullS n K t P s hd p st) (updF L hd (l1 ++ l2)) ∧ (∀ c : Int, ¬ ListCell t hd (L hd) c → getV n K (pullS n K t P s hd p st) c = getV n K st c) ∧
    getV n K (pullS n K t P s hd p st) (nxH t p) = 0 ∧ getV n K (pullS n K t P s hd p st) (pvH t p) = 0 := by
  have hH := h.has hd h2 h21
  rw [hl] at hH
  have hlk := hH.links
  obtain ⟨b1, b2⟩ := hf.pull (hd := hd) (by omega) h.vw hlk.1 hlk.2.1 hlk.2.2
  have hP := hH.pull hf (by omega) h.vw
  refine ⟨⟨b1, fun x x2 x21 => ?_, fun a b a2 a21 b2' b21 hne u hu => ?_⟩, fun c hc => ?_, ?_, ?_⟩
  · by_cases e : x = hd
    · subst e; rw [updF_same]; exact hP.1
    · rw [updF_other _ _ e]
      exact hH.other hf (by omega) h.vw (h.has x x2 x21) e (by omega) (fun u hu => by rw [← hl]; exact h.apart x hd x2 x21 h2 h21 e u hu)
  · have hsub : ∀ x : Nat, ∀ u, u ∈ updF L hd (l1 ++ l2) x → u ∈ L x := fun x u hu => by
      by_cases e : x = hd
      · subst e
        rw [updF_same] at hu
        rw [hl]
        rcases List.mem_append.1 hu with hu | hu <;> simp [hu]
      · rwa [updF_other _ _ e] at hu
    exact fun hv => h.apart a b a2 a21 b2' b21 hne u (hsub a u hu) (hsub b u hv)
  · rw [b2]
    rw [hl] at hc
    obtain ⟨⟨aa, hs0⟩, hnd⟩ := id hH
    exact pull_far' (by omega) hnd hs0 hc
  · rw [b2]
    unfold pullG
    rw [upd_other _ _ ((geo P t hd (by omega)).np p p), upd_same]
  · rw [b2]
    unfold pullG
    exact upd_same _ _ _
theorem Lists.push (h : Lists t P n K st L) (hf : Fit t P s n) (h2 : 2 ≤ hd) (h21 : hd ≤ 21) (hp : p < P) (hno : ∀ x : Nat, 2 ≤ x → x ≤ 21 → ¬ p ∈ L x) :
    Lists t P n K (pushS n K t P s hd p st) (updF L hd (p :: L hd)) ∧ ∀ c : Int, ¬ ListCell t hd (p :: L hd) c → getV n K (pushS n K t P s hd p st) c = getV n K st c := by
  have hH := h.has hd h2 h21
  have hx : getV n K st hd = 0 ∨ getV n K st hd - 1 < P := by
    obtain ⟨⟨a, hs⟩, _⟩ := id hH
    have := hs.first
    cases hll : L hd with
    | nil => rw [hll] at this; exact .inl this
    | cons u r =>
      right
      rw [hll] at this hs
      have h2 := hs.lt u (by simp)
      have h3 : getV n K st hd = u + 1 := this
      omega
  obtain ⟨b1, b2⟩ := hf.push (hd := hd) (by omega) h.vw hp hx
  have hP := hH.push hf (by omega) h.vw hp (hno hd h2 h21)
  have far : ∀ c : Int, ¬ ListCell t hd (p :: L hd) c → getV n K (pushS n K t P s hd p st) c = getV n K st c := fun c hc => by
    rw [b2]
    obtain ⟨⟨aa, hs0⟩, hnd⟩ := id hH
    exact push_far (by omega) hs0 hc
  refine ⟨⟨b1, fun x x2 x21 => ?_, fun a b a2 a21 b2' b21 hne u hu hv => ?_⟩, far⟩
  · by_cases e : x = hd
    · subst e; rw [updF_same]; exact hP.1
    · rw [updF_other _ _ e]
      have hap := h.apart x hd x2 x21 h2 h21 e
      have hpx := hno x x2 x21
      have hne : ∀ u ∈ L x, ∀ v ∈ p :: L hd, u ≠ v := fun u hu v hv e2 => by
        subst e2
        rcases List.mem_cons.1 hv with e3 | e3
        · subst e3; exact hpx hu
        · exact hap u hu e3
      refine (h.has x x2 x21).congr (far _ ?_) (fun u hu => ⟨far _ ?_, far _ ?_⟩)
      · rintro (h3 | ⟨u, _, h3 | h3⟩)
        · omega
        · unfold nxH at h3; omega
        · unfold pvH at h3; omega
      · rintro (h3 | ⟨v, hv, h3 | h3⟩)
        · unfold nxH at h3; omega
        · unfold nxH at h3; exact hne u hu v hv (by omega)
        · unfold nxH pvH at h3; omega
      · rintro (h3 | ⟨v, hv, h3 | h3⟩)
        · unfold pvH at h3; omega
        · unfold nxH pvH at h3; omega
        · unfold pvH at h3; exact hne u hu v hv (by omega)
  · have hsub : ∀ x : Nat, 2 ≤ x → x ≤ 21 → ∀ u, u ∈ updF L hd (p :: L hd) x → u ∈ L x ∨ (u = p ∧ x = hd) := fun x x2 x21 u hu => by
      by_cases e : x = hd
      · subst e
        rw [updF_same] at hu
        rcases List.mem_cons.1 hu with e2 | e2
        · exact .inr ⟨e2, rfl⟩
        · exact .inl e2
      · rw [updF_other _ _ e] at hu; exact .inl hu
    rcases hsub a a2 a21 u hu with h3 | ⟨h3, h4⟩ <;> rcases hsub b b2' b21 u hv with h5 | ⟨h5, h6⟩
    · exact h.apart a b a2 a21 b2' b21 hne u h3 h5
    · subst h5; exact hno a a2 a21 h3
    · subst h3; exact hno b b2' b21 h5
    · omega
theorem Lists.put (h : Lists t P n K st L) {i : Nat} (hi : i < n) (hc : ¬ LinkCell t (i : Int)) (v : Nat) :
    Lists t P n K (putS n st (i : Int) v) L ∧ getV n K (putS n st (i : Int) v) = upd (getV n K st) (i : Int) v := by
  obtain ⟨b1, b2⟩ := h.vw.put hi v
  refine ⟨⟨b1, fun x x2 x21 => (h.has x x2 x21).congr ?_ (fun u hu => ⟨?_, ?_⟩), h.apart⟩, b2⟩
  · rw [b2, upd_other]
    exact fun e => hc (.inl ⟨x, x2, x21, e.symm⟩)
  · rw [b2, upd_other]
    exact fun e => hc (.inr ⟨u, .inl e.symm⟩)
  · rw [b2, upd_other]
    exact fun e => hc (.inr ⟨u, .inr e.symm⟩)
theorem Lists.get (h : Lists t P n K st L) (c : Int) : Lists t P n K (getS n K st c) L ∧ getV n K (getS n K st c) = getV n K st := by
  obtain ⟨b1, b2⟩ := h.vw.get c
  refine ⟨⟨b1, fun x x2 x21 => ?_, h.apart⟩, b2⟩
  unfold HasL
  rw [b2]
  exact h.has x x2 x21
theorem cell_far {q b : Nat} (hb : b < 6) (h2 : b ≠ 2) (h3 : b ≠ 3) : ¬ LinkCell t ((30 + 4 * t + 6 * q + b : Nat) : Int) := by
  rintro (⟨hd, _, _, e⟩ | ⟨u, e | e⟩)
  · omega
  · unfold nxH at e; omega
  · unfold pvH at e; omega
theorem low_far {i : Nat} (h : i < 2 ∨ (22 ≤ i ∧ i < 30)) : ¬ LinkCell t (i : Int) := by
  rintro (⟨hd, _, _, e⟩ | ⟨u, e | e⟩)
  · omega
  · unfold nxH at e; omega
  · unfold pvH at e; omega
end
section
variable {H : AuH} {n c : Nat} {K : Nat → Option Nat} {st : Vst} {L : Nat → List Nat}
theorem Lists.of_ok (h : H.Ok L) (HV : HeapV H n c) (hK : ∀ i, i < n → K i = some (H.V i)) : Lists H.t H.p n K freshS L := by
  have hV : VW n K freshS := ⟨fun i hi => ⟨_, hK i hi⟩, rfl⟩
  have hlen := HV.len
  have hg : ∀ i : Nat, i < n → getV n K freshS (i : Int) = H.V i := fun i hi => by rw [hV.at_ hi, hK i hi]; rfl
  refine ⟨hV, fun hd h2 h21 => ?_, fun a b a2 a21 b2 b21 hne u hu hv => ?_⟩
  · obtain ⟨⟨a, hs⟩, hn⟩ := h.list hd h2 h21
    refine ⟨⟨a, ?_⟩, hn⟩
    rw [hg hd (by omega)]
    simp only [Int.toNat_natCast] at hs
    refine hs.frame (fun u hu => ?_)
    have hup := ((h.mem hd h2 h21 u).1 hu).1
    unfold nxH pvH
    rw [hg _ (by omega), hg _ (by omega)]
    simp only [Int.toNat_natCast]
    exact ⟨trivial, trivial⟩
  · have e1 := ((h.mem a a2 a21 u).1 hu).2
    have e2 := ((h.mem b b2 b21 u).1 hv).2
    omega
theorem Lists.isL (h : Lists H.t H.p n K st L) (HV : HeapV H n c) {hd : Nat} (h2 : 2 ≤ hd) (h21 : hd ≤ 21) : IsL H.p (nxH H.t) (pvH H.t) hd (fun c => curV n (getV n K st) H.V c.toNat) (L hd) := by
  have hlen := HV.len
  obtain ⟨⟨a, hs⟩, hn⟩ := h.has hd h2 h21
  have e : ∀ i : Nat, i < n → curV n (getV n K st) H.V i = getV n K st (i : Int) := fun i hi => curV_in hi
  refine ⟨⟨a, ?_⟩, hn⟩
  show Seg H.p (nxH H.t) (pvH H.t) (fun c => curV n (getV n K st) H.V c.toNat) 0 (curV n (getV n K st) H.V ((hd : Int).toNat)) (L hd) a 0
  rw [Int.toNat_natCast, e hd (by omega)]
  refine hs.frame (fun u hu => ?_)
  have hup := hs.lt u hu
  unfold nxH pvH
  simp only [Int.toNat_natCast]
  rw [e _ (by omega), e _ (by omega)]
  exact ⟨rfl, rfl⟩
end
end
end Go.Proofs.YtnamlhkccgnbfaaGreat

namespace Go.Proofs.YtnamlhkccgnbfaaGreat
open Go.ChangeShapes Go.WideShapes Go.ChangeAt Go.RowKit
set_option linter.unusedVariables false
section
def Contig : Int → List (Int × Int × Int) → Int → Prop
  | a, [], b => a = b
  | a, x :: l, b => (x.2.1 = a ∧ 1 ≤ x.2.2 ∧ 1 ≤ x.1 ∧ x.1 ≤ 5) ∧ Contig (a + x.2.2) l b
theorem Contig.app : ∀ {l : List (Int × Int × Int)} {a b c : Int} {m : List (Int × Int × Int)}, Contig a l b → Contig b m c → Contig a (l ++ m) c
  | [], a, b, c, m, h, h' => by
    have : a = b := h
    subst this
    exact h'
  | x :: l, a, b, c, m, h, h' => ⟨h.1, Contig.app h.2 h'⟩
theorem Contig.one {k a z : Int} (hk : 1 ≤ k ∧ k ≤ 5) (hz : 1 ≤ z) : Contig a [(k, a, z)] (a + z) := ⟨⟨rfl, hz, hk.1, hk.2⟩, rfl⟩
theorem Contig.le : ∀ {l : List (Int × Int × Int)} {a b : Int}, Contig a l b → a ≤ b
  | [], a, b, h => by have : a = b := h; omega
  | x :: l, a, b, h => by have := Contig.le h.2; have := h.1.2.1; omega
theorem Contig.at_ : ∀ {l : List (Int × Int × Int)} {a b : Int} {i : Nat} {x : Int × Int × Int}, Contig a (l.drop i) b → l[i]? = some x → (x.2.1 = a ∧ 1 ≤ x.2.2 ∧ 1 ≤ x.1 ∧ x.1 ≤ 5) ∧ Contig (a + x.2.2) (l.drop (i + 1)) b := by
  intro l a b i x h hx
  have hi : i < l.length := by
    rcases Nat.lt_or_ge i l.length with h1 | h1
    · exact h1
    · rw [List.getElem?_eq_none h1] at hx; cases hx
  rw [List.drop_eq_getElem_cons hi] at h
  have e : l[i] = x := by rw [List.getElem?_eq_getElem hi] at hx; injection hx
  rw [e] at h
  exact h
namespace AuH
variable {H : AuH}
theorem first_add (q m : Nat) : H.first q + (m : Int) * (H.pg : Int) = H.first (q + m) := by
  unfold first
  rw [← Int.add_mul]
  congr 1
  push_cast
  omega
theorem slot_kd (q i : Nat) : 1 ≤ (H.slotPart q i).1 ∧ (H.slotPart q i).1 ≤ 5 := by
  show 1 ≤ ((slotKd _ _ i : Nat) : Int) ∧ ((slotKd _ _ i : Nat) : Int) ≤ 5
  unfold slotKd
  split
  · decide
  · split <;> decide
theorem slots_contig (q : Nat) (hz : 1 ≤ H.zs q) : ∀ k, Contig (H.first q) (H.slotsTo q k) (H.first q + (k : Int) * (H.zs q : Int))
  | 0 => by
    have e : H.first q + ((0 : Nat) : Int) * (H.zs q : Int) = H.first q := by simp
    rw [e]
    exact rfl
  | k + 1 => by
    rw [slotsTo_succ]
    have e : H.first q + ((k + 1 : Nat) : Int) * (H.zs q : Int) = (H.first q + (k : Int) * (H.zs q : Int)) + (H.zs q : Int) := by
      push_cast
      rw [Int.add_mul]
      omega
    rw [e]
    exact (slots_contig q hz k).app ⟨⟨rfl, by show 1 ≤ (H.zs q : Int); omega, (slot_kd q k).1, (slot_kd q k).2⟩, rfl⟩
theorem partsAt_contig {n c : Nat} (HV : HeapV H n c) {q : Nat} (hk : H.K q ≠ 0) : Contig (H.first q) (H.partsAt q) (H.first (H.nx q)) := by
  have hg := pg_le HV
  have hs := HV.nums
  have hkc := H.K_cases q
  have hnx : H.first (H.nx q) = H.first q + (H.ln q : Int) * (H.pg : Int) := (first_add q (H.ln q)).symm
  have hpos : ∀ m : Nat, 1 ≤ m → 1 ≤ (m : Int) * (H.pg : Int) := fun m hm => by
    have h1 : 1 * 1 ≤ m * H.pg := Nat.mul_le_mul hm (by omega)
    have h2 : ((m * H.pg : Nat) : Int) = (m : Int) * (H.pg : Int) := by push_cast; rfl
    rw [← h2]
    omega
  rw [hnx]
  unfold partsAt
  by_cases h1 : H.K q = 1
  · rw [if_pos h1]
    exact Contig.one (by omega) (hpos _ (by omega))
  · rw [if_neg h1]
    by_cases h2 : H.K q = 2
    · rw [if_pos h2]
      exact Contig.one (by omega) (hpos _ (by omega))
    · have h3 : H.K q = 3 := by omega
      have hl : H.ln q = 1 := by omega
      rw [if_neg h2, if_pos h3, hl]
      obtain ⟨kc, hkc2⟩ : ∃ kc : Nat, H.Cl q = kc := ⟨(H.Cl q).toNat, by omega⟩
      have hf := size_facts (s := (H.s : Int)) (by omega) (k := kc) (by omega)
      have hz : H.zs q = sizeN (H.s : Int) (kc : Int) := by unfold zs; rw [hkc2]
      have hsl : H.sl q = slotN kc := by unfold sl; rw [hkc2, slotI_nat]
      have hfit : H.sl q * H.zs q ≤ H.pg := by rw [hz, hsl, hg.2.2.1, Nat.mul_comm]; exact hf.2.2.1
      have hc := slots_contig (H := H) q (by rw [hz]; omega) (H.sl q)
      have e1 : (H.sl q : Int) * (H.zs q : Int) = ((H.sl q * H.zs q : Nat) : Int) := by push_cast; rfl
      rw [e1] at hc
      unfold slack
      have e2 : H.first q + ((1 : Nat) : Int) * (H.pg : Int) = H.first q + (H.pg : Int) := by simp
      rw [e2]
      by_cases h4 : H.sl q * H.zs q < H.pg
      · rw [if_pos h4]
        have := hc.app (Contig.one (k := 5) (a := H.first q + ((H.sl q * H.zs q : Nat) : Int)) (z := (H.pg : Int) - ((H.sl q * H.zs q : Nat) : Int)) (by omega) (by omega))
        have e3 : H.first q + ((H.sl q * H.zs q : Nat) : Int) + ((H.pg : Int) - ((H.sl q * H.zs q : Nat) : Int)) = H.first q + (H.pg : Int) := by omega
        rwa [e3] at this
      · rw [if_neg h4, List.append_nil]
        have e3 : ((H.sl q * H.zs q : Nat) : Int) = (H.pg : Int) := by omega
        rwa [e3] at hc
end AuH
end
end Go.Proofs.YtnamlhkccgnbfaaGreat

namespace Go.Proofs.YtnamlhkccgnbfaaGreat
open Go.ChangeShapes Go.WideShapes Go.ChangeAt Go.RowKit Go.Maps
set_option linter.unusedVariables false
set_option linter.unusedSimpArgs false
section
theorem Contig.mem : ∀ {l : List (Int × Int × Int)} {a b : Int}, Contig a l b → ∀ x ∈ l, a ≤ x.2.1 ∧ x.2.1 < b
  | [], a, b, h, x, hx => by cases hx
  | y :: r, a, b, ⟨⟨h1, h2, h3⟩, h4⟩, x, hx => by
    have hle := h4.le
    rcases List.mem_cons.1 hx with rfl | hx
    · omega
    · have := Contig.mem h4 x hx
      omega
namespace AuH
variable {H : AuH} {V : Nat → Nat} {L L' : Nat → List Nat} {A k e n c : Nat}
theorem catTo_split {α : Type} (f : Nat → List α) (a : Nat) : ∀ m, catTo f (a + m) = catTo f a ++ catTo (fun i => f (a + i)) m
  | 0 => by simp [catTo]
  | m + 1 => by
    show catTo f (a + m) ++ f (a + m) = catTo f a ++ (catTo (fun i => f (a + i)) m ++ f (a + m))
    rw [catTo_split f a m, List.append_assoc]
theorem catTo_congr {α : Type} {f g : Nat → List α} : ∀ m, (∀ i, i < m → f i = g i) → catTo f m = catTo g m
  | 0, _ => rfl
  | m + 1, h => by
    show catTo f m ++ f m = catTo g m ++ g m
    rw [catTo_congr m (fun i hi => h i (by omega)), h m (by omega)]
theorem blocks_first {f : Nat → List (Int × Int × Int)} : ∀ m, 0 < m → (∀ i, 0 < i → i < m → blocksOf (f i) = []) → blocksOf (catTo f m) = blocksOf (f 0)
  | 0, h, _ => by omega
  | 1, _, _ => by show blocksOf ([] ++ f 0) = _; rw [List.nil_append]
  | m + 2, _, h => by
    show blocksOf (catTo f (m + 1) ++ f (m + 1)) = _
    rw [blocksOf_app, blocks_first (m + 1) (by omega) (fun i h1 h2 => h i h1 (by omega)), h (m + 1) (by omega) (by omega), List.append_nil]
theorem blocks_page (HV : HeapV H n c) {q : Nat} {x : Int × Int} (hx : x ∈ blocksOf (H.partsAt q)) : H.K q ≠ 0 ∧ H.first q ≤ x.1 ∧ x.1 < H.first (H.nx q) := by
  have hm := mem_blocksOf.1 hx
  have hk : H.K q ≠ 0 := fun h => by rw [partsAt_no h] at hm; cases hm
  exact ⟨hk, (partsAt_contig HV hk).mem _ hm⟩
theorem first_mono (H : AuH) {a b : Nat} (h : a ≤ b) : H.first a ≤ H.first b := by
  unfold first
  exact Int.mul_le_mul_of_nonneg_right (by omega) (by omega)
theorem blocks_relaid (T : H.Relaid V L L' A k e) (h : H.Ok L) (HV : HeapV H n c) (hp10 : H.p ≤ 1024) :
    ∃ X Y, blocksOf H.parts = X ++ blocksOf (catTo (fun i => H.partsAt (A + i)) (k + e)) ++ Y ∧
      blocksOf (H.re V).parts = X ++ (if 0 < k then [(H.first A, (k : Int) * (H.pg : Int))] else []) ++ Y ∧
      (∀ b ∈ X, b.1 < H.first A) ∧ ∀ b ∈ Y, H.first (A + k + e) ≤ b.1 := by
  have hS := h.spans
  have hw := T.whole.le
  have hpos := T.pos
  have I := T.kinds hp10
  obtain ⟨r, hr⟩ : ∃ r, H.p = A + (k + e) + r := ⟨H.p - (A + (k + e)), by omega⟩
  have hout : ∀ q, q < H.p → ¬ (A ≤ q ∧ q < A + k + e) → (H.re V).partsAt q = H.partsAt q := fun q h1 h2 => by
    obtain ⟨a1, a2, a3⟩ := I.out q h1 h2
    obtain ⟨b4, b5⟩ := T.bits q h1
    unfold partsAt slotsTo slack slotPart sl zs first pg
    rw [a1, a2, a3, b4, b5]
    rfl
  refine ⟨blocksOf (catTo H.partsAt A), blocksOf (catTo (fun i => H.partsAt (A + (k + e) + i)) r), ?_, ?_, fun b hb => ?_, fun b hb => ?_⟩
  · unfold parts
    rw [hr, catTo_split _ (A + (k + e)) r, catTo_split _ A (k + e), blocksOf_app, blocksOf_app]
  · unfold parts
    show blocksOf (catTo (H.re V).partsAt H.p) = _
    rw [hr, catTo_split _ (A + (k + e)) r, catTo_split _ A (k + e), blocksOf_app, blocksOf_app,
      catTo_congr (f := (H.re V).partsAt) (g := H.partsAt) A (fun i hi => hout i (by omega) (by omega)),
      catTo_congr (f := fun i => (H.re V).partsAt (A + (k + e) + i)) (g := fun i => H.partsAt (A + (k + e) + i)) r (fun i hi => hout _ (by omega) (by omega))]
    congr 2
    rw [blocks_first (k + e) (by omega) (fun i h1 h2 => by
      by_cases h3 : 0 < e ∧ i = k
      · obtain ⟨h3, rfl⟩ := h3
        show blocksOf ((H.re V).partsAt (A + i)) = []
        unfold partsAt
        rw [if_pos (I.rest h3).1]
        exact blocksOf_no (by simp)
      · show blocksOf ((H.re V).partsAt (A + i)) = []
        rw [partsAt_no (I.none (A + i) (by omega) (by omega) (by omega) (by omega))]
        rfl)]
    show blocksOf ((H.re V).partsAt (A + 0)) = _
    rw [Nat.add_zero]
    by_cases hk : 0 < k
    · rw [if_pos hk]
      have h1 := I.used hk
      unfold partsAt
      rw [if_neg (by omega), if_pos h1.1, h1.2.1]
      exact blocksOf_yes rfl
    · rw [if_neg hk]
      have hk0 : k = 0 := by omega
      subst hk0
      have h1 := I.rest (by omega)
      rw [Nat.add_zero] at h1
      unfold partsAt
      rw [if_pos h1.1]
      exact blocksOf_no (by simp)
  · obtain ⟨q, hq, hx⟩ := (mem_catTo A).1 (mem_blocksOf.1 hb)
    obtain ⟨hk, h1, h2⟩ := blocks_page HV (mem_blocksOf.2 hx)
    have h3 := hS.ahead T.whole.first hq (by omega) hk
    have h4 := first_mono H h3
    omega
  · obtain ⟨i, hi, hx⟩ := (mem_catTo r).1 (mem_blocksOf.1 hb)
    obtain ⟨hk, h1, h2⟩ := blocks_page HV (mem_blocksOf.2 hx)
    have h4 := first_mono H (show A + k + e ≤ A + (k + e) + i by omega)
    omega
end AuH
end
end Go.Proofs.YtnamlhkccgnbfaaGreat
