/-
  Lists of pages, linked both ways, on values of cells; what pulling and pushing make of them. No program is named here but for the Views'.
-/
import Derived.Test.YtkbjckhbllmclaaGreatDoorT16
import Derived.Test.YtkbjckhbllmclaaGreatDoorT09
import Derived.Test.YtkbjckhbllmclaaGreatDoorT03
import Derived.Test.YtkbjckhbllmclaaGreatDoorT08
import Derived.Test.YtkbjckhbllmclaaGreatDoorT01
import Derived.Test.YtkbjckhbllmclaaGreatDoorT14
namespace Go.Proofs.YtkbjckhbllmclaaGreatDoor
open Go.ChangeShapes Go.WideShapes Go.ChangeAt Go.RowKit Go.Maps
set_option linter.unusedVariables false
set_option linter.unusedSimpArgs false
section
def upd (g : Int → Nat) (c : Int) (v : Nat) : Int → Nat := fun a => if a = c then v else g a
theorem upd_same (g : Int → Nat) (c : Int) (v : Nat) : upd g c v c = v := if_pos rfl
theorem upd_other (g : Int → Nat) {c a : Int} (v : Nat) (h : a ≠ c) : upd g c v a = g a := if_neg h

structure Geo (P : Nat) (nx pv : Nat → Int) (hd : Int) : Prop where
  nn : ∀ a b, nx a = nx b → a = b
  pp : ∀ a b, pv a = pv b → a = b
  np : ∀ a b, nx a ≠ pv b
  hn : ∀ a, hd ≠ nx a
  hp : ∀ a, hd ≠ pv a

def Seg (P : Nat) (nx pv : Nat → Int) (g : Int → Nat) : Nat → Nat → List Nat → Nat → Nat → Prop
  | a, x, [], a', x' => a = a' ∧ x = x'
  | a, x, p :: r, a', x' => (x = p + 1 ∧ p < P ∧ g (pv p) = a) ∧ Seg P nx pv g (p + 1) (g (nx p)) r a' x'

section
variable {P : Nat} {nx pv : Nat → Int} {hd : Int} {g g' : Int → Nat} {l l1 l2 : List Nat} {a x a' x' p : Nat}
theorem Seg.append : ∀ {l1 l2 : List Nat} {a x a' x' : Nat}, Seg P nx pv g a x (l1 ++ l2) a' x' ↔ ∃ b y, Seg P nx pv g a x l1 b y ∧ Seg P nx pv g b y l2 a' x'
  | [], l2, a, x, a', x' => by
    constructor
    · intro h; exact ⟨a, x, ⟨rfl, rfl⟩, h⟩
    · rintro ⟨b, y, ⟨rfl, rfl⟩, h⟩; exact h
  | p :: r, l2, a, x, a', x' => by
    constructor
    · rintro ⟨h1, h2⟩
      obtain ⟨b, y, h3, h4⟩ := Seg.append.1 h2
      exact ⟨b, y, ⟨h1, h3⟩, h4⟩
    · rintro ⟨b, y, ⟨h1, h3⟩, h4⟩
      exact ⟨h1, Seg.append.2 ⟨b, y, h3, h4⟩⟩
theorem Seg.frame : ∀ {l : List Nat} {a x a' x' : Nat}, Seg P nx pv g a x l a' x' → (∀ p ∈ l, g' (nx p) = g (nx p) ∧ g' (pv p) = g (pv p)) → Seg P nx pv g' a x l a' x'
  | [], a, x, a', x', h, _ => h
  | p :: r, a, x, a', x', ⟨⟨h1, h2, h3⟩, h4⟩, hf => by
    have hp := hf p (List.mem_cons_self ..)
    refine ⟨⟨h1, h2, by rw [hp.2]; exact h3⟩, ?_⟩
    rw [hp.1]
    exact Seg.frame h4 (fun q hq => hf q (List.mem_cons_of_mem _ hq))
theorem Seg.lt : ∀ {l : List Nat} {a x a' x' : Nat}, Seg P nx pv g a x l a' x' → ∀ p ∈ l, p < P
  | [], a, x, a', x', _, p, hp => by cases hp
  | q :: r, a, x, a', x', ⟨⟨_, h2, _⟩, h4⟩, p, hp => by
    rcases List.mem_cons.1 hp with rfl | hp
    · exact h2
    · exact h4.lt p hp
theorem Seg.last (h : Seg P nx pv g a x (l ++ [p]) a' x') : a' = p + 1 ∧ x' = g (nx p) := by
  obtain ⟨b, y, _, h2, h3⟩ := Seg.append.1 h
  exact ⟨h3.1.symm, h3.2.symm⟩
theorem Seg.head (h : Seg P nx pv g a x (p :: l) a' x') : x = p + 1 ∧ p < P ∧ g (pv p) = a := h.1

structure IsL (P : Nat) (nx pv : Nat → Int) (hd : Int) (g : Int → Nat) (l : List Nat) : Prop where
  seg : ∃ a, Seg P nx pv g 0 (g hd) l a 0
  nodup : l.Nodup

def lk1 : List Nat → Nat
  | [] => 0
  | p :: _ => p + 1
theorem Seg.first {a' : Nat} (h : Seg P nx pv g a x l a' 0) : x = lk1 l := by
  cases l with
  | nil => exact h.2
  | cons p r => exact h.1.1
theorem Seg.reprev (G : Geo P nx pv hd) {b : Nat} (hl : l.Nodup) (h : Seg P nx pv g a x l a' x') (h1 : ∀ p ∈ l, g' (nx p) = g (nx p)) (h2 : ∀ p ∈ l.drop 1, g' (pv p) = g (pv p)) (h3 : ∀ p r, l = p :: r → g' (pv p) = b) (h0 : l = [] → a' = a) :
    ∃ c, Seg P nx pv g' b x l c x' := by
  cases l with
  | nil => exact ⟨b, rfl, h.2⟩
  | cons p r =>
    refine ⟨a', ⟨h.1.1, h.1.2.1, h3 p r rfl⟩, ?_⟩
    rw [h1 p (List.mem_cons_self ..)]
    exact h.2.frame (fun q hq => ⟨h1 q (List.mem_cons_of_mem _ hq), h2 q (by simpa using hq)⟩)

def pull1G (nx pv : Nat → Int) (hd : Int) (p : Nat) (g : Int → Nat) : Int → Nat := if g (pv p) = 0 then upd g hd (g (nx p)) else upd g (nx (g (pv p) - 1)) (g (nx p))
def pull2G (nx pv : Nat → Int) (hd : Int) (p : Nat) (g : Int → Nat) : Int → Nat := if g (nx p) = 0 then pull1G nx pv hd p g else upd (pull1G nx pv hd p g) (pv (g (nx p) - 1)) (g (pv p))
def pullG (nx pv : Nat → Int) (hd : Int) (p : Nat) (g : Int → Nat) : Int → Nat := upd (upd (pull2G nx pv hd p g) (nx p) 0) (pv p) 0
theorem pull_far (G : Geo P nx pv hd) (hl : (l1 ++ p :: l2).Nodup) (hs : Seg P nx pv g 0 (g hd) (l1 ++ p :: l2) a' 0) {c : Int} (c1 : c ≠ hd) (c2 : ∀ u ∈ l1 ++ p :: l2, c ≠ nx u ∧ c ≠ pv u) : pullG nx pv hd p g c = g c := by
  obtain ⟨b, y, s1, ⟨s2, s3, s4⟩, s5⟩ := Seg.append.1 hs
  have cp := c2 p (by simp)
  unfold pullG
  rw [upd_other _ _ cp.2, upd_other _ _ cp.1]
  have b1 : pull1G nx pv hd p g c = g c := by
    unfold pull1G
    split
    · exact upd_other _ _ c1
    · rename_i hz
      rw [s4] at hz ⊢
      rcases List.eq_nil_or_concat l1 with rfl | ⟨m1, u, rfl⟩
      · exact absurd s1.1.symm hz
      · rw [List.concat_eq_append] at s1 c2
        have := s1.last.1
        rw [this]
        exact upd_other _ _ (c2 u (by simp)).1
  unfold pull2G
  split
  · exact b1
  · rename_i hz
    have hx := s5.first
    cases l2 with
    | nil => exact absurd hx hz
    | cons v r =>
      have hx : g (nx p) = v + 1 := hx
      rw [hx, Nat.add_sub_cancel, upd_other _ _ (c2 v (by simp)).2]
      exact b1
theorem IsL.pull (G : Geo P nx pv hd) (h : IsL P nx pv hd g (l1 ++ p :: l2)) : IsL P nx pv hd (pullG nx pv hd p g) (l1 ++ l2) := by
  obtain ⟨⟨a', hs⟩, hl⟩ := h
  obtain ⟨b, y, s1, ⟨s2, s3, s4⟩, s5⟩ := Seg.append.1 hs
  have hx := s5.first
  have hnd := hl
  rw [List.nodup_append] at hnd
  obtain ⟨n1, n2, n3⟩ := hnd
  rw [List.nodup_cons] at n2
  obtain ⟨n4, n5⟩ := n2
  have q1 : ∀ u ∈ l1, u ≠ p := fun u hu => n3 u hu p (List.mem_cons_self ..)
  have q2 : ∀ u ∈ l2, u ≠ p := fun u hu e => n4 (e ▸ hu)
  have q3 : ∀ u ∈ l1, ∀ v ∈ l2, u ≠ v := fun u hu v hv => n3 u hu v (List.mem_cons_of_mem _ hv)
  -- what the cells are, but for those of p
  have w0 : ∀ c, c ≠ nx p → c ≠ pv p → pullG nx pv hd p g c = pull2G nx pv hd p g c := fun c c1 c2 => by unfold pullG; rw [upd_other _ _ c2, upd_other _ _ c1]
  have w1 : ∀ c, (∀ v r, l2 = v :: r → c ≠ pv v) → pull2G nx pv hd p g c = pull1G nx pv hd p g c := fun c c1 => by
    unfold pull2G
    split
    · rfl
    · rename_i hz
      cases l2 with
      | nil => exact absurd hx hz
      | cons v r =>
        have hx : g (nx p) = v + 1 := hx
        rw [hx, Nat.add_sub_cancel, upd_other _ _ (c1 v r rfl)]
  have w2 : ∀ v r, l2 = v :: r → pull2G nx pv hd p g (pv v) = b := fun v r e => by
    subst e
    have hx : g (nx p) = v + 1 := hx
    unfold pull2G
    rw [if_neg (by omega), hx, Nat.add_sub_cancel, upd_same, s4]
  have hs1 : ∃ b', Seg P nx pv (pullG nx pv hd p g) 0 (pullG nx pv hd p g hd) l1 b' (lk1 l2) ∧ b' = b := by
    have hdw : pullG nx pv hd p g hd = pull1G nx pv hd p g hd := by rw [w0 _ (G.hn p) (G.hp p), w1 _ (fun v r _ => G.hp v)]
    rcases List.eq_nil_or_concat l1 with rfl | ⟨m1, u, rfl⟩
    · have hb : b = 0 := s1.1.symm
      refine ⟨0, ⟨rfl, ?_⟩, hb.symm⟩
      rw [hdw]
      unfold pull1G
      rw [if_pos (by rw [s4]; exact hb), upd_same, hx]
    · rw [List.concat_eq_append] at *
      have hbu := s1.last.1
      have hb0 : ¬ g (pv p) = 0 := by rw [s4, hbu]; omega
      have w3 : ∀ c, c ≠ nx u → pull1G nx pv hd p g c = g c := fun c c1 => by
        unfold pull1G
        rw [if_neg hb0, s4, hbu, Nat.add_sub_cancel, upd_other _ _ c1]
      have w4 : pull1G nx pv hd p g (nx u) = lk1 l2 := by
        unfold pull1G
        rw [if_neg hb0, s4, hbu, Nat.add_sub_cancel, upd_same, hx]
      obtain ⟨b0, y0, t1, ⟨t2, t3, t4⟩, t5⟩ := Seg.append.1 s1
      have hum : ∀ v ∈ m1, v ≠ u := fun v hv => by
        have n1' := n1
        rw [List.nodup_append] at n1'
        exact n1'.2.2 v hv u (by simp)
      have k1 : Seg P nx pv (pullG nx pv hd p g) 0 (pullG nx pv hd p g hd) m1 b0 y0 := by
        rw [hdw, w3 _ (G.hn u)]
        refine t1.frame (fun v hv => ⟨?_, ?_⟩)
        · rw [w0 _ (fun e => q1 v (by simp [hv]) (G.nn _ _ e)) (G.np _ _), w1 _ (fun _ _ _ => G.np _ _), w3 _ (fun e => hum v hv (G.nn _ _ e))]
        · rw [w0 _ (fun e => G.np _ _ e.symm) (fun e => q1 v (by simp [hv]) (G.pp _ _ e)), w1 _ (fun z r hz e => q3 v (by simp [hv]) z (by rw [hz]; simp) (G.pp _ _ e)), w3 _ (fun e => G.np _ _ e.symm)]
      have k2 : pullG nx pv hd p g (pv u) = b0 := by
        rw [w0 _ (fun e => G.np _ _ e.symm) (fun e => q1 u (by simp) (G.pp _ _ e)), w1 _ (fun z r hz e => q3 u (by simp) z (by rw [hz]; simp) (G.pp _ _ e)), w3 _ (fun e => G.np _ _ e.symm), t4]
      have k3 : pullG nx pv hd p g (nx u) = lk1 l2 := by
        rw [w0 _ (fun e => q1 u (by simp) (G.nn _ _ e)) (G.np _ _), w1 _ (fun _ _ _ => G.np _ _), w4]
      exact ⟨b, Seg.append.2 ⟨b0, y0, k1, ⟨t2, t3, k2⟩, hbu.symm, k3⟩, rfl⟩
  obtain ⟨b', h1, rfl⟩ := hs1
  have w5 : ∀ c, c ≠ hd → (∀ u ∈ l1, c ≠ nx u) → pull1G nx pv hd p g c = g c := fun c c1 c2 => by
    unfold pull1G
    split
    · exact upd_other _ _ c1
    · rename_i hz
      rw [s4] at hz ⊢
      rcases List.eq_nil_or_concat l1 with rfl | ⟨m1, u, rfl⟩
      · exact absurd s1.1.symm hz
      · rw [List.concat_eq_append] at s1 c2
        have := s1.last.1
        rw [this]
        exact upd_other _ _ (c2 u (by simp))
  have hd2 : ∀ u r, l2 = u :: r → ∀ v ∈ r, v ≠ u := fun u r hl v hv e => by
    subst hl
    rw [List.nodup_cons] at n5
    exact n5.1 (e ▸ hv)
  obtain ⟨c, hc⟩ := s5.reprev (g' := pullG nx pv hd p g) (b := b') G n5
    (fun u hu => by rw [w0 _ (fun e => q2 u hu (G.nn _ _ e)) (G.np _ _), w1 _ (fun _ _ _ => G.np _ _), w5 _ (G.hn u).symm (fun v hv e => q3 v hv u hu (G.nn _ _ e.symm))])
    (fun u hu => by
      have hu' := List.mem_of_mem_drop hu
      rw [w0 _ (fun e => G.np _ _ e.symm) (fun e => q2 u hu' (G.pp _ _ e)), w1 _ (fun z r hz e => by
        have := G.pp _ _ e
        subst hz
        exact hd2 z r rfl u (by simpa using hu) this), w5 _ (G.hp u).symm (fun v hv e => G.np _ _ e.symm)])
    (fun v r e => by rw [w0 _ (fun e => G.np _ _ e.symm) (fun e2 => q2 v (by rw [e]; simp) (G.pp _ _ e2)), w2 v r e])
    (fun e => by subst e; exact s5.1.symm)
  rw [hx] at hc
  refine ⟨⟨c, Seg.append.2 ⟨b', _, h1, hc⟩⟩, ?_⟩
  rw [List.nodup_append]
  exact ⟨n1, n5, fun u hu v hv => q3 u hu v hv⟩
end
end
section
structure VW (n : Nat) (K : Nat → Option Nat) (s : Vst) : Prop where
  all : ∀ i, i < n → ∃ v, K i = some v
  lost : s.lost = false
section
variable {n : Nat} {K : Nat → Option Nat} {s : Vst} {c : Int} {v : Nat}
theorem VW.at_ (h : VW n K s) {i : Nat} (hi : i < n) : getV n K s (i : Int) = (match pos s.wr i with | some k => atW s.wr k | none => (K i).getD 0) := by
  have ho := opn_yes hi h.lost
  unfold getV
  rw [if_pos ho, Int.toNat_natCast]
  cases pos s.wr i <;> rfl
theorem getV_far (n : Nat) (K : Nat → Option Nat) (s : Vst) {a : Int} (h : ¬ (0 ≤ a ∧ a < n)) : getV n K s a = 0 := getV_no (by unfold opn; simp; intro _ h1; omega)
theorem VW.get (h : VW n K s) (c : Int) : VW n K (getS n K s c) ∧ getV n K (getS n K s c) = getV n K s := by
  by_cases ho : opn n s c = true
  · obtain ⟨i, rfl, hi, hl⟩ := opn_at ho
    cases hp : pos s.wr i with
    | some k => rw [getS_put ho hp]; exact ⟨h, rfl⟩
    | none =>
      obtain ⟨v, hv⟩ := h.all i hi
      rw [getS_known ho hp hv]
      have e1 : (noteS s i).wr = s.wr ∧ (noteS s i).lost = s.lost := by unfold noteS; split <;> exact ⟨rfl, rfl⟩
      refine ⟨⟨h.all, e1.2.trans h.lost⟩, ?_⟩
      funext a
      unfold getV opn
      rw [e1.1, e1.2]
  · rw [getS_no (by simpa using ho)]; exact ⟨h, rfl⟩
theorem VW.put (h : VW n K s) {i : Nat} (hi : i < n) (v : Nat) : VW n K (putS n s (i : Int) v) ∧ getV n K (putS n s (i : Int) v) = upd (getV n K s) (i : Int) v := by
  have ho := opn_yes hi h.lost
  have hV : VW n K (putS n s (i : Int) v) := ⟨h.all, by rw [putS_yes ho]; exact h.lost⟩
  refine ⟨hV, ?_⟩
  funext a
  by_cases ha : 0 ≤ a ∧ a < n
  · obtain ⟨j, rfl⟩ := Int.eq_ofNat_of_zero_le ha.1
    have hj : j < n := by omega
    rw [hV.at_ hj]
    have hw : (putS n s (i : Int) v).wr = putW s.wr i v := by rw [putS_yes ho]
    rw [hw, pos_putW]
    unfold upd
    cases hp : pos s.wr i with
    | some k =>
      obtain ⟨hk, hc⟩ := pos_some hp
      rw [putW_some hp]
      simp only
      by_cases e : j = i
      · subst e
        rw [if_pos rfl, hp]
        simp [atW, List.getD, hk]
      · rw [if_neg (by omega), h.at_ hj]
        cases hq : pos s.wr j with
        | none => rfl
        | some m =>
          have hm := pos_some hq
          have : m ≠ k := fun e2 => by subst e2; exact e (hm.2.symm.trans hc)
          simp [atW, List.getD, List.getElem?_set_ne (Ne.symm this)]
    | none =>
      rw [putW_none hp]
      simp only
      by_cases e : j = i
      · subst e
        rw [if_pos rfl, if_pos rfl]
        simp [atW, List.getD]
      · rw [if_neg e, if_neg (by omega), h.at_ hj]
        cases hq : pos s.wr j with
        | none => rfl
        | some m =>
          have hm := pos_some hq
          simp [atW, List.getD, List.getElem?_append_left hm.1]
  · rw [getV_far n K _ ha]
    unfold upd
    rw [if_neg (by omega), getV_far n K _ ha]
end

def nxH (t p : Nat) : Int := ((30 + 4 * t + 6 * p + 2 : Nat) : Int)
def pvH (t p : Nat) : Int := ((30 + 4 * t + 6 * p + 3 : Nat) : Int)
theorem geo (P t hd : Nat) (h : hd < 30) : Geo P (nxH t) (pvH t) (hd : Int) :=
  ⟨fun a b e => by unfold nxH at e; omega, fun a b e => by unfold pvH at e; omega, fun a b e => by unfold nxH pvH at e; omega, fun a e => by unfold nxH at e; omega, fun a e => by unfold pvH at e; omega⟩

section
variable {t P s n hd : Nat} {K : Nat → Option Nat} {st : Vst} {l l1 l2 : List Nat} {p : Nat}
structure Fit (t P s n : Nat) : Prop where
  right : rightB t P s = true
  len : n = 30 + 4 * t + 6 * P
theorem Fit.nums (h : Fit t P s n) : 4 ≤ P ∧ P ≤ 1024 := by
  have := (rightB_iff _ _ _).1 h.right
  omega
theorem Fit.nx (h : Fit t P s n) (hp : p < P) : pageI (t : Int) (P : Int) (s : Int) (p : Int) 2 = nxH t p := by
  rw [pcell_yes h.right (by omega) (by omega) (by omega) (by omega)]
  unfold nxH
  push_cast
  omega
theorem Fit.pv (h : Fit t P s n) (hp : p < P) : pageI (t : Int) (P : Int) (s : Int) (p : Int) 3 = pvH t p := by
  rw [pcell_yes h.right (by omega) (by omega) (by omega) (by omega)]
  unfold pvH
  push_cast
  omega
theorem Fit.nxl (h : Fit t P s n) {x : Nat} (h0 : x ≠ 0) (hp : x - 1 < P) : pageI (t : Int) (P : Int) (s : Int) ((x : Int) - 1) 2 = nxH t (x - 1) := by
  rw [← h.nx hp]
  congr 1
  omega
theorem Fit.pvl (h : Fit t P s n) {x : Nat} (h0 : x ≠ 0) (hp : x - 1 < P) : pageI (t : Int) (P : Int) (s : Int) ((x : Int) - 1) 3 = pvH t (x - 1) := by
  rw [← h.pv hp]
  congr 1
  omega
theorem Fit.putN (h : Fit t P s n) (hV : VW n K st) (hp : p < P) (v : Nat) : VW n K (putS n st (nxH t p) v) ∧ getV n K (putS n st (nxH t p) v) = upd (getV n K st) (nxH t p) v := hV.put (by have := h.len; omega) v
theorem Fit.putP (h : Fit t P s n) (hV : VW n K st) (hp : p < P) (v : Nat) : VW n K (putS n st (pvH t p) v) ∧ getV n K (putS n st (pvH t p) v) = upd (getV n K st) (pvH t p) v := hV.put (by have := h.len; omega) v
theorem Fit.putH (h : Fit t P s n) (hV : VW n K st) (hh : hd < 30) (v : Nat) : VW n K (putS n st (hd : Int) v) ∧ getV n K (putS n st (hd : Int) v) = upd (getV n K st) (hd : Int) v := hV.put (by have := h.len; omega) v

theorem Fit.pull (h : Fit t P s n) (hh : hd < 30) (hV : VW n K st) (hp : p < P) (hx : getV n K st (nxH t p) = 0 ∨ getV n K st (nxH t p) - 1 < P) (hy : getV n K st (pvH t p) = 0 ∨ getV n K st (pvH t p) - 1 < P) :
    VW n K (pullS n K t P s hd p st) ∧ getV n K (pullS n K t P s hd p st) = pullG (nxH t) (pvH t) hd p (getV n K st) := by
  obtain ⟨a1, a2⟩ := hV.get (nxH t p)
  obtain ⟨b1, b2⟩ := a1.get (pvH t p)
  have eN : pullN n K t P s p st = getV n K st (nxH t p) := by unfold pullN; rw [h.nx hp]
  have eB : pullB n K t P s p st = getV n K st (pvH t p) := by unfold pullB; rw [h.nx hp, h.pv hp, a2]
  have e0 : pull0 n K t P s p st = getS n K (getS n K st (nxH t p)) (pvH t p) := by unfold pull0; rw [h.nx hp, h.pv hp]
  rw [← e0] at b1 b2
  rw [a2] at b2
  have c : VW n K (pull1 n K t P s hd p st) ∧ getV n K (pull1 n K t P s hd p st) = pull1G (nxH t) (pvH t) hd p (getV n K st) := by
    unfold pull1 pull1G
    rw [eB, eN]
    by_cases hz : getV n K st (pvH t p) = 0
    · rw [if_pos hz, if_pos hz]
      obtain ⟨d1, d2⟩ := h.putH b1 hh (getV n K st (nxH t p))
      rw [b2] at d2
      exact ⟨d1, d2⟩
    · rw [if_neg hz, if_neg hz, h.nxl hz (by omega)]
      obtain ⟨d1, d2⟩ := h.putN b1 (show getV n K st (pvH t p) - 1 < P by omega) (getV n K st (nxH t p))
      rw [b2] at d2
      exact ⟨d1, d2⟩
  have d : VW n K (pull2 n K t P s hd p st) ∧ getV n K (pull2 n K t P s hd p st) = pull2G (nxH t) (pvH t) hd p (getV n K st) := by
    unfold pull2 pull2G
    rw [eB, eN]
    by_cases hz : getV n K st (nxH t p) = 0
    · rw [if_pos hz, if_pos hz]
      exact c
    · rw [if_neg hz, if_neg hz, h.pvl hz (by omega)]
      obtain ⟨d1, d2⟩ := h.putP c.1 (show getV n K st (nxH t p) - 1 < P by omega) (getV n K st (pvH t p))
      rw [c.2] at d2
      exact ⟨d1, d2⟩
  unfold pullS pullG
  rw [h.nx hp, h.pv hp]
  obtain ⟨f1, f2⟩ := h.putN d.1 hp 0
  obtain ⟨g1, g2⟩ := h.putP f1 hp 0
  rw [f2, d.2] at g2
  exact ⟨g1, g2⟩

def HasL (t P hd n : Nat) (K : Nat → Option Nat) (st : Vst) (l : List Nat) : Prop := IsL P (nxH t) (pvH t) hd (getV n K st) l
theorem HasL.lt (h : HasL t P hd n K st l) : ∀ u ∈ l, u < P := by obtain ⟨⟨a, hs⟩, _⟩ := h; exact hs.lt
theorem HasL.len (h : HasL t P hd n K st l) : l.length ≤ P := nodup_few P l h.lt h.nodup
theorem walkF_seg (h : Fit t P s n) : ∀ (l : List Nat) (m x a a' : Nat) (st : Vst), VW n K st → l.length ≤ m → Seg P (nxH t) (pvH t) (getV n K st) a x l a' 0 →
    (walkF n K t P s m x st).1 = l ∧ VW n K (walkF n K t P s m x st).2 ∧ getV n K (walkF n K t P s m x st).2 = getV n K st
  | [], m, x, a, a', st, hV, hm, hs => by
    have hx : x = 0 := hs.2
    subst hx
    rw [walkF_end n K t P s (by omega)]
    exact ⟨rfl, hV, rfl⟩
  | p :: r, m, x, a, a', st, hV, hm, hs => by
    obtain ⟨⟨rfl, hp, _⟩, hr⟩ := hs
    obtain ⟨m', rfl⟩ : ∃ m', m = m' + 1 := ⟨m - 1, by simp at hm; omega⟩
    have hc : pageI (t : Int) (P : Int) (s : Int) (((p + 1 : Nat) : Int) - 1) 2 = nxH t p := by rw [h.nxl (by omega) (by omega)]; rfl
    rw [walkF_step n K t P s ⟨by omega, by omega⟩, hc]
    obtain ⟨g1, g2⟩ := hV.get (nxH t p)
    obtain ⟨i1, i2, i3⟩ := walkF_seg h r m' (getV n K st (nxH t p)) (p + 1) a' (getS n K st (nxH t p)) g1 (by simp at hm; omega) (by rw [g2]; exact hr)
    exact ⟨by rw [i1]; simp, i2, i3.trans g2⟩
theorem HasL.walk (h : HasL t P hd n K st l) (hf : Fit t P s n) (hV : VW n K st) : walkL n K t P s hd st = l ∧ VW n K (walkS n K t P s hd st) ∧ getV n K (walkS n K t P s hd st) = getV n K st := by
  obtain ⟨⟨a, hs⟩, hd'⟩ := id h
  obtain ⟨g1, g2⟩ := hV.get (hd : Int)
  have := walkF_seg hf l (P : Int).toNat (getV n K st hd) 0 a (getS n K st hd) g1 (by rw [Int.toNat_natCast]; exact h.len) (by rw [g2]; exact hs)
  exact ⟨this.1, this.2.1, this.2.2.trans g2⟩
theorem HasL.links (h : HasL t P hd n K st (l1 ++ p :: l2)) : p < P ∧ (getV n K st (nxH t p) = 0 ∨ getV n K st (nxH t p) - 1 < P) ∧ (getV n K st (pvH t p) = 0 ∨ getV n K st (pvH t p) - 1 < P) := by
  have hlt := h.lt
  obtain ⟨⟨a, hs⟩, _⟩ := h
  obtain ⟨b, y, s1, ⟨s2, s3, s4⟩, s5⟩ := Seg.append.1 hs
  refine ⟨s3, ?_, ?_⟩
  · have := s5.first
    cases l2 with
    | nil => exact .inl this
    | cons u r => right; have h2 := hlt u (by simp); have h3 : getV n K st (nxH t p) = u + 1 := this; omega
  · rw [s4]
    rcases List.eq_nil_or_concat l1 with rfl | ⟨m1, u, rfl⟩
    · exact .inl s1.1.symm
    · rw [List.concat_eq_append] at s1 hlt
      right
      have h2 := hlt u (by simp)
      have h3 := s1.last.1
      omega
theorem HasL.pull (h : HasL t P hd n K st (l1 ++ p :: l2)) (hf : Fit t P s n) (hh : hd < 30) (hV : VW n K st) :
    HasL t P hd n K (pullS n K t P s hd p st) (l1 ++ l2) ∧ VW n K (pullS n K t P s hd p st) := by
  obtain ⟨hp, hx, hy⟩ := h.links
  obtain ⟨h2, h3⟩ := hf.pull hh hV hp hx hy
  refine ⟨?_, h2⟩
  unfold HasL
  rw [h3]
  exact IsL.pull (geo P t hd hh) h
theorem HasL.other {hd2 : Nat} {l' : List Nat} (h : HasL t P hd n K st (l1 ++ p :: l2)) (hf : Fit t P s n) (hh : hd < 30) (hV : VW n K st) (h2 : HasL t P hd2 n K st l') (hne : hd2 ≠ hd) (hh2 : hd2 < 30) (hap : ∀ u ∈ l', ¬ u ∈ l1 ++ p :: l2) :
    HasL t P hd2 n K (pullS n K t P s hd p st) l' := by
  obtain ⟨hp, hx, hy⟩ := h.links
  obtain ⟨_, h3⟩ := hf.pull hh hV hp hx hy
  have G := geo P t hd hh
  have G2 := geo P t hd2 hh2
  obtain ⟨⟨a, hs⟩, hnd⟩ := h
  obtain ⟨⟨a2, hs2⟩, hnd2⟩ := h2
  unfold HasL
  rw [h3]
  refine ⟨⟨a2, ?_⟩, hnd2⟩
  rw [pull_far G hnd hs (c := (hd2 : Int)) (by omega) (fun u _ => ⟨G2.hn u, G2.hp u⟩)]
  refine hs2.frame (fun u hu => ⟨?_, ?_⟩)
  · refine pull_far G hnd hs (G.hn u).symm (fun v hv => ⟨fun e => hap u hu (by rw [G.nn _ _ e]; exact hv), G.np _ _⟩)
  · refine pull_far G hnd hs (G.hp u).symm (fun v hv => ⟨fun e => G.np _ _ e.symm, fun e => hap u hu (by rw [G.pp _ _ e]; exact hv)⟩)
end

namespace AuH
variable {H : AuH}
end AuH
section
variable {H : AuH} {n c hd : Nat} {K : Nat → Option Nat} {l : List Nat}
theorem HeapV.fit (HV : HeapV H n c) : Fit H.t H.p H.s n := ⟨HV.right, HV.len⟩
end
end
section
namespace AuH
def re (H : AuH) (V : Nat → Nat) : AuH := ⟨H.t, H.p, H.s, V⟩
structure Twin (H : AuH) (V : Nat → Nat) : Prop where
  cel : ∀ q b, b < 6 → b ≠ 2 → b ≠ 3 → (H.re V).cel q b = H.cel q b
  v0 : V 0 = H.V 0
  v1 : V 1 = H.V 1
  root : ∀ i, i < 8 → V (22 + i) = H.V (22 + i)
variable {H : AuH} {V : Nat → Nat}
namespace Twin
theorem c0 (T : H.Twin V) (q : Nat) : (H.re V).cel q 0 = H.cel q 0 := T.cel q 0 (by omega) (by omega) (by omega)
theorem c1 (T : H.Twin V) (q : Nat) : (H.re V).cel q 1 = H.cel q 1 := T.cel q 1 (by omega) (by omega) (by omega)
theorem c4 (T : H.Twin V) (q : Nat) : (H.re V).cel q 4 = H.cel q 4 := T.cel q 4 (by omega) (by omega) (by omega)
theorem c5 (T : H.Twin V) (q : Nat) : (H.re V).cel q 5 = H.cel q 5 := T.cel q 5 (by omega) (by omega) (by omega)
theorem K (T : H.Twin V) (q : Nat) : (H.re V).K q = H.K q := by unfold AuH.K; rw [T.c0]
theorem L (T : H.Twin V) (q : Nat) : (H.re V).L q = H.L q := by unfold AuH.L; rw [T.c0]
theorem Cl (T : H.Twin V) (q : Nat) : (H.re V).Cl q = H.Cl q := by unfold AuH.Cl; rw [T.c0]
theorem ln (T : H.Twin V) (q : Nat) : (H.re V).ln q = H.ln q := by unfold AuH.ln; rw [T.L]
theorem can (T : H.Twin V) (q : Nat) : (H.re V).can q = H.can q := by unfold AuH.can; rw [T.K, T.ln]; rfl
theorem nx (T : H.Twin V) (q : Nat) : (H.re V).nx q = H.nx q := by unfold AuH.nx; rw [T.ln]
theorem at_to (T : H.Twin V) {q : Nat} (h : H.At q) : (H.re V).At q := by
  induction h with
  | zero => exact .zero
  | step h hc ih =>
    rename_i q
    have := At.step ih (by rw [T.can]; exact hc)
    rwa [T.nx] at this
theorem at_of (T : H.Twin V) {q : Nat} (h : (H.re V).At q) : H.At q := by
  induction h with
  | zero => exact .zero
  | step h hc ih =>
    rename_i q
    rw [T.can] at hc
    have := At.step ih hc
    rwa [T.nx]
theorem tiled (T : H.Twin V) (h : H.Tiled) : (H.re V).Tiled := by
  refine ⟨T.at_to h.1, fun a ha hc hp q h1 h2 => ?_⟩
  rw [T.c0]
  rw [T.can] at hc
  rw [T.nx] at h2
  exact h.2 a (T.at_of ha) hc hp q h1 h2
theorem r3 (T : H.Twin V) (h : H.R3) : (H.re V).R3 := fun q hq hk => by
  rw [T.K] at hk
  obtain ⟨h1, h2⟩ := h q hq hk
  refine ⟨fun r hr h3 => ?_, ?_⟩
  · rw [T.ln] at h3
    rw [T.c1]
    exact h1 r hr h3
  · rw [T.ln, T.c1]
    exact h2
theorem r4 (T : H.Twin V) (h : H.R4) : (H.re V).R4 := fun q ha hq hk hn => by
  rw [T.K] at hk
  rw [T.nx] at hn ⊢
  rw [T.K]
  exact h q (T.at_of ha) hq hk hn
theorem r5 (T : H.Twin V) (h : H.R5) : (H.re V).R5 := fun q hq => by
  have h1 := h q hq
  unfold Slot5 at h1 ⊢
  rw [T.K, T.c5, T.c4, T.Cl]
  exact h1
theorem tgt (T : H.Twin V) (q : Nat) : (H.re V).tgt q = H.tgt q := by unfold AuH.tgt; rw [T.K, T.ln, T.Cl, T.c5]
theorem isF (T : H.Twin V) (hd : Int) : (H.re V).isF hd = H.isF hd := by funext q; unfold AuH.isF; rw [T.tgt]
theorem cnt (T : H.Twin V) (hd : Int) (x : Nat) : (H.re V).cnt hd x = H.cnt hd x := by unfold AuH.cnt; rw [T.isF]
theorem r9 (T : H.Twin V) (h : H.R9) : (H.re V).R9 := by
  have e1 : (H.re V).freeF = H.freeF := by funext q; unfold freeF; rw [T.K, T.ln]
  have e2 : (H.re V).liveF = H.liveF := by funext q; unfold liveF; rw [T.K, T.c4]
  unfold R9
  rw [e1, e2]
  exact ⟨T.v0.trans h.1, T.v1.trans h.2⟩
theorem liveAt (T : H.Twin V) (a : Int) : (H.re V).LiveAt a ↔ H.LiveAt a := by
  unfold LiveAt
  simp only [T.K, T.Cl, T.c4]
  exact Iff.rfl
theorem r10 (T : H.Twin V) (h : H.R10) : (H.re V).R10 := fun i hi hv => by
  have e : (H.re V).V (22 + i) = H.V (22 + i) := T.root i hi
  rw [e] at hv ⊢
  exact (T.liveAt _).2 (h i hi hv)
theorem partsAt (T : H.Twin V) : (H.re V).partsAt = H.partsAt := by
  funext q
  unfold AuH.partsAt slotsTo slack slotPart sl zs first pg
  simp only [T.K, T.ln, T.Cl, T.c4, T.c5]
  rfl
theorem parts (T : H.Twin V) : (H.re V).parts = H.parts := by unfold AuH.parts; rw [T.partsAt]; rfl
theorem told (T : H.Twin V) (h : ∀ i, i < 10 → H.rule i) (hl : ∀ hd, 2 ≤ hd → hd ≤ 21 → (H.re V).ListOk hd) (h8 : ∀ q, q < H.p → H.tgt q = -1 → (H.re V).cel q 2 = H.cel q 2 ∧ (H.re V).cel q 3 = H.cel q 3) : ∀ i, i < 10 → (H.re V).rule i
  | 0, _ => trivial
  | 1, _ => T.tiled (h 1 (by omega))
  | 2, _ => T.r3 (h 2 (by omega))
  | 3, _ => T.r4 (h 3 (by omega))
  | 4, _ => T.r5 (h 4 (by omega))
  | 5, _ => fun k hk => hl (2 + k) (by omega) (by omega)
  | 6, _ => fun k hk => hl (13 + k) (by omega) (by omega)
  | 7, _ => fun q hq ht => by
    rw [T.tgt] at ht
    have h1 : H.R8 := h 7 (by omega)
    rw [(h8 q hq ht).1, (h8 q hq ht).2]
    exact h1 q hq ht
  | 8, _ => T.r9 (h 8 (by omega))
  | 9, _ => T.r10 (h 9 (by omega))
  | i + 10, hi => absurd hi (by omega)
end Twin
end AuH

section
variable {H : AuH} {hd : Nat} {g : Int → Nat} {l : List Nat}
theorem seg_path (hg : ∀ i : Nat, i < 30 + 4 * H.t + 6 * H.p → g i = H.V i) (hh : hd < 30) : ∀ (l : List Nat) {a x : Nat}, Seg H.p (nxH H.t) (pvH H.t) g 0 (g hd) l a x → H.Path hd l x a := by
  intro l
  induction hn : l.length generalizing l with
  | zero =>
    intro a x h
    have : l = [] := List.eq_nil_of_length_eq_zero hn
    subst this
    obtain ⟨rfl, rfl⟩ := h
    rw [hg hd (by omega)]
    exact .nil
  | succ n ih =>
    intro a x h
    rcases List.eq_nil_or_concat l with rfl | ⟨m, p, rfl⟩
    · simp at hn
    · rw [List.concat_eq_append] at h hn ⊢
      obtain ⟨b, y, s1, ⟨rfl, s3, s4⟩, s5, s6⟩ := Seg.append.1 h
      have h1 := ih m (by simpa using hn) s1
      have h2 := AuH.Path.snoc h1 (by omega) (by omega) (by
        show H.cel (p + 1 - 1) 3 = b
        rw [Nat.add_sub_cancel, ← s4]
        unfold pvH
        rw [hg _ (by omega)]
        rfl)
      rw [Nat.add_sub_cancel] at h2
      subst s5
      have e : H.cel p 2 = x := by
        rw [← s6]
        unfold nxH
        rw [hg _ (by omega)]
        rfl
      rw [e] at h2
      exact h2
theorem listOk_of (hg : ∀ i : Nat, i < 30 + 4 * H.t + 6 * H.p → g i = H.V i) (hh : hd < 30) (hl : IsL H.p (nxH H.t) (pvH H.t) hd g l) (ht : ∀ y ∈ l, H.tgt y = hd) (hc : l.length = H.cnt hd H.p) : H.ListOk hd := by
  obtain ⟨⟨a, hs⟩, _⟩ := hl
  have := AuH.path_chain (seg_path hg hh l hs) (m := 0) ht rfl
  rw [Nat.add_zero, hc] at this
  exact this
end
end
section
section
variable {H : AuH} {n c hd : Nat} {g0 g' : Int → Nat} {l l' : List Nat}
def ListCell (t hd : Nat) (l : List Nat) (c : Int) : Prop := c = hd ∨ ∃ u ∈ l, c = nxH t u ∨ c = pvH t u
end

section
variable {P hd t : Nat} {g : Int → Nat} {l l1 l2 : List Nat} {p a' : Nat}
theorem pull_far' (hh : hd < 30) (hl : (l1 ++ p :: l2).Nodup) (hs : Seg P (nxH t) (pvH t) g 0 (g hd) (l1 ++ p :: l2) a' 0) {c : Int} (hc : ¬ ListCell t hd (l1 ++ p :: l2) c) : pullG (nxH t) (pvH t) hd p g c = g c :=
  pull_far (geo P t hd hh) hl hs (fun e => hc (.inl e)) (fun u hu => ⟨fun e => hc (.inr ⟨u, hu, .inl e⟩), fun e => hc (.inr ⟨u, hu, .inr e⟩)⟩)
end
end
section
namespace AuH
structure Spans (H : AuH) : Prop where
  pos : 0 < H.p
  zero : H.K 0 ≠ 0
  fit : ∀ q, q < H.p → H.K q ≠ 0 → H.nx q ≤ H.p
  next : ∀ q, q < H.p → H.K q ≠ 0 → H.nx q < H.p → H.K (H.nx q) ≠ 0
  inside : ∀ q r, q < H.p → H.K q ≠ 0 → q < r → r < H.nx q → H.cel r 0 = 0
  none : ∀ q, q < H.p → H.K q = 0 → H.cel q 0 = 0
variable {H : AuH}
theorem Spans.at_ (h : H.Spans) {q : Nat} (ha : H.At q) : q = H.p ∨ (q < H.p ∧ H.K q ≠ 0) := by
  induction ha with
  | zero => exact .inr ⟨h.pos, h.zero⟩
  | step ha hc ih =>
    rename_i q
    have hcan := (H.can_iff q).1 hc
    rcases Nat.lt_or_ge (H.nx q) H.p with h1 | h1
    · exact .inr ⟨h1, h.next q hcan.1 hcan.2.1 h1⟩
    · have := h.fit q hcan.1 hcan.2.1
      exact .inl (by omega)
theorem Spans.can (h : H.Spans) {q : Nat} (hq : q < H.p) (hk : H.K q ≠ 0) : H.can q = true := (H.can_iff q).2 ⟨hq, hk, h.fit q hq hk⟩
theorem Spans.reach (h : H.Spans) : ∀ n x, x ≤ n → x ≤ H.p → (x = H.p ∨ H.K x ≠ 0) → H.At x := by
  intro n
  induction n with
  | zero => intro x hx _ _; have : x = 0 := by omega
            subst this; exact .zero
  | succ n ih =>
    intro x hx hxp hk
    rcases Nat.lt_or_ge x (n + 1) with h1 | h1
    · exact ih x (by omega) hxp hk
    · have hx0 : x = n + 1 := by omega
      subst hx0
      -- the last page below x with a span's info
      have hlast : ∀ m, m ≤ n + 1 → ∃ a, a < n + 1 ∧ H.K a ≠ 0 ∧ (∀ r, a < r → r < n + 1 → r ≤ m → H.K r = 0) := by
        intro m
        induction m with
        | zero => intro _; exact ⟨0, by omega, h.zero, fun r h1 h2 h3 => by omega⟩
        | succ m ihm =>
          intro hm
          obtain ⟨a, a1, a2, a3⟩ := ihm (by omega)
          by_cases hkm : H.K (m + 1) ≠ 0 ∧ m + 1 < n + 1
          · exact ⟨m + 1, hkm.2, hkm.1, fun r h1 h2 h3 => by omega⟩
          · refine ⟨a, a1, a2, fun r h1 h2 h3 => ?_⟩
            rcases Nat.lt_or_ge r (m + 1) with h4 | h4
            · exact a3 r h1 h2 (by omega)
            · have : r = m + 1 := by omega
              subst this
              by_cases h5 : H.K (m + 1) = 0
              · exact h5
              · exact absurd ⟨h5, h2⟩ hkm
      obtain ⟨a, a1, a2, a3⟩ := hlast (n + 1) (Nat.le_refl _)
      have hap : a < H.p := by omega
      have haa := ih a (by omega) (by omega) (.inr a2)
      have hgt := (H.nx_gt (h.can hap a2)).1
      have hfit := h.fit a hap a2
      have e : H.nx a = n + 1 := by
        rcases Nat.lt_trichotomy (H.nx a) (n + 1) with h2 | h2 | h2
        · have h3 := h.next a hap a2 (by omega)
          exact absurd (a3 _ hgt h2 (by omega)) h3
        · exact h2
        · have h3 := h.inside a (n + 1) hap a2 (by omega) h2
          have h4 := (H.K_zero (n + 1) h3).1
          rcases hk with h5 | h5
          · omega
          · exact absurd h4 h5
      have := At.step haa (h.can hap a2)
      rwa [e] at this
theorem Spans.tiled (h : H.Spans) : H.Tiled := by
  refine ⟨h.reach H.p H.p (Nat.le_refl _) (Nat.le_refl _) (.inl rfl), fun a ha hc hp q h1 h2 => ?_⟩
  have hcan := (H.can_iff a).1 hc
  exact h.inside a q hcan.1 hcan.2.1 h1 h2
theorem Tiled.spans (h : H.Tiled) (hp : 0 < H.p) : H.Spans where
  pos := hp
  zero := h.at_K .zero hp
  fit q hq hk := ((H.can_iff q).1 (h.start hq hk).2).2.2
  next q hq hk hn := by
    have hs := h.start hq hk
    exact h.at_K (.step hs.1 hs.2) hn
  inside q r hq hk h1 h2 := by
    have hs := h.start hq hk
    exact h.2 q hs.1 hs.2 hq r h1 h2
  none q hq hk := by
    obtain ⟨a, a1, a2, a3, a4, a5⟩ := h.cover hq
    rcases Nat.eq_or_lt_of_le a4 with h6 | h6
    · subst h6; exact absurd hk a3
    · have hs := h.start a2 a3
      exact h.2 a hs.1 hs.2 a2 q h6 a5
structure Ok (H : AuH) (L : Nat → List Nat) : Prop where
  spans : H.Spans
  feet : H.R3
  apart : ∀ q, q < H.p → H.K q = 1 → H.nx q < H.p → H.K (H.nx q) ≠ 1
  slots : H.R5
  list : ∀ hd : Nat, 2 ≤ hd → hd ≤ 21 → IsL H.p (nxH H.t) (pvH H.t) hd (fun c => H.V c.toNat) (L hd)
  mem : ∀ hd : Nat, 2 ≤ hd → hd ≤ 21 → ∀ y, y ∈ L hd ↔ y < H.p ∧ H.tgt y = hd
  loose : H.R8
  counts : H.R9
  roots : H.R10
theorem nodup_len {P : Nat → Bool} : ∀ (n : Nat) (l : List Nat), l.Nodup → (∀ y, y ∈ l ↔ y < n ∧ P y = true) → l.length = sumTo (fun q => if P q = true then 1 else 0) n
  | 0, l, hl, h => by
    cases l with
    | nil => rfl
    | cons a r => have := (h a).1 (by simp); omega
  | n + 1, l, hl, h => by
    show l.length = sumTo (fun q => if P q = true then 1 else 0) n + (if P n = true then 1 else 0)
    by_cases hn : P n = true
    · have hm : n ∈ l := (h n).2 ⟨by omega, hn⟩
      have h1 := nodup_len n (l.erase n) (hl.erase n) (fun y => by
        rw [hl.mem_erase_iff, h y]
        constructor
        · rintro ⟨h2, h3, h4⟩; exact ⟨by omega, h4⟩
        · rintro ⟨h2, h3⟩; exact ⟨by omega, by omega, h3⟩)
      rw [List.length_erase_of_mem hm] at h1
      have : 0 < l.length := List.length_pos_of_mem hm
      rw [if_pos hn]
      omega
    · rw [if_neg hn, Nat.add_zero]
      exact nodup_len n l hl (fun y => by
        rw [h y]
        constructor
        · rintro ⟨h3, h4⟩
          refine ⟨?_, h4⟩
          rcases Nat.lt_or_ge y n with h5 | h5
          · exact h5
          · have : y = n := by omega
            subst this
            exact absurd h4 hn
        · rintro ⟨h3, h4⟩; exact ⟨by omega, h4⟩)
theorem Ok.rules {L : Nat → List Nat} (h : H.Ok L) : ∀ i, i < 10 → H.rule i := by
  have hok : ∀ hd, 2 ≤ hd → hd ≤ 21 → H.ListOk hd := fun hd h2 h21 => by
    have hl := h.list hd h2 h21
    have hm := h.mem hd h2 h21
    refine listOk_of (g := fun c => H.V c.toNat) (fun i _ => by simp) (by omega) hl (fun y hy => ((hm y).1 hy).2) ?_
    have := nodup_len (P := fun q => decide (H.tgt q = (hd : Int))) H.p (L hd) hl.nodup (fun y => by rw [hm y, decide_eq_true_iff])
    rw [this]
    unfold cnt
    refine sumTo_congr _ (fun q _ => ?_)
    unfold isF
    simp
  intro i hi
  match i, hi with
  | 0, _ => trivial
  | 1, _ => exact h.spans.tiled
  | 2, _ => exact h.feet
  | 3, _ => exact fun q ha hq hk hn => h.apart q hq hk hn
  | 4, _ => exact h.slots
  | 5, _ => exact fun k hk => hok (2 + k) (by omega) (by omega)
  | 6, _ => exact fun k hk => hok (13 + k) (by omega) (by omega)
  | 7, _ => exact h.loose
  | 8, _ => exact h.counts
  | 9, _ => exact h.roots
  | i + 10, hi => omega
end AuH
end
section
namespace AuH
structure Whole (H : AuH) (a b : Nat) : Prop where
  lt : a < b
  le : b ≤ H.p
  first : H.K a ≠ 0
  last : b < H.p → H.K b ≠ 0
variable {H : AuH} {V : Nat → Nat} {a b : Nat}
theorem Spans.ahead (h : H.Spans) {q x : Nat} (hx : H.K x ≠ 0) (hq : q < x) (hxp : x ≤ H.p) (hk : H.K q ≠ 0) : H.nx q ≤ x := by
  rcases Nat.lt_or_ge x (H.nx q) with h1 | h1
  · exact absurd (H.K_zero x (h.inside q x (by omega) hk hq h1)).1 hx
  · exact h1
theorem Spans.below (h : H.Spans) (w : H.Whole a b) {q : Nat} (hq : q < b) (hk : H.K q ≠ 0) : H.nx q ≤ b := by
  rcases Nat.eq_or_lt_of_le w.le with h1 | h1
  · rw [h1]; exact h.fit q (by omega) hk
  · exact h.ahead (w.last h1) hq w.le hk
structure Recut (H : AuH) (V : Nat → Nat) (a b : Nat) : Prop where
  whole : H.Whole a b
  out : ∀ q, q < H.p → ¬ (a ≤ q ∧ q < b) → (H.re V).cel q 0 = H.cel q 0
  first : (H.re V).K a ≠ 0
  fit : ∀ q, a ≤ q → q < b → (H.re V).K q ≠ 0 → (H.re V).nx q ≤ b
  next : ∀ q, a ≤ q → q < b → (H.re V).K q ≠ 0 → (H.re V).nx q < b → (H.re V).K ((H.re V).nx q) ≠ 0
  inside : ∀ q r, a ≤ q → q < b → (H.re V).K q ≠ 0 → q < r → r < (H.re V).nx q → (H.re V).cel r 0 = 0
  none : ∀ q, a ≤ q → q < b → (H.re V).K q = 0 → (H.re V).cel q 0 = 0
namespace Recut
theorem K (R : H.Recut V a b) {q : Nat} (hq : q < H.p) (h : ¬ (a ≤ q ∧ q < b)) : (H.re V).K q = H.K q := by unfold AuH.K; rw [R.out q hq h]
theorem ln (R : H.Recut V a b) {q : Nat} (hq : q < H.p) (h : ¬ (a ≤ q ∧ q < b)) : (H.re V).ln q = H.ln q := by unfold AuH.ln AuH.L; rw [R.out q hq h]
theorem Cl (R : H.Recut V a b) {q : Nat} (hq : q < H.p) (h : ¬ (a ≤ q ∧ q < b)) : (H.re V).Cl q = H.Cl q := by unfold AuH.Cl; rw [R.out q hq h]
theorem nx (R : H.Recut V a b) {q : Nat} (hq : q < H.p) (h : ¬ (a ≤ q ∧ q < b)) : (H.re V).nx q = H.nx q := by unfold AuH.nx; rw [R.ln hq h]
theorem ahead (R : H.Recut V a b) (h : H.Spans) {q : Nat} (hq : q < a) (hk : H.K q ≠ 0) : H.nx q ≤ a := h.ahead R.whole.first hq (by have := R.whole.lt; have := R.whole.le; omega) hk
theorem spans (R : H.Recut V a b) (h : H.Spans) : (H.re V).Spans := by
  have w := R.whole
  have hlt := w.lt
  have hle := w.le
  refine ⟨h.pos, ?_, fun q hq hk => ?_, fun q hq hk hn => ?_, fun q r hq hk h1 h2 => ?_, fun q hq hk => ?_⟩
  · by_cases h0 : a ≤ 0 ∧ 0 < b
    · have : a = 0 := by omega
      subst this
      exact R.first
    · rw [R.K h.pos h0]; exact h.zero
  · by_cases hi : a ≤ q ∧ q < b
    · have := R.fit q hi.1 hi.2 hk
      show (H.re V).nx q ≤ H.p
      omega
    · have hq : q < H.p := hq
      rw [R.K hq hi] at hk
      rw [R.nx hq hi]
      exact h.fit q hq hk
  · have hn : (H.re V).nx q < H.p := hn
    have hq : q < H.p := hq
    by_cases hi : a ≤ q ∧ q < b
    · have h1 := R.fit q hi.1 hi.2 hk
      rcases Nat.eq_or_lt_of_le h1 with h2 | h2
      · rw [h2] at hn ⊢
        rw [R.K hn (by omega)]
        exact w.last hn
      · exact R.next q hi.1 hi.2 hk h2
    · rw [R.K hq hi] at hk
      rw [R.nx hq hi] at hn ⊢
      by_cases hj : a ≤ H.nx q ∧ H.nx q < b
      · rcases Nat.lt_or_ge q a with h2 | h2
        · have := R.ahead h h2 hk
          have : H.nx q = a := by omega
          rw [this]
          exact R.first
        · have := (H.nx_gt (h.can hq hk)).1
          omega
      · rw [R.K hn hj]
        exact h.next q hq hk hn
  · have hq : q < H.p := hq
    by_cases hi : a ≤ q ∧ q < b
    · exact R.inside q r hi.1 hi.2 hk h1 h2
    · rw [R.K hq hi] at hk
      rw [R.nx hq hi] at h2
      have hfit := h.fit q hq hk
      have hj : ¬ (a ≤ r ∧ r < b) := by
        rintro ⟨j1, j2⟩
        rcases Nat.lt_or_ge q a with h3 | h3
        · have := R.ahead h h3 hk; omega
        · omega
      rw [R.out r (by omega) hj]
      exact h.inside q r hq hk h1 h2
  · have hq : q < H.p := hq
    by_cases hi : a ≤ q ∧ q < b
    · exact R.none q hi.1 hi.2 hk
    · rw [R.K hq hi] at hk
      rw [R.out q hq hi]
      exact h.none q hq hk
theorem feet (R : H.Recut V a b) (h : H.Spans) (hf : H.R3) (ho : ∀ q, q < H.p → ¬ (a ≤ q ∧ q < b) → (H.re V).cel q 1 = H.cel q 1) (hi : ∀ q, a ≤ q → q < b → (H.re V).K q ≠ 0 → (H.re V).Foot q) : (H.re V).R3 := fun q hq hk => by
  have hq : q < H.p := hq
  have hlt := R.whole.lt
  by_cases hin : a ≤ q ∧ q < b
  · exact hi q hin.1 hin.2 hk
  · rw [R.K hq hin] at hk
    obtain ⟨f1, f2⟩ := hf q hq hk
    have hfit := h.fit q hq hk
    have hpos := H.ln_pos q hk
    have hnx : H.nx q = q + H.ln q := rfl
    have hout : ∀ r, q ≤ r → r < q + H.ln q → ¬ (a ≤ r ∧ r < b) := fun r h1 h2 => by
      rintro ⟨j1, j2⟩
      rcases Nat.lt_or_ge q a with h3 | h3
      · have := R.ahead h h3 hk; omega
      · omega
    unfold Foot
    rw [R.ln hq hin]
    refine ⟨fun r h1 h2 => ?_, ?_⟩
    · rw [ho r (by omega) (hout r h1 (by omega))]
      exact f1 r h1 h2
    · rw [ho _ (by omega) (hout _ (by omega) (by omega))]
      exact f2
theorem apart (R : H.Recut V a b) (h : H.Spans) (ha : ∀ q, q < H.p → H.K q = 1 → H.nx q < H.p → H.K (H.nx q) ≠ 1)
    (h1 : ∀ q, q < a → H.K q = 1 → H.nx q = a → (H.re V).K a ≠ 1) (h2 : ∀ q, a ≤ q → q < b → (H.re V).K q = 1 → (H.re V).nx q < b → (H.re V).K ((H.re V).nx q) ≠ 1)
    (h3 : ∀ q, a ≤ q → q < b → (H.re V).K q = 1 → (H.re V).nx q = b → b < H.p → H.K b ≠ 1) : ∀ q, q < H.p → (H.re V).K q = 1 → (H.re V).nx q < H.p → (H.re V).K ((H.re V).nx q) ≠ 1 := fun q hq hk hn => by
  have hlt := R.whole.lt
  by_cases hi : a ≤ q ∧ q < b
  · have hfit := R.fit q hi.1 hi.2 (by omega)
    rcases Nat.eq_or_lt_of_le hfit with h4 | h4
    · rw [h4] at hn ⊢
      rw [R.K hn (by omega)]
      exact h3 q hi.1 hi.2 hk h4 hn
    · exact h2 q hi.1 hi.2 hk h4
  · rw [R.K hq hi] at hk
    rw [R.nx hq hi] at hn ⊢
    by_cases hj : a ≤ H.nx q ∧ H.nx q < b
    · rcases Nat.lt_or_ge q a with h5 | h5
      · have := R.ahead h h5 (by omega)
        have e : H.nx q = a := by omega
        rw [e]
        exact h1 q h5 hk e
      · have := (H.nx_gt (h.can hq (by omega))).1
        omega
    · rw [R.K hn hj]
      exact ha q hq hk hn
end Recut

theorem sumTo_split (f : Nat → Nat) (a : Nat) : ∀ m, sumTo f (a + m) = sumTo f a + sumTo (fun i => f (a + i)) m
  | 0 => by simp [sumTo]
  | m + 1 => by
    show sumTo f (a + m) + f (a + m) = sumTo f a + (sumTo (fun i => f (a + i)) m + f (a + m))
    rw [sumTo_split f a m]
    omega
theorem sumTo_recut {f g : Nat → Nat} {a m p : Nat} (h : a + m ≤ p) (ho : ∀ q, q < p → ¬ (a ≤ q ∧ q < a + m) → g q = f q) :
    sumTo g p + sumTo (fun i => f (a + i)) m = sumTo f p + sumTo (fun i => g (a + i)) m := by
  obtain ⟨r, rfl⟩ : ∃ r, p = a + m + r := ⟨p - (a + m), by omega⟩
  rw [sumTo_split g (a + m) r, sumTo_split f (a + m) r, sumTo_split g a m, sumTo_split f a m]
  rw [sumTo_congr (f := g) (g := f) a (fun q hq => ho q (by omega) (by omega)), sumTo_congr (f := fun i => g (a + m + i)) (g := fun i => f (a + m + i)) r (fun q hq => ho _ (by omega) (by omega))]
  omega
end AuH
end
section
theorem Contig.mem : ∀ {l : List (Int × Int × Int)} {a b : Int}, Contig a l b → ∀ x ∈ l, a ≤ x.2.1 ∧ x.2.1 < b
  | [], a, b, h, x, hx => by cases hx
  | y :: r, a, b, ⟨⟨h1, h2, h3⟩, h4⟩, x, hx => by
    have hle := h4.le
    rcases List.mem_cons.1 hx with rfl | hx
    · omega
    · have := Contig.mem h4 x hx
      omega
namespace AuH
variable {H : AuH} {V : Nat → Nat} {L L' : Nat → List Nat} {A k e n c : Nat}
theorem catTo_split {α : Type} (f : Nat → List α) (a : Nat) : ∀ m, catTo f (a + m) = catTo f a ++ catTo (fun i => f (a + i)) m
  | 0 => by simp [catTo]
  | m + 1 => by
    show catTo f (a + m) ++ f (a + m) = catTo f a ++ (catTo (fun i => f (a + i)) m ++ f (a + m))
    rw [catTo_split f a m, List.append_assoc]
theorem catTo_congr {α : Type} {f g : Nat → List α} : ∀ m, (∀ i, i < m → f i = g i) → catTo f m = catTo g m
  | 0, _ => rfl
  | m + 1, h => by
    show catTo f m ++ f m = catTo g m ++ g m
    rw [catTo_congr m (fun i hi => h i (by omega)), h m (by omega)]
end AuH
end
section
namespace AuH
variable {H : AuH} {V : Nat → Nat} {L L' : Nat → List Nat} {A m n c : Nat}
structure Laid (H : AuH) (V : Nat → Nat) (L L' : Nat → List Nat) (A m : Nat) : Prop where
  cut : H.Recut V A (A + m)
  foot : ∀ q, A ≤ q → q < A + m → (H.re V).K q ≠ 0 → (H.re V).Foot q
  feet : ∀ q, q < H.p → ¬ (A ≤ q ∧ q < A + m) → (H.re V).cel q 1 = H.cel q 1
  left : ∀ q, q < A → H.K q = 1 → H.nx q = A → (H.re V).K A ≠ 1
  mid : ∀ q, A ≤ q → q < A + m → (H.re V).K q = 1 → (H.re V).nx q < A + m → (H.re V).K ((H.re V).nx q) ≠ 1
  right : ∀ q, A ≤ q → q < A + m → (H.re V).K q = 1 → (H.re V).nx q = A + m → A + m < H.p → H.K (A + m) ≠ 1
  slot : ∀ q, A ≤ q → q < A + m → (H.re V).Slot5 q
  bits : ∀ q, q < H.p → ¬ (A ≤ q ∧ q < A + m) → (H.re V).cel q 4 = H.cel q 4 ∧ (H.re V).cel q 5 = H.cel q 5
  list : ∀ hd : Nat, 2 ≤ hd → hd ≤ 21 → IsL H.p (nxH H.t) (pvH H.t) hd (fun c => V c.toNat) (L' hd)
  memIn : ∀ hd : Nat, 2 ≤ hd → hd ≤ 21 → ∀ y, A ≤ y → y < A + m → (y ∈ L' hd ↔ (H.re V).tgt y = hd)
  memOut : ∀ hd : Nat, 2 ≤ hd → hd ≤ 21 → ∀ y, ¬ (A ≤ y ∧ y < A + m) → (y ∈ L' hd ↔ y ∈ L hd)
  bare : ∀ q, A ≤ q → q < A + m → (H.re V).tgt q = -1 → (H.re V).cel q 2 = 0 ∧ (H.re V).cel q 3 = 0
  loose : ∀ q, q < H.p → ¬ (A ≤ q ∧ q < A + m) → H.tgt q = -1 → (H.re V).cel q 2 = H.cel q 2 ∧ (H.re V).cel q 3 = H.cel q 3
  free : V 0 + sumTo (fun i => H.freeF (A + i)) m = H.V 0 + sumTo (fun i => (H.re V).freeF (A + i)) m
  live : V 1 + sumTo (fun i => H.liveF (A + i)) m = H.V 1 + sumTo (fun i => (H.re V).liveF (A + i)) m
  few : V 0 < 4294967296 ∧ V 1 < 4294967296
  roots : ∀ i, i < 8 → V (22 + i) = H.V (22 + i)
  named : ∀ i, i < 8 → H.V (22 + i) ≠ 0 → A ≤ (spotP H.t H.p H.s (H.V (22 + i) : Int)).toNat → (spotP H.t H.p H.s (H.V (22 + i) : Int)).toNat < A + m → (H.re V).LiveAt (H.V (22 + i) : Int)
theorem Laid.ok (T : H.Laid V L L' A m) (h : H.Ok L) (hp10 : H.p ≤ 1024) : (H.re V).Ok L' := by
  have hS := h.spans
  have R := T.cut
  have hw := R.whole.le
  have t3 : ∀ q, q < H.p → ¬ (A ≤ q ∧ q < A + m) → (H.re V).tgt q = H.tgt q := fun q h1 h2 => by
    unfold AuH.tgt
    rw [R.K h1 h2, R.ln h1 h2, R.Cl h1 h2, (T.bits q h1 h2).2]
  refine ⟨R.spans hS, R.feet hS h.feet T.feet T.foot, R.apart hS h.apart T.left T.mid T.right, fun q hq => ?_, T.list, fun hd h2 h21 y => ?_, fun q hq ht => ?_, ?_, fun i hi hv => ?_⟩
  · -- slots
    have hq : q < H.p := hq
    by_cases h1 : A ≤ q ∧ q < A + m
    · exact T.slot q h1.1 h1.2
    · have h0 := h.slots q hq
      unfold Slot5 at h0 ⊢
      rw [(T.bits q hq h1).1, (T.bits q hq h1).2, R.K hq h1, R.Cl hq h1]
      exact h0
  · -- lists
    show _ ↔ y < H.p ∧ _
    by_cases h1 : A ≤ y ∧ y < A + m
    · rw [T.memIn hd h2 h21 y h1.1 h1.2]
      exact ⟨fun h3 => ⟨by omega, h3⟩, fun h3 => h3.2⟩
    · rw [T.memOut hd h2 h21 y h1, h.mem hd h2 h21 y]
      constructor
      · rintro ⟨h4, h5⟩; exact ⟨h4, by rw [t3 y h4 h1]; exact h5⟩
      · rintro ⟨h4, h5⟩; rw [t3 y h4 h1] at h5; exact ⟨h4, h5⟩
  · -- what is in no list
    have hq : q < H.p := hq
    by_cases h1 : A ≤ q ∧ q < A + m
    · exact T.bare q h1.1 h1.2 ht
    · rw [t3 q hq h1] at ht
      obtain ⟨a1, a2⟩ := T.loose q hq h1 ht
      rw [a1, a2]
      exact h.loose q hq ht
  · -- counts
    obtain ⟨c1, c2⟩ := h.counts
    have e1 := sumTo_recut (f := H.freeF) (g := (H.re V).freeF) (a := A) (m := m) (p := H.p) (by omega) (fun q h1 h2 => by
      unfold freeF
      rw [R.K h1 h2, R.ln h1 h2])
    have e2 := sumTo_recut (f := H.liveF) (g := (H.re V).liveF) (a := A) (m := m) (p := H.p) (by omega) (fun q h1 h2 => by
      unfold liveF
      rw [R.K h1 h2, (T.bits q h1 h2).1])
    have b1 := sums_le (H := H) H.p hp10
    have b2 := sums_le (H := H.re V) H.p hp10
    rw [Nat.mod_eq_of_lt (by omega)] at c1 c2
    have hf := T.free
    have hv := T.live
    refine ⟨?_, ?_⟩
    · show V 0 = sumTo (H.re V).freeF H.p % 4294967296
      rw [Nat.mod_eq_of_lt (by omega)]
      omega
    · show V 1 = sumTo (H.re V).liveF H.p % 4294967296
      rw [Nat.mod_eq_of_lt (by omega)]
      omega
  · -- roots
    have e0 : (H.re V).V (22 + i) = H.V (22 + i) := T.roots i hi
    rw [e0] at hv ⊢
    obtain ⟨s1, s2⟩ := h.roots i hi hv
    have hnm := T.named i hi hv
    have hsp : (spotP H.t H.p H.s (H.V (22 + i) : Int)).toNat < H.p := by
      have h1 := (spot_parts s1).1
      unfold addrB at h1
      rw [Bool.and_eq_true, decide_eq_true_iff] at h1
      have := h1.2
      omega
    by_cases hin : A ≤ (spotP H.t H.p H.s (H.V (22 + i) : Int)).toNat ∧ (spotP H.t H.p H.s (H.V (22 + i) : Int)).toNat < A + m
    · exact hnm hin.1 hin.2
    · refine ⟨s1, ?_⟩
      show ((H.re V).K (spotP H.t H.p H.s (H.V (22 + i) : Int)).toNat = 2 ∧ _) ∨ ((H.re V).K (spotP H.t H.p H.s (H.V (22 + i) : Int)).toNat = 3 ∧ slotB H.t H.p H.s ((H.re V).Cl (spotP H.t H.p H.s (H.V (22 + i) : Int)).toNat) _ = true ∧ ((H.re V).cel (spotP H.t H.p H.s (H.V (22 + i) : Int)).toNat 4).testBit (slotR H.t H.p H.s ((H.re V).Cl (spotP H.t H.p H.s (H.V (22 + i) : Int)).toNat) _).toNat = true)
      rw [R.K hsp hin, R.Cl hsp hin, (T.bits _ hsp hin).1]
      exact s2
theorem Laid.parts (T : H.Laid V L L' A m) : ∃ r, H.p = A + m + r ∧ H.parts = catTo H.partsAt A ++ catTo (fun i => H.partsAt (A + i)) m ++ catTo (fun i => H.partsAt (A + m + i)) r ∧
    (H.re V).parts = catTo H.partsAt A ++ catTo (fun i => (H.re V).partsAt (A + i)) m ++ catTo (fun i => H.partsAt (A + m + i)) r := by
  have R := T.cut
  have hw := R.whole.le
  obtain ⟨r, hr⟩ : ∃ r, H.p = A + m + r := ⟨H.p - (A + m), by omega⟩
  have hout : ∀ q, q < H.p → ¬ (A ≤ q ∧ q < A + m) → (H.re V).partsAt q = H.partsAt q := fun q h1 h2 => by
    obtain ⟨b4, b5⟩ := T.bits q h1 h2
    unfold partsAt slotsTo slack slotPart sl zs first pg
    rw [R.K h1 h2, R.ln h1 h2, R.Cl h1 h2, b4, b5]
    rfl
  refine ⟨r, hr, ?_, ?_⟩
  · unfold AuH.parts
    rw [hr, catTo_split _ (A + m) r, catTo_split _ A m]
  · unfold AuH.parts
    show catTo (H.re V).partsAt H.p = _
    rw [hr, catTo_split _ (A + m) r, catTo_split _ A m,
      catTo_congr (f := (H.re V).partsAt) (g := H.partsAt) A (fun i hi => hout i (by omega) (by omega)),
      catTo_congr (f := fun i => (H.re V).partsAt (A + m + i)) (g := fun i => H.partsAt (A + m + i)) r (fun i hi => hout _ (by omega) (by omega))]
theorem Laid.blocks (T : H.Laid V L L' A m) (hb : blocksOf (catTo (fun i => (H.re V).partsAt (A + i)) m) = blocksOf (catTo (fun i => H.partsAt (A + i)) m)) : blocksOf (H.re V).parts = blocksOf H.parts := by
  obtain ⟨r, _, e1, e2⟩ := T.parts
  rw [e1, e2, blocksOf_app, blocksOf_app, blocksOf_app, blocksOf_app, hb]
end AuH
end
section
section
variable {n : Nat} {K : Nat → Option Nat} {st : Vst} {t P s : Nat}
def ftH (t p : Nat) : Int := ((30 + 4 * t + 6 * p + 1 : Nat) : Int)
theorem Fit.foot (h : Fit t P s n) {p : Nat} (hp : p < P) : pageI (t : Int) (P : Int) (s : Int) (p : Int) 1 = ftH t p := by
  rw [pcell_yes h.right (by omega) (by omega) (by omega) (by omega)]
  unfold ftH
  push_cast
  omega
end

section
variable {H : AuH} {n c : Nat} {K : Nat → Option Nat}
end
end
section
structure Lists (t P n : Nat) (K : Nat → Option Nat) (st : Vst) (L : Nat → List Nat) : Prop where
  vw : VW n K st
  has : ∀ hd : Nat, 2 ≤ hd → hd ≤ 21 → HasL t P hd n K st (L hd)
  apart : ∀ a b : Nat, 2 ≤ a → a ≤ 21 → 2 ≤ b → b ≤ 21 → a ≠ b → ∀ u ∈ L a, ¬ u ∈ L b
def LinkCell (t : Nat) (c : Int) : Prop := (∃ hd : Nat, 2 ≤ hd ∧ hd ≤ 21 ∧ c = hd) ∨ ∃ u, c = nxH t u ∨ c = pvH t u
section
variable {t P s n : Nat} {K : Nat → Option Nat} {st : Vst} {L : Nat → List Nat} {hd p : Nat} {l1 l2 : List Nat}
theorem ListCell.link {l : List Nat} (h2 : 2 ≤ hd) (h21 : hd ≤ 21) {c : Int} (h : ListCell t hd l c) : LinkCell t c := by
  rcases h with h | ⟨u, _, h⟩
  · exact .inl ⟨hd, h2, h21, h⟩
  · exact .inr ⟨u, h⟩
theorem HasL.congr {st' : Vst} {l : List Nat} (h : HasL t P hd n K st l) (hh : getV n K st' (hd : Int) = getV n K st (hd : Int)) (hf : ∀ u ∈ l, getV n K st' (nxH t u) = getV n K st (nxH t u) ∧ getV n K st' (pvH t u) = getV n K st (pvH t u)) : HasL t P hd n K st' l := by
  obtain ⟨⟨a, hs⟩, hn⟩ := h
  refine ⟨⟨a, ?_⟩, hn⟩
  rw [hh]
  exact hs.frame hf
theorem Lists.pull (h : Lists t P n K st L) (hf : Fit t P s n) (h2 : 2 ≤ hd) (h21 : hd ≤ 21) (hl : L hd = l1 ++ p :: l2) :
    Lists t P n K (pullS n K t P s hd p st) (updF L hd (l1 ++ l2)) ∧ (∀ c : Int, ¬ ListCell t hd (L hd) c → getV n K (pullS n K t P s hd p st) c = getV n K st c) ∧
    getV n K (pullS n K t P s hd p st) (nxH t p) = 0 ∧ getV n K (pullS n K t P s hd p st) (pvH t p) = 0 := by
  have hH := h.has hd h2 h21
  rw [hl] at hH
  have hlk := hH.links
  obtain ⟨b1, b2⟩ := hf.pull (hd := hd) (by omega) h.vw hlk.1 hlk.2.1 hlk.2.2
  have hP := hH.pull hf (by omega) h.vw
  refine ⟨⟨b1, fun x x2 x21 => ?_, fun a b a2 a21 b2' b21 hne u hu => ?_⟩, fun c hc => ?_, ?_, ?_⟩
  · by_cases e : x = hd
    · subst e; rw [updF_same]; exact hP.1
    · rw [updF_other _ _ e]
      exact hH.other hf (by omega) h.vw (h.has x x2 x21) e (by omega) (fun u hu => by rw [← hl]; exact h.apart x hd x2 x21 h2 h21 e u hu)
  · have hsub : ∀ x : Nat, ∀ u, u ∈ updF L hd (l1 ++ l2) x → u ∈ L x := fun x u hu => by
      by_cases e : x = hd
      · subst e
        rw [updF_same] at hu
        rw [hl]
        rcases List.mem_append.1 hu with hu | hu <;> simp [hu]
      · rwa [updF_other _ _ e] at hu
    exact fun hv => h.apart a b a2 a21 b2' b21 hne u (hsub a u hu) (hsub b u hv)
  · rw [b2]
    rw [hl] at hc
    obtain ⟨⟨aa, hs0⟩, hnd⟩ := id hH
    exact pull_far' (by omega) hnd hs0 hc
  · rw [b2]
    unfold pullG
    rw [upd_other _ _ ((geo P t hd (by omega)).np p p), upd_same]
  · rw [b2]
    unfold pullG
    exact upd_same _ _ _
theorem Lists.put (h : Lists t P n K st L) {i : Nat} (hi : i < n) (hc : ¬ LinkCell t (i : Int)) (v : Nat) :
    Lists t P n K (putS n st (i : Int) v) L ∧ getV n K (putS n st (i : Int) v) = upd (getV n K st) (i : Int) v := by
  obtain ⟨b1, b2⟩ := h.vw.put hi v
  refine ⟨⟨b1, fun x x2 x21 => (h.has x x2 x21).congr ?_ (fun u hu => ⟨?_, ?_⟩), h.apart⟩, b2⟩
  · rw [b2, upd_other]
    exact fun e => hc (.inl ⟨x, x2, x21, e.symm⟩)
  · rw [b2, upd_other]
    exact fun e => hc (.inr ⟨u, .inl e.symm⟩)
  · rw [b2, upd_other]
    exact fun e => hc (.inr ⟨u, .inr e.symm⟩)
theorem Lists.get (h : Lists t P n K st L) (c : Int) : Lists t P n K (getS n K st c) L ∧ getV n K (getS n K st c) = getV n K st := by
  obtain ⟨b1, b2⟩ := h.vw.get c
  refine ⟨⟨b1, fun x x2 x21 => ?_, h.apart⟩, b2⟩
  unfold HasL
  rw [b2]
  exact h.has x x2 x21
end
section
variable {H : AuH} {n c : Nat} {K : Nat → Option Nat} {st : Vst} {L : Nat → List Nat}
end
end
section
section
variable {H H' : AuH} {q : Nat}
theorem slotKd_live (u v : Nat) (i : Nat) : (slotKd u v i = 2 ↔ v.testBit i = true) ∧ (slotKd u v i = 4 ↔ u.testBit i = true ∧ v.testBit i = false) := by
  unfold slotKd
  cases hv : v.testBit i <;> cases hu : u.testBit i <;> simp [hv, hu]
end
section
variable {H : AuH} {n c : Nat} {K : Nat → Option Nat} {st : Vst} {L L' : Nat → List Nat} {g : Nat → Nat} {p u : Nat}
end
end
section
theorem pkA_app (l m : List (Int × Int × Int)) (z : Int) : pkA (l ++ m) z = pkA l z ++ pkA m z := by unfold pkA; rw [List.filter_append, List.map_append]
theorem mem_pk {l : List (Int × Int × Int)} {z a : Int} : a ∈ pkA l z ↔ ∃ x ∈ l, x.1 = 4 ∧ x.2.2 = z ∧ x.2.1 = a := by
  unfold pkA
  simp only [List.mem_map, List.mem_filter, Bool.and_eq_true, decide_eq_true_eq]
  constructor
  · rintro ⟨x, ⟨h1, h2, h3⟩, h4⟩; exact ⟨x, h1, h2, h3, h4⟩
  · rintro ⟨x, h1, h2, h3, h4⟩; exact ⟨x, ⟨h1, h2, h3⟩, h4⟩
theorem mem_catTo {α : Type} {f : Nat → List α} {x : α} : ∀ {n : Nat}, x ∈ AuH.catTo f n ↔ ∃ i, i < n ∧ x ∈ f i
  | 0 => by simp [AuH.catTo]
  | n + 1 => by
    show x ∈ AuH.catTo f n ++ f n ↔ _
    rw [List.mem_append, mem_catTo]
    constructor
    · rintro (⟨i, h1, h2⟩ | h)
      · exact ⟨i, by omega, h2⟩
      · exact ⟨n, by omega, h⟩
    · rintro ⟨i, h1, h2⟩
      by_cases h : i = n
      · subst h; exact .inr h2
      · exact .inl ⟨i, by omega, h2⟩
def AuH.hand (H : AuH) (q i : Nat) : Prop := q < H.p ∧ H.K q = 3 ∧ i < slotI (H.Cl q) ∧ (H.cel q 5).testBit i = true ∧ (H.cel q 4).testBit i = false
def AuH.slotA (H : AuH) (q i : Nat) : Int := H.first q + (i : Int) * (H.zs q : Int)
section
variable {H H' : AuH}
theorem mem_pkA {z a : Int} : a ∈ pkA H.parts z ↔ ∃ q i, H.hand q i ∧ (H.zs q : Int) = z ∧ H.slotA q i = a := by
  rw [mem_pk]
  unfold AuH.parts
  constructor
  · rintro ⟨x, hx, h4, hz, ha⟩
    obtain ⟨q, hq, hx⟩ := mem_catTo.1 hx
    unfold AuH.partsAt at hx
    split at hx
    · rw [List.mem_singleton] at hx; subst hx; exact absurd (show (1 : Int) = 4 from h4) (by decide)
    · split at hx
      · rw [List.mem_singleton] at hx; subst hx; exact absurd (show (2 : Int) = 4 from h4) (by decide)
      · split at hx
        · rename_i hk
          rcases List.mem_append.1 hx with hx | hx
          · unfold AuH.slotsTo at hx
            obtain ⟨i, hi, rfl⟩ := List.mem_map.1 hx
            rw [List.mem_range] at hi
            have h5 : slotKd (H.cel q 5) (H.cel q 4) i = 4 := by
              have : ((slotKd (H.cel q 5) (H.cel q 4) i : Nat) : Int) = 4 := h4
              omega
            obtain ⟨h6, h7⟩ := (slotKd_live (H.cel q 5) (H.cel q 4) i).2.1 h5
            exact ⟨q, i, ⟨hq, hk, hi, h6, h7⟩, hz, ha⟩
          · unfold AuH.slack at hx
            split at hx
            · rw [List.mem_singleton] at hx; subst hx; exact absurd (show (5 : Int) = 4 from h4) (by decide)
            · simp at hx
        · simp at hx
  · rintro ⟨q, i, ⟨hq, hk, hi, h6, h7⟩, hz, ha⟩
    refine ⟨H.slotPart q i, mem_catTo.2 ⟨q, hq, ?_⟩, ?_, hz, ha⟩
    · unfold AuH.partsAt
      rw [if_neg (by omega), if_neg (by omega), if_pos hk]
      exact List.mem_append_left _ (List.mem_map.2 ⟨i, List.mem_range.2 hi, rfl⟩)
    · show ((slotKd (H.cel q 5) (H.cel q 4) i : Nat) : Int) = 4
      rw [(slotKd_live (H.cel q 5) (H.cel q 4) i).2.2 ⟨h6, h7⟩]
      rfl
theorem sizeN_lt {s : Int} (h : 10 ≤ s ∧ s ≤ 20) : ∀ {k j : Nat}, j < k → k < 9 → sizeN s (j : Int) < sizeN s (k : Int)
  | 0, j, hj, _ => absurd hj (Nat.not_lt_zero _)
  | k + 1, j, hj, hk => by
    have h1 := (size_facts h hk).2.2.2.2.2 (by omega)
    rw [Nat.add_sub_cancel] at h1
    by_cases e : j = k
    · subst e; exact h1
    · exact Nat.lt_trans (sizeN_lt h (by omega) (by omega)) h1
theorem sizeN_inj {s : Int} (h : 10 ≤ s ∧ s ≤ 20) {k j : Int} (hk : 0 ≤ k ∧ k ≤ 8) (hj : 0 ≤ j ∧ j ≤ 8) (e : sizeN s k = sizeN s j) : k = j := by
  obtain ⟨a, rfl⟩ := Int.eq_ofNat_of_zero_le hk.1
  obtain ⟨b, rfl⟩ := Int.eq_ofNat_of_zero_le hj.1
  rcases Nat.lt_trichotomy a b with h1 | h1 | h1
  · have := sizeN_lt h h1 (by omega); omega
  · omega
  · have := sizeN_lt h h1 (by omega); omega
end
end
section
def rowP (sz : Nat → Int) (z : Nat → List Int) : Nat → List (Int × Int)
  | 0 => []
  | k + 1 => rowP sz z k ++ (z k).map fun a => (a, sz k)
def allL (sz : Nat → Int) (Z : Nat → Nat → List Int) : Nat → List (Int × Int)
  | 0 => []
  | t + 1 => allL sz Z t ++ rowP sz (Z t) 9
def ofZ (l : List (Int × Int)) (z : Int) : List Int := (l.filter fun x => decide (x.2 = z)).map fun x => x.1
theorem ofZ_app (l m : List (Int × Int)) (z : Int) : ofZ (l ++ m) z = ofZ l z ++ ofZ m z := by unfold ofZ; rw [List.filter_append, List.map_append]
theorem ofZ_same (z : Int) : ∀ l : List Int, ofZ (l.map fun a => (a, z)) z = l
  | [] => rfl
  | a :: l => by
    have := ofZ_same z l
    unfold ofZ at this ⊢
    rw [List.map_cons, List.filter_cons_of_pos (by simp), List.map_cons, this]
theorem ofZ_none {y z : Int} (h : y ≠ z) : ∀ l : List Int, ofZ (l.map fun a => (a, y)) z = []
  | [] => rfl
  | a :: l => by
    have := ofZ_none h l
    unfold ofZ at this ⊢
    rw [List.map_cons, List.filter_cons_of_neg (by simpa using h), this]
section
variable {sz : Nat → Int} {Z : Nat → Nat → List Int} {T k : Nat}
theorem rowP_of (hinj : ∀ i j, i < 9 → j < 9 → sz i = sz j → i = j) (z : Nat → List Int) (hk : k < 9) : ∀ j, j ≤ 9 → ofZ (rowP sz z j) (sz k) = if k < j then z k else []
  | 0, _ => by rw [if_neg (Nat.not_lt_zero _)]; rfl
  | j + 1, hj => by
    unfold rowP
    rw [ofZ_app, rowP_of hinj z hk j (by omega)]
    by_cases e : j = k
    · subst e
      rw [ofZ_same, if_neg (Nat.lt_irrefl _), if_pos (Nat.lt_succ_self _), List.nil_append]
    · rw [ofZ_none (fun h => e (hinj j k (by omega) hk h)), List.append_nil]
      by_cases h : k < j
      · rw [if_pos h, if_pos (by omega)]
      · rw [if_neg h, if_neg (by omega)]
theorem allL_of (hinj : ∀ i j, i < 9 → j < 9 → sz i = sz j → i = j) (hk : k < 9) : ∀ T, ofZ (allL sz Z T) (sz k) = haveT Z k T
  | 0 => rfl
  | T + 1 => by
    unfold allL haveT
    rw [ofZ_app, allL_of hinj hk T, rowP_of hinj (Z T) hk 9 (Nat.le_refl _), if_pos hk]
theorem rowP_size {z : Nat → List Int} {x : Int × Int} : ∀ {j : Nat}, x ∈ rowP sz z j → ∃ k, k < j ∧ x.2 = sz k
  | 0, h => by simp [rowP] at h
  | j + 1, h => by
    unfold rowP at h
    rcases List.mem_append.1 h with h | h
    · obtain ⟨k, h1, h2⟩ := rowP_size h
      exact ⟨k, by omega, h2⟩
    · obtain ⟨a, _, rfl⟩ := List.mem_map.1 h
      exact ⟨j, by omega, rfl⟩
theorem allL_size {x : Int × Int} : ∀ {T : Nat}, x ∈ allL sz Z T → ∃ k, k < 9 ∧ x.2 = sz k
  | 0, h => by simp [allL] at h
  | T + 1, h => by
    unfold allL at h
    rcases List.mem_append.1 h with h | h
    · exact allL_size h
    · exact rowP_size h
theorem count_ofZ (a z : Int) : ∀ l : List (Int × Int), l.count (a, z) = (ofZ l z).count a
  | [] => rfl
  | (b, y) :: l => by
    have := count_ofZ a z l
    unfold ofZ at this ⊢
    rw [List.count_cons, this]
    by_cases h : y = z
    · subst h
      rw [List.filter_cons_of_pos (by simp), List.map_cons, List.count_cons]
      by_cases e : b = a
      · subst e; simp
      · rw [if_neg (by simp [e]), if_neg (by simp [e])]
    · rw [List.filter_cons_of_neg (by simpa using h), if_neg (by simp [h]), Nat.add_zero]
def prt4 (parts : List (Int × Int × Int)) : List (Int × Int) := (parts.filter fun x => decide (x.1 = 4)).map fun x => x.2
theorem prt4_app (l m : List (Int × Int × Int)) : prt4 (l ++ m) = prt4 l ++ prt4 m := by unfold prt4; rw [List.filter_append, List.map_append]
theorem prt4_yes {x : Int × Int × Int} (h : x.1 = 4) : prt4 [x] = [x.2] := by simp [prt4, h]
theorem prt4_no {x : Int × Int × Int} (h : x.1 ≠ 4) : prt4 [x] = [] := by simp [prt4, h]
theorem mem_prt4 {l : List (Int × Int × Int)} {x : Int × Int} : x ∈ prt4 l ↔ (4, x) ∈ l := by
  unfold prt4
  rw [List.mem_map]
  constructor
  · rintro ⟨y, hy, rfl⟩
    obtain ⟨h1, h2⟩ := List.mem_filter.1 hy
    have h3 : y.1 = 4 := of_decide_eq_true h2
    rw [← h3]
    exact h1
  · intro h
    exact ⟨(4, x), List.mem_filter.2 ⟨h, by simp⟩, rfl⟩
theorem prt4_of (z : Int) : ∀ l : List (Int × Int × Int), ofZ (prt4 l) z = pkA l z
  | [] => rfl
  | x :: l => by
    have h1 : ofZ (prt4 (x :: l)) z = ofZ (prt4 [x]) z ++ ofZ (prt4 l) z := by rw [← ofZ_app, ← prt4_app]; rfl
    have h2 : pkA (x :: l) z = pkA [x] z ++ pkA l z := by rw [← pkA_app]; rfl
    rw [h1, h2, prt4_of z l]
    congr 1
    by_cases h : x.1 = 4
    · rw [prt4_yes h]
      by_cases e : x.2.2 = z
      · simp [ofZ, pkA, h, e]
      · simp [ofZ, pkA, h, e]
    · rw [prt4_no h]
      simp [ofZ, pkA, h]
theorem prt4_nodup {l : List (Int × Int × Int)} {a b : Int} (h : Contig a l b) : ((prt4 l).map Prod.fst).Nodup := by
  unfold prt4
  rw [List.map_map]
  exact (contig_low h).2.sublist (List.filter_sublist.map _)
theorem nodup_of_map {α β : Type} {f : α → β} : ∀ {l : List α}, (l.map f).Nodup → l.Nodup
  | [], _ => List.nodup_nil
  | a :: l, h => by
    rw [List.map_cons] at h
    obtain ⟨h1, h2⟩ := List.nodup_cons.1 h
    exact List.nodup_cons.2 ⟨fun hm => h1 (List.mem_map.2 ⟨a, hm, rfl⟩), nodup_of_map h2⟩
theorem perm_of_sub {α : Type} [DecidableEq α] : ∀ {ps l : List α}, ps.Nodup → (∀ a ∈ ps, a ∈ l) → ∃ r, l.Perm (ps ++ r)
  | [], l, _, _ => ⟨l, List.Perm.refl _⟩
  | a :: ps, l, hn, h => by
    have hn' := List.nodup_cons.1 hn
    have e1 : l.Perm (a :: l.erase a) := List.perm_cons_erase (h a (List.mem_cons_self ..))
    obtain ⟨r, hr⟩ := perm_of_sub (ps := ps) (l := l.erase a) hn'.2 (fun b hb => by
      have hne : b ≠ a := fun e => hn'.1 (e ▸ hb)
      exact (List.mem_erase_of_ne hne).2 (h b (List.mem_cons_of_mem _ hb)))
    exact ⟨r, e1.trans (hr.cons a)⟩
structure CountP (parts : List (Int × Int × Int)) (sz : Nat → Int) (T : Nat) (Z : Nat → Nat → List Int) : Prop where
  few : ∀ k, k < 9 → ∀ t, t < T → (Z t k).length ≤ 4
  once : ((allL sz Z T).map Prod.fst).Nodup
  there : ∀ x ∈ prt4 parts, x ∈ allL sz Z T
  all : (allL sz Z T).length = (prt4 parts).length
theorem fits_count {parts : List (Int × Int × Int)} {a b : Int} (hC : Contig a parts b) (hinj : ∀ i j, i < 9 → j < 9 → sz i = sz j → i = j) (hs : ∀ x ∈ parts, x.1 = 4 → ∃ k, k < 9 ∧ x.2.2 = sz k) :
    FitsP parts sz T Z ↔ CountP parts sz T Z := by
  have hn := prt4_nodup hC
  constructor
  · intro h
    have hp : (allL sz Z T).Perm (prt4 parts) := by
      rw [List.perm_iff_count]
      rintro ⟨a, z⟩
      by_cases he : ∃ k, k < 9 ∧ z = sz k
      · obtain ⟨k, hk, rfl⟩ := he
        rw [count_ofZ, count_ofZ, allL_of hinj hk, prt4_of]
        exact (h.perm k hk).count_eq a
      · rw [List.count_eq_zero.2 (fun hm => he (allL_size hm)), List.count_eq_zero.2 (fun hm => he (hs _ (mem_prt4.1 hm) rfl))]
    refine ⟨h.few, (hp.map Prod.fst).nodup_iff.2 hn, fun x hx => hp.mem_iff.2 hx, hp.length_eq⟩
  · intro h
    obtain ⟨r, hr⟩ := perm_of_sub (nodup_of_map hn) h.there
    have h1 := hr.length_eq
    rw [List.length_append] at h1
    have h2 : r = [] := List.length_eq_zero_iff.1 (by have := h.all; omega)
    rw [h2, List.append_nil] at hr
    refine ⟨h.few, fun k hk => ?_⟩
    have h3 : (ofZ (allL sz Z T) (sz k)).Perm (ofZ (prt4 parts) (sz k)) := (hr.filter _).map _
    rw [allL_of hinj hk, prt4_of] at h3
    exact h3
end
theorem part4_size {H : AuH} {n c : Nat} (HV : HeapV H n c) (x : Int × Int × Int) (hx : x ∈ H.parts) (h4 : x.1 = 4) : ∃ k, k < 9 ∧ x.2.2 = ((sizeN (H.s : Int) ((k : Nat) : Int) : Nat) : Int) := by
  obtain ⟨q, i, hh, hz, _⟩ := mem_pkA.1 (mem_pk.2 ⟨x, hx, h4, rfl, rfl⟩)
  have h8 : 0 ≤ H.Cl q ∧ H.Cl q ≤ 8 := by have := H.K_cases q; have := hh.2.1; omega
  refine ⟨(H.Cl q).toNat, by omega, ?_⟩
  rw [← hz]
  unfold AuH.zs
  rw [show (((H.Cl q).toNat : Nat) : Int) = H.Cl q by omega]
structure PairIs (D : DataW Unit) (l : List (Int × Int)) : Prop where
  tidy : Tidy D
  has : ∀ a, Maps.has D (kInt a) = decide (a ∈ l.map Prod.fst)
  at_ : ∀ a z, (a, z) ∈ l → D.atKey (kInt a) (.lit (.int .i64 0)) = .lit (.int .i64 z)
  size : Maps.size D = l.length
theorem PairIs.none {D : DataW Unit} {l : List (Int × Int)} (h : PairIs D l) {a : Int} (ha : a ∉ l.map Prod.fst) : D.atKey (kInt a) (.lit (.int .i64 0)) = .lit (.int .i64 0) := atKey_of_not_has (by rw [h.has a]; exact decide_eq_false ha) _
theorem PairIs.empty : PairIs (.map []) [] := ⟨tidy_empty, fun a => by simp [Maps.has], fun a z h => by simp at h, rfl⟩
theorem PairIs.put {D : DataW Unit} {l : List (Int × Int)} (h : PairIs D l) {a z : Int} (ha : a ∉ l.map Prod.fst) : PairIs (D.put (kInt a) (.lit (.int .i64 z))) (l ++ [(a, z)]) := by
  refine ⟨h.tidy.put (kInt_key _) _, fun b => ?_, fun b y hb => ?_, ?_⟩
  · by_cases e : b = a
    · subst e
      rw [has_put_same h.tidy.isMap (kInt_key _)]
      simp
    · rw [has_put_other (kInt_ne e), h.has b, decide_eq_decide, List.map_append, List.mem_append]
      constructor
      · exact .inl
      · rintro (h | h)
        · exact h
        · simp at h; exact absurd h e
  · rcases List.mem_append.1 hb with hb | hb
    · have e : b ≠ a := fun e => ha (List.mem_map.2 ⟨(b, y), hb, e⟩)
      rw [atKey_put_other (kInt_ne e)]
      exact h.at_ b y hb
    · rw [List.mem_singleton] at hb
      injection hb with h1 h2
      subst h1
      subst h2
      exact atKey_put_same h.tidy.isMap (kInt_key _) _ _
  · rw [size_put h.tidy, h.has a, h.size, if_neg (by simpa using ha), List.length_append]
    rfl
theorem i64_wf_int {a : Int} (h : -9223372036854775808 ≤ a ∧ a ≤ 9223372036854775807) : (Lit.int .i64 a).wf = true := by
  simp only [Lit.wf, Bool.and_eq_true, IntKind.min, IntKind.max, IntKind.signed, IntKind.bits]
  simp
  omega
end
end Go.Proofs.YtkbjckhbllmclaaGreatDoor

namespace Go.Proofs.YtkbjckhbllmclaaGreatDoor
open Go.ChangeShapes Go.WideShapes Go.ChangeAt Go.RowKit Go.Maps
set_option linter.unusedVariables false
set_option linter.unusedSimpArgs false
set_option maxRecDepth 100000
section
abbrev pkC (U : Nat → Sl) : Array Value := #[(U 0).v, (U 1).v, (U 2).v, (U 3).v, (U 4).v, (U 5).v, (U 6).v, (U 7).v, (U 8).v]
def PkV (w : World) (U : Nat → Sl) (Z : Nat → List Int) : Prop := ∀ k, k < 9 → LongsAt w (U k).v (Z k)
theorem PkV.below {w w' : World} {U : Nat → Sl} {Z : Nat → List Int} (h : PkV w U Z) (hb : Below w.heap.size w w') : PkV w' U Z := fun k hk => (h k hk).below hb
theorem pkC_get (U : Nat → Sl) : ∀ k, k < 9 → (pkC U)[k]? = some (U k).v
  | 0, _ => rfl
  | 1, _ => rfl
  | 2, _ => rfl
  | 3, _ => rfl
  | 4, _ => rfl
  | 5, _ => rfl
  | 6, _ => rfl
  | 7, _ => rfl
  | 8, _ => rfl
  | k + 9, h => absurd h (by omega)
theorem Held.pk {w : World} {g : Nat} {t : TypeId} {U : Nat → Sl} (h : Held w g t (pkC U)) {k : Nat} (hk : k < 9) : w.cell? ⟨g, k, none⟩ = some (U k).v := by
  rw [h.cell k]
  exact pkC_get U k hk
theorem rFew_c (U : Nat → Sl) (Z : Nat → List Int) (w : World) (h : PkV w U Z) (b : Bool) (hb : b = true ↔ ∀ k, k < 9 → (Z k).length ≤ 10) :
    Calls Tryz.prog 6 #[.agg (pkC U)] w fun e w' => e = .returned (.bool b) ∧ Below w.heap.size w w' := by
  have HG := hidp (Held.new w 31 (pkC U))
  have HB := hidp (Bnew (B0 w) (.cells (pkC U) 31))
  have HP := hidp h
  have HBB := hidp hb
  clear h hb
  go_enter Tryz.func6, Tryz.ntmps6
  go_wp2
  generalize hw1 : w.alloc (.cells (pkC U) 31) = w1 at *
  clear hw1
  go_loopw [3] (fun u3 wr => ∃ k : Nat, k ≤ 9 ∧ u3 = .int .i64 (k : Int) ∧ wr = w1 ∧ Hid (∀ j, j < k → (Z j).length ≤ 10)) (fun u3 _ => 9 - (intOf u3).toNat)
  case atStart => exact ⟨0, by omega, rfl, rfl, hidp (fun j hj => absurd hj (Nat.not_lt_zero _))⟩
  case round =>
    obtain ⟨k, hk, rfl, rfl, HF⟩ := hrel
    by_cases hlt : k < 9
    · obtain ⟨A, c, hu, hlc, hcm, _, _, _⟩ := HP.out k hlt
      have hc := HG.out.pk hlt
      rw [hu] at hc
      obtain ⟨n, hn⟩ : ∃ n, (Z k).length = n := ⟨_, rfl⟩
      have HN := hidp hn
      rw [hn] at hc hlc
      clear hu hn
      by_cases h10 : n ≤ 10
      · have t1 : decide ((10 : Int) < (n : Int)) = false := decide_eq_false (by omega)
        have t1n : decide (10 < n) = false := decide_eq_false (by omega)
        go_wp2
        go_roundw
        case rel => exact ⟨k + 1, by omega, by go_num, by first | rfl | trivial, hidp (fun j hj => by
          by_cases e : j = k
          · subst e; rw [HN.out]; exact h10
          · exact HF.out j (by omega))⟩
        case measure => simp [intOf]; omega
      · have t1 : decide ((10 : Int) < (n : Int)) = true := decide_eq_true (by omega)
        have t1n : decide (10 < n) = true := decide_eq_true (by omega)
        have hf : b = false := by
          cases b with
          | false => rfl
          | true => exact absurd (HBB.out.1 rfl k hlt) (by rw [HN.out]; exact h10)
        subst hf
        go_wp2
        go_ret
        exact ⟨rfl, HB.out⟩
    · obtain rfl : k = 9 := by omega
      have hf := HBB.out.2 HF.out
      subst hf
      go_wp2
      go_ret
      exact ⟨rfl, HB.out⟩
def lastP (Z : Nat → List Int) (k : Int) : Option Int := if 0 ≤ k ∧ k ≤ 8 then (Z k.toNat).getLast? else none
theorem lastP_in {Z : Nat → List Int} {k : Nat} (hk : k < 9) : lastP Z (k : Int) = (Z k).getLast? := by unfold lastP; rw [if_pos (by omega), Int.toNat_natCast]
theorem lastP_out {Z : Nat → List Int} {k : Int} (hk : k < 0 ∨ 8 < k) : lastP Z k = none := by unfold lastP; rw [if_neg (by omega)]
def lastV (o : Option Int) : Value := match o with
  | some a => .tuple #[.int .i64 a, .bool true]
  | none => .tuple #[.int .i64 0, .bool false]
end
end Go.Proofs.YtkbjckhbllmclaaGreatDoor
