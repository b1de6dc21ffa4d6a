/-
  Lists of pages, linked both ways, on values of cells; what pulling and pushing make of them. No program is named here but for the Views'.
-/
import Derived.Test.YtpndfhdedmdoeaaF05
import Derived.Test.YtpndfhdedmdoeaaF16
import Derived.Test.YtpndfhdedmdoeaaF12
import Derived.Test.YtpndfhdedmdoeaaF13
import Derived.Test.YtpndfhdedmdoeaaF01
import Derived.Deep.AppendLies
namespace Go.Proofs.Ytpndfhdedmdoeaa
open Go.ChangeShapes Go.WideShapes Go.ChangeAt Go.RowKit Go.Maps
set_option linter.unusedVariables false
set_option linter.unusedSimpArgs false

/-! values, told as a function of the cell -/
def upd (g : Int → Nat) (c : Int) (v : Nat) : Int → Nat := fun a => if a = c then v else g a
theorem upd_same (g : Int → Nat) (c : Int) (v : Nat) : upd g c v c = v := if_pos rfl
theorem upd_other (g : Int → Nat) {c a : Int} (v : Nat) (h : a ≠ c) : upd g c v a = g a := if_neg h

/-- where the cells of a heap's lists are: P pages, of which each has its own cells nx and pv; hd: no page's -/
structure Geo (P : Nat) (nx pv : Nat → Int) (hd : Int) : Prop where
  nn : ∀ a b, nx a = nx b → a = b
  pp : ∀ a b, pv a = pv b → a = b
  np : ∀ a b, nx a ≠ pv b
  hn : ∀ a, hd ≠ nx a
  hp : ∀ a, hd ≠ pv a

/-- from the link x, with the link a ahead, the pages of l, up to the link x', with a' ahead -/
def Seg (P : Nat) (nx pv : Nat → Int) (g : Int → Nat) : Nat → Nat → List Nat → Nat → Nat → Prop
  | a, x, [], a', x' => a = a' ∧ x = x'
  | a, x, p :: r, a', x' => (x = p + 1 ∧ p < P ∧ g (pv p) = a) ∧ Seg P nx pv g (p + 1) (g (nx p)) r a' x'

section
variable {P : Nat} {nx pv : Nat → Int} {hd : Int} {g g' : Int → Nat} {l l1 l2 : List Nat} {a x a' x' p : Nat}
theorem Seg.append : ∀ {l1 l2 : List Nat} {a x a' x' : Nat}, Seg P nx pv g a x (l1 ++ l2) a' x' ↔ ∃ b y, Seg P nx pv g a x l1 b y ∧ Seg P nx pv g b y l2 a' x'
  | [], l2, a, x, a', x' => by
    constructor
    · intro h; exact ⟨a, x, ⟨rfl, rfl⟩, h⟩
    · rintro ⟨b, y, ⟨rfl, rfl⟩, h⟩; exact h
  | p :: r, l2, a, x, a', x' => by
    constructor
    · rintro ⟨h1, h2⟩
      obtain ⟨b, y, h3, h4⟩ := Seg.append.1 h2
      exact ⟨b, y, ⟨h1, h3⟩, h4⟩
    · rintro ⟨b, y, ⟨h1, h3⟩, h4⟩
      exact ⟨h1, Seg.append.2 ⟨b, y, h3, h4⟩⟩
theorem Seg.frame : ∀ {l : List Nat} {a x a' x' : Nat}, Seg P nx pv g a x l a' x' → (∀ p ∈ l, g' (nx p) = g (nx p) ∧ g' (pv p) = g (pv p)) → Seg P nx pv g' a x l a' x'
  | [], a, x, a', x', h, _ => h
  | p :: r, a, x, a', x', ⟨⟨h1, h2, h3⟩, h4⟩, hf => by
    have hp := hf p (List.mem_cons_self ..)
    refine ⟨⟨h1, h2, by rw [hp.2]; exact h3⟩, ?_⟩
    rw [hp.1]
    exact Seg.frame h4 (fun q hq => hf q (List.mem_cons_of_mem _ hq))
theorem Seg.lt : ∀ {l : List Nat} {a x a' x' : Nat}, Seg P nx pv g a x l a' x' → ∀ p ∈ l, p < P
  | [], a, x, a', x', _, p, hp => by cases hp
  | q :: r, a, x, a', x', ⟨⟨_, h2, _⟩, h4⟩, p, hp => by
    rcases List.mem_cons.1 hp with rfl | hp
    · exact h2
    · exact h4.lt p hp
/-- the link ahead of what is behind a list, and the last page -/
theorem Seg.last (h : Seg P nx pv g a x (l ++ [p]) a' x') : a' = p + 1 ∧ x' = g (nx p) := by
  obtain ⟨b, y, _, h2, h3⟩ := Seg.append.1 h
  exact ⟨h3.1.symm, h3.2.symm⟩
/-- the link of a list's first page -/
theorem Seg.head (h : Seg P nx pv g a x (p :: l) a' x') : x = p + 1 ∧ p < P ∧ g (pv p) = a := h.1

/-- a list of the head hd -/
structure IsL (P : Nat) (nx pv : Nat → Int) (hd : Int) (g : Int → Nat) (l : List Nat) : Prop where
  seg : ∃ a, Seg P nx pv g 0 (g hd) l a 0
  nodup : l.Nodup

/-- the first link of a list -/
def lk1 : List Nat → Nat
  | [] => 0
  | p :: _ => p + 1
theorem Seg.first {a' : Nat} (h : Seg P nx pv g a x l a' 0) : x = lk1 l := by
  cases l with
  | nil => exact h.2
  | cons p r => exact h.1.1
/-- what a list's first page has ahead is set: the others stay -/
theorem Seg.reprev (G : Geo P nx pv hd) {b : Nat} (hl : l.Nodup) (h : Seg P nx pv g a x l a' x') (h1 : ∀ p ∈ l, g' (nx p) = g (nx p)) (h2 : ∀ p ∈ l.drop 1, g' (pv p) = g (pv p)) (h3 : ∀ p r, l = p :: r → g' (pv p) = b) (h0 : l = [] → a' = a) :
    ∃ c, Seg P nx pv g' b x l c x' := by
  cases l with
  | nil => exact ⟨b, rfl, h.2⟩
  | cons p r =>
    refine ⟨a', ⟨h.1.1, h.1.2.1, h3 p r rfl⟩, ?_⟩
    rw [h1 p (List.mem_cons_self ..)]
    exact h.2.frame (fun q hq => ⟨h1 q (List.mem_cons_of_mem _ hq), h2 q (by simpa using hq)⟩)

/-! pushing -/
def push1G (nx pv : Nat → Int) (hd : Int) (p : Nat) (g : Int → Nat) : Int → Nat := upd (upd g (nx p) (g hd)) (pv p) 0
def pushG (nx pv : Nat → Int) (hd : Int) (p : Nat) (g : Int → Nat) : Int → Nat :=
  upd (if g hd = 0 then push1G nx pv hd p g else upd (push1G nx pv hd p g) (pv (g hd - 1)) (p + 1)) hd (p + 1)
theorem IsL.push (G : Geo P nx pv hd) (h : IsL P nx pv hd g l) (hp : p < P) (hn : ¬ p ∈ l) : IsL P nx pv hd (pushG nx pv hd p g) (p :: l) := by
  obtain ⟨⟨a', hs⟩, hd'⟩ := h
  have hf := hs.first
  have e0 : pushG nx pv hd p g hd = p + 1 := upd_same _ _ _
  have e1 : ∀ c, c ≠ hd → c ≠ nx p → c ≠ pv p → (∀ u r, l = u :: r → c ≠ pv u) → pushG nx pv hd p g c = g c := by
    intro c c1 c2 c3 c4
    unfold pushG
    rw [upd_other _ _ c1]
    have b1 : push1G nx pv hd p g c = g c := by unfold push1G; rw [upd_other _ _ c3, upd_other _ _ c2]
    split
    · exact b1
    · rename_i hz
      have : c ≠ pv (g hd - 1) := by
        cases l with
        | nil => exact absurd hf hz
        | cons u r => rw [hf]; exact c4 u r rfl
      rw [upd_other _ _ this, b1]
  have e2 : pushG nx pv hd p g (nx p) = g hd := by
    unfold pushG
    rw [upd_other _ _ (G.hn p).symm]
    have b1 : push1G nx pv hd p g (nx p) = g hd := by unfold push1G; rw [upd_other _ _ (G.np p p), upd_same]
    split
    · exact b1
    · rw [upd_other _ _ (G.np _ _), b1]
  have e3 : pushG nx pv hd p g (pv p) = 0 := by
    unfold pushG
    rw [upd_other _ _ (G.hp p).symm]
    have b1 : push1G nx pv hd p g (pv p) = 0 := by unfold push1G; rw [upd_same]
    split
    · exact b1
    · rename_i hz
      have : pv p ≠ pv (g hd - 1) := fun e => by
        have e := G.pp _ _ e
        cases l with
        | nil => exact hz hf
        | cons u r => have hf : g hd = u + 1 := hf; exact hn (by rw [e, hf]; simp)
      rw [upd_other _ _ this, b1]
  have e4 : ∀ u r, l = u :: r → pushG nx pv hd p g (pv u) = p + 1 := by
    intro u r hl
    subst hl
    have hf : g hd = u + 1 := hf
    unfold pushG
    rw [upd_other _ _ (G.hp u).symm, if_neg (by omega), hf]
    exact upd_same _ _ _
  refine ⟨?_, by rw [List.nodup_cons]; exact ⟨hn, hd'⟩⟩
  have hne : ∀ u ∈ l, u ≠ p := fun u hu e => hn (e ▸ hu)
  have hd2 : ∀ u r, l = u :: r → ∀ v ∈ r, v ≠ u := fun u r hl v hv e => by
    subst hl
    rw [List.nodup_cons] at hd'
    exact hd'.1 (e ▸ hv)
  obtain ⟨c, hc⟩ := hs.reprev (g' := pushG nx pv hd p g) (b := p + 1) G hd' (fun u hu => e1 _ (G.hn u).symm (fun e => hne u hu (G.nn _ _ e)) (G.np _ _) (fun v r _ => G.np _ _))
    (fun u hu => e1 _ (G.hp u).symm (fun e => G.np _ _ e.symm) (fun e => hne u (List.mem_of_mem_drop hu) (G.pp _ _ e)) (fun v r hl e => by
      have := G.pp _ _ e
      subst hl
      exact hd2 v r rfl u (by simpa using hu) this))
    e4 (fun hl => by subst hl; exact hs.1.symm)
  refine ⟨c, ?_⟩
  rw [e0]
  exact ⟨⟨rfl, hp, e3⟩, by rw [e2]; exact hc⟩

/-! pulling -/
def pull1G (nx pv : Nat → Int) (hd : Int) (p : Nat) (g : Int → Nat) : Int → Nat := if g (pv p) = 0 then upd g hd (g (nx p)) else upd g (nx (g (pv p) - 1)) (g (nx p))
def pull2G (nx pv : Nat → Int) (hd : Int) (p : Nat) (g : Int → Nat) : Int → Nat := if g (nx p) = 0 then pull1G nx pv hd p g else upd (pull1G nx pv hd p g) (pv (g (nx p) - 1)) (g (pv p))
def pullG (nx pv : Nat → Int) (hd : Int) (p : Nat) (g : Int → Nat) : Int → Nat := upd (upd (pull2G nx pv hd p g) (nx p) 0) (pv p) 0
/-- what pulling a page of a list leaves as it was -/
theorem pull_far (G : Geo P nx pv hd) (hl : (l1 ++ p :: l2).Nodup) (hs : Seg P nx pv g 0 (g hd) (l1 ++ p :: l2) a' 0) {c : Int} (c1 : c ≠ hd) (c2 : ∀ u ∈ l1 ++ p :: l2, c ≠ nx u ∧ c ≠ pv u) : pullG nx pv hd p g c = g c := by
  obtain ⟨b, y, s1, ⟨s2, s3, s4⟩, s5⟩ := Seg.append.1 hs
  have cp := c2 p (by simp)
  unfold pullG
  rw [upd_other _ _ cp.2, upd_other _ _ cp.1]
  have b1 : pull1G nx pv hd p g c = g c := by
    unfold pull1G
    split
    · exact upd_other _ _ c1
    · rename_i hz
      rw [s4] at hz ⊢
      rcases List.eq_nil_or_concat l1 with rfl | ⟨m1, u, rfl⟩
      · exact absurd s1.1.symm hz
      · rw [List.concat_eq_append] at s1 c2
        have := s1.last.1
        rw [this]
        exact upd_other _ _ (c2 u (by simp)).1
  unfold pull2G
  split
  · exact b1
  · rename_i hz
    have hx := s5.first
    cases l2 with
    | nil => exact absurd hx hz
    | cons v r =>
      have hx : g (nx p) = v + 1 := hx
      rw [hx, Nat.add_sub_cancel, upd_other _ _ (c2 v (by simp)).2]
      exact b1
theorem IsL.pull (G : Geo P nx pv hd) (h : IsL P nx pv hd g (l1 ++ p :: l2)) : IsL P nx pv hd (pullG nx pv hd p g) (l1 ++ l2) := by
  obtain ⟨⟨a', hs⟩, hl⟩ := h
  obtain ⟨b, y, s1, ⟨s2, s3, s4⟩, s5⟩ := Seg.append.1 hs
  have hx := s5.first
  have hnd := hl
  rw [List.nodup_append] at hnd
  obtain ⟨n1, n2, n3⟩ := hnd
  rw [List.nodup_cons] at n2
  obtain ⟨n4, n5⟩ := n2
  have q1 : ∀ u ∈ l1, u ≠ p := fun u hu => n3 u hu p (List.mem_cons_self ..)
  have q2 : ∀ u ∈ l2, u ≠ p := fun u hu e => n4 (e ▸ hu)
  have q3 : ∀ u ∈ l1, ∀ v ∈ l2, u ≠ v := fun u hu v hv => n3 u hu v (List.mem_cons_of_mem _ hv)
  -- what the cells are, but for those of p
  have w0 : ∀ c, c ≠ nx p → c ≠ pv p → pullG nx pv hd p g c = pull2G nx pv hd p g c := fun c c1 c2 => by unfold pullG; rw [upd_other _ _ c2, upd_other _ _ c1]
  have w1 : ∀ c, (∀ v r, l2 = v :: r → c ≠ pv v) → pull2G nx pv hd p g c = pull1G nx pv hd p g c := fun c c1 => by
    unfold pull2G
    split
    · rfl
    · rename_i hz
      cases l2 with
      | nil => exact absurd hx hz
      | cons v r =>
        have hx : g (nx p) = v + 1 := hx
        rw [hx, Nat.add_sub_cancel, upd_other _ _ (c1 v r rfl)]
  have w2 : ∀ v r, l2 = v :: r → pull2G nx pv hd p g (pv v) = b := fun v r e => by
    subst e
    have hx : g (nx p) = v + 1 := hx
    unfold pull2G
    rw [if_neg (by omega), hx, Nat.add_sub_cancel, upd_same, s4]
  have hs1 : ∃ b', Seg P nx pv (pullG nx pv hd p g) 0 (pullG nx pv hd p g hd) l1 b' (lk1 l2) ∧ b' = b := by
    have hdw : pullG nx pv hd p g hd = pull1G nx pv hd p g hd := by rw [w0 _ (G.hn p) (G.hp p), w1 _ (fun v r _ => G.hp v)]
    rcases List.eq_nil_or_concat l1 with rfl | ⟨m1, u, rfl⟩
    · have hb : b = 0 := s1.1.symm
      refine ⟨0, ⟨rfl, ?_⟩, hb.symm⟩
      rw [hdw]
      unfold pull1G
      rw [if_pos (by rw [s4]; exact hb), upd_same, hx]
    · rw [List.concat_eq_append] at *
      have hbu := s1.last.1
      have hb0 : ¬ g (pv p) = 0 := by rw [s4, hbu]; omega
      have w3 : ∀ c, c ≠ nx u → pull1G nx pv hd p g c = g c := fun c c1 => by
        unfold pull1G
        rw [if_neg hb0, s4, hbu, Nat.add_sub_cancel, upd_other _ _ c1]
      have w4 : pull1G nx pv hd p g (nx u) = lk1 l2 := by
        unfold pull1G
        rw [if_neg hb0, s4, hbu, Nat.add_sub_cancel, upd_same, hx]
      obtain ⟨b0, y0, t1, ⟨t2, t3, t4⟩, t5⟩ := Seg.append.1 s1
      have hum : ∀ v ∈ m1, v ≠ u := fun v hv => by
        have n1' := n1
        rw [List.nodup_append] at n1'
        exact n1'.2.2 v hv u (by simp)
      have k1 : Seg P nx pv (pullG nx pv hd p g) 0 (pullG nx pv hd p g hd) m1 b0 y0 := by
        rw [hdw, w3 _ (G.hn u)]
        refine t1.frame (fun v hv => ⟨?_, ?_⟩)
        · rw [w0 _ (fun e => q1 v (by simp [hv]) (G.nn _ _ e)) (G.np _ _), w1 _ (fun _ _ _ => G.np _ _), w3 _ (fun e => hum v hv (G.nn _ _ e))]
        · rw [w0 _ (fun e => G.np _ _ e.symm) (fun e => q1 v (by simp [hv]) (G.pp _ _ e)), w1 _ (fun z r hz e => q3 v (by simp [hv]) z (by rw [hz]; simp) (G.pp _ _ e)), w3 _ (fun e => G.np _ _ e.symm)]
      have k2 : pullG nx pv hd p g (pv u) = b0 := by
        rw [w0 _ (fun e => G.np _ _ e.symm) (fun e => q1 u (by simp) (G.pp _ _ e)), w1 _ (fun z r hz e => q3 u (by simp) z (by rw [hz]; simp) (G.pp _ _ e)), w3 _ (fun e => G.np _ _ e.symm), t4]
      have k3 : pullG nx pv hd p g (nx u) = lk1 l2 := by
        rw [w0 _ (fun e => q1 u (by simp) (G.nn _ _ e)) (G.np _ _), w1 _ (fun _ _ _ => G.np _ _), w4]
      exact ⟨b, Seg.append.2 ⟨b0, y0, k1, ⟨t2, t3, k2⟩, hbu.symm, k3⟩, rfl⟩
  obtain ⟨b', h1, rfl⟩ := hs1
  have w5 : ∀ c, c ≠ hd → (∀ u ∈ l1, c ≠ nx u) → pull1G nx pv hd p g c = g c := fun c c1 c2 => by
    unfold pull1G
    split
    · exact upd_other _ _ c1
    · rename_i hz
      rw [s4] at hz ⊢
      rcases List.eq_nil_or_concat l1 with rfl | ⟨m1, u, rfl⟩
      · exact absurd s1.1.symm hz
      · rw [List.concat_eq_append] at s1 c2
        have := s1.last.1
        rw [this]
        exact upd_other _ _ (c2 u (by simp))
  have hd2 : ∀ u r, l2 = u :: r → ∀ v ∈ r, v ≠ u := fun u r hl v hv e => by
    subst hl
    rw [List.nodup_cons] at n5
    exact n5.1 (e ▸ hv)
  obtain ⟨c, hc⟩ := s5.reprev (g' := pullG nx pv hd p g) (b := b') G n5
    (fun u hu => by rw [w0 _ (fun e => q2 u hu (G.nn _ _ e)) (G.np _ _), w1 _ (fun _ _ _ => G.np _ _), w5 _ (G.hn u).symm (fun v hv e => q3 v hv u hu (G.nn _ _ e.symm))])
    (fun u hu => by
      have hu' := List.mem_of_mem_drop hu
      rw [w0 _ (fun e => G.np _ _ e.symm) (fun e => q2 u hu' (G.pp _ _ e)), w1 _ (fun z r hz e => by
        have := G.pp _ _ e
        subst hz
        exact hd2 z r rfl u (by simpa using hu) this), w5 _ (G.hp u).symm (fun v hv e => G.np _ _ e.symm)])
    (fun v r e => by rw [w0 _ (fun e => G.np _ _ e.symm) (fun e2 => q2 v (by rw [e]; simp) (G.pp _ _ e2)), w2 v r e])
    (fun e => by subst e; exact s5.1.symm)
  rw [hx] at hc
  refine ⟨⟨c, Seg.append.2 ⟨b', _, h1, hc⟩⟩, ?_⟩
  rw [List.nodup_append]
  exact ⟨n1, n5, fun u hu v hv => q3 u hu v hv⟩
end
end Go.Proofs.Ytpndfhdedmdoeaa

/-
  The lists of a heap, on a View that knows all: what is walked, and what pushing and pulling leave.
-/
namespace Go.Proofs.Ytpndfhdedmdoeaa
open Go.ChangeShapes Go.WideShapes Go.ChangeAt Go.RowKit Go.Maps
set_option linter.unusedVariables false
set_option linter.unusedSimpArgs false

/-- nothing is missing, and each cell's value is known -/
structure VW (n : Nat) (K : Nat → Option Nat) (s : Vst) : Prop where
  all : ∀ i, i < n → ∃ v, K i = some v
  lost : s.lost = false
section
variable {n : Nat} {K : Nat → Option Nat} {s : Vst} {c : Int} {v : Nat}
theorem VW.at_ (h : VW n K s) {i : Nat} (hi : i < n) : getV n K s (i : Int) = (match pos s.wr i with | some k => atW s.wr k | none => (K i).getD 0) := by
  have ho := opn_yes hi h.lost
  unfold getV
  rw [if_pos ho, Int.toNat_natCast]
  cases pos s.wr i <;> rfl
theorem getV_far (n : Nat) (K : Nat → Option Nat) (s : Vst) {a : Int} (h : ¬ (0 ≤ a ∧ a < n)) : getV n K s a = 0 := getV_no (by unfold opn; simp; intro _ h1; omega)
theorem VW.get (h : VW n K s) (c : Int) : VW n K (getS n K s c) ∧ getV n K (getS n K s c) = getV n K s := by
  by_cases ho : opn n s c = true
  · obtain ⟨i, rfl, hi, hl⟩ := opn_at ho
    cases hp : pos s.wr i with
    | some k => rw [getS_put ho hp]; exact ⟨h, rfl⟩
    | none =>
      obtain ⟨v, hv⟩ := h.all i hi
      rw [getS_known ho hp hv]
      have e1 : (noteS s i).wr = s.wr ∧ (noteS s i).lost = s.lost := by unfold noteS; split <;> exact ⟨rfl, rfl⟩
      refine ⟨⟨h.all, e1.2.trans h.lost⟩, ?_⟩
      funext a
      unfold getV opn
      rw [e1.1, e1.2]
  · rw [getS_no (by simpa using ho)]; exact ⟨h, rfl⟩
theorem VW.put (h : VW n K s) {i : Nat} (hi : i < n) (v : Nat) : VW n K (putS n s (i : Int) v) ∧ getV n K (putS n s (i : Int) v) = upd (getV n K s) (i : Int) v := by
  have ho := opn_yes hi h.lost
  have hV : VW n K (putS n s (i : Int) v) := ⟨h.all, by rw [putS_yes ho]; exact h.lost⟩
  refine ⟨hV, ?_⟩
  funext a
  by_cases ha : 0 ≤ a ∧ a < n
  · obtain ⟨j, rfl⟩ := Int.eq_ofNat_of_zero_le ha.1
    have hj : j < n := by omega
    rw [hV.at_ hj]
    have hw : (putS n s (i : Int) v).wr = putW s.wr i v := by rw [putS_yes ho]
    rw [hw, pos_putW]
    unfold upd
    cases hp : pos s.wr i with
    | some k =>
      obtain ⟨hk, hc⟩ := pos_some hp
      rw [putW_some hp]
      simp only
      by_cases e : j = i
      · subst e
        rw [if_pos rfl, hp]
        simp [atW, List.getD, hk]
      · rw [if_neg (by omega), h.at_ hj]
        cases hq : pos s.wr j with
        | none => rfl
        | some m =>
          have hm := pos_some hq
          have : m ≠ k := fun e2 => by subst e2; exact e (hm.2.symm.trans hc)
          simp [atW, List.getD, List.getElem?_set_ne (Ne.symm this)]
    | none =>
      rw [putW_none hp]
      simp only
      by_cases e : j = i
      · subst e
        rw [if_pos rfl, if_pos rfl]
        simp [atW, List.getD]
      · rw [if_neg e, if_neg (by omega), h.at_ hj]
        cases hq : pos s.wr j with
        | none => rfl
        | some m =>
          have hm := pos_some hq
          simp [atW, List.getD, List.getElem?_append_left hm.1]
  · rw [getV_far n K _ ha]
    unfold upd
    rw [if_neg (by omega), getV_far n K _ ha]
end

/-! the cells of a heap's pages -/
def nxH (t p : Nat) : Int := ((30 + 4 * t + 6 * p + 2 : Nat) : Int)
def pvH (t p : Nat) : Int := ((30 + 4 * t + 6 * p + 3 : Nat) : Int)
theorem geo (P t hd : Nat) (h : hd < 30) : Geo P (nxH t) (pvH t) (hd : Int) :=
  ⟨fun a b e => by unfold nxH at e; omega, fun a b e => by unfold pvH at e; omega, fun a b e => by unfold nxH pvH at e; omega, fun a e => by unfold nxH at e; omega, fun a e => by unfold pvH at e; omega⟩

section
variable {t P s n hd : Nat} {K : Nat → Option Nat} {st : Vst} {l l1 l2 : List Nat} {p : Nat}
/-- the configuration is right, and there are as many cells as it has -/
structure Fit (t P s n : Nat) : Prop where
  right : rightB t P s = true
  len : n = 30 + 4 * t + 6 * P
theorem Fit.nums (h : Fit t P s n) : 4 ≤ P ∧ P ≤ 1024 := by
  have := (rightB_iff _ _ _).1 h.right
  omega
theorem Fit.nx (h : Fit t P s n) (hp : p < P) : pageI (t : Int) (P : Int) (s : Int) (p : Int) 2 = nxH t p := by
  rw [pcell_yes h.right (by omega) (by omega) (by omega) (by omega)]
  unfold nxH
  push_cast
  omega
theorem Fit.pv (h : Fit t P s n) (hp : p < P) : pageI (t : Int) (P : Int) (s : Int) (p : Int) 3 = pvH t p := by
  rw [pcell_yes h.right (by omega) (by omega) (by omega) (by omega)]
  unfold pvH
  push_cast
  omega
theorem Fit.nxl (h : Fit t P s n) {x : Nat} (h0 : x ≠ 0) (hp : x - 1 < P) : pageI (t : Int) (P : Int) (s : Int) ((x : Int) - 1) 2 = nxH t (x - 1) := by
  rw [← h.nx hp]
  congr 1
  omega
theorem Fit.pvl (h : Fit t P s n) {x : Nat} (h0 : x ≠ 0) (hp : x - 1 < P) : pageI (t : Int) (P : Int) (s : Int) ((x : Int) - 1) 3 = pvH t (x - 1) := by
  rw [← h.pv hp]
  congr 1
  omega
theorem Fit.putN (h : Fit t P s n) (hV : VW n K st) (hp : p < P) (v : Nat) : VW n K (putS n st (nxH t p) v) ∧ getV n K (putS n st (nxH t p) v) = upd (getV n K st) (nxH t p) v := hV.put (by have := h.len; omega) v
theorem Fit.putP (h : Fit t P s n) (hV : VW n K st) (hp : p < P) (v : Nat) : VW n K (putS n st (pvH t p) v) ∧ getV n K (putS n st (pvH t p) v) = upd (getV n K st) (pvH t p) v := hV.put (by have := h.len; omega) v
theorem Fit.putH (h : Fit t P s n) (hV : VW n K st) (hh : hd < 30) (v : Nat) : VW n K (putS n st (hd : Int) v) ∧ getV n K (putS n st (hd : Int) v) = upd (getV n K st) (hd : Int) v := hV.put (by have := h.len; omega) v

theorem Fit.push (h : Fit t P s n) (hh : hd < 30) (hV : VW n K st) (hp : p < P) (hx : getV n K st hd = 0 ∨ getV n K st hd - 1 < P) :
    VW n K (pushS n K t P s hd p st) ∧ getV n K (pushS n K t P s hd p st) = pushG (nxH t) (pvH t) hd p (getV n K st) := by
  obtain ⟨a1, a2⟩ := hV.get (hd : Int)
  obtain ⟨b1, b2⟩ := h.putN a1 hp (getV n K st hd)
  obtain ⟨c1, c2⟩ := h.putP b1 hp 0
  have hc : push1 n K t P s hd p st = putS n (putS n (getS n K st hd) (nxH t p) (getV n K st hd)) (pvH t p) 0 := by unfold push1; rw [h.nx hp, h.pv hp]
  rw [← hc] at c1 c2
  rw [b2, a2] at c2
  have hc2 : getV n K (push1 n K t P s hd p st) = push1G (nxH t) (pvH t) hd p (getV n K st) := c2
  have hd2 : VW n K (push2 n K t P s hd p st) ∧ getV n K (push2 n K t P s hd p st) = if getV n K st hd = 0 then push1G (nxH t) (pvH t) hd p (getV n K st) else upd (push1G (nxH t) (pvH t) hd p (getV n K st)) (pvH t (getV n K st hd - 1)) (p + 1) := by
    unfold push2
    by_cases hz : getV n K st hd = 0
    · rw [if_pos hz, if_pos hz]
      exact ⟨c1, hc2⟩
    · rw [if_neg hz, if_neg hz, h.pvl hz (by omega)]
      obtain ⟨d1, d2⟩ := h.putP c1 (show getV n K st hd - 1 < P by omega) (p + 1)
      rw [hc2] at d2
      exact ⟨d1, d2⟩
  obtain ⟨e1, e2⟩ := h.putH hd2.1 hh (p + 1)
  rw [hd2.2] at e2
  exact ⟨e1, e2⟩

theorem Fit.pull (h : Fit t P s n) (hh : hd < 30) (hV : VW n K st) (hp : p < P) (hx : getV n K st (nxH t p) = 0 ∨ getV n K st (nxH t p) - 1 < P) (hy : getV n K st (pvH t p) = 0 ∨ getV n K st (pvH t p) - 1 < P) :
    VW n K (pullS n K t P s hd p st) ∧ getV n K (pullS n K t P s hd p st) = pullG (nxH t) (pvH t) hd p (getV n K st) := by
  obtain ⟨a1, a2⟩ := hV.get (nxH t p)
  obtain ⟨b1, b2⟩ := a1.get (pvH t p)
  have eN : pullN n K t P s p st = getV n K st (nxH t p) := by unfold pullN; rw [h.nx hp]
  have eB : pullB n K t P s p st = getV n K st (pvH t p) := by unfold pullB; rw [h.nx hp, h.pv hp, a2]
  have e0 : pull0 n K t P s p st = getS n K (getS n K st (nxH t p)) (pvH t p) := by unfold pull0; rw [h.nx hp, h.pv hp]
  rw [← e0] at b1 b2
  rw [a2] at b2
  have c : VW n K (pull1 n K t P s hd p st) ∧ getV n K (pull1 n K t P s hd p st) = pull1G (nxH t) (pvH t) hd p (getV n K st) := by
    unfold pull1 pull1G
    rw [eB, eN]
    by_cases hz : getV n K st (pvH t p) = 0
    · rw [if_pos hz, if_pos hz]
      obtain ⟨d1, d2⟩ := h.putH b1 hh (getV n K st (nxH t p))
      rw [b2] at d2
      exact ⟨d1, d2⟩
    · rw [if_neg hz, if_neg hz, h.nxl hz (by omega)]
      obtain ⟨d1, d2⟩ := h.putN b1 (show getV n K st (pvH t p) - 1 < P by omega) (getV n K st (nxH t p))
      rw [b2] at d2
      exact ⟨d1, d2⟩
  have d : VW n K (pull2 n K t P s hd p st) ∧ getV n K (pull2 n K t P s hd p st) = pull2G (nxH t) (pvH t) hd p (getV n K st) := by
    unfold pull2 pull2G
    rw [eB, eN]
    by_cases hz : getV n K st (nxH t p) = 0
    · rw [if_pos hz, if_pos hz]
      exact c
    · rw [if_neg hz, if_neg hz, h.pvl hz (by omega)]
      obtain ⟨d1, d2⟩ := h.putP c.1 (show getV n K st (nxH t p) - 1 < P by omega) (getV n K st (pvH t p))
      rw [c.2] at d2
      exact ⟨d1, d2⟩
  unfold pullS pullG
  rw [h.nx hp, h.pv hp]
  obtain ⟨f1, f2⟩ := h.putN d.1 hp 0
  obtain ⟨g1, g2⟩ := h.putP f1 hp 0
  rw [f2, d.2] at g2
  exact ⟨g1, g2⟩

/-- a list of a heap, as a View has it -/
def HasL (t P hd n : Nat) (K : Nat → Option Nat) (st : Vst) (l : List Nat) : Prop := IsL P (nxH t) (pvH t) hd (getV n K st) l
theorem HasL.lt (h : HasL t P hd n K st l) : ∀ u ∈ l, u < P := by obtain ⟨⟨a, hs⟩, _⟩ := h; exact hs.lt
theorem HasL.len (h : HasL t P hd n K st l) : l.length ≤ P := nodup_few P l h.lt h.nodup
theorem walkF_seg (h : Fit t P s n) : ∀ (l : List Nat) (m x a a' : Nat) (st : Vst), VW n K st → l.length ≤ m → Seg P (nxH t) (pvH t) (getV n K st) a x l a' 0 →
    (walkF n K t P s m x st).1 = l ∧ VW n K (walkF n K t P s m x st).2 ∧ getV n K (walkF n K t P s m x st).2 = getV n K st
  | [], m, x, a, a', st, hV, hm, hs => by
    have hx : x = 0 := hs.2
    subst hx
    rw [walkF_end n K t P s (by omega)]
    exact ⟨rfl, hV, rfl⟩
  | p :: r, m, x, a, a', st, hV, hm, hs => by
    obtain ⟨⟨rfl, hp, _⟩, hr⟩ := hs
    obtain ⟨m', rfl⟩ : ∃ m', m = m' + 1 := ⟨m - 1, by simp at hm; omega⟩
    have hc : pageI (t : Int) (P : Int) (s : Int) (((p + 1 : Nat) : Int) - 1) 2 = nxH t p := by rw [h.nxl (by omega) (by omega)]; rfl
    rw [walkF_step n K t P s ⟨by omega, by omega⟩, hc]
    obtain ⟨g1, g2⟩ := hV.get (nxH t p)
    obtain ⟨i1, i2, i3⟩ := walkF_seg h r m' (getV n K st (nxH t p)) (p + 1) a' (getS n K st (nxH t p)) g1 (by simp at hm; omega) (by rw [g2]; exact hr)
    exact ⟨by rw [i1]; simp, i2, i3.trans g2⟩
/-- walking tells the list, and changes no value -/
theorem HasL.walk (h : HasL t P hd n K st l) (hf : Fit t P s n) (hV : VW n K st) : walkL n K t P s hd st = l ∧ VW n K (walkS n K t P s hd st) ∧ getV n K (walkS n K t P s hd st) = getV n K st := by
  obtain ⟨⟨a, hs⟩, hd'⟩ := id h
  obtain ⟨g1, g2⟩ := hV.get (hd : Int)
  have := walkF_seg hf l (P : Int).toNat (getV n K st hd) 0 a (getS n K st hd) g1 (by rw [Int.toNat_natCast]; exact h.len) (by rw [g2]; exact hs)
  exact ⟨this.1, this.2.1, this.2.2.trans g2⟩
theorem HasL.push (h : HasL t P hd n K st l) (hf : Fit t P s n) (hh : hd < 30) (hV : VW n K st) (hp : p < P) (hn : ¬ p ∈ l) :
    HasL t P hd n K (pushS n K t P s hd p st) (p :: l) ∧ VW n K (pushS n K t P s hd p st) := by
  have h1 : getV n K st hd = 0 ∨ getV n K st hd - 1 < P := by
    obtain ⟨⟨a, hs⟩, _⟩ := h
    have := hs.first
    cases l with
    | nil => exact .inl this
    | cons u r => right; have h2 := hs.lt u (by simp); have h3 : getV n K st hd = u + 1 := this; omega
  obtain ⟨h2, h3⟩ := hf.push hh hV hp h1
  refine ⟨?_, h2⟩
  unfold HasL
  rw [h3]
  exact IsL.push (geo P t hd hh) h hp hn
theorem HasL.links (h : HasL t P hd n K st (l1 ++ p :: l2)) : p < P ∧ (getV n K st (nxH t p) = 0 ∨ getV n K st (nxH t p) - 1 < P) ∧ (getV n K st (pvH t p) = 0 ∨ getV n K st (pvH t p) - 1 < P) := by
  have hlt := h.lt
  obtain ⟨⟨a, hs⟩, _⟩ := h
  obtain ⟨b, y, s1, ⟨s2, s3, s4⟩, s5⟩ := Seg.append.1 hs
  refine ⟨s3, ?_, ?_⟩
  · have := s5.first
    cases l2 with
    | nil => exact .inl this
    | cons u r => right; have h2 := hlt u (by simp); have h3 : getV n K st (nxH t p) = u + 1 := this; omega
  · rw [s4]
    rcases List.eq_nil_or_concat l1 with rfl | ⟨m1, u, rfl⟩
    · exact .inl s1.1.symm
    · rw [List.concat_eq_append] at s1 hlt
      right
      have h2 := hlt u (by simp)
      have h3 := s1.last.1
      omega
theorem HasL.pull (h : HasL t P hd n K st (l1 ++ p :: l2)) (hf : Fit t P s n) (hh : hd < 30) (hV : VW n K st) :
    HasL t P hd n K (pullS n K t P s hd p st) (l1 ++ l2) ∧ VW n K (pullS n K t P s hd p st) := by
  obtain ⟨hp, hx, hy⟩ := h.links
  obtain ⟨h2, h3⟩ := hf.pull hh hV hp hx hy
  refine ⟨?_, h2⟩
  unfold HasL
  rw [h3]
  exact IsL.pull (geo P t hd hh) h
/-- what is pulled out of one list leaves another one as it was -/
theorem HasL.other {hd2 : Nat} {l' : List Nat} (h : HasL t P hd n K st (l1 ++ p :: l2)) (hf : Fit t P s n) (hh : hd < 30) (hV : VW n K st) (h2 : HasL t P hd2 n K st l') (hne : hd2 ≠ hd) (hh2 : hd2 < 30) (hap : ∀ u ∈ l', ¬ u ∈ l1 ++ p :: l2) :
    HasL t P hd2 n K (pullS n K t P s hd p st) l' := by
  obtain ⟨hp, hx, hy⟩ := h.links
  obtain ⟨_, h3⟩ := hf.pull hh hV hp hx hy
  have G := geo P t hd hh
  have G2 := geo P t hd2 hh2
  obtain ⟨⟨a, hs⟩, hnd⟩ := h
  obtain ⟨⟨a2, hs2⟩, hnd2⟩ := h2
  unfold HasL
  rw [h3]
  refine ⟨⟨a2, ?_⟩, hnd2⟩
  rw [pull_far G hnd hs (c := (hd2 : Int)) (by omega) (fun u _ => ⟨G2.hn u, G2.hp u⟩)]
  refine hs2.frame (fun u hu => ⟨?_, ?_⟩)
  · refine pull_far G hnd hs (G.hn u).symm (fun v hv => ⟨fun e => hap u hu (by rw [G.nn _ _ e]; exact hv), G.np _ _⟩)
  · refine pull_far G hnd hs (G.hp u).symm (fun v hv => ⟨fun e => G.np _ _ e.symm, fun e => hap u hu (by rw [G.pp _ _ e]; exact hv)⟩)
end

/-! a heap's lists -/
namespace AuH
variable {H : AuH}
theorem chain_full {head : Nat} : ∀ (r : Nat) (l : List Nat) (q a : Nat), H.Path head l q a → H.chain head r q a → ∃ l' a', H.Path head l' 0 a'
  | 0, l, q, a, hp, hc => by
    have : q = 0 := hc
    subst this
    exact ⟨l, a, hp⟩
  | r + 1, l, q, a, hp, hc => by
    obtain ⟨⟨h1, h2, h3, h4⟩, h5⟩ := hc
    exact chain_full r _ _ _ (.snoc hp h1 h2 h4) h5
theorem listOk_path {head : Nat} (h : H.ListOk head) : ∃ l a, H.Path head l 0 a := chain_full _ _ _ _ .nil h
end AuH
section
variable {H : AuH} {n c hd : Nat} {K : Nat → Option Nat} {l : List Nat}
theorem HeapV.fit (HV : HeapV H n c) : Fit H.t H.p H.s n := ⟨HV.right, HV.len⟩
theorem path_seg (hK : ∀ i, i < n → K i = some (H.V i)) (hn : n = 30 + 4 * H.t + 6 * H.p) {g : Int → Nat} (hg : ∀ i : Nat, i < n → g i = H.V i) (hh : hd < 30) {q a : Nat} (h : H.Path hd l q a) : Seg H.p (nxH H.t) (pvH H.t) g 0 (g hd) l a q := by
  induction h with
  | nil => exact ⟨rfl, hg hd (by omega)⟩
  | snoc h h1 h2 h3 ih =>
    rename_i l q a
    refine Seg.append.2 ⟨a, q, ih, ⟨by omega, by omega, ?_⟩, by omega, ?_⟩
    · unfold pvH
      rw [hg _ (by omega), ← h3]
      rfl
    · unfold nxH
      rw [hg _ (by omega)]
      rfl
theorem cntIn_nodup : ∀ {l : List Nat}, (∀ y, AuH.cntIn l y ≤ 1) → l.Nodup
  | [], _ => List.nodup_nil
  | a :: r, h => by
    have e : ∀ y, AuH.cntIn (a :: r) y = (if a = y then 1 else 0) + AuH.cntIn r y := fun y => by
      unfold AuH.cntIn
      rw [List.filter_cons]
      by_cases h : a = y
      · simp [h]; omega
      · simp [h]
    refine List.nodup_cons.2 ⟨fun hm => ?_, cntIn_nodup (fun y => by have := h y; rw [e] at this; omega)⟩
    have h1 := h a
    rw [e, if_pos rfl] at h1
    have := AuH.cntIn_pos hm
    omega
theorem hasL_of (HV : HeapV H n c) (hK : ∀ i, i < n → K i = some (H.V i)) (hh : hd < 30) {a : Nat} (h : H.Path hd l 0 a) : HasL H.t H.p hd n K freshS l ∧ VW n K freshS := by
  have hV : VW n K freshS := ⟨fun i hi => ⟨_, hK i hi⟩, rfl⟩
  refine ⟨⟨⟨a, path_seg hK HV.len (fun i hi => ?_) hh h⟩, cntIn_nodup h.once.2.2.2⟩, hV⟩
  rw [hV.at_ hi, hK i hi]
  rfl
/-- no page is in two lists -/
theorem lists_apart {h1 h2 : Nat} {l1 l2 : List Nat} {a1 a2 : Nat} (p1 : H.Path h1 l1 0 a1) (p2 : H.Path h2 l2 0 a2) (k1 : H.ListOk h1) (k2 : H.ListOk h2) (hne : h1 ≠ h2) : ∀ u ∈ l1, ¬ u ∈ l2 := fun u hu hv => by
  have e1 := (AuH.chain_path k1 p1).2.2 u hu
  have e2 := (AuH.chain_path k2 p2).2.2 u hv
  omega
end
end Go.Proofs.Ytpndfhdedmdoeaa

/-
  What the bytes of pages are. Written by audit/gen_parts.py.
-/
namespace Go.Proofs.Ytpndfhdedmdoeaa
open Go.ChangeShapes Go.WideShapes Go.ChangeAt Go.RowKit Go.Shelf
set_option linter.unusedVariables false
set_option linter.unusedSimpArgs false

/-- parts (kind, address, size), as their cells -/
def ptVs (l : List (Int × Int × Int)) : List Value := l.flatMap fun x => [.int .i64 x.1, .int .i64 x.2.1, .int .i64 x.2.2]
theorem ptVs_len (l : List (Int × Int × Int)) : (ptVs l).length = l.length * 3 := by unfold ptVs; induction l with
  | nil => rfl
  | cons x l ih => rw [List.flatMap_cons, List.length_append, ih]; simp; omega
theorem ptVs_app (l m : List (Int × Int × Int)) : ptVs (l ++ m) = ptVs l ++ ptVs m := by unfold ptVs; rw [List.flatMap_append]
theorem ptVs_one (x : Int × Int × Int) : ptVs [x] = [.int .i64 x.1, .int .i64 x.2.1, .int .i64 x.2.2] := by simp [ptVs]
theorem partInfo : (Try.prog.info? 136).map (fun i => (i.zero, i.size, i.bytes)) = some (some (.agg #[.int .i64 0, .int .i64 0, .int .i64 0]), 3, 24) := by kernel_rfl

namespace AuH
variable (H : AuH)
/-- the first byte of a page; the bytes of a page; the bytes of a slot -/
def pg : Nat := 2 ^ H.s
def first (q : Nat) : Int := ((q : Int) + 1) * (H.pg : Int)
def zs (q : Nat) : Nat := sizeN (H.s : Int) (H.Cl q)
def sl (q : Nat) : Nat := slotI (H.Cl q)
def slotPart (q i : Nat) : Int × Int × Int := ((slotKd (H.cel q 5) (H.cel q 4) i : Nat), H.first q + (i : Int) * (H.zs q : Int), (H.zs q : Int))
def slotsTo (q k : Nat) : List (Int × Int × Int) := (List.range k).map (H.slotPart q)
def slack (q : Nat) : List (Int × Int × Int) := if H.sl q * H.zs q < H.pg then [(5, H.first q + ((H.sl q * H.zs q : Nat) : Int), (H.pg : Int) - ((H.sl q * H.zs q : Nat) : Int))] else []
def partsAt (q : Nat) : List (Int × Int × Int) :=
  if H.K q = 1 then [(1, H.first q, (H.ln q : Int) * (H.pg : Int))] else if H.K q = 2 then [(2, H.first q, (H.ln q : Int) * (H.pg : Int))]
  else if H.K q = 3 then H.slotsTo q (H.sl q) ++ H.slack q else []
def parts : List (Int × Int × Int) := catTo H.partsAt H.p
variable {H}
theorem slotsTo_succ (q k : Nat) : H.slotsTo q (k + 1) = H.slotsTo q k ++ [H.slotPart q k] := by unfold slotsTo; rw [List.range_succ, List.map_append]; rfl
theorem slotsTo_len (q k : Nat) : (H.slotsTo q k).length = k := by unfold slotsTo; simp
theorem partsAt_no {q : Nat} (h : H.K q = 0) : H.partsAt q = [] := by unfold partsAt; rw [if_neg (by omega), if_neg (by omega), if_neg (by omega)]
theorem partsAt_len (q : Nat) : (H.partsAt q).length ≤ 33 := by
  unfold partsAt
  split
  · simp
  · split
    · simp
    · split
      · rw [List.length_append, slotsTo_len]
        have := slotI_le (H.Cl q)
        unfold slack sl
        split <;> simp <;> omega
      · simp
theorem parts_len : ∀ x, (catTo H.partsAt x).length ≤ x * 33
  | 0 => by simp [catTo]
  | x + 1 => by
    have h1 := parts_len x
    have h2 := partsAt_len (H := H) x
    show (catTo H.partsAt x ++ H.partsAt x).length ≤ _
    rw [List.length_append]
    omega
end AuH
theorem pg_le {H : AuH} {n c : Nat} (HV : HeapV H n c) : 1024 ≤ H.pg ∧ H.pg ≤ 1048576 ∧ H.pg = pageS H.s ∧ pageN H.t H.p H.s = H.pg := by
  obtain ⟨g, q, h1, h2, h3, h4, h5, h6, h7, h8, h9, h10, h11⟩ := right_nums HV.right
  have e : H.pg = g := by unfold AuH.pg; rw [h8, Int.toNat_natCast]
  rw [e]
  exact ⟨h6, h7, by rw [pageS_yes ⟨h9, h10⟩]; exact h8, h1⟩
theorem first_eq {H : AuH} {n c : Nat} (HV : HeapV H n c) {q : Nat} (hq : q < H.p) : addrI H.t H.p H.s q 0 = H.first q ∧ addrB H.t H.p H.s q 0 = true ∧ 1024 ≤ H.first q ∧ H.first q ≤ 1075838976 := by
  have hg := pg_le HV
  have hB : addrB H.t H.p H.s q 0 = true := by unfold addrB; rw [HV.right, hg.2.2.2, Bool.true_and, decide_eq_true_iff]; omega
  have hA : addrI H.t H.p H.s q 0 = ((q : Int) + 1) * (H.pg : Int) + 0 := by unfold addrI; rw [if_pos hB, hg.2.2.2]
  have hY := addr_yes hB
  rw [hA, Int.add_zero] at hY
  exact ⟨by rw [hA, Int.add_zero]; rfl, hB, hY.2.2.2.2.1, hY.2.2.2.2.2⟩


theorem held_grown {w w' : World} {row : Option Nat} {g : Nat} {t : TypeId} {cs : Array Value} (h : Held w g t cs) (hg : w.grownBy w' row) (hr : row ≠ some g) : Held w' g t cs := (hg.block g h.lt (fun e => hr e.symm)).trans h
theorem turns_grown {F : Nat → Prop} {W w w' : World} {row : Option Nat} (h : Turns F W w) (hg : w.grownBy w' row) (hr : ∀ i, row = some i → F i ∨ W.heap.size ≤ i) : Turns F W w' :=
  Turns.more_new (F := fun i => row = some i) ⟨hg.os, hg.tape, hg.output, hg.size, fun i hi hf => hg.block i hi (fun e => hf e.symm)⟩ h.size h hr
end Go.Proofs.Ytpndfhdedmdoeaa
