/-
  Views (view.View): what one is, and how its parts turn.
-/
import Derived.Test.YtpndfhdedmdoeaaViewMath
import Derived.Test.YtpndfhdedmdoeaaIntMap
namespace Go.Proofs.Ytpndfhdedmdoeaa
open Go.ChangeShapes Go.WideShapes Go.ChangeAt Go.RowKit Go.Maps
set_option linter.unusedVariables false
set_option maxRecDepth 100000
set_option linter.unusedSimpArgs false

/-! blocks of unlike kinds are unlike -/
section
variable {H : Type} {w : World} {g b n m base size : Nat} {t e k : TypeId} {cs : Array Value} {v : Value} {xs : List Value} {P : Program} {R : Value → Option (DataW H × List MemPlace)} {D : DataW H}
theorem heldMap_ne (h : Held w g t cs) (hm : w.ownsMap P k R b n D) : g ≠ b := by
  rintro rfl
  obtain ⟨es, clock, hb, _⟩ := hm
  unfold Held at h
  rw [h] at hb
  cases hb
theorem ownMap_ne (h : w.ownsRow base e size v m xs) (hm : w.ownsMap P k R b n D) (hg : v.ownBlock = some g) : g ≠ b := by
  rintro rfl
  obtain ⟨es, clock, hb, _⟩ := hm
  rcases h.2 with ⟨rfl, _⟩ | ⟨g', cap, cur, rfl, _, hgg, _⟩
  · simp [Value.ownBlock] at hg
  · simp [Value.ownBlock] at hg
    subst hg
    rw [hgg] at hb
    cases hb
theorem rowMap_ne {c : Nat} {f : Nat → Value} (h : RowF w g t m c f) (hm : w.ownsMap P k R b n D) : g ≠ b := by
  obtain ⟨cs, h1, _⟩ := h
  exact heldMap_ne h1 hm
theorem heldRow_ne {c : Nat} {f : Nat → Value} (h : Held w b t cs) (h2 : RowF w g e m c f) (ht : t ≠ e) : g ≠ b := by
  rintro rfl
  obtain ⟨cs2, h1, _⟩ := h2
  unfold Held at h h1
  rw [h] at h1
  injection h1 with h1
  injection h1 with _ h1
  exact ht h1
theorem ownRow_ne {c : Nat} {f : Nat → Value} {q : Nat} (h : w.ownsRow base e size v m xs) (hg : v.ownBlock = some q) (h2 : RowF w g t n c f) (ht : e ≠ t) : q ≠ g := by
  rintro rfl
  obtain ⟨cs2, h1, _⟩ := h2
  rcases h.2 with ⟨rfl, _⟩ | ⟨g', cap, cur, rfl, _, hgg, _⟩
  · simp [Value.ownBlock] at hg
  · simp [Value.ownBlock] at hg
    subst hg
    unfold Held at h1
    rw [hgg] at h1
    injection h1 with h1
    injection h1 with _ h1
    exact ht h1
end
section
variable {w w' : World} {base b k : Nat} {e : Nat → TypeId} {sz : Nat → Nat} {v : Nat → Value} {n n' : Nat → Nat} {xs xs' : Nat → List Value}
theorem OwnAll.congr (h : OwnAll w base b k e sz v n xs) (h1 : ∀ i, i < k → n i = n' i) (h2 : ∀ i, i < k → xs i = xs' i) : OwnAll w base b k e sz v n' xs' :=
  ⟨fun i hi => by rw [← h1 i hi, ← h2 i hi]; exact h.own i hi, h.apart, h.notb⟩
end

/-! the parts of a View -/
structure VGeo where
  m1 : Nat
  m2 : Nat
  sb : Nat
  fv : Value
  v : Nat → Value
/-- the blocks that a View at b writes to -/
def VGeo.F (o : VGeo) (b : Nat) : Nat → Prop := fun i => OwnF b 2 o.v i ∨ i = o.m1 ∨ i = o.m2
/-- .. and where its values are known from -/
def VGeo.A (o : VGeo) (b : Nat) : Nat → Prop := fun i => o.F b i ∨ i = o.sb
theorem VGeo.FA {o : VGeo} {b i : Nat} (h : o.F b i) : o.A b i := .inl h
def vE (i : Nat) : TypeId := if i = 0 then 3 else 86
def vSz (i : Nat) : Nat := if i = 0 then 1 else 2
def ntVs (l : List Nat) : List Value := l.map fun (n : Nat) => Value.int .i64 (n : Int)
def prVs (l : List (Nat × Nat)) : List Value := l.flatMap fun p => [Value.int .i64 (p.1 : Int), .int .u32 (p.2 : Int)]
def vN (s : Vst) (i : Nat) : Nat := if i = 0 then s.rd.length else s.wr.length
def vX (s : Vst) (i : Nat) : List Value := if i = 0 then ntVs s.rd else prVs s.wr
def valF (f : Nat → Nat) : Nat → Value := fun i => .int .u32 ((f i : Nat) : Int)
theorem prVs_len (l : List (Nat × Nat)) : (prVs l).length = l.length * 2 := by
  induction l with
  | nil => rfl
  | cons p r ih => unfold prVs at ih ⊢; simp [ih]; omega
theorem prVs_snoc (l : List (Nat × Nat)) (p : Nat × Nat) : prVs (l ++ [p]) = prVs l ++ [.int .i64 (p.1 : Int), .int .u32 (p.2 : Int)] := by unfold prVs; simp
theorem prVs_at : ∀ (l : List (Nat × Nat)) (k : Nat), k < l.length → (prVs l)[k * 2]? = some (.int .i64 (cellW l k : Int)) ∧ (prVs l)[k * 2 + 1]? = some (.int .u32 (atW l k : Int))
  | [], k, h => by simp at h
  | p :: r, 0, h => by simp [prVs, cellW, atW]
  | p :: r, k + 1, h => by
    have ih := prVs_at r k (by simpa using h)
    have e : prVs (p :: r) = .int .i64 (p.1 : Int) :: .int .u32 (p.2 : Int) :: prVs r := by simp [prVs]
    rw [e]
    have e1 : (k + 1) * 2 = k * 2 + 1 + 1 := by omega
    have e2 : (k + 1) * 2 + 1 = k * 2 + 1 + 1 + 1 := by omega
    rw [e2, e1, List.getElem?_cons_succ, List.getElem?_cons_succ, List.getElem?_cons_succ, List.getElem?_cons_succ]
    simpa [cellW, atW] using ih
theorem prVs_set : ∀ (l : List (Nat × Nat)) (k v : Nat), k < l.length → (prVs l).set (k * 2 + 1) (.int .u32 (v : Int)) = prVs (l.set k (cellW l k, v))
  | [], k, v, h => by simp at h
  | p :: r, 0, v, h => by simp [prVs, cellW]
  | p :: r, k + 1, v, h => by
    have ih := prVs_set r k v (by simpa using h)
    have e : prVs (p :: r) = .int .i64 (p.1 : Int) :: .int .u32 (p.2 : Int) :: prVs r := by simp [prVs]
    have e2 : (k + 1) * 2 + 1 = k * 2 + 1 + 1 + 1 := by omega
    rw [e, e2, List.set_cons_succ, List.set_cons_succ, ih]
    simp [prVs, cellW]

/-- where values are known from: a list of all, or a map of some -/
def SrcIs (w : World) (wh : Bool) (n : Nat) (o : VGeo) (K : Nat → Option Nat) : Prop :=
  if wh then (∃ A c, o.fv = .iface 60 (.slice A n c) ∧ n ≤ c ∧ c ≤ maxLen ∧ (∀ i, i < n → ∃ x, K i = some x ∧ x < 2 ^ 32) ∧ (0 < n → A = some ⟨o.sb, 0, none⟩ ∧ RowF w o.sb 62 n c (valF fun i => (K i).getD 0)))
  else False
theorem SrcIs.same {w w' : World} {wh : Bool} {n : Nat} {o o' : VGeo} {K : Nat → Option Nat} (h : SrcIs w wh n o K) (hb : w'.heap[o.sb]? = w.heap[o.sb]?) (h1 : o'.sb = o.sb) (h2 : o'.fv = o.fv) : SrcIs w' wh n o' K := by
  unfold SrcIs at h ⊢
  cases wh with
  | true =>
    obtain ⟨A, c, e1, e2, e3, e4, e5⟩ := h
    exact ⟨A, c, by rw [h2]; exact e1, e2, e3, e4, fun hn => ⟨by rw [h1]; exact (e5 hn).1, by rw [h1]; exact (e5 hn).2.same hb⟩⟩
  | false =>
    exact False.elim h

structure VParts (w : World) (base b n : Nat) (wh : Bool) (o : VGeo) (hd : Array Value) (nn : Nat → Nat) (xs : Nat → List Value) (k1 : Nat) (D1 : DataW Unit) (k2 : Nat) (D2 : DataW Unit) (K : Nat → Option Nat) : Prop where
  head : Held w b 83 hd
  own : OwnAll w base b 2 vE vSz o.v nn xs
  m1 : w.ownsMap Try.prog 3 unitElem o.m1 k1 D1
  m2 : w.ownsMap Try.prog 3 (plainElem Try.prog 3) o.m2 k2 D2
  src : SrcIs w wh n o K
  bb : base ≤ b
  b1 : base ≤ o.m1
  b2 : base ≤ o.m2
  bs : base ≤ o.sb
  slt : o.sb < w.heap.size
  mm : o.m1 ≠ o.m2
  s1 : o.sb ≠ o.m1
  s2 : o.sb ≠ o.m2
  sF : (wh = true ∧ n = 0) ∨ ¬ OwnF b 2 o.v o.sb
section
variable {w w' : World} {base b n : Nat} {wh : Bool} {o : VGeo} {hd : Array Value} {nn : Nat → Nat} {xs : Nat → List Value} {k1 k2 : Nat} {D1 D2 : DataW Unit} {K : Nat → Option Nat}
theorem VParts.ge (h : VParts w base b n wh o hd nn xs k1 D1 k2 D2 K) : ∀ i, o.A b i → base ≤ i := by
  rintro i ((hi | rfl | rfl) | rfl)
  · exact h.own.F_new h.bb i hi
  · exact h.b1
  · exact h.b2
  · exact h.bs
theorem VParts.lt (h : VParts w base b n wh o hd nn xs k1 D1 k2 D2 K) : ∀ i, o.A b i → i < w.heap.size := by
  rintro i ((hi | rfl | rfl) | rfl)
  · exact h.own.F_lt h.head.lt i hi
  · exact h.m1.lt
  · exact h.m2.lt
  · exact h.slt
theorem VParts.m1F (h : VParts w base b n wh o hd nn xs k1 D1 k2 D2 K) : ¬ OwnF b 2 o.v o.m1 := by
  rintro (e | ⟨i, hi, hg⟩)
  · exact heldMap_ne h.head h.m1 e.symm
  · exact ownMap_ne (h.own.own i hi) h.m1 hg rfl
theorem VParts.m2F (h : VParts w base b n wh o hd nn xs k1 D1 k2 D2 K) : ¬ OwnF b 2 o.v o.m2 := by
  rintro (e | ⟨i, hi, hg⟩)
  · exact heldMap_ne h.head h.m2 e.symm
  · exact ownMap_ne (h.own.own i hi) h.m2 hg rfl
theorem VParts.turns {G : Nat → Prop} (h : VParts w base b n wh o hd nn xs k1 D1 k2 D2 K) (ht : Turns G w w') (hf : ∀ i, o.A b i → ¬ G i) : VParts w' base b n wh o hd nn xs k1 D1 k2 D2 K :=
  { h with
    head := ht.held h.head (hf _ (.inl (.inl (.inl rfl))))
    own := h.own.turns ht (fun i g hi hg => hf _ (.inl (.inl (.inr ⟨i, hi, hg⟩))))
    m1 := owns_turns h.m1 ht (hf _ (.inl (.inr (.inl rfl))))
    m2 := owns_turns h.m2 ht (hf _ (.inl (.inr (.inr rfl))))
    src := h.src.same (ht.block _ h.slt (hf _ (.inr rfl))) rfl rfl
    slt := Nat.lt_of_lt_of_le h.slt ht.size }
theorem VParts.keep (h : VParts w base b n wh o hd nn xs k1 D1 k2 D2 K) (hb : Below w.heap.size w w') : VParts w' base b n wh o hd nn xs k1 D1 k2 D2 K :=
  h.turns (G := fun _ => False) (Turns.of_below hb _) (fun _ _ x => x)
theorem SrcIs.of_grown {row : Option Nat} (h : VParts w base b n wh o hd nn xs k1 D1 k2 D2 K) (hg : w.grownBy w' row) (hr : ∀ g, row = some g → o.F b g) : SrcIs w' wh n o K := by
  by_cases he : wh = true ∧ n = 0
  · have h1 := h.src
    obtain ⟨rfl, rfl⟩ := he
    unfold SrcIs at h1 ⊢
    obtain ⟨A, c, e1, e2, e3, e4, e5⟩ := h1
    exact ⟨A, c, e1, e2, e3, e4, fun hn => by omega⟩
  · refine h.src.same (hg.block _ h.slt (fun e => ?_)) rfl rfl
    rcases hr _ e.symm with h1 | h1 | h1
    · rcases h.sF with h2 | h2
      · exact he h2
      · exact h2 h1
    · exact h.s1 h1
    · exact h.s2 h1
theorem VParts.map1 (h : VParts w base b n wh o hd nn xs k1 D1 k2 D2 K) {k : Nat} {D : DataW Unit} (hg : w.grownBy w' (some o.m1)) (hm : w'.ownsMap Try.prog 3 unitElem o.m1 k D) :
    VParts w' base b n wh o hd nn xs k D k2 D2 K ∧ Turns (o.F b) w w' := by
  have ht : Turns (fun i => i = o.m1) w w' := Turns.of_grown hg rfl
  refine ⟨{ h with
    head := ht.held h.head (fun e => h.m1F (.inl e.symm))
    own := h.own.turns ht (fun i g hi hg e => h.m1F (.inr ⟨i, hi, by rw [← e]; exact hg⟩))
    m1 := hm
    m2 := owns_turns h.m2 ht (fun e => h.mm e.symm)
    src := SrcIs.of_grown h hg (fun g e => by injection e with e; exact .inr (.inl e.symm))
    slt := Nat.lt_of_lt_of_le h.slt hg.size }, ht.more (fun i e => .inr (.inl e))⟩
theorem VParts.map2 (h : VParts w base b n wh o hd nn xs k1 D1 k2 D2 K) {k : Nat} {D : DataW Unit} (hg : w.grownBy w' (some o.m2)) (hm : w'.ownsMap Try.prog 3 (plainElem Try.prog 3) o.m2 k D) :
    VParts w' base b n wh o hd nn xs k1 D1 k D K ∧ Turns (o.F b) w w' := by
  have ht : Turns (fun i => i = o.m2) w w' := Turns.of_grown hg rfl
  refine ⟨{ h with
    head := ht.held h.head (fun e => h.m2F (.inl e.symm))
    own := h.own.turns ht (fun i g hi hg e => h.m2F (.inr ⟨i, hi, by rw [← e]; exact hg⟩))
    m1 := owns_turns h.m1 ht (fun e => h.mm e)
    m2 := hm
    src := SrcIs.of_grown h hg (fun g e => by injection e with e; exact .inr (.inr e.symm))
    slt := Nat.lt_of_lt_of_le h.slt hg.size }, ht.more (fun i e => .inr (.inr e))⟩
theorem VParts.setHead (h : VParts w base b n wh o hd nn xs k1 D1 k2 D2 K) (j : Nat) (u : Value) :
    VParts (w.setCell ⟨b, j, none⟩ u) base b n wh o (hd.setIfInBounds j u) nn xs k1 D1 k2 D2 K ∧ Turns (o.F b) w (w.setCell ⟨b, j, none⟩ u) := by
  have ht : Turns (fun i => i = b) w (w.setCell ⟨b, j, none⟩ u) := (T0 (fun i => i = b) w).put (p := ⟨b, j, none⟩) rfl u
  have hg : w.grownBy (w.setCell ⟨b, j, none⟩ u) (some b) := ⟨ht.os, ht.tape, ht.output, ht.size, fun i hi hne => ht.block i hi (fun e => hne (by rw [e]))⟩
  refine ⟨{ h with
    head := h.head.put j u
    own := h.own.setB j u
    m1 := owns_turns h.m1 ht (fun e => heldMap_ne h.head h.m1 e.symm)
    m2 := owns_turns h.m2 ht (fun e => heldMap_ne h.head h.m2 e.symm)
    src := SrcIs.of_grown h hg (fun g e => by injection e with e; subst e; exact .inl (.inl rfl))
    slt := by simp; exact h.slt }, ht.more (fun i e => .inl (.inl e))⟩
theorem VParts.store (h : VParts w base b n wh o hd nn xs k1 D1 k2 D2 K) {i g cap : Nat} (hi : i < 2) (hv : o.v i = .slice (some ⟨g, 0, none⟩) (nn i) cap) (j : Nat) (u : Value) :
    VParts (w.setCell ⟨g, j, none⟩ u) base b n wh o hd nn (updF xs i ((xs i).set j u)) k1 D1 k2 D2 K ∧ Turns (o.F b) w (w.setCell ⟨g, j, none⟩ u) := by
  obtain ⟨h1, ht⟩ := h.own.put hi hv j u
  have hgo : OwnF b 2 o.v g := .inr ⟨i, hi, by rw [hv]; rfl⟩
  have hg : w.grownBy (w.setCell ⟨g, j, none⟩ u) (some g) := ⟨ht.os, ht.tape, ht.output, ht.size, fun i hi hne => ht.block i hi (fun e => hne (by rw [e]))⟩
  refine ⟨{ h with
    head := ht.held h.head (fun e => h.own.notb i hi (by rw [hv, e]; rfl))
    own := h1
    m1 := owns_turns h.m1 ht (fun e => h.m1F (by rw [e]; exact hgo))
    m2 := owns_turns h.m2 ht (fun e => h.m2F (by rw [e]; exact hgo))
    src := SrcIs.of_grown h hg (fun q e => by injection e with e; subst e; exact .inl hgo)
    slt := by simp; exact h.slt }, ht.more (fun x e => by subst e; exact .inl hgo)⟩
theorem VParts.grow (h : VParts w base b n wh o hd nn xs k1 D1 k2 D2 K) {i : Nat} (hi : i < 2) {v' : Value} {n' : Nat} {xs' : List Value} (hown : w'.ownsRow base (vE i) (vSz i) v' n' xs') (hg : w.grownBy w' (o.v i).ownBlock)
    (hloc : ∀ g, v'.ownBlock = some g → (o.v i).ownBlock = some g ∨ w.heap.size ≤ g) :
    VParts w' base b n wh { o with v := updF o.v i v' } hd (updF nn i n') (updF xs i xs') k1 D1 k2 D2 K ∧ (∀ g, VGeo.A { o with v := updF o.v i v' } b g → o.A b g ∨ w.heap.size ≤ g) ∧ Turns (o.F b) w w' := by
  have hF := OwnF_grown (b := b) (w := w) hi hloc
  have hne : ∀ q, ¬ OwnF b 2 o.v q → q < w.heap.size → w'.heap[q]? = w.heap[q]? := fun q hq hlt => hg.block q hlt (fun e => hq (.inr ⟨i, hi, e.symm⟩))
  have hbq : w'.heap[b]? = w.heap[b]? := hg.block b h.head.lt (fun e => h.own.notb i hi e.symm)
  have hT : Turns (o.F b) w w' := ⟨hg.os, hg.tape, hg.output, hg.size, fun q hq hf => hne q (fun x => hf (.inl x)) hq⟩
  refine ⟨{ h with
    head := hbq.trans h.head
    own := h.own.grown h.head.lt hi hown hg hloc
    m1 := by
      obtain ⟨es, clock, e1, e2⟩ := h.m1
      exact ⟨es, clock, (hne _ h.m1F h.m1.lt).trans e1, e2⟩
    m2 := by
      obtain ⟨es, clock, e1, e2⟩ := h.m2
      exact ⟨es, clock, (hne _ h.m2F h.m2.lt).trans e1, e2⟩
    src := (SrcIs.of_grown h hg (fun g e => .inl (.inr ⟨i, hi, e⟩))).same rfl rfl rfl
    slt := Nat.lt_of_lt_of_le h.slt hg.size
    sF := by
      rcases h.sF with h1 | h1
      · exact .inl h1
      · refine .inr (fun x => ?_)
        rcases hF _ x with h2 | h2
        · exact h1 h2
        · have h3 := h.slt
          have h2 : w.heap.size ≤ o.sb := h2
          omega }, ?_, hT⟩
  rintro g ((hx | hx | hx) | hx)
  · rcases hF g hx with h2 | h2
    · exact .inl (.inl (.inl h2))
    · exact .inr h2
  · exact .inl (.inl (.inr (.inl hx)))
  · exact .inl (.inl (.inr (.inr hx)))
  · exact .inl (.inr hx)
end

/-- the cells of the struct -/
def vHead (n : Nat) (o : VGeo) (s : Vst) : Array Value := #[.int .i64 (n : Int), o.fv, o.v 0, .map (some o.m1), o.v 1, .map (some o.m2), .bool s.lost, .int .i64 (s.miss : Int)]
structure IsView (w : World) (base b n : Nat) (wh : Bool) (o : VGeo) (K : Nat → Option Nat) (s : Vst) : Prop where
  parts : ∃ k1 D1 k2 D2, k1 ≤ s.rd.length ∧ k2 ≤ s.wr.length ∧ SetIs D1 s.rd ∧ NumIs D2 .i64 (pos s.wr) ∧ VParts w base b n wh o (vHead n o s) (vN s) (vX s) k1 D1 k2 D2 K
  ok : VOk n s
  nmax : n ≤ 2 ^ 40
  k32 : ∀ i x, K i = some x → x < 2 ^ 32
section
variable {w w' : World} {base b n : Nat} {wh : Bool} {o : VGeo} {K : Nat → Option Nat} {s : Vst}
theorem IsView.ge (h : IsView w base b n wh o K s) : ∀ i, o.A b i → base ≤ i := by obtain ⟨k1, D1, k2, D2, _, _, _, _, hp⟩ := h.parts; exact hp.ge
theorem IsView.lt (h : IsView w base b n wh o K s) : ∀ i, o.A b i → i < w.heap.size := by obtain ⟨k1, D1, k2, D2, _, _, _, _, hp⟩ := h.parts; exact hp.lt
theorem IsView.turns {G : Nat → Prop} (h : IsView w base b n wh o K s) (ht : Turns G w w') (hf : ∀ i, o.A b i → ¬ G i) : IsView w' base b n wh o K s :=
  { h with
    parts := by
      obtain ⟨k1, D1, k2, D2, e1, e2, e3, e4, hp⟩ := h.parts
      exact ⟨k1, D1, k2, D2, e1, e2, e3, e4, hp.turns ht hf⟩ }
theorem IsView.keep (h : IsView w base b n wh o K s) (hb : Below w.heap.size w w') : IsView w' base b n wh o K s :=
  h.turns (G := fun _ => False) (Turns.of_below hb _) (fun _ _ x => x)
theorem IsView.head (h : IsView w base b n wh o K s) : Held w b 83 (vHead n o s) := by obtain ⟨k1, D1, k2, D2, _, _, _, _, hp⟩ := h.parts; exact hp.head
theorem IsView.cells (h : IsView w base b n wh o K s) : w.cell? ⟨b, 0, none⟩ = some (.int .i64 (n : Int)) ∧ w.cell? ⟨b, 1, none⟩ = some o.fv ∧ w.cell? ⟨b, 2, none⟩ = some (o.v 0) ∧ w.cell? ⟨b, 3, none⟩ = some (.map (some o.m1)) ∧
    w.cell? ⟨b, 4, none⟩ = some (o.v 1) ∧ w.cell? ⟨b, 5, none⟩ = some (.map (some o.m2)) ∧ w.cell? ⟨b, 6, none⟩ = some (.bool s.lost) ∧ w.cell? ⟨b, 7, none⟩ = some (.int .i64 (s.miss : Int)) :=
  ⟨h.head.cell 0, h.head.cell 1, h.head.cell 2, h.head.cell 3, h.head.cell 4, h.head.cell 5, h.head.cell 6, h.head.cell 7⟩
end
end Go.Proofs.Ytpndfhdedmdoeaa
