/-
  Words for memory that a call writes to: which blocks may turn (Turns), a row of cells told as a function (RowF), a map that is cleared. No program is named here.
-/
import Derived.Test.YtlpcdfcghgapkaaAKit
import Derived.Deep.DeepFit
import Derived.Maps.OwnSet
import Derived.Maps.RangeWalk
import Derived.Lib.SliceRun
namespace Go.Proofs.Ytlpcdfcghgapkaa
open Go.ChangeShapes Go.WideShapes Go.ChangeAt Go.RowKit Go.Maps
set_option linter.unusedVariables false
section
structure Turns (F : Nat -> Prop) (w w' : World) : Prop where
 os : w'.os = w.os
 tape : w'.tape = w.tape
 output : w'.output = w.output
 size : w.heap.size <= w'.heap.size
 block : ∀ i, i < w.heap.size -> ¬ F i -> w'.heap[i]? = w.heap[i]?

section
variable {F G : Nat -> Prop} {w w' w'' : World}
theorem T0 (F : Nat -> Prop) (w : World) : Turns F w w := ⟨rfl, rfl, rfl, Nat.le_refl _, fun _ _ _ => rfl⟩
theorem Turns.trans (h : Turns F w w') (k : Turns F w' w'') : Turns F w w'' :=
 ⟨k.os.trans h.os, k.tape.trans h.tape, k.output.trans h.output, Nat.le_trans h.size k.size, fun i hi hf => (k.block i (Nat.lt_of_lt_of_le hi h.size) hf).trans (h.block i hi hf)⟩
theorem Turns.more (h : Turns F w w') (hg : ∀ i, F i -> G i) : Turns G w w' := ⟨h.os, h.tape, h.output, h.size, fun i hi hf => h.block i hi (fun x => hf (hg i x))⟩
theorem Turns.more_new {W : World} (h : Turns F w w') (hs : W.heap.size <= w.heap.size) (hb : Turns G W w) (hg : ∀ i, F i -> G i \/ W.heap.size <= i) : Turns G W w' :=
 ⟨h.os.trans hb.os, h.tape.trans hb.tape, h.output.trans hb.output, Nat.le_trans hs h.size, fun i hi hf => (h.block i (Nat.lt_of_lt_of_le hi hs) (fun x => by
  rcases hg i x with h1 | h1
  ·exact hf h1
  ·omega)).trans (hb.block i hi hf)⟩
theorem Turns.of_below (h : Below w.heap.size w w') (F : Nat -> Prop) : Turns F w w' := ⟨h.os, h.tape, h.output, h.size, fun i hi _ => h.block i hi⟩
theorem Turns.of_grown {b : Nat} (h : w.grownBy w' (some b)) (hb : F b) : Turns F w w' := ⟨h.os, h.tape, h.output, h.size, fun i hi hf => h.block i hi (fun e => by injection e with e; subst e; exact hf hb)⟩
theorem Turns.alloc (h : Turns F w w') (o : Obj) : Turns F w (w'.alloc o) := h.trans (Turns.of_below (Bnew (B0 _) o) F)
theorem Turns.put (h : Turns F w w') {p : Addr} (hp : F p.block) (u : Value) : Turns F w (w'.setCell p u) :=
 ⟨h.os, h.tape, h.output, by simp; exact h.size, fun i hi hf => (Below.heap_setCell w' p u i (fun e => by subst e; exact hf hp)).trans (h.block i hi hf)⟩
theorem Turns.put_new (h : Turns F w w') {p : Addr} (hp : w.heap.size <= p.block) (u : Value) : Turns F w (w'.setCell p u) :=
 ⟨h.os, h.tape, h.output, by simp; exact h.size, fun i hi hf => (Below.heap_setCell w' p u i (fun e => by omega)).trans (h.block i hi hf)⟩
theorem Turns.below {W : World} (h : Turns F w w') (hb : Below W.heap.size W w) (hf : ∀ i, F i -> W.heap.size <= i) : Below W.heap.size W w' :=
 ⟨h.os.trans hb.os, h.tape.trans hb.tape, h.output.trans hb.output, Nat.le_trans hb.size h.size, fun i hi => (h.block i (Nat.lt_of_lt_of_le hi hb.size) (fun x => by have := hf i x; omega)).trans (hb.block i hi)⟩
theorem Turns.held {g : Nat} {t : TypeId} {cs : Array Value} (h : Turns F w w') (hg : Held w g t cs) (hf : ¬ F g) : Held w' g t cs := (h.block g hg.lt hf).trans hg
end

def updF {α : Type} (f : Nat -> α) (i : Nat) (u : α) : Nat -> α := fun j => if j = i then u else f j
theorem updF_same {α : Type} (f : Nat -> α) (i : Nat) (u : α) : updF f i u i = u := if_pos rfl
theorem updF_other {α : Type} (f : Nat -> α) {i j : Nat} (u : α) (h : j ≠ i) : updF f i u j = f j := if_neg h
def RowF (w : World) (g : Nat) (t : TypeId) (n c : Nat) (f : Nat -> Value) : Prop :=
 ∃ cs : Array Value, Held w g t cs /\ cs.size = c /\ n <= c /\ c <= maxLen /\ ∀ i, i < n -> cs[i]? = some (f i)

section
variable {w w' : World} {g : Nat} {t : TypeId} {n c : Nat} {f : Nat -> Value}
theorem RowF.lt (h : RowF w g t n c f) : g < w.heap.size := by obtain ⟨cs, h1, _⟩ := h; exact h1.lt
theorem RowF.le (h : RowF w g t n c f) : n <= c := by obtain ⟨cs, _, _, h1, _⟩ := h; exact h1
theorem RowF.max (h : RowF w g t n c f) : c <= maxLen := by obtain ⟨cs, _, _, _, h1, _⟩ := h; exact h1
theorem RowF.cell (h : RowF w g t n c f) {i : Nat} (hi : i < n) : w.cell? ⟨g, i, none⟩ = some (f i) := by
 obtain ⟨cs, h1, _, _, _, h2⟩ := h
 exact (h1.cell i).trans (h2 i hi)
theorem RowF.thawed (h : RowF w g t n c f) (i : Nat) : w.frozen? ⟨g, i, none⟩ = false := by obtain ⟨cs, h1, _⟩ := h; exact h1.thawed i
theorem RowF.same (h : RowF w g t n c f) (hb : w'.heap[g]? = w.heap[g]?) : RowF w' g t n c f := by
 obtain ⟨cs, h1, r⟩ := h
 exact ⟨cs, hb.trans h1, r⟩
theorem RowF.keep (h : RowF w g t n c f) (hb : Below w.heap.size w w') : RowF w' g t n c f := h.same (hb.block g h.lt)
theorem RowF.put (h : RowF w g t n c f) {i : Nat} (hi : i < n) (u : Value) : RowF (w.setCell ⟨g, i, none⟩ u) g t n c (updF f i u) := by
 obtain ⟨cs, h1, h2, h3, h4, h5⟩ := h
 refine ⟨_, h1.put i u, by simp [h2], h3, h4, fun j hj => ?_⟩
 by_cases e : j = i
 ·subst e
  rw [updF_same]
  simp [Array.getElem?_setIfInBounds]
  omega
 ·rw [updF_other _ _ e, Array.getElem?_setIfInBounds_ne (by omega)]
  exact h5 j hj
theorem RowF.far (h : RowF w g t n c f) {p : Addr} (hp : g ≠ p.block) (u : Value) : RowF (w.setCell p u) g t n c f := h.same (Below.heap_setCell w p u g hp)
theorem RowF.congr {f' : Nat -> Value} (h : RowF w g t n c f) (e : ∀ i, i < n -> f i = f' i) : RowF w g t n c f' := by
 obtain ⟨cs, h1, h2, h3, h4, h5⟩ := h
 exact ⟨cs, h1, h2, h3, h4, fun i hi => by rw [h5 i hi, e i hi]⟩
theorem RowF.of_own {base : Nat} {e : TypeId} {cap : Nat} (h : w.ownsRow base e 1 (.slice (some ⟨g, 0, none⟩) n cap) n ((List.range n).map f)) : base <= g /\ RowF w g e n cap f := by
 rcases h.2 with ⟨h1, _⟩ | ⟨g', cap', cur, hv, hb, hg, hnc, hcm, hcs, htake⟩
 ·cases h1
 ·injection hv with h1 h2 h3
  injection h1 with h1
  injection h1 with h1
  subst h1
  subst h3
  refine ⟨hb, cur, hg, by simpa using hcs, by omega, by omega, fun i hi => ?_⟩
  have h4 := h.cellAt i (by omega)
  rw [Held.cell hg i] at h4
  rw [h4]
  simp [hi]
theorem RowF.reads (h : RowF w g t n c f) {B : Nat} (hB : g < B) : Reads w B 1 (some ⟨g, 0, none⟩) n ((List.range n).map f) := by
 refine ⟨by simp, fun hn => ⟨_, rfl, hB, fun j u hu => ?_⟩⟩
 have hj : j < n := by
  rcases Nat.lt_or_ge j n with h1 | h1
  ·exact h1
  ·rw [List.getElem?_eq_none (by simp; omega)] at hu; cases hu
 have e : (⟨g, 0, none⟩ : Addr).add j = ⟨g, j, none⟩ := by
  unfold Addr.add
  by_cases hz : j = 0
  ·rw [if_pos hz, hz]
  ·rw [if_neg hz]; simp
 rw [e, h.cell hj]
 rw [List.getElem?_map, List.getElem?_range hj] at hu
 exact hu
end

section
variable {H : Type} {P : Program} {k : TypeId} {R : Value -> Option (DataW H × List MemPlace)} {w : World} {b n : Nat} {D : DataW H}
theorem owns_turns {F : Nat -> Prop} {w' : World} (h : w.ownsMap P k R b n D) (hb : Turns F w w') (hf : ¬ F b) : w'.ownsMap P k R b n D := by
 have hlt := h.lt
 obtain ⟨es, clock, h1, r⟩ := h
 exact ⟨es, clock, (hb.block b hlt hf).trans h1, r⟩
end
section
variable {H : Type} {P : Program} (w : World) {ops : Array Oper} {rest : List Oper} {o : Oper} {a : Act} {Q : Exit -> Act -> World -> Prop}
end
end
section
structure OwnAll (w : World) (base b k : Nat) (e : Nat -> TypeId) (sz : Nat -> Nat) (v : Nat -> Value) (n : Nat -> Nat) (xs : Nat -> List Value) : Prop where
 own : ∀ i, i < k -> w.ownsRow base (e i) (sz i) (v i) (n i) (xs i)
 apart : ∀ i j g, i < k -> j < k -> (v i).ownBlock = some g -> (v j).ownBlock = some g -> i = j
 notb : ∀ i, i < k -> (v i).ownBlock ≠ some b
def OwnF (b k : Nat) (v : Nat -> Value) : Nat -> Prop := fun g => g = b \/ ∃ i, i < k /\ (v i).ownBlock = some g

section
variable {w w' : World} {base b k : Nat} {e : Nat -> TypeId} {sz : Nat -> Nat} {v : Nat -> Value} {n : Nat -> Nat} {xs : Nat -> List Value}
theorem own_kept {e : TypeId} {size n : Nat} {v : Value} {xs : List Value} (h : w.ownsRow base e size v n xs) (hb : ∀ g, v.ownBlock = some g -> w'.heap[g]? = w.heap[g]?) : w'.ownsRow base e size v n xs := by
 refine ⟨h.1, ?_⟩
 rcases h.2 with h2 | ⟨g, cap, cur, rfl, hbg, hg, hr⟩
 ·exact .inl h2
 ·exact .inr ⟨g, cap, cur, rfl, hbg, (hb g rfl).trans hg, hr⟩
theorem OwnAll.lt (h : OwnAll w base b k e sz v n xs) {i g : Nat} (hi : i < k) (hg : (v i).ownBlock = some g) : base <= g /\ g < w.heap.size := (h.own i hi).lt g hg
theorem OwnAll.turns {F : Nat -> Prop} (h : OwnAll w base b k e sz v n xs) (ht : Turns F w w') (hf : ∀ i g, i < k -> (v i).ownBlock = some g -> ¬ F g) : OwnAll w' base b k e sz v n xs :=
 ⟨fun i hi => own_kept (h.own i hi) (fun g hg => ht.block g (h.lt hi hg).2 (hf i g hi hg)), h.apart, h.notb⟩
theorem OwnAll.setB (h : OwnAll w base b k e sz v n xs) (o : Nat) (u : Value) : OwnAll (w.setCell ⟨b, o, none⟩ u) base b k e sz v n xs :=
 h.turns ((T0 (fun i => i = b) w).put (p := ⟨b, o, none⟩) rfl u) (fun i g hi hg hf => h.notb i hi (by rw [hg, hf]))
theorem OwnAll.put (h : OwnAll w base b k e sz v n xs) {i g cap : Nat} (hi : i < k) (hv : v i = .slice (some ⟨g, 0, none⟩) (n i) cap) (j : Nat) (u : Value) :
  OwnAll (w.setCell ⟨g, j, none⟩ u) base b k e sz v n (updF xs i ((xs i).set j u)) /\ Turns (fun x => x = g) w (w.setCell ⟨g, j, none⟩ u) := by
 have hg : (v i).ownBlock = some g := by rw [hv]; rfl
 have ht : Turns (fun x => x = g) w (w.setCell ⟨g, j, none⟩ u) := (T0 (fun x => x = g) w).put (p := ⟨g, j, none⟩) rfl u
 refine ⟨⟨fun i' hi' => ?_, h.apart, h.notb⟩, ht⟩
 by_cases e1 : i' = i
 ·subst e1
  rw [updF_same]
  have h1 := h.own i' hi'
  rw [hv] at h1 ⊢
  exact (h1.stored j u).1
 ·rw [updF_other _ _ e1]
  exact own_kept (h.own i' hi') (fun g' hg' => ht.block g' (h.lt hi' hg').2 (fun e2 => e1 (h.apart i' i g' hi' hi hg' (by rw [hg, e2]))))
theorem OwnAll.grown (h : OwnAll w base b k e sz v n xs) (hbl : b < w.heap.size) {i : Nat} (hi : i < k) {v' : Value} {n' : Nat} {xs' : List Value} (hown : w'.ownsRow base (e i) (sz i) v' n' xs') (hg : w.grownBy w' (v i).ownBlock)
  (hloc : ∀ g, v'.ownBlock = some g -> (v i).ownBlock = some g \/ w.heap.size <= g) : OwnAll w' base b k e sz (updF v i v') (updF n i n') (updF xs i xs') := by
 refine ⟨fun i' hi' => ?_, fun i1 i2 g h1 h2 g1 g2 => ?_, fun i' hi' hb' => ?_⟩
 ·by_cases e1 : i' = i
  ·subst e1
   rw [updF_same, updF_same, updF_same]
   exact hown
  ·rw [updF_other _ _ e1, updF_other _ _ e1, updF_other _ _ e1]
   exact own_kept (h.own i' hi') (fun g' hg' => hg.block g' (h.lt hi' hg').2 (fun e2 => e1 (h.apart i' i g' hi' hi hg' e2.symm)))
 ·by_cases e1 : i1 = i <;> by_cases e2 : i2 = i
  ·rw [e1, e2]
  ·exfalso
   subst e1
   rw [updF_same] at g1
   rw [updF_other _ _ e2] at g2
   rcases hloc g g1 with h3 | h3
   ·exact e2 (h.apart i2 i1 g h2 h1 g2 h3)
   ·have := (h.lt h2 g2).2; omega
  ·exfalso
   subst e2
   rw [updF_same] at g2
   rw [updF_other _ _ e1] at g1
   rcases hloc g g2 with h3 | h3
   ·exact e1 (h.apart i1 i2 g h1 h2 g1 h3)
   ·have := (h.lt h1 g1).2; omega
  ·rw [updF_other _ _ e1] at g1
   rw [updF_other _ _ e2] at g2
   exact h.apart i1 i2 g h1 h2 g1 g2
 ·by_cases e1 : i' = i
  ·subst e1
   rw [updF_same] at hb'
   rcases hloc b hb' with h3 | h3
   ·exact h.notb i' hi' h3
   ·omega
  ·rw [updF_other _ _ e1] at hb'
   exact h.notb i' hi' hb'
theorem OwnAll.nil (w : World) (base b k : Nat) (e : Nat -> TypeId) (sz : Nat -> Nat) : OwnAll w base b k e sz (fun _ => .slice none 0 0) (fun _ => 0) (fun _ => []) :=
 ⟨fun i _ => World.ownsRow_nil _ _ _ _, fun i j g _ _ h => by simp [Value.ownBlock] at h, fun i _ h => by simp [Value.ownBlock] at h⟩
theorem OwnAll.F_new (h : OwnAll w base b k e sz v n xs) (hb : base <= b) : ∀ g, OwnF b k v g -> base <= g := fun g hg => by
 rcases hg with rfl | ⟨i, hi, hg⟩
 ·exact hb
 ·exact (h.lt hi hg).1
theorem OwnAll.F_lt (h : OwnAll w base b k e sz v n xs) (hb : b < w.heap.size) : ∀ g, OwnF b k v g -> g < w.heap.size := fun g hg => by
 rcases hg with rfl | ⟨i, hi, hg⟩
 ·exact hb
 ·exact (h.lt hi hg).2
theorem OwnF_grown {v' : Value} {i : Nat} (hi : i < k) (hloc : ∀ g, v'.ownBlock = some g -> (v i).ownBlock = some g \/ w.heap.size <= g) : ∀ g, OwnF b k (updF v i v') g -> OwnF b k v g \/ w.heap.size <= g := fun g hg => by
 rcases hg with rfl | ⟨j, hj, hg⟩
 ·exact .inl (.inl rfl)
 ·by_cases e1 : j = i
  ·subst e1
   rw [updF_same] at hg
   rcases hloc g hg with h1 | h1
   ·exact .inl (.inr ⟨j, hj, h1⟩)
   ·exact .inr h1
  ·rw [updF_other _ _ e1] at hg
   exact .inl (.inr ⟨j, hj, hg⟩)
end
end
end Go.Proofs.Ytlpcdfcghgapkaa

namespace Go.Proofs.Ytlpcdfcghgapkaa
open Go.ChangeShapes Go.WideShapes Go.ChangeAt Go.RowKit
set_option linter.unusedVariables false
set_option maxRecDepth 100000
section
structure Vst where
 rd : List Nat
 wr : List (Nat × Nat)
 lost : Bool
 miss : Nat
def freshS : Vst := ⟨[], [], false, 0⟩

def pos : List (Nat × Nat) -> Nat -> Option Nat
 | [], _ => none
 | p :: r, i => if p.1 = i then some 0 else (pos r i).map (· + 1)
def cellW (l : List (Nat × Nat)) (k : Nat) : Nat := (l.getD k (0, 0)).1
def atW (l : List (Nat × Nat)) (k : Nat) : Nat := (l.getD k (0, 0)).2

theorem pos_some : ∀ {l : List (Nat × Nat)} {i k : Nat}, pos l i = some k -> k < l.length /\ cellW l k = i
 | [], i, k, h => by cases h
 | p :: r, i, k, h => by
  unfold pos at h
  split at h
  ·rename_i e
   injection h with h
   subst h
   exact ⟨by simp, by simpa [cellW] using e⟩
  ·cases hp : pos r i with
   | none => rw [hp] at h; cases h
   | some m =>
    rw [hp] at h
    injection h with h
    subst h
    have := pos_some hp
    exact ⟨by simp; omega, by simpa [cellW] using this.2⟩
theorem pos_snoc : ∀ {l : List (Nat × Nat)} {i : Nat} (v : Nat), pos l i = none -> ∀ j, pos (l ++ [(i, v)]) j = if j = i then some l.length else pos l j
 | [], i, v, h, j => by
  by_cases e : j = i
  ·subst e; simp [pos]
  ·have : ¬ i = j := fun x => e x.symm
   simp [pos, e, this]
 | p :: r, i, v, h, j => by
  have hp : ¬ p.1 = i := by
   intro e
   simp [pos, e] at h
  have hr : pos r i = none := by
   simp [pos, hp] at h
   exact h
  have ih := pos_snoc v hr j
  by_cases e : j = i
  ·subst e
   simp [pos, hp, ih]
  ·by_cases e2 : p.1 = j
   ·simp [pos, e, e2]
   ·simp [pos, e, e2, ih]
theorem pos_set : ∀ (l : List (Nat × Nat)) (k v j : Nat), pos (l.set k (cellW l k, v)) j = pos l j
 | [], k, v, j => by simp [pos]
 | p :: r, 0, v, j => by simp [pos, cellW]
 | p :: r, k + 1, v, j => by
  have ih := pos_set r k v j
  simp [pos, cellW] at ih ⊢
  rw [ih]

def putW (l : List (Nat × Nat)) (i v : Nat) : List (Nat × Nat) :=
 match pos l i with
 | some k => l.set k (i, v)
 | none => l ++ [(i, v)]
theorem putW_some {l : List (Nat × Nat)} {i v k : Nat} (h : pos l i = some k) : putW l i v = l.set k (i, v) := by unfold putW; rw [h]
theorem putW_none {l : List (Nat × Nat)} {i v : Nat} (h : pos l i = none) : putW l i v = l ++ [(i, v)] := by unfold putW; rw [h]
theorem pos_putW (l : List (Nat × Nat)) (i v j : Nat) : pos (putW l i v) j = match pos l i with | some _ => pos l j | none => if j = i then some l.length else pos l j := by
 cases h : pos l i with
 | some k =>
  rw [putW_some h]
  have := pos_set l k v j
  rw [(pos_some h).2] at this
  exact this
 | none =>
  rw [putW_none h]
  exact pos_snoc v h j

def opn (n : Nat) (s : Vst) (a : Int) : Bool := !s.lost && decide (0 <= a /\ a < n)
def noteS (s : Vst) (i : Nat) : Vst := if i ∈ s.rd then s else { s with rd := s.rd ++ [i] }
def getV (n : Nat) (K : Nat -> Option Nat) (s : Vst) (a : Int) : Nat :=
 if opn n s a then (match pos s.wr a.toNat with | some k => atW s.wr k | none => (K a.toNat).getD 0) else 0
def getS (n : Nat) (K : Nat -> Option Nat) (s : Vst) (a : Int) : Vst :=
 if opn n s a then (match pos s.wr a.toNat with | some _ => s | none => match K a.toNat with | some _ => noteS s a.toNat | none => { s with lost := true, miss := a.toNat }) else s
def putS (n : Nat) (s : Vst) (a : Int) (v : Nat) : Vst := if opn n s a then { s with wr := putW s.wr a.toNat v } else s
section
variable {n : Nat} {K : Nat -> Option Nat} {s : Vst} {i v k : Nat} {a : Int}
theorem opn_at (h : opn n s a = true) : ∃ i : Nat, a = i /\ i < n /\ s.lost = false := by
 unfold opn at h
 simp at h
 exact ⟨a.toNat, by omega, by omega, h.1⟩
theorem opn_yes (h : i < n) (hl : s.lost = false) : opn n s (i : Int) = true := by unfold opn; simp [hl]; omega
theorem getV_no (h : opn n s a = false) : getV n K s a = 0 := by unfold getV; rw [h]; rfl
theorem getS_no (h : opn n s a = false) : getS n K s a = s := by unfold getS; rw [h]; rfl
theorem putS_no (h : opn n s a = false) : putS n s a v = s := by unfold putS; rw [h]; rfl
theorem putS_yes (h : opn n s (i : Int) = true) : putS n s (i : Int) v = { s with wr := putW s.wr i v } := by unfold putS; rw [if_pos h]; rfl
theorem getV_put (h : opn n s (i : Int) = true) (hp : pos s.wr i = some k) : getV n K s (i : Int) = atW s.wr k := by
 unfold getV; rw [if_pos h, Int.toNat_natCast, hp]
theorem getS_put (h : opn n s (i : Int) = true) (hp : pos s.wr i = some k) : getS n K s (i : Int) = s := by
 unfold getS; rw [if_pos h, Int.toNat_natCast, hp]
theorem getV_known (h : opn n s (i : Int) = true) (hp : pos s.wr i = none) (hk : K i = some v) : getV n K s (i : Int) = v := by
 unfold getV; rw [if_pos h, Int.toNat_natCast, hp, hk]; rfl
theorem getS_known (h : opn n s (i : Int) = true) (hp : pos s.wr i = none) (hk : K i = some v) : getS n K s (i : Int) = noteS s i := by
 unfold getS; rw [if_pos h, Int.toNat_natCast, hp, hk]
theorem getV_lost (h : opn n s (i : Int) = true) (hp : pos s.wr i = none) (hk : K i = none) : getV n K s (i : Int) = 0 := by
 unfold getV; rw [if_pos h, Int.toNat_natCast, hp, hk]; rfl
theorem getS_lost (h : opn n s (i : Int) = true) (hp : pos s.wr i = none) (hk : K i = none) : getS n K s (i : Int) = { s with lost := true, miss := i } := by
 unfold getS; rw [if_pos h, Int.toNat_natCast, hp, hk]
theorem noteS_in (h : i ∈ s.rd) : noteS s i = s := if_pos h
theorem noteS_new (h : i ∉ s.rd) : noteS s i = { s with rd := s.rd ++ [i] } := if_neg h
end

structure VOk (n : Nat) (s : Vst) : Prop where
 rdLt : ∀ i ∈ s.rd, i < n
 rdNd : s.rd.Nodup
 wrLt : ∀ p ∈ s.wr, p.1 < n /\ p.2 < 2 ^ 32
 wrNd : ∀ k, k < s.wr.length -> pos s.wr (cellW s.wr k) = some k
 mLt : s.lost = true -> s.miss < n
theorem VOk.fresh (n : Nat) : VOk n freshS := ⟨by simp [freshS], by simp [freshS], by simp [freshS], by simp [freshS], by simp [freshS]⟩
section
variable {n : Nat} {K : Nat -> Option Nat} {s : Vst} {i v k : Nat} {a : Int}
theorem VOk.note (h : VOk n s) (hi : i < n) : VOk n (noteS s i) := by
 unfold noteS
 split
 ·exact h
 ·rename_i hn
  refine { h with rdLt := fun j hj => ?_, rdNd := ?_ }
  ·simp at hj
   rcases hj with hj | rfl
   ·exact h.rdLt j hj
   ·exact hi
  ·show (s.rd ++ [i]).Nodup
   rw [List.nodup_append]
   refine ⟨h.rdNd, by simp, ?_⟩
   intro x hx y hy
   simp at hy
   subst hy
   rintro rfl
   exact hn hx
theorem VOk.put (h : VOk n s) (hv : v < 2 ^ 32) : VOk n (putS n s a v) := by
 by_cases ho : opn n s a = true
 ·obtain ⟨i, rfl, hi, hl⟩ := opn_at ho
  rw [putS_yes ho]
  refine { h with wrLt := fun p hp => ?_, wrNd := fun k hk => ?_ }
  ·have hp : p ∈ putW s.wr i v := hp
   unfold putW at hp
   split at hp
   ·rcases List.mem_or_eq_of_mem_set hp with h1 | h1
    ·exact h.wrLt p h1
    ·subst h1; exact ⟨hi, hv⟩
   ·simp at hp
    rcases hp with hp | rfl
    ·exact h.wrLt p hp
    ·exact ⟨hi, hv⟩
  ·show pos (putW s.wr i v) (cellW (putW s.wr i v) k) = some k
   have hk : k < (putW s.wr i v).length := hk
   rw [pos_putW]
   cases hp : pos s.wr i with
   | some m =>
    rw [putW_some hp] at hk ⊢
    simp only
    have hk' : k < s.wr.length := by simpa using hk
    have : cellW (s.wr.set m (i, v)) k = cellW s.wr k := by
     unfold cellW
     by_cases e : k = m
     ·subst e
      have h2 := (pos_some hp).2
      unfold cellW at h2
      simp [List.getD, hk']
      simpa [List.getD, hk'] using h2.symm
     ·simp [List.getD, List.getElem?_set_ne (Ne.symm e)]
    rw [this]
    exact h.wrNd k hk'
   | none =>
    rw [putW_none hp] at hk ⊢
    simp only
    rcases Nat.lt_or_ge k s.wr.length with h1 | h1
    ·have e1 : cellW (s.wr ++ [(i, v)]) k = cellW s.wr k := by
      unfold cellW
      simp [List.getD, List.getElem?_append_left h1]
     have e2 := h.wrNd k h1
     rw [e1, if_neg, e2]
     intro e3
     rw [e3, hp] at e2
     cases e2
    ·obtain rfl : k = s.wr.length := by simp at hk; omega
     have e1 : cellW (s.wr ++ [(i, v)]) s.wr.length = i := by simp [cellW, List.getD]
     rw [e1, if_pos rfl]
 ·rw [putS_no (by simpa using ho)]; exact h
end

def nowV (K : Nat -> Option Nat) (wr : List (Nat × Nat)) (i : Nat) : Nat := match pos wr i with | some k => atW wr k | none => (K i).getD 0
def foldW (f : Nat -> Nat) (l : List (Nat × Nat)) : Nat -> Nat := l.foldl (fun f p => updF f p.1 p.2) f
theorem foldW_snoc (f : Nat -> Nat) (l : List (Nat × Nat)) (p : Nat × Nat) : foldW f (l ++ [p]) = updF (foldW f l) p.1 p.2 := by unfold foldW; rw [List.foldl_append]; rfl
theorem foldW_take {f : Nat -> Nat} {l : List (Nat × Nat)} {k : Nat} (h : k < l.length) : foldW f (l.take (k + 1)) = updF (foldW f (l.take k)) (cellW l k) (atW l k) := by
 have : l.take (k + 1) = l.take k ++ [(cellW l k, atW l k)] := by
  have e : (cellW l k, atW l k) = l[k] := by simp [cellW, atW, List.getD, List.getElem?_eq_getElem h]
  rw [List.take_add_one, List.getElem?_eq_getElem h, e]
  rfl
 rw [this, foldW_snoc]
theorem foldW_at {f : Nat -> Nat} {l : List (Nat × Nat)} (hd : ∀ k, k < l.length -> pos l (cellW l k) = some k) (i : Nat) :
  ∀ m, m <= l.length -> foldW f (l.take m) i = match pos l i with | some k => if k < m then atW l k else f i | none => f i
 | 0, _ => by
  simp [foldW]
  split <;> rfl
 | m + 1, hm => by
  rw [foldW_take (by omega)]
  have ih := foldW_at (f := f) hd i m (by omega)
  by_cases e : i = cellW l m
  ·have h1 := hd m (by omega)
   rw [<- e] at h1
   rw [h1]
   simp [<- e, updF_same]
  ·rw [updF_other _ _ e, ih]
   cases hp : pos l i with
   | none => rfl
   | some k =>
    simp only
    have : k ≠ m := by
     rintro rfl
     exact e (pos_some hp).2.symm
    by_cases hk : k < m
    ·rw [if_pos hk, if_pos (by omega)]
    ·rw [if_neg hk, if_neg (by omega)]
theorem foldW_now {K : Nat -> Option Nat} {n : Nat} {s : Vst} (h : VOk n s) (i : Nat) : foldW (fun i => (K i).getD 0) s.wr i = nowV K s.wr i := by
 have := foldW_at (f := fun i => (K i).getD 0) h.wrNd i s.wr.length (Nat.le_refl _)
 rw [List.take_length] at this
 rw [this]
 unfold nowV
 cases hp : pos s.wr i with
 | none => rfl
 | some k => simp [(pos_some hp).1]
end
end Go.Proofs.Ytlpcdfcghgapkaa

namespace Go.Proofs.Ytlpcdfcghgapkaa
open Go.ChangeShapes Go.WideShapes Go.ChangeAt Go.RowKit Go.Maps
set_option linter.unusedVariables false
set_option maxRecDepth 100000
section
theorem intKey1 : Keyed Try.prog 3 := int_keyed Try.underlying3
def kInt (c : Int) : Lit := .int .i64 c
theorem kInt_ne {c d : Int} (h : c ≠ d) : kInt c ≠ kInt d := fun e => by
 unfold kInt at e
 injection e with _ e
 exact h e
theorem kInt_key (c : Int) : WideAt.IsKeyLit (kInt c) := by unfold kInt; trivial
theorem kInt_of {c : Int} (h : (Lit.int .i64 c).wf = true) : keyOf Try.prog 3 (.int .i64 c) = some (kInt c) := keyOf_int_mk Try.underlying3 h
theorem wf_nat {n : Nat} (h : n < 2 ^ 63) : (Lit.int .i64 (n : Int)).wf = true := by
 simp only [Lit.wf, Bool.and_eq_true, IntKind.min, IntKind.max, IntKind.signed, IntKind.bits]
 simp
 omega
structure SetIs (D : DataW Unit) (l : List Nat) : Prop where
 tidy : Tidy D
 has : ∀ c : Int, Maps.has D (kInt c) = decide (0 <= c /\ c.toNat ∈ l)
theorem SetIs.none : SetIs (.map []) [] := ⟨tidy_empty, fun c => by simp [Maps.has]⟩
theorem SetIs.put {D : DataW Unit} {l : List Nat} (h : SetIs D l) (i : Nat) : SetIs (D.put (kInt (i : Int)) (.agg [])) (l ++ [i]) := by
 refine ⟨h.tidy.put (kInt_key _) _, fun c => ?_⟩
 by_cases e : c = i
 ·subst e
  rw [has_put_same h.tidy.isMap (kInt_key _)]
  simp
 ·rw [has_put_other (kInt_ne e), h.has c, decide_eq_decide]
  constructor
  ·rintro ⟨h1, h2⟩
   exact ⟨h1, List.mem_append_left _ h2⟩
  ·rintro ⟨h1, h2⟩
   simp at h2
   rcases h2 with h2 | h2
   ·exact ⟨h1, h2⟩
   ·omega

structure NumIs (D : DataW Unit) (q : IntKind) (K : Nat -> Option Nat) : Prop where
 tidy : Tidy D
 has : ∀ c : Int, Maps.has D (kInt c) = (decide (0 <= c) && (K c.toNat).isSome)
 at_ : ∀ (i v : Nat), K i = some v -> D.atKey (kInt (i : Int)) (.lit (.int q 0)) = .lit (.int q (v : Int))
theorem NumIs.none (q : IntKind) : NumIs (.map []) q (fun _ => none) := ⟨tidy_empty, fun c => by simp [Maps.has], fun i v h => by cases h⟩
theorem NumIs.put {D : DataW Unit} {q : IntKind} {K : Nat -> Option Nat} (h : NumIs D q K) (i v : Nat) : NumIs (D.put (kInt (i : Int)) (.lit (.int q (v : Int)))) q (updF K i (some v)) := by
 refine ⟨h.tidy.put (kInt_key _) _, fun c => ?_, fun j u hj => ?_⟩
 ·by_cases e : c = i
  ·subst e
   rw [has_put_same h.tidy.isMap (kInt_key _)]
   simp [updF_same]
  ·rw [has_put_other (kInt_ne e), h.has c]
   by_cases h0 : 0 <= c
   ·have : c.toNat ≠ i := by omega
    rw [updF_other _ _ this]
   ·simp [h0]
 ·by_cases e : j = i
  ·subst e
   rw [updF_same] at hj
   injection hj with hj
   subst hj
   exact atKey_put_same h.tidy.isMap (kInt_key _) _ _
  ·rw [updF_other _ _ e] at hj
   rw [atKey_put_other (kInt_ne (by omega))]
   exact h.at_ j u hj
theorem NumIs.congr {D : DataW Unit} {q : IntKind} {K K' : Nat -> Option Nat} (h : NumIs D q K) (e : ∀ i, K i = K' i) : NumIs D q K' := by
 obtain rfl : K = K' := funext e
 exact h
end
end Go.Proofs.Ytlpcdfcghgapkaa

namespace Go.Proofs.Ytlpcdfcghgapkaa
open Go.ChangeShapes Go.WideShapes Go.ChangeAt Go.RowKit Go.Maps
set_option linter.unusedVariables false
set_option maxRecDepth 100000
set_option linter.unusedSimpArgs false
section
section
variable {H : Type} {w : World} {g b n m base size : Nat} {t e k : TypeId} {cs : Array Value} {v : Value} {xs : List Value} {P : Program} {R : Value -> Option (DataW H × List MemPlace)} {D : DataW H}
theorem heldMap_ne (h : Held w g t cs) (hm : w.ownsMap P k R b n D) : g ≠ b := by
 rintro rfl
 obtain ⟨es, clock, hb, _⟩ := hm
 unfold Held at h
 rw [h] at hb
 cases hb
theorem ownMap_ne (h : w.ownsRow base e size v m xs) (hm : w.ownsMap P k R b n D) (hg : v.ownBlock = some g) : g ≠ b := by
 rintro rfl
 obtain ⟨es, clock, hb, _⟩ := hm
 rcases h.2 with ⟨rfl, _⟩ | ⟨g', cap, cur, rfl, _, hgg, _⟩
 ·simp [Value.ownBlock] at hg
 ·simp [Value.ownBlock] at hg
  subst hg
  rw [hgg] at hb
  cases hb
end
section
variable {w w' : World} {base b k : Nat} {e : Nat -> TypeId} {sz : Nat -> Nat} {v : Nat -> Value} {n n' : Nat -> Nat} {xs xs' : Nat -> List Value}
theorem OwnAll.congr (h : OwnAll w base b k e sz v n xs) (h1 : ∀ i, i < k -> n i = n' i) (h2 : ∀ i, i < k -> xs i = xs' i) : OwnAll w base b k e sz v n' xs' :=
 ⟨fun i hi => by rw [<- h1 i hi, <- h2 i hi]; exact h.own i hi, h.apart, h.notb⟩
end

structure VGeo where
 m1 : Nat
 m2 : Nat
 sb : Nat
 fv : Value
 v : Nat -> Value
def VGeo.F (o : VGeo) (b : Nat) : Nat -> Prop := fun i => OwnF b 2 o.v i \/ i = o.m1 \/ i = o.m2
def VGeo.A (o : VGeo) (b : Nat) : Nat -> Prop := fun i => o.F b i \/ i = o.sb
def vE (i : Nat) : TypeId := if i = 0 then 3 else 68
def vSz (i : Nat) : Nat := if i = 0 then 1 else 2
def ntVs (l : List Nat) : List Value := l.map fun (n : Nat) => Value.int .i64 (n : Int)
def prVs (l : List (Nat × Nat)) : List Value := l.flatMap fun p => [Value.int .i64 (p.1 : Int), .int .u32 (p.2 : Int)]
def vN (s : Vst) (i : Nat) : Nat := if i = 0 then s.rd.length else s.wr.length
def vX (s : Vst) (i : Nat) : List Value := if i = 0 then ntVs s.rd else prVs s.wr
def valF (f : Nat -> Nat) : Nat -> Value := fun i => .int .u32 ((f i : Nat) : Int)
theorem prVs_len (l : List (Nat × Nat)) : (prVs l).length = l.length * 2 := by
 induction l with
 | nil => rfl
 | cons p r ih => unfold prVs at ih ⊢; simp [ih]; omega
theorem prVs_snoc (l : List (Nat × Nat)) (p : Nat × Nat) : prVs (l ++ [p]) = prVs l ++ [.int .i64 (p.1 : Int), .int .u32 (p.2 : Int)] := by unfold prVs; simp
theorem prVs_at : ∀ (l : List (Nat × Nat)) (k : Nat), k < l.length -> (prVs l)[k * 2]? = some (.int .i64 (cellW l k : Int)) /\ (prVs l)[k * 2 + 1]? = some (.int .u32 (atW l k : Int))
 | [], k, h => by simp at h
 | p :: r, 0, h => by simp [prVs, cellW, atW]
 | p :: r, k + 1, h => by
  have ih := prVs_at r k (by simpa using h)
  have e : prVs (p :: r) = .int .i64 (p.1 : Int) :: .int .u32 (p.2 : Int) :: prVs r := by simp [prVs]
  rw [e]
  have e1 : (k + 1) * 2 = k * 2 + 1 + 1 := by omega
  have e2 : (k + 1) * 2 + 1 = k * 2 + 1 + 1 + 1 := by omega
  rw [e2, e1, List.getElem?_cons_succ, List.getElem?_cons_succ, List.getElem?_cons_succ, List.getElem?_cons_succ]
  simpa [cellW, atW] using ih
theorem prVs_set : ∀ (l : List (Nat × Nat)) (k v : Nat), k < l.length -> (prVs l).set (k * 2 + 1) (.int .u32 (v : Int)) = prVs (l.set k (cellW l k, v))
 | [], k, v, h => by simp at h
 | p :: r, 0, v, h => by simp [prVs, cellW]
 | p :: r, k + 1, v, h => by
  have ih := prVs_set r k v (by simpa using h)
  have e : prVs (p :: r) = .int .i64 (p.1 : Int) :: .int .u32 (p.2 : Int) :: prVs r := by simp [prVs]
  have e2 : (k + 1) * 2 + 1 = k * 2 + 1 + 1 + 1 := by omega
  rw [e, e2, List.set_cons_succ, List.set_cons_succ, ih]
  simp [prVs, cellW]

def SrcIs (w : World) (wh : Bool) (n : Nat) (o : VGeo) (K : Nat -> Option Nat) : Prop :=
 if wh then (∃ A c, o.fv = .iface 50 (.slice A n c) /\ n <= c /\ c <= maxLen /\ (∀ i, i < n -> ∃ x, K i = some x /\ x < 2 ^ 32) /\ (0 < n -> A = some ⟨o.sb, 0, none⟩ /\ RowF w o.sb 32 n c (valF fun i => (K i).getD 0)))
 else False
theorem SrcIs.same {w w' : World} {wh : Bool} {n : Nat} {o o' : VGeo} {K : Nat -> Option Nat} (h : SrcIs w wh n o K) (hb : w'.heap[o.sb]? = w.heap[o.sb]?) (h1 : o'.sb = o.sb) (h2 : o'.fv = o.fv) : SrcIs w' wh n o' K := by
 unfold SrcIs at h ⊢
 cases wh with
 | true =>
  obtain ⟨A, c, e1, e2, e3, e4, e5⟩ := h
  exact ⟨A, c, by rw [h2]; exact e1, e2, e3, e4, fun hn => ⟨by rw [h1]; exact (e5 hn).1, by rw [h1]; exact (e5 hn).2.same hb⟩⟩
 | false =>
  exact False.elim h

structure VParts (w : World) (base b n : Nat) (wh : Bool) (o : VGeo) (hd : Array Value) (nn : Nat -> Nat) (xs : Nat -> List Value) (k1 : Nat) (D1 : DataW Unit) (k2 : Nat) (D2 : DataW Unit) (K : Nat -> Option Nat) : Prop where
 head : Held w b 66 hd
 own : OwnAll w base b 2 vE vSz o.v nn xs
 m1 : w.ownsMap Try.prog 3 unitElem o.m1 k1 D1
 m2 : w.ownsMap Try.prog 3 (plainElem Try.prog 3) o.m2 k2 D2
 src : SrcIs w wh n o K
 bb : base <= b
 b1 : base <= o.m1
 b2 : base <= o.m2
 bs : base <= o.sb
 slt : o.sb < w.heap.size
 mm : o.m1 ≠ o.m2
 s1 : o.sb ≠ o.m1
 s2 : o.sb ≠ o.m2
 sF : (wh = true /\ n = 0) \/ ¬ OwnF b 2 o.v o.sb
section
variable {w w' : World} {base b n : Nat} {wh : Bool} {o : VGeo} {hd : Array Value} {nn : Nat -> Nat} {xs : Nat -> List Value} {k1 k2 : Nat} {D1 D2 : DataW Unit} {K : Nat -> Option Nat}
theorem VParts.ge (h : VParts w base b n wh o hd nn xs k1 D1 k2 D2 K) : ∀ i, o.A b i -> base <= i := by
 rintro i ((hi | rfl | rfl) | rfl)
 ·exact h.own.F_new h.bb i hi
 ·exact h.b1
 ·exact h.b2
 ·exact h.bs
theorem VParts.lt (h : VParts w base b n wh o hd nn xs k1 D1 k2 D2 K) : ∀ i, o.A b i -> i < w.heap.size := by
 rintro i ((hi | rfl | rfl) | rfl)
 ·exact h.own.F_lt h.head.lt i hi
 ·exact h.m1.lt
 ·exact h.m2.lt
 ·exact h.slt
theorem VParts.m1F (h : VParts w base b n wh o hd nn xs k1 D1 k2 D2 K) : ¬ OwnF b 2 o.v o.m1 := by
 rintro (e | ⟨i, hi, hg⟩)
 ·exact heldMap_ne h.head h.m1 e.symm
 ·exact ownMap_ne (h.own.own i hi) h.m1 hg rfl
theorem VParts.m2F (h : VParts w base b n wh o hd nn xs k1 D1 k2 D2 K) : ¬ OwnF b 2 o.v o.m2 := by
 rintro (e | ⟨i, hi, hg⟩)
 ·exact heldMap_ne h.head h.m2 e.symm
 ·exact ownMap_ne (h.own.own i hi) h.m2 hg rfl
theorem VParts.turns {G : Nat -> Prop} (h : VParts w base b n wh o hd nn xs k1 D1 k2 D2 K) (ht : Turns G w w') (hf : ∀ i, o.A b i -> ¬ G i) : VParts w' base b n wh o hd nn xs k1 D1 k2 D2 K :=
 { h with
  head := ht.held h.head (hf _ (.inl (.inl (.inl rfl))))
  own := h.own.turns ht (fun i g hi hg => hf _ (.inl (.inl (.inr ⟨i, hi, hg⟩))))
  m1 := owns_turns h.m1 ht (hf _ (.inl (.inr (.inl rfl))))
  m2 := owns_turns h.m2 ht (hf _ (.inl (.inr (.inr rfl))))
  src := h.src.same (ht.block _ h.slt (hf _ (.inr rfl))) rfl rfl
  slt := Nat.lt_of_lt_of_le h.slt ht.size }
theorem VParts.keep (h : VParts w base b n wh o hd nn xs k1 D1 k2 D2 K) (hb : Below w.heap.size w w') : VParts w' base b n wh o hd nn xs k1 D1 k2 D2 K :=
 h.turns (G := fun _ => False) (Turns.of_below hb _) (fun _ _ x => x)
theorem SrcIs.of_grown {row : Option Nat} (h : VParts w base b n wh o hd nn xs k1 D1 k2 D2 K) (hg : w.grownBy w' row) (hr : ∀ g, row = some g -> o.F b g) : SrcIs w' wh n o K := by
 by_cases he : wh = true /\ n = 0
 ·have h1 := h.src
  obtain ⟨rfl, rfl⟩ := he
  unfold SrcIs at h1 ⊢
  obtain ⟨A, c, e1, e2, e3, e4, e5⟩ := h1
  exact ⟨A, c, e1, e2, e3, e4, fun hn => by omega⟩
 ·refine h.src.same (hg.block _ h.slt (fun e => ?_)) rfl rfl
  rcases hr _ e.symm with h1 | h1 | h1
  ·rcases h.sF with h2 | h2
   ·exact he h2
   ·exact h2 h1
  ·exact h.s1 h1
  ·exact h.s2 h1
theorem VParts.map1 (h : VParts w base b n wh o hd nn xs k1 D1 k2 D2 K) {k : Nat} {D : DataW Unit} (hg : w.grownBy w' (some o.m1)) (hm : w'.ownsMap Try.prog 3 unitElem o.m1 k D) :
  VParts w' base b n wh o hd nn xs k D k2 D2 K /\ Turns (o.F b) w w' := by
 have ht : Turns (fun i => i = o.m1) w w' := Turns.of_grown hg rfl
 refine ⟨{ h with
  head := ht.held h.head (fun e => h.m1F (.inl e.symm))
  own := h.own.turns ht (fun i g hi hg e => h.m1F (.inr ⟨i, hi, by rw [<- e]; exact hg⟩))
  m1 := hm
  m2 := owns_turns h.m2 ht (fun e => h.mm e.symm)
  src := SrcIs.of_grown h hg (fun g e => by injection e with e; exact .inr (.inl e.symm))
  slt := Nat.lt_of_lt_of_le h.slt hg.size }, ht.more (fun i e => .inr (.inl e))⟩
theorem VParts.map2 (h : VParts w base b n wh o hd nn xs k1 D1 k2 D2 K) {k : Nat} {D : DataW Unit} (hg : w.grownBy w' (some o.m2)) (hm : w'.ownsMap Try.prog 3 (plainElem Try.prog 3) o.m2 k D) :
  VParts w' base b n wh o hd nn xs k1 D1 k D K /\ Turns (o.F b) w w' := by
 have ht : Turns (fun i => i = o.m2) w w' := Turns.of_grown hg rfl
 refine ⟨{ h with
  head := ht.held h.head (fun e => h.m2F (.inl e.symm))
  own := h.own.turns ht (fun i g hi hg e => h.m2F (.inr ⟨i, hi, by rw [<- e]; exact hg⟩))
  m1 := owns_turns h.m1 ht (fun e => h.mm e)
  m2 := hm
  src := SrcIs.of_grown h hg (fun g e => by injection e with e; exact .inr (.inr e.symm))
  slt := Nat.lt_of_lt_of_le h.slt hg.size }, ht.more (fun i e => .inr (.inr e))⟩
theorem VParts.setHead (h : VParts w base b n wh o hd nn xs k1 D1 k2 D2 K) (j : Nat) (u : Value) :
  VParts (w.setCell ⟨b, j, none⟩ u) base b n wh o (hd.setIfInBounds j u) nn xs k1 D1 k2 D2 K /\ Turns (o.F b) w (w.setCell ⟨b, j, none⟩ u) := by
 have ht : Turns (fun i => i = b) w (w.setCell ⟨b, j, none⟩ u) := (T0 (fun i => i = b) w).put (p := ⟨b, j, none⟩) rfl u
 have hg : w.grownBy (w.setCell ⟨b, j, none⟩ u) (some b) := ⟨ht.os, ht.tape, ht.output, ht.size, fun i hi hne => ht.block i hi (fun e => hne (by rw [e]))⟩
 refine ⟨{ h with
  head := h.head.put j u
  own := h.own.setB j u
  m1 := owns_turns h.m1 ht (fun e => heldMap_ne h.head h.m1 e.symm)
  m2 := owns_turns h.m2 ht (fun e => heldMap_ne h.head h.m2 e.symm)
  src := SrcIs.of_grown h hg (fun g e => by injection e with e; subst e; exact .inl (.inl rfl))
  slt := by simp; exact h.slt }, ht.more (fun i e => .inl (.inl e))⟩
theorem VParts.store (h : VParts w base b n wh o hd nn xs k1 D1 k2 D2 K) {i g cap : Nat} (hi : i < 2) (hv : o.v i = .slice (some ⟨g, 0, none⟩) (nn i) cap) (j : Nat) (u : Value) :
  VParts (w.setCell ⟨g, j, none⟩ u) base b n wh o hd nn (updF xs i ((xs i).set j u)) k1 D1 k2 D2 K /\ Turns (o.F b) w (w.setCell ⟨g, j, none⟩ u) := by
 obtain ⟨h1, ht⟩ := h.own.put hi hv j u
 have hgo : OwnF b 2 o.v g := .inr ⟨i, hi, by rw [hv]; rfl⟩
 have hg : w.grownBy (w.setCell ⟨g, j, none⟩ u) (some g) := ⟨ht.os, ht.tape, ht.output, ht.size, fun i hi hne => ht.block i hi (fun e => hne (by rw [e]))⟩
 refine ⟨{ h with
  head := ht.held h.head (fun e => h.own.notb i hi (by rw [hv, e]; rfl))
  own := h1
  m1 := owns_turns h.m1 ht (fun e => h.m1F (by rw [e]; exact hgo))
  m2 := owns_turns h.m2 ht (fun e => h.m2F (by rw [e]; exact hgo))
  src := SrcIs.of_grown h hg (fun q e => by injection e with e; subst e; exact .inl hgo)
  slt := by simp; exact h.slt }, ht.more (fun x e => by subst e; exact .inl hgo)⟩
theorem VParts.grow (h : VParts w base b n wh o hd nn xs k1 D1 k2 D2 K) {i : Nat} (hi : i < 2) {v' : Value} {n' : Nat} {xs' : List Value} (hown : w'.ownsRow base (vE i) (vSz i) v' n' xs') (hg : w.grownBy w' (o.v i).ownBlock)
  (hloc : ∀ g, v'.ownBlock = some g -> (o.v i).ownBlock = some g \/ w.heap.size <= g) :
  VParts w' base b n wh { o with v := updF o.v i v' } hd (updF nn i n') (updF xs i xs') k1 D1 k2 D2 K /\ (∀ g, VGeo.A { o with v := updF o.v i v' } b g -> o.A b g \/ w.heap.size <= g) /\ Turns (o.F b) w w' := by
 have hF := OwnF_grown (b := b) (w := w) hi hloc
 have hne : ∀ q, ¬ OwnF b 2 o.v q -> q < w.heap.size -> w'.heap[q]? = w.heap[q]? := fun q hq hlt => hg.block q hlt (fun e => hq (.inr ⟨i, hi, e.symm⟩))
 have hbq : w'.heap[b]? = w.heap[b]? := hg.block b h.head.lt (fun e => h.own.notb i hi e.symm)
 have hT : Turns (o.F b) w w' := ⟨hg.os, hg.tape, hg.output, hg.size, fun q hq hf => hne q (fun x => hf (.inl x)) hq⟩
 refine ⟨{ h with
  head := hbq.trans h.head
  own := h.own.grown h.head.lt hi hown hg hloc
  m1 := by
   obtain ⟨es, clock, e1, e2⟩ := h.m1
   exact ⟨es, clock, (hne _ h.m1F h.m1.lt).trans e1, e2⟩
  m2 := by
   obtain ⟨es, clock, e1, e2⟩ := h.m2
   exact ⟨es, clock, (hne _ h.m2F h.m2.lt).trans e1, e2⟩
  src := (SrcIs.of_grown h hg (fun g e => .inl (.inr ⟨i, hi, e⟩))).same rfl rfl rfl
  slt := Nat.lt_of_lt_of_le h.slt hg.size
  sF := by
   rcases h.sF with h1 | h1
   ·exact .inl h1
   ·refine .inr (fun x => ?_)
    rcases hF _ x with h2 | h2
    ·exact h1 h2
    ·have h3 := h.slt
     have h2 : w.heap.size <= o.sb := h2
     omega }, ?_, hT⟩
 rintro g ((hx | hx | hx) | hx)
 ·rcases hF g hx with h2 | h2
  ·exact .inl (.inl (.inl h2))
  ·exact .inr h2
 ·exact .inl (.inl (.inr (.inl hx)))
 ·exact .inl (.inl (.inr (.inr hx)))
 ·exact .inl (.inr hx)
end

def vHead (n : Nat) (o : VGeo) (s : Vst) : Array Value := #[.int .i64 (n : Int), o.fv, o.v 0, .map (some o.m1), o.v 1, .map (some o.m2), .bool s.lost, .int .i64 (s.miss : Int)]
structure IsView (w : World) (base b n : Nat) (wh : Bool) (o : VGeo) (K : Nat -> Option Nat) (s : Vst) : Prop where
 parts : ∃ k1 D1 k2 D2, k1 <= s.rd.length /\ k2 <= s.wr.length /\ SetIs D1 s.rd /\ NumIs D2 .i64 (pos s.wr) /\ VParts w base b n wh o (vHead n o s) (vN s) (vX s) k1 D1 k2 D2 K
 ok : VOk n s
 nmax : n <= 2 ^ 40
 k32 : ∀ i x, K i = some x -> x < 2 ^ 32
section
variable {w w' : World} {base b n : Nat} {wh : Bool} {o : VGeo} {K : Nat -> Option Nat} {s : Vst}
theorem IsView.ge (h : IsView w base b n wh o K s) : ∀ i, o.A b i -> base <= i := by obtain ⟨k1, D1, k2, D2, _, _, _, _, hp⟩ := h.parts; exact hp.ge
theorem IsView.lt (h : IsView w base b n wh o K s) : ∀ i, o.A b i -> i < w.heap.size := by obtain ⟨k1, D1, k2, D2, _, _, _, _, hp⟩ := h.parts; exact hp.lt
theorem IsView.turns {G : Nat -> Prop} (h : IsView w base b n wh o K s) (ht : Turns G w w') (hf : ∀ i, o.A b i -> ¬ G i) : IsView w' base b n wh o K s :=
 { h with
  parts := by
   obtain ⟨k1, D1, k2, D2, e1, e2, e3, e4, hp⟩ := h.parts
   exact ⟨k1, D1, k2, D2, e1, e2, e3, e4, hp.turns ht hf⟩ }
theorem IsView.keep (h : IsView w base b n wh o K s) (hb : Below w.heap.size w w') : IsView w' base b n wh o K s :=
 h.turns (G := fun _ => False) (Turns.of_below hb _) (fun _ _ x => x)
theorem IsView.head (h : IsView w base b n wh o K s) : Held w b 66 (vHead n o s) := by obtain ⟨k1, D1, k2, D2, _, _, _, _, hp⟩ := h.parts; exact hp.head
theorem IsView.cells (h : IsView w base b n wh o K s) : w.cell? ⟨b, 0, none⟩ = some (.int .i64 (n : Int)) /\ w.cell? ⟨b, 1, none⟩ = some o.fv /\ w.cell? ⟨b, 2, none⟩ = some (o.v 0) /\ w.cell? ⟨b, 3, none⟩ = some (.map (some o.m1)) /\
  w.cell? ⟨b, 4, none⟩ = some (o.v 1) /\ w.cell? ⟨b, 5, none⟩ = some (.map (some o.m2)) /\ w.cell? ⟨b, 6, none⟩ = some (.bool s.lost) /\ w.cell? ⟨b, 7, none⟩ = some (.int .i64 (s.miss : Int)) :=
 ⟨h.head.cell 0, h.head.cell 1, h.head.cell 2, h.head.cell 3, h.head.cell 4, h.head.cell 5, h.head.cell 6, h.head.cell 7⟩
end
end
end Go.Proofs.Ytlpcdfcghgapkaa

namespace Go.Proofs.Ytlpcdfcghgapkaa
open Go.ChangeShapes Go.WideShapes Go.ChangeAt Go.RowKit
set_option linter.unusedVariables false
section
def RowV (w : World) (v : Value) (xs : List Value) : Prop :=
 xs.length <= maxLen /\ ((v = .slice none 0 0 /\ xs = []) \/ ∃ g o c, v = .slice (some ⟨g, o, none⟩) xs.length c /\ g < w.heap.size /\ ∀ i u, xs[i]? = some u -> w.cell? ⟨g, o + i, none⟩ = some u)

theorem RowV.below {w w' : World} {v : Value} {xs : List Value} (h : RowV w v xs) (hb : Below w.heap.size w w') : RowV w' v xs := by
 refine ⟨h.1, ?_⟩
 rcases h.2 with h | ⟨g, o, c, hv, hg, hc⟩
 ·exact .inl h
 ·exact .inr ⟨g, o, c, hv, Nat.lt_of_lt_of_le hg hb.size, fun i u hu => (hb.cell (p := ⟨g, o + i, none⟩) hg).trans (hc i u hu)⟩

theorem intInfo : (Try.prog.info? 3).map (fun i => (i.zero, i.size, i.bytes)) = some (some (.int .i64 0), 1, 8) := by kernel_rfl
end
end Go.Proofs.Ytlpcdfcghgapkaa

namespace Go.Proofs.Ytlpcdfcghgapkaa
open Go.ChangeShapes Go.WideShapes Go.ChangeAt Go.RowKit Go.Maps
set_option linter.unusedVariables false
set_option maxRecDepth 100000
set_option linter.unusedSimpArgs false
section
theorem vopen_c {base b n : Nat} {wh : Bool} {o : VGeo} {K : Nat -> Option Nat} {s : Vst} (a : Int) (w : World) (h : IsView w base b n wh o K s) :
  Calls Try.prog 41 #[.pointer (some ⟨b, 0, none⟩), .int .i64 a] w fun e w' => e = .returned (.bool (opn n s a)) /\ w' = w := by
 obtain ⟨c0, _, _, _, _, _, c6, _⟩ := h.cells
 have hn := h.nmax
 clear h
 cases hl : s.lost with
 | true =>
  have HV : Hid (opn n s a = false) := hidp (by unfold opn; simp [hl])
  rw [hl] at c6
  go_enter Try.func41, Try.ntmps41
  go_wp2
  go_ret
  exact ⟨by rw [HV.out]; rfl, rfl⟩
 | false =>
  rw [hl] at c6
  rcases Int.lt_or_le a 0 with h1 | h1
  ·have HV : Hid (opn n s a = false) := hidp (by unfold opn; simp; omega)
   have t0 : decide ((0 : Int) <= a) = false := decide_eq_false (by omega)
   clear hl
   go_enter Try.func41, Try.ntmps41
   go_wp2
   go_ret
   exact ⟨by rw [HV.out]; rfl, rfl⟩
  ·have t0 : decide ((0 : Int) <= a) = true := decide_eq_true h1
   rcases Int.lt_or_le a n with h2 | h2
   ·have HV : Hid (opn n s a = true) := hidp (by unfold opn; simp [hl]; omega)
    have t1 : decide (a < (n : Int)) = true := decide_eq_true h2
    clear hl
    go_enter Try.func41, Try.ntmps41
    go_wp2
    go_ret
    exact ⟨by rw [HV.out]; rfl, rfl⟩
   ·have HV : Hid (opn n s a = false) := hidp (by unfold opn; simp; omega)
    have t1 : decide (a < (n : Int)) = false := decide_eq_false (by omega)
    clear hl
    go_enter Try.func41, Try.ntmps41
    go_wp2
    go_ret
    exact ⟨by rw [HV.out]; rfl, rfl⟩

theorem listKnown_c (g n c i : Nat) (x : Int) (hi : i < n) (hn : n <= c) (hc : c <= maxLen) (w : World) (h : w.cell? ⟨g, i, none⟩ = some (.int .u32 x)) :
  Calls Try.prog 105 #[.slice (some ⟨g, 0, none⟩) n c, .int .i64 (i : Int)] w fun e w' => e = .returned (.tuple #[.int .u32 x, .bool true]) /\ w' = w := by
 unfold maxLen at hc
 go_enter Try.func105, Try.ntmps105
 go_wp2
 go_ret2
 exact ⟨rfl, rfl⟩

theorem zeroU32 (w : World) : (zeroValue 32).run Try.prog w = .ok (.int .u32 0) w := by kernel_rfl
theorem zeroInt (w : World) : (zeroValue 3).run Try.prog w = .ok (.int .i64 0) w := by kernel_rfl
theorem zeroUnit (w : World) : (zeroValue 106).run Try.prog w = .ok (.agg #[]) w := by kernel_rfl

theorem vN_rd (s : Vst) (i : Nat) : ∀ j, j < 2 -> updF (vN s) 0 (s.rd.length + 1) j = vN { s with rd := s.rd ++ [i] } j := fun j hj => by
 match j, hj with
 | 0, _ => simp [updF, vN]
 | 1, _ => simp [updF, vN]
theorem vX_rd (s : Vst) (i : Nat) : ∀ j, j < 2 -> updF (vX s) 0 (ntVs s.rd ++ [Value.int .i64 (i : Int)]) j = vX { s with rd := s.rd ++ [i] } j := fun j hj => by
 match j, hj with
 | 0, _ => simp [updF, vX, ntVs]
 | 1, _ => simp [updF, vX]
theorem note_c {base b n : Nat} {wh : Bool} {o : VGeo} {K : Nat -> Option Nat} {s : Vst} (i : Nat) (hi : i < n) (hlim : s.rd.length < 2 ^ 40) (w : World) (h : IsView w base b n wh o K s) :
    Calls Try.prog 87 #[.pointer (some ⟨b, 0, none⟩), .int .i64 (i : Int)] w fun e w' => e = .returned (.tuple #[]) /\
      ∃ o' : VGeo, IsView w' base b n wh o' K (noteS s i) /\ (∀ g, o'.A b g -> o.A b g \/ w.heap.size <= g) /\ Turns (o.F b) w w' := by
  have hn := h.nmax
  have HH := hidp h
  obtain ⟨c0, c1, c2, c3, _, _, _, _⟩ := h.cells
  obtain ⟨k1, D1, k2, D2, e1, e2, e3, e4, hp⟩ := h.parts
  have hkey := kInt_of (c := (i : Int)) (wf_nat (by omega))
  have HP := hidp hp
  by_cases hm : i ∈ s.rd
  · have HM : Hid (Maps.has D1 (kInt (i : Int)) = true) := hidp (by rw [e3.has]; simp [hm])
    have HN := hidp (noteS_in hm)
    clear h hp hm e3 e4
    go_enter Try.func87, Try.ntmps87
    go_wp2_with (first
      | (at_lookup; refine wpList_lookup_own_unit _ rfl _ _ 62 rfl 3 106 intKey1 Try.underlying62 (zeroUnit _) o.m1 k1 D1 rfl HP.out.m1 _ _ rfl hkey ?_; rw [HM.out])
      | go_in)
    go_end0
    refine ⟨rfl, o, ?_, fun g hg => .inl hg, (T0 _ _).alloc _⟩
    rw [HN.out]
    exact HH.out.keep (Bnew (B0 _) _)
  · have HM : Hid (Maps.has D1 (kInt (i : Int)) = false) := hidp (by rw [e3.has]; simp [hm])
    have HN := hidp (noteS_new hm)
    have HS := hidp (e3.put i)
    have HE := hidp e4
    have HOK := hidp (h.ok.note (i := i) hi)
    have HP1 : Hid (VParts (w.alloc (.cells #[] 106)) base b n wh o (vHead n o s) (vN s) (vX s) k1 D1 k2 D2 K) := hidp (hp.keep (Bnew (B0 _) _))
    obtain ⟨i0, hin, hz0, hz1, hz2⟩ := info_parts intInfo
    have hbl := hp.head.lt
    clear h hp hm e3 e4
    go_enter Try.func87, Try.ntmps87
    go_wp2_with (first
      | (at_lookup; refine wpList_lookup_own_unit _ rfl _ _ 62 rfl 3 106 intKey1 Try.underlying62 (zeroUnit _) o.m1 k1 D1 rfl HP.out.m1 _ _ rfl hkey ?_; rw [HM.out])
      | (at_mapUpdate; refine wpList_mapUpdate_own _ rfl _ _ _ 62 rfl 3 106 intKey1 Try.underlying62 _ o.m1 k1 D1 rfl HP1.out.m1 (by unfold maxLen; omega) _ _ _ rfl rfl hkey _ [] unitElem_mk ?_
         intro w2 hown1 hgrow1
         obtain ⟨hp2, ht2⟩ := HP1.out.map1 hgrow1 hown1
         have c2' : w2.cell? ⟨b, 2, none⟩ = some (o.v 0) := hp2.head.cell 2
         have HP2 := hidp hp2
         have HT2 := hidp (((T0 (o.F b) w).alloc _).trans ht2)
         clear hp2 ht2 hown1 hgrow1)
      | (at_builtin
         refine wpList_append_lies _ rfl _ _ 61 rfl base 3 i0 (.int .i64 0) 1 8 Try.underlying61 hin hz0 hz1 hz2 rfl (by decide) (o.v 0) s.rd.length (ntVs s.rd) rfl ((HP2.out.own.own 0 (by omega)).alloc _) ⟨_, 0, none⟩ 1 1 [.int .i64 (i : Int)] rfl rfl ?c1 ?c2 (by omega) ?c3 ?c4 ?c5 _ rfl ?_
         case c1 => intro j y hy; rcases j with _ | j; (· simp at hy; subst hy; simp [Addr.add]); (· simp at hy)
         case c2 => simp [Value.oneCell']
         case c3 => unfold maxLen; omega
         case c4 => omega
         case c5 => have := HP2.out.bb; have := HP2.out.head.lt; simp; omega
         intro g cap w4 hown4 hgrow4 hat4 hlt4
         obtain ⟨hp4, hA4, hT4⟩ := (HP2.out.keep (Bnew (B0 _) _)).grow (i := 0) (by omega) hown4 hgrow4 (fun q hq => by
           have hq : g = q := by simpa [Value.ownBlock] using hq
           subst hq
           rcases hat4 with h1 | h1
           · exact .inl h1
           · right; rw [h1]; exact Nat.le_refl _)
         have c2'' : w4.cell? ⟨b, 2, none⟩ = some (o.v 0) := hp4.head.cell 2
         have f2 := hp4.head.thawed 2
         have HP4 := hidp hp4
         have HA4 := hidp hA4
         have HT4 := hidp (HT2.out.trans (((T0 (o.F b) w2).alloc _).trans hT4))
         clear hp4 hA4 hT4 hown4 hgrow4 hat4)
      | go_in)
    go_end0
    obtain ⟨hp5, ht5⟩ := HP4.out.setHead 2 (.slice (some ⟨g, 0, none⟩) (s.rd.length + 1) cap)
    refine ⟨rfl, { o with v := updF o.v 0 (.slice (some ⟨g, 0, none⟩) (s.rd.length + 1) cap) }, ?_, fun q hq => ?_, HT4.out.put (p := ⟨b, 2, none⟩) (.inl (.inl rfl)) _⟩
    · rw [HN.out] at HOK ⊢
      exact { parts := ⟨_, _, k2, D2, by simp; omega, e2, HS.out, HE.out, { hp5 with own := hp5.own.congr (vN_rd s i) (vX_rd s i) }⟩, ok := HOK.out, nmax := hn, k32 := HH.out.k32 }
    · rcases HA4.out q hq with h1 | h1
      · exact .inl h1
      · have h2 := HT2.out.size
        simp at h1
        exact .inr (by omega)

theorem IsView.wvm {w : World} {base b n : Nat} {wh : Bool} {o : VGeo} {K : Nat -> Option Nat} {s : Vst} (h : IsView w base b n wh o K s) : ∃ k D, k <= s.wr.length /\ w.ownsMap Try.prog 3 (plainElem Try.prog 3) o.m2 k D /\ NumIs D .i64 (pos s.wr) := by
 obtain ⟨k1, D1, k2, D2, e1, e2, e3, e4, hp⟩ := h.parts
 exact ⟨k2, D2, e2, hp.m2, e4⟩
theorem IsView.wrow {w : World} {base b n : Nat} {wh : Bool} {o : VGeo} {K : Nat -> Option Nat} {s : Vst} (h : IsView w base b n wh o K s) : w.ownsRow base 68 2 (o.v 1) s.wr.length (prVs s.wr) := by
 obtain ⟨k1, D1, k2, D2, e1, e2, e3, e4, hp⟩ := h.parts
 exact hp.own.own 1 (by omega)
theorem IsView.src {w : World} {base b n : Nat} {wh : Bool} {o : VGeo} {K : Nat -> Option Nat} {s : Vst} (h : IsView w base b n wh o K s) : SrcIs w wh n o K := by
 obtain ⟨k1, D1, k2, D2, e1, e2, e3, e4, hp⟩ := h.parts
 exact hp.src
def Left11 (w : World) (base b n : Nat) (wh : Bool) (o : VGeo) (K : Nat -> Option Nat) (s : Vst) (w' : World) : Prop :=
 ∃ o' : VGeo, IsView w' base b n wh o' K s /\ (∀ g, o'.A b g -> o.A b g \/ w.heap.size <= g) /\ Turns (o.F b) w w'
theorem Left11.same {w : World} {base b n : Nat} {wh : Bool} {o : VGeo} {K : Nat -> Option Nat} {s : Vst} (h : IsView w base b n wh o K s) : Left11 w base b n wh o K s w := ⟨o, h, fun g hg => .inl hg, T0 _ _⟩

theorem SrcIs.list {w : World} {n : Nat} {o : VGeo} {K : Nat -> Option Nat} (h : SrcIs w true n o K) :
  ∃ A c, o.fv = .iface 50 (.slice A n c) /\ n <= c /\ c <= maxLen /\ (∀ i, i < n -> ∃ x, K i = some x /\ x < 2 ^ 32) /\ (0 < n -> A = some ⟨o.sb, 0, none⟩ /\ RowF w o.sb 32 n c (valF fun i => (K i).getD 0)) := h
theorem method_list (A : Option Addr) (n c : Nat) (w : World) : (method 224 50 (.slice A n c) "nacre/view.known").run Try.prog w = .ok (105, .slice A n c) w := by kernel_rfl
theorem Get_no {base b n : Nat} {wh : Bool} {o : VGeo} {K : Nat -> Option Nat} {s : Vst} (a : Int) (ho : opn n s a = false) (w : World) (h : IsView w base b n wh o K s) :
  Calls Try.prog 78 #[.pointer (some ⟨b, 0, none⟩), .int .i64 a] w fun e w' => e = .returned (.int .u32 0) /\ w' = w := by
 have HH := hidp h
 have HO := hidp ho
 clear h ho
 go_enter Try.func78, Try.ntmps78
 go_wp2_with fail
 refine (vopen_c a _ HH.out).mono ?_
 rintro e w1 ⟨rfl, rfl⟩
 rw [HO.out]
 go_wp2
 go_ret
 exact ⟨rfl, rfl⟩

theorem Get_put {base b n : Nat} {wh : Bool} {o : VGeo} {K : Nat -> Option Nat} {s : Vst} (i k : Nat) (ho : opn n s (i : Int) = true) (hk : pos s.wr i = some k) (hi : i < n) (hlim : s.wr.length < 2 ^ 40) (w : World) (h : IsView w base b n wh o K s) :
    Calls Try.prog 78 #[.pointer (some ⟨b, 0, none⟩), .int .i64 (i : Int)] w fun e w' => e = .returned (.int .u32 ((atW s.wr k : Nat) : Int)) /\ w' = w := by
  have hn := h.nmax
  have hkl := (pos_some hk).1
  obtain ⟨c0, c1, c2, c3, c4, c5, c6, c7⟩ := h.cells
  obtain ⟨kk, D, e1, hown, hD⟩ := h.wvm
  obtain ⟨g, cap, hv, _, _⟩ := h.wrow.form (by omega)
  have hr := h.wrow
  rw [hv] at hr c4
  have d0 : w.cell? ⟨g, k * 2 + 1, none⟩ = some (.int .u32 ((atW s.wr k : Nat) : Int)) := (hr.cellAt _ (by omega)).trans (prVs_at s.wr k hkl).2
  have hcap : s.wr.length <= cap /\ cap <= maxLen := by
    rcases hr.2 with ⟨h1, _⟩ | ⟨g', cap', cur, h1, _, _, h2, h3, _⟩
    · cases h1
    · injection h1 with _ _ h1; subst h1; exact ⟨h2, h3⟩
  obtain ⟨hc1, hc2⟩ := hcap
  unfold maxLen at hc2
  have hkey := kInt_of (c := (i : Int)) (wf_nat (by omega))
  have HH := hidp h
  have HO := hidp ho
  have HM : Hid (Maps.has D (kInt (i : Int)) = true) := hidp (by rw [hD.has]; simp [hk])
  have HA : Hid (∀ c : Int, D.atKey (kInt (i : Int)) (.lit (.int .i64 0)) = .lit (.int .i64 c) -> c = k) := hidp (fun c hc => by
    rw [hD.at_ i k hk] at hc
    injection hc with hc
    injection hc with _ hc
    exact hc.symm)
  have HW := hidp hown
  generalize atW s.wr k = x at *
  generalize s.wr.length = m at *
  clear h ho hk hr hv hD c1 c2 c3 hown
  go_enter Try.func78, Try.ntmps78
  go_wp2_with fail
  refine (vopen_c (i : Int) _ HH.out).mono ?_
  rintro e w1 ⟨rfl, rfl⟩
  rw [HO.out]
  go_wp2_with (first
    | (at_lookup; refine wpList_lookup_own_ok_int _ rfl _ _ 64 rfl 3 3 .i64 intKey1 Try.underlying64 Try.underlying3 (zeroInt _) o.m2 kk D rfl HW.out _ _ rfl hkey ?_
       intro c hat hwc
       obtain rfl : c = (k : Int) := HA.out c hat
       rw [HM.out]
       clear hat hwc)
    | go_in)
  go_ret
  exact ⟨rfl, rfl⟩

theorem Get_list {base b n : Nat} {o : VGeo} {K : Nat -> Option Nat} {s : Vst} (i v : Nat) (ho : opn n s (i : Int) = true) (hk : pos s.wr i = none) (hi : i < n) (hv : K i = some v) (hlim : s.rd.length < 2 ^ 40) (w : World) (h : IsView w base b n true o K s) :
    Calls Try.prog 78 #[.pointer (some ⟨b, 0, none⟩), .int .i64 (i : Int)] w fun e w' => e = .returned (.int .u32 (v : Int)) /\ Left11 w base b n true o K (noteS s i) w' := by
  have hn := h.nmax
  obtain ⟨c0, c1, c2, c3, c4, c5, c6, c7⟩ := h.cells
  obtain ⟨kk, D, e1, hown, hD⟩ := h.wvm
  obtain ⟨A, c, hf, hc1, hc2, _, hR⟩ := h.src.list
  obtain ⟨rfl, hR2⟩ := hR (by omega)
  have d0 : w.cell? ⟨o.sb, i, none⟩ = some (.int .u32 (v : Int)) := by
    rw [hR2.cell hi]
    show some (Value.int .u32 (((K i).getD 0 : Nat) : Int)) = _
    rw [hv]
    rfl
  rw [hf] at c1
  have hkey := kInt_of (c := (i : Int)) (wf_nat (by omega))
  have HH := hidp h
  have HO := hidp ho
  have HM : Hid (Maps.has D (kInt (i : Int)) = false) := hidp (by rw [hD.has]; simp [hk])
  have HW := hidp hown
  have HL := hidp hlim
  generalize o.sb = g at *
  clear h ho hk hv hD c2 c3 c4 hown hf hR hR2 hlim
  have hmt := method_list
  go_enter Try.func78, Try.ntmps78
  go_wp2_with fail
  refine (vopen_c (i : Int) _ HH.out).mono ?_
  rintro e w1 ⟨rfl, rfl⟩
  rw [HO.out]
  go_wp2_with (first
    | (at_lookup; refine wpList_lookup_own_ok_int _ rfl _ _ 64 rfl 3 3 .i64 intKey1 Try.underlying64 Try.underlying3 (zeroInt _) o.m2 kk D rfl HW.out _ _ rfl hkey ?_
       intro c hat hwc
       rw [HM.out]
       clear hat hwc)
    | fail)
  refine (listKnown_c g n _ i (v : Int) hi hc1 hc2 _ d0).mono ?_
  rintro e w2 ⟨rfl, rfl⟩
  go_wp2_with fail
  refine (note_c i hi HL.out _ HH.out).mono ?_
  rintro e w2 ⟨rfl, hL⟩
  go_wp2
  go_ret
  exact ⟨rfl, hL⟩

theorem VGet_c {base b n : Nat} {wh : Bool} {o : VGeo} {K : Nat -> Option Nat} {s : Vst} (a : Int) (h1 : s.rd.length < 2 ^ 40) (h2 : s.wr.length < 2 ^ 40) (w : World) (h : IsView w base b n wh o K s) :
  Calls Try.prog 78 #[.pointer (some ⟨b, 0, none⟩), .int .i64 a] w fun e w' => e = .returned (.int .u32 ((getV n K s a : Nat) : Int)) /\ Left11 w base b n wh o K (getS n K s a) w' := by
 by_cases ho : opn n s a = true
 ·obtain ⟨i, rfl, hi, hl⟩ := opn_at ho
  cases hp : pos s.wr i with
  | some k =>
   rw [getV_put ho hp, getS_put ho hp]
   refine (Get_put i k ho hp hi h2 w h).mono ?_
   rintro e w1 ⟨rfl, rfl⟩
   exact ⟨rfl, Left11.same h⟩
  | none =>
   cases hk : K i with
   | some v =>
    rw [getV_known ho hp hk, getS_known ho hp hk]
    cases wh with
    | true => exact Get_list i v ho hp hi hk h1 w h
    | false => exact False.elim (h.src : SrcIs w false n o K)
   | none =>
    rw [getV_lost ho hp hk, getS_lost ho hp hk]
    cases wh with
    | true =>
     obtain ⟨A, c, _, _, _, h3, _⟩ := h.src.list
     obtain ⟨x, hx, _⟩ := h3 i hi
     rw [hx] at hk
     cases hk
    | false => exact False.elim (h.src : SrcIs w false n o K)
 ·have ho : opn n s a = false := by simpa using ho
  rw [getV_no ho, getS_no ho]
  refine (Get_no a ho w h).mono ?_
  rintro e w1 ⟨rfl, rfl⟩
  exact ⟨rfl, Left11.same h⟩
end
section
theorem valInfo : (Try.prog.info? 32).map (fun i => (i.zero, i.size, i.bytes)) = some (some (.int .u32 0), 1, 4) := by kernel_rfl
theorem pairInfo : (Try.prog.info? 68).map (fun i => (i.zero, i.size, i.bytes)) = some (some (.agg #[.int .i64 0, .int .u32 0]), 2, 16) := by kernel_rfl

theorem CloneVals_c (A : Option Addr) (n c : Nat) (xs : List Value) (hl : xs.length = n * 1) (hmx : n * 4 <= 140737488355328) (h1 : ∀ u ∈ xs, u.oneCell' = true) (w : World)
    (hA : 0 < n -> ∃ ad, A = some ad /\ ∀ j u, xs[j]? = some u -> w.cell? (ad.add j) = some u) :
    Calls Try.prog 33 #[.slice A n c] w fun e w' => ∃ v, e = .returned v /\ w'.ownsRow w.heap.size 32 1 v n xs /\ (A = none -> v = .slice none 0 0) /\ Below w.heap.size w w' := by
  have q22 : ∀ (w : World) (a : Option Addr) (n c n' c' : Nat), (binOp .eql 25 (.slice a n c) (.slice none n' c')).run Try.prog w = .ok (.bool a.isNone) w := fun w a n c n' c' => Lib.run_eql_slice_nil w _ _ a n c n' c' Try.underlying25
  cases A with
  | none =>
    have hn : n = 0 := by
      rcases Nat.eq_zero_or_pos n with h | h
      · exact h
      · obtain ⟨ad, h2, _⟩ := hA h
        cases h2
    subst hn
    have hx : xs = [] := List.eq_nil_of_length_eq_zero (by omega)
    subst hx
    go_enter Try.func33, Try.ntmps33
    go_wp2
    go_ret
    exact ⟨_, rfl, World.ownsRow_nil _ _ _ _, fun _ => rfl, B0 _⟩
  | some ad =>
    obtain ⟨i0, hi, hz0, hz1, hz2⟩ := info_parts valInfo
    have HC : Hid (∀ j u, xs[j]? = some u -> w.cell? (ad.add j) = some u) := hidp (fun j u hu => by
      rcases Nat.eq_zero_or_pos n with h | h
      · have hx : xs = [] := List.eq_nil_of_length_eq_zero (by simp [hl, h])
        subst hx
        cases hu
      · obtain ⟨ad', h2, h3⟩ := hA h
        injection h2 with h2
        subst h2
        exact h3 j u hu)
    clear hA
    go_enter Try.func33, Try.ntmps33
    go_wp2_with (at_builtin
                 refine wpList_append_own _ rfl _ _ 25 rfl w.heap.size 32 i0 (.int .u32 0) 1 4 Try.underlying25 hi hz0 hz1 hz2 rfl (by decide) _ 0 [] rfl (World.ownsRow_made w #[] 0 (Nat.le_refl _) (Nat.zero_le _) (by simp)) ad n c xs rfl ?c1 ?c2 ?c3 ?c4 ?c5 ?c6 ?_)
    case c1 => exact hl
    case c2 => exact fun j u hj => Lib.cell?_alloc_some _ (HC.out j u hj)
    case c3 => exact h1
    case c4 => rw [Nat.zero_add]; unfold maxLen; omega
    case c5 => rw [Nat.zero_add]; exact hmx
    case c6 => simp
    intro v' w1 hown hgrow hnil
    have HB := hidp (((Below.refl _ w).alloc (Nat.le_refl _) (.cells #[] 32)).grown hgrow (by simp) (by intro k hk; simp [Value.ownBlock] at hk; omega))
    have HO := hidp hown
    clear hgrow hown hnil
    go_wp2
    go_ret
    exact ⟨_, rfl, by simpa using HO.out, fun h => (by cases h), HB.out⟩

theorem CloneList_c (A : Option Addr) (n c : Nat) (xs : List Value) (hl : xs.length = n * 1) (hmx : n * 4 <= 140737488355328) (h1 : ∀ u ∈ xs, u.oneCell' = true) (w : World)
    (hA : 0 < n -> ∃ ad, A = some ad /\ ∀ j u, xs[j]? = some u -> w.cell? (ad.add j) = some u) :
    Calls Try.prog 106 #[.slice A n c] w fun e w' => ∃ v, e = .returned v /\ w'.ownsRow w.heap.size 32 1 v n xs /\ (A = none -> v = .slice none 0 0) /\ Below w.heap.size w w' := by
  have q22 : ∀ (w : World) (a : Option Addr) (n c n' c' : Nat), (binOp .eql 50 (.slice a n c) (.slice none n' c')).run Try.prog w = .ok (.bool a.isNone) w := fun w a n c n' c' => Lib.run_eql_slice_nil w _ _ a n c n' c' Try.underlying50
  cases A with
  | none =>
    have hn : n = 0 := by
      rcases Nat.eq_zero_or_pos n with h | h
      · exact h
      · obtain ⟨ad, h2, _⟩ := hA h
        cases h2
    subst hn
    have hx : xs = [] := List.eq_nil_of_length_eq_zero (by omega)
    subst hx
    go_enter Try.func106, Try.ntmps106
    go_wp2
    go_ret
    exact ⟨_, rfl, World.ownsRow_nil _ _ _ _, fun _ => rfl, B0 _⟩
  | some ad =>
    obtain ⟨i0, hi, hz0, hz1, hz2⟩ := info_parts valInfo
    have HC : Hid (∀ j u, xs[j]? = some u -> w.cell? (ad.add j) = some u) := hidp (fun j u hu => by
      rcases Nat.eq_zero_or_pos n with h | h
      · have hx : xs = [] := List.eq_nil_of_length_eq_zero (by simp [hl, h])
        subst hx
        cases hu
      · obtain ⟨ad', h2, h3⟩ := hA h
        injection h2 with h2
        subst h2
        exact h3 j u hu)
    clear hA
    go_enter Try.func106, Try.ntmps106
    go_wp2_with (at_builtin
                 refine wpList_append_own _ rfl _ _ 50 rfl w.heap.size 32 i0 (.int .u32 0) 1 4 Try.underlying50 hi hz0 hz1 hz2 rfl (by decide) _ 0 [] rfl (World.ownsRow_made w #[] 0 (Nat.le_refl _) (Nat.zero_le _) (by simp)) ad n c xs rfl ?c1 ?c2 ?c3 ?c4 ?c5 ?c6 ?_)
    case c1 => exact hl
    case c2 => exact fun j u hj => Lib.cell?_alloc_some _ (HC.out j u hj)
    case c3 => exact h1
    case c4 => rw [Nat.zero_add]; unfold maxLen; omega
    case c5 => rw [Nat.zero_add]; exact hmx
    case c6 => simp
    intro v' w1 hown hgrow hnil
    have HB := hidp (((Below.refl _ w).alloc (Nat.le_refl _) (.cells #[] 32)).grown hgrow (by simp) (by intro k hk; simp [Value.ownBlock] at hk; omega))
    have HO := hidp hown
    clear hgrow hown hnil
    go_wp2
    go_ret
    exact ⟨_, rfl, by simpa using HO.out, fun h => (by cases h), HB.out⟩
end
end Go.Proofs.Ytlpcdfcghgapkaa
