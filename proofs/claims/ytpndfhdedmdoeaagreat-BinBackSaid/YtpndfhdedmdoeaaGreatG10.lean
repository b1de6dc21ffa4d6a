/-
  What the document's Find does. Written by bin/gen_rfind.py.
-/
import Derived.Test.YtpndfhdedmdoeaaGreatG09
import Derived.Test.YtpndfhdedmdoeaaGreatG05
import Derived.Test.YtpndfhdedmdoeaaGreatG01
import Derived.Test.YtpndfhdedmdoeaaGreatG04
import Derived.Deep.RegionHeld3
namespace Go.Proofs.YtpndfhdedmdoeaaGreat
open Go.ChangeShapes Go.WideShapes Go.ChangeAt Go.RowKit Go.Maps
set_option linter.unusedVariables false
set_option linter.unusedSimpArgs false
set_option maxRecDepth 100000

section
variable {base b n : Nat} {wh all : Bool} {K : Nat → Option Nat} {st : Vst} {w w0 : World} {A G : Nat → Prop} {t q s : Int}
end
end Go.Proofs.YtpndfhdedmdoeaaGreat

/-
  A row of pages that a walk appends to, beside an object that it reads.
-/
namespace Go.Proofs.YtpndfhdedmdoeaaGreat
open Go.ChangeShapes Go.WideShapes Go.ChangeAt Go.RowKit Go.Maps
set_option linter.unusedVariables false
set_option linter.unusedSimpArgs false
set_option maxRecDepth 100000

theorem ntVs_snoc (l : List Nat) (q : Nat) : ntVs (l ++ [q]) = ntVs l ++ [.int .i64 (q : Int)] := by unfold ntVs; simp
theorem ntVs_len (l : List Nat) : (ntVs l).length = l.length := by unfold ntVs; simp
theorem own_caps9 {w : World} {base : Nat} {e : TypeId} {size n c : Nat} {A : Option Addr} {xs : List Value} (h : w.ownsRow base e size (.slice A n c) n xs) : n ≤ c ∧ c ≤ 9223372036854775807 := by
  rcases h.2 with ⟨h1, h2⟩ | ⟨g, cap, cur, h1, hb, hg, hnc, hcm, hr⟩
  · injection h1 with _ h1 h3; omega
  · injection h1 with _ _ h3; unfold maxLen at hcm; omega
theorem own_lower {w : World} {base base' : Nat} {e : TypeId} {size n : Nat} {v : Value} {xs : List Value} (h : w.ownsRow base e size v n xs) (hb : base' ≤ base) : w.ownsRow base' e size v n xs := by
  refine ⟨h.1, ?_⟩
  rcases h.2 with h2 | ⟨g, cap, cur, rfl, hbg, hg, hr⟩
  · exact .inl h2
  · exact .inr ⟨g, cap, cur, rfl, Nat.le_trans hb hbg, hg, hr⟩

/-- what a walk hands back: a row of its own with the pages l; the object is in the state s, and not on that row -/
def WalkEnd (O : Ob) (w0 : World) (A G : Nat → Prop) (l : List Nat) (s : Vst) (w : World) (e : Ending) (w' : World) : Prop :=
  ∃ u, e = .returned u ∧ w'.ownsRow w.heap.size 3 1 u l.length (ntVs l) ∧ O.At w0 A (GU G u) s w' ∧ Stay G w w'
theorem WalkEnd.mk' {O : Ob} {w0 w w' : World} {A G : Nat → Prop} {l out : List Nat} {s sx : Vst} {u : Value} {nl N : Nat} (hA : O.At w0 A (GU (And1 G N) u) sx w') {base : Nat} (hO : w'.ownsRow (w.heap.size + base) 3 1 u nl (ntVs out)) (hl : out.length = nl) (hS : Stay G w w')
    (h1 : l = out) (h2 : s = sx) : WalkEnd O w0 A G l s w (.returned u) w' := by
  subst h1 h2 hl
  exact ⟨u, rfl, own_lower hO (by omega), hA.less (fun g x => by
    rcases x with x | x
    · exact .inl (.inl x)
    · exact .inr x), hS⟩

/-- a walk's row, and one more block of its own, beside the object -/
structure RowW (O : Ob) (w0 : World) (A G : Nat → Prop) (ws : World) (N : Nat) (T : TypeId) (cs : Array Value) (base : Nat) (u : Value) (nl : Nat) (xs : List Value) (st : Vst) (w : World) : Prop where
  at_ : O.At w0 A (GU (And1 G N) u) st w
  own : w.ownsRow base 3 1 u nl xs
  held : Held w N T cs
  stay : Stay G ws w
section
variable {O : Ob} {w0 ws w w' : World} {A G : Nat → Prop} {N : Nat} {T : TypeId} {cs : Array Value} {base : Nat} {u : Value} {nl : Nat} {xs : List Value} {st s' : Vst}
theorem RowW.keep (h : RowW O w0 A G ws N T cs base u nl xs st w) (hb : Below w.heap.size w w') : RowW O w0 A G ws N T cs base u nl xs st w' := ⟨h.at_.keep hb, own_below h.own hb, h.held.keep hb, h.stay.trans (Stay.of_below hb G)⟩
theorem RowW.call (h : RowW O w0 A G ws N T cs base u nl xs st w) (h1 : O.At w0 A (GU (And1 G N) u) s' w') (h2 : Stay (GU (And1 G N) u) w w') : RowW O w0 A G ws N T cs base u nl xs s' w' :=
  ⟨h1, h2.own (fun g e => .inr e) h.own, h2.held (.inl (.inr rfl)) h.held, h.stay.trans (h2.less fun g x => .inl (.inl x))⟩
theorem Ob.At.own_lt (h : O.At w0 A G st w) : ∀ g, G g → g < w.heap.size := fun g x => by
  obtain ⟨A', _, _, _, h4⟩ := h
  exact (h4 g x).2.1
/-- the row grows by one, in place or in a new block -/
theorem row_grown {g cap : Nat} {x : Value} {o : Obj} (hA : O.At w0 A (GU (And1 G N) u) st w) (hO : w.ownsRow base 3 1 u nl xs) (hC : Held w N T cs) (hN : u.ownBlock ≠ some N) (hS : Stay G ws w)
    (hown : w'.ownsRow base 3 1 (.slice (some ⟨g, 0, none⟩) (nl + 1) cap) (nl + 1) (xs ++ [x])) (hgr : (w.alloc o).grownBy w' u.ownBlock) (hat : u.ownBlock = some g ∨ g = (w.alloc o).heap.size) (hlt : g < w'.heap.size)
    (hG : ∀ g, G g → g < base) : RowW O w0 A G ws N T cs base (.slice (some ⟨g, 0, none⟩) (nl + 1) cap) (nl + 1) (xs ++ [x]) st w' := by
  refine ⟨(hA.alloc o).grown hgr (fun g e => .inr e) ?_, hown, ?_, (hS.trans (Stay.of_below (Bnew (B0 _) o) G)).trans (Stay.of_grown hgr (fun g e x => by have := hG g x; have := (hO.lt g e).1; omega))⟩
  · rintro i (x | x)
    · exact .inl (.inl x)
    · simp [Value.ownBlock] at x
      subst x
      rcases hat with h | h
      · exact .inl (.inr h)
      · exact .inr ⟨by omega, hlt⟩
  · exact (hgr.block N (by simp; have := hC.lt; omega) (fun e => hN e.symm)).trans (hC.alloc o)
/-- a store into the block beside the row -/
theorem RowW.put (h : RowW O w0 A G ws N T cs base u nl xs st w) (hN : u.ownBlock ≠ some N) (hn : ws.heap.size ≤ N) (i : Nat) (v : Value) : RowW O w0 A G ws N T (cs.setIfInBounds i v) base u nl xs st (w.setCell ⟨N, i, none⟩ v) :=
  ⟨h.at_.put (p := ⟨N, i, none⟩) (.inl (.inr rfl)) v, own_kept h.own (fun g e => Below.heap_setCell w ⟨N, i, none⟩ v g (fun e2 => by have e2 : g = N := e2; subst e2; exact hN e)), h.held.put i v,
    ⟨by simp; exact h.stay.1, fun g hg hl => (Below.heap_setCell w ⟨N, i, none⟩ v g (fun e2 => by have e2 : g = N := e2; omega)).trans (h.stay.2 g hg hl)⟩⟩
theorem WK.put (h : WK O w0 A G ws N T cs st w) (hn : ws.heap.size ≤ N) (i : Nat) (v : Value) : WK O w0 A G ws N T (cs.setIfInBounds i v) st (w.setCell ⟨N, i, none⟩ v) :=
  ⟨h.at_.put (p := ⟨N, i, none⟩) (.inr rfl) v, h.held.put i v, ⟨by simp; exact h.stay.1, fun g hg hl => (Below.heap_setCell w ⟨N, i, none⟩ v g (fun e2 => by have e2 : g = N := e2; omega)).trans (h.stay.2 g hg hl)⟩⟩
/-- a block is made; the one before stays one of the walk's own -/
theorem WK.next {T' : TypeId} {cs' : Array Value} (h : WK O w0 A G ws N T cs st w) (h0 : Held ws N T cs) : WK O w0 A (And1 G N) ws w.heap.size T' cs' st (w.alloc (.cells cs' T')) :=
  ⟨h.at_.box _, Held.new _ _ _, (Stay.trans ⟨h.stay.1, fun g hg hl => by
    rcases hg with x | rfl
    · exact h.stay.2 g x hl
    · exact h.held.trans h0.symm⟩ (Stay.of_below (Bnew (B0 w) _) _))⟩
theorem WK.less {N' : Nat} (h : WK O w0 A (And1 G N') ws N T cs st w) : WK O w0 A G ws N T cs st w :=
  ⟨h.at_.less (fun g x => by
    rcases x with x | x
    · exact .inl (.inl x)
    · exact .inr x), h.held, h.stay.less (fun g x => .inl x)⟩
/-- a page is copied into a block of its own: the row stays -/
theorem RowW.next {T' : TypeId} {cs' : Array Value} (h : RowW O w0 A G ws N T cs base u nl xs st w) : RowW O w0 A G ws w.heap.size T' cs' base u nl xs st (w.alloc (.cells cs' T')) :=
  ⟨h.at_.keep2 (Bnew (B0 w) _) (fun g x => by
    rcases x with (x | x) | x
    · exact .inl (.inl (.inl x))
    · right; subst x; simp
    · exact .inl (.inr x)), own_below h.own (Bnew (B0 w) _), Held.new _ _ _, h.stay.trans (Stay.of_below (Bnew (B0 w) _) G)⟩
theorem heldOwn_ne {t e : TypeId} {size : Nat} {v : Value} {g : Nat} (h : Held w g t cs) (ho : w.ownsRow base e size v nl xs) (hne : t ≠ e) : v.ownBlock ≠ some g := by
  intro hv
  rcases ho.2 with ⟨rfl, _⟩ | ⟨g', cap, cur, rfl, hb, hg, _⟩
  · simp [Value.ownBlock] at hv
  · have : g' = g := by simpa [Value.ownBlock] using hv
    subst this
    unfold Held at h
    rw [h] at hg
    injection hg with hg
    injection hg with _ h2
    exact hne h2
theorem gu_less {N' g : Nat} (x : GU (And1 G N') u g) : GU (And1 (And1 G N') N) u g := by
  rcases x with x | x
  · exact .inl (.inl x)
  · exact .inr x
end
end Go.Proofs.YtpndfhdedmdoeaaGreat

/-
  The document's answer for Views: Writes, Vals, Same. Written by view/gen_ref6.py.
-/
namespace Go.Proofs.YtpndfhdedmdoeaaGreat
open Go.ChangeShapes Go.WideShapes Go.ChangeAt Go.RowKit Go.Maps
set_option linter.unusedVariables false
set_option maxRecDepth 100000
set_option linter.unusedSimpArgs false

theorem rowV_nat6 {w : World} {base : Nat} {e : TypeId} {v : Value} {l : List Nat} (h : w.ownsRow base e 1 v l.length (ntVs l)) : RowV w v ((l.map fun (i : Nat) => (i : Int)).map (Value.int .i64)) := by
  have e0 : ntVs l = (l.map fun (n : Nat) => (n : Int)).map (Value.int .i64) := by unfold ntVs; rw [List.map_map]; rfl
  rw [e0] at h
  refine RowV.of_own (base := base) (e := e) ?_
  simpa using h
/-- the values of the first cells, behind what was put -/
def nowL (K : Nat → Option Nat) (wr : List (Nat × Nat)) (k : Nat) : List Nat := (List.range k).map (nowV K wr)
theorem nowL_step (K : Nat → Option Nat) (wr : List (Nat × Nat)) (k : Nat) : valVs (nowL K wr (k + 1)) = valVs (nowL K wr k) ++ [.int .u32 ((nowV K wr k : Nat) : Int)] := by
  unfold nowL valVs
  rw [List.range_succ, List.map_append, List.map_append]
  rfl
theorem nowL_F (K : Nat → Option Nat) (wr : List (Nat × Nat)) (k : Nat) : valVs (nowL K wr k) = (List.range k).map (valF (nowV K wr)) := by
  unfold nowL valVs
  rw [List.map_map]
  rfl

end Go.Proofs.YtpndfhdedmdoeaaGreat

/-
  Two objects side by side, and blocks of the walk's own, all made behind the world W.
-/
namespace Go.Proofs.YtpndfhdedmdoeaaGreat
open Go.ChangeShapes Go.WideShapes Go.ChangeAt Go.RowKit Go.Maps
set_option linter.unusedVariables false
set_option linter.unusedSimpArgs false
set_option maxRecDepth 100000

structure Duo (W : World) (O1 O2 : Ob) (A B G : Nat → Prop) (s1 s2 : Vst) (w : World) : Prop where
  i1 : O1.I w s1 A
  i2 : O2.I w s2 B
  ab : ∀ i, A i → ¬ B i
  aG : ∀ g, G g → g < w.heap.size ∧ ¬ A g ∧ ¬ B g
  lo : ∀ i, A i ∨ B i → W.heap.size ≤ i
  bel : Below W.heap.size W w
/-- no object -/
def noOb : Ob where
  I _ _ A := ∀ i, ¬ A i
  lt h i hi := absurd hi (h i)
  turns h _ _ := h

section
variable {W w w' : World} {O1 O2 : Ob} {A B G : Nat → Prop} {s1 s2 s' : Vst}
theorem Duo.left1 (h : Duo W O1 O2 A B G s1 s2 w) (hl : O1.Left w A s' w') : ∃ A', Duo W O1 O2 A' B G s' s2 w' ∧ Stay G w w' := by
  obtain ⟨A', k1, k2, k3⟩ := hl
  have hs := h.bel.size
  refine ⟨A', ⟨k1, O2.turns h.i2 k3 (fun i hi ha => h.ab i ha hi), fun i hi hb => ?_, fun g hg => ⟨Nat.lt_of_lt_of_le (h.aG g hg).1 k3.size, fun x => ?_, (h.aG g hg).2.2⟩, fun i hi => ?_, k3.below h.bel (fun i hi => h.lo i (.inl hi))⟩, ⟨k3.size, fun g hg hl => k3.block g hl (h.aG g hg).2.1⟩⟩
  · rcases k2 i hi with h1 | h1
    · exact h.ab i h1 hb
    · have := O2.lt h.i2 i hb; omega
  · rcases k2 g x with h1 | h1
    · exact (h.aG g hg).2.1 h1
    · have := (h.aG g hg).1; omega
  · rcases hi with hi | hi
    · rcases k2 i hi with h1 | h1
      · exact h.lo i (.inl h1)
      · omega
    · exact h.lo i (.inr hi)
theorem Duo.swap (h : Duo W O1 O2 A B G s1 s2 w) : Duo W O2 O1 B A G s2 s1 w := ⟨h.i2, h.i1, fun i hb ha => h.ab i ha hb, fun g hg => ⟨(h.aG g hg).1, (h.aG g hg).2.2, (h.aG g hg).2.1⟩, fun i hi => h.lo i hi.symm, h.bel⟩
theorem Duo.left2 (h : Duo W O1 O2 A B G s1 s2 w) (hl : O2.Left w B s' w') : ∃ B', Duo W O1 O2 A B' G s1 s' w' ∧ Stay G w w' := by
  obtain ⟨B', h1, h2⟩ := h.swap.left1 hl
  exact ⟨B', h1.swap, h2⟩
theorem Duo.keep (h : Duo W O1 O2 A B G s1 s2 w) (hb : Below w.heap.size w w') : Duo W O1 O2 A B G s1 s2 w' :=
  ⟨Ob.keep h.i1 hb, Ob.keep h.i2 hb, h.ab, fun g hg => ⟨Nat.lt_of_lt_of_le (h.aG g hg).1 hb.size, (h.aG g hg).2⟩, h.lo, Bgo h.bel hb⟩
theorem Duo.keep2 {G' : Nat → Prop} (h : Duo W O1 O2 A B G s1 s2 w) (hb : Below w.heap.size w w') (hG : ∀ g, G' g → G g ∨ (w.heap.size ≤ g ∧ g < w'.heap.size)) : Duo W O1 O2 A B G' s1 s2 w' := by
  have hk := h.keep hb
  refine ⟨hk.i1, hk.i2, hk.ab, fun g x => ?_, hk.lo, hk.bel⟩
  rcases hG g x with h1 | h1
  · exact hk.aG g h1
  · exact ⟨h1.2, fun y => by have := O1.lt h.i1 g y; omega, fun y => by have := O2.lt h.i2 g y; omega⟩
/-- one of the walk's own rows grows -/
theorem Duo.grown {row : Option Nat} {G' : Nat → Prop} (h : Duo W O1 O2 A B G s1 s2 w) (hg : w.grownBy w' row) (hr : ∀ g, row = some g → G g ∧ W.heap.size ≤ g) (hG : ∀ g, G' g → G g ∨ (w.heap.size ≤ g ∧ g < w'.heap.size)) : Duo W O1 O2 A B G' s1 s2 w' := by
  have ht : Turns (fun i => row = some i) w w' := ⟨hg.os, hg.tape, hg.output, hg.size, fun i hi hn => hg.block i hi (fun e => hn e.symm)⟩
  refine ⟨O1.turns h.i1 ht (fun i hi e => (h.aG i (hr i e).1).2.1 hi), O2.turns h.i2 ht (fun i hi e => (h.aG i (hr i e).1).2.2 hi), h.ab, fun g x => ?_, h.lo, ht.below h.bel (fun i e => (hr i e).2)⟩
  rcases hG g x with h1 | h1
  · exact ⟨Nat.lt_of_lt_of_le (h.aG g h1).1 hg.size, (h.aG g h1).2⟩
  · exact ⟨h1.2, fun y => by have := O1.lt h.i1 g y; omega, fun y => by have := O2.lt h.i2 g y; omega⟩
theorem Duo.less {G' : Nat → Prop} (h : Duo W O1 O2 A B G s1 s2 w) (hg : ∀ g, G' g → G g) : Duo W O1 O2 A B G' s1 s2 w := { h with aG := fun g x => h.aG g (hg g x) }
theorem Duo.at1 (h : Duo W O1 O2 A B G s1 s2 w) : O1.At w A (fun _ => False) s1 w := Ob.At.start h.i1
theorem Duo.at2 (h : Duo W O1 O2 A B G s1 s2 w) : O2.At w B (fun _ => False) s2 w := Ob.At.start h.i2
/-- behind a walk the row is one of the walk's own -/
theorem Duo.walk1 {l : List Nat} {e : Ending} (h : Duo W O1 O2 A B G s1 s2 w) (hw : WalkEnd O1 w A (fun _ => False) l s' w e w') :
    ∃ u A', e = .returned u ∧ w'.ownsRow w.heap.size 3 1 u l.length (ntVs l) ∧ Duo W O1 O2 A' B (GU G u) s' s2 w' ∧ Stay G w w' := by
  obtain ⟨u, he, ho, hA, _⟩ := hw
  obtain ⟨A', k1, k2, k3, k4⟩ := hA
  have hs := h.bel.size
  have k5 : ∀ g, (GU (fun _ => False) u) g → ¬ A' g := fun g x => (k4 g x).2.2
  refine ⟨u, A', he, ho, ⟨k1, O2.turns h.i2 k3 (fun i hi ha => h.ab i ha hi), fun i hi hb => ?_, fun g hg => ?_, fun i hi => ?_, k3.below h.bel (fun i hi => h.lo i (.inl hi))⟩, ⟨k3.size, fun g hg hl => k3.block g hl (h.aG g hg).2.1⟩⟩
  · rcases k2 i hi with h1 | h1
    · exact h.ab i h1 hb
    · have := O2.lt h.i2 i hb; omega
  · rcases hg with hg | hg
    · refine ⟨Nat.lt_of_lt_of_le (h.aG g hg).1 k3.size, fun x => ?_, (h.aG g hg).2.2⟩
      rcases k2 g x with h1 | h1
      · exact (h.aG g hg).2.1 h1
      · have := (h.aG g hg).1; omega
    · have h1 := ho.lt g hg
      exact ⟨h1.2, k5 g (.inr hg), fun x => by have := O2.lt h.i2 g x; omega⟩
  · rcases hi with hi | hi
    · rcases k2 i hi with h1 | h1
      · exact h.lo i (.inl h1)
      · omega
    · exact h.lo i (.inr hi)
theorem Duo.walk2 {l : List Nat} {e : Ending} (h : Duo W O1 O2 A B G s1 s2 w) (hw : WalkEnd O2 w B (fun _ => False) l s' w e w') :
    ∃ u B', e = .returned u ∧ w'.ownsRow w.heap.size 3 1 u l.length (ntVs l) ∧ Duo W O1 O2 A B' (GU G u) s1 s' w' ∧ Stay G w w' := by
  obtain ⟨u, B', h1, h2, h3, h4⟩ := h.swap.walk1 hw
  exact ⟨u, B', h1, h2, h3.swap, h4⟩
theorem RowV.lit (w : World) (cs : Array Value) (t : TypeId) (n : Nat) (h : cs.size = n) (hm : n ≤ maxLen) : RowV (w.alloc (.cells cs t)) (.slice (some ⟨w.heap.size, 0, none⟩) n n) cs.toList := by
  subst h
  refine ⟨by simpa using hm, .inr ⟨w.heap.size, 0, cs.size, by simp, by simp, fun i u hu => ?_⟩⟩
  rw [Nat.zero_add, (Held.new w t cs).cell i]
  simpa using hu
/-- a View that a call made, alone -/
theorem duo_made {b n base : Nat} {wh : Bool} {o : VGeo} {K : Nat → Option Nat} {s : Vst} (hI : IsView w base b n wh o K s) (hb : W.heap.size ≤ base) (hB : Below W.heap.size W w) (hG : ∀ g, G g → g < w.heap.size ∧ ¬ o.A b g) :
    Duo W (vOb base b n wh K) noOb (o.A b) (fun _ => False) G s freshS w :=
  ⟨⟨o, hI, rfl⟩, fun _ x => x, fun _ _ x => x, fun g hg => ⟨(hG g hg).1, (hG g hg).2, fun x => x⟩, fun i hi => by
    rcases hi with hi | hi
    · exact Nat.le_trans hb (hI.ge i hi)
    · exact hi.elim, hB⟩
end
end Go.Proofs.YtpndfhdedmdoeaaGreat

/-
  The page's example (nacrelaw14.live).
-/
namespace Go.Proofs.YtpndfhdedmdoeaaGreat
open Go.ChangeShapes Go.WideShapes Go.ChangeAt Go.RowKit Go.Maps
set_option linter.unusedVariables false
set_option linter.unusedSimpArgs false
set_option maxRecDepth 100000

theorem few14_c (t q s : Int) (w : World) : Calls Tryz.prog 4 #[.agg #[.int .i64 t, .int .i64 q, .int .i64 s]] w fun e w' => e = .returned (.bool (decide (q ≤ 64))) ∧ Below w.heap.size w w' := by
  go_enter Tryz.func4, Tryz.ntmps4
  go_wp2
  go_ret
  exact ⟨rfl, Bnew (B0 _) _⟩
theorem make82 (w : World) : (Instr.makeSlice 24 (.int .i64 82) (.int .i64 82)).run Tryz.prog w = .ok (.slice (some ⟨w.heap.size, 0, none⟩) 82 82) (w.alloc (.cells (Array.replicate 82 (.int .u32 0)) 56)) := by kernel_rfl
/-- the example's values -/
def ex14L : List Nat := ((((List.replicate 82 0).set 0 8).set 5 1).set 34 129).set 77 1
def ex14C : Array Value := ((((Array.replicate 82 (Value.int .u32 0)).setIfInBounds 0 (.int .u32 8)).setIfInBounds 5 (.int .u32 1)).setIfInBounds 34 (.int .u32 129)).setIfInBounds 77 (.int .u32 1)
theorem ex14_eq : ex14C.toList = valVs ex14L := by
  unfold ex14C ex14L valVs
  simp only [Array.toList_setIfInBounds, Array.toList_replicate, List.map_set, List.map_replicate]
  rfl
def ex14K : Nat → Option Nat := fun i => ex14L[i]?
theorem ex14_find5 : (findI 82 ex14K 1 8 10 5 freshS).1 = some 0 := by decide +kernel
theorem ex14_find9 (st : Vst) : findI 82 ex14K 1 8 10 9 st = (none, st) := findI_no (by omega)
theorem ex14_of : ofI 5 = 2 := by decide +kernel

set_option maxHeartbeats 1600000 in
theorem Eight14_c (w : World) : Calls Tryz.prog 16 #[] w fun e w' => ∃ g, e = .returned (.tuple #[.agg #[.int .i64 1, .int .i64 8, .int .i64 10], .slice (some ⟨g, 0, none⟩) 82 82]) ∧ Held w' g 56 ex14C ∧ Below w.heap.size w w' := by
  have hmk := make82
  have HC := (Held.new w 23 #[.int .i64 0, .int .i64 0, .int .i64 0]).alloc (.cells (Array.replicate 82 (.int .u32 0)) 56)
  have HG := Held.new2 w (.cells #[.int .i64 0, .int .i64 0, .int .i64 0] 23) 56 (Array.replicate 82 (.int .u32 0))
  have g0 : _ = some (Value.int .u32 0) := (HG.cell 0).trans (by simp)
  have g1 : _ = some (Value.int .u32 0) := (HG.cell 5).trans (by simp)
  have g2 : _ = some (Value.int .u32 0) := (HG.cell 34).trans (by simp)
  have g3 : _ = some (Value.int .u32 0) := (HG.cell 77).trans (by simp)
  have f0 := HG.thawed
  obtain ⟨c0, c1, c2⟩ := HC.three
  have f1 := HC.thawed
  clear HC HG
  go_enter Tryz.func16, Tryz.ntmps16
  go_wp2
  refine bodyPost_ret (v := .tuple #[.agg #[.int .i64 1, .int .i64 8, .int .i64 10], .slice (some ⟨w.heap.size + 1, 0, none⟩) 82 82]) (by simp [results, Tryz.results16, go_sem]) rfl ⟨w.heap.size + 1, rfl, ?_, ?_⟩
  · unfold ex14C
    exact Held.new2 w (.cells #[.int .i64 1, .int .i64 8, .int .i64 10] 23) 56 _
  · exact Bnew (Bnew (B0 w) _) _
end Go.Proofs.YtpndfhdedmdoeaaGreat

/-
  The page's example (nacrelaw14.live): the walk. Written by bin/gen_live.py.
-/
namespace Go.Proofs.YtpndfhdedmdoeaaGreat
open Go.ChangeShapes Go.WideShapes Go.ChangeAt Go.RowKit Go.Maps
set_option linter.unusedVariables false
set_option linter.unusedSimpArgs false
set_option maxRecDepth 100000

theorem ex14_len : ex14L.length = 82 := by decide
theorem ex14_32 : ∀ x ∈ ex14L, x < 2 ^ 32 := by decide
theorem ex14_cells {w : World} {g : Nat} {t : TypeId} (h : Held w g t ex14C) : ∀ j u, (valVs ex14L)[j]? = some u → w.cell? ((⟨g, 0, none⟩ : Addr).add j) = some u := by
  intro j u hu
  have e : (⟨g, 0, none⟩ : Addr).add j = ⟨g, j, none⟩ := by
    unfold Addr.add
    by_cases hz : j = 0
    · rw [if_pos hz, hz]
    · rw [if_neg hz]; simp
  rw [e, h.cell j, ← hu, ← ex14_eq]
  simp

set_option maxHeartbeats 3200000 in
theorem live14_c (w : World) : Calls Tryz.prog 6 #[] w fun e w' => e = .returned (.bool true) ∧ Below w.heap.size w w' := by
  go_enter Tryz.func6, Tryz.ntmps6
  go_wp2_with fail
  refine (Eight14_c _).mono ?_
  rintro e w1 ⟨g, rfl, hg, hb⟩
  have HG := hidp (hg.alloc (.cells #[.int .i64 1, .int .i64 8, .int .i64 10] 23))
  have HC := hidp (Held.new w1 23 #[.int .i64 1, .int .i64 8, .int .i64 10])
  have HB := hidp (Bnew hb (.cells #[.int .i64 1, .int .i64 8, .int .i64 10] 23))
  clear hg hb
  generalize hNC : w1.heap.size = NC at *
  obtain ⟨x0, x1, x2⟩ := HC.out.three
  go_wp2_with fail
  replace HC := hidp HC.out.drw
  replace HG := hidp HG.out.drw
  replace HB := hidp (Bdrew HB.out)
  refine wp_region_held_drew (S := (fun w' => w'.cell? ⟨NC, 0, none⟩ = some (.int .i64 1) ∧ w'.cell? ⟨NC, 1, none⟩ = some (.int .i64 8) ∧ w'.cell? ⟨NC, 2, none⟩ = some (.int .i64 10))) (by kernel_rfl) ?_ (fun hHeld => ?_)
  · (try dsimp only)
    first | exact HC.out.three | exact hHeld
  refine tkO (i := 0) (v := ?_) rfl (by kernel_rfl) (fun _ _ _ h => h) (by rfl) ?_ (by assumption) ?_
  rotate_left
  · intro w hSw; (try dsimp only at hSw); go_simp; (try with_reducible rfl)
  (try simp only [Act.put, gA, gB, gC, sA, sB, sC])
  refine tkO (i := 2) (v := ?_) rfl (by kernel_rfl) (fun _ _ _ h => h) (by rfl) ?_ (by assumption) ?_
  rotate_left
  · intro w hSw; (try dsimp only at hSw); go_simp; (try with_reducible rfl)
  (try simp only [Act.put, gA, gB, gC, sA, sB, sC])
  refine wpAnyH_ready (rs := [1]) (by kernel_rfl) (by simp) ?_
  refine AllReadyH.cons (o := _) rfl (fun K hK => ?_) AllReadyH.nil
  go_simp
  refine (Whole_c (some ⟨g, 0, none⟩) 82 ex14L 82 ex14_len (by omega) ex14_32 _ (fun _ => ⟨_, rfl, ex14_cells HG.out⟩)).mono ?_
  rintro e v1a ⟨b, o, rfl, hI, hB⟩
  have HD := hidp (duo_made (W := w) (G := fun i => i = NC ∨ i = g) hI HB.out.size (Bgo HB.out hB) (fun i hi => by
    have h1 := HC.out.lt
    have h2 := HG.out.lt
    have h3 := hB.size
    rcases hi with rfl | rfl
    · exact ⟨by omega, fun x => by have := hI.ge _ x; omega⟩
    · exact ⟨by omega, fun x => by have := hI.ge _ x; omega⟩))
  replace HC := hidp (HC.out.keep hB)
  replace HG := hidp (HG.out.keep hB)
  clear hI hB HB
  refine hK.out _ _ ?_ (fun hHeld => ?_)
  · (try dsimp only)
    first | exact HC.out.three | exact hHeld
  clear hK K
  (try simp only [Act.put, gA, gB, gC, sA, sB, sC])
  refine wpAnyH_ready (rs := [3]) (by kernel_rfl) (by simp) ?_
  refine AllReadyH.cons (o := _) rfl (fun K hK => ?_) AllReadyH.nil
  go_simp
  refine (bnFind_c (by omega) (by omega) 5 HD.out.at1).mono ?_
  rintro e v1b ⟨rfl, h1, _⟩
  obtain ⟨A4, h2, h3⟩ := HD.out.left1 h1.left
  replace HC := hidp (h3.held (.inl rfl) HC.out)
  replace HG := hidp (h3.held (.inr rfl) HG.out)
  have HB := hidp h2.bel
  clear h1 h2 h3 HD
  rw [show (findI 82 (fun i => ex14L[i]?) 1 8 10 5 freshS).1 = some 0 from ex14_find5]
  refine hK.out _ _ ?_ (fun hHeld => ?_)
  · (try dsimp only)
    first | exact HC.out.three | exact hHeld
  clear hK K
  (try simp only [Act.put, gA, gB, gC, sA, sB, sC])
  refine tkO (i := 4) (v := ?_) rfl (by kernel_rfl) (fun _ _ _ h => h) (by rfl) ?_ (by assumption) ?_
  rotate_left
  · intro w hSw; (try dsimp only at hSw); go_simp; (try with_reducible rfl)
  (try simp only [Act.put, gA, gB, gC, sA, sB, sC])
  refine tkO (i := 5) (v := ?_) rfl (by kernel_rfl) (fun _ _ _ h => h) (by rfl) ?_ (by assumption) ?_
  rotate_left
  · intro w hSw; (try dsimp only at hSw); go_simp; (try with_reducible rfl)
  (try simp only [Act.put, gA, gB, gC, sA, sB, sC])
  refine tkO (i := 6) (v := ?_) rfl (by kernel_rfl) (fun _ _ _ h => h) (by rfl) ?_ (by assumption) ?_
  rotate_left
  · intro w hSw; (try dsimp only at hSw); go_simp; (try with_reducible rfl)
  (try simp only [Act.put, gA, gB, gC, sA, sB, sC])
  refine tkO (i := 7) (v := ?_) rfl (by kernel_rfl) (fun _ _ _ h => h) (by rfl) ?_ (by assumption) ?_
  rotate_left
  · intro w hSw; (try dsimp only at hSw); go_simp; (try with_reducible rfl)
  (try simp only [Act.put, gA, gB, gC, sA, sB, sC])
  refine tkO (i := 8) (v := ?_) rfl (by kernel_rfl) (fun _ _ _ h => h) (by rfl) ?_ (by assumption) ?_
  rotate_left
  · intro w hSw; (try dsimp only at hSw); go_simp; (try with_reducible rfl)
  (try simp only [Act.put, gA, gB, gC, sA, sB, sC])
  refine wpAnyH_done (by kernel_rfl) ?_ _
  clear x0 x1 x2
  obtain ⟨x0, x1, x2⟩ := HC.out.three
  go_wp2_with fail
  replace HC := hidp HC.out.drw
  replace HG := hidp HG.out.drw
  replace HB := hidp (Bdrew HB.out)
  refine wp_region_held_drew (S := (fun w' => w'.cell? ⟨NC, 0, none⟩ = some (.int .i64 1) ∧ w'.cell? ⟨NC, 1, none⟩ = some (.int .i64 8) ∧ w'.cell? ⟨NC, 2, none⟩ = some (.int .i64 10))) (by kernel_rfl) ?_ (fun hHeld => ?_)
  · (try dsimp only)
    first | exact HC.out.three | exact hHeld
  refine tkO (i := 0) (v := ?_) rfl (by kernel_rfl) (fun _ _ _ h => h) (by rfl) ?_ (by assumption) ?_
  rotate_left
  · intro w hSw; (try dsimp only at hSw); go_simp; (try with_reducible rfl)
  (try simp only [Act.put, gA, gB, gC, sA, sB, sC])
  refine tkO (i := 2) (v := ?_) rfl (by kernel_rfl) (fun _ _ _ h => h) (by rfl) ?_ (by assumption) ?_
  rotate_left
  · intro w hSw; (try dsimp only at hSw); go_simp; (try with_reducible rfl)
  (try simp only [Act.put, gA, gB, gC, sA, sB, sC])
  refine wpAnyH_ready (rs := [1]) (by kernel_rfl) (by simp) ?_
  refine AllReadyH.cons (o := _) rfl (fun K hK => ?_) AllReadyH.nil
  go_simp
  refine (Whole_c (some ⟨g, 0, none⟩) 82 ex14L 82 ex14_len (by omega) ex14_32 _ (fun _ => ⟨_, rfl, ex14_cells HG.out⟩)).mono ?_
  rintro e v2a ⟨b, o, rfl, hI, hB⟩
  have HD := hidp (duo_made (W := w) (G := fun i => i = NC ∨ i = g) hI HB.out.size (Bgo HB.out hB) (fun i hi => by
    have h1 := HC.out.lt
    have h2 := HG.out.lt
    have h3 := hB.size
    rcases hi with rfl | rfl
    · exact ⟨by omega, fun x => by have := hI.ge _ x; omega⟩
    · exact ⟨by omega, fun x => by have := hI.ge _ x; omega⟩))
  replace HC := hidp (HC.out.keep hB)
  replace HG := hidp (HG.out.keep hB)
  clear hI hB HB
  refine hK.out _ _ ?_ (fun hHeld => ?_)
  · (try dsimp only)
    first | exact HC.out.three | exact hHeld
  clear hK K
  (try simp only [Act.put, gA, gB, gC, sA, sB, sC])
  refine wpAnyH_ready (rs := [3]) (by kernel_rfl) (by simp) ?_
  refine AllReadyH.cons (o := _) rfl (fun K hK => ?_) AllReadyH.nil
  go_simp
  refine (bnFind_c (by omega) (by omega) 9 HD.out.at1).mono ?_
  rintro e v2b ⟨rfl, h1, _⟩
  obtain ⟨A4, h2, h3⟩ := HD.out.left1 h1.left
  replace HC := hidp (h3.held (.inl rfl) HC.out)
  replace HG := hidp (h3.held (.inr rfl) HG.out)
  have HB := hidp h2.bel
  clear h1 h2 h3 HD
  rw [show findI 82 (fun i => ex14L[i]?) 1 8 10 9 freshS = (none, freshS) from ex14_find9 freshS]
  refine hK.out _ _ ?_ (fun hHeld => ?_)
  · (try dsimp only)
    first | exact HC.out.three | exact hHeld
  clear hK K
  (try simp only [Act.put, gA, gB, gC, sA, sB, sC])
  refine tkO (i := 4) (v := ?_) rfl (by kernel_rfl) (fun _ _ _ h => h) (by rfl) ?_ (by assumption) ?_
  rotate_left
  · intro w hSw; (try dsimp only at hSw); go_simp; (try with_reducible rfl)
  (try simp only [Act.put, gA, gB, gC, sA, sB, sC])
  refine tkO (i := 5) (v := ?_) rfl (by kernel_rfl) (fun _ _ _ h => h) (by rfl) ?_ (by assumption) ?_
  rotate_left
  · intro w hSw; (try dsimp only at hSw); go_simp; (try with_reducible rfl)
  (try simp only [Act.put, gA, gB, gC, sA, sB, sC])
  refine tkO (i := 6) (v := ?_) rfl (by kernel_rfl) (fun _ _ _ h => h) (by rfl) ?_ (by assumption) ?_
  rotate_left
  · intro w hSw; (try dsimp only at hSw); go_simp; (try with_reducible rfl)
  (try simp only [Act.put, gA, gB, gC, sA, sB, sC])
  refine tkO (i := 7) (v := ?_) rfl (by kernel_rfl) (fun _ _ _ h => h) (by rfl) ?_ (by assumption) ?_
  rotate_left
  · intro w hSw; (try dsimp only at hSw); go_simp; (try with_reducible rfl)
  (try simp only [Act.put, gA, gB, gC, sA, sB, sC])
  refine tkO (i := 8) (v := ?_) rfl (by kernel_rfl) (fun _ _ _ h => h) (by rfl) ?_ (by assumption) ?_
  rotate_left
  · intro w hSw; (try dsimp only at hSw); go_simp; (try with_reducible rfl)
  (try simp only [Act.put, gA, gB, gC, sA, sB, sC])
  refine wpAnyH_done (by kernel_rfl) ?_ _
  clear x0 x1 x2
  obtain ⟨x0, x1, x2⟩ := HC.out.three
  have HO5 : Hid (ofI 5 = 2) := hidp ex14_of
  go_wp2_with fail
  refine (bnOf_c 5 (by omega) (by omega) _).mono ?_
  rintro e w9 ⟨rfl, rfl⟩
  rw [HO5.out]
  go_wp2
  go_ret
  exact ⟨rfl, HB.out⟩
end Go.Proofs.YtpndfhdedmdoeaaGreat
