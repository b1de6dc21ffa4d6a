/-
  An object whose blocks a call may turn, beside the walk's own blocks: a View of the program (vOb), one of the document (rOb).
-/
import Derived.Test.YtpndfhdedmdoeaaViewVals
import Derived.Test.YtpndfhdedmdoeaaViewRef5
namespace Go.Proofs.Ytpndfhdedmdoeaa
open Go.ChangeShapes Go.WideShapes Go.ChangeAt Go.RowKit Go.Maps
set_option linter.unusedVariables false
set_option maxRecDepth 100000

/-- a kind of an object: when it lies in a world, in a state, on the blocks A -/
structure Ob where
  I : World → Vst → (Nat → Prop) → Prop
  lt : ∀ {w : World} {s : Vst} {A : Nat → Prop}, I w s A → ∀ i, A i → i < w.heap.size
  turns : ∀ {w w' : World} {s : Vst} {A G : Nat → Prop}, I w s A → Turns G w w' → (∀ i, A i → ¬ G i) → I w' s A

def vOb (base b n : Nat) (wh : Bool) (K : Nat → Option Nat) : Ob where
  I w s A := ∃ o, IsView w base b n wh o K s ∧ A = o.A b
  lt := by
    rintro w s A ⟨o, h, rfl⟩
    exact h.lt
  turns := by
    rintro w w' s A G ⟨o, h, rfl⟩ ht hf
    exact ⟨o, h.turns ht hf, rfl⟩
def rOb (base b n : Nat) (all : Bool) (K : Nat → Option Nat) : Ob where
  I w s A := ∃ v, IsRefV w base b n all v K s ∧ A = OwnF b 6 v
  lt := by
    rintro w s A ⟨v, h, rfl⟩
    exact h.parts.lt
  turns := by
    rintro w w' s A G ⟨v, h, rfl⟩ ht hf
    exact ⟨v, h.turns ht hf, rfl⟩

/-- what a call leaves that found the object on A: it is in the state s, on A and new blocks; no other block has turned -/
def Ob.Left (O : Ob) (w : World) (A : Nat → Prop) (s : Vst) (w' : World) : Prop := ∃ A', O.I w' s A' ∧ (∀ g, A' g → A g ∨ w.heap.size ≤ g) ∧ Turns A w w'
/-- in a walk that began at w0, where the object was on A: it is in the state s; G: blocks of the walk's own -/
def Ob.At (O : Ob) (w0 : World) (A G : Nat → Prop) (s : Vst) (w : World) : Prop :=
  ∃ A', O.I w s A' ∧ (∀ g, A' g → A g ∨ w0.heap.size ≤ g) ∧ Turns A w0 w ∧ ∀ g, G g → w0.heap.size ≤ g ∧ g < w.heap.size ∧ ¬ A' g
/-- the blocks of G are as they were -/
def Stay (G : Nat → Prop) (w w' : World) : Prop := w.heap.size ≤ w'.heap.size ∧ ∀ g, G g → g < w.heap.size → w'.heap[g]? = w.heap[g]?
/-- .. and block N is one of the walk's own, too -/
def And1 (G : Nat → Prop) (N : Nat) : Nat → Prop := fun g => G g ∨ g = N
/-- .. and those of a list -/
def GL (G : Nat → Prop) (L : List Nat) : Nat → Prop := fun g => G g ∨ g ∈ L
/-- .. and those that a slice value has -/
def GU (G : Nat → Prop) (u : Value) : Nat → Prop := fun g => G g ∨ u.ownBlock = some g

section
variable {O : Ob} {w w' w0 : World} {A G : Nat → Prop} {s s' : Vst} {N : Nat}
theorem Ob.keep {A : Nat → Prop} (h : O.I w s A) (hb : Below w.heap.size w w') : O.I w' s A := O.turns h (Turns.of_below hb (fun _ => False)) (fun _ _ x => x)
theorem Ob.Left.same (h : O.I w s A) : O.Left w A s w := ⟨A, h, fun g hg => .inl hg, T0 _ _⟩
theorem Ob.Left.size (h : O.Left w A s w') : w.heap.size ≤ w'.heap.size := by obtain ⟨A', _, _, h⟩ := h; exact h.size
theorem Ob.At.start (h : O.I w s A) : O.At w A (fun _ => False) s w := ⟨A, h, fun g hg => .inl hg, T0 _ _, fun g hg => hg.elim⟩
theorem Ob.At.left (h : O.At w0 A G s w) : O.Left w0 A s w := by
  obtain ⟨A', h1, h2, h3, _⟩ := h
  exact ⟨A', h1, h2, h3⟩
theorem Ob.At.size (h : O.At w0 A G s w) : w0.heap.size ≤ w.heap.size := h.left.size
theorem Ob.At.keep (h : O.At w0 A G s w) (hb : Below w.heap.size w w') : O.At w0 A G s w' := by
  obtain ⟨A', h1, h2, h3, h4⟩ := h
  exact ⟨A', Ob.keep h1 hb, h2, h3.trans (Turns.of_below hb A), fun g hg => ⟨(h4 g hg).1, Nat.lt_of_lt_of_le (h4 g hg).2.1 hb.size, (h4 g hg).2.2⟩⟩
theorem Ob.At.alloc (h : O.At w0 A G s w) (o : Obj) : O.At w0 A G s (w.alloc o) := h.keep (Bnew (B0 w) o)
theorem Ob.At.drew (h : O.At w0 A G s w) : O.At w0 A G s w.drew := h.keep (Bdrew (B0 w))
theorem Ob.At.drewN (h : O.At w0 A G s w) (k : Nat) : O.At w0 A G s (w.drewN k) := h.keep (Bdraw (B0 w) k)
/-- a block is made, and the walk has it for its own -/
theorem Ob.At.box (h : O.At w0 A G s w) (o : Obj) : O.At w0 A (And1 G w.heap.size) s (w.alloc o) := by
  obtain ⟨A', h1, h2, h3, h4⟩ := h
  have hs := h3.size
  refine ⟨A', Ob.keep h1 (Bnew (B0 w) o), h2, h3.alloc o, ?_⟩
  rintro g (hg | rfl)
  · exact ⟨(h4 g hg).1, Nat.lt_of_lt_of_le (h4 g hg).2.1 (Bnew (B0 w) o).size, (h4 g hg).2.2⟩
  · exact ⟨hs, by simp, fun x => by have := O.lt h1 _ x; omega⟩
/-- one of the walk's own blocks is written to -/
theorem Ob.At.put (h : O.At w0 A G s w) {p : Addr} (hp : G p.block) (u : Value) : O.At w0 A G s (w.setCell p u) := by
  obtain ⟨A', h1, h2, h3, h4⟩ := h
  have hq := h4 _ hp
  refine ⟨A', O.turns h1 ((T0 (fun i => i = p.block) w).put (p := p) rfl u) (fun i hi e => hq.2.2 (by rw [← e]; exact hi)), h2, h3.put_new hq.1 u, fun g hg => ⟨(h4 g hg).1, by simp; exact (h4 g hg).2.1, (h4 g hg).2.2⟩⟩
theorem Ob.At.less {G' : Nat → Prop} (h : O.At w0 A G s w) (hg : ∀ g, G' g → G g) : O.At w0 A G' s w := by
  obtain ⟨A', h1, h2, h3, h4⟩ := h
  exact ⟨A', h1, h2, h3, fun g x => h4 g (hg g x)⟩
/-- a call on the object -/
theorem Ob.At.call (h : O.At w0 A G s w) {P : Program} {f : FuncId} {args : Array Value} {R : Ending → Prop} (hc : ∀ B, O.I w s B → Calls P f args w fun e w' => R e ∧ O.Left w B s' w') :
    Calls P f args w fun e w' => R e ∧ O.At w0 A G s' w' ∧ Stay G w w' := by
  obtain ⟨A', h1, h2, h3, h4⟩ := h
  refine (hc A' h1).mono ?_
  rintro e w' ⟨hr, B, k1, k2, k3⟩
  have hs := h3.size
  refine ⟨hr, ⟨B, k1, fun g hg => ?_, k3.more_new hs h3 h2, fun g hg => ?_⟩, k3.size, fun g hg hl => k3.block g hl (h4 g hg).2.2⟩
  · rcases k2 g hg with h5 | h5
    · exact h2 g h5
    · exact .inr (by omega)
  · refine ⟨(h4 g hg).1, Nat.lt_of_lt_of_le (h4 g hg).2.1 k3.size, fun x => ?_⟩
    rcases k2 g x with h5 | h5
    · exact (h4 g hg).2.2 h5
    · have := (h4 g hg).2.1; omega
theorem Stay.of_below (hb : Below w.heap.size w w') (G : Nat → Prop) : Stay G w w' := ⟨hb.size, fun g _ hl => hb.block g hl⟩
theorem Stay.trans {w'' : World} (h : Stay G w w') (k : Stay G w' w'') : Stay G w w'' := ⟨Nat.le_trans h.1 k.1, fun g hg hl => (k.2 g hg (Nat.lt_of_lt_of_le hl h.1)).trans (h.2 g hg hl)⟩
theorem Stay.less {G' : Nat → Prop} (h : Stay G w w') (hg : ∀ g, G' g → G g) : Stay G' w w' := ⟨h.1, fun g x hl => h.2 g (hg g x) hl⟩
theorem Stay.held {g : Nat} {t : TypeId} {cs : Array Value} (h : Stay G w w') (hg : G g) (hh : Held w g t cs) : Held w' g t cs := (h.2 g hg hh.lt).trans hh
theorem Stay.own {base n size : Nat} {e : TypeId} {v : Value} {xs : List Value} (h : Stay G w w') (hg : ∀ g, v.ownBlock = some g → G g) (ho : w.ownsRow base e size v n xs) : w'.ownsRow base e size v n xs :=
  own_kept ho (fun g e => h.2 g (hg g e) (ho.lt g e).2)
theorem Stay.of_grown {row : Option Nat} (hg : w.grownBy w' row) (hr : ∀ g, row = some g → ¬ G g) : Stay G w w' := ⟨hg.size, fun g hx hl => hg.block g hl (fun e => hr g e.symm hx)⟩
/-- one of the walk's own rows grows, or a block is made: the walk has it for its own, too -/
theorem Ob.At.grown {row : Option Nat} {G' : Nat → Prop} (h : O.At w0 A G s w) (hg : w.grownBy w' row) (hr : ∀ g, row = some g → G g) (hG : ∀ g, G' g → G g ∨ (w.heap.size ≤ g ∧ g < w'.heap.size)) : O.At w0 A G' s w' := by
  obtain ⟨A', h1, h2, h3, h4⟩ := h
  have hs := h3.size
  refine ⟨A', O.turns h1 (G := fun i => row = some i) ⟨hg.os, hg.tape, hg.output, hg.size, fun i hi hn => hg.block i hi (fun e => hn e.symm)⟩ (fun i hi e => (h4 i (hr i e)).2.2 hi), h2,
    ⟨hg.os.trans h3.os, hg.tape.trans h3.tape, hg.output.trans h3.output, Nat.le_trans hs hg.size, fun i hi hf => (hg.block i (by omega) (fun e => by have := (h4 i (hr i e.symm)).1; omega)).trans (h3.block i hi hf)⟩, fun g x => ?_⟩
  rcases hG g x with h5 | h5
  · exact ⟨(h4 g h5).1, Nat.lt_of_lt_of_le (h4 g h5).2.1 hg.size, (h4 g h5).2.2⟩
  · exact ⟨by omega, h5.2, fun y => by have := O.lt h1 _ y; omega⟩
/-- .. blocks that a call made -/
theorem Ob.At.keep2 {G' : Nat → Prop} (h : O.At w0 A G s w) (hb : Below w.heap.size w w') (hG : ∀ g, G' g → G g ∨ (w.heap.size ≤ g ∧ g < w'.heap.size)) : O.At w0 A G' s w' :=
  h.grown (row := none) ⟨hb.os, hb.tape, hb.output, hb.size, fun i hi _ => hb.block i hi⟩ (fun g e => by cases e) hG
theorem Ob.Left.more {W : World} (h : O.Left w A s w') (hs : W.heap.size ≤ w.heap.size) (hb : Below W.heap.size W w) : O.Left W A s w' := by
  obtain ⟨B, h1, h2, h3⟩ := h
  refine ⟨B, h1, fun g hg => ?_, ((Turns.of_below hb A).trans h3)⟩
  rcases h2 g hg with h4 | h4
  · exact .inl h4
  · exact .inr (by omega)
end

/-! what a View has read, and written: no more cells than there are -/
theorem nodup_few : ∀ (n : Nat) (l : List Nat), (∀ i ∈ l, i < n) → l.Nodup → l.length ≤ n
  | 0, l, h, _ => by
    cases l with
    | nil => simp
    | cons a r => have := h a (List.mem_cons_self ..); omega
  | n + 1, l, h, hd => by
    by_cases hn : n ∈ l
    · have h1 := nodup_few n (l.erase n) (fun i hi => by
        have h2 := (hd.mem_erase_iff).1 hi
        have h3 := h i h2.2
        have h4 := h2.1
        omega) (hd.erase n)
      rw [List.length_erase_of_mem hn] at h1
      omega
    · have h1 := nodup_few n l (fun i hi => by
        have h3 := h i hi
        have h4 : i ≠ n := fun e => hn (e ▸ hi)
        omega) hd
      omega
theorem VOk.few {n : Nat} {s : Vst} (h : VOk n s) : s.rd.length ≤ n ∧ s.wr.length ≤ n := by
  refine ⟨nodup_few _ _ h.rdLt h.rdNd, ?_⟩
  have : (s.wr.map (·.1)).length ≤ n := by
    refine nodup_few _ _ (fun i hi => ?_) ?_
    · obtain ⟨p, hp, rfl⟩ := List.mem_map.1 hi
      exact (h.wrLt p hp).1
    · unfold List.Nodup
      rw [List.pairwise_iff_getElem]
      intro i j hi hj hij e
      have hj' : j < s.wr.length := by simpa using hj
      have h1 := h.wrNd i (by omega)
      have h2 := h.wrNd j hj'
      have e1 : cellW s.wr i = cellW s.wr j := by
        unfold cellW
        simp [List.getD, List.getElem?_eq_getElem (show i < s.wr.length by omega), List.getElem?_eq_getElem hj'] at e ⊢
        exact e
      rw [e1, h2] at h1
      injection h1 with h1
      omega
  simpa using this

section
variable {base b n : Nat} {wh all : Bool} {K : Nat → Option Nat} {s : Vst} {w w0 : World} {A G : Nat → Prop}
theorem vGetA (hn : n < 2 ^ 40) (a : Int) (h : (vOb base b n wh K).At w0 A G s w) :
    Calls Try.prog 53 #[.pointer (some ⟨b, 0, none⟩), .int .i64 a] w fun e w' => e = .returned (.int .u32 ((getV n K s a : Nat) : Int)) ∧ (vOb base b n wh K).At w0 A G (getS n K s a) w' ∧ Stay G w w' := by
  refine h.call ?_
  rintro B ⟨o, hI, rfl⟩
  refine (VGet_c a (by have := hI.ok.few; omega) (by have := hI.ok.few; omega) w hI).mono ?_
  rintro e w' ⟨rfl, o', h1, h2, h3⟩
  exact ⟨rfl, _, ⟨o', h1, rfl⟩, h2, h3.more (fun i hi => .inl hi)⟩
theorem vPutA (hn : n < 2 ^ 40) (a : Int) (v : Nat) (hv : v < 2 ^ 32) (h : (vOb base b n wh K).At w0 A G s w) :
    Calls Try.prog 37 #[.pointer (some ⟨b, 0, none⟩), .int .i64 a, .int .u32 (v : Int)] w fun e w' => e = .returned (.tuple #[]) ∧ (vOb base b n wh K).At w0 A G (putS n s a v) w' ∧ Stay G w w' := by
  refine h.call ?_
  rintro B ⟨o, hI, rfl⟩
  refine (VPut_c a v hv (by have := hI.ok.few; omega) w hI).mono ?_
  rintro e w' ⟨rfl, o', h1, h2, h3⟩
  exact ⟨rfl, _, ⟨o', h1, rfl⟩, h2, h3.more (fun i hi => .inl hi)⟩
theorem rGetA (hn : n < 2 ^ 40) (a : Int) (h : (rOb base b n all K).At w0 A G s w) :
    Calls Try.prog 56 #[.pointer (some ⟨b, 0, none⟩), .int .i64 a] w fun e w' => e = .returned (.int .u32 ((getV n K s a : Nat) : Int)) ∧ (rOb base b n all K).At w0 A G (getS n K s a) w' ∧ Stay G w w' := by
  refine h.call ?_
  rintro B ⟨v, hI, rfl⟩
  refine (VRGet_c a (by have := hI.ok.few; omega) w hI).mono ?_
  rintro e w' ⟨rfl, v', h1, h2, h3⟩
  exact ⟨rfl, _, ⟨v', h1, rfl⟩, h2, h3⟩
theorem rPutA (hn : n < 2 ^ 40) (a : Int) (x : Nat) (hx : x < 2 ^ 32) (h : (rOb base b n all K).At w0 A G s w) :
    Calls Try.prog 41 #[.pointer (some ⟨b, 0, none⟩), .int .i64 a, .int .u32 (x : Int)] w fun e w' => e = .returned (.tuple #[]) ∧ (rOb base b n all K).At w0 A G (putS n s a x) w' ∧ Stay G w w' := by
  refine h.call ?_
  rintro B ⟨v, hI, rfl⟩
  refine (VRPut_c a x hx (by have := hI.ok.few; omega) w hI).mono ?_
  rintro e w' ⟨rfl, v', h1, h2, h3⟩
  exact ⟨rfl, _, ⟨v', h1, rfl⟩, h2, h3⟩
end
end Go.Proofs.Ytpndfhdedmdoeaa
