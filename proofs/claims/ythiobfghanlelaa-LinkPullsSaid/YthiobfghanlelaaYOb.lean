/-
  An object whose blocks a call may turn, beside the walk's own blocks: a View of the program (vOb), one of the document (rOb).
-/
import Derived.Test.YthiobfghanlelaaYPut
import Derived.Test.YthiobfghanlelaaYRef4
import Derived.Test.YthiobfghanlelaaYMath
import Derived.Test.YthiobfghanlelaaYRow
namespace Go.Proofs.Ythiobfghanlelaa
open Go.ChangeShapes Go.WideShapes Go.ChangeAt Go.RowKit Go.Maps
set_option linter.unusedVariables false
set_option maxRecDepth 100000

/-- a kind of an object: when it lies in a world, in a state, on the blocks A -/
structure Ob where
  I : World → Vst → (Nat → Prop) → Prop
  lt : ∀ {w : World} {s : Vst} {A : Nat → Prop}, I w s A → ∀ i, A i → i < w.heap.size
  turns : ∀ {w w' : World} {s : Vst} {A G : Nat → Prop}, I w s A → Turns G w w' → (∀ i, A i → ¬ G i) → I w' s A

def vOb (base b n : Nat) (wh : Bool) (K : Nat → Option Nat) : Ob where
  I w s A := ∃ o, IsView w base b n wh o K s ∧ A = o.A b
  lt := by
    rintro w s A ⟨o, h, rfl⟩
    exact h.lt
  turns := by
    rintro w w' s A G ⟨o, h, rfl⟩ ht hf
    exact ⟨o, h.turns ht hf, rfl⟩
def rOb (base b n : Nat) (all : Bool) (K : Nat → Option Nat) : Ob where
  I w s A := ∃ v, IsRefV w base b n all v K s ∧ A = OwnF b 6 v
  lt := by
    rintro w s A ⟨v, h, rfl⟩
    exact h.parts.lt
  turns := by
    rintro w w' s A G ⟨v, h, rfl⟩ ht hf
    exact ⟨v, h.turns ht hf, rfl⟩

/-- what a call leaves that found the object on A: it is in the state s, on A and new blocks; no other block has turned -/
def Ob.Left (O : Ob) (w : World) (A : Nat → Prop) (s : Vst) (w' : World) : Prop := ∃ A', O.I w' s A' ∧ (∀ g, A' g → A g ∨ w.heap.size ≤ g) ∧ Turns A w w'
/-- in a walk that began at w0, where the object was on A: it is in the state s; G: blocks of the walk's own -/
def Ob.At (O : Ob) (w0 : World) (A G : Nat → Prop) (s : Vst) (w : World) : Prop :=
  ∃ A', O.I w s A' ∧ (∀ g, A' g → A g ∨ w0.heap.size ≤ g) ∧ Turns A w0 w ∧ ∀ g, G g → w0.heap.size ≤ g ∧ g < w.heap.size ∧ ¬ A' g
/-- the blocks of G are as they were -/
def Stay (G : Nat → Prop) (w w' : World) : Prop := w.heap.size ≤ w'.heap.size ∧ ∀ g, G g → g < w.heap.size → w'.heap[g]? = w.heap[g]?
/-- .. and block N is one of the walk's own, too -/
def And1 (G : Nat → Prop) (N : Nat) : Nat → Prop := fun g => G g ∨ g = N
/-- .. and those of a list -/
def GL (G : Nat → Prop) (L : List Nat) : Nat → Prop := fun g => G g ∨ g ∈ L
/-- .. and those that a slice value has -/
def GU (G : Nat → Prop) (u : Value) : Nat → Prop := fun g => G g ∨ u.ownBlock = some g

section
variable {O : Ob} {w w' w0 : World} {A G : Nat → Prop} {s s' : Vst} {N : Nat}
theorem Ob.keep {A : Nat → Prop} (h : O.I w s A) (hb : Below w.heap.size w w') : O.I w' s A := O.turns h (Turns.of_below hb (fun _ => False)) (fun _ _ x => x)
theorem Ob.Left.same (h : O.I w s A) : O.Left w A s w := ⟨A, h, fun g hg => .inl hg, T0 _ _⟩
theorem Ob.Left.size (h : O.Left w A s w') : w.heap.size ≤ w'.heap.size := by obtain ⟨A', _, _, h⟩ := h; exact h.size
theorem Ob.At.start (h : O.I w s A) : O.At w A (fun _ => False) s w := ⟨A, h, fun g hg => .inl hg, T0 _ _, fun g hg => hg.elim⟩
theorem Ob.At.left (h : O.At w0 A G s w) : O.Left w0 A s w := by
  obtain ⟨A', h1, h2, h3, _⟩ := h
  exact ⟨A', h1, h2, h3⟩
theorem Ob.At.size (h : O.At w0 A G s w) : w0.heap.size ≤ w.heap.size := h.left.size
theorem Ob.At.keep (h : O.At w0 A G s w) (hb : Below w.heap.size w w') : O.At w0 A G s w' := by
  obtain ⟨A', h1, h2, h3, h4⟩ := h
  exact ⟨A', Ob.keep h1 hb, h2, h3.trans (Turns.of_below hb A), fun g hg => ⟨(h4 g hg).1, Nat.lt_of_lt_of_le (h4 g hg).2.1 hb.size, (h4 g hg).2.2⟩⟩
theorem Ob.At.alloc (h : O.At w0 A G s w) (o : Obj) : O.At w0 A G s (w.alloc o) := h.keep (Bnew (B0 w) o)
theorem Ob.At.drew (h : O.At w0 A G s w) : O.At w0 A G s w.drew := h.keep (Bdrew (B0 w))
theorem Ob.At.drewN (h : O.At w0 A G s w) (k : Nat) : O.At w0 A G s (w.drewN k) := h.keep (Bdraw (B0 w) k)
/-- a block is made, and the walk has it for its own -/
theorem Ob.At.box (h : O.At w0 A G s w) (o : Obj) : O.At w0 A (And1 G w.heap.size) s (w.alloc o) := by
  obtain ⟨A', h1, h2, h3, h4⟩ := h
  have hs := h3.size
  refine ⟨A', Ob.keep h1 (Bnew (B0 w) o), h2, h3.alloc o, ?_⟩
  rintro g (hg | rfl)
  · exact ⟨(h4 g hg).1, Nat.lt_of_lt_of_le (h4 g hg).2.1 (Bnew (B0 w) o).size, (h4 g hg).2.2⟩
  · exact ⟨hs, by simp, fun x => by have := O.lt h1 _ x; omega⟩
/-- one of the walk's own blocks is written to -/
theorem Ob.At.put (h : O.At w0 A G s w) {p : Addr} (hp : G p.block) (u : Value) : O.At w0 A G s (w.setCell p u) := by
  obtain ⟨A', h1, h2, h3, h4⟩ := h
  have hq := h4 _ hp
  refine ⟨A', O.turns h1 ((T0 (fun i => i = p.block) w).put (p := p) rfl u) (fun i hi e => hq.2.2 (by rw [← e]; exact hi)), h2, h3.put_new hq.1 u, fun g hg => ⟨(h4 g hg).1, by simp; exact (h4 g hg).2.1, (h4 g hg).2.2⟩⟩
theorem Ob.At.less {G' : Nat → Prop} (h : O.At w0 A G s w) (hg : ∀ g, G' g → G g) : O.At w0 A G' s w := by
  obtain ⟨A', h1, h2, h3, h4⟩ := h
  exact ⟨A', h1, h2, h3, fun g x => h4 g (hg g x)⟩
/-- a call on the object -/
theorem Ob.At.call (h : O.At w0 A G s w) {P : Program} {f : FuncId} {args : Array Value} {R : Ending → Prop} (hc : ∀ B, O.I w s B → Calls P f args w fun e w' => R e ∧ O.Left w B s' w') :
    Calls P f args w fun e w' => R e ∧ O.At w0 A G s' w' ∧ Stay G w w' := by
  obtain ⟨A', h1, h2, h3, h4⟩ := h
  refine (hc A' h1).mono ?_
  rintro e w' ⟨hr, B, k1, k2, k3⟩
  have hs := h3.size
  refine ⟨hr, ⟨B, k1, fun g hg => ?_, k3.more_new hs h3 h2, fun g hg => ?_⟩, k3.size, fun g hg hl => k3.block g hl (h4 g hg).2.2⟩
  · rcases k2 g hg with h5 | h5
    · exact h2 g h5
    · exact .inr (by omega)
  · refine ⟨(h4 g hg).1, Nat.lt_of_lt_of_le (h4 g hg).2.1 k3.size, fun x => ?_⟩
    rcases k2 g x with h5 | h5
    · exact (h4 g hg).2.2 h5
    · have := (h4 g hg).2.1; omega
theorem Stay.of_below (hb : Below w.heap.size w w') (G : Nat → Prop) : Stay G w w' := ⟨hb.size, fun g _ hl => hb.block g hl⟩
theorem Stay.trans {w'' : World} (h : Stay G w w') (k : Stay G w' w'') : Stay G w w'' := ⟨Nat.le_trans h.1 k.1, fun g hg hl => (k.2 g hg (Nat.lt_of_lt_of_le hl h.1)).trans (h.2 g hg hl)⟩
theorem Stay.less {G' : Nat → Prop} (h : Stay G w w') (hg : ∀ g, G' g → G g) : Stay G' w w' := ⟨h.1, fun g x hl => h.2 g (hg g x) hl⟩
theorem Stay.held {g : Nat} {t : TypeId} {cs : Array Value} (h : Stay G w w') (hg : G g) (hh : Held w g t cs) : Held w' g t cs := (h.2 g hg hh.lt).trans hh
theorem Stay.own {base n size : Nat} {e : TypeId} {v : Value} {xs : List Value} (h : Stay G w w') (hg : ∀ g, v.ownBlock = some g → G g) (ho : w.ownsRow base e size v n xs) : w'.ownsRow base e size v n xs :=
  own_kept ho (fun g e => h.2 g (hg g e) (ho.lt g e).2)
theorem Stay.of_grown {row : Option Nat} (hg : w.grownBy w' row) (hr : ∀ g, row = some g → ¬ G g) : Stay G w w' := ⟨hg.size, fun g hx hl => hg.block g hl (fun e => hr g e.symm hx)⟩
/-- one of the walk's own rows grows, or a block is made: the walk has it for its own, too -/
theorem Ob.At.grown {row : Option Nat} {G' : Nat → Prop} (h : O.At w0 A G s w) (hg : w.grownBy w' row) (hr : ∀ g, row = some g → G g) (hG : ∀ g, G' g → G g ∨ (w.heap.size ≤ g ∧ g < w'.heap.size)) : O.At w0 A G' s w' := by
  obtain ⟨A', h1, h2, h3, h4⟩ := h
  have hs := h3.size
  refine ⟨A', O.turns h1 (G := fun i => row = some i) ⟨hg.os, hg.tape, hg.output, hg.size, fun i hi hn => hg.block i hi (fun e => hn e.symm)⟩ (fun i hi e => (h4 i (hr i e)).2.2 hi), h2,
    ⟨hg.os.trans h3.os, hg.tape.trans h3.tape, hg.output.trans h3.output, Nat.le_trans hs hg.size, fun i hi hf => (hg.block i (by omega) (fun e => by have := (h4 i (hr i e.symm)).1; omega)).trans (h3.block i hi hf)⟩, fun g x => ?_⟩
  rcases hG g x with h5 | h5
  · exact ⟨(h4 g h5).1, Nat.lt_of_lt_of_le (h4 g h5).2.1 hg.size, (h4 g h5).2.2⟩
  · exact ⟨by omega, h5.2, fun y => by have := O.lt h1 _ y; omega⟩
/-- .. blocks that a call made -/
theorem Ob.At.keep2 {G' : Nat → Prop} (h : O.At w0 A G s w) (hb : Below w.heap.size w w') (hG : ∀ g, G' g → G g ∨ (w.heap.size ≤ g ∧ g < w'.heap.size)) : O.At w0 A G' s w' :=
  h.grown (row := none) ⟨hb.os, hb.tape, hb.output, hb.size, fun i hi _ => hb.block i hi⟩ (fun g e => by cases e) hG
theorem Ob.Left.more {W : World} (h : O.Left w A s w') (hs : W.heap.size ≤ w.heap.size) (hb : Below W.heap.size W w) : O.Left W A s w' := by
  obtain ⟨B, h1, h2, h3⟩ := h
  refine ⟨B, h1, fun g hg => ?_, ((Turns.of_below hb A).trans h3)⟩
  rcases h2 g hg with h4 | h4
  · exact .inl h4
  · exact .inr (by omega)
end

/-! what a View has read, and written: no more cells than there are -/
theorem nodup_few : ∀ (n : Nat) (l : List Nat), (∀ i ∈ l, i < n) → l.Nodup → l.length ≤ n
  | 0, l, h, _ => by
    cases l with
    | nil => simp
    | cons a r => have := h a (List.mem_cons_self ..); omega
  | n + 1, l, h, hd => by
    by_cases hn : n ∈ l
    · have h1 := nodup_few n (l.erase n) (fun i hi => by
        have h2 := (hd.mem_erase_iff).1 hi
        have h3 := h i h2.2
        have h4 := h2.1
        omega) (hd.erase n)
      rw [List.length_erase_of_mem hn] at h1
      omega
    · have h1 := nodup_few n l (fun i hi => by
        have h3 := h i hi
        have h4 : i ≠ n := fun e => hn (e ▸ hi)
        omega) hd
      omega
theorem VOk.few {n : Nat} {s : Vst} (h : VOk n s) : s.rd.length ≤ n ∧ s.wr.length ≤ n := by
  refine ⟨nodup_few _ _ h.rdLt h.rdNd, ?_⟩
  have : (s.wr.map (·.1)).length ≤ n := by
    refine nodup_few _ _ (fun i hi => ?_) ?_
    · obtain ⟨p, hp, rfl⟩ := List.mem_map.1 hi
      exact (h.wrLt p hp).1
    · unfold List.Nodup
      rw [List.pairwise_iff_getElem]
      intro i j hi hj hij e
      have hj' : j < s.wr.length := by simpa using hj
      have h1 := h.wrNd i (by omega)
      have h2 := h.wrNd j hj'
      have e1 : cellW s.wr i = cellW s.wr j := by
        unfold cellW
        simp [List.getD, List.getElem?_eq_getElem (show i < s.wr.length by omega), List.getElem?_eq_getElem hj'] at e ⊢
        exact e
      rw [e1, h2] at h1
      injection h1 with h1
      omega
  simpa using this

section
variable {base b n : Nat} {wh all : Bool} {K : Nat → Option Nat} {s : Vst} {w w0 : World} {A G : Nat → Prop}
theorem vGetA (hn : n < 2 ^ 40) (a : Int) (h : (vOb base b n wh K).At w0 A G s w) :
    Calls Try.prog 24 #[.pointer (some ⟨b, 0, none⟩), .int .i64 a] w fun e w' => e = .returned (.int .u32 ((getV n K s a : Nat) : Int)) ∧ (vOb base b n wh K).At w0 A G (getS n K s a) w' ∧ Stay G w w' := by
  refine h.call ?_
  rintro B ⟨o, hI, rfl⟩
  refine (VGet_c a (by have := hI.ok.few; omega) (by have := hI.ok.few; omega) w hI).mono ?_
  rintro e w' ⟨rfl, o', h1, h2, h3⟩
  exact ⟨rfl, _, ⟨o', h1, rfl⟩, h2, h3.more (fun i hi => .inl hi)⟩
theorem vPutA (hn : n < 2 ^ 40) (a : Int) (v : Nat) (hv : v < 2 ^ 32) (h : (vOb base b n wh K).At w0 A G s w) :
    Calls Try.prog 51 #[.pointer (some ⟨b, 0, none⟩), .int .i64 a, .int .u32 (v : Int)] w fun e w' => e = .returned (.tuple #[]) ∧ (vOb base b n wh K).At w0 A G (putS n s a v) w' ∧ Stay G w w' := by
  refine h.call ?_
  rintro B ⟨o, hI, rfl⟩
  refine (VPut_c a v hv (by have := hI.ok.few; omega) w hI).mono ?_
  rintro e w' ⟨rfl, o', h1, h2, h3⟩
  exact ⟨rfl, _, ⟨o', h1, rfl⟩, h2, h3.more (fun i hi => .inl hi)⟩
theorem rGetA (hn : n < 2 ^ 40) (a : Int) (h : (rOb base b n all K).At w0 A G s w) :
    Calls Try.prog 36 #[.pointer (some ⟨b, 0, none⟩), .int .i64 a] w fun e w' => e = .returned (.int .u32 ((getV n K s a : Nat) : Int)) ∧ (rOb base b n all K).At w0 A G (getS n K s a) w' ∧ Stay G w w' := by
  refine h.call ?_
  rintro B ⟨v, hI, rfl⟩
  refine (VRGet_c a (by have := hI.ok.few; omega) w hI).mono ?_
  rintro e w' ⟨rfl, v', h1, h2, h3⟩
  exact ⟨rfl, _, ⟨v', h1, rfl⟩, h2, h3⟩
theorem rPutA (hn : n < 2 ^ 40) (a : Int) (x : Nat) (hx : x < 2 ^ 32) (h : (rOb base b n all K).At w0 A G s w) :
    Calls Try.prog 38 #[.pointer (some ⟨b, 0, none⟩), .int .i64 a, .int .u32 (x : Int)] w fun e w' => e = .returned (.tuple #[]) ∧ (rOb base b n all K).At w0 A G (putS n s a x) w' ∧ Stay G w w' := by
  refine h.call ?_
  rintro B ⟨v, hI, rfl⟩
  refine (VRPut_c a x hx (by have := hI.ok.few; omega) w hI).mono ?_
  rintro e w' ⟨rfl, v', h1, h2, h3⟩
  exact ⟨rfl, _, ⟨v', h1, rfl⟩, h2, h3⟩
end
end Go.Proofs.Ythiobfghanlelaa

/-
  What pushing, pulling and walking do to what a View has read and written, as functions; the walk's own block beside a View. No program is named here but for the document's and the program's View.
-/
namespace Go.Proofs.Ythiobfghanlelaa
open Go.ChangeShapes Go.WideShapes Go.ChangeAt Go.RowKit Go.Maps
set_option linter.unusedVariables false
set_option maxRecDepth 100000

def pgB (P p : Int) : Bool := decide (0 ≤ p) && decide (p < P)
theorem pgB_iff (P p : Int) : pgB P p = true ↔ 0 ≤ p ∧ p < P := by unfold pgB; simp
theorem pgB_no {P p : Int} (h : pgB P p = false) : ¬ (0 ≤ p ∧ p < P) := by
  intro x
  rw [(pgB_iff P p).2 x] at h
  cases h

section
variable (n : Nat) (K : Nat → Option Nat) (t q s hd : Int)
/-- behind 'h <- Get(head); Put(Next(k), h); Put(Prev(k), 0)' -/
def push1 (k : Nat) (st : Vst) : Vst := putS n (putS n (getS n K st hd) (pageI t q s (k : Int) 2) (getV n K st hd)) (pageI t q s (k : Int) 3) 0
/-- .. and 'if h is not 0: Put(Prev(h - 1), k + 1)' -/
def push2 (k : Nat) (st : Vst) : Vst := if getV n K st hd = 0 then push1 n K t q s hd k st else putS n (push1 n K t q s hd k st) (pageI t q s ((getV n K st hd : Nat) - 1 : Int) 3) (k + 1)
def pushS (k : Nat) (st : Vst) : Vst := putS n (push2 n K t q s hd k st) hd (k + 1)
def pushI (p : Int) (st : Vst) : Vst := if pgB q p then pushS n K t q s hd p.toNat st else st

def pullN (k : Nat) (st : Vst) : Nat := getV n K st (pageI t q s (k : Int) 2)
def pullB (k : Nat) (st : Vst) : Nat := getV n K (getS n K st (pageI t q s (k : Int) 2)) (pageI t q s (k : Int) 3)
def pull0 (k : Nat) (st : Vst) : Vst := getS n K (getS n K st (pageI t q s (k : Int) 2)) (pageI t q s (k : Int) 3)
def pull1 (k : Nat) (st : Vst) : Vst := if pullB n K t q s k st = 0 then putS n (pull0 n K t q s k st) hd (pullN n K t q s k st) else putS n (pull0 n K t q s k st) (pageI t q s ((pullB n K t q s k st : Nat) - 1 : Int) 2) (pullN n K t q s k st)
def pull2 (k : Nat) (st : Vst) : Vst := if pullN n K t q s k st = 0 then pull1 n K t q s hd k st else putS n (pull1 n K t q s hd k st) (pageI t q s ((pullN n K t q s k st : Nat) - 1 : Int) 3) (pullB n K t q s k st)
def pullS (k : Nat) (st : Vst) : Vst := putS n (putS n (pull2 n K t q s hd k st) (pageI t q s (k : Int) 2) 0) (pageI t q s (k : Int) 3) 0
def pullI (p : Int) (st : Vst) : Vst := if pgB q p then pullS n K t q s hd p.toNat st else st

/-- what is walked from the link l on, at most m pages -/
def walkF : Nat → Nat → Vst → List Nat × Vst
  | 0, _, st => ([], st)
  | m + 1, l, st => if 1 ≤ l ∧ (l : Int) ≤ q then
      let r := walkF m (getV n K st (pageI t q s ((l : Int) - 1) 2)) (getS n K st (pageI t q s ((l : Int) - 1) 2))
      ((l - 1) :: r.1, r.2)
    else ([], st)
def walkL (st : Vst) : List Nat := (walkF n K t q s q.toNat (getV n K st hd) (getS n K st hd)).1
def walkS (st : Vst) : Vst := (walkF n K t q s q.toNat (getV n K st hd) (getS n K st hd)).2
theorem walkF_step {m l : Nat} {st : Vst} (h : 1 ≤ l ∧ (l : Int) ≤ q) : walkF n K t q s (m + 1) l st = ((l - 1) :: (walkF n K t q s m (getV n K st (pageI t q s ((l : Int) - 1) 2)) (getS n K st (pageI t q s ((l : Int) - 1) 2))).1, (walkF n K t q s m (getV n K st (pageI t q s ((l : Int) - 1) 2)) (getS n K st (pageI t q s ((l : Int) - 1) 2))).2) := by
  rw [walkF, if_pos h]
theorem walkF_end {m l : Nat} {st : Vst} (h : ¬ (1 ≤ l ∧ (l : Int) ≤ q)) : walkF n K t q s m l st = ([], st) := by
  cases m with
  | zero => rfl
  | succ m => rw [walkF, if_neg h]
theorem walkF_zero {l : Nat} {st : Vst} : walkF n K t q s 0 l st = ([], st) := rfl
/-- behind the pages 'out' the walk stands at the link l, in the state st -/
structure Walked (m : Nat) (l0 : Nat) (st0 : Vst) (out : List Nat) (l : Nat) (st : Vst) : Prop where
  len : out.length ≤ m
  pages : (walkF n K t q s m l0 st0).1 = out ++ (walkF n K t q s (m - out.length) l st).1
  state : (walkF n K t q s m l0 st0).2 = (walkF n K t q s (m - out.length) l st).2
end
section
variable {n : Nat} {K : Nat → Option Nat} {t q s hd : Int} {m l0 l : Nat} {st0 st : Vst} {out : List Nat}
theorem Walked.start : Walked n K t q s m l0 st0 [] l0 st0 := ⟨by simp, by simp, by simp⟩
theorem Walked.step (h : Walked n K t q s m l0 st0 out l st) (hl : 1 ≤ l ∧ (l : Int) ≤ q) (hm : out.length < m) :
    Walked n K t q s m l0 st0 (out ++ [l - 1]) (getV n K st (pageI t q s ((l : Int) - 1) 2)) (getS n K st (pageI t q s ((l : Int) - 1) 2)) := by
  obtain ⟨j, hj⟩ : ∃ j, m - out.length = j + 1 := ⟨m - out.length - 1, by omega⟩
  have hj2 : m - (out ++ [l - 1]).length = j := by simp; omega
  obtain ⟨h1, h2, h3⟩ := h
  rw [hj, walkF_step n K t q s hl] at h2 h3
  refine ⟨by simp; omega, ?_, ?_⟩
  · rw [hj2, h2]; simp
  · rw [hj2, h3]
theorem Walked.fin (h : Walked n K t q s m l0 st0 out l st) (hl : ¬ (1 ≤ l ∧ (l : Int) ≤ q) ∨ ¬ out.length < m) : walkF n K t q s m l0 st0 = (out, st) := by
  obtain ⟨h1, h2, h3⟩ := h
  have e : walkF n K t q s (m - out.length) l st = ([], st) := by
    rcases hl with hl | hl
    · exact walkF_end n K t q s hl
    · have : m - out.length = 0 := by omega
      rw [this]; rfl
  rw [e] at h2 h3
  exact Prod.ext (by simpa using h2) h3
theorem pgB_nat {k : Nat} {st : Vst} (h : pgB q (k : Int) = true) : pushI n K t q s hd (k : Int) st = pushS n K t q s hd k st ∧ pullI n K t q s hd (k : Int) st = pullS n K t q s hd k st := by
  unfold pushI pullI
  rw [if_pos h, if_pos h]
  exact ⟨rfl, rfl⟩
theorem pgB_none {p : Int} {st : Vst} (h : pgB q p = false) : pushI n K t q s hd p st = st ∧ pullI n K t q s hd p st = st := by
  unfold pushI pullI
  rw [if_neg (by simp [h]), if_neg (by simp [h])]
  exact ⟨rfl, rfl⟩
/-- what is got goes into 32 bits -/
theorem getV_lt {a : Int} (hk : VOk n st) (h32 : ∀ i x, K i = some x → x < 2 ^ 32) : getV n K st a < 2 ^ 32 := by
  by_cases ho : opn n st a = true
  · obtain ⟨i, rfl, hi, hl⟩ := opn_at ho
    cases hp : pos st.wr i with
    | some k =>
      rw [getV_put ho hp]
      have h1 := (pos_some hp).1
      have h2 : (st.wr[k]'h1) ∈ st.wr := List.getElem_mem h1
      have h3 := (hk.wrLt _ h2).2
      unfold atW
      simp only [List.getD, List.getElem?_eq_getElem h1, Option.getD_some]
      exact h3
    | none =>
      cases hK : K i with
      | some v => rw [getV_known ho hp hK]; exact h32 i v hK
      | none => rw [getV_lost ho hp hK]; omega
  · rw [getV_no (by simpa using ho)]; omega
end

section
variable {base b n : Nat} {wh all : Bool} {K : Nat → Option Nat} {st s' : Vst} {w ws w0 w' : World} {A G : Nat → Prop} {N : Nat} {T : TypeId} {cs : Array Value} {O : Ob}
theorem vAt_lt (h : (vOb base b n wh K).At w0 A G st w) (a : Int) : getV n K st a < 2 ^ 32 := by
  obtain ⟨B, ⟨o, h1, _⟩, _⟩ := h
  exact getV_lt h1.ok h1.k32
theorem rAt_lt (h : (rOb base b n all K).At w0 A G st w) (a : Int) : getV n K st a < 2 ^ 32 := by
  obtain ⟨B, ⟨o, h1, _⟩, _⟩ := h
  exact getV_lt h1.ok h1.k32
/-- a walk that began at ws has one block of its own, N -/
structure WK (O : Ob) (w0 : World) (A G : Nat → Prop) (ws : World) (N : Nat) (T : TypeId) (cs : Array Value) (st : Vst) (w : World) : Prop where
  at_ : O.At w0 A (And1 G N) st w
  held : Held w N T cs
  stay : Stay G ws w
theorem WK.one (h : O.At w0 A G st ws) (T : TypeId) (cs : Array Value) : WK O w0 A G ws ws.heap.size T cs st (ws.alloc (.cells cs T)) := ⟨h.box _, Held.new _ _ _, Stay.of_below (Bnew (B0 _) _) G⟩
theorem WK.two (h : O.At w0 A G st ws) (o : Obj) (T : TypeId) (cs : Array Value) : WK O w0 A G ws (ws.heap.size + 1) T cs st ((ws.alloc o).alloc (.cells cs T)) :=
  ⟨by have := (h.alloc o).box (.cells cs T); simpa using this, Held.new2 _ _ _ _, Stay.of_below (Bnew (Bnew (B0 _) _) _) G⟩
theorem WK.keep (h : WK O w0 A G ws N T cs st w) (hb : Below w.heap.size w w') : WK O w0 A G ws N T cs st w' := ⟨h.at_.keep hb, h.held.keep hb, h.stay.trans (Stay.of_below hb G)⟩
theorem WK.drew (h : WK O w0 A G ws N T cs st w) : WK O w0 A G ws N T cs st w.drew := h.keep (Bdrew (B0 w))
theorem WK.call (h : WK O w0 A G ws N T cs st w) (h1 : O.At w0 A (And1 G N) s' w') (h2 : Stay (And1 G N) w w') : WK O w0 A G ws N T cs s' w' :=
  ⟨h1, h2.held (.inr rfl) h.held, h.stay.trans (h2.less fun g x => .inl x)⟩
theorem WK.fin (h : WK O w0 A G ws N T cs st w) : O.At w0 A G st w ∧ Stay G ws w := ⟨h.at_.less fun g x => .inl x, h.stay⟩
end
end Go.Proofs.Ythiobfghanlelaa

/-
  A row of pages that a walk appends to, beside an object that it reads.
-/
namespace Go.Proofs.Ythiobfghanlelaa
open Go.ChangeShapes Go.WideShapes Go.ChangeAt Go.RowKit Go.Maps
set_option linter.unusedVariables false
set_option linter.unusedSimpArgs false
set_option maxRecDepth 100000

theorem ntVs_snoc (l : List Nat) (q : Nat) : ntVs (l ++ [q]) = ntVs l ++ [.int .i64 (q : Int)] := by unfold ntVs; simp
theorem ntVs_len (l : List Nat) : (ntVs l).length = l.length := by unfold ntVs; simp
theorem own_caps9 {w : World} {base : Nat} {e : TypeId} {size n c : Nat} {A : Option Addr} {xs : List Value} (h : w.ownsRow base e size (.slice A n c) n xs) : n ≤ c ∧ c ≤ 9223372036854775807 := by
  rcases h.2 with ⟨h1, h2⟩ | ⟨g, cap, cur, h1, hb, hg, hnc, hcm, hr⟩
  · injection h1 with _ h1 h3; omega
  · injection h1 with _ _ h3; unfold maxLen at hcm; omega
theorem own_lower {w : World} {base base' : Nat} {e : TypeId} {size n : Nat} {v : Value} {xs : List Value} (h : w.ownsRow base e size v n xs) (hb : base' ≤ base) : w.ownsRow base' e size v n xs := by
  refine ⟨h.1, ?_⟩
  rcases h.2 with h2 | ⟨g, cap, cur, rfl, hbg, hg, hr⟩
  · exact .inl h2
  · exact .inr ⟨g, cap, cur, rfl, Nat.le_trans hb hbg, hg, hr⟩

/-- what a walk hands back: a row of its own with the pages l; the object is in the state s, and not on that row -/
def WalkEnd (O : Ob) (w0 : World) (A G : Nat → Prop) (l : List Nat) (s : Vst) (w : World) (e : Ending) (w' : World) : Prop :=
  ∃ u, e = .returned u ∧ w'.ownsRow w.heap.size 3 1 u l.length (ntVs l) ∧ O.At w0 A (GU G u) s w' ∧ Stay G w w'
theorem WalkEnd.mk' {O : Ob} {w0 w w' : World} {A G : Nat → Prop} {l out : List Nat} {s sx : Vst} {u : Value} {nl N : Nat} (hA : O.At w0 A (GU (And1 G N) u) sx w') {base : Nat} (hO : w'.ownsRow (w.heap.size + base) 3 1 u nl (ntVs out)) (hl : out.length = nl) (hS : Stay G w w')
    (h1 : l = out) (h2 : s = sx) : WalkEnd O w0 A G l s w (.returned u) w' := by
  subst h1 h2 hl
  exact ⟨u, rfl, own_lower hO (by omega), hA.less (fun g x => by
    rcases x with x | x
    · exact .inl (.inl x)
    · exact .inr x), hS⟩

/-- a walk's row, and one more block of its own, beside the object -/
structure RowW (O : Ob) (w0 : World) (A G : Nat → Prop) (ws : World) (N : Nat) (T : TypeId) (cs : Array Value) (base : Nat) (u : Value) (nl : Nat) (xs : List Value) (st : Vst) (w : World) : Prop where
  at_ : O.At w0 A (GU (And1 G N) u) st w
  own : w.ownsRow base 3 1 u nl xs
  held : Held w N T cs
  stay : Stay G ws w
section
variable {O : Ob} {w0 ws w w' : World} {A G : Nat → Prop} {N : Nat} {T : TypeId} {cs : Array Value} {base : Nat} {u : Value} {nl : Nat} {xs : List Value} {st s' : Vst}
theorem RowW.keep (h : RowW O w0 A G ws N T cs base u nl xs st w) (hb : Below w.heap.size w w') : RowW O w0 A G ws N T cs base u nl xs st w' := ⟨h.at_.keep hb, own_below h.own hb, h.held.keep hb, h.stay.trans (Stay.of_below hb G)⟩
theorem RowW.call (h : RowW O w0 A G ws N T cs base u nl xs st w) (h1 : O.At w0 A (GU (And1 G N) u) s' w') (h2 : Stay (GU (And1 G N) u) w w') : RowW O w0 A G ws N T cs base u nl xs s' w' :=
  ⟨h1, h2.own (fun g e => .inr e) h.own, h2.held (.inl (.inr rfl)) h.held, h.stay.trans (h2.less fun g x => .inl (.inl x))⟩
theorem Ob.At.own_lt (h : O.At w0 A G st w) : ∀ g, G g → g < w.heap.size := fun g x => by
  obtain ⟨A', _, _, _, h4⟩ := h
  exact (h4 g x).2.1
/-- the row grows by one, in place or in a new block -/
theorem row_grown {g cap : Nat} {x : Value} {o : Obj} (hA : O.At w0 A (GU (And1 G N) u) st w) (hO : w.ownsRow base 3 1 u nl xs) (hC : Held w N T cs) (hN : u.ownBlock ≠ some N) (hS : Stay G ws w)
    (hown : w'.ownsRow base 3 1 (.slice (some ⟨g, 0, none⟩) (nl + 1) cap) (nl + 1) (xs ++ [x])) (hgr : (w.alloc o).grownBy w' u.ownBlock) (hat : u.ownBlock = some g ∨ g = (w.alloc o).heap.size) (hlt : g < w'.heap.size)
    (hG : ∀ g, G g → g < base) : RowW O w0 A G ws N T cs base (.slice (some ⟨g, 0, none⟩) (nl + 1) cap) (nl + 1) (xs ++ [x]) st w' := by
  refine ⟨(hA.alloc o).grown hgr (fun g e => .inr e) ?_, hown, ?_, (hS.trans (Stay.of_below (Bnew (B0 _) o) G)).trans (Stay.of_grown hgr (fun g e x => by have := hG g x; have := (hO.lt g e).1; omega))⟩
  · rintro i (x | x)
    · exact .inl (.inl x)
    · simp [Value.ownBlock] at x
      subst x
      rcases hat with h | h
      · exact .inl (.inr h)
      · exact .inr ⟨by omega, hlt⟩
  · exact (hgr.block N (by simp; have := hC.lt; omega) (fun e => hN e.symm)).trans (hC.alloc o)
/-- a store into the block beside the row -/
theorem RowW.put (h : RowW O w0 A G ws N T cs base u nl xs st w) (hN : u.ownBlock ≠ some N) (hn : ws.heap.size ≤ N) (i : Nat) (v : Value) : RowW O w0 A G ws N T (cs.setIfInBounds i v) base u nl xs st (w.setCell ⟨N, i, none⟩ v) :=
  ⟨h.at_.put (p := ⟨N, i, none⟩) (.inl (.inr rfl)) v, own_kept h.own (fun g e => Below.heap_setCell w ⟨N, i, none⟩ v g (fun e2 => by have e2 : g = N := e2; subst e2; exact hN e)), h.held.put i v,
    ⟨by simp; exact h.stay.1, fun g hg hl => (Below.heap_setCell w ⟨N, i, none⟩ v g (fun e2 => by have e2 : g = N := e2; omega)).trans (h.stay.2 g hg hl)⟩⟩
theorem WK.put (h : WK O w0 A G ws N T cs st w) (hn : ws.heap.size ≤ N) (i : Nat) (v : Value) : WK O w0 A G ws N T (cs.setIfInBounds i v) st (w.setCell ⟨N, i, none⟩ v) :=
  ⟨h.at_.put (p := ⟨N, i, none⟩) (.inr rfl) v, h.held.put i v, ⟨by simp; exact h.stay.1, fun g hg hl => (Below.heap_setCell w ⟨N, i, none⟩ v g (fun e2 => by have e2 : g = N := e2; omega)).trans (h.stay.2 g hg hl)⟩⟩
/-- a block is made; the one before stays one of the walk's own -/
theorem WK.next {T' : TypeId} {cs' : Array Value} (h : WK O w0 A G ws N T cs st w) (h0 : Held ws N T cs) : WK O w0 A (And1 G N) ws w.heap.size T' cs' st (w.alloc (.cells cs' T')) :=
  ⟨h.at_.box _, Held.new _ _ _, (Stay.trans ⟨h.stay.1, fun g hg hl => by
    rcases hg with x | rfl
    · exact h.stay.2 g x hl
    · exact h.held.trans h0.symm⟩ (Stay.of_below (Bnew (B0 w) _) _))⟩
theorem WK.less {N' : Nat} (h : WK O w0 A (And1 G N') ws N T cs st w) : WK O w0 A G ws N T cs st w :=
  ⟨h.at_.less (fun g x => by
    rcases x with x | x
    · exact .inl (.inl x)
    · exact .inr x), h.held, h.stay.less (fun g x => .inl x)⟩
/-- a page is copied into a block of its own: the row stays -/
theorem RowW.next {T' : TypeId} {cs' : Array Value} (h : RowW O w0 A G ws N T cs base u nl xs st w) : RowW O w0 A G ws w.heap.size T' cs' base u nl xs st (w.alloc (.cells cs' T')) :=
  ⟨h.at_.keep2 (Bnew (B0 w) _) (fun g x => by
    rcases x with (x | x) | x
    · exact .inl (.inl (.inl x))
    · right; subst x; simp
    · exact .inl (.inr x)), own_below h.own (Bnew (B0 w) _), Held.new _ _ _, h.stay.trans (Stay.of_below (Bnew (B0 w) _) G)⟩
theorem heldOwn_ne {t e : TypeId} {size : Nat} {v : Value} {g : Nat} (h : Held w g t cs) (ho : w.ownsRow base e size v nl xs) (hne : t ≠ e) : v.ownBlock ≠ some g := by
  intro hv
  rcases ho.2 with ⟨rfl, _⟩ | ⟨g', cap, cur, rfl, hb, hg, _⟩
  · simp [Value.ownBlock] at hv
  · have : g' = g := by simpa [Value.ownBlock] using hv
    subst this
    unfold Held at h
    rw [h] at hg
    injection hg with hg
    injection hg with _ h2
    exact hne h2
theorem gu_less {N' g : Nat} (x : GU (And1 G N') u g) : GU (And1 (And1 G N') N) u g := by
  rcases x with x | x
  · exact .inl (.inl x)
  · exact .inr x
end
end Go.Proofs.Ythiobfghanlelaa

/-
  Two objects side by side, and blocks of the walk's own, all made behind the world W.
-/
namespace Go.Proofs.Ythiobfghanlelaa
open Go.ChangeShapes Go.WideShapes Go.ChangeAt Go.RowKit Go.Maps
set_option linter.unusedVariables false
set_option linter.unusedSimpArgs false
set_option maxRecDepth 100000

structure Duo (W : World) (O1 O2 : Ob) (A B G : Nat → Prop) (s1 s2 : Vst) (w : World) : Prop where
  i1 : O1.I w s1 A
  i2 : O2.I w s2 B
  ab : ∀ i, A i → ¬ B i
  aG : ∀ g, G g → g < w.heap.size ∧ ¬ A g ∧ ¬ B g
  lo : ∀ i, A i ∨ B i → W.heap.size ≤ i
  bel : Below W.heap.size W w
/-- no object -/
def noOb : Ob where
  I _ _ A := ∀ i, ¬ A i
  lt h i hi := absurd hi (h i)
  turns h _ _ := h

section
variable {W w w' : World} {O1 O2 : Ob} {A B G : Nat → Prop} {s1 s2 s' : Vst}
theorem Duo.left1 (h : Duo W O1 O2 A B G s1 s2 w) (hl : O1.Left w A s' w') : ∃ A', Duo W O1 O2 A' B G s' s2 w' ∧ Stay G w w' := by
  obtain ⟨A', k1, k2, k3⟩ := hl
  have hs := h.bel.size
  refine ⟨A', ⟨k1, O2.turns h.i2 k3 (fun i hi ha => h.ab i ha hi), fun i hi hb => ?_, fun g hg => ⟨Nat.lt_of_lt_of_le (h.aG g hg).1 k3.size, fun x => ?_, (h.aG g hg).2.2⟩, fun i hi => ?_, k3.below h.bel (fun i hi => h.lo i (.inl hi))⟩, ⟨k3.size, fun g hg hl => k3.block g hl (h.aG g hg).2.1⟩⟩
  · rcases k2 i hi with h1 | h1
    · exact h.ab i h1 hb
    · have := O2.lt h.i2 i hb; omega
  · rcases k2 g x with h1 | h1
    · exact (h.aG g hg).2.1 h1
    · have := (h.aG g hg).1; omega
  · rcases hi with hi | hi
    · rcases k2 i hi with h1 | h1
      · exact h.lo i (.inl h1)
      · omega
    · exact h.lo i (.inr hi)
theorem Duo.swap (h : Duo W O1 O2 A B G s1 s2 w) : Duo W O2 O1 B A G s2 s1 w := ⟨h.i2, h.i1, fun i hb ha => h.ab i ha hb, fun g hg => ⟨(h.aG g hg).1, (h.aG g hg).2.2, (h.aG g hg).2.1⟩, fun i hi => h.lo i hi.symm, h.bel⟩
theorem Duo.left2 (h : Duo W O1 O2 A B G s1 s2 w) (hl : O2.Left w B s' w') : ∃ B', Duo W O1 O2 A B' G s1 s' w' ∧ Stay G w w' := by
  obtain ⟨B', h1, h2⟩ := h.swap.left1 hl
  exact ⟨B', h1.swap, h2⟩
theorem Duo.keep (h : Duo W O1 O2 A B G s1 s2 w) (hb : Below w.heap.size w w') : Duo W O1 O2 A B G s1 s2 w' :=
  ⟨Ob.keep h.i1 hb, Ob.keep h.i2 hb, h.ab, fun g hg => ⟨Nat.lt_of_lt_of_le (h.aG g hg).1 hb.size, (h.aG g hg).2⟩, h.lo, Bgo h.bel hb⟩
theorem Duo.keep2 {G' : Nat → Prop} (h : Duo W O1 O2 A B G s1 s2 w) (hb : Below w.heap.size w w') (hG : ∀ g, G' g → G g ∨ (w.heap.size ≤ g ∧ g < w'.heap.size)) : Duo W O1 O2 A B G' s1 s2 w' := by
  have hk := h.keep hb
  refine ⟨hk.i1, hk.i2, hk.ab, fun g x => ?_, hk.lo, hk.bel⟩
  rcases hG g x with h1 | h1
  · exact hk.aG g h1
  · exact ⟨h1.2, fun y => by have := O1.lt h.i1 g y; omega, fun y => by have := O2.lt h.i2 g y; omega⟩
/-- one of the walk's own rows grows -/
theorem Duo.grown {row : Option Nat} {G' : Nat → Prop} (h : Duo W O1 O2 A B G s1 s2 w) (hg : w.grownBy w' row) (hr : ∀ g, row = some g → G g ∧ W.heap.size ≤ g) (hG : ∀ g, G' g → G g ∨ (w.heap.size ≤ g ∧ g < w'.heap.size)) : Duo W O1 O2 A B G' s1 s2 w' := by
  have ht : Turns (fun i => row = some i) w w' := ⟨hg.os, hg.tape, hg.output, hg.size, fun i hi hn => hg.block i hi (fun e => hn e.symm)⟩
  refine ⟨O1.turns h.i1 ht (fun i hi e => (h.aG i (hr i e).1).2.1 hi), O2.turns h.i2 ht (fun i hi e => (h.aG i (hr i e).1).2.2 hi), h.ab, fun g x => ?_, h.lo, ht.below h.bel (fun i e => (hr i e).2)⟩
  rcases hG g x with h1 | h1
  · exact ⟨Nat.lt_of_lt_of_le (h.aG g h1).1 hg.size, (h.aG g h1).2⟩
  · exact ⟨h1.2, fun y => by have := O1.lt h.i1 g y; omega, fun y => by have := O2.lt h.i2 g y; omega⟩
theorem Duo.less {G' : Nat → Prop} (h : Duo W O1 O2 A B G s1 s2 w) (hg : ∀ g, G' g → G g) : Duo W O1 O2 A B G' s1 s2 w := { h with aG := fun g x => h.aG g (hg g x) }
theorem Duo.at1 (h : Duo W O1 O2 A B G s1 s2 w) : O1.At w A (fun _ => False) s1 w := Ob.At.start h.i1
theorem Duo.at2 (h : Duo W O1 O2 A B G s1 s2 w) : O2.At w B (fun _ => False) s2 w := Ob.At.start h.i2
/-- behind a walk the row is one of the walk's own -/
theorem Duo.walk1 {l : List Nat} {e : Ending} (h : Duo W O1 O2 A B G s1 s2 w) (hw : WalkEnd O1 w A (fun _ => False) l s' w e w') :
    ∃ u A', e = .returned u ∧ w'.ownsRow w.heap.size 3 1 u l.length (ntVs l) ∧ Duo W O1 O2 A' B (GU G u) s' s2 w' ∧ Stay G w w' := by
  obtain ⟨u, he, ho, hA, _⟩ := hw
  obtain ⟨A', k1, k2, k3, k4⟩ := hA
  have hs := h.bel.size
  have k5 : ∀ g, (GU (fun _ => False) u) g → ¬ A' g := fun g x => (k4 g x).2.2
  refine ⟨u, A', he, ho, ⟨k1, O2.turns h.i2 k3 (fun i hi ha => h.ab i ha hi), fun i hi hb => ?_, fun g hg => ?_, fun i hi => ?_, k3.below h.bel (fun i hi => h.lo i (.inl hi))⟩, ⟨k3.size, fun g hg hl => k3.block g hl (h.aG g hg).2.1⟩⟩
  · rcases k2 i hi with h1 | h1
    · exact h.ab i h1 hb
    · have := O2.lt h.i2 i hb; omega
  · rcases hg with hg | hg
    · refine ⟨Nat.lt_of_lt_of_le (h.aG g hg).1 k3.size, fun x => ?_, (h.aG g hg).2.2⟩
      rcases k2 g x with h1 | h1
      · exact (h.aG g hg).2.1 h1
      · have := (h.aG g hg).1; omega
    · have h1 := ho.lt g hg
      exact ⟨h1.2, k5 g (.inr hg), fun x => by have := O2.lt h.i2 g x; omega⟩
  · rcases hi with hi | hi
    · rcases k2 i hi with h1 | h1
      · exact h.lo i (.inl h1)
      · omega
    · exact h.lo i (.inr hi)
theorem Duo.walk2 {l : List Nat} {e : Ending} (h : Duo W O1 O2 A B G s1 s2 w) (hw : WalkEnd O2 w B (fun _ => False) l s' w e w') :
    ∃ u B', e = .returned u ∧ w'.ownsRow w.heap.size 3 1 u l.length (ntVs l) ∧ Duo W O1 O2 A B' (GU G u) s1 s' w' ∧ Stay G w w' := by
  obtain ⟨u, B', h1, h2, h3, h4⟩ := h.swap.walk1 hw
  exact ⟨u, B', h1, h2, h3.swap, h4⟩
theorem RowV.lit (w : World) (cs : Array Value) (t : TypeId) (n : Nat) (h : cs.size = n) (hm : n ≤ maxLen) : RowV (w.alloc (.cells cs t)) (.slice (some ⟨w.heap.size, 0, none⟩) n n) cs.toList := by
  subst h
  refine ⟨by simpa using hm, .inr ⟨w.heap.size, 0, cs.size, by simp, by simp, fun i u hu => ?_⟩⟩
  rw [Nat.zero_add, (Held.new w t cs).cell i]
  simpa using hu
/-- a View that a call made, alone -/
theorem duo_made {b n base : Nat} {wh : Bool} {o : VGeo} {K : Nat → Option Nat} {s : Vst} (hI : IsView w base b n wh o K s) (hb : W.heap.size ≤ base) (hB : Below W.heap.size W w) (hG : ∀ g, G g → g < w.heap.size ∧ ¬ o.A b g) :
    Duo W (vOb base b n wh K) noOb (o.A b) (fun _ => False) G s freshS w :=
  ⟨⟨o, hI, rfl⟩, fun _ x => x, fun _ _ x => x, fun g hg => ⟨(hG g hg).1, (hG g hg).2, fun x => x⟩, fun i hi => by
    rcases hi with hi | hi
    · exact Nat.le_trans hb (hI.ge i hi)
    · exact hi.elim, hB⟩
end
end Go.Proofs.Ythiobfghanlelaa
