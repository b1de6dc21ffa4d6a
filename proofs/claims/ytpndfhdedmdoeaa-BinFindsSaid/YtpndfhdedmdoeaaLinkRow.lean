/-
  A row of pages that a walk appends to, beside an object that it reads.
-/
import Derived.Test.YtpndfhdedmdoeaaLinkMath
import Derived.Test.YtpndfhdedmdoeaaRow
namespace Go.Proofs.Ytpndfhdedmdoeaa
open Go.ChangeShapes Go.WideShapes Go.ChangeAt Go.RowKit Go.Maps
set_option linter.unusedVariables false
set_option linter.unusedSimpArgs false
set_option maxRecDepth 100000

theorem ntVs_snoc (l : List Nat) (q : Nat) : ntVs (l ++ [q]) = ntVs l ++ [.int .i64 (q : Int)] := by unfold ntVs; simp
theorem ntVs_len (l : List Nat) : (ntVs l).length = l.length := by unfold ntVs; simp
theorem own_caps9 {w : World} {base : Nat} {e : TypeId} {size n c : Nat} {A : Option Addr} {xs : List Value} (h : w.ownsRow base e size (.slice A n c) n xs) : n ≤ c ∧ c ≤ 9223372036854775807 := by
  rcases h.2 with ⟨h1, h2⟩ | ⟨g, cap, cur, h1, hb, hg, hnc, hcm, hr⟩
  · injection h1 with _ h1 h3; omega
  · injection h1 with _ _ h3; unfold maxLen at hcm; omega
theorem own_lower {w : World} {base base' : Nat} {e : TypeId} {size n : Nat} {v : Value} {xs : List Value} (h : w.ownsRow base e size v n xs) (hb : base' ≤ base) : w.ownsRow base' e size v n xs := by
  refine ⟨h.1, ?_⟩
  rcases h.2 with h2 | ⟨g, cap, cur, rfl, hbg, hg, hr⟩
  · exact .inl h2
  · exact .inr ⟨g, cap, cur, rfl, Nat.le_trans hb hbg, hg, hr⟩

/-- what a walk hands back: a row of its own with the pages l; the object is in the state s, and not on that row -/
def WalkEnd (O : Ob) (w0 : World) (A G : Nat → Prop) (l : List Nat) (s : Vst) (w : World) (e : Ending) (w' : World) : Prop :=
  ∃ u, e = .returned u ∧ w'.ownsRow w.heap.size 3 1 u l.length (ntVs l) ∧ O.At w0 A (GU G u) s w' ∧ Stay G w w'
theorem WalkEnd.mk' {O : Ob} {w0 w w' : World} {A G : Nat → Prop} {l out : List Nat} {s sx : Vst} {u : Value} {nl N : Nat} (hA : O.At w0 A (GU (And1 G N) u) sx w') {base : Nat} (hO : w'.ownsRow (w.heap.size + base) 3 1 u nl (ntVs out)) (hl : out.length = nl) (hS : Stay G w w')
    (h1 : l = out) (h2 : s = sx) : WalkEnd O w0 A G l s w (.returned u) w' := by
  subst h1 h2 hl
  exact ⟨u, rfl, own_lower hO (by omega), hA.less (fun g x => by
    rcases x with x | x
    · exact .inl (.inl x)
    · exact .inr x), hS⟩

/-- a walk's row, and one more block of its own, beside the object -/
structure RowW (O : Ob) (w0 : World) (A G : Nat → Prop) (ws : World) (N : Nat) (T : TypeId) (cs : Array Value) (base : Nat) (u : Value) (nl : Nat) (xs : List Value) (st : Vst) (w : World) : Prop where
  at_ : O.At w0 A (GU (And1 G N) u) st w
  own : w.ownsRow base 3 1 u nl xs
  held : Held w N T cs
  stay : Stay G ws w
section
variable {O : Ob} {w0 ws w w' : World} {A G : Nat → Prop} {N : Nat} {T : TypeId} {cs : Array Value} {base : Nat} {u : Value} {nl : Nat} {xs : List Value} {st s' : Vst}
theorem RowW.keep (h : RowW O w0 A G ws N T cs base u nl xs st w) (hb : Below w.heap.size w w') : RowW O w0 A G ws N T cs base u nl xs st w' := ⟨h.at_.keep hb, own_below h.own hb, h.held.keep hb, h.stay.trans (Stay.of_below hb G)⟩
theorem RowW.call (h : RowW O w0 A G ws N T cs base u nl xs st w) (h1 : O.At w0 A (GU (And1 G N) u) s' w') (h2 : Stay (GU (And1 G N) u) w w') : RowW O w0 A G ws N T cs base u nl xs s' w' :=
  ⟨h1, h2.own (fun g e => .inr e) h.own, h2.held (.inl (.inr rfl)) h.held, h.stay.trans (h2.less fun g x => .inl (.inl x))⟩
theorem Ob.At.own_lt (h : O.At w0 A G st w) : ∀ g, G g → g < w.heap.size := fun g x => by
  obtain ⟨A', _, _, _, h4⟩ := h
  exact (h4 g x).2.1
/-- the row grows by one, in place or in a new block -/
theorem row_grown {g cap : Nat} {x : Value} {o : Obj} (hA : O.At w0 A (GU (And1 G N) u) st w) (hO : w.ownsRow base 3 1 u nl xs) (hC : Held w N T cs) (hN : u.ownBlock ≠ some N) (hS : Stay G ws w)
    (hown : w'.ownsRow base 3 1 (.slice (some ⟨g, 0, none⟩) (nl + 1) cap) (nl + 1) (xs ++ [x])) (hgr : (w.alloc o).grownBy w' u.ownBlock) (hat : u.ownBlock = some g ∨ g = (w.alloc o).heap.size) (hlt : g < w'.heap.size)
    (hG : ∀ g, G g → g < base) : RowW O w0 A G ws N T cs base (.slice (some ⟨g, 0, none⟩) (nl + 1) cap) (nl + 1) (xs ++ [x]) st w' := by
  refine ⟨(hA.alloc o).grown hgr (fun g e => .inr e) ?_, hown, ?_, (hS.trans (Stay.of_below (Bnew (B0 _) o) G)).trans (Stay.of_grown hgr (fun g e x => by have := hG g x; have := (hO.lt g e).1; omega))⟩
  · rintro i (x | x)
    · exact .inl (.inl x)
    · simp [Value.ownBlock] at x
      subst x
      rcases hat with h | h
      · exact .inl (.inr h)
      · exact .inr ⟨by omega, hlt⟩
  · exact (hgr.block N (by simp; have := hC.lt; omega) (fun e => hN e.symm)).trans (hC.alloc o)
/-- a store into the block beside the row -/
theorem RowW.put (h : RowW O w0 A G ws N T cs base u nl xs st w) (hN : u.ownBlock ≠ some N) (hn : ws.heap.size ≤ N) (i : Nat) (v : Value) : RowW O w0 A G ws N T (cs.setIfInBounds i v) base u nl xs st (w.setCell ⟨N, i, none⟩ v) :=
  ⟨h.at_.put (p := ⟨N, i, none⟩) (.inl (.inr rfl)) v, own_kept h.own (fun g e => Below.heap_setCell w ⟨N, i, none⟩ v g (fun e2 => by have e2 : g = N := e2; subst e2; exact hN e)), h.held.put i v,
    ⟨by simp; exact h.stay.1, fun g hg hl => (Below.heap_setCell w ⟨N, i, none⟩ v g (fun e2 => by have e2 : g = N := e2; omega)).trans (h.stay.2 g hg hl)⟩⟩
theorem WK.put (h : WK O w0 A G ws N T cs st w) (hn : ws.heap.size ≤ N) (i : Nat) (v : Value) : WK O w0 A G ws N T (cs.setIfInBounds i v) st (w.setCell ⟨N, i, none⟩ v) :=
  ⟨h.at_.put (p := ⟨N, i, none⟩) (.inr rfl) v, h.held.put i v, ⟨by simp; exact h.stay.1, fun g hg hl => (Below.heap_setCell w ⟨N, i, none⟩ v g (fun e2 => by have e2 : g = N := e2; omega)).trans (h.stay.2 g hg hl)⟩⟩
/-- a block is made; the one before stays one of the walk's own -/
theorem WK.next {T' : TypeId} {cs' : Array Value} (h : WK O w0 A G ws N T cs st w) (h0 : Held ws N T cs) : WK O w0 A (And1 G N) ws w.heap.size T' cs' st (w.alloc (.cells cs' T')) :=
  ⟨h.at_.box _, Held.new _ _ _, (Stay.trans ⟨h.stay.1, fun g hg hl => by
    rcases hg with x | rfl
    · exact h.stay.2 g x hl
    · exact h.held.trans h0.symm⟩ (Stay.of_below (Bnew (B0 w) _) _))⟩
theorem WK.less {N' : Nat} (h : WK O w0 A (And1 G N') ws N T cs st w) : WK O w0 A G ws N T cs st w :=
  ⟨h.at_.less (fun g x => by
    rcases x with x | x
    · exact .inl (.inl x)
    · exact .inr x), h.held, h.stay.less (fun g x => .inl x)⟩
/-- a page is copied into a block of its own: the row stays -/
theorem RowW.next {T' : TypeId} {cs' : Array Value} (h : RowW O w0 A G ws N T cs base u nl xs st w) : RowW O w0 A G ws w.heap.size T' cs' base u nl xs st (w.alloc (.cells cs' T')) :=
  ⟨h.at_.keep2 (Bnew (B0 w) _) (fun g x => by
    rcases x with (x | x) | x
    · exact .inl (.inl (.inl x))
    · right; subst x; simp
    · exact .inl (.inr x)), own_below h.own (Bnew (B0 w) _), Held.new _ _ _, h.stay.trans (Stay.of_below (Bnew (B0 w) _) G)⟩
theorem heldOwn_ne {t e : TypeId} {size : Nat} {v : Value} {g : Nat} (h : Held w g t cs) (ho : w.ownsRow base e size v nl xs) (hne : t ≠ e) : v.ownBlock ≠ some g := by
  intro hv
  rcases ho.2 with ⟨rfl, _⟩ | ⟨g', cap, cur, rfl, hb, hg, _⟩
  · simp [Value.ownBlock] at hv
  · have : g' = g := by simpa [Value.ownBlock] using hv
    subst this
    unfold Held at h
    rw [h] at hg
    injection hg with hg
    injection hg with _ h2
    exact hne h2
theorem gu_less {N' g : Nat} (x : GU (And1 G N') u g) : GU (And1 (And1 G N') N) u g := by
  rcases x with x | x
  · exact .inl (.inl x)
  · exact .inr x
end
end Go.Proofs.Ytpndfhdedmdoeaa
