/-
  Blocks of a walk's own, any number of them, beside an object.
-/
import Derived.Test.YtpndfhdedmdoeaaLinkMath
namespace Go.Proofs.Ytpndfhdedmdoeaa
open Go.ChangeShapes Go.WideShapes Go.ChangeAt Go.RowKit Go.Maps
set_option linter.unusedVariables false
set_option linter.unusedSimpArgs false
set_option maxRecDepth 100000

/-- a block: its number, its type, its cells -/
structure Blk where
  n : Nat
  t : TypeId
  cs : Array Value
/-- .. beside the blocks of G -/
def GB (G : Nat → Prop) (L : List Blk) : Nat → Prop := fun g => G g ∨ ∃ x, x ∈ L ∧ x.n = g

/-- a walk that began at ws, where the object was on A in w0, has made the blocks of L -/
structure WL (O : Ob) (w0 : World) (A G : Nat → Prop) (ws : World) (L : List Blk) (st : Vst) (w : World) : Prop where
  at_ : O.At w0 A (GB G L) st w
  held : ∀ x ∈ L, Held w x.n x.t x.cs
  stay : Stay G ws w
  lo : ∀ x ∈ L, ws.heap.size ≤ x.n
  nd : (L.map (·.n)).Nodup

section
variable {O : Ob} {w0 ws w w' : World} {A G : Nat → Prop} {L : List Blk} {x y z : Blk} {st s' : Vst}
theorem WL.start (h : O.At w0 A G st ws) : WL O w0 A G ws [] st ws :=
  ⟨h.less (fun g hg => by
    rcases hg with hg | ⟨x, hx, _⟩
    · exact hg
    · exact absurd hx (List.not_mem_nil)), fun x hx => absurd hx (List.not_mem_nil), Stay.of_below (B0 _) G, fun x hx => absurd hx (List.not_mem_nil), List.nodup_nil⟩
theorem WL.keep (h : WL O w0 A G ws L st w) (hb : Below w.heap.size w w') : WL O w0 A G ws L st w' :=
  ⟨h.at_.keep hb, fun x hx => (h.held x hx).keep hb, h.stay.trans (Stay.of_below hb G), h.lo, h.nd⟩
theorem WL.drew (h : WL O w0 A G ws L st w) : WL O w0 A G ws L st w.drew := h.keep (Bdrew (B0 w))
theorem WL.drewN (h : WL O w0 A G ws L st w) (k : Nat) : WL O w0 A G ws L st (w.drewN k) := h.keep (Bdraw (B0 w) k)
theorem WL.alloc (h : WL O w0 A G ws L st w) (o : Obj) : WL O w0 A G ws L st (w.alloc o) := h.keep (Bnew (B0 w) o)
theorem WL.call (h : WL O w0 A G ws L st w) (h1 : O.At w0 A (GB G L) s' w') (h2 : Stay (GB G L) w w') : WL O w0 A G ws L s' w' :=
  ⟨h1, fun x hx => h2.held (.inr ⟨x, hx, rfl⟩) (h.held x hx), h.stay.trans (h2.less fun g x => .inl x), h.lo, h.nd⟩
theorem WL.fin (h : WL O w0 A G ws L st w) : O.At w0 A G st w ∧ Stay G ws w := ⟨h.at_.less fun g x => .inl x, h.stay⟩
/-- a block is made -/
theorem WL.new (h : WL O w0 A G ws L st w) (t : TypeId) (cs : Array Value) : WL O w0 A G ws (⟨w.heap.size, t, cs⟩ :: L) st (w.alloc (.cells cs t)) := by
  have hk := h.alloc (.cells cs t)
  refine ⟨(h.at_.box (.cells cs t)).less (fun g hg => ?_), fun x hx => ?_, hk.stay, fun x hx => ?_, ?_⟩
  · rcases hg with hg | ⟨x, hx, rfl⟩
    · exact .inl (.inl hg)
    · rcases List.mem_cons.1 hx with rfl | hx
      · exact .inr rfl
      · exact .inl (.inr ⟨x, hx, rfl⟩)
  · rcases List.mem_cons.1 hx with rfl | hx
    · exact Held.new w t cs
    · exact hk.held x hx
  · rcases List.mem_cons.1 hx with rfl | hx
    · exact h.stay.1
    · exact h.lo x hx
  · rw [List.map_cons]
    refine List.nodup_cons.2 ⟨fun hm => ?_, h.nd⟩
    obtain ⟨x, hx, e⟩ := List.mem_map.1 hm
    have h1 := (h.held x hx).lt
    have e : x.n = w.heap.size := e
    omega
/-- a block is forgotten -/
theorem WL.drop (h : WL O w0 A G ws (x :: L) st w) : WL O w0 A G ws L st w :=
  ⟨h.at_.less (fun g hg => by
    rcases hg with hg | ⟨y, hy, rfl⟩
    · exact .inl hg
    · exact .inr ⟨y, List.mem_cons_of_mem _ hy, rfl⟩), fun y hy => h.held y (List.mem_cons_of_mem _ hy), h.stay, fun y hy => h.lo y (List.mem_cons_of_mem _ hy), (List.nodup_cons.1 h.nd).2⟩
/-- the first one is written to -/
theorem WL.put (h : WL O w0 A G ws (x :: L) st w) (i : Nat) (v : Value) : WL O w0 A G ws (⟨x.n, x.t, x.cs.setIfInBounds i v⟩ :: L) st (w.setCell ⟨x.n, i, none⟩ v) := by
  have hnd := List.nodup_cons.1 h.nd
  have hlo := h.lo x (List.mem_cons_self ..)
  refine ⟨(h.at_.put (p := ⟨x.n, i, none⟩) (.inr ⟨x, List.mem_cons_self .., rfl⟩) v).less (fun g hg => ?_), fun y hy => ?_, ⟨by simp; exact h.stay.1, fun g hg hl => (Below.heap_setCell w ⟨x.n, i, none⟩ v g (fun e => by have e : g = x.n := e; omega)).trans (h.stay.2 g hg hl)⟩, fun y hy => ?_, h.nd⟩
  · rcases hg with hg | ⟨y, hy, rfl⟩
    · exact .inl hg
    · rcases List.mem_cons.1 hy with rfl | hy
      · exact .inr ⟨x, List.mem_cons_self .., rfl⟩
      · exact .inr ⟨y, List.mem_cons_of_mem _ hy, rfl⟩
  · rcases List.mem_cons.1 hy with rfl | hy
    · exact (h.held x (List.mem_cons_self ..)).put i v
    · refine (h.held y (List.mem_cons_of_mem _ hy)).far (p := ⟨x.n, i, none⟩) (fun e => hnd.1 ?_) v
      have e : y.n = x.n := e
      exact List.mem_map.2 ⟨y, hy, e⟩
  · rcases List.mem_cons.1 hy with rfl | hy
    · exact hlo
    · exact h.lo y (List.mem_cons_of_mem _ hy)
/-- the second one comes first -/
theorem WL.swap (h : WL O w0 A G ws (x :: y :: L) st w) : WL O w0 A G ws (y :: x :: L) st w := by
  refine ⟨h.at_.less (fun g hg => ?_), fun z hz => h.held z (by simp at hz ⊢; rcases hz with e | e | e <;> simp [e]), h.stay, fun z hz => h.lo z (by simp at hz ⊢; rcases hz with e | e | e <;> simp [e]), ?_⟩
  · rcases hg with hg | ⟨z, hz, e⟩
    · exact .inl hg
    · exact .inr ⟨z, by simp at hz ⊢; rcases hz with e | e | e <;> simp [e], e⟩
  · have := h.nd
    simp only [List.map_cons, List.nodup_cons, List.mem_cons, not_or] at this ⊢
    exact ⟨⟨fun e => this.1.1 e.symm, this.2.1⟩, this.1.2, this.2.2⟩
theorem WL.h0 (h : WL O w0 A G ws (x :: L) st w) : Held w x.n x.t x.cs := h.held x (List.mem_cons_self ..)
theorem WL.h1 (h : WL O w0 A G ws (x :: y :: L) st w) : Held w y.n y.t y.cs := h.held y (List.mem_cons_of_mem _ (List.mem_cons_self ..))
theorem WL.h2 (h : WL O w0 A G ws (x :: y :: z :: L) st w) : Held w z.n z.t z.cs := h.held z (List.mem_cons_of_mem _ (List.mem_cons_of_mem _ (List.mem_cons_self ..)))
theorem vWL_lt {base b n : Nat} {wh : Bool} {K : Nat → Option Nat} (h : WL (vOb base b n wh K) w0 A G ws L st w) (a : Int) : getV n K st a < 2 ^ 32 := vAt_lt h.at_ a
theorem rWL_lt {base b n : Nat} {all : Bool} {K : Nat → Option Nat} (h : WL (rOb base b n all K) w0 A G ws L st w) (a : Int) : getV n K st a < 2 ^ 32 := rAt_lt h.at_ a
end
end Go.Proofs.Ytpndfhdedmdoeaa
