/-
  The document's answer for Views: has, Get.
-/
import Derived.Test.YtpndfhdedmdoeaaGreatG03
import Derived.Test.YtpndfhdedmdoeaaGreatG01
import Derived.Test.YtpndfhdedmdoeaaGreatG02
import Derived.Deep.RegionHeld3
import Derived.Below
namespace Go.Proofs.YtpndfhdedmdoeaaGreat
open Go.ChangeShapes Go.WideShapes Go.ChangeAt Go.RowKit Go.Maps
set_option linter.unusedVariables false
set_option maxRecDepth 100000
set_option linter.unusedSimpArgs false

theorem missI_no {s : Vst} (h : s.lost = false) : missI s = -1 := by unfold missI; rw [h]; rfl

theorem rN_rd (n : Nat) (s : Vst) (i : Nat) : ∀ j, j < 6 → updF (rN n s) 4 (s.rd.length + 1) j = rN n { s with rd := s.rd ++ [i] } j := six rfl rfl rfl rfl (by simp [updF, rN]) rfl
theorem rX_rd (n : Nat) (K : Nat → Option Nat) (s : Vst) (i : Nat) : ∀ j, j < 6 → updF (rX n K s) 4 (ntVs s.rd ++ [.int .i64 (i : Int)]) j = rX n K { s with rd := s.rd ++ [i] } j := six rfl rfl rfl rfl (by simp [updF, rX, ntVs]) rfl
theorem OwnAll.rowAt {w : World} {base b k : Nat} {e : Nat → TypeId} {sz : Nat → Nat} {v : Nat → Value} {n : Nat → Nat} {xs : Nat → List Value} (h : OwnAll w base b k e sz v n xs) {i : Nat} (hi : i < k) {T : TypeId} {z m : Nat} {ys : List Value} (h1 : e i = T) (h2 : sz i = z) (h3 : n i = m) (h4 : xs i = ys) : w.ownsRow base T z (v i) m ys := by
  subst h1 h2 h3 h4
  exact h.own i hi

end Go.Proofs.YtpndfhdedmdoeaaGreat

/-
  The comparisons Vals (nacreref01) and Pairs (nacreref11) of two lists that are the same. Written by view/gen_same.py.
-/
namespace Go.Proofs.YtpndfhdedmdoeaaGreat
open Go.ChangeShapes Go.WideShapes Go.ChangeAt Go.RowKit
set_option linter.unusedVariables false
set_option maxRecDepth 100000
set_option linter.unusedSimpArgs false

theorem valVs_len (l : List Nat) : (valVs l).length = l.length := by unfold valVs; simp
theorem valVs_at (l : List Nat) (k : Nat) (h : k < l.length) : (valVs l)[k]? = some (.int .u32 ((l.getD k 0 : Nat) : Int)) := by
  unfold valVs
  simp [List.getD, List.getElem?_eq_getElem h]
/-- a slice value whose elements are these pairs -/
def RowP (w : World) (v : Value) (l : List (Nat × Nat)) : Prop :=
  l.length ≤ maxLen ∧ ((v = .slice none 0 0 ∧ l = []) ∨ ∃ g c, v = .slice (some ⟨g, 0, none⟩) l.length c ∧ g < w.heap.size ∧ ∀ i u, (prVs l)[i]? = some u → w.cell? ⟨g, i, none⟩ = some u)
theorem RowP.below {w w' : World} {v : Value} {l : List (Nat × Nat)} (h : RowP w v l) (hb : Below w.heap.size w w') : RowP w' v l := by
  refine ⟨h.1, ?_⟩
  rcases h.2 with h | ⟨g, c, hv, hg, hc⟩
  · exact .inl h
  · exact .inr ⟨g, c, hv, Nat.lt_of_lt_of_le hg hb.size, fun i u hu => (hb.cell (p := ⟨g, i, none⟩) hg).trans (hc i u hu)⟩
theorem RowP.of_own {w : World} {base : Nat} {e : TypeId} {v : Value} {l : List (Nat × Nat)} (h : w.ownsRow base e 2 v l.length (prVs l)) : RowP w v l := by
  rcases h.2 with ⟨rfl, hn⟩ | ⟨g, cap, cur, rfl, hb, hg, hnc, hcm, hcs, htake⟩
  · exact ⟨by omega, .inl ⟨rfl, List.eq_nil_of_length_eq_zero hn⟩⟩
  · have hl := h.lt g rfl
    refine ⟨by omega, .inr ⟨g, cap, rfl, hl.2, fun i u hu => ?_⟩⟩
    have hi : i < (prVs l).length := by
      rcases Nat.lt_or_ge i (prVs l).length with h3 | h3
      · exact h3
      · rw [List.getElem?_eq_none h3] at hu; cases hu
    rw [prVs_len] at hi
    rw [h.cellAt i hi, hu]

end Go.Proofs.YtpndfhdedmdoeaaGreat

/-
  The document's answer for Views: Put, Writes, Vals, Same. Written by view/gen_ref5.py.
-/
namespace Go.Proofs.YtpndfhdedmdoeaaGreat
open Go.ChangeShapes Go.WideShapes Go.ChangeAt Go.RowKit Go.Maps
set_option linter.unusedVariables false
set_option maxRecDepth 100000
set_option linter.unusedSimpArgs false

theorem atW_set {l : List (Nat × Nat)} {k i v : Nat} (h : k < l.length) : atW (l.set k (i, v)) k = v := by unfold atW; simp [List.getD, h]
theorem atW_set_ne {l : List (Nat × Nat)} {k m : Nat} {p : Nat × Nat} (h : m ≠ k) : atW (l.set k p) m = atW l m := by unfold atW; simp [List.getD, List.getElem?_set_ne (Ne.symm h)]
theorem toV_putW (l : List (Nat × Nat)) (i v j : Nat) : toV (putW l i v) j = updF (toV l) i v j := by
  unfold toV updF
  rw [pos_putW]
  cases hp : pos l i with
  | some k =>
    rw [putW_some hp]
    simp only
    have hkl := (pos_some hp).1
    by_cases e : j = i
    · subst e
      rw [if_pos rfl, hp]
      exact atW_set hkl
    · rw [if_neg e]
      cases hj : pos l j with
      | none => rfl
      | some m =>
        have hne : m ≠ k := by
          rintro rfl
          exact e ((pos_some hj).2.symm.trans (pos_some hp).2)
        exact atW_set_ne hne
  | none =>
    rw [putW_none hp]
    simp only
    by_cases e : j = i
    · subst e
      rw [if_pos rfl, if_pos rfl]
      simp [atW, List.getD]
    · rw [if_neg e, if_neg e]
      cases hj : pos l j with
      | none => rfl
      | some m =>
        have := (pos_some hj).1
        simp [atW, List.getD, List.getElem?_append_left this]
theorem isPut_putW (l : List (Nat × Nat)) (i v j : Nat) : (pos (putW l i v) j).isSome = updF (fun j => (pos l j).isSome) i true j := by
  rw [pos_putW]
  unfold updF
  cases hp : pos l i with
  | some k =>
    simp only
    by_cases e : j = i
    · subst e; simp [hp]
    · simp [e]
  | none =>
    simp only
    by_cases e : j = i <;> simp [e]
theorem rX_put2 (n : Nat) (K : Nat → Option Nat) (s : Vst) (i v : Nat) : (rX n K s 2).set i (.bool true) = rX n K { s with wr := putW s.wr i v } 2 := by
  show (rowL n (bitF fun j => (pos s.wr j).isSome)).set i (.bool true) = rowL n (bitF fun j => (pos (putW s.wr i v) j).isSome)
  rw [rowL_set]
  refine rowL_congr (fun j _ => ?_)
  show updF (fun i => Value.bool (pos s.wr i).isSome) i (.bool true) j = Value.bool (pos (putW s.wr i v) j).isSome
  rw [isPut_putW]
  unfold updF
  by_cases e : j = i <;> simp [e]
theorem rX_put3 (n : Nat) (K : Nat → Option Nat) (s : Vst) (i v : Nat) : (rX n K s 3).set i (.int .u32 (v : Int)) = rX n K { s with wr := putW s.wr i v } 3 := by
  show (rowL n (valF (toV s.wr))).set i (.int .u32 (v : Int)) = rowL n (valF (toV (putW s.wr i v)))
  rw [rowL_set]
  refine rowL_congr (fun j _ => ?_)
  show updF (fun i => Value.int .u32 ((toV s.wr i : Nat) : Int)) i (.int .u32 (v : Int)) j = Value.int .u32 ((toV (putW s.wr i v) j : Nat) : Int)
  rw [toV_putW]
  unfold updF
  by_cases e : j = i <;> simp [e]
theorem put_cells {l : List (Nat × Nat)} {i v k : Nat} (h : pos l i = some k) : (putW l i v).map (·.1) = l.map (·.1) ∧ (putW l i v).length = l.length := by
  rw [putW_some h]
  refine ⟨?_, by simp⟩
  rw [List.map_set]
  have hk := pos_some h
  apply List.ext_getElem?
  intro j
  rw [List.getElem?_set]
  split
  · rename_i e
    subst e
    have h2 := hk.2
    unfold cellW at h2
    rw [if_pos (by simpa using hk.1), List.getElem?_map, List.getElem?_eq_getElem hk.1]
    rw [List.getD, List.getElem?_eq_getElem hk.1] at h2
    exact congrArg some h2.symm
  · rfl

end Go.Proofs.YtpndfhdedmdoeaaGreat

/-
  An object whose blocks a call may turn, beside the walk's own blocks: a View of the program (vOb), one of the document (rOb).
-/
namespace Go.Proofs.YtpndfhdedmdoeaaGreat
open Go.ChangeShapes Go.WideShapes Go.ChangeAt Go.RowKit Go.Maps
set_option linter.unusedVariables false
set_option maxRecDepth 100000

/-- a kind of an object: when it lies in a world, in a state, on the blocks A -/
structure Ob where
  I : World → Vst → (Nat → Prop) → Prop
  lt : ∀ {w : World} {s : Vst} {A : Nat → Prop}, I w s A → ∀ i, A i → i < w.heap.size
  turns : ∀ {w w' : World} {s : Vst} {A G : Nat → Prop}, I w s A → Turns G w w' → (∀ i, A i → ¬ G i) → I w' s A

def vOb (base b n : Nat) (wh : Bool) (K : Nat → Option Nat) : Ob where
  I w s A := ∃ o, IsView w base b n wh o K s ∧ A = o.A b
  lt := by
    rintro w s A ⟨o, h, rfl⟩
    exact h.lt
  turns := by
    rintro w w' s A G ⟨o, h, rfl⟩ ht hf
    exact ⟨o, h.turns ht hf, rfl⟩
/-- what a call leaves that found the object on A: it is in the state s, on A and new blocks; no other block has turned -/
def Ob.Left (O : Ob) (w : World) (A : Nat → Prop) (s : Vst) (w' : World) : Prop := ∃ A', O.I w' s A' ∧ (∀ g, A' g → A g ∨ w.heap.size ≤ g) ∧ Turns A w w'
/-- in a walk that began at w0, where the object was on A: it is in the state s; G: blocks of the walk's own -/
def Ob.At (O : Ob) (w0 : World) (A G : Nat → Prop) (s : Vst) (w : World) : Prop :=
  ∃ A', O.I w s A' ∧ (∀ g, A' g → A g ∨ w0.heap.size ≤ g) ∧ Turns A w0 w ∧ ∀ g, G g → w0.heap.size ≤ g ∧ g < w.heap.size ∧ ¬ A' g
/-- the blocks of G are as they were -/
def Stay (G : Nat → Prop) (w w' : World) : Prop := w.heap.size ≤ w'.heap.size ∧ ∀ g, G g → g < w.heap.size → w'.heap[g]? = w.heap[g]?
/-- .. and block N is one of the walk's own, too -/
def And1 (G : Nat → Prop) (N : Nat) : Nat → Prop := fun g => G g ∨ g = N
/-- .. and those of a list -/
def GL (G : Nat → Prop) (L : List Nat) : Nat → Prop := fun g => G g ∨ g ∈ L
/-- .. and those that a slice value has -/
def GU (G : Nat → Prop) (u : Value) : Nat → Prop := fun g => G g ∨ u.ownBlock = some g

section
variable {O : Ob} {w w' w0 : World} {A G : Nat → Prop} {s s' : Vst} {N : Nat}
theorem Ob.keep {A : Nat → Prop} (h : O.I w s A) (hb : Below w.heap.size w w') : O.I w' s A := O.turns h (Turns.of_below hb (fun _ => False)) (fun _ _ x => x)
theorem Ob.Left.same (h : O.I w s A) : O.Left w A s w := ⟨A, h, fun g hg => .inl hg, T0 _ _⟩
theorem Ob.Left.size (h : O.Left w A s w') : w.heap.size ≤ w'.heap.size := by obtain ⟨A', _, _, h⟩ := h; exact h.size
theorem Ob.At.start (h : O.I w s A) : O.At w A (fun _ => False) s w := ⟨A, h, fun g hg => .inl hg, T0 _ _, fun g hg => hg.elim⟩
theorem Ob.At.left (h : O.At w0 A G s w) : O.Left w0 A s w := by
  obtain ⟨A', h1, h2, h3, _⟩ := h
  exact ⟨A', h1, h2, h3⟩
theorem Ob.At.size (h : O.At w0 A G s w) : w0.heap.size ≤ w.heap.size := h.left.size
theorem Ob.At.keep (h : O.At w0 A G s w) (hb : Below w.heap.size w w') : O.At w0 A G s w' := by
  obtain ⟨A', h1, h2, h3, h4⟩ := h
  exact ⟨A', Ob.keep h1 hb, h2, h3.trans (Turns.of_below hb A), fun g hg => ⟨(h4 g hg).1, Nat.lt_of_lt_of_le (h4 g hg).2.1 hb.size, (h4 g hg).2.2⟩⟩
theorem Ob.At.alloc (h : O.At w0 A G s w) (o : Obj) : O.At w0 A G s (w.alloc o) := h.keep (Bnew (B0 w) o)
theorem Ob.At.drew (h : O.At w0 A G s w) : O.At w0 A G s w.drew := h.keep (Bdrew (B0 w))
theorem Ob.At.drewN (h : O.At w0 A G s w) (k : Nat) : O.At w0 A G s (w.drewN k) := h.keep (Bdraw (B0 w) k)
/-- a block is made, and the walk has it for its own -/
theorem Ob.At.box (h : O.At w0 A G s w) (o : Obj) : O.At w0 A (And1 G w.heap.size) s (w.alloc o) := by
  obtain ⟨A', h1, h2, h3, h4⟩ := h
  have hs := h3.size
  refine ⟨A', Ob.keep h1 (Bnew (B0 w) o), h2, h3.alloc o, ?_⟩
  rintro g (hg | rfl)
  · exact ⟨(h4 g hg).1, Nat.lt_of_lt_of_le (h4 g hg).2.1 (Bnew (B0 w) o).size, (h4 g hg).2.2⟩
  · exact ⟨hs, by simp, fun x => by have := O.lt h1 _ x; omega⟩
/-- one of the walk's own blocks is written to -/
theorem Ob.At.put (h : O.At w0 A G s w) {p : Addr} (hp : G p.block) (u : Value) : O.At w0 A G s (w.setCell p u) := by
  obtain ⟨A', h1, h2, h3, h4⟩ := h
  have hq := h4 _ hp
  refine ⟨A', O.turns h1 ((T0 (fun i => i = p.block) w).put (p := p) rfl u) (fun i hi e => hq.2.2 (by rw [← e]; exact hi)), h2, h3.put_new hq.1 u, fun g hg => ⟨(h4 g hg).1, by simp; exact (h4 g hg).2.1, (h4 g hg).2.2⟩⟩
theorem Ob.At.less {G' : Nat → Prop} (h : O.At w0 A G s w) (hg : ∀ g, G' g → G g) : O.At w0 A G' s w := by
  obtain ⟨A', h1, h2, h3, h4⟩ := h
  exact ⟨A', h1, h2, h3, fun g x => h4 g (hg g x)⟩
/-- a call on the object -/
theorem Ob.At.call (h : O.At w0 A G s w) {P : Program} {f : FuncId} {args : Array Value} {R : Ending → Prop} (hc : ∀ B, O.I w s B → Calls P f args w fun e w' => R e ∧ O.Left w B s' w') :
    Calls P f args w fun e w' => R e ∧ O.At w0 A G s' w' ∧ Stay G w w' := by
  obtain ⟨A', h1, h2, h3, h4⟩ := h
  refine (hc A' h1).mono ?_
  rintro e w' ⟨hr, B, k1, k2, k3⟩
  have hs := h3.size
  refine ⟨hr, ⟨B, k1, fun g hg => ?_, k3.more_new hs h3 h2, fun g hg => ?_⟩, k3.size, fun g hg hl => k3.block g hl (h4 g hg).2.2⟩
  · rcases k2 g hg with h5 | h5
    · exact h2 g h5
    · exact .inr (by omega)
  · refine ⟨(h4 g hg).1, Nat.lt_of_lt_of_le (h4 g hg).2.1 k3.size, fun x => ?_⟩
    rcases k2 g x with h5 | h5
    · exact (h4 g hg).2.2 h5
    · have := (h4 g hg).2.1; omega
theorem Stay.of_below (hb : Below w.heap.size w w') (G : Nat → Prop) : Stay G w w' := ⟨hb.size, fun g _ hl => hb.block g hl⟩
theorem Stay.trans {w'' : World} (h : Stay G w w') (k : Stay G w' w'') : Stay G w w'' := ⟨Nat.le_trans h.1 k.1, fun g hg hl => (k.2 g hg (Nat.lt_of_lt_of_le hl h.1)).trans (h.2 g hg hl)⟩
theorem Stay.less {G' : Nat → Prop} (h : Stay G w w') (hg : ∀ g, G' g → G g) : Stay G' w w' := ⟨h.1, fun g x hl => h.2 g (hg g x) hl⟩
theorem Stay.held {g : Nat} {t : TypeId} {cs : Array Value} (h : Stay G w w') (hg : G g) (hh : Held w g t cs) : Held w' g t cs := (h.2 g hg hh.lt).trans hh
theorem Stay.own {base n size : Nat} {e : TypeId} {v : Value} {xs : List Value} (h : Stay G w w') (hg : ∀ g, v.ownBlock = some g → G g) (ho : w.ownsRow base e size v n xs) : w'.ownsRow base e size v n xs :=
  own_kept ho (fun g e => h.2 g (hg g e) (ho.lt g e).2)
theorem Stay.of_grown {row : Option Nat} (hg : w.grownBy w' row) (hr : ∀ g, row = some g → ¬ G g) : Stay G w w' := ⟨hg.size, fun g hx hl => hg.block g hl (fun e => hr g e.symm hx)⟩
/-- one of the walk's own rows grows, or a block is made: the walk has it for its own, too -/
theorem Ob.At.grown {row : Option Nat} {G' : Nat → Prop} (h : O.At w0 A G s w) (hg : w.grownBy w' row) (hr : ∀ g, row = some g → G g) (hG : ∀ g, G' g → G g ∨ (w.heap.size ≤ g ∧ g < w'.heap.size)) : O.At w0 A G' s w' := by
  obtain ⟨A', h1, h2, h3, h4⟩ := h
  have hs := h3.size
  refine ⟨A', O.turns h1 (G := fun i => row = some i) ⟨hg.os, hg.tape, hg.output, hg.size, fun i hi hn => hg.block i hi (fun e => hn e.symm)⟩ (fun i hi e => (h4 i (hr i e)).2.2 hi), h2,
    ⟨hg.os.trans h3.os, hg.tape.trans h3.tape, hg.output.trans h3.output, Nat.le_trans hs hg.size, fun i hi hf => (hg.block i (by omega) (fun e => by have := (h4 i (hr i e.symm)).1; omega)).trans (h3.block i hi hf)⟩, fun g x => ?_⟩
  rcases hG g x with h5 | h5
  · exact ⟨(h4 g h5).1, Nat.lt_of_lt_of_le (h4 g h5).2.1 hg.size, (h4 g h5).2.2⟩
  · exact ⟨by omega, h5.2, fun y => by have := O.lt h1 _ y; omega⟩
/-- .. blocks that a call made -/
theorem Ob.At.keep2 {G' : Nat → Prop} (h : O.At w0 A G s w) (hb : Below w.heap.size w w') (hG : ∀ g, G' g → G g ∨ (w.heap.size ≤ g ∧ g < w'.heap.size)) : O.At w0 A G' s w' :=
  h.grown (row := none) ⟨hb.os, hb.tape, hb.output, hb.size, fun i hi _ => hb.block i hi⟩ (fun g e => by cases e) hG
theorem Ob.Left.more {W : World} (h : O.Left w A s w') (hs : W.heap.size ≤ w.heap.size) (hb : Below W.heap.size W w) : O.Left W A s w' := by
  obtain ⟨B, h1, h2, h3⟩ := h
  refine ⟨B, h1, fun g hg => ?_, ((Turns.of_below hb A).trans h3)⟩
  rcases h2 g hg with h4 | h4
  · exact .inl h4
  · exact .inr (by omega)
end

/-! what a View has read, and written: no more cells than there are -/
theorem nodup_few : ∀ (n : Nat) (l : List Nat), (∀ i ∈ l, i < n) → l.Nodup → l.length ≤ n
  | 0, l, h, _ => by
    cases l with
    | nil => simp
    | cons a r => have := h a (List.mem_cons_self ..); omega
  | n + 1, l, h, hd => by
    by_cases hn : n ∈ l
    · have h1 := nodup_few n (l.erase n) (fun i hi => by
        have h2 := (hd.mem_erase_iff).1 hi
        have h3 := h i h2.2
        have h4 := h2.1
        omega) (hd.erase n)
      rw [List.length_erase_of_mem hn] at h1
      omega
    · have h1 := nodup_few n l (fun i hi => by
        have h3 := h i hi
        have h4 : i ≠ n := fun e => hn (e ▸ hi)
        omega) hd
      omega
theorem VOk.few {n : Nat} {s : Vst} (h : VOk n s) : s.rd.length ≤ n ∧ s.wr.length ≤ n := by
  refine ⟨nodup_few _ _ h.rdLt h.rdNd, ?_⟩
  have : (s.wr.map (·.1)).length ≤ n := by
    refine nodup_few _ _ (fun i hi => ?_) ?_
    · obtain ⟨p, hp, rfl⟩ := List.mem_map.1 hi
      exact (h.wrLt p hp).1
    · unfold List.Nodup
      rw [List.pairwise_iff_getElem]
      intro i j hi hj hij e
      have hj' : j < s.wr.length := by simpa using hj
      have h1 := h.wrNd i (by omega)
      have h2 := h.wrNd j hj'
      have e1 : cellW s.wr i = cellW s.wr j := by
        unfold cellW
        simp [List.getD, List.getElem?_eq_getElem (show i < s.wr.length by omega), List.getElem?_eq_getElem hj'] at e ⊢
        exact e
      rw [e1, h2] at h1
      injection h1 with h1
      omega
  simpa using this

section
variable {base b n : Nat} {wh all : Bool} {K : Nat → Option Nat} {s : Vst} {w w0 : World} {A G : Nat → Prop}
theorem vGetA (hn : n < 2 ^ 40) (a : Int) (h : (vOb base b n wh K).At w0 A G s w) :
    Calls Tryz.prog 46 #[.pointer (some ⟨b, 0, none⟩), .int .i64 a] w fun e w' => e = .returned (.int .u32 ((getV n K s a : Nat) : Int)) ∧ (vOb base b n wh K).At w0 A G (getS n K s a) w' ∧ Stay G w w' := by
  refine h.call ?_
  rintro B ⟨o, hI, rfl⟩
  refine (VGet_c a (by have := hI.ok.few; omega) (by have := hI.ok.few; omega) w hI).mono ?_
  rintro e w' ⟨rfl, o', h1, h2, h3⟩
  exact ⟨rfl, _, ⟨o', h1, rfl⟩, h2, h3.more (fun i hi => .inl hi)⟩
theorem vPutA (hn : n < 2 ^ 40) (a : Int) (v : Nat) (hv : v < 2 ^ 32) (h : (vOb base b n wh K).At w0 A G s w) :
    Calls Tryz.prog 29 #[.pointer (some ⟨b, 0, none⟩), .int .i64 a, .int .u32 (v : Int)] w fun e w' => e = .returned (.tuple #[]) ∧ (vOb base b n wh K).At w0 A G (putS n s a v) w' ∧ Stay G w w' := by
  refine h.call ?_
  rintro B ⟨o, hI, rfl⟩
  refine (VPut_c a v hv (by have := hI.ok.few; omega) w hI).mono ?_
  rintro e w' ⟨rfl, o', h1, h2, h3⟩
  exact ⟨rfl, _, ⟨o', h1, rfl⟩, h2, h3.more (fun i hi => .inl hi)⟩
end
end Go.Proofs.YtpndfhdedmdoeaaGreat

/-
  Plain facts on the bits of natural numbers, for the walks of package half: fields of words, how many bits are 1, the lowest one, the logarithm. No program is named here.
-/
namespace Go.Proofs.YtpndfhdedmdoeaaGreat.HM

theorem quarter (x k : Nat) : x / 2 ^ (k + 1) * 2 + x / 2 ^ k % 2 = x / 2 ^ k := by
  have h : x / 2 ^ (k + 1) = x / 2 ^ k / 2 := by rw [Nat.pow_succ, Nat.div_div_eq_div_mul]
  rw [h]; omega

theorem bit_eq (x k : Nat) : x / 2 ^ k % 2 = (x.testBit k).toNat := by
  rw [Nat.testBit_eq_decide_div_mod_eq]
  rcases Nat.mod_two_eq_zero_or_one (x / 2 ^ k) with h | h <;> simp [h]

/-- a field of a word -/
def getN (w a k : Nat) : Nat := w / 2 ^ a % 2 ^ k
/-- a word with a field put in -/
def putN (w a k v : Nat) : Nat := (w &&& (2 ^ 64 - 1 - (2 ^ k - 1) * 2 ^ a)) ||| v * 2 ^ a

theorem bit_getN (w a k i : Nat) : (getN w a k).testBit i = (decide (i < k) && w.testBit (a + i)) := by
  unfold getN
  rw [Nat.testBit_mod_two_pow, Nat.testBit_div_two_pow, Nat.add_comm]

theorem mask_lt (a k : Nat) (h : a + k ≤ 64) : (2 ^ k - 1) * 2 ^ a < 2 ^ 64 := by
  have h1 : (2 ^ k - 1) * 2 ^ a < 2 ^ k * 2 ^ a := (Nat.mul_lt_mul_right (Nat.two_pow_pos a)).2 (by have := Nat.two_pow_pos k; omega)
  rw [← Nat.pow_add] at h1
  exact Nat.lt_of_lt_of_le h1 (Nat.pow_le_pow_right (by omega) (by omega))

theorem bit_putN (w a k v i : Nat) (h : a + k ≤ 64) (hv : v < 2 ^ k) (hi : i < 64) : (putN w a k v).testBit i = if a ≤ i ∧ i < a + k then v.testBit (i - a) else w.testBit i := by
  unfold putN
  rw [Nat.testBit_or, Nat.testBit_and, Nat.sub_sub, Nat.add_comm 1, Nat.testBit_two_pow_sub_succ (mask_lt a k h), Nat.testBit_mul_two_pow, Nat.testBit_mul_two_pow, Nat.testBit_two_pow_sub_one]
  by_cases h1 : a ≤ i
  · by_cases h2 : i < a + k
    · have h3 : i - a < k := by omega
      simp [h1, h2, h3, hi]
    · have h3 : ¬ i - a < k := by omega
      have h4 : v.testBit (i - a) = false := Nat.testBit_lt_two_pow (Nat.lt_of_lt_of_le hv (Nat.pow_le_pow_right (by omega) (by omega)))
      simp [h1, h2, h3, h4, hi]
  · simp [h1, hi]

theorem putN_lt (w a k v : Nat) (h : a + k ≤ 64) (hv : v < 2 ^ k) : putN w a k v < 2 ^ 64 := by
  have h1 : v * 2 ^ a < 2 ^ 64 := by
    have h2 : v * 2 ^ a < 2 ^ k * 2 ^ a := (Nat.mul_lt_mul_right (Nat.two_pow_pos a)).2 hv
    rw [← Nat.pow_add] at h2
    exact Nat.lt_of_lt_of_le h2 (Nat.pow_le_pow_right (by omega) (by omega))
  unfold putN
  refine Nat.or_lt_two_pow (Nat.lt_of_le_of_lt Nat.and_le_right ?_) h1
  have := Nat.two_pow_pos 64
  omega

theorem bit_high {x i : Nat} (h : x < 2 ^ 64) (hi : 64 ≤ i) : x.testBit i = false :=
  Nat.testBit_lt_two_pow (Nat.lt_of_lt_of_le h (Nat.pow_le_pow_right (by omega) hi))

theorem get_put (w a k v : Nat) (h : a + k ≤ 64) (hv : v < 2 ^ k) : getN (putN w a k v) a k = v := by
  refine Nat.eq_of_testBit_eq fun i => ?_
  rw [bit_getN]
  by_cases hi : i < k
  · rw [bit_putN w a k v _ h hv (by omega), if_pos (by omega)]
    simp [hi, show a + i - a = i from by omega]
  · have h4 : v.testBit i = false := Nat.testBit_lt_two_pow (Nat.lt_of_lt_of_le hv (Nat.pow_le_pow_right (by omega) (by omega)))
    simp [hi, h4]

theorem getN_lt (w a k : Nat) : getN w a k < 2 ^ k := Nat.mod_lt _ (Nat.two_pow_pos k)
theorem getN_le (w a k : Nat) : getN w a k ≤ w := Nat.le_trans (Nat.mod_le _ _) (Nat.div_le_self _ _)

theorem put_back (w a k v : Nat) (hw : w < 2 ^ 64) (h : a + k ≤ 64) (hv : v < 2 ^ k) : putN (putN w a k v) a k (getN w a k) = w := by
  refine Nat.eq_of_testBit_eq fun i => ?_
  by_cases hi : i < 64
  · rw [bit_putN _ a k _ _ h (getN_lt w a k) hi, bit_putN w a k v _ h hv hi, bit_getN]
    by_cases h1 : a ≤ i ∧ i < a + k
    · simp [h1, show i - a < k from by omega, show a + (i - a) = i from by omega]
    · simp [h1]
  · rw [bit_high hw (by omega), bit_high (putN_lt _ a k _ h (getN_lt w a k)) (by omega)]

theorem get_far (w a k v b m : Nat) (h : a + k ≤ 64) (hv : v < 2 ^ k) (hb : b + m ≤ 64) (hd : b + m ≤ a ∨ a + k ≤ b) : getN (putN w a k v) b m = getN w b m := by
  refine Nat.eq_of_testBit_eq fun i => ?_
  rw [bit_getN, bit_getN]
  by_cases hi : i < m
  · rw [bit_putN w a k v _ h hv (by omega), if_neg (by omega)]
  · simp [hi]

/-- the bits of v from k on are 0 -/
theorem lt_of_bits (v k : Nat) (hv : v < 2 ^ 64) (h : ∀ i, k ≤ i → i < 64 → v / 2 ^ i % 2 ≠ 1) : v < 2 ^ k := by
  refine Nat.lt_pow_two_of_testBit v fun i hi => ?_
  by_cases h64 : i < 64
  · have := h i hi h64
    rw [bit_eq] at this
    cases hb : v.testBit i
    · rfl
    · simp [hb] at this
  · exact bit_high hv (by omega)
theorem bit_of_lt (v k i : Nat) (h : v < 2 ^ k) (hi : k ≤ i) : v / 2 ^ i % 2 = 0 := by
  rw [bit_eq, Nat.testBit_lt_two_pow (Nat.lt_of_lt_of_le h (Nat.pow_le_pow_right (by omega) hi))]; rfl

/-- one step of the document's Put, from bit i + 1 down to bit i -/
theorem put_step_in (w a k v i : Nat) (h : a + k ≤ 64) (hv : v < 2 ^ k) (h1 : a ≤ i) (h2 : i < a + k) :
    putN w a k v / 2 ^ (i + 1) * 2 + v / 2 ^ (i - a) % 2 = putN w a k v / 2 ^ i := by
  have e : v / 2 ^ (i - a) % 2 = putN w a k v / 2 ^ i % 2 := by
    rw [bit_eq, bit_eq, bit_putN w a k v i h hv (by omega), if_pos ⟨h1, h2⟩]
  rw [e, quarter]
theorem put_step_out (w a k v i : Nat) (h : a + k ≤ 64) (hv : v < 2 ^ k) (hi : i < 64) (h2 : ¬ (a ≤ i ∧ i < a + k)) :
    putN w a k v / 2 ^ (i + 1) * 2 + w / 2 ^ i % 2 = putN w a k v / 2 ^ i := by
  have e : w / 2 ^ i % 2 = putN w a k v / 2 ^ i % 2 := by
    rw [bit_eq, bit_eq, bit_putN w a k v i h hv hi, if_neg h2]
  rw [e, quarter]
/-- one step of the document's Get -/
theorem get_step (w a k i : Nat) (hi : i < k) : getN w a k / 2 ^ (i + 1) * 2 + w / 2 ^ (a + i) % 2 = getN w a k / 2 ^ i := by
  have e : w / 2 ^ (a + i) % 2 = getN w a k / 2 ^ i % 2 := by
    rw [bit_eq, bit_eq, bit_getN]; simp [hi]
  rw [e, quarter]
theorem div_top (x k : Nat) (h : x < 2 ^ k) : x / 2 ^ k = 0 := Nat.div_eq_of_lt h

/-- bits of a number below 2^32, by place -/
def onesTo (v k : Nat) : Nat := ((List.range k).filter fun i => v.testBit i).length
def freeTo (v k : Nat) : List Nat := (List.range k).filter fun i => !v.testBit i
theorem onesTo_succ (v k : Nat) : onesTo v (k + 1) = onesTo v k + if v.testBit k then 1 else 0 := by
  unfold onesTo
  rw [List.range_succ, List.filter_append, List.length_append]
  cases h : v.testBit k <;> simp [h]
theorem onesTo_le (v k : Nat) : onesTo v k ≤ k := by
  unfold onesTo
  exact Nat.le_trans (List.length_filter_le _ _) (by simp)
theorem freeTo_succ (v k : Nat) : freeTo v (k + 1) = freeTo v k ++ if v.testBit k then [] else [k] := by
  unfold freeTo
  rw [List.range_succ, List.filter_append]
  cases h : v.testBit k <;> simp [h]
theorem freeTo_le (v k : Nat) : (freeTo v k).length ≤ k := by
  unfold freeTo
  exact Nat.le_trans (List.length_filter_le _ _) (by simp)
theorem ones_free (v k : Nat) : onesTo v k + (freeTo v k).length = k := by
  induction k with
  | zero => rfl
  | succ k ih =>
    rw [onesTo_succ, freeTo_succ, List.length_append]
    cases h : v.testBit k <;> simp <;> omega

/-- the place of the lowest bit that is 1, below 32; -1, if there is none -/
def lowestN (v : Nat) : Int := match (List.range 32).find? fun i => v.testBit i with
  | some i => i
  | none => -1
theorem lowest_at (v k : Nat) (hk : k < 32) (hb : v.testBit k = true) (h : ∀ i, i < k → v.testBit i = false) : lowestN v = k := by
  have : (List.range 32).find? (fun i => v.testBit i) = some k := by
    rw [List.find?_range_eq_some]
    exact ⟨hb, List.mem_range.2 hk, fun i hi => by simp [h i hi]⟩
  unfold lowestN
  rw [this]
theorem lowest_none (v : Nat) (h : ∀ i, i < 32 → v.testBit i = false) : lowestN v = -1 := by
  have : (List.range 32).find? (fun i => v.testBit i) = none := by
    rw [List.find?_eq_none]
    intro i hi
    simp [h i (List.mem_range.1 hi)]
  unfold lowestN
  rw [this]

/-- the logarithm, -1 below 1 -/
def logI (n : Int) : Int := if n < 1 then -1 else (Nat.log2 n.toNat : Int)
theorem logI_at (n : Int) (k : Nat) (h1 : 1 ≤ n / 2 ^ k) (h2 : n / 2 ^ (k + 1) < 1) : logI n = k := by
  have hp : (0 : Int) < 2 ^ k := Int.pow_pos (by omega)
  have hn : 1 ≤ n := by
    have h3 := (Int.le_ediv_iff_mul_le hp).1 h1
    omega
  obtain ⟨m, rfl⟩ := Int.eq_ofNat_of_zero_le (show 0 ≤ n by omega)
  unfold logI
  rw [if_neg (by omega), Int.toNat_natCast]
  have h4 : 2 ^ k ≤ m := by
    have h3 := (Int.le_ediv_iff_mul_le hp).1 h1
    rw [Int.one_mul] at h3
    exact_mod_cast h3
  have h5 : m < 2 ^ (k + 1) := by
    have h3 := (Int.ediv_lt_iff_lt_mul (Int.pow_pos (by omega))).1 h2
    rw [Int.one_mul] at h3
    exact_mod_cast h3
  have : m ≠ 0 := by have := Nat.two_pow_pos k; omega
  have e : Nat.log2 m = k := by
    rw [Nat.log2_eq_iff this]
    exact ⟨h4, h5⟩
  rw [e]
theorem logI_no (n : Int) (h : n < 1) : logI n = -1 := by unfold logI; rw [if_pos h]

end Go.Proofs.YtpndfhdedmdoeaaGreat.HM
