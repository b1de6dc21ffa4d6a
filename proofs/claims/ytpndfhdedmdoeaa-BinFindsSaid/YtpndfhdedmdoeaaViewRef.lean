/-
  The document's answer for Views (nacreref11.V): what one is, and how its parts turn.
-/
import Derived.Test.YtpndfhdedmdoeaaViewMake
namespace Go.Proofs.Ytpndfhdedmdoeaa
open Go.ChangeShapes Go.WideShapes Go.ChangeAt Go.RowKit Go.Maps
set_option linter.unusedVariables false
set_option maxRecDepth 100000
set_option linter.unusedSimpArgs false

def rE (i : Nat) : TypeId := if i = 0 then 4 else if i = 1 then 62 else if i = 2 then 4 else if i = 3 then 62 else 3
def rSz (_ : Nat) : Nat := 1
def rowL (n : Nat) (f : Nat → Value) : List Value := (List.range n).map f
def bitF (f : Nat → Bool) : Nat → Value := fun i => .bool (f i)
def toV (wr : List (Nat × Nat)) (i : Nat) : Nat := match pos wr i with | some k => atW wr k | none => 0
def rN (n : Nat) (s : Vst) (i : Nat) : Nat := if i < 4 then n else if i = 4 then s.rd.length else s.wr.length
def rX (n : Nat) (K : Nat → Option Nat) (s : Vst) (i : Nat) : List Value :=
  if i = 0 then rowL n (bitF fun j => (K j).isSome) else if i = 1 then rowL n (valF fun j => (K j).getD 0) else if i = 2 then rowL n (bitF fun j => (pos s.wr j).isSome)
  else if i = 3 then rowL n (valF (toV s.wr)) else if i = 4 then ntVs s.rd else ntVs (s.wr.map (·.1))
def rHead (n : Nat) (v : Nat → Value) (s : Vst) (all : Bool) : Array Value := #[.int .i64 (n : Int), v 0, v 1, v 2, v 3, v 4, v 5, .int .i64 (missI s), .bool all]

theorem rowL_len (n : Nat) (f : Nat → Value) : (rowL n f).length = n := by unfold rowL; simp
theorem rowL_at {n : Nat} (f : Nat → Value) {j : Nat} (h : j < n) : (rowL n f)[j]? = some (f j) := by
  unfold rowL
  rw [List.getElem?_map, List.getElem?_range h]
  rfl
theorem rowL_set {n : Nat} (f : Nat → Value) (j : Nat) (u : Value) : (rowL n f).set j u = rowL n (updF f j u) := by
  apply List.ext_getElem?
  intro i
  rw [List.getElem?_set]
  unfold rowL
  rw [List.getElem?_map, List.getElem?_map]
  rcases Nat.lt_or_ge i n with h | h
  · rw [List.getElem?_range h]
    by_cases e : j = i
    · subst e
      simp [h, updF_same]
    · simp [e, updF_other _ _ (fun x => e x.symm)]
  · rw [List.getElem?_eq_none (by simpa using h)]
    by_cases e : j = i
    · subst e
      simp; omega
    · simp [e]
theorem rowL_snoc (n : Nat) (f : Nat → Value) : rowL (n + 1) f = rowL n f ++ [f n] := by
  unfold rowL
  rw [List.range_succ, List.map_append]
  rfl
theorem rowL_congr {n : Nat} {f g : Nat → Value} (h : ∀ i, i < n → f i = g i) : rowL n f = rowL n g := by
  unfold rowL
  exact List.map_congr_left (fun i hi => h i (List.mem_range.1 hi))

structure RParts (w : World) (base b : Nat) (v : Nat → Value) (hd : Array Value) (nn : Nat → Nat) (xs : Nat → List Value) : Prop where
  head : Held w b 66 hd
  own : OwnAll w base b 6 rE rSz v nn xs
  bb : base ≤ b
section
variable {w w' : World} {base b : Nat} {v : Nat → Value} {hd : Array Value} {nn : Nat → Nat} {xs : Nat → List Value}
theorem RParts.ge (h : RParts w base b v hd nn xs) : ∀ i, OwnF b 6 v i → base ≤ i := h.own.F_new h.bb
theorem RParts.lt (h : RParts w base b v hd nn xs) : ∀ i, OwnF b 6 v i → i < w.heap.size := h.own.F_lt h.head.lt
theorem RParts.turns {G : Nat → Prop} (h : RParts w base b v hd nn xs) (ht : Turns G w w') (hf : ∀ i, OwnF b 6 v i → ¬ G i) : RParts w' base b v hd nn xs :=
  ⟨ht.held h.head (hf _ (.inl rfl)), h.own.turns ht (fun i g hi hg => hf _ (.inr ⟨i, hi, hg⟩)), h.bb⟩
theorem RParts.keep (h : RParts w base b v hd nn xs) (hb : Below w.heap.size w w') : RParts w' base b v hd nn xs := h.turns (G := fun _ => False) (Turns.of_below hb _) (fun _ _ x => x)
theorem RParts.setHead (h : RParts w base b v hd nn xs) (j : Nat) (u : Value) : RParts (w.setCell ⟨b, j, none⟩ u) base b v (hd.setIfInBounds j u) nn xs ∧ Turns (OwnF b 6 v) w (w.setCell ⟨b, j, none⟩ u) :=
  ⟨⟨h.head.put j u, h.own.setB j u, h.bb⟩, (T0 (OwnF b 6 v) w).put (p := ⟨b, j, none⟩) (.inl rfl) u⟩
theorem RParts.store (h : RParts w base b v hd nn xs) {i g cap : Nat} (hi : i < 6) (hv : v i = .slice (some ⟨g, 0, none⟩) (nn i) cap) (j : Nat) (u : Value) :
    RParts (w.setCell ⟨g, j, none⟩ u) base b v hd nn (updF xs i ((xs i).set j u)) ∧ Turns (OwnF b 6 v) w (w.setCell ⟨g, j, none⟩ u) := by
  obtain ⟨h1, ht⟩ := h.own.put hi hv j u
  refine ⟨⟨ht.held h.head (fun e => h.own.notb i hi (by rw [hv, e]; rfl)), h1, h.bb⟩, ht.more (fun x e => by subst e; exact .inr ⟨i, hi, by rw [hv]; rfl⟩)⟩
theorem RParts.grow (h : RParts w base b v hd nn xs) {i : Nat} (hi : i < 6) {v' : Value} {n' : Nat} {xs' : List Value} (hown : w'.ownsRow base (rE i) (rSz i) v' n' xs') (hg : w.grownBy w' (v i).ownBlock)
    (hloc : ∀ g, v'.ownBlock = some g → (v i).ownBlock = some g ∨ w.heap.size ≤ g) :
    RParts w' base b (updF v i v') hd (updF nn i n') (updF xs i xs') ∧ (∀ g, OwnF b 6 (updF v i v') g → OwnF b 6 v g ∨ w.heap.size ≤ g) ∧ Turns (OwnF b 6 v) w w' := by
  have hF := OwnF_grown (b := b) (w := w) hi hloc
  have hbq : w'.heap[b]? = w.heap[b]? := hg.block b h.head.lt (fun e => h.own.notb i hi e.symm)
  exact ⟨⟨hbq.trans h.head, h.own.grown h.head.lt hi hown hg hloc, h.bb⟩, hF, ⟨hg.os, hg.tape, hg.output, hg.size, fun q hq hf => hg.block q hq (fun e => hf (.inr ⟨i, hi, e.symm⟩))⟩⟩
theorem RParts.congr {hd' : Array Value} {nn' : Nat → Nat} {xs' : Nat → List Value} (h : RParts w base b v hd nn xs) (e : hd = hd') (h1 : ∀ i, i < 6 → nn i = nn' i) (h2 : ∀ i, i < 6 → xs i = xs' i) : RParts w base b v hd' nn' xs' := by
  subst e
  exact ⟨h.head, h.own.congr h1 h2, h.bb⟩
/-- a row that is there, opened -/
theorem RParts.form (h : RParts w base b v hd nn xs) {i : Nat} (hi : i < 6) (hn : 0 < nn i) : ∃ g cap, v i = .slice (some ⟨g, 0, none⟩) (nn i) cap ∧ nn i ≤ cap ∧ cap ≤ 9223372036854775807 ∧ g ≠ b ∧ g < w.heap.size := by
  obtain ⟨g, cap, hv, _, hg⟩ := h.own.form hi hn
  refine ⟨g, cap, hv, ?_, ?_, fun e => h.own.notb i hi (by rw [hv, e]; rfl), hg⟩
  · have h1 := h.own.own i hi
    rw [hv] at h1
    rcases h1.2 with ⟨h2, _⟩ | ⟨g', cap', cur, h2, _, _, h3, h4, _⟩
    · cases h2
    · injection h2 with _ _ h2; subst h2; exact h3
  · have h1 := h.own.own i hi
    rw [hv] at h1
    rcases h1.2 with ⟨h2, _⟩ | ⟨g', cap', cur, h2, _, _, h3, h4, _⟩
    · cases h2
    · injection h2 with _ _ h2; subst h2; exact h4
theorem RParts.at_ (h : RParts w base b v hd nn xs) {i g cap : Nat} (hi : i < 6) (hv : v i = .slice (some ⟨g, 0, none⟩) (nn i) cap) {j : Nat} (hj : j < nn i) : w.cell? ⟨g, j, none⟩ = (xs i)[j]? ∧ w.frozen? ⟨g, j, none⟩ = false :=
  h.own.cell hi hv (by show j < nn i * 1; omega)
end

structure IsRefV (w : World) (base b n : Nat) (all : Bool) (v : Nat → Value) (K : Nat → Option Nat) (s : Vst) : Prop where
  parts : RParts w base b v (rHead n v s all) (rN n s) (rX n K s)
  ok : VOk n s
  nmax : n ≤ 2 ^ 40
  k32 : ∀ i x, K i = some x → x < 2 ^ 32
section
variable {w w' : World} {base b n : Nat} {all : Bool} {v : Nat → Value} {K : Nat → Option Nat} {s : Vst}
theorem IsRefV.turns {G : Nat → Prop} (h : IsRefV w base b n all v K s) (ht : Turns G w w') (hf : ∀ i, OwnF b 6 v i → ¬ G i) : IsRefV w' base b n all v K s := { h with parts := h.parts.turns ht hf }
theorem IsRefV.keep (h : IsRefV w base b n all v K s) (hb : Below w.heap.size w w') : IsRefV w' base b n all v K s := { h with parts := h.parts.keep hb }
theorem IsRefV.cells (h : IsRefV w base b n all v K s) : w.cell? ⟨b, 0, none⟩ = some (.int .i64 (n : Int)) ∧ w.cell? ⟨b, 1, none⟩ = some (v 0) ∧ w.cell? ⟨b, 2, none⟩ = some (v 1) ∧ w.cell? ⟨b, 3, none⟩ = some (v 2) ∧
    w.cell? ⟨b, 4, none⟩ = some (v 3) ∧ w.cell? ⟨b, 5, none⟩ = some (v 4) ∧ w.cell? ⟨b, 6, none⟩ = some (v 5) ∧ w.cell? ⟨b, 7, none⟩ = some (.int .i64 (missI s)) ∧ w.cell? ⟨b, 8, none⟩ = some (.bool all) :=
  ⟨h.parts.head.cell 0, h.parts.head.cell 1, h.parts.head.cell 2, h.parts.head.cell 3, h.parts.head.cell 4, h.parts.head.cell 5, h.parts.head.cell 6, h.parts.head.cell 7, h.parts.head.cell 8⟩
theorem IsRefV.row (h : IsRefV w base b n all v K s) {i : Nat} (hi : i < 4) (hn : 0 < n) : ∃ g cap, v i = .slice (some ⟨g, 0, none⟩) n cap ∧ n ≤ cap ∧ cap ≤ 9223372036854775807 ∧ g ≠ b ∧ g < w.heap.size ∧ ∀ j, j < n → w.cell? ⟨g, j, none⟩ = (rX n K s i)[j]? ∧ w.frozen? ⟨g, j, none⟩ = false := by
  have hnn : rN n s i = n := if_pos hi
  obtain ⟨g, cap, hv, h1, h2, h3, h4⟩ := h.parts.form (i := i) (by omega) (by rw [hnn]; exact hn)
  refine ⟨g, cap, by rw [hv, hnn], by omega, h2, h3, h4, fun j hj => h.parts.at_ (by omega) hv (by rw [hnn]; exact hj)⟩
theorem rX_0 (n : Nat) (K : Nat → Option Nat) (s : Vst) {j : Nat} (h : j < n) : (rX n K s 0)[j]? = some (.bool (K j).isSome) := rowL_at _ h
theorem rX_1 (n : Nat) (K : Nat → Option Nat) (s : Vst) {j : Nat} (h : j < n) : (rX n K s 1)[j]? = some (.int .u32 (((K j).getD 0 : Nat) : Int)) := rowL_at _ h
theorem rX_2 (n : Nat) (K : Nat → Option Nat) (s : Vst) {j : Nat} (h : j < n) : (rX n K s 2)[j]? = some (.bool (pos s.wr j).isSome) := rowL_at _ h
theorem rX_3 (n : Nat) (K : Nat → Option Nat) (s : Vst) {j : Nat} (h : j < n) : (rX n K s 3)[j]? = some (.int .u32 ((toV s.wr j : Nat) : Int)) := rowL_at _ h
end
/-- what a call on one leaves -/
def LeftR (w : World) (base b n : Nat) (all : Bool) (v : Nat → Value) (K : Nat → Option Nat) (s : Vst) (w' : World) : Prop :=
  ∃ v', IsRefV w' base b n all v' K s ∧ (∀ g, OwnF b 6 v' g → OwnF b 6 v g ∨ w.heap.size ≤ g) ∧ Turns (OwnF b 6 v) w w'
theorem LeftR.same {w : World} {base b n : Nat} {all : Bool} {v : Nat → Value} {K : Nat → Option Nat} {s : Vst} (h : IsRefV w base b n all v K s) : LeftR w base b n all v K s w := ⟨v, h, fun g hg => .inl hg, T0 _ _⟩
/-- 'i < 6', by cases -/
theorem six {p : Nat → Prop} (h0 : p 0) (h1 : p 1) (h2 : p 2) (h3 : p 3) (h4 : p 4) (h5 : p 5) : ∀ i, i < 6 → p i := fun i hi => by
  rcases (by omega : i = 0 ∨ i = 1 ∨ i = 2 ∨ i = 3 ∨ i = 4 ∨ i = 5) with rfl | rfl | rfl | rfl | rfl | rfl <;> assumption
end Go.Proofs.Ytpndfhdedmdoeaa
