/-
  The parts of a heap. Written by audit/gen_parts2.py.
-/
import Derived.Test.YtpndfhdedmdoeaaF17
import Derived.Deep.AppendLies
import Derived.Test.YtpndfhdedmdoeaaF16
namespace Go.Proofs.Ytpndfhdedmdoeaa
open Go.ChangeShapes Go.WideShapes Go.ChangeAt Go.RowKit Go.Shelf
set_option linter.unusedVariables false
set_option linter.unusedSimpArgs false

theorem own_down {w : World} {base base' : Nat} {e : TypeId} {size : Nat} {v : Value} {n : Nat} {xs : List Value} (h : w.ownsRow base e size v n xs) (hb : base' ≤ base) : w.ownsRow base' e size v n xs :=
  ⟨h.1, h.2.imp id fun ⟨g, cap, cur, h1, h2, h3⟩ => ⟨g, cap, cur, h1, Nat.le_trans hb h2, h3⟩⟩
theorem own_cells {w : World} {base : Nat} {e : TypeId} {size n : Nat} {v : Value} {xs : List Value} (h : w.ownsRow base e size v n xs) {g : Nat} (hg : v.ownBlock = some g) : ∃ o, w.heap[g]? = some o ∧ o.isCells = true := by
  rcases h.2 with ⟨rfl, _⟩ | ⟨g', cap, cur, rfl, hbg, hg', hr⟩
  · simp [Value.ownBlock] at hg
  · have : g' = g := by simpa [Value.ownBlock] using hg
    subst this
    exact ⟨_, hg', rfl⟩
section
attribute [local go_sem] Oper.semAt_some

end
end Go.Proofs.Ytpndfhdedmdoeaa

/-
  Check at whatever values, and heapOf. Written by audit/gen_heapof.py.
-/
namespace Go.Proofs.Ytpndfhdedmdoeaa
open Go.ChangeShapes Go.WideShapes Go.ChangeAt Go.RowKit Go.Shelf
set_option linter.unusedVariables false
set_option linter.unusedSimpArgs false

end Go.Proofs.Ytpndfhdedmdoeaa

/-
  The live blocks; Parts, Live. Written by audit/gen_live.py.
-/
namespace Go.Proofs.Ytpndfhdedmdoeaa
open Go.ChangeShapes Go.WideShapes Go.ChangeAt Go.RowKit Go.Shelf
set_option linter.unusedVariables false
set_option linter.unusedSimpArgs false

def blocksOf (l : List (Int × Int × Int)) : List (Int × Int) := (l.filter fun x => decide (x.1 = 2)).map fun x => x.2
def bkVs (l : List (Int × Int)) : List Value := l.flatMap fun x => [.int .i64 x.1, .int .i64 x.2]
theorem bkVs_len (l : List (Int × Int)) : (bkVs l).length = l.length * 2 := by unfold bkVs; induction l with
  | nil => rfl
  | cons x l ih => rw [List.flatMap_cons, List.length_append, ih]; simp; omega
theorem bkVs_snoc (l : List (Int × Int)) (x : Int × Int) : bkVs (l ++ [x]) = bkVs l ++ [.int .i64 x.1, .int .i64 x.2] := by unfold bkVs; rw [List.flatMap_append]; simp
theorem blocksOf_app (l m : List (Int × Int × Int)) : blocksOf (l ++ m) = blocksOf l ++ blocksOf m := by unfold blocksOf; rw [List.filter_append, List.map_append]
theorem blocksOf_yes {x : Int × Int × Int} (h : x.1 = 2) : blocksOf [x] = [x.2] := by simp [blocksOf, h]
theorem blocksOf_no {x : Int × Int × Int} (h : x.1 ≠ 2) : blocksOf [x] = [] := by simp [blocksOf, h]
theorem blocksOf_len (l : List (Int × Int × Int)) : (blocksOf l).length ≤ l.length := by unfold blocksOf; rw [List.length_map]; exact List.length_filter_le _ _
theorem blockInfo : (Try.prog.info? 138).map (fun i => (i.zero, i.size, i.bytes)) = some (some (.agg #[.int .i64 0, .int .i64 0]), 2, 16) := by kernel_rfl
theorem ptVs_get : ∀ (l : List (Int × Int × Int)) (i : Nat) (x : Int × Int × Int), l[i]? = some x → (ptVs l)[i * 3]? = some (.int .i64 x.1) ∧ (ptVs l)[i * 3 + 1]? = some (.int .i64 x.2.1) ∧ (ptVs l)[i * 3 + 2]? = some (.int .i64 x.2.2)
  | [], i, x, h => by simp at h
  | y :: l, 0, x, h => by
    simp at h
    subst h
    simp [ptVs]
  | y :: l, i + 1, x, h => by
    have h' : l[i]? = some x := by simpa using h
    obtain ⟨h1, h2, h3⟩ := ptVs_get l i x h'
    have e : ptVs (y :: l) = [.int .i64 y.1, .int .i64 y.2.1, .int .i64 y.2.2] ++ ptVs l := by simp [ptVs]
    have g : ∀ k, (ptVs (y :: l))[(i * 3 + k) + 3]? = (ptVs l)[i * 3 + k]? := fun k => by
      rw [e, List.getElem?_append_right (by simp)]
      simp
    exact ⟨by have := g 0; rw [Nat.add_zero] at this; rw [show (i + 1) * 3 = i * 3 + 3 by omega, this]; exact h1, by rw [show (i + 1) * 3 + 1 = (i * 3 + 1) + 3 by omega, g]; exact h2, by rw [show (i + 1) * 3 + 2 = (i * 3 + 2) + 3 by omega, g]; exact h3⟩
theorem own_caps3 {w : World} {base : Nat} {e : TypeId} {size n c : Nat} {A : Option Addr} {xs : List Value} (h : w.ownsRow base e size (.slice A n c) n xs) : n ≤ c ∧ c ≤ maxLen := by
  rcases h.2 with ⟨h1, h2⟩ | ⟨g, cap, cur, h1, hb, hg, hnc, hcm, hr⟩
  · injection h1 with _ h1 h3; omega
  · injection h1 with _ _ h3; omega
/-- the parts of a row, one by one -/
theorem own_part {w : World} {base n g cap : Nat} {e : TypeId} {l : List (Int × Int × Int)} (h : w.ownsRow base e 3 (.slice (some ⟨g, 0, none⟩) n cap) n (ptVs l)) (hn : l.length = n) {i : Nat} {x : Int × Int × Int} (hx : l[i]? = some x) :
    w.cell? ⟨g, i * 3, none⟩ = some (.int .i64 x.1) ∧ w.cell? ⟨g, i * 3 + 1, none⟩ = some (.int .i64 x.2.1) ∧ w.cell? ⟨g, i * 3 + 2, none⟩ = some (.int .i64 x.2.2) := by
  have hi : i < n := by
    rcases Nat.lt_or_ge i n with h1 | h1
    · exact h1
    · rw [List.getElem?_eq_none (by omega)] at hx; cases hx
  obtain ⟨h1, h2, h3⟩ := ptVs_get l i x hx
  exact ⟨(h.cellAt _ (by omega)).trans h1, (h.cellAt _ (by omega)).trans h2, (h.cellAt _ (by omega)).trans h3⟩

end Go.Proofs.Ytpndfhdedmdoeaa

/-
  A heap whose lists are laid anew, and nothing else: the rules, the parts and the live blocks stay. No program is named here.
-/
namespace Go.Proofs.Ytpndfhdedmdoeaa
open Go.ChangeShapes Go.WideShapes Go.ChangeAt Go.RowKit Go.Maps
set_option linter.unusedVariables false
set_option linter.unusedSimpArgs false

namespace AuH
/-- the same configuration, with other values -/
def re (H : AuH) (V : Nat → Nat) : AuH := ⟨H.t, H.p, H.s, V⟩
/-- values that differ in the lists alone: their heads, and the pages' Next and Prev -/
structure Twin (H : AuH) (V : Nat → Nat) : Prop where
  cel : ∀ q b, b < 6 → b ≠ 2 → b ≠ 3 → (H.re V).cel q b = H.cel q b
  v0 : V 0 = H.V 0
  v1 : V 1 = H.V 1
  root : ∀ i, i < 8 → V (22 + i) = H.V (22 + i)
variable {H : AuH} {V : Nat → Nat}
namespace Twin
theorem c0 (T : H.Twin V) (q : Nat) : (H.re V).cel q 0 = H.cel q 0 := T.cel q 0 (by omega) (by omega) (by omega)
theorem c1 (T : H.Twin V) (q : Nat) : (H.re V).cel q 1 = H.cel q 1 := T.cel q 1 (by omega) (by omega) (by omega)
theorem c4 (T : H.Twin V) (q : Nat) : (H.re V).cel q 4 = H.cel q 4 := T.cel q 4 (by omega) (by omega) (by omega)
theorem c5 (T : H.Twin V) (q : Nat) : (H.re V).cel q 5 = H.cel q 5 := T.cel q 5 (by omega) (by omega) (by omega)
theorem K (T : H.Twin V) (q : Nat) : (H.re V).K q = H.K q := by unfold AuH.K; rw [T.c0]
theorem L (T : H.Twin V) (q : Nat) : (H.re V).L q = H.L q := by unfold AuH.L; rw [T.c0]
theorem Cl (T : H.Twin V) (q : Nat) : (H.re V).Cl q = H.Cl q := by unfold AuH.Cl; rw [T.c0]
theorem ln (T : H.Twin V) (q : Nat) : (H.re V).ln q = H.ln q := by unfold AuH.ln; rw [T.L]
theorem can (T : H.Twin V) (q : Nat) : (H.re V).can q = H.can q := by unfold AuH.can; rw [T.K, T.ln]; rfl
theorem nx (T : H.Twin V) (q : Nat) : (H.re V).nx q = H.nx q := by unfold AuH.nx; rw [T.ln]
theorem at_to (T : H.Twin V) {q : Nat} (h : H.At q) : (H.re V).At q := by
  induction h with
  | zero => exact .zero
  | step h hc ih =>
    rename_i q
    have := At.step ih (by rw [T.can]; exact hc)
    rwa [T.nx] at this
theorem at_of (T : H.Twin V) {q : Nat} (h : (H.re V).At q) : H.At q := by
  induction h with
  | zero => exact .zero
  | step h hc ih =>
    rename_i q
    rw [T.can] at hc
    have := At.step ih hc
    rwa [T.nx]
theorem tiled (T : H.Twin V) (h : H.Tiled) : (H.re V).Tiled := by
  refine ⟨T.at_to h.1, fun a ha hc hp q h1 h2 => ?_⟩
  rw [T.c0]
  rw [T.can] at hc
  rw [T.nx] at h2
  exact h.2 a (T.at_of ha) hc hp q h1 h2
theorem r3 (T : H.Twin V) (h : H.R3) : (H.re V).R3 := fun q hq hk => by
  rw [T.K] at hk
  obtain ⟨h1, h2⟩ := h q hq hk
  refine ⟨fun r hr h3 => ?_, ?_⟩
  · rw [T.ln] at h3
    rw [T.c1]
    exact h1 r hr h3
  · rw [T.ln, T.c1]
    exact h2
theorem r4 (T : H.Twin V) (h : H.R4) : (H.re V).R4 := fun q ha hq hk hn => by
  rw [T.K] at hk
  rw [T.nx] at hn ⊢
  rw [T.K]
  exact h q (T.at_of ha) hq hk hn
theorem r5 (T : H.Twin V) (h : H.R5) : (H.re V).R5 := fun q hq => by
  have h1 := h q hq
  unfold Slot5 at h1 ⊢
  rw [T.K, T.c5, T.c4, T.Cl]
  exact h1
theorem tgt (T : H.Twin V) (q : Nat) : (H.re V).tgt q = H.tgt q := by unfold AuH.tgt; rw [T.K, T.ln, T.Cl, T.c5]
theorem isF (T : H.Twin V) (hd : Int) : (H.re V).isF hd = H.isF hd := by funext q; unfold AuH.isF; rw [T.tgt]
theorem cnt (T : H.Twin V) (hd : Int) (x : Nat) : (H.re V).cnt hd x = H.cnt hd x := by unfold AuH.cnt; rw [T.isF]
theorem r9 (T : H.Twin V) (h : H.R9) : (H.re V).R9 := by
  have e1 : (H.re V).freeF = H.freeF := by funext q; unfold freeF; rw [T.K, T.ln]
  have e2 : (H.re V).liveF = H.liveF := by funext q; unfold liveF; rw [T.K, T.c4]
  unfold R9
  rw [e1, e2]
  exact ⟨T.v0.trans h.1, T.v1.trans h.2⟩
theorem liveAt (T : H.Twin V) (a : Int) : (H.re V).LiveAt a ↔ H.LiveAt a := by
  unfold LiveAt
  simp only [T.K, T.Cl, T.c4]
  exact Iff.rfl
theorem r10 (T : H.Twin V) (h : H.R10) : (H.re V).R10 := fun i hi hv => by
  have e : (H.re V).V (22 + i) = H.V (22 + i) := T.root i hi
  rw [e] at hv ⊢
  exact (T.liveAt _).2 (h i hi hv)
theorem partsAt (T : H.Twin V) : (H.re V).partsAt = H.partsAt := by
  funext q
  unfold AuH.partsAt slotsTo slack slotPart sl zs first pg
  simp only [T.K, T.ln, T.Cl, T.c4, T.c5]
  rfl
theorem parts (T : H.Twin V) : (H.re V).parts = H.parts := by unfold AuH.parts; rw [T.partsAt]; rfl
/-- .. if the lists are those of the rules, and no other page has a link -/
theorem told (T : H.Twin V) (h : ∀ i, i < 10 → H.rule i) (hl : ∀ hd, 2 ≤ hd → hd ≤ 21 → (H.re V).ListOk hd) (h8 : ∀ q, q < H.p → H.tgt q = -1 → (H.re V).cel q 2 = H.cel q 2 ∧ (H.re V).cel q 3 = H.cel q 3) : ∀ i, i < 10 → (H.re V).rule i
  | 0, _ => trivial
  | 1, _ => T.tiled (h 1 (by omega))
  | 2, _ => T.r3 (h 2 (by omega))
  | 3, _ => T.r4 (h 3 (by omega))
  | 4, _ => T.r5 (h 4 (by omega))
  | 5, _ => fun k hk => hl (2 + k) (by omega) (by omega)
  | 6, _ => fun k hk => hl (13 + k) (by omega) (by omega)
  | 7, _ => fun q hq ht => by
    rw [T.tgt] at ht
    have h1 : H.R8 := h 7 (by omega)
    rw [(h8 q hq ht).1, (h8 q hq ht).2]
    exact h1 q hq ht
  | 8, _ => T.r9 (h 8 (by omega))
  | 9, _ => T.r10 (h 9 (by omega))
  | i + 10, hi => absurd hi (by omega)
end Twin
end AuH

/-! a list of the rules, out of one that is linked both ways -/
section
variable {H : AuH} {hd : Nat} {g : Int → Nat} {l : List Nat}
theorem seg_path (hg : ∀ i : Nat, i < 30 + 4 * H.t + 6 * H.p → g i = H.V i) (hh : hd < 30) : ∀ (l : List Nat) {a x : Nat}, Seg H.p (nxH H.t) (pvH H.t) g 0 (g hd) l a x → H.Path hd l x a := by
  intro l
  induction hn : l.length generalizing l with
  | zero =>
    intro a x h
    have : l = [] := List.eq_nil_of_length_eq_zero hn
    subst this
    obtain ⟨rfl, rfl⟩ := h
    rw [hg hd (by omega)]
    exact .nil
  | succ n ih =>
    intro a x h
    rcases List.eq_nil_or_concat l with rfl | ⟨m, p, rfl⟩
    · simp at hn
    · rw [List.concat_eq_append] at h hn ⊢
      obtain ⟨b, y, s1, ⟨rfl, s3, s4⟩, s5, s6⟩ := Seg.append.1 h
      have h1 := ih m (by simpa using hn) s1
      have h2 := AuH.Path.snoc h1 (by omega) (by omega) (by
        show H.cel (p + 1 - 1) 3 = b
        rw [Nat.add_sub_cancel, ← s4]
        unfold pvH
        rw [hg _ (by omega)]
        rfl)
      rw [Nat.add_sub_cancel] at h2
      subst s5
      have e : H.cel p 2 = x := by
        rw [← s6]
        unfold nxH
        rw [hg _ (by omega)]
        rfl
      rw [e] at h2
      exact h2
theorem listOk_of (hg : ∀ i : Nat, i < 30 + 4 * H.t + 6 * H.p → g i = H.V i) (hh : hd < 30) (hl : IsL H.p (nxH H.t) (pvH H.t) hd g l) (ht : ∀ y ∈ l, H.tgt y = hd) (hc : l.length = H.cnt hd H.p) : H.ListOk hd := by
  obtain ⟨⟨a, hs⟩, _⟩ := hl
  have := AuH.path_chain (seg_path hg hh l hs) (m := 0) ht rfl
  rw [Nat.add_zero, hc] at this
  exact this
/-- how long a list of the rules is -/
theorem path_len {a : Nat} (hp : H.Path hd l 0 a) (hk : H.ListOk hd) : l.length = H.cnt hd H.p ∧ ∀ y ∈ l, H.tgt y = hd := by
  obtain ⟨h1, h2, h3⟩ := AuH.chain_path hk hp
  refine ⟨?_, h3⟩
  rcases hr : H.cnt hd H.p - l.length with _ | r
  · omega
  · rw [hr] at h2
    have := h2.1.1
    omega
end
end Go.Proofs.Ytpndfhdedmdoeaa
