/-
  The rules, asked one by one. Written by audit/gen_check.py.
-/
import Derived.Test.YthiobfghanlelaaYRules
import Derived.Test.YthiobfghanlelaaYMore
import Derived.Test.YthiobfghanlelaaYLists
import Derived.Test.YthiobfghanlelaaYParts
namespace Go.Proofs.Ythiobfghanlelaa
open Go.ChangeShapes Go.WideShapes Go.ChangeAt Go.RowKit Go.Shelf
set_option linter.unusedVariables false
set_option linter.unusedSimpArgs false

def cfV (t q s : Int) (A : Option Addr) (n c : Nat) : Value := .agg #[.int .i64 t, .int .i64 q, .int .i64 s, .slice A n c]
theorem cells_of {H : AuH} {n c : Nat} (HV : HeapV H n c) : lC (H.t : Int) (H.p : Int) (H.s : Int) ≠ 0 ∧ (n : Int) = lC (H.t : Int) (H.p : Int) (H.s : Int) := by
  have h := HV.len
  obtain ⟨e1, e2, e3, e4, e5, e6, e7⟩ := lay_yes HV.right
  rw [e5]
  omega
/-- the rules' own words, from the second one on -/
def AuH.rule (H : AuH) : Nat → Prop
  | 1 => H.Tiled
  | 2 => H.R3
  | 3 => H.R4
  | 4 => H.R5
  | 5 => ∀ k, k < 11 → H.ListOk (2 + k)
  | 6 => ∀ k, k < 9 → H.ListOk (13 + k)
  | 7 => H.R8
  | 8 => H.R9
  | 9 => H.R10
  | _ => True
/-- what Check tells: 0, all rules hold; m + 1: the rule m (from 0 on) is the first that does not -/
def AuH.Told (H : AuH) (m : Nat) (b : Bool) : Prop := (b = true ∧ m = 0 ∧ ∀ i, i < 10 → H.rule i) ∨ (b = false ∧ ∃ k, m = k + 1 ∧ 1 ≤ k ∧ k < 10 ∧ (∀ i, i < k → H.rule i) ∧ ¬ H.rule k)
theorem AuH.Told.one {H : AuH} {m m' : Nat} {b b' : Bool} (h : H.Told m b) (h' : H.Told m' b') : m = m' ∧ b = b' := by
  rcases h with ⟨rfl, rfl, h1⟩ | ⟨rfl, k, rfl, k1, k2, h1, h2⟩ <;> rcases h' with ⟨rfl, rfl, h3⟩ | ⟨rfl, j, rfl, j1, j2, h3, h4⟩
  · exact ⟨rfl, rfl⟩
  · exact absurd (h1 j j2) h4
  · exact absurd (h3 k k2) h2
  · rcases Nat.lt_trichotomy k j with h5 | h5 | h5
    · exact absurd (h3 k h5) h2
    · subst h5; exact ⟨rfl, rfl⟩
    · exact absurd (h1 j h5) h4
theorem first_no (R : Nat → Prop) : ∀ n, (∀ i, i < n → R i) ∨ ∃ k, k < n ∧ (∀ i, i < k → R i) ∧ ¬ R k
  | 0 => .inl fun i h => absurd h (by omega)
  | n + 1 => by
    rcases first_no R n with h | ⟨k, h1, h2, h3⟩
    · by_cases hn : R n
      · exact .inl fun i hi => by
          rcases Nat.lt_or_ge i n with h4 | h4
          · exact h i h4
          · have : i = n := by omega
            subst this; exact hn
      · exact .inr ⟨n, by omega, h, hn⟩
    · exact .inr ⟨k, by omega, h2, h3⟩
theorem AuH.told_is (H : AuH) : ∃ m b, H.Told m b := by
  rcases first_no H.rule 10 with h | ⟨k, h1, h2, h3⟩
  · exact ⟨0, true, .inl ⟨rfl, rfl, h⟩⟩
  · refine ⟨k + 1, false, .inr ⟨rfl, k, rfl, ?_, h1, h2, h3⟩⟩
    rcases Nat.eq_zero_or_pos k with h6 | h6
    · subst h6; exact absurd trivial h3
    · exact h6


end Go.Proofs.Ythiobfghanlelaa

/-
  Check at whatever values, and heapOf. Written by audit/gen_heapof.py.
-/
namespace Go.Proofs.Ythiobfghanlelaa
open Go.ChangeShapes Go.WideShapes Go.ChangeAt Go.RowKit Go.Shelf
set_option linter.unusedVariables false
set_option linter.unusedSimpArgs false

end Go.Proofs.Ythiobfghanlelaa

/-
  The live blocks; Parts, Live. Written by audit/gen_live.py.
-/
namespace Go.Proofs.Ythiobfghanlelaa
open Go.ChangeShapes Go.WideShapes Go.ChangeAt Go.RowKit Go.Shelf
set_option linter.unusedVariables false
set_option linter.unusedSimpArgs false

def blocksOf (l : List (Int × Int × Int)) : List (Int × Int) := (l.filter fun x => decide (x.1 = 2)).map fun x => x.2
def bkVs (l : List (Int × Int)) : List Value := l.flatMap fun x => [.int .i64 x.1, .int .i64 x.2]
theorem bkVs_len (l : List (Int × Int)) : (bkVs l).length = l.length * 2 := by unfold bkVs; induction l with
  | nil => rfl
  | cons x l ih => rw [List.flatMap_cons, List.length_append, ih]; simp; omega
theorem bkVs_snoc (l : List (Int × Int)) (x : Int × Int) : bkVs (l ++ [x]) = bkVs l ++ [.int .i64 x.1, .int .i64 x.2] := by unfold bkVs; rw [List.flatMap_append]; simp
theorem blocksOf_app (l m : List (Int × Int × Int)) : blocksOf (l ++ m) = blocksOf l ++ blocksOf m := by unfold blocksOf; rw [List.filter_append, List.map_append]
theorem blocksOf_yes {x : Int × Int × Int} (h : x.1 = 2) : blocksOf [x] = [x.2] := by simp [blocksOf, h]
theorem blocksOf_no {x : Int × Int × Int} (h : x.1 ≠ 2) : blocksOf [x] = [] := by simp [blocksOf, h]
theorem blocksOf_len (l : List (Int × Int × Int)) : (blocksOf l).length ≤ l.length := by unfold blocksOf; rw [List.length_map]; exact List.length_filter_le _ _
theorem blockInfo : (Try.prog.info? 117).map (fun i => (i.zero, i.size, i.bytes)) = some (some (.agg #[.int .i64 0, .int .i64 0]), 2, 16) := by kernel_rfl
theorem ptVs_get : ∀ (l : List (Int × Int × Int)) (i : Nat) (x : Int × Int × Int), l[i]? = some x → (ptVs l)[i * 3]? = some (.int .i64 x.1) ∧ (ptVs l)[i * 3 + 1]? = some (.int .i64 x.2.1) ∧ (ptVs l)[i * 3 + 2]? = some (.int .i64 x.2.2)
  | [], i, x, h => by simp at h
  | y :: l, 0, x, h => by
    simp at h
    subst h
    simp [ptVs]
  | y :: l, i + 1, x, h => by
    have h' : l[i]? = some x := by simpa using h
    obtain ⟨h1, h2, h3⟩ := ptVs_get l i x h'
    have e : ptVs (y :: l) = [.int .i64 y.1, .int .i64 y.2.1, .int .i64 y.2.2] ++ ptVs l := by simp [ptVs]
    have g : ∀ k, (ptVs (y :: l))[(i * 3 + k) + 3]? = (ptVs l)[i * 3 + k]? := fun k => by
      rw [e, List.getElem?_append_right (by simp)]
      simp
    exact ⟨by have := g 0; rw [Nat.add_zero] at this; rw [show (i + 1) * 3 = i * 3 + 3 by omega, this]; exact h1, by rw [show (i + 1) * 3 + 1 = (i * 3 + 1) + 3 by omega, g]; exact h2, by rw [show (i + 1) * 3 + 2 = (i * 3 + 2) + 3 by omega, g]; exact h3⟩
theorem own_caps3 {w : World} {base : Nat} {e : TypeId} {size n c : Nat} {A : Option Addr} {xs : List Value} (h : w.ownsRow base e size (.slice A n c) n xs) : n ≤ c ∧ c ≤ maxLen := by
  rcases h.2 with ⟨h1, h2⟩ | ⟨g, cap, cur, h1, hb, hg, hnc, hcm, hr⟩
  · injection h1 with _ h1 h3; omega
  · injection h1 with _ _ h3; omega
/-- the parts of a row, one by one -/
theorem own_part {w : World} {base n g cap : Nat} {e : TypeId} {l : List (Int × Int × Int)} (h : w.ownsRow base e 3 (.slice (some ⟨g, 0, none⟩) n cap) n (ptVs l)) (hn : l.length = n) {i : Nat} {x : Int × Int × Int} (hx : l[i]? = some x) :
    w.cell? ⟨g, i * 3, none⟩ = some (.int .i64 x.1) ∧ w.cell? ⟨g, i * 3 + 1, none⟩ = some (.int .i64 x.2.1) ∧ w.cell? ⟨g, i * 3 + 2, none⟩ = some (.int .i64 x.2.2) := by
  have hi : i < n := by
    rcases Nat.lt_or_ge i n with h1 | h1
    · exact h1
    · rw [List.getElem?_eq_none (by omega)] at hx; cases hx
  obtain ⟨h1, h2, h3⟩ := ptVs_get l i x hx
  exact ⟨(h.cellAt _ (by omega)).trans h1, (h.cellAt _ (by omega)).trans h2, (h.cellAt _ (by omega)).trans h3⟩

end Go.Proofs.Ythiobfghanlelaa
