/-
  slices.Clone: a row of the call's own, of the same cells. Written by view/gen_clones.py.
-/
import Derived.Test.YtpndfhdedmdoeaaRow
import Derived.Test.YtpndfhdedmdoeaaTurns
import Derived.Lib.SliceRun
namespace Go.Proofs.Ytpndfhdedmdoeaa
open Go.ChangeShapes Go.WideShapes Go.ChangeAt Go.RowKit Go.Maps
set_option linter.unusedVariables false
set_option maxRecDepth 100000
set_option linter.unusedSimpArgs false

theorem valInfo : (Try.prog.info? 62).map (fun i => (i.zero, i.size, i.bytes)) = some (some (.int .u32 0), 1, 4) := by kernel_rfl
theorem pairInfo : (Try.prog.info? 86).map (fun i => (i.zero, i.size, i.bytes)) = some (some (.agg #[.int .i64 0, .int .u32 0]), 2, 16) := by kernel_rfl

theorem CloneVals_c (A : Option Addr) (n c : Nat) (xs : List Value) (hl : xs.length = n * 1) (hmx : n * 4 ≤ 140737488355328) (h1 : ∀ u ∈ xs, u.oneCell' = true) (w : World)
    (hA : 0 < n → ∃ ad, A = some ad ∧ ∀ j u, xs[j]? = some u → w.cell? (ad.add j) = some u) :
    Calls Try.prog 27 #[.slice A n c] w fun e w' => ∃ v, e = .returned v ∧ w'.ownsRow w.heap.size 62 1 v n xs ∧ (A = none → v = .slice none 0 0) ∧ Below w.heap.size w w' := by
  have q22 : ∀ (w : World) (a : Option Addr) (n c n' c' : Nat), (binOp .eql 24 (.slice a n c) (.slice none n' c')).run Try.prog w = .ok (.bool a.isNone) w := fun w a n c n' c' => Lib.run_eql_slice_nil w _ _ a n c n' c' Try.underlying24
  cases A with
  | none =>
    have hn : n = 0 := by
      rcases Nat.eq_zero_or_pos n with h | h
      · exact h
      · obtain ⟨ad, h2, _⟩ := hA h
        cases h2
    subst hn
    have hx : xs = [] := List.eq_nil_of_length_eq_zero (by omega)
    subst hx
    go_enter Try.func27, Try.ntmps27
    go_wp2
    go_ret
    exact ⟨_, rfl, World.ownsRow_nil _ _ _ _, fun _ => rfl, B0 _⟩
  | some ad =>
    obtain ⟨i0, hi, hz0, hz1, hz2⟩ := info_parts valInfo
    have HC : Hid (∀ j u, xs[j]? = some u → w.cell? (ad.add j) = some u) := hidp (fun j u hu => by
      rcases Nat.eq_zero_or_pos n with h | h
      · have hx : xs = [] := List.eq_nil_of_length_eq_zero (by simp [hl, h])
        subst hx
        cases hu
      · obtain ⟨ad', h2, h3⟩ := hA h
        injection h2 with h2
        subst h2
        exact h3 j u hu)
    clear hA
    go_enter Try.func27, Try.ntmps27
    go_wp2_with (at_builtin
                 refine wpList_append_own _ rfl _ _ 24 rfl w.heap.size 62 i0 (.int .u32 0) 1 4 Try.underlying24 hi hz0 hz1 hz2 rfl (by decide) _ 0 [] rfl (World.ownsRow_made w #[] 0 (Nat.le_refl _) (Nat.zero_le _) (by simp)) ad n c xs rfl ?c1 ?c2 ?c3 ?c4 ?c5 ?c6 ?_)
    case c1 => exact hl
    case c2 => exact fun j u hj => Lib.cell?_alloc_some _ (HC.out j u hj)
    case c3 => exact h1
    case c4 => rw [Nat.zero_add]; unfold maxLen; omega
    case c5 => rw [Nat.zero_add]; exact hmx
    case c6 => simp
    intro v' w1 hown hgrow hnil
    have HB := hidp (((Below.refl _ w).alloc (Nat.le_refl _) (.cells #[] 62)).grown hgrow (by simp) (by intro k hk; simp [Value.ownBlock] at hk; omega))
    have HO := hidp hown
    clear hgrow hown hnil
    go_wp2
    go_ret
    exact ⟨_, rfl, by simpa using HO.out, fun h => (by cases h), HB.out⟩

theorem CloneInts_c (A : Option Addr) (n c : Nat) (xs : List Value) (hl : xs.length = n * 1) (hmx : n * 8 ≤ 140737488355328) (h1 : ∀ u ∈ xs, u.oneCell' = true) (w : World)
    (hA : 0 < n → ∃ ad, A = some ad ∧ ∀ j u, xs[j]? = some u → w.cell? (ad.add j) = some u) :
    Calls Try.prog 51 #[.slice A n c] w fun e w' => ∃ v, e = .returned v ∧ w'.ownsRow w.heap.size 3 1 v n xs ∧ (A = none → v = .slice none 0 0) ∧ Below w.heap.size w w' := by
  have q22 : ∀ (w : World) (a : Option Addr) (n c n' c' : Nat), (binOp .eql 40 (.slice a n c) (.slice none n' c')).run Try.prog w = .ok (.bool a.isNone) w := fun w a n c n' c' => Lib.run_eql_slice_nil w _ _ a n c n' c' Try.underlying40
  cases A with
  | none =>
    have hn : n = 0 := by
      rcases Nat.eq_zero_or_pos n with h | h
      · exact h
      · obtain ⟨ad, h2, _⟩ := hA h
        cases h2
    subst hn
    have hx : xs = [] := List.eq_nil_of_length_eq_zero (by omega)
    subst hx
    go_enter Try.func51, Try.ntmps51
    go_wp2
    go_ret
    exact ⟨_, rfl, World.ownsRow_nil _ _ _ _, fun _ => rfl, B0 _⟩
  | some ad =>
    obtain ⟨i0, hi, hz0, hz1, hz2⟩ := info_parts intInfo
    have HC : Hid (∀ j u, xs[j]? = some u → w.cell? (ad.add j) = some u) := hidp (fun j u hu => by
      rcases Nat.eq_zero_or_pos n with h | h
      · have hx : xs = [] := List.eq_nil_of_length_eq_zero (by simp [hl, h])
        subst hx
        cases hu
      · obtain ⟨ad', h2, h3⟩ := hA h
        injection h2 with h2
        subst h2
        exact h3 j u hu)
    clear hA
    go_enter Try.func51, Try.ntmps51
    go_wp2_with (at_builtin
                 refine wpList_append_own _ rfl _ _ 40 rfl w.heap.size 3 i0 (.int .i64 0) 1 8 Try.underlying40 hi hz0 hz1 hz2 rfl (by decide) _ 0 [] rfl (World.ownsRow_made w #[] 0 (Nat.le_refl _) (Nat.zero_le _) (by simp)) ad n c xs rfl ?c1 ?c2 ?c3 ?c4 ?c5 ?c6 ?_)
    case c1 => exact hl
    case c2 => exact fun j u hj => Lib.cell?_alloc_some _ (HC.out j u hj)
    case c3 => exact h1
    case c4 => rw [Nat.zero_add]; unfold maxLen; omega
    case c5 => rw [Nat.zero_add]; exact hmx
    case c6 => simp
    intro v' w1 hown hgrow hnil
    have HB := hidp (((Below.refl _ w).alloc (Nat.le_refl _) (.cells #[] 3)).grown hgrow (by simp) (by intro k hk; simp [Value.ownBlock] at hk; omega))
    have HO := hidp hown
    clear hgrow hown hnil
    go_wp2
    go_ret
    exact ⟨_, rfl, by simpa using HO.out, fun h => (by cases h), HB.out⟩

theorem ClonePairs_c (A : Option Addr) (n c : Nat) (xs : List Value) (hl : xs.length = n * 2) (hmx : n * 16 ≤ 140737488355328) (h1 : ∀ u ∈ xs, u.oneCell' = true) (w : World)
    (hA : 0 < n → ∃ ad, A = some ad ∧ ∀ j u, xs[j]? = some u → w.cell? (ad.add j) = some u) :
    Calls Try.prog 52 #[.slice A n c] w fun e w' => ∃ v, e = .returned v ∧ w'.ownsRow w.heap.size 86 2 v n xs ∧ (A = none → v = .slice none 0 0) ∧ Below w.heap.size w w' := by
  have q22 : ∀ (w : World) (a : Option Addr) (n c n' c' : Nat), (binOp .eql 42 (.slice a n c) (.slice none n' c')).run Try.prog w = .ok (.bool a.isNone) w := fun w a n c n' c' => Lib.run_eql_slice_nil w _ _ a n c n' c' Try.underlying42
  cases A with
  | none =>
    have hn : n = 0 := by
      rcases Nat.eq_zero_or_pos n with h | h
      · exact h
      · obtain ⟨ad, h2, _⟩ := hA h
        cases h2
    subst hn
    have hx : xs = [] := List.eq_nil_of_length_eq_zero (by omega)
    subst hx
    go_enter Try.func52, Try.ntmps52
    go_wp2
    go_ret
    exact ⟨_, rfl, World.ownsRow_nil _ _ _ _, fun _ => rfl, B0 _⟩
  | some ad =>
    obtain ⟨i0, hi, hz0, hz1, hz2⟩ := info_parts pairInfo
    have HC : Hid (∀ j u, xs[j]? = some u → w.cell? (ad.add j) = some u) := hidp (fun j u hu => by
      rcases Nat.eq_zero_or_pos n with h | h
      · have hx : xs = [] := List.eq_nil_of_length_eq_zero (by simp [hl, h])
        subst hx
        cases hu
      · obtain ⟨ad', h2, h3⟩ := hA h
        injection h2 with h2
        subst h2
        exact h3 j u hu)
    clear hA
    go_enter Try.func52, Try.ntmps52
    go_wp2_with (at_builtin
                 refine wpList_append_own _ rfl _ _ 42 rfl w.heap.size 86 i0 (.agg #[.int .i64 0, .int .u32 0]) 2 16 Try.underlying42 hi hz0 hz1 hz2 rfl (by decide) _ 0 [] rfl (World.ownsRow_made w #[] 0 (Nat.le_refl _) (Nat.zero_le _) (by simp)) ad n c xs rfl ?c1 ?c2 ?c3 ?c4 ?c5 ?c6 ?_)
    case c1 => exact hl
    case c2 => exact fun j u hj => Lib.cell?_alloc_some _ (HC.out j u hj)
    case c3 => exact h1
    case c4 => rw [Nat.zero_add]; unfold maxLen; omega
    case c5 => rw [Nat.zero_add]; exact hmx
    case c6 => simp
    intro v' w1 hown hgrow hnil
    have HB := hidp (((Below.refl _ w).alloc (Nat.le_refl _) (.cells #[] 86)).grown hgrow (by simp) (by intro k hk; simp [Value.ownBlock] at hk; omega))
    have HO := hidp hown
    clear hgrow hown hnil
    go_wp2
    go_ret
    exact ⟨_, rfl, by simpa using HO.out, fun h => (by cases h), HB.out⟩
end Go.Proofs.Ytpndfhdedmdoeaa
