/-
  The comparisons Vals (nacreref01) and Pairs (nacreref11) of two lists that are the same. Written by view/gen_same.py.
-/
import Derived.Test.YtpndfhdedmdoeaaRow
import Derived.Test.YtpndfhdedmdoeaaViewMake
namespace Go.Proofs.Ytpndfhdedmdoeaa
open Go.ChangeShapes Go.WideShapes Go.ChangeAt Go.RowKit
set_option linter.unusedVariables false
set_option maxRecDepth 100000
set_option linter.unusedSimpArgs false

theorem valVs_len (l : List Nat) : (valVs l).length = l.length := by unfold valVs; simp
theorem valVs_at (l : List Nat) (k : Nat) (h : k < l.length) : (valVs l)[k]? = some (.int .u32 ((l.getD k 0 : Nat) : Int)) := by
  unfold valVs
  simp [List.getD, List.getElem?_eq_getElem h]
/-- a slice value whose elements are these pairs -/
def RowP (w : World) (v : Value) (l : List (Nat × Nat)) : Prop :=
  l.length ≤ maxLen ∧ ((v = .slice none 0 0 ∧ l = []) ∨ ∃ g c, v = .slice (some ⟨g, 0, none⟩) l.length c ∧ g < w.heap.size ∧ ∀ i u, (prVs l)[i]? = some u → w.cell? ⟨g, i, none⟩ = some u)
theorem RowP.below {w w' : World} {v : Value} {l : List (Nat × Nat)} (h : RowP w v l) (hb : Below w.heap.size w w') : RowP w' v l := by
  refine ⟨h.1, ?_⟩
  rcases h.2 with h | ⟨g, c, hv, hg, hc⟩
  · exact .inl h
  · exact .inr ⟨g, c, hv, Nat.lt_of_lt_of_le hg hb.size, fun i u hu => (hb.cell (p := ⟨g, i, none⟩) hg).trans (hc i u hu)⟩
theorem RowP.of_own {w : World} {base : Nat} {e : TypeId} {v : Value} {l : List (Nat × Nat)} (h : w.ownsRow base e 2 v l.length (prVs l)) : RowP w v l := by
  rcases h.2 with ⟨rfl, hn⟩ | ⟨g, cap, cur, rfl, hb, hg, hnc, hcm, hcs, htake⟩
  · exact ⟨by omega, .inl ⟨rfl, List.eq_nil_of_length_eq_zero hn⟩⟩
  · have hl := h.lt g rfl
    refine ⟨by omega, .inr ⟨g, cap, rfl, hl.2, fun i u hu => ?_⟩⟩
    have hi : i < (prVs l).length := by
      rcases Nat.lt_or_ge i (prVs l).length with h3 | h3
      · exact h3
      · rw [List.getElem?_eq_none h3] at hu; cases hu
    rw [prVs_len] at hi
    rw [h.cellAt i hi, hu]

theorem Pairs_same (l : List (Nat × Nat)) (v u : Value) (w : World) (h1 : RowP w v l) (h2 : RowP w u l) :
    Calls Try.prog 49 #[v, u] w fun e w' => e = .returned (.bool true) ∧ ∃ n, w' = w.drewN n := by
  have hm := h1.1
  unfold maxLen at hm
  by_cases hx : l = []
  · subst hx
    have hv : ∃ A c, v = .slice A 0 c := by
      rcases h1.2 with ⟨rfl, _⟩ | ⟨g, c, rfl, _⟩
      · exact ⟨_, _, rfl⟩
      · exact ⟨_, _, rfl⟩
    have hu : ∃ A c, u = .slice A 0 c := by
      rcases h2.2 with ⟨rfl, _⟩ | ⟨g, c, rfl, _⟩
      · exact ⟨_, _, rfl⟩
      · exact ⟨_, _, rfl⟩
    obtain ⟨A, c, rfl⟩ := hv
    obtain ⟨B, d, rfl⟩ := hu
    clear h1 h2
    go_enter Try.func49, Try.ntmps49
    go_wp2
    refine wp_loop_rounds 1 ?_
    rw [rounds_succ]
    go_wp2
    go_ret
    exact ⟨rfl, 0, rfl⟩
  · rcases h1.2 with ⟨_, h⟩ | ⟨g, c, rfl, _, hc⟩
    · exact absurd h hx
    rcases h2.2 with ⟨_, h⟩ | ⟨g2, c2, rfl, _, hc2⟩
    · exact absurd h hx
    have HC : Hid (∀ k, k < l.length → w.cell? ⟨g, k * 2, none⟩ = some (.int .i64 (cellW l k : Int)) ∧ w.cell? ⟨g, k * 2 + 1, none⟩ = some (.int .u32 (atW l k : Int))) := hidp (fun k hk => ⟨hc _ _ (prVs_at l k hk).1, hc _ _ (prVs_at l k hk).2⟩)
    have HC2 : Hid (∀ k, k < l.length → w.cell? ⟨g2, k * 2, none⟩ = some (.int .i64 (cellW l k : Int)) ∧ w.cell? ⟨g2, k * 2 + 1, none⟩ = some (.int .u32 (atW l k : Int))) := hidp (fun k hk => ⟨hc2 _ _ (prVs_at l k hk).1, hc2 _ _ (prVs_at l k hk).2⟩)
    clear hc hc2 h1 h2 hx
    generalize hn : l.length = n at *
    clear hn
    go_enter Try.func49, Try.ntmps49
    go_wp2
    go_loopw [5] (fun i wr => ∃ k m : Nat, k ≤ n ∧ i = .int .i64 k ∧ wr = w.drewN m) (fun i _ => n - (intOf i).toNat)
    case atStart => exact ⟨0, 0, by omega, rfl, rfl⟩
    case round =>
      obtain ⟨k, m, hk, rfl, rfl⟩ := hrel
      by_cases hlt : k < n
      · obtain ⟨c1, d1⟩ := HC.out k hlt
        obtain ⟨c2, d2⟩ := HC2.out k hlt
        generalize cellW l k = x at *
        generalize atW l k = y at *
        go_wp2
        go_quiet (fail)
        go_wp2
        go_roundw
        case rel => exact ⟨k + 1, _, by omega, by go_num, rfl⟩
        case measure => simp [intOf]; omega
      · go_wp2
        go_ret
        exact ⟨rfl, m, rfl⟩
end Go.Proofs.Ytpndfhdedmdoeaa
