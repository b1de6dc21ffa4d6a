/-
  A slice value that holds these values; the comparison of two lists of numbers (Ints, Longs).
-/
import Derived.Test.YtpndfhdedmdoeaaKit
import Derived.Deep.DeepFit
namespace Go.Proofs.Ytpndfhdedmdoeaa
open Go.ChangeShapes Go.WideShapes Go.ChangeAt Go.RowKit
set_option linter.unusedVariables false

/-- a slice value whose elements, of one cell each, are these -/
def RowV (w : World) (v : Value) (xs : List Value) : Prop :=
  xs.length ≤ maxLen ∧ ((v = .slice none 0 0 ∧ xs = []) ∨ ∃ g o c, v = .slice (some ⟨g, o, none⟩) xs.length c ∧ g < w.heap.size ∧ ∀ i u, xs[i]? = some u → w.cell? ⟨g, o + i, none⟩ = some u)

theorem RowV.below {w w' : World} {v : Value} {xs : List Value} (h : RowV w v xs) (hb : Below w.heap.size w w') : RowV w' v xs := by
  refine ⟨h.1, ?_⟩
  rcases h.2 with h | ⟨g, o, c, hv, hg, hc⟩
  · exact .inl h
  · exact .inr ⟨g, o, c, hv, Nat.lt_of_lt_of_le hg hb.size, fun i u hu => (hb.cell (p := ⟨g, o + i, none⟩) hg).trans (hc i u hu)⟩

theorem RowV.alloc {w : World} {v : Value} {xs : List Value} (h : RowV w v xs) (o : Obj) : RowV (w.alloc o) v xs := h.below (Bnew (B0 _) _)
theorem RowV.of_own {w : World} {base : Nat} {e : TypeId} {v : Value} {xs : List Value} (h : w.ownsRow base e 1 v xs.length xs) : RowV w v xs := by
  rcases h.2 with ⟨rfl, hn⟩ | ⟨g, cap, cur, rfl, hb, hg, hnc, hcm, hcs, htake⟩
  · exact ⟨by omega, .inl ⟨rfl, List.eq_nil_of_length_eq_zero hn⟩⟩
  · have hl := h.lt g rfl
    refine ⟨by omega, .inr ⟨g, 0, cap, rfl, hl.2, fun i u hu => ?_⟩⟩
    have hi : i < xs.length := by
      rcases Nat.lt_or_ge i xs.length with h3 | h3
      · exact h3
      · rw [List.getElem?_eq_none h3] at hu; cases hu
    rw [Nat.zero_add, h.cellAt i (by omega), hu]

theorem Ints_same (xs : List Int) (v u : Value) (w : World) (h1 : RowV w v (xs.map (Value.int .i64))) (h2 : RowV w u (xs.map (Value.int .i64))) :
    Calls Try.prog 48 #[v, u] w fun e w' => e = .returned (.bool true) ∧ ∃ n, w' = w.drewN n := by
  have hm := h1.1
  unfold maxLen at hm
  rw [List.length_map] at hm
  by_cases hx : xs = []
  · subst hx
    have hv : ∃ A c, v = .slice A 0 c := by
      rcases h1.2 with ⟨rfl, _⟩ | ⟨g, o, c, rfl, _⟩
      · exact ⟨_, _, rfl⟩
      · exact ⟨_, _, rfl⟩
    have hu : ∃ A c, u = .slice A 0 c := by
      rcases h2.2 with ⟨rfl, _⟩ | ⟨g, o, c, rfl, _⟩
      · exact ⟨_, _, rfl⟩
      · exact ⟨_, _, rfl⟩
    obtain ⟨A, c, rfl⟩ := hv
    obtain ⟨B, d, rfl⟩ := hu
    clear h1 h2
    go_enter Try.func48, Try.ntmps48
    go_wp2
    refine wp_loop_rounds 1 ?_
    rw [rounds_succ]
    go_wp2
    go_ret
    exact ⟨rfl, 0, rfl⟩
  · rcases h1.2 with ⟨_, h⟩ | ⟨g, o, c, rfl, _, hc⟩
    · exact absurd (by simpa using h) hx
    rcases h2.2 with ⟨_, h⟩ | ⟨g2, o2, c2, rfl, _, hc2⟩
    · exact absurd (by simpa using h) hx
    have HC : Hid (∀ k, k < xs.length → w.cell? ⟨g, o + k, none⟩ = some (.int .i64 (xs.getD k 0))) := hidp (fun k hk => hc k _ (by simp [hk]))
    have HC2 : Hid (∀ k, k < xs.length → w.cell? ⟨g2, o2 + k, none⟩ = some (.int .i64 (xs.getD k 0))) := hidp (fun k hk => hc2 k _ (by simp [hk]))
    clear hc hc2 h1 h2 hx
    rw [List.length_map]
    generalize hn : xs.length = n at *
    clear hn
    go_enter Try.func48, Try.ntmps48
    go_wp2
    go_loopw [5] (fun i wr => ∃ k m : Nat, k ≤ n ∧ i = .int .i64 k ∧ wr = w.drewN m) (fun i _ => n - (intOf i).toNat)
    case atStart => exact ⟨0, 0, by omega, rfl, rfl⟩
    case round =>
      obtain ⟨k, m, hk, rfl, rfl⟩ := hrel
      by_cases hlt : k < n
      · have c1 := HC.out k hlt
        have c2 := HC2.out k hlt
        generalize xs.getD k 0 = x at *
        go_wp2
        go_quiet (fail)
        go_wp2
        go_roundw
        case rel => exact ⟨k + 1, _, by omega, by go_num, rfl⟩
        case measure => simp [intOf]; omega
      · go_wp2
        go_ret
        exact ⟨rfl, m, rfl⟩

theorem longInfo : (Try.prog.info? 2).map (fun i => (i.zero, i.size, i.bytes)) = some (some (.int .i64 0), 1, 8) := by kernel_rfl
theorem intInfo : (Try.prog.info? 3).map (fun i => (i.zero, i.size, i.bytes)) = some (some (.int .i64 0), 1, 8) := by kernel_rfl
end Go.Proofs.Ytpndfhdedmdoeaa
