/-
  Contracts of Free, of the document's Free, and of the comparison of two lists of numbers; then of the page's examples.
-/
import Derived.Test.YtjiedkfmbgfolaaHalfWords
import Derived.Deep.DeepFit
namespace Go.Proofs.Ytjiedkfmbgfolaa
open Go.RowKit
set_option linter.unusedVariables false

/-- a slice value whose elements, of one cell each, are these -/
def RowV (w : World) (v : Value) (xs : List Value) : Prop :=
  xs.length ≤ maxLen ∧ ((v = .slice none 0 0 ∧ xs = []) ∨ ∃ g o c, v = .slice (some ⟨g, o, none⟩) xs.length c ∧ g < w.heap.size ∧ ∀ i u, xs[i]? = some u → w.cell? ⟨g, o + i, none⟩ = some u)

theorem RowV.below {w w' : World} {v : Value} {xs : List Value} (h : RowV w v xs) (hb : Below w.heap.size w w') : RowV w' v xs := by
  refine ⟨h.1, ?_⟩
  rcases h.2 with h | ⟨g, o, c, hv, hg, hc⟩
  · exact .inl h
  · exact .inr ⟨g, o, c, hv, Nat.lt_of_lt_of_le hg hb.size, fun i u hu => (hb.cell (p := ⟨g, o + i, none⟩) hg).trans (hc i u hu)⟩

theorem RowV.of_own {w : World} {base : Nat} {e : TypeId} {v : Value} {xs : List Value} (h : w.ownsRow base e 1 v xs.length xs) : RowV w v xs := by
  rcases h.2 with ⟨rfl, hn⟩ | ⟨g, cap, cur, rfl, hb, hg, hnc, hcm, hcs, htake⟩
  · exact ⟨by omega, .inl ⟨rfl, List.eq_nil_of_length_eq_zero hn⟩⟩
  · have hl := h.lt g rfl
    refine ⟨by omega, .inr ⟨g, 0, cap, rfl, hl.2, fun i u hu => ?_⟩⟩
    have hi : i < xs.length := by
      rcases Nat.lt_or_ge i xs.length with h3 | h3
      · exact h3
      · rw [List.getElem?_eq_none h3] at hu; cases hu
    rw [Nat.zero_add, h.cellAt i (by omega), hu]

theorem Ints_same (xs : List Int) (v u : Value) (w : World) (h1 : RowV w v (xs.map (Value.int .i64))) (h2 : RowV w u (xs.map (Value.int .i64))) :
    Calls Try.prog 24 #[v, u] w fun e w' => e = .returned (.bool true) ∧ ∃ n, w' = w.drewN n := by
  have hm := h1.1
  unfold maxLen at hm
  rw [List.length_map] at hm
  by_cases hx : xs = []
  · subst hx
    have hv : ∃ A c, v = .slice A 0 c := by
      rcases h1.2 with ⟨rfl, _⟩ | ⟨g, o, c, rfl, _⟩
      · exact ⟨_, _, rfl⟩
      · exact ⟨_, _, rfl⟩
    have hu : ∃ A c, u = .slice A 0 c := by
      rcases h2.2 with ⟨rfl, _⟩ | ⟨g, o, c, rfl, _⟩
      · exact ⟨_, _, rfl⟩
      · exact ⟨_, _, rfl⟩
    obtain ⟨A, c, rfl⟩ := hv
    obtain ⟨B, d, rfl⟩ := hu
    clear h1 h2
    go_enter Try.func24, Try.ntmps24
    go_wp2
    refine wp_loop_rounds 1 ?_
    rw [rounds_succ]
    go_wp2
    go_ret
    exact ⟨rfl, 0, rfl⟩
  · rcases h1.2 with ⟨_, h⟩ | ⟨g, o, c, rfl, _, hc⟩
    · exact absurd (by simpa using h) hx
    rcases h2.2 with ⟨_, h⟩ | ⟨g2, o2, c2, rfl, _, hc2⟩
    · exact absurd (by simpa using h) hx
    have HC : Hid (∀ k, k < xs.length → w.cell? ⟨g, o + k, none⟩ = some (.int .i64 (xs.getD k 0))) := hidp (fun k hk => hc k _ (by simp [hk]))
    have HC2 : Hid (∀ k, k < xs.length → w.cell? ⟨g2, o2 + k, none⟩ = some (.int .i64 (xs.getD k 0))) := hidp (fun k hk => hc2 k _ (by simp [hk]))
    clear hc hc2 h1 h2 hx
    rw [List.length_map]
    generalize hn : xs.length = n at *
    clear hn
    go_enter Try.func24, Try.ntmps24
    go_wp2
    go_loopw [5] (fun i wr => ∃ k m : Nat, k ≤ n ∧ i = .int .i64 k ∧ wr = w.drewN m) (fun i _ => n - (intOf i).toNat)
    case atStart => exact ⟨0, 0, by omega, rfl, rfl⟩
    case round =>
      obtain ⟨k, m, hk, rfl, rfl⟩ := hrel
      by_cases hlt : k < n
      · have c1 := HC.out k hlt
        have c2 := HC2.out k hlt
        generalize xs.getD k 0 = x at *
        go_wp2
        go_quiet (fail)
        go_wp2
        go_roundw
        case rel => exact ⟨k + 1, _, by omega, by go_num, rfl⟩
        case measure => simp [intOf]; omega
      · go_wp2
        go_ret
        exact ⟨rfl, m, rfl⟩

theorem intInfo : (Try.prog.info? 3).map (fun i => (i.zero, i.size, i.bytes)) = some (some (.int .i64 0), 1, 8) := by kernel_rfl

/-- the numbers that Free answers, as values, up to the place k -/
def freeV (v k : Nat) : List Value := (HM.freeTo v k).map fun (i : Nat) => Value.int .i64 (i : Int)
theorem freeV_one (v k : Nat) (h : v.testBit k = true) : freeV v (k + 1) = freeV v k := by unfold freeV; rw [HM.freeTo_succ, h]; simp
theorem freeV_zero (v k : Nat) (h : v.testBit k = false) : freeV v (k + 1) = freeV v k ++ [.int .i64 (k : Int)] := by unfold freeV; rw [HM.freeTo_succ, h]; simp
theorem freeV_len (v k : Nat) : (freeV v k).length = (HM.freeTo v k).length := by unfold freeV; simp
theorem freeV_le (v k : Nat) : (freeV v k).length ≤ k := by rw [freeV_len]; exact HM.freeTo_le v k
/-- how far Free looks -/
def upTo (n : Int) : Nat := (min n 32).toNat

/-- what Free leaves: a new list of its own that holds the places, all else as it was -/
def Frees (v : Nat) (n : Int) (w : World) (e : Ending) (w' : World) : Prop :=
  ∃ u, e = .returned u ∧ w'.ownsRow w.heap.size 3 1 u (freeV v (upTo n)).length (freeV v (upTo n)) ∧ Below w.heap.size w w'

set_option maxHeartbeats 800000 in
theorem Free_up (v M : Nat) (n : Int) (hv : v < 2 ^ 32) (hM : (M : Int) ≤ n) (hM2 : M ≤ 32) (hM3 : n ≤ 32 ∧ (M : Int) = n ∨ 32 < n ∧ M = 32) (hn : n ≤ 9223372036854775807) (w : World) :
    Calls Try.prog 25 #[.int .u32 (v : Int), .int .i64 n] w fun e w' =>
      ∃ u, e = .returned u ∧ w'.ownsRow w.heap.size 3 1 u (freeV v M).length (freeV v M) ∧ Below w.heap.size w w' := by
  obtain ⟨i0, hi, hz0, hz1, hz2⟩ := info_parts intInfo
  have HM3 := hidp hM3
  rcases hM3 with ⟨hA, hB⟩ | ⟨hA, hB⟩
  all_goals
    have HB := hidp hB
    clear hB
    go_enter Try.func25, Try.ntmps25
    go_wp2
    go_loopw [5, 9] (fun u i wr => ∃ k : Nat, k ≤ M ∧ i = .int .i64 k ∧ wr.ownsRow w.heap.size 3 1 u (freeV v k).length (freeV v k) ∧ Below w.heap.size w wr) (fun _ i _ => M - (intOf i).toNat)
    case atStart => exact ⟨0, by omega, rfl, World.ownsRow_nil _ _ _ _, Below.refl _ _⟩
    case round =>
      obtain ⟨k, hk, rfl, hown, hb⟩ := hrel
      by_cases hlt : k < M
      · have hl := freeV_le v k
        have hki : (k : Int) < n := by omega
        have hk32 : k < 32 := by omega
        cases hbit : v.testBit k
        · have HT := hidp ((congrArg v.testBit (Int.toNat_natCast k)).trans hbit)
          have HZ := hidp (freeV_zero v k hbit)
          clear hbit
          go_wp2_with (first
            | (go_at_call 31; refine (isOne_c v k _ hv (by omega) (by omega) HT.out _).mono ?_; rintro e w' ⟨rfl, rfl⟩)
            | (at_builtin
               refine wpList_append_own _ rfl _ _ 38 rfl w.heap.size 3 i0 (.int .i64 0) 1 8 Try.underlying38 hi hz0 hz1 hz2 rfl (by decide) _ _ _ rfl (hown.alloc _) ⟨_, 0, none⟩ 1 1 [.int .i64 (k : Int)] rfl rfl ?c1 ?c2 ?c3 ?c4 ?c5 ?_
               case c1 => intro j y hy; rcases j with _ | j; (· simp at hy; subst hy; simp [Addr.add]); (· simp at hy)
               case c2 => simp [Value.oneCell']
               case c3 => unfold maxLen; omega
               case c4 => omega
               case c5 => have := hb.size; simp; omega
               intro u1 w1 hown1 hgrow _))
          have hb1 := (hb.alloc hb.size _).grown hgrow (by have := hb.size; simp; omega) (fun j hj => (hown.lt j hj).1)
          go_roundw
          case rel => exact ⟨k + 1, by omega, by go_num, by rw [HZ.out, List.length_append]; exact hown1, hb1⟩
          case measure => simp [intOf]; omega
        · have HT := hidp ((congrArg v.testBit (Int.toNat_natCast k)).trans hbit)
          have HO := hidp (freeV_one v k hbit)
          clear hbit
          go_wp2_with (go_at_call 31; refine (isOne_c v k _ hv (by omega) (by omega) HT.out _).mono ?_; rintro e w' ⟨rfl, rfl⟩)
          go_roundw
          case rel => exact ⟨k + 1, by omega, by go_num, by rw [HO.out]; exact hown, hb⟩
          case measure => simp [intOf]; omega
      · obtain rfl : k = M := by omega
        have hlast : n ≤ (k : Int) ∨ 32 ≤ (k : Int) := by have := HB.out; omega
        go_wp2
        go_ret
        exact ⟨_, rfl, hown, hb⟩

set_option maxHeartbeats 800000 in
theorem RFree_up (v M : Nat) (n : Int) (hv : v < 2 ^ 32) (hM : (M : Int) ≤ n) (hM2 : M ≤ 32) (hM3 : n ≤ 32 ∧ (M : Int) = n ∨ 32 < n ∧ M = 32) (hn : n ≤ 9223372036854775807) (w : World) :
    Calls Try.prog 26 #[.int .u32 (v : Int), .int .i64 n] w fun e w' =>
      ∃ u, e = .returned u ∧ w'.ownsRow w.heap.size 3 1 u (freeV v M).length (freeV v M) ∧ Below w.heap.size w w' := by
  obtain ⟨i0, hi, hz0, hz1, hz2⟩ := info_parts intInfo
  have HM3 := hidp hM3
  rcases hM3 with ⟨hA, hB⟩ | ⟨hA, hB⟩
  all_goals
    have HB := hidp hB
    clear hB
    go_enter Try.func26, Try.ntmps26
    go_wp2
    go_loopw [5, 6] (fun u i wr => ∃ k : Nat, k ≤ M ∧ i = .int .i64 k ∧ wr.ownsRow w.heap.size 3 1 u (freeV v k).length (freeV v k) ∧ Below w.heap.size w wr) (fun _ i _ => M - (intOf i).toNat)
    case atStart => exact ⟨0, by omega, rfl, by simpa [freeV, HM.freeTo] using World.ownsRow_lit (base := w.heap.size) (e := 3) (size := 1) w #[] 0 (Nat.le_refl _) (by unfold maxLen; omega) rfl, (Below.refl _ _).alloc (Nat.le_refl _) _⟩
    case round =>
      obtain ⟨k, hk, rfl, hown, hb⟩ := hrel
      by_cases hlt : k < M
      · have hl := freeV_le v k
        have hki : (k : Int) < n := by omega
        have hk32 : k < 32 := by omega
        cases hbit : v.testBit k
        · have HT := hidp ((congrArg v.testBit (Int.toNat_natCast k)).trans hbit)
          have HZ := hidp (freeV_zero v k hbit)
          clear hbit
          go_wp2_with (first
            | (go_at_call 32; refine (Bit_c v k _ hv (by omega) (by omega) HT.out _).mono ?_; rintro e w' ⟨rfl, rfl⟩)
            | (at_builtin
               refine wpList_append_own _ rfl _ _ 38 rfl w.heap.size 3 i0 (.int .i64 0) 1 8 Try.underlying38 hi hz0 hz1 hz2 rfl (by decide) _ _ _ rfl (hown.alloc _) ⟨_, 0, none⟩ 1 1 [.int .i64 (k : Int)] rfl rfl ?c1 ?c2 ?c3 ?c4 ?c5 ?_
               case c1 => intro j y hy; rcases j with _ | j; (· simp at hy; subst hy; simp [Addr.add]); (· simp at hy)
               case c2 => simp [Value.oneCell']
               case c3 => unfold maxLen; omega
               case c4 => omega
               case c5 => have := hb.size; simp; omega
               intro u1 w1 hown1 hgrow _))
          have hb1 := (hb.alloc hb.size _).grown hgrow (by have := hb.size; simp; omega) (fun j hj => (hown.lt j hj).1)
          go_roundw
          case rel => exact ⟨k + 1, by omega, by go_num, by rw [HZ.out, List.length_append]; exact hown1, hb1⟩
          case measure => simp [intOf]; omega
        · have HT := hidp ((congrArg v.testBit (Int.toNat_natCast k)).trans hbit)
          have HO := hidp (freeV_one v k hbit)
          clear hbit
          go_wp2_with (go_at_call 32; refine (Bit_c v k _ hv (by omega) (by omega) HT.out _).mono ?_; rintro e w' ⟨rfl, rfl⟩)
          go_roundw
          case rel => exact ⟨k + 1, by omega, by go_num, by rw [HO.out]; exact hown, hb⟩
          case measure => simp [intOf]; omega
      · obtain rfl : k = M := by omega
        have hlast : n ≤ (k : Int) ∨ 32 ≤ (k : Int) := by have := HB.out; omega
        go_wp2
        go_ret
        exact ⟨_, rfl, hown, hb⟩

theorem Free_low (v : Nat) (n : Int) (hv : v < 2 ^ 32) (h0 : -9223372036854775808 ≤ n) (hn : n < 0) (w : World) :
    Calls Try.prog 25 #[.int .u32 (v : Int), .int .i64 n] w fun e w' => e = .returned (.slice none 0 0) ∧ w = w' := by
  go_enter Try.func25, Try.ntmps25
  go_wp2
  refine wp_loop_rounds 1 ?_
  rw [rounds_succ]
  go_wp2
  go_ret
  exact ⟨rfl, rfl⟩
theorem RFree_low (v : Nat) (n : Int) (hv : v < 2 ^ 32) (h0 : -9223372036854775808 ≤ n) (hn : n < 0) (w : World) :
    Calls Try.prog 26 #[.int .u32 (v : Int), .int .i64 n] w fun e w' => e = .returned (.slice (some ⟨w.heap.size, 0, none⟩) 0 0) ∧ w' = w.alloc (.cells #[] 3) := by
  go_enter Try.func26, Try.ntmps26
  go_wp2
  refine wp_loop_rounds 1 ?_
  rw [rounds_succ]
  go_wp2
  go_ret
  exact ⟨rfl, rfl⟩

theorem upTo_low {n : Int} (h : n < 0) : upTo n = 0 := by unfold upTo; omega

theorem Free_c (v : Nat) (n : Int) (hv : v < 2 ^ 32) (h0 : -9223372036854775808 ≤ n) (h1 : n ≤ 9223372036854775807) (w : World) :
    Calls Try.prog 25 #[.int .u32 (v : Int), .int .i64 n] w (Frees v n w) := by
  by_cases hn : n < 0
  · refine (Free_low v n hv h0 hn w).mono ?_
    rintro e w' ⟨rfl, rfl⟩
    refine ⟨_, rfl, ?_, Below.refl _ _⟩
    rw [upTo_low hn]
    exact World.ownsRow_nil _ _ _ _
  · exact Free_up v (upTo n) n hv (by unfold upTo; omega) (by unfold upTo; omega) (by unfold upTo; omega) h1 w

theorem RFree_c (v : Nat) (n : Int) (hv : v < 2 ^ 32) (h0 : -9223372036854775808 ≤ n) (h1 : n ≤ 9223372036854775807) (w : World) :
    Calls Try.prog 26 #[.int .u32 (v : Int), .int .i64 n] w (Frees v n w) := by
  by_cases hn : n < 0
  · refine (RFree_low v n hv h0 hn w).mono ?_
    rintro e w' ⟨rfl, rfl⟩
    refine ⟨_, rfl, ?_, (Below.refl _ _).alloc (Nat.le_refl _) _⟩
    rw [upTo_low hn]
    exact World.ownsRow_lit (base := w.heap.size) (e := 3) (size := 1) w #[] 0 (Nat.le_refl _) (by unfold maxLen; omega) rfl
  · exact RFree_up v (upTo n) n hv (by unfold upTo; omega) (by unfold upTo; omega) (by unfold upTo; omega) h1 w

theorem live_c (w : World) : Calls Try.prog 13 #[] w (Keeps w) := by
  go_enter Try.func13, Try.ntmps13
  go_wp2_with fail
  refine (Put_c 0 15 4 4 (by omega) (by omega) (by omega) (by omega) (by omega) (by omega) _).mono ?_
  rintro e w1 ⟨rfl, n1, rfl⟩
  rw [show putI 0 4 4 15 = 240 from by decide +kernel, show putOk 4 4 15 = true from by decide +kernel]
  go_wp2_with fail
  refine (Put_c 0 16 4 4 (by omega) (by omega) (by omega) (by omega) (by omega) (by omega) _).mono ?_
  rintro e w1 ⟨rfl, n2, rfl⟩
  rw [show putI 0 4 4 16 = 0 from by decide +kernel, show putOk 4 4 16 = false from by decide +kernel]
  go_wp2_with fail
  refine (Free_c 11 4 (by omega) (by omega) (by omega) _).mono ?_
  rintro e w2 ⟨u, rfl, hown, hb⟩
  have hf : freeV 11 (upTo 4) = [.int .i64 2] := by unfold freeV; rw [show HM.freeTo 11 (upTo 4) = [2] from by decide +kernel]; rfl
  rw [hf] at hown
  have R1 := RowV.of_own hown
  have hb1 := hb.alloc hb.size (.cells #[.int .i64 2] 3)
  have R2 : RowV (w2.alloc (.cells #[.int .i64 2] 3)) u ([2].map (Value.int .i64)) := R1.below ((Below.refl _ _).alloc (Nat.le_refl _) _)
  have R3 : RowV (w2.alloc (.cells #[.int .i64 2] 3)) (.slice (some ⟨w2.heap.size, 0, none⟩) 1 1) ([2].map (Value.int .i64)) :=
    RowV.of_own (World.ownsRow_lit (base := w2.heap.size) (e := 3) (size := 1) w2 #[.int .i64 2] 1 (Nat.le_refl _) (by unfold maxLen; omega) rfl)
  have HB := hidp hb1
  have HR2 := hidp R2
  have HR3 := hidp R3
  clear hown hb hb1 R1 R2 R3 hf
  go_wp2_with fail
  refine (Ints_same [2] _ _ _ HR2.out HR3.out).mono ?_
  rintro e w3 ⟨rfl, n3, rfl⟩
  go_wp2_with fail
  refine (Log_c 9 (by omega) (by omega) _).mono ?_
  rintro e w4 ⟨rfl, rfl⟩
  rw [show HM.logI 9 = 3 from by decide +kernel]
  go_wp2_with fail
  refine (Lowest_c 0 (by omega) _).mono ?_
  rintro e w4 ⟨rfl, rfl⟩
  rw [show HM.lowestN 0 = -1 from by decide +kernel]
  go_wp2_with fail
  refine (Join_c 1 0 (by omega) (by omega) _).mono ?_
  rintro e w4 ⟨rfl, rfl⟩
  go_wp2
  go_ret
  exact ⟨rfl, below_draws (below_draws_left HB.out) _⟩

end Go.Proofs.Ytjiedkfmbgfolaa
