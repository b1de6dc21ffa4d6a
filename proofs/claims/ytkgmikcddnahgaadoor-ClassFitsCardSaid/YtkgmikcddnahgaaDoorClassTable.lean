/-
  Contracts of class's and nacreref05's tables, and of the class of a size.
-/
import Derived.Test.YtkgmikcddnahgaaDoorClass
import Derived.Deep.DeepFit
namespace Go.Proofs.YtkgmikcddnahgaaDoor
open Go.ChangeShapes Go.WideShapes Go.ChangeAt Go.RowKit
set_option linter.unusedVariables false
set_option linter.unusedSimpArgs false

/-- the sizes of the classes below k -/
def sizesTo (s : Int) (k : Nat) : List Int := (List.range k).map fun (j : Nat) => ((sizeN s (j : Int) : Nat) : Int)
/-- the sizes of all classes; nothing, if there is no such shift -/
def tableL (s : Int) : List Int := if pageS s = 0 then [] else sizesTo s 9
theorem sizesTo_succ (s : Int) (k : Nat) : sizesTo s (k + 1) = sizesTo s k ++ [((sizeN s (k : Int) : Nat) : Int)] := by unfold sizesTo; rw [List.range_succ, List.map_append]; rfl
theorem sizesTo_len (s : Int) (k : Nat) : (sizesTo s k).length = k := by unfold sizesTo; simp
theorem sizesTo_at (s : Int) {j k : Nat} (h : j < k) : (sizesTo s k)[j]? = some ((sizeN s (j : Int) : Nat) : Int) := by unfold sizesTo; simp [h]
theorem tableL_no {s : Int} (h : pageS s = 0) : tableL s = [] := by unfold tableL; rw [if_pos h]
theorem tableL_yes {s : Int} (h : ¬ pageS s = 0) : tableL s = sizesTo s 9 := by unfold tableL; rw [if_neg h]

/-- a table under way: the first k places filled -/
def rowTo (s : Int) (k : Nat) : Array Value := ((sizesTo s k).map (Value.int .i64) ++ List.replicate (9 - k) (Value.int .i64 0)).toArray
theorem rowTo_zero (s : Int) : rowTo s 0 = #[.int .i64 0, .int .i64 0, .int .i64 0, .int .i64 0, .int .i64 0, .int .i64 0, .int .i64 0, .int .i64 0, .int .i64 0] := rfl
theorem rowTo_full (s : Int) : (rowTo s 9).toList = (sizesTo s 9).map (Value.int .i64) := by unfold rowTo; simp
theorem rowTo_put (s : Int) {k : Nat} (h : k < 9) : (rowTo s k).setIfInBounds k (.int .i64 ((sizeN s (k : Int) : Nat) : Int)) = rowTo s (k + 1) := by
  unfold rowTo
  rw [sizesTo_succ, List.map_append, List.setIfInBounds_toArray]
  congr 1
  have hl : ((sizesTo s k).map (Value.int .i64)).length = k := by rw [List.length_map, sizesTo_len]
  rw [List.set_append_right _ _ (by omega), hl, Nat.sub_self, show 9 - k = (9 - (k + 1)) + 1 by omega, List.replicate_succ, List.set_cons_zero]
  simp

theorem rowTo_get (s : Int) {k : Nat} (h : k < 9) : (rowTo s k)[k]? = some (.int .i64 0) := by
  unfold rowTo
  have hl : ((sizesTo s k).map (Value.int .i64)).length = k := by rw [List.length_map, sizesTo_len]
  rw [List.getElem?_toArray, List.getElem?_append_right (by omega), hl, Nat.sub_self, show 9 - k = (9 - (k + 1)) + 1 by omega, List.replicate_succ]
  rfl
theorem Held.thawed {w : World} {g : Nat} {t : TypeId} {cs : Array Value} (h : Held w g t cs) (i : Nat) : w.frozen? ⟨g, i, none⟩ = false := by
  unfold Held at h
  simp [World.frozen?, h]

theorem make9 (w : World) : (Instr.makeSlice 25 (.int .i64 9) (.int .i64 9)).run Tryd.prog w = .ok (.slice (some ⟨w.heap.size, 0, none⟩) 9 9) (w.alloc (.cells #[.int .i64 0, .int .i64 0, .int .i64 0, .int .i64 0, .int .i64 0, .int .i64 0, .int .i64 0, .int .i64 0, .int .i64 0] 2)) := by kernel_rfl

set_option maxHeartbeats 1600000 in
theorem clTable_yes (s : Int) (hp : ¬ pageS s = 0) (w : World) (hT : SlotsLaid w) :
    Calls Tryd.prog 11 #[.int .i64 s] w fun e w' => ∃ g, e = .returned (.slice (some ⟨g, 0, none⟩) 9 9) ∧ Held w' g 2 (rowTo s 9) ∧ w.heap.size ≤ g ∧ Below w.heap.size w w' := by
  have p1 : ((pageS s : Int) == 0) = false := by simpa using hp
  have hmk := make9
  go_enter Tryd.func11, Tryd.ntmps11
  go_wp2_with fail
  refine (clpage_c s _).mono ?_
  rintro e w1 ⟨rfl, hb1⟩
  go_wp2
  have HB := hidp hb1
  have hz := hb1.size
  have HT := hidp hT
  clear hmk hp hT hb1
  go_loopw [11] (fun i wr => ∃ k : Nat, k ≤ 9 ∧ i = .int .i64 k ∧ Held wr w1.heap.size 2 (rowTo s k) ∧ Below w.heap.size w wr) (fun i _ => 9 - (intOf i).toNat)
  case atStart => exact ⟨0, by omega, rfl, Held.new w1 _ _, Bnew (Bgo (B0 _) HB.out) _⟩
  case round =>
    obtain ⟨k, hk, rfl, hh, hb⟩ := hrel
    by_cases hlt : k < 9
    · have HH := hidp hh
      have HB2 := hidp hb
      clear hh hb
      go_wp2_with fail
      refine (clSize_c s k (by omega) (by omega) _ (HT.out.below HB2.out)).mono ?_
      rintro e w2 ⟨rfl, hb2⟩
      have hh2 := HH.out.keep hb2
      have HH2 := hidp hh2
      have hlt2 := hh2.lt
      have HB3 := hidp (Bgo HB2.out hb2)
      have hc := (hh2.cell k).trans (rowTo_get s hlt)
      have hf := hh2.thawed k
      clear hb2 hh2
      go_wp2
      go_roundw
      case rel =>
        refine ⟨k + 1, by omega, by go_num, ?_, Bput HB3.out (by simpa using hz) _⟩
        have := HH2.out.put k (.int .i64 ((sizeN s (k : Int) : Nat) : Int))
        rw [rowTo_put s hlt] at this
        exact this
      case measure => simp [intOf]; omega
    · obtain rfl : k = 9 := by omega
      go_wp2
      go_ret
      exact ⟨_, rfl, hh, hz, hb⟩

theorem clTable_no (s : Int) (hp : pageS s = 0) (w : World) :
    Calls Tryd.prog 11 #[.int .i64 s] w fun e w' => e = .returned (.slice none 0 0) ∧ Below w.heap.size w w' := by
  have HP := hidp hp
  clear hp
  go_enter Tryd.func11, Tryd.ntmps11
  go_wp2_with fail
  refine (clpage_c s _).mono ?_
  rintro e w1 ⟨rfl, hb1⟩
  rw [HP.out]
  go_wp2
  go_ret
  exact ⟨rfl, hb1⟩

/-- a table, as a value of the world -/
def Tabled (s : Int) (w : World) (e : Ending) (w' : World) : Prop := ∃ v, e = .returned v ∧ RowV w' v ((tableL s).map (Value.int .i64)) ∧ Below w.heap.size w w'
theorem row_of_held {s : Int} {w : World} {g : Nat} {t : TypeId} (h : Held w g t (rowTo s 9)) : RowV w (.slice (some ⟨g, 0, none⟩) 9 9) ((sizesTo s 9).map (Value.int .i64)) := by
  have hl : ((sizesTo s 9).map (Value.int .i64)).length = 9 := by rw [List.length_map, sizesTo_len]
  refine ⟨by rw [hl]; unfold maxLen; omega, .inr ⟨g, 0, 9, by rw [hl], h.lt, fun i u hu => ?_⟩⟩
  rw [Nat.zero_add, h.cell i, ← Array.getElem?_toList, rowTo_full, hu]
theorem clTable_c (s : Int) (w : World) (hT : SlotsLaid w) : Calls Tryd.prog 11 #[.int .i64 s] w (Tabled s w) := by
  by_cases hp : pageS s = 0
  · refine (clTable_no s hp w).mono ?_
    rintro e w' ⟨rfl, hb⟩
    exact ⟨_, rfl, by rw [tableL_no hp]; exact ⟨by simp, .inl ⟨rfl, rfl⟩⟩, hb⟩
  · refine (clTable_yes s hp w hT).mono ?_
    rintro e w' ⟨g, rfl, hh, _, hb⟩
    exact ⟨_, rfl, by rw [tableL_yes hp]; exact row_of_held hh, hb⟩

theorem r5Table_no (s : Int) (hp : pageS s = 0) (w : World) :
    Calls Tryd.prog 12 #[.int .i64 s] w fun e w' => ∃ g, e = .returned (.slice (some ⟨g, 0, none⟩) 0 0) ∧ g < w'.heap.size ∧ Below w.heap.size w w' := by
  have HE := hidp (show sizeN s ((0 : Nat) : Int) = 0 from sizeN_noshift (pageS_zero.1 hp))
  clear hp
  go_enter Tryd.func12, Tryd.ntmps12
  go_wp2
  refine wp_loop_rounds 1 ?_
  rw [rounds_succ]
  go_wp2_with fail
  refine (r5Size_c s (0 : Nat) (by omega) (by omega) _).mono ?_
  rintro e w1 ⟨rfl, hb1⟩
  rw [HE.out]
  have hz := hb1.size
  go_wp2
  go_ret
  exact ⟨_, rfl, by simp at hz; omega, Bgo (Bnew (B0 _) _) hb1⟩

theorem own_below {w w' : World} {base : Nat} {e : TypeId} {size : Nat} {v : Value} {n : Nat} {xs : List Value} (h : w.ownsRow base e size v n xs) (hb : Below w.heap.size w w') : w'.ownsRow base e size v n xs := by
  have hl := h.lt
  refine ⟨h.1, ?_⟩
  rcases h.2 with h2 | ⟨g, cap, cur, rfl, hbg, hg, hr⟩
  · exact .inl h2
  · exact .inr ⟨g, cap, cur, rfl, hbg, (hb.block g (hl g rfl).2).trans hg, hr⟩

/-- the sizes of the classes below k, as values -/
def sizesV (s : Int) (k : Nat) : List Value := (sizesTo s k).map (Value.int .i64)
theorem sizesV_succ (s : Int) (k : Nat) : sizesV s (k + 1) = sizesV s k ++ [.int .i64 ((sizeN s (k : Int) : Nat) : Int)] := by unfold sizesV; rw [sizesTo_succ, List.map_append]; rfl
theorem sizesV_len (s : Int) (k : Nat) : (sizesV s k).length = k := by unfold sizesV; rw [List.length_map, sizesTo_len]

set_option maxHeartbeats 1600000 in
theorem r5Table_yes (s : Int) (hp : ¬ pageS s = 0) (w : World) :
    Calls Tryd.prog 12 #[.int .i64 s] w fun e w' => ∃ u, e = .returned u ∧ w'.ownsRow w.heap.size 2 1 u 9 (sizesV s 9) ∧ Below w.heap.size w w' := by
  obtain ⟨i0, hi, hz0, hz1, hz2⟩ := info_parts longInfo
  have hs : 10 ≤ s ∧ s ≤ 20 := by
    have := mt pageS_zero.2 hp
    omega
  have HPos := hidp (fun (k : Nat) (hk : k < 9) => size_pos hs hk)
  clear hp hs
  go_enter Tryd.func12, Tryd.ntmps12
  go_wp2
  go_loopw [3, 4] (fun u i wr => ∃ k : Nat, k ≤ 9 ∧ i = .int .i64 k ∧ wr.ownsRow w.heap.size 2 1 u k (sizesV s k) ∧ Below w.heap.size w wr) (fun _ i _ => 9 - (intOf i).toNat)
  case atStart => exact ⟨0, by omega, rfl, World.ownsRow_lit (base := w.heap.size) (e := 2) (size := 1) w #[] 0 (Nat.le_refl _) (by unfold maxLen; omega) rfl, (Below.refl _ _).alloc (Nat.le_refl _) _⟩
  case round =>
    obtain ⟨k, hk, rfl, hown, hb⟩ := hrel
    by_cases hlt : k < 9
    · have hpos := HPos.out k hlt
      obtain ⟨z, hz⟩ : ∃ z, sizeN s (k : Int) = z := ⟨_, rfl⟩
      rw [hz] at hpos
      have HZ := hidp hz
      clear hz
      have HZ2 := hidp (sizesV_succ s k)
      rw [HZ.out] at HZ2
      go_wp2_with fail
      refine (r5Size_c s k (by omega) (by omega) _).mono ?_
      rintro e w1 ⟨rfl, hb1⟩
      rw [HZ.out]
      go_wp2_with fail
      refine (r5Size_c s k (by omega) (by omega) _).mono ?_
      rintro e w2 ⟨rfl, hb2⟩
      rw [HZ.out]
      have hown2 := own_below (own_below hown hb1) hb2
      have hbb := Bgo (Bgo hb hb1) hb2
      clear hown hb hb1 hb2
      go_wp2_with (first
        | (at_builtin
           refine wpList_append_own _ rfl _ _ 25 rfl w.heap.size 2 i0 (.int .i64 0) 1 8 Tryd.underlying25 hi hz0 hz1 hz2 rfl (by decide) _ _ _ rfl (hown2.alloc _) ⟨_, 0, none⟩ 1 1 [.int .i64 (z : Int)] rfl rfl ?c1 ?c2 ?c3 ?c4 ?c5 ?_
           case c1 => intro j y hy; rcases j with _ | j; (· simp at hy; subst hy; simp [Addr.add]); (· simp at hy)
           case c2 => simp [Value.oneCell']
           case c3 => unfold maxLen; omega
           case c4 => omega
           case c5 => have := hbb.size; simp; omega
           intro u1 w3 hown3 hgrow _))
      have hb3 := (hbb.alloc hbb.size _).grown hgrow (by have := hbb.size; simp; omega) (fun j hj => (hown2.lt j hj).1)
      go_roundw
      case rel => exact ⟨k + 1, by omega, by go_num, by rw [HZ2.out]; exact hown3, hb3⟩
      case measure => simp [intOf]; omega
    · obtain rfl : k = 9 := by omega
      go_wp2
      go_ret
      exact ⟨_, rfl, hown, hb⟩

theorem r5Table_c (s : Int) (w : World) : Calls Tryd.prog 12 #[.int .i64 s] w (Tabled s w) := by
  by_cases hp : pageS s = 0
  · refine (r5Table_no s hp w).mono ?_
    rintro e w' ⟨g, rfl, hg, hb⟩
    exact ⟨_, rfl, by rw [tableL_no hp]; exact ⟨by simp, .inr ⟨g, 0, 0, rfl, hg, fun i u hu => by simp at hu⟩⟩, hb⟩
  · refine (r5Table_yes s hp w).mono ?_
    rintro e w' ⟨u, rfl, hown, hb⟩
    refine ⟨_, rfl, ?_, hb⟩
    rw [tableL_yes hp]
    refine RowV.of_own (base := w.heap.size) (e := 2) ?_
    rw [show ((sizesTo s 9).map (Value.int .i64)).length = 9 by rw [List.length_map, sizesTo_len]]
    exact hown

theorem live5_table (s : Int) : 10 ≤ s ∧ s ≤ 20 → tableL s = sizesTo s 9 := fun h => tableL_yes (mt pageS_zero.1 (by omega))

set_option maxHeartbeats 1600000 in
theorem clOf_c (s z : Int) (w : World) (hT : SlotsLaid w) :
    Calls Tryd.prog 14 #[.int .i64 s, .int .i64 z] w fun e w' => e = .returned (.tuple #[.int .i64 (classK s z), .bool (classB s z)]) ∧ Below w.heap.size w w' := by
  by_cases h1 : z < 1
  · have HK := hidp (classK_no (class_small (s := s) h1))
    go_enter Tryd.func14, Tryd.ntmps14
    go_wp2
    go_ret2
    exact ⟨by rw [HK.out.1, HK.out.2]; rfl, B0 _⟩
  · have HT := hidp hT
    clear hT
    go_enter Tryd.func14, Tryd.ntmps14
    go_wp2
    go_loopw [9] (fun i wr => ∃ k : Nat, k ≤ 9 ∧ i = .int .i64 k ∧ (∀ j : Nat, j < k → (sizeN s (j : Int) : Int) < z) ∧ Below w.heap.size w wr) (fun i _ => 9 - (intOf i).toNat)
    case atStart => exact ⟨0, by omega, rfl, fun j hj => absurd hj (by omega), B0 _⟩
    case round =>
      obtain ⟨k, hk, rfl, hall, hb⟩ := hrel
      have HA := hidp hall
      have HB := hidp hb
      clear hall hb
      by_cases hlt : k < 9
      · obtain ⟨x, hx⟩ : ∃ x, sizeN s (k : Int) = x := ⟨_, rfl⟩
        have HX := hidp hx
        clear hx
        by_cases hge : z ≤ (x : Int)
        · have HK := hidp (classK_yes (class_yes (s := s) (z := z) (by omega) hlt (by rw [HX.out]; exact hge) HA.out))
          go_wp2_with fail
          refine (clSize_c s k (by omega) (by omega) _ (HT.out.below HB.out)).mono ?_
          rintro e w2 ⟨rfl, hb2⟩
          rw [HX.out]
          go_wp2
          go_ret2
          exact ⟨by rw [HK.out.1, HK.out.2]; rfl, Bgo HB.out hb2⟩
        · go_wp2_with fail
          refine (clSize_c s k (by omega) (by omega) _ (HT.out.below HB.out)).mono ?_
          rintro e w2 ⟨rfl, hb2⟩
          rw [HX.out]
          go_wp2
          go_roundw
          case rel =>
            refine ⟨k + 1, by omega, by go_num, fun j hj => ?_, Bgo HB.out hb2⟩
            rcases Nat.lt_or_ge j k with h | h
            · exact HA.out j h
            · obtain rfl : j = k := by omega
              rw [HX.out]; omega
          case measure => simp [intOf]; omega
      · obtain rfl : k = 9 := by omega
        have HK := hidp (classK_no (class_none (s := s) (z := z) HA.out))
        go_wp2
        go_ret2
        exact ⟨by rw [HK.out.1, HK.out.2]; rfl, HB.out⟩

set_option maxHeartbeats 1600000 in
theorem r5Of_c (s z : Int) (w : World) :
    Calls Tryd.prog 15 #[.int .i64 s, .int .i64 z] w fun e w' => e = .returned (.tuple #[.int .i64 (classK s z), .bool (classB s z)]) ∧ Below w.heap.size w w' := by
  by_cases hp : pageS s = 0
  · have HK := hidp (classK_no (class_noshift (s := s) (z := z) (pageS_zero.1 hp)))
    have HP := hidp hp
    clear hp
    go_enter Tryd.func15, Tryd.ntmps15
    go_wp2_with fail
    refine (r5Table_no s HP.out _).mono ?_
    rintro e w1 ⟨g, rfl, hg, hb1⟩
    go_wp2
    refine wp_loop_rounds 1 ?_
    rw [rounds_succ]
    go_wp2
    go_ret2
    exact ⟨by rw [HK.out.1, HK.out.2]; rfl, hb1⟩
  · by_cases h1 : z < 1
    · have HK := hidp (classK_no (class_small (s := s) h1))
      have HP := hidp hp
      clear hp
      go_enter Tryd.func15, Tryd.ntmps15
      go_wp2_with fail
      refine (r5Table_yes s HP.out _).mono ?_
      rintro e w1 ⟨u, rfl, hown, hb1⟩
      obtain ⟨g, cap, rfl, _, hg⟩ := hown.form (by omega)
      clear hown
      go_wp2
      refine wp_loop_rounds 1 ?_
      rw [rounds_succ]
      go_wp2
      go_ret2
      exact ⟨by rw [HK.out.1, HK.out.2]; rfl, hb1⟩
    · have HP := hidp hp
      clear hp
      go_enter Tryd.func15, Tryd.ntmps15
      go_wp2_with fail
      refine (r5Table_yes s HP.out _).mono ?_
      rintro e w1 ⟨u, rfl, hown, hb1⟩
      obtain ⟨g, cap, rfl, _, hg⟩ := hown.form (by omega)
      have HC := hidp (fun (k : Nat) (hk : k < 9) => (hown.cellAt k (by omega)).trans (show (sizesV s 9)[k]? = some (.int .i64 ((sizeN s (k : Int) : Nat) : Int)) by unfold sizesV; rw [List.getElem?_map, sizesTo_at s hk]; rfl))
      have HB := hidp hb1
      clear hown hb1
      go_wp2
      go_loopw [7] (fun i wr => ∃ k : Nat, k ≤ 9 ∧ i = .int .i64 k ∧ (∀ j : Nat, j < k → (sizeN s (j : Int) : Int) < z) ∧ wr = w1) (fun i _ => 9 - (intOf i).toNat)
      case atStart => exact ⟨0, by omega, rfl, fun j hj => absurd hj (by omega), rfl⟩
      case round =>
        obtain ⟨k, hk, rfl, hall, rfl⟩ := hrel
        have HA := hidp hall
        clear hall
        by_cases hlt : k < 9
        · have hc := HC.out k hlt
          obtain ⟨x, hx⟩ : ∃ x, sizeN s (k : Int) = x := ⟨_, rfl⟩
          rw [hx] at hc
          have HX := hidp hx
          clear hx
          by_cases hge : z ≤ (x : Int)
          · have HK := hidp (classK_yes (class_yes (s := s) (z := z) (by omega) hlt (by rw [HX.out]; exact hge) HA.out))
            go_wp2
            go_ret2
            exact ⟨by rw [HK.out.1, HK.out.2]; rfl, HB.out⟩
          · go_wp2
            go_roundw
            case rel =>
              refine ⟨k + 1, by omega, by go_num, fun j hj => ?_, (by first | rfl | trivial)⟩
              rcases Nat.lt_or_ge j k with h | h
              · exact HA.out j h
              · obtain rfl : j = k := by omega
                rw [HX.out]; omega
            case measure => simp [intOf]; omega
        · obtain rfl : k = 9 := by omega
          have HK := hidp (classK_no (class_none (s := s) (z := z) HA.out))
          go_wp2
          go_ret2
          exact ⟨by rw [HK.out.1, HK.out.2]; rfl, HB.out⟩

end Go.Proofs.YtkgmikcddnahgaaDoor
