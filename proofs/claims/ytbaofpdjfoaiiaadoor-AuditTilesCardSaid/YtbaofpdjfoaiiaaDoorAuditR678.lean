/-
  Rules 6 to 8: the bins, the racks, and no other links. Written by audit/gen_r678.py.
-/
import Derived.Test.YtbaofpdjfoaiiaaDoorAuditIsList
namespace Go.Proofs.YtbaofpdjfoaiiaaDoor
open Go.ChangeShapes Go.WideShapes Go.ChangeAt Go.RowKit Go.Shelf
set_option linter.unusedVariables false
set_option linter.unusedSimpArgs false


set_option maxHeartbeats 1600000 in
set_option maxRecDepth 100000 in
theorem auAreLists_Bins_c {H : AuH} {n c : Nat} (HV : HeapV H n c) (ht : H.Tiled) (ad : Addr) (b : Bool) (hb : b = true ↔ ∀ k, k < 11 → H.ListOk (2 + k)) (w : World) (hv : IsVals w ad n H.V) (hT : SlotsLaid w) :
    Calls Tryd.prog 39 #[hpV H ad n c, .int .i64 11, .func (.func 40) #[] #[]] w fun e w' => e = .returned (.bool b) ∧ Below w.heap.size w w' := by
  have HVL := hidp hv
  have HX0 := hidp (Held.new w 41 #[.int .i64 (H.t : Int), .int .i64 (H.p : Int), .int .i64 (H.s : Int), .slice (some ad) n c])
  obtain ⟨c0, c1, c2, c3⟩ := HX0.out.four
  have HBW := hidp (Bnew (B0 w) (.cells #[.int .i64 (H.t : Int), .int .i64 (H.p : Int), .int .i64 (H.s : Int), .slice (some ad) n c] 41))
  have HLS : Hid (Calls Tryd.prog 42 #[hpV H ad n c] (w.alloc (.cells #[.int .i64 (H.t : Int), .int .i64 (H.p : Int), .int .i64 (H.s : Int), .slice (some ad) n c] 41)) fun e w' => ∃ g, e = .returned (.slice (some ⟨g, 0, none⟩) H.p H.p) ∧ IntsF w' g H.p H.tgt ∧ (w.alloc (.cells #[.int .i64 (H.t : Int), .int .i64 (H.p : Int), .int .i64 (H.s : Int), .slice (some ad) n c] 41)).heap.size ≤ g ∧ Below (w.alloc (.cells #[.int .i64 (H.t : Int), .int .i64 (H.p : Int), .int .i64 (H.s : Int), .slice (some ad) n c] 41)).heap.size (w.alloc (.cells #[.int .i64 (H.t : Int), .int .i64 (H.p : Int), .int .i64 (H.s : Int), .slice (some ad) n c] 41)) w') := hidp (auLists_c HV ht ad _ (HVL.out.below HBW.out) (hT.below HBW.out))
  have HBC := hidp hb
  clear hv hT hb
  unfold hpV
  go_enter Tryd.func39, Tryd.ntmps39
  go_wp2_with (first
    | (go_at_call 42; refine HLS.out.mono ?_; rintro e w2 ⟨g, rfl, hi2, hg2, hb2⟩; have HI2 := hidp hi2; have HX2 := hidp (HX0.out.keep hb2); have HB2 := hidp (Bgo HBW.out hb2); clear hi2 hg2 hb2)
    | fail)
  clear c0 c1 c2 c3 HLS HBW HX0
  go_loopw [12] (fun u wr => ∃ k : Nat, k ≤ 11 ∧ u = .int .i64 (k : Int) ∧ Hid (∀ j, j < k → H.ListOk (2 + j)) ∧ Hid (Held wr w.heap.size 41 #[.int .i64 (H.t : Int), .int .i64 (H.p : Int), .int .i64 (H.s : Int), .slice (some ad) n c]) ∧ Hid (IntsF wr g H.p H.tgt) ∧ Hid (Below w.heap.size w wr)) (fun u _ => 11 - (intOf u).toNat)
  case atStart => exact ⟨0, by omega, rfl, hidp (fun j h => absurd h (by omega)), HX2, HI2, HB2⟩
  case round =>
    clear HX2 HI2 HB2
    obtain ⟨k, hk, rfl, HOK, HX, HLR, HB⟩ := hrel
    obtain ⟨c0, c1, c2, c3⟩ := HX.out.four
    have HVR := hidp (HVL.out.below HB.out)
    by_cases hlt : k < 11
    · have t0 : decide ((k : Int) < 11) = true := decide_eq_true (by omega)
      have HNT : Hid (nthI 2 11 1 (k : Int) = ((2 + k : Nat) : Int)) := hidp (by rw [nth_on (by omega) (by omega) (by omega)]; push_cast; omega)
      by_cases hz : ¬ H.ListOk (2 + k)
      · have HZN := hidp hz
        have HBF : Hid (b = false) := hidp (bool_no HBC.out (fun h => hz (h k hlt)))
        clear hz
        go_wp2_with fail
        refine wp_region_held_drew (S := (fun w' => w'.cell? ⟨w.heap.size, 0, none⟩ = some (.int .i64 (H.t : Int)) ∧ w'.cell? ⟨w.heap.size, 1, none⟩ = some (.int .i64 (H.p : Int)) ∧ w'.cell? ⟨w.heap.size, 2, none⟩ = some (.int .i64 (H.s : Int)) ∧ w'.cell? ⟨w.heap.size, 3, none⟩ = some (.slice (some ad) n c))) (by kernel_rfl) ?_ (fun hHeld => ?_)
        · (try dsimp only)
          first | exact HX.out.drew.four | exact HX5.out.four | exact hHeld
        refine wpAnyH_take (i := 0) (oi := _) (v := ?_) rfl (by kernel_rfl) (by kernel_rfl) (by kernel_rfl) (fun _ _ _ h => h) (Or.inl ⟨by rfl, ?_⟩) (by assumption) ?_
        rotate_left
        · intro w hSw; (try dsimp only at hSw); go_simp; (try with_reducible rfl)
        (try simp only [Act.put, List.getElem_toArray, List.getElem_cons_zero, List.getElem_cons_succ, List.setIfInBounds_toArray, List.set_cons_zero, List.set_cons_succ])
        refine wpAnyH_take (i := 1) (oi := _) (v := ?_) rfl (by kernel_rfl) (by kernel_rfl) (by kernel_rfl) (fun _ _ _ h => h) (Or.inl ⟨by rfl, ?_⟩) (by assumption) ?_
        rotate_left
        · intro w hSw; (try dsimp only at hSw); go_simp; (try with_reducible rfl)
        (try simp only [Act.put, List.getElem_toArray, List.getElem_cons_zero, List.getElem_cons_succ, List.setIfInBounds_toArray, List.set_cons_zero, List.set_cons_succ])
        refine wpAnyH_take (i := 2) (oi := _) (v := ?_) rfl (by kernel_rfl) (by kernel_rfl) (by kernel_rfl) (fun _ _ _ h => h) (Or.inl ⟨by rfl, ?_⟩) (by assumption) ?_
        rotate_left
        · intro w hSw; (try dsimp only at hSw); go_simp; (try with_reducible rfl)
        (try simp only [Act.put, List.getElem_toArray, List.getElem_cons_zero, List.getElem_cons_succ, List.setIfInBounds_toArray, List.set_cons_zero, List.set_cons_succ])
        refine wpAnyH_take (i := 4) (oi := _) (v := ?_) rfl (by kernel_rfl) (by kernel_rfl) (by kernel_rfl) (fun _ _ _ h => h) (Or.inl ⟨by rfl, ?_⟩) (by assumption) ?_
        rotate_left
        · intro w hSw; (try dsimp only at hSw); go_simp; (try with_reducible rfl)
        (try simp only [Act.put, List.getElem_toArray, List.getElem_cons_zero, List.getElem_cons_succ, List.setIfInBounds_toArray, List.set_cons_zero, List.set_cons_succ])
        refine wpAnyH_ready (rs := [3]) (by kernel_rfl) (by simp) ?_
        refine AllReadyH.cons (o := _) rfl (fun K hK => ?_) AllReadyH.nil
        go_simp
        (go_at_call 40; refine (plBin_c _ _).mono ?_; rintro e w4 ⟨rfl, rfl⟩; rw [HNT.out])
        refine hK.out _ _ ?_ (fun hHeld => ?_)
        · (try dsimp only)
          first | exact HX.out.drew.four | exact HX5.out.four | exact hHeld
        clear hK K
        (try simp only [Act.put, List.getElem_toArray, List.getElem_cons_zero, List.getElem_cons_succ, List.setIfInBounds_toArray, List.set_cons_zero, List.set_cons_succ])
        refine wpAnyH_ready (rs := [5]) (by kernel_rfl) (by simp) ?_
        refine AllReadyH.cons (o := _) rfl (fun K hK => ?_) AllReadyH.nil
        go_simp
        (go_at_call 59; refine (auIsList_c HV ad (2 + k) (by omega) g false ⟨fun h => (by cases h), fun h => absurd h HZN.out⟩ _ HVR.out.drew HLR.out.drew).mono ?_; rintro e w5 ⟨rfl, hb5⟩; have HX5 := hidp (HX.out.drew.keep hb5); have HB5 := hidp (Bgo (Bdrew HB.out) hb5); have HLR5 := hidp (HLR.out.drew.keep hb5); clear hb5)
        refine hK.out _ _ ?_ (fun hHeld => ?_)
        · (try dsimp only)
          first | exact HX.out.drew.four | exact HX5.out.four | exact hHeld
        clear hK K
        (try simp only [Act.put, List.getElem_toArray, List.getElem_cons_zero, List.getElem_cons_succ, List.setIfInBounds_toArray, List.set_cons_zero, List.set_cons_succ])
        refine wpAnyH_take (i := 6) (oi := _) (v := ?_) rfl (by kernel_rfl) (by kernel_rfl) (by kernel_rfl) (fun _ _ _ h => h) (Or.inl ⟨by rfl, ?_⟩) (by assumption) ?_
        rotate_left
        · intro w hSw; (try dsimp only at hSw); go_simp; (try with_reducible rfl)
        (try simp only [Act.put, List.getElem_toArray, List.getElem_cons_zero, List.getElem_cons_succ, List.setIfInBounds_toArray, List.set_cons_zero, List.set_cons_succ])
        refine wpAnyH_done (by kernel_rfl) ?_ _
        go_wp2
        go_ret
        exact ⟨by rw [HBF.out]; rfl, HB5.out⟩
      · have HZT := hidp (Classical.byContradiction hz)
        clear hz
        go_wp2_with fail
        refine wp_region_held_drew (S := (fun w' => w'.cell? ⟨w.heap.size, 0, none⟩ = some (.int .i64 (H.t : Int)) ∧ w'.cell? ⟨w.heap.size, 1, none⟩ = some (.int .i64 (H.p : Int)) ∧ w'.cell? ⟨w.heap.size, 2, none⟩ = some (.int .i64 (H.s : Int)) ∧ w'.cell? ⟨w.heap.size, 3, none⟩ = some (.slice (some ad) n c))) (by kernel_rfl) ?_ (fun hHeld => ?_)
        · (try dsimp only)
          first | exact HX.out.drew.four | exact HX5.out.four | exact hHeld
        refine wpAnyH_take (i := 0) (oi := _) (v := ?_) rfl (by kernel_rfl) (by kernel_rfl) (by kernel_rfl) (fun _ _ _ h => h) (Or.inl ⟨by rfl, ?_⟩) (by assumption) ?_
        rotate_left
        · intro w hSw; (try dsimp only at hSw); go_simp; (try with_reducible rfl)
        (try simp only [Act.put, List.getElem_toArray, List.getElem_cons_zero, List.getElem_cons_succ, List.setIfInBounds_toArray, List.set_cons_zero, List.set_cons_succ])
        refine wpAnyH_take (i := 1) (oi := _) (v := ?_) rfl (by kernel_rfl) (by kernel_rfl) (by kernel_rfl) (fun _ _ _ h => h) (Or.inl ⟨by rfl, ?_⟩) (by assumption) ?_
        rotate_left
        · intro w hSw; (try dsimp only at hSw); go_simp; (try with_reducible rfl)
        (try simp only [Act.put, List.getElem_toArray, List.getElem_cons_zero, List.getElem_cons_succ, List.setIfInBounds_toArray, List.set_cons_zero, List.set_cons_succ])
        refine wpAnyH_take (i := 2) (oi := _) (v := ?_) rfl (by kernel_rfl) (by kernel_rfl) (by kernel_rfl) (fun _ _ _ h => h) (Or.inl ⟨by rfl, ?_⟩) (by assumption) ?_
        rotate_left
        · intro w hSw; (try dsimp only at hSw); go_simp; (try with_reducible rfl)
        (try simp only [Act.put, List.getElem_toArray, List.getElem_cons_zero, List.getElem_cons_succ, List.setIfInBounds_toArray, List.set_cons_zero, List.set_cons_succ])
        refine wpAnyH_take (i := 4) (oi := _) (v := ?_) rfl (by kernel_rfl) (by kernel_rfl) (by kernel_rfl) (fun _ _ _ h => h) (Or.inl ⟨by rfl, ?_⟩) (by assumption) ?_
        rotate_left
        · intro w hSw; (try dsimp only at hSw); go_simp; (try with_reducible rfl)
        (try simp only [Act.put, List.getElem_toArray, List.getElem_cons_zero, List.getElem_cons_succ, List.setIfInBounds_toArray, List.set_cons_zero, List.set_cons_succ])
        refine wpAnyH_ready (rs := [3]) (by kernel_rfl) (by simp) ?_
        refine AllReadyH.cons (o := _) rfl (fun K hK => ?_) AllReadyH.nil
        go_simp
        (go_at_call 40; refine (plBin_c _ _).mono ?_; rintro e w4 ⟨rfl, rfl⟩; rw [HNT.out])
        refine hK.out _ _ ?_ (fun hHeld => ?_)
        · (try dsimp only)
          first | exact HX.out.drew.four | exact HX5.out.four | exact hHeld
        clear hK K
        (try simp only [Act.put, List.getElem_toArray, List.getElem_cons_zero, List.getElem_cons_succ, List.setIfInBounds_toArray, List.set_cons_zero, List.set_cons_succ])
        refine wpAnyH_ready (rs := [5]) (by kernel_rfl) (by simp) ?_
        refine AllReadyH.cons (o := _) rfl (fun K hK => ?_) AllReadyH.nil
        go_simp
        (go_at_call 59; refine (auIsList_c HV ad (2 + k) (by omega) g true ⟨fun _ => HZT.out, fun _ => rfl⟩ _ HVR.out.drew HLR.out.drew).mono ?_; rintro e w5 ⟨rfl, hb5⟩; have HX5 := hidp (HX.out.drew.keep hb5); have HB5 := hidp (Bgo (Bdrew HB.out) hb5); have HLR5 := hidp (HLR.out.drew.keep hb5); clear hb5)
        refine hK.out _ _ ?_ (fun hHeld => ?_)
        · (try dsimp only)
          first | exact HX.out.drew.four | exact HX5.out.four | exact hHeld
        clear hK K
        (try simp only [Act.put, List.getElem_toArray, List.getElem_cons_zero, List.getElem_cons_succ, List.setIfInBounds_toArray, List.set_cons_zero, List.set_cons_succ])
        refine wpAnyH_take (i := 6) (oi := _) (v := ?_) rfl (by kernel_rfl) (by kernel_rfl) (by kernel_rfl) (fun _ _ _ h => h) (Or.inl ⟨by rfl, ?_⟩) (by assumption) ?_
        rotate_left
        · intro w hSw; (try dsimp only at hSw); go_simp; (try with_reducible rfl)
        (try simp only [Act.put, List.getElem_toArray, List.getElem_cons_zero, List.getElem_cons_succ, List.setIfInBounds_toArray, List.set_cons_zero, List.set_cons_succ])
        refine wpAnyH_done (by kernel_rfl) ?_ _
        go_wp2
        go_roundw
        case rel => exact ⟨k + 1, by omega, by go_num, hidp (fun j h => by
          rcases Nat.lt_or_ge j k with h2 | h2
          · exact HOK.out j h2
          · have : j = k := by omega
            subst this; exact HZT.out), HX5, HLR5, HB5⟩
        case measure => simp [intOf]; omega
    · have t0 : decide ((k : Int) < 11) = false := decide_eq_false (by omega)
      have HBT : Hid (b = true) := hidp (bool_yes HBC.out (fun j hj => HOK.out j (by omega)))
      go_wp2_with fail
      go_ret
      exact ⟨by rw [HBT.out]; rfl, HB.out⟩
set_option maxRecDepth 100000 in
theorem auHasBins_c {H : AuH} {n c : Nat} (HV : HeapV H n c) (ht : H.Tiled) (ad : Addr) (b : Bool) (hb : b = true ↔ ∀ k, k < 11 → H.ListOk (2 + k)) (w : World) (hv : IsVals w ad n H.V) (hT : SlotsLaid w) :
    Calls Tryd.prog 21 #[hpV H ad n c] w fun e w' => e = .returned (.bool b) ∧ Below w.heap.size w w' := by
  have HX0 := hidp (Held.new w 41 #[.int .i64 (H.t : Int), .int .i64 (H.p : Int), .int .i64 (H.s : Int), .slice (some ad) n c])
  obtain ⟨c0, c1, c2, c3⟩ := HX0.out.four
  have HBW := hidp (Bnew (B0 w) (.cells #[.int .i64 (H.t : Int), .int .i64 (H.p : Int), .int .i64 (H.s : Int), .slice (some ad) n c] 41))
  have HLS := hidp (auAreLists_Bins_c HV ht ad b hb _ (hv.below HBW.out) (hT.below HBW.out))
  clear hv hT hb
  unfold hpV
  go_enter Tryd.func21, Tryd.ntmps21
  go_wp2_with (first
    | (go_at_call 39; refine HLS.out.mono ?_; rintro e w2 ⟨rfl, hb2⟩; have HB2 := hidp (Bgo HBW.out hb2); clear hb2)
    | fail)
  go_ret
  exact ⟨rfl, HB2.out⟩

set_option maxHeartbeats 1600000 in
set_option maxRecDepth 100000 in
theorem auAreLists_Racks_c {H : AuH} {n c : Nat} (HV : HeapV H n c) (ht : H.Tiled) (ad : Addr) (b : Bool) (hb : b = true ↔ ∀ k, k < 9 → H.ListOk (13 + k)) (w : World) (hv : IsVals w ad n H.V) (hT : SlotsLaid w) :
    Calls Tryd.prog 39 #[hpV H ad n c, .int .i64 9, .func (.func 41) #[] #[]] w fun e w' => e = .returned (.bool b) ∧ Below w.heap.size w w' := by
  have HVL := hidp hv
  have HX0 := hidp (Held.new w 41 #[.int .i64 (H.t : Int), .int .i64 (H.p : Int), .int .i64 (H.s : Int), .slice (some ad) n c])
  obtain ⟨c0, c1, c2, c3⟩ := HX0.out.four
  have HBW := hidp (Bnew (B0 w) (.cells #[.int .i64 (H.t : Int), .int .i64 (H.p : Int), .int .i64 (H.s : Int), .slice (some ad) n c] 41))
  have HLS : Hid (Calls Tryd.prog 42 #[hpV H ad n c] (w.alloc (.cells #[.int .i64 (H.t : Int), .int .i64 (H.p : Int), .int .i64 (H.s : Int), .slice (some ad) n c] 41)) fun e w' => ∃ g, e = .returned (.slice (some ⟨g, 0, none⟩) H.p H.p) ∧ IntsF w' g H.p H.tgt ∧ (w.alloc (.cells #[.int .i64 (H.t : Int), .int .i64 (H.p : Int), .int .i64 (H.s : Int), .slice (some ad) n c] 41)).heap.size ≤ g ∧ Below (w.alloc (.cells #[.int .i64 (H.t : Int), .int .i64 (H.p : Int), .int .i64 (H.s : Int), .slice (some ad) n c] 41)).heap.size (w.alloc (.cells #[.int .i64 (H.t : Int), .int .i64 (H.p : Int), .int .i64 (H.s : Int), .slice (some ad) n c] 41)) w') := hidp (auLists_c HV ht ad _ (HVL.out.below HBW.out) (hT.below HBW.out))
  have HBC := hidp hb
  clear hv hT hb
  unfold hpV
  go_enter Tryd.func39, Tryd.ntmps39
  go_wp2_with (first
    | (go_at_call 42; refine HLS.out.mono ?_; rintro e w2 ⟨g, rfl, hi2, hg2, hb2⟩; have HI2 := hidp hi2; have HX2 := hidp (HX0.out.keep hb2); have HB2 := hidp (Bgo HBW.out hb2); clear hi2 hg2 hb2)
    | fail)
  clear c0 c1 c2 c3 HLS HBW HX0
  go_loopw [12] (fun u wr => ∃ k : Nat, k ≤ 9 ∧ u = .int .i64 (k : Int) ∧ Hid (∀ j, j < k → H.ListOk (13 + j)) ∧ Hid (Held wr w.heap.size 41 #[.int .i64 (H.t : Int), .int .i64 (H.p : Int), .int .i64 (H.s : Int), .slice (some ad) n c]) ∧ Hid (IntsF wr g H.p H.tgt) ∧ Hid (Below w.heap.size w wr)) (fun u _ => 9 - (intOf u).toNat)
  case atStart => exact ⟨0, by omega, rfl, hidp (fun j h => absurd h (by omega)), HX2, HI2, HB2⟩
  case round =>
    clear HX2 HI2 HB2
    obtain ⟨k, hk, rfl, HOK, HX, HLR, HB⟩ := hrel
    obtain ⟨c0, c1, c2, c3⟩ := HX.out.four
    have HVR := hidp (HVL.out.below HB.out)
    by_cases hlt : k < 9
    · have t0 : decide ((k : Int) < 9) = true := decide_eq_true (by omega)
      have HNT : Hid (nthI 13 9 1 (k : Int) = ((13 + k : Nat) : Int)) := hidp (by rw [nth_on (by omega) (by omega) (by omega)]; push_cast; omega)
      by_cases hz : ¬ H.ListOk (13 + k)
      · have HZN := hidp hz
        have HBF : Hid (b = false) := hidp (bool_no HBC.out (fun h => hz (h k hlt)))
        clear hz
        go_wp2_with fail
        refine wp_region_held_drew (S := (fun w' => w'.cell? ⟨w.heap.size, 0, none⟩ = some (.int .i64 (H.t : Int)) ∧ w'.cell? ⟨w.heap.size, 1, none⟩ = some (.int .i64 (H.p : Int)) ∧ w'.cell? ⟨w.heap.size, 2, none⟩ = some (.int .i64 (H.s : Int)) ∧ w'.cell? ⟨w.heap.size, 3, none⟩ = some (.slice (some ad) n c))) (by kernel_rfl) ?_ (fun hHeld => ?_)
        · (try dsimp only)
          first | exact HX.out.drew.four | exact HX5.out.four | exact hHeld
        refine wpAnyH_take (i := 0) (oi := _) (v := ?_) rfl (by kernel_rfl) (by kernel_rfl) (by kernel_rfl) (fun _ _ _ h => h) (Or.inl ⟨by rfl, ?_⟩) (by assumption) ?_
        rotate_left
        · intro w hSw; (try dsimp only at hSw); go_simp; (try with_reducible rfl)
        (try simp only [Act.put, List.getElem_toArray, List.getElem_cons_zero, List.getElem_cons_succ, List.setIfInBounds_toArray, List.set_cons_zero, List.set_cons_succ])
        refine wpAnyH_take (i := 1) (oi := _) (v := ?_) rfl (by kernel_rfl) (by kernel_rfl) (by kernel_rfl) (fun _ _ _ h => h) (Or.inl ⟨by rfl, ?_⟩) (by assumption) ?_
        rotate_left
        · intro w hSw; (try dsimp only at hSw); go_simp; (try with_reducible rfl)
        (try simp only [Act.put, List.getElem_toArray, List.getElem_cons_zero, List.getElem_cons_succ, List.setIfInBounds_toArray, List.set_cons_zero, List.set_cons_succ])
        refine wpAnyH_take (i := 2) (oi := _) (v := ?_) rfl (by kernel_rfl) (by kernel_rfl) (by kernel_rfl) (fun _ _ _ h => h) (Or.inl ⟨by rfl, ?_⟩) (by assumption) ?_
        rotate_left
        · intro w hSw; (try dsimp only at hSw); go_simp; (try with_reducible rfl)
        (try simp only [Act.put, List.getElem_toArray, List.getElem_cons_zero, List.getElem_cons_succ, List.setIfInBounds_toArray, List.set_cons_zero, List.set_cons_succ])
        refine wpAnyH_take (i := 4) (oi := _) (v := ?_) rfl (by kernel_rfl) (by kernel_rfl) (by kernel_rfl) (fun _ _ _ h => h) (Or.inl ⟨by rfl, ?_⟩) (by assumption) ?_
        rotate_left
        · intro w hSw; (try dsimp only at hSw); go_simp; (try with_reducible rfl)
        (try simp only [Act.put, List.getElem_toArray, List.getElem_cons_zero, List.getElem_cons_succ, List.setIfInBounds_toArray, List.set_cons_zero, List.set_cons_succ])
        refine wpAnyH_ready (rs := [3]) (by kernel_rfl) (by simp) ?_
        refine AllReadyH.cons (o := _) rfl (fun K hK => ?_) AllReadyH.nil
        go_simp
        (go_at_call 41; refine (plRack_c _ _).mono ?_; rintro e w4 ⟨rfl, rfl⟩; rw [HNT.out])
        refine hK.out _ _ ?_ (fun hHeld => ?_)
        · (try dsimp only)
          first | exact HX.out.drew.four | exact HX5.out.four | exact hHeld
        clear hK K
        (try simp only [Act.put, List.getElem_toArray, List.getElem_cons_zero, List.getElem_cons_succ, List.setIfInBounds_toArray, List.set_cons_zero, List.set_cons_succ])
        refine wpAnyH_ready (rs := [5]) (by kernel_rfl) (by simp) ?_
        refine AllReadyH.cons (o := _) rfl (fun K hK => ?_) AllReadyH.nil
        go_simp
        (go_at_call 59; refine (auIsList_c HV ad (13 + k) (by omega) g false ⟨fun h => (by cases h), fun h => absurd h HZN.out⟩ _ HVR.out.drew HLR.out.drew).mono ?_; rintro e w5 ⟨rfl, hb5⟩; have HX5 := hidp (HX.out.drew.keep hb5); have HB5 := hidp (Bgo (Bdrew HB.out) hb5); have HLR5 := hidp (HLR.out.drew.keep hb5); clear hb5)
        refine hK.out _ _ ?_ (fun hHeld => ?_)
        · (try dsimp only)
          first | exact HX.out.drew.four | exact HX5.out.four | exact hHeld
        clear hK K
        (try simp only [Act.put, List.getElem_toArray, List.getElem_cons_zero, List.getElem_cons_succ, List.setIfInBounds_toArray, List.set_cons_zero, List.set_cons_succ])
        refine wpAnyH_take (i := 6) (oi := _) (v := ?_) rfl (by kernel_rfl) (by kernel_rfl) (by kernel_rfl) (fun _ _ _ h => h) (Or.inl ⟨by rfl, ?_⟩) (by assumption) ?_
        rotate_left
        · intro w hSw; (try dsimp only at hSw); go_simp; (try with_reducible rfl)
        (try simp only [Act.put, List.getElem_toArray, List.getElem_cons_zero, List.getElem_cons_succ, List.setIfInBounds_toArray, List.set_cons_zero, List.set_cons_succ])
        refine wpAnyH_done (by kernel_rfl) ?_ _
        go_wp2
        go_ret
        exact ⟨by rw [HBF.out]; rfl, HB5.out⟩
      · have HZT := hidp (Classical.byContradiction hz)
        clear hz
        go_wp2_with fail
        refine wp_region_held_drew (S := (fun w' => w'.cell? ⟨w.heap.size, 0, none⟩ = some (.int .i64 (H.t : Int)) ∧ w'.cell? ⟨w.heap.size, 1, none⟩ = some (.int .i64 (H.p : Int)) ∧ w'.cell? ⟨w.heap.size, 2, none⟩ = some (.int .i64 (H.s : Int)) ∧ w'.cell? ⟨w.heap.size, 3, none⟩ = some (.slice (some ad) n c))) (by kernel_rfl) ?_ (fun hHeld => ?_)
        · (try dsimp only)
          first | exact HX.out.drew.four | exact HX5.out.four | exact hHeld
        refine wpAnyH_take (i := 0) (oi := _) (v := ?_) rfl (by kernel_rfl) (by kernel_rfl) (by kernel_rfl) (fun _ _ _ h => h) (Or.inl ⟨by rfl, ?_⟩) (by assumption) ?_
        rotate_left
        · intro w hSw; (try dsimp only at hSw); go_simp; (try with_reducible rfl)
        (try simp only [Act.put, List.getElem_toArray, List.getElem_cons_zero, List.getElem_cons_succ, List.setIfInBounds_toArray, List.set_cons_zero, List.set_cons_succ])
        refine wpAnyH_take (i := 1) (oi := _) (v := ?_) rfl (by kernel_rfl) (by kernel_rfl) (by kernel_rfl) (fun _ _ _ h => h) (Or.inl ⟨by rfl, ?_⟩) (by assumption) ?_
        rotate_left
        · intro w hSw; (try dsimp only at hSw); go_simp; (try with_reducible rfl)
        (try simp only [Act.put, List.getElem_toArray, List.getElem_cons_zero, List.getElem_cons_succ, List.setIfInBounds_toArray, List.set_cons_zero, List.set_cons_succ])
        refine wpAnyH_take (i := 2) (oi := _) (v := ?_) rfl (by kernel_rfl) (by kernel_rfl) (by kernel_rfl) (fun _ _ _ h => h) (Or.inl ⟨by rfl, ?_⟩) (by assumption) ?_
        rotate_left
        · intro w hSw; (try dsimp only at hSw); go_simp; (try with_reducible rfl)
        (try simp only [Act.put, List.getElem_toArray, List.getElem_cons_zero, List.getElem_cons_succ, List.setIfInBounds_toArray, List.set_cons_zero, List.set_cons_succ])
        refine wpAnyH_take (i := 4) (oi := _) (v := ?_) rfl (by kernel_rfl) (by kernel_rfl) (by kernel_rfl) (fun _ _ _ h => h) (Or.inl ⟨by rfl, ?_⟩) (by assumption) ?_
        rotate_left
        · intro w hSw; (try dsimp only at hSw); go_simp; (try with_reducible rfl)
        (try simp only [Act.put, List.getElem_toArray, List.getElem_cons_zero, List.getElem_cons_succ, List.setIfInBounds_toArray, List.set_cons_zero, List.set_cons_succ])
        refine wpAnyH_ready (rs := [3]) (by kernel_rfl) (by simp) ?_
        refine AllReadyH.cons (o := _) rfl (fun K hK => ?_) AllReadyH.nil
        go_simp
        (go_at_call 41; refine (plRack_c _ _).mono ?_; rintro e w4 ⟨rfl, rfl⟩; rw [HNT.out])
        refine hK.out _ _ ?_ (fun hHeld => ?_)
        · (try dsimp only)
          first | exact HX.out.drew.four | exact HX5.out.four | exact hHeld
        clear hK K
        (try simp only [Act.put, List.getElem_toArray, List.getElem_cons_zero, List.getElem_cons_succ, List.setIfInBounds_toArray, List.set_cons_zero, List.set_cons_succ])
        refine wpAnyH_ready (rs := [5]) (by kernel_rfl) (by simp) ?_
        refine AllReadyH.cons (o := _) rfl (fun K hK => ?_) AllReadyH.nil
        go_simp
        (go_at_call 59; refine (auIsList_c HV ad (13 + k) (by omega) g true ⟨fun _ => HZT.out, fun _ => rfl⟩ _ HVR.out.drew HLR.out.drew).mono ?_; rintro e w5 ⟨rfl, hb5⟩; have HX5 := hidp (HX.out.drew.keep hb5); have HB5 := hidp (Bgo (Bdrew HB.out) hb5); have HLR5 := hidp (HLR.out.drew.keep hb5); clear hb5)
        refine hK.out _ _ ?_ (fun hHeld => ?_)
        · (try dsimp only)
          first | exact HX.out.drew.four | exact HX5.out.four | exact hHeld
        clear hK K
        (try simp only [Act.put, List.getElem_toArray, List.getElem_cons_zero, List.getElem_cons_succ, List.setIfInBounds_toArray, List.set_cons_zero, List.set_cons_succ])
        refine wpAnyH_take (i := 6) (oi := _) (v := ?_) rfl (by kernel_rfl) (by kernel_rfl) (by kernel_rfl) (fun _ _ _ h => h) (Or.inl ⟨by rfl, ?_⟩) (by assumption) ?_
        rotate_left
        · intro w hSw; (try dsimp only at hSw); go_simp; (try with_reducible rfl)
        (try simp only [Act.put, List.getElem_toArray, List.getElem_cons_zero, List.getElem_cons_succ, List.setIfInBounds_toArray, List.set_cons_zero, List.set_cons_succ])
        refine wpAnyH_done (by kernel_rfl) ?_ _
        go_wp2
        go_roundw
        case rel => exact ⟨k + 1, by omega, by go_num, hidp (fun j h => by
          rcases Nat.lt_or_ge j k with h2 | h2
          · exact HOK.out j h2
          · have : j = k := by omega
            subst this; exact HZT.out), HX5, HLR5, HB5⟩
        case measure => simp [intOf]; omega
    · have t0 : decide ((k : Int) < 9) = false := decide_eq_false (by omega)
      have HBT : Hid (b = true) := hidp (bool_yes HBC.out (fun j hj => HOK.out j (by omega)))
      go_wp2_with fail
      go_ret
      exact ⟨by rw [HBT.out]; rfl, HB.out⟩
set_option maxRecDepth 100000 in
theorem auHasRacks_c {H : AuH} {n c : Nat} (HV : HeapV H n c) (ht : H.Tiled) (ad : Addr) (b : Bool) (hb : b = true ↔ ∀ k, k < 9 → H.ListOk (13 + k)) (w : World) (hv : IsVals w ad n H.V) (hT : SlotsLaid w) :
    Calls Tryd.prog 22 #[hpV H ad n c] w fun e w' => e = .returned (.bool b) ∧ Below w.heap.size w w' := by
  have HX0 := hidp (Held.new w 41 #[.int .i64 (H.t : Int), .int .i64 (H.p : Int), .int .i64 (H.s : Int), .slice (some ad) n c])
  obtain ⟨c0, c1, c2, c3⟩ := HX0.out.four
  have HBW := hidp (Bnew (B0 w) (.cells #[.int .i64 (H.t : Int), .int .i64 (H.p : Int), .int .i64 (H.s : Int), .slice (some ad) n c] 41))
  have HLS := hidp (auAreLists_Racks_c HV ht ad b hb _ (hv.below HBW.out) (hT.below HBW.out))
  clear hv hT hb
  unfold hpV
  go_enter Tryd.func22, Tryd.ntmps22
  go_wp2_with (first
    | (go_at_call 39; refine HLS.out.mono ?_; rintro e w2 ⟨rfl, hb2⟩; have HB2 := hidp (Bgo HBW.out hb2); clear hb2)
    | fail)
  go_ret
  exact ⟨rfl, HB2.out⟩

namespace AuH
/-- rule 8 -/
def R8 (H : AuH) : Prop := ∀ q, q < H.p → H.tgt q = -1 → H.cel q 2 = 0 ∧ H.cel q 3 = 0
end AuH
set_option maxHeartbeats 1600000 in
set_option maxRecDepth 100000 in
theorem auHasNoOther_c {H : AuH} {n c : Nat} (HV : HeapV H n c) (ht : H.Tiled) (ad : Addr) (b : Bool) (hb : b = true ↔ H.R8) (w : World) (hv : IsVals w ad n H.V) (hT : SlotsLaid w) :
    Calls Tryd.prog 23 #[hpV H ad n c] w fun e w' => e = .returned (.bool b) ∧ Below w.heap.size w w' := by
  have HVL := hidp hv
  have hpm : H.p ≤ 1024 := HV.nums.2.2.2.1
  have HX0 := hidp (Held.new w 41 #[.int .i64 (H.t : Int), .int .i64 (H.p : Int), .int .i64 (H.s : Int), .slice (some ad) n c])
  obtain ⟨c0, c1, c2, c3⟩ := HX0.out.four
  have HBW := hidp (Bnew (B0 w) (.cells #[.int .i64 (H.t : Int), .int .i64 (H.p : Int), .int .i64 (H.s : Int), .slice (some ad) n c] 41))
  have HLS := hidp (auLists_c HV ht ad _ (HVL.out.below HBW.out) (hT.below HBW.out))
  have HBC := hidp hb
  clear hv hT hb
  unfold hpV
  go_enter Tryd.func23, Tryd.ntmps23
  go_wp2_with (first
    | (go_at_call 42; refine HLS.out.mono ?_; rintro e w2 ⟨g, rfl, hi2, hg2, hb2⟩; have HI2 := hidp hi2; have HX2 := hidp (HX0.out.keep hb2); have HB2 := hidp (Bgo HBW.out hb2); clear hi2 hg2 hb2)
    | fail)
  clear c0 c1 c2 c3 HLS HBW HX0
  go_loopw [8] (fun u wr => ∃ k : Nat, k ≤ H.p ∧ u = .int .i64 (k : Int) ∧ Hid (∀ j, j < k → H.tgt j = -1 → H.cel j 2 = 0 ∧ H.cel j 3 = 0) ∧ Hid (Held wr w.heap.size 41 #[.int .i64 (H.t : Int), .int .i64 (H.p : Int), .int .i64 (H.s : Int), .slice (some ad) n c]) ∧ Hid (IntsF wr g H.p H.tgt) ∧ Hid (Below w.heap.size w wr)) (fun u _ => H.p - (intOf u).toNat)
  case atStart => exact ⟨0, by omega, rfl, hidp (fun j h => absurd h (by omega)), HX2, HI2, HB2⟩
  case round =>
    clear HX2 HI2 HB2
    obtain ⟨k, hk, rfl, HOK, HX, HLR, HB⟩ := hrel
    obtain ⟨c0, c1, c2, c3⟩ := HX.out.four
    have HVR := hidp (HVL.out.below HB.out)
    by_cases hlt : k < H.p
    · have t0 : decide ((k : Int) < H.p) = true := decide_eq_true (by omega)
      have l0 := HLR.out.at_ hlt
      have HST : Hid ((H.tgt k = -1 → H.cel k 2 = 0 ∧ H.cel k 3 = 0) → ∀ j, j < k + 1 → H.tgt j = -1 → H.cel j 2 = 0 ∧ H.cel j 3 = 0) := hidp (fun h j hj => by
        rcases Nat.lt_or_ge j k with h2 | h2
        · exact HOK.out j h2
        · have : j = k := by omega
          subst this; exact h)
      obtain ⟨ti, hti⟩ : ∃ ti, H.tgt k = ti := ⟨_, rfl⟩
      obtain ⟨nv, hnv⟩ : ∃ nv, H.cel k 2 = nv := ⟨_, rfl⟩
      obtain ⟨pv, hpv⟩ : ∃ pv, H.cel k 3 = pv := ⟨_, rfl⟩
      have HNV := hidp hnv
      have HPV := hidp hpv
      have HBK : Hid (ti = -1 → (nv ≠ 0 ∨ pv ≠ 0) → b = false) := hidp (fun h1 h2 => bool_no HBC.out (fun h => by
        have := h k hlt (hti.trans h1)
        omega))
      have HSK : Hid ((ti = -1 → nv = 0 ∧ pv = 0) → ∀ j, j < k + 1 → H.tgt j = -1 → H.cel j 2 = 0 ∧ H.cel j 3 = 0) := hidp (fun h => HST.out (fun h2 => by rw [hnv, hpv]; exact h (hti.symm.trans h2)))
      rw [hti] at l0
      clear hti hnv hpv HST
      by_cases h1 : ti = -1
      · subst h1
        by_cases h2 : nv = 0
        · have q1 : ((nv : Int) != 0) = false := by simp; omega
          by_cases h3 : pv = 0
          · have q2 : ((pv : Int) != 0) = false := by simp; omega
            have HSN := hidp (HSK.out (fun _ => ⟨h2, h3⟩))
            go_wp2_with (first
              | (have hz0 := HNV.out; clear hz0; go_at_call 27; refine (auAt_Next_c HV ad hlt _ HVR.out).mono ?_; rintro e w5 ⟨rfl, hb5⟩; rw [HNV.out]; have HB5 := hidp (Bgo HB.out hb5); have HX5 := hidp (HX.out.keep hb5); have HV5 := hidp (HVR.out.below hb5); have HL5 := hidp (HLR.out.keep hb5); clear hb5 HNV c0 c1 c2 c3; obtain ⟨c0, c1, c2, c3⟩ := HX5.out.four)
              | (have hz0 := HPV.out; clear hz0; go_at_call 27; refine (auAt_Prev_c HV ad hlt _ HV5.out).mono ?_; rintro e w6 ⟨rfl, hb6⟩; rw [HPV.out]; have HB6 := hidp (Bgo HB5.out hb6); have HX6 := hidp (HX5.out.keep hb6); have HL6 := hidp (HL5.out.keep hb6); clear hb6)
              | fail)
            go_roundw
            case rel => exact ⟨k + 1, by omega, by go_num, HSN, HX6, HL6, HB6⟩
            case measure => simp [intOf]; omega
          · have q2 : ((pv : Int) != 0) = true := by simp; omega
            have HBF := hidp (HBK.out rfl (.inr h3))
            go_wp2_with (first
              | (have hz0 := HNV.out; clear hz0; go_at_call 27; refine (auAt_Next_c HV ad hlt _ HVR.out).mono ?_; rintro e w5 ⟨rfl, hb5⟩; rw [HNV.out]; have HB5 := hidp (Bgo HB.out hb5); have HX5 := hidp (HX.out.keep hb5); have HV5 := hidp (HVR.out.below hb5); have HL5 := hidp (HLR.out.keep hb5); clear hb5 HNV c0 c1 c2 c3; obtain ⟨c0, c1, c2, c3⟩ := HX5.out.four)
              | (have hz0 := HPV.out; clear hz0; go_at_call 27; refine (auAt_Prev_c HV ad hlt _ HV5.out).mono ?_; rintro e w6 ⟨rfl, hb6⟩; rw [HPV.out]; have HB6 := hidp (Bgo HB5.out hb6); have HX6 := hidp (HX5.out.keep hb6); have HL6 := hidp (HL5.out.keep hb6); clear hb6)
              | fail)
            go_ret
            exact ⟨by rw [HBF.out]; rfl, HB6.out⟩
        · have q1 : ((nv : Int) != 0) = true := by simp; omega
          have HBF := hidp (HBK.out rfl (.inl h2))
          go_wp2_with (first
            | (have hz0 := HNV.out; clear hz0; go_at_call 27; refine (auAt_Next_c HV ad hlt _ HVR.out).mono ?_; rintro e w5 ⟨rfl, hb5⟩; rw [HNV.out]; have HB5 := hidp (Bgo HB.out hb5); have HX5 := hidp (HX.out.keep hb5); have HV5 := hidp (HVR.out.below hb5); have HL5 := hidp (HLR.out.keep hb5); clear hb5 HNV c0 c1 c2 c3; obtain ⟨c0, c1, c2, c3⟩ := HX5.out.four)
            | fail)
          go_ret
          exact ⟨by rw [HBF.out]; rfl, HB5.out⟩
      · have q1 : (ti == -1) = false := by simpa using h1
        have HSN := hidp (HSK.out (fun h => absurd h h1))
        go_wp2_with fail
        go_roundw
        case rel => exact ⟨k + 1, by omega, by go_num, HSN, HX, HLR, HB⟩
        case measure => simp [intOf]; omega
    · have t0 : decide ((k : Int) < H.p) = false := decide_eq_false (by omega)
      have HBT : Hid (b = true) := hidp (bool_yes HBC.out (fun j hj => HOK.out j (by omega)))
      go_wp2_with fail
      go_ret
      exact ⟨by rw [HBT.out]; rfl, HB.out⟩
end Go.Proofs.YtbaofpdjfoaiiaaDoor
