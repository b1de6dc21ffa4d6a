/-
  The document's rules 6 and 7. Written by doc12/gen_bins.py.
-/
import Derived.Test.YtkbjckhbllmclaaGreatDoorT11
import Derived.Test.YtkbjckhbllmclaaGreatDoorT07
namespace Go.Proofs.YtkbjckhbllmclaaGreatDoor
open Go.ChangeShapes Go.WideShapes Go.ChangeAt Go.RowKit Go.Shelf
set_option linter.unusedVariables false
set_option linter.unusedSimpArgs false
section
set_option maxHeartbeats 6400000 in
set_option maxRecDepth 100000 in
theorem xBins_c {H : AuH} {n c : Nat} (HV : HeapV H n c) (ad : Addr) (b : Bool) (hb : b = true ↔ ∀ k, k < 11 → H.ListOk (2 + k)) (w : World) (hv : IsVals w ad n H.V) :
    Calls Tryz.prog 39 #[hpV H ad n c] w fun e w' => e = .returned (.bool b) ∧ Below w.heap.size w w' := by
  have HVL := hidp hv
  have HX0 := hidp (Held.new w 58 #[.int .i64 (H.t : Int), .int .i64 (H.p : Int), .int .i64 (H.s : Int), .slice (some ad) n c])
  obtain ⟨c0, c1, c2, c3⟩ := HX0.out.four
  have HBW := hidp (Bnew (B0 w) (.cells #[.int .i64 (H.t : Int), .int .i64 (H.p : Int), .int .i64 (H.s : Int), .slice (some ad) n c] 58))
  have hn := HV.nums
  have hcx : c ≤ 9223372036854775807 := hn.2.2.2.2.2.2.2.2
  have hni : n ≤ 6238 := hn.2.2.2.2.2.2.1
  have hnc := HV.cap
  have hp1 := hn.2.2.2.1
  have HBC := hidp hb
  clear hv hn hb
  unfold hpV
  go_enter Tryz.func39, Tryz.ntmps39
  go_wp2_with fail
  go_loopw [3] (fun u3 wr => ∃ (k : Nat), k ≤ 11 ∧ u3 = .int .i64 (k : Int) ∧ Hid (∀ j, j < k → H.ListOk (2 + j)) ∧ Hid (Held wr w.heap.size 58 #[.int .i64 (H.t : Int), .int .i64 (H.p : Int), .int .i64 (H.s : Int), .slice (some ad) n c]) ∧ Hid (Below w.heap.size w wr)) (fun u3 _ => 11 - (intOf u3).toNat)
  case atStart => exact ⟨0, by omega, rfl, hidp (fun q h => by omega), HX0, HBW⟩
  case round =>
    clear c0 c1 c2 c3 HX0 HBW
    obtain ⟨k, hkl, rfl, HLS, HX, HB⟩ := hrel
    obtain ⟨c0, c1, c2, c3⟩ := HX.out.four
    by_cases hk : k < 11
    · have t0 : decide ((k : Int) < 11) = true := decide_eq_true (by omega)
      obtain ⟨hd, hhd⟩ : ∃ hd, 2 + k = hd := ⟨_, rfl⟩
      have HHD := hidp hhd
      have hd30 : hd < 30 := by omega
      have HNT : Hid (nthI 2 11 1 (k : Int) = ((hd : Nat) : Int)) := hidp (by rw [nth_on (by omega) (by omega) (by omega)]; omega)
      have HDK : Hid ((hd : Int) = 2 + (k : Int)) := hidp (by omega)
      clear hhd
      go_wp2_with fail
      refine wp_region_held_drew (S := (fun w' => w'.cell? ⟨w.heap.size, 0, none⟩ = some (.int .i64 (H.t : Int)) ∧ w'.cell? ⟨w.heap.size, 1, none⟩ = some (.int .i64 (H.p : Int)) ∧ w'.cell? ⟨w.heap.size, 2, none⟩ = some (.int .i64 (H.s : Int)) ∧ w'.cell? ⟨w.heap.size, 3, none⟩ = some (.slice (some ad) n c))) (by kernel_rfl) ?_ (fun hHeld => ?_)
      · (try dsimp only)
        first | exact HX.out.drew.four | exact HX3.out.four | exact hHeld
      refine tkz 0 ?_
      refine tkz 1 ?_
      refine wpAnyH_ready (rs := [2]) (by kernel_rfl) (by simp) ?_
      refine AllReadyH.cons (o := _) rfl (fun K hK => ?_) AllReadyH.nil
      go_simp
      (go_at_call 63; refine (r7Bin_c _ _).mono ?_; rintro e w9 ⟨rfl, rfl⟩; rw [HNT.out])
      refine hK.out _ _ ?_ (fun hHeld => ?_)
      · (try dsimp only)
        first | exact HX.out.drew.four | exact HX3.out.four | exact hHeld
      clear hK K
      (try simp only [Act.put, gA, gB, gC, sA, sB, sC])
      refine wpAnyH_ready (rs := [3]) (by kernel_rfl) (by simp) ?_
      refine AllReadyH.cons (o := _) rfl (fun K hK => ?_) AllReadyH.nil
      go_simp
      (go_at_call 62; refine (xList_c HV ad hd (by omega) _ (HVL.out.below HB.out).drew).mono ?_; rintro e w3 ⟨u3, bk, rfl, hy, hno, hb3⟩; have HY := hidp hy; have HN := hidp hno; have HB3 := hidp (Bgo (Bdrew HB.out) hb3); have HX3 := hidp (HX.out.drew.keep hb3); clear hb3 hy hno)
      refine hK.out _ _ ?_ (fun hHeld => ?_)
      · (try dsimp only)
        first | exact HX.out.drew.four | exact HX3.out.four | exact hHeld
      clear hK K
      (try simp only [Act.put, gA, gB, gC, sA, sB, sC])
      refine tkz 4 ?_
      refine tkz 5 ?_
      refine tkz 6 ?_
      refine tkz 7 ?_
      refine tkz 8 ?_
      refine wpAnyH_done (by kernel_rfl) ?_ _
      clear c0 c1 c2 c3
      obtain ⟨c0, c1, c2, c3⟩ := HX3.out.four
      cases bk
      · have HBF : Hid (b = false) := hidp (bool_no HBC.out (fun h => HN.out rfl (by have h1 := h k hk; rw [HHD.out] at h1; exact h1)))
        clear HY
        go_wp2_with fail
        go_ret
        exact ⟨by rw [HBF.out]; rfl, HB3.out⟩
      · obtain ⟨l, a, hpa, hlen, hown⟩ := HY.out rfl
        obtain ⟨nl, hnl⟩ : ∃ nl, l.length = nl := ⟨_, rfl⟩
        have HLO := hidp (AuH.listOk_iff hpa)
        rw [hnl] at hown hlen
        have HLN := hidp hnl
        have HO3 := hidp (own_down hown (show w.heap.size ≤ wr.heap.size from HB.out.size))
        obtain ⟨Au, cu, hu⟩ := own_slice HO3.out
        subst hu
        have hcc := own_caps0 HO3.out
        obtain ⟨hcc1, hcc2⟩ := hcc
        clear HY HN hpa hown hnl HX HB
        go_wp2_with fail
        clear c0 c1 c2 c3
        go_loopw [6] (fun u6 wr => ∃ (q : Nat), q ≤ H.p ∧ u6 = .int .i64 (q : Int) ∧ Hid (∀ j, j < q → AuH.cntIn l j = H.isF (hd : Int) j) ∧ Hid (Held wr w.heap.size 58 #[.int .i64 (H.t : Int), .int .i64 (H.p : Int), .int .i64 (H.s : Int), .slice (some ad) n c]) ∧ Hid (wr.ownsRow w.heap.size 3 1 (.slice Au nl cu) nl (natVs l)) ∧ Hid (Below w.heap.size w wr)) (fun u6 _ => H.p - (intOf u6).toNat)
        case atStart => exact ⟨0, by omega, rfl, hidp (fun j h => by omega), HX3, HO3, HB3⟩
        case round =>
          clear HX3 HO3 HB3
          obtain ⟨q, hqp, rfl, HOK, HX, HO, HB⟩ := hrel
          obtain ⟨c0, c1, c2, c3⟩ := HX.out.four
          by_cases hq : q < H.p
          · have t1 : decide ((q : Int) < H.p) = true := decide_eq_true (by omega)
            obtain ⟨cn, hcn⟩ : ∃ cn, AuH.cntIn l q = cn := ⟨_, rfl⟩
            have HCN := hidp hcn
            clear hcn
            by_cases htg : H.tgt q = (hd : Int)
            · have HIF : Hid (H.isF (hd : Int) q = 1) := hidp (by unfold AuH.isF; rw [if_pos htg])
              have HTG : Hid (true = true ↔ H.tgt q = 2 + (k : Int)) := hidp ⟨fun _ => htg.trans HDK.out, fun _ => rfl⟩
              clear htg
              by_cases hcw : cn = 1
              · have q0 : ((cn : Int) != 1) = false := by simp; omega
                have HOK1 : Hid (∀ j, j < q + 1 → AuH.cntIn l j = H.isF (hd : Int) j) := hidp (fun j hj => by
                  rcases Nat.lt_or_ge j q with h | h
                  · exact HOK.out j h
                  · obtain rfl : j = q := by omega
                    rw [HCN.out, HIF.out]
                    exact hcw)
                clear hcw
                go_wp2_with (first
                  | (go_at_call 64; refine (xBinned_c HV ad hq k hk true HTG.out _ (HVL.out.below HB.out)).mono ?_; rintro e w4 ⟨rfl, hb4⟩; have HB4 := hidp (Bgo HB.out hb4); have HX4 := hidp (HX.out.keep hb4); have HO4 := hidp (own_below HO.out hb4); clear hb4 c0 c1 c2 c3; obtain ⟨c0, c1, c2, c3⟩ := HX4.out.four)
                  | (go_at_call 65; refine (xIn_c l Au nl cu q (by omega) (by omega) ⟨by omega, by omega⟩ HLN.out _ (Reads.of_own HO4.out)).mono ?_; rintro e w9 ⟨rfl, rfl⟩; rw [HCN.out])
                  | fail)
                go_roundw
                case rel => exact ⟨q + 1, by omega, by go_num, HOK1, HX4, HO4, HB4⟩
                case measure => simp [intOf]; omega
              · have q0 : ((cn : Int) != 1) = true := by simp; omega
                have HBF : Hid (b = false) := hidp (bool_no HBC.out (fun h => hcw (by
                  have h1 := h k hk
                  rw [HHD.out] at h1
                  rw [← HCN.out, (HLO.out.1 h1) q hq, HIF.out])))
                clear hcw
                go_wp2_with (first
                  | (go_at_call 64; refine (xBinned_c HV ad hq k hk true HTG.out _ (HVL.out.below HB.out)).mono ?_; rintro e w4 ⟨rfl, hb4⟩; have HB4 := hidp (Bgo HB.out hb4); have HX4 := hidp (HX.out.keep hb4); have HO4 := hidp (own_below HO.out hb4); clear hb4 c0 c1 c2 c3; obtain ⟨c0, c1, c2, c3⟩ := HX4.out.four)
                  | (go_at_call 65; refine (xIn_c l Au nl cu q (by omega) (by omega) ⟨by omega, by omega⟩ HLN.out _ (Reads.of_own HO4.out)).mono ?_; rintro e w9 ⟨rfl, rfl⟩; rw [HCN.out])
                  | fail)
                go_ret
                exact ⟨by rw [HBF.out]; rfl, HB4.out⟩
            · have HIF : Hid (H.isF (hd : Int) q = 0) := hidp (by unfold AuH.isF; rw [if_neg htg])
              have HTG : Hid (false = true ↔ H.tgt q = 2 + (k : Int)) := hidp ⟨fun h => (by cases h), fun h => absurd (h.trans HDK.out.symm) htg⟩
              clear htg
              by_cases hcw : cn = 0
              · have q0 : ((cn : Int) != 0) = false := by simp; omega
                have HOK1 : Hid (∀ j, j < q + 1 → AuH.cntIn l j = H.isF (hd : Int) j) := hidp (fun j hj => by
                  rcases Nat.lt_or_ge j q with h | h
                  · exact HOK.out j h
                  · obtain rfl : j = q := by omega
                    rw [HCN.out, HIF.out]
                    exact hcw)
                clear hcw
                go_wp2_with (first
                  | (go_at_call 64; refine (xBinned_c HV ad hq k hk false HTG.out _ (HVL.out.below HB.out)).mono ?_; rintro e w4 ⟨rfl, hb4⟩; have HB4 := hidp (Bgo HB.out hb4); have HX4 := hidp (HX.out.keep hb4); have HO4 := hidp (own_below HO.out hb4); clear hb4 c0 c1 c2 c3; obtain ⟨c0, c1, c2, c3⟩ := HX4.out.four)
                  | (go_at_call 65; refine (xIn_c l Au nl cu q (by omega) (by omega) ⟨by omega, by omega⟩ HLN.out _ (Reads.of_own HO4.out)).mono ?_; rintro e w9 ⟨rfl, rfl⟩; rw [HCN.out])
                  | fail)
                go_roundw
                case rel => exact ⟨q + 1, by omega, by go_num, HOK1, HX4, HO4, HB4⟩
                case measure => simp [intOf]; omega
              · have q0 : ((cn : Int) != 0) = true := by simp; omega
                have HBF : Hid (b = false) := hidp (bool_no HBC.out (fun h => hcw (by
                  have h1 := h k hk
                  rw [HHD.out] at h1
                  rw [← HCN.out, (HLO.out.1 h1) q hq, HIF.out])))
                clear hcw
                go_wp2_with (first
                  | (go_at_call 64; refine (xBinned_c HV ad hq k hk false HTG.out _ (HVL.out.below HB.out)).mono ?_; rintro e w4 ⟨rfl, hb4⟩; have HB4 := hidp (Bgo HB.out hb4); have HX4 := hidp (HX.out.keep hb4); have HO4 := hidp (own_below HO.out hb4); clear hb4 c0 c1 c2 c3; obtain ⟨c0, c1, c2, c3⟩ := HX4.out.four)
                  | (go_at_call 65; refine (xIn_c l Au nl cu q (by omega) (by omega) ⟨by omega, by omega⟩ HLN.out _ (Reads.of_own HO4.out)).mono ?_; rintro e w9 ⟨rfl, rfl⟩; rw [HCN.out])
                  | fail)
                go_ret
                exact ⟨by rw [HBF.out]; rfl, HB4.out⟩
          · have t1 : decide ((q : Int) < H.p) = false := decide_eq_false (by omega)
            have HL1 : Hid (∀ j, j < k + 1 → H.ListOk (2 + j)) := hidp (fun j hj => by
              rcases Nat.lt_or_ge j k with h | h
              · exact HLS.out j h
              · obtain rfl : j = k := by omega
                rw [HHD.out]
                exact HLO.out.2 (fun q' hq' => HOK.out q' (by omega)))
            go_wp2_with fail
            go_roundw
            case rel => exact ⟨k + 1, by omega, by go_num, HL1, HX, HB⟩
            case measure => simp [intOf]; omega
    · have t0 : decide ((k : Int) < 11) = false := decide_eq_false (by omega)
      have HBT : Hid (b = true) := hidp (HBC.out.2 (fun q hq => HLS.out q (by omega)))
      go_wp2_with fail
      go_ret
      exact ⟨by rw [HBT.out]; rfl, HB.out⟩


set_option maxHeartbeats 6400000 in
set_option maxRecDepth 100000 in
theorem xRacks_c {H : AuH} {n c : Nat} (HV : HeapV H n c) (h5 : H.R5) (ad : Addr) (b : Bool) (hb : b = true ↔ ∀ k, k < 9 → H.ListOk (13 + k)) (w : World) (hv : IsVals w ad n H.V) :
    Calls Tryz.prog 40 #[hpV H ad n c] w fun e w' => e = .returned (.bool b) ∧ Below w.heap.size w w' := by
  have HVL := hidp hv
  have HX0 := hidp (Held.new w 58 #[.int .i64 (H.t : Int), .int .i64 (H.p : Int), .int .i64 (H.s : Int), .slice (some ad) n c])
  obtain ⟨c0, c1, c2, c3⟩ := HX0.out.four
  have HBW := hidp (Bnew (B0 w) (.cells #[.int .i64 (H.t : Int), .int .i64 (H.p : Int), .int .i64 (H.s : Int), .slice (some ad) n c] 58))
  have hn := HV.nums
  have hcx : c ≤ 9223372036854775807 := hn.2.2.2.2.2.2.2.2
  have hni : n ≤ 6238 := hn.2.2.2.2.2.2.1
  have hnc := HV.cap
  have hp1 := hn.2.2.2.1
  have HBC := hidp hb
  have HR5 := hidp h5
  clear hv hn hb
  unfold hpV
  go_enter Tryz.func40, Tryz.ntmps40
  go_wp2_with fail
  go_loopw [3] (fun u3 wr => ∃ (k : Nat), k ≤ 9 ∧ u3 = .int .i64 (k : Int) ∧ Hid (∀ j, j < k → H.ListOk (13 + j)) ∧ Hid (Held wr w.heap.size 58 #[.int .i64 (H.t : Int), .int .i64 (H.p : Int), .int .i64 (H.s : Int), .slice (some ad) n c]) ∧ Hid (Below w.heap.size w wr)) (fun u3 _ => 9 - (intOf u3).toNat)
  case atStart => exact ⟨0, by omega, rfl, hidp (fun q h => by omega), HX0, HBW⟩
  case round =>
    clear c0 c1 c2 c3 HX0 HBW
    obtain ⟨k, hkl, rfl, HLS, HX, HB⟩ := hrel
    obtain ⟨c0, c1, c2, c3⟩ := HX.out.four
    by_cases hk : k < 9
    · have t0 : decide ((k : Int) < 9) = true := decide_eq_true (by omega)
      obtain ⟨hd, hhd⟩ : ∃ hd, 13 + k = hd := ⟨_, rfl⟩
      have HHD := hidp hhd
      have hd30 : hd < 30 := by omega
      have HNT : Hid (nthI 13 9 1 (k : Int) = ((hd : Nat) : Int)) := hidp (by rw [nth_on (by omega) (by omega) (by omega)]; omega)
      have HDK : Hid ((hd : Int) = 13 + (k : Int)) := hidp (by omega)
      clear hhd
      go_wp2_with fail
      refine wp_region_held_drew (S := (fun w' => w'.cell? ⟨w.heap.size, 0, none⟩ = some (.int .i64 (H.t : Int)) ∧ w'.cell? ⟨w.heap.size, 1, none⟩ = some (.int .i64 (H.p : Int)) ∧ w'.cell? ⟨w.heap.size, 2, none⟩ = some (.int .i64 (H.s : Int)) ∧ w'.cell? ⟨w.heap.size, 3, none⟩ = some (.slice (some ad) n c))) (by kernel_rfl) ?_ (fun hHeld => ?_)
      · (try dsimp only)
        first | exact HX.out.drew.four | exact HX3.out.four | exact hHeld
      refine tkz 0 ?_
      refine tkz 1 ?_
      refine wpAnyH_ready (rs := [2]) (by kernel_rfl) (by simp) ?_
      refine AllReadyH.cons (o := _) rfl (fun K hK => ?_) AllReadyH.nil
      go_simp
      (go_at_call 66; refine (r7Rack_c _ _).mono ?_; rintro e w9 ⟨rfl, rfl⟩; rw [HNT.out])
      refine hK.out _ _ ?_ (fun hHeld => ?_)
      · (try dsimp only)
        first | exact HX.out.drew.four | exact HX3.out.four | exact hHeld
      clear hK K
      (try simp only [Act.put, gA, gB, gC, sA, sB, sC])
      refine wpAnyH_ready (rs := [3]) (by kernel_rfl) (by simp) ?_
      refine AllReadyH.cons (o := _) rfl (fun K hK => ?_) AllReadyH.nil
      go_simp
      (go_at_call 62; refine (xList_c HV ad hd (by omega) _ (HVL.out.below HB.out).drew).mono ?_; rintro e w3 ⟨u3, bk, rfl, hy, hno, hb3⟩; have HY := hidp hy; have HN := hidp hno; have HB3 := hidp (Bgo (Bdrew HB.out) hb3); have HX3 := hidp (HX.out.drew.keep hb3); clear hb3 hy hno)
      refine hK.out _ _ ?_ (fun hHeld => ?_)
      · (try dsimp only)
        first | exact HX.out.drew.four | exact HX3.out.four | exact hHeld
      clear hK K
      (try simp only [Act.put, gA, gB, gC, sA, sB, sC])
      refine tkz 4 ?_
      refine tkz 5 ?_
      refine tkz 6 ?_
      refine tkz 7 ?_
      refine tkz 8 ?_
      refine wpAnyH_done (by kernel_rfl) ?_ _
      clear c0 c1 c2 c3
      obtain ⟨c0, c1, c2, c3⟩ := HX3.out.four
      cases bk
      · have HBF : Hid (b = false) := hidp (bool_no HBC.out (fun h => HN.out rfl (by have h1 := h k hk; rw [HHD.out] at h1; exact h1)))
        clear HY
        go_wp2_with fail
        go_ret
        exact ⟨by rw [HBF.out]; rfl, HB3.out⟩
      · obtain ⟨l, a, hpa, hlen, hown⟩ := HY.out rfl
        obtain ⟨nl, hnl⟩ : ∃ nl, l.length = nl := ⟨_, rfl⟩
        have HLO := hidp (AuH.listOk_iff hpa)
        rw [hnl] at hown hlen
        have HLN := hidp hnl
        have HO3 := hidp (own_down hown (show w.heap.size ≤ wr.heap.size from HB.out.size))
        obtain ⟨Au, cu, hu⟩ := own_slice HO3.out
        subst hu
        have hcc := own_caps0 HO3.out
        obtain ⟨hcc1, hcc2⟩ := hcc
        clear HY HN hpa hown hnl HX HB
        go_wp2_with fail
        clear c0 c1 c2 c3
        go_loopw [6] (fun u6 wr => ∃ (q : Nat), q ≤ H.p ∧ u6 = .int .i64 (q : Int) ∧ Hid (∀ j, j < q → AuH.cntIn l j = H.isF (hd : Int) j) ∧ Hid (Held wr w.heap.size 58 #[.int .i64 (H.t : Int), .int .i64 (H.p : Int), .int .i64 (H.s : Int), .slice (some ad) n c]) ∧ Hid (wr.ownsRow w.heap.size 3 1 (.slice Au nl cu) nl (natVs l)) ∧ Hid (Below w.heap.size w wr)) (fun u6 _ => H.p - (intOf u6).toNat)
        case atStart => exact ⟨0, by omega, rfl, hidp (fun j h => by omega), HX3, HO3, HB3⟩
        case round =>
          clear HX3 HO3 HB3
          obtain ⟨q, hqp, rfl, HOK, HX, HO, HB⟩ := hrel
          obtain ⟨c0, c1, c2, c3⟩ := HX.out.four
          by_cases hq : q < H.p
          · have t1 : decide ((q : Int) < H.p) = true := decide_eq_true (by omega)
            obtain ⟨cn, hcn⟩ : ∃ cn, AuH.cntIn l q = cn := ⟨_, rfl⟩
            have HCN := hidp hcn
            clear hcn
            by_cases htg : H.tgt q = (hd : Int)
            · have HIF : Hid (H.isF (hd : Int) q = 1) := hidp (by unfold AuH.isF; rw [if_pos htg])
              have HTG : Hid (true = true ↔ H.tgt q = 13 + (k : Int)) := hidp ⟨fun _ => htg.trans HDK.out, fun _ => rfl⟩
              clear htg
              by_cases hcw : cn = 1
              · have q0 : ((cn : Int) != 1) = false := by simp; omega
                have HOK1 : Hid (∀ j, j < q + 1 → AuH.cntIn l j = H.isF (hd : Int) j) := hidp (fun j hj => by
                  rcases Nat.lt_or_ge j q with h | h
                  · exact HOK.out j h
                  · obtain rfl : j = q := by omega
                    rw [HCN.out, HIF.out]
                    exact hcw)
                clear hcw
                go_wp2_with (first
                  | (go_at_call 67; refine (xRacked_c HV ad hq (HR5.out q hq) k hk true HTG.out _ (HVL.out.below HB.out)).mono ?_; rintro e w4 ⟨rfl, hb4⟩; have HB4 := hidp (Bgo HB.out hb4); have HX4 := hidp (HX.out.keep hb4); have HO4 := hidp (own_below HO.out hb4); clear hb4 c0 c1 c2 c3; obtain ⟨c0, c1, c2, c3⟩ := HX4.out.four)
                  | (go_at_call 65; refine (xIn_c l Au nl cu q (by omega) (by omega) ⟨by omega, by omega⟩ HLN.out _ (Reads.of_own HO4.out)).mono ?_; rintro e w9 ⟨rfl, rfl⟩; rw [HCN.out])
                  | fail)
                go_roundw
                case rel => exact ⟨q + 1, by omega, by go_num, HOK1, HX4, HO4, HB4⟩
                case measure => simp [intOf]; omega
              · have q0 : ((cn : Int) != 1) = true := by simp; omega
                have HBF : Hid (b = false) := hidp (bool_no HBC.out (fun h => hcw (by
                  have h1 := h k hk
                  rw [HHD.out] at h1
                  rw [← HCN.out, (HLO.out.1 h1) q hq, HIF.out])))
                clear hcw
                go_wp2_with (first
                  | (go_at_call 67; refine (xRacked_c HV ad hq (HR5.out q hq) k hk true HTG.out _ (HVL.out.below HB.out)).mono ?_; rintro e w4 ⟨rfl, hb4⟩; have HB4 := hidp (Bgo HB.out hb4); have HX4 := hidp (HX.out.keep hb4); have HO4 := hidp (own_below HO.out hb4); clear hb4 c0 c1 c2 c3; obtain ⟨c0, c1, c2, c3⟩ := HX4.out.four)
                  | (go_at_call 65; refine (xIn_c l Au nl cu q (by omega) (by omega) ⟨by omega, by omega⟩ HLN.out _ (Reads.of_own HO4.out)).mono ?_; rintro e w9 ⟨rfl, rfl⟩; rw [HCN.out])
                  | fail)
                go_ret
                exact ⟨by rw [HBF.out]; rfl, HB4.out⟩
            · have HIF : Hid (H.isF (hd : Int) q = 0) := hidp (by unfold AuH.isF; rw [if_neg htg])
              have HTG : Hid (false = true ↔ H.tgt q = 13 + (k : Int)) := hidp ⟨fun h => (by cases h), fun h => absurd (h.trans HDK.out.symm) htg⟩
              clear htg
              by_cases hcw : cn = 0
              · have q0 : ((cn : Int) != 0) = false := by simp; omega
                have HOK1 : Hid (∀ j, j < q + 1 → AuH.cntIn l j = H.isF (hd : Int) j) := hidp (fun j hj => by
                  rcases Nat.lt_or_ge j q with h | h
                  · exact HOK.out j h
                  · obtain rfl : j = q := by omega
                    rw [HCN.out, HIF.out]
                    exact hcw)
                clear hcw
                go_wp2_with (first
                  | (go_at_call 67; refine (xRacked_c HV ad hq (HR5.out q hq) k hk false HTG.out _ (HVL.out.below HB.out)).mono ?_; rintro e w4 ⟨rfl, hb4⟩; have HB4 := hidp (Bgo HB.out hb4); have HX4 := hidp (HX.out.keep hb4); have HO4 := hidp (own_below HO.out hb4); clear hb4 c0 c1 c2 c3; obtain ⟨c0, c1, c2, c3⟩ := HX4.out.four)
                  | (go_at_call 65; refine (xIn_c l Au nl cu q (by omega) (by omega) ⟨by omega, by omega⟩ HLN.out _ (Reads.of_own HO4.out)).mono ?_; rintro e w9 ⟨rfl, rfl⟩; rw [HCN.out])
                  | fail)
                go_roundw
                case rel => exact ⟨q + 1, by omega, by go_num, HOK1, HX4, HO4, HB4⟩
                case measure => simp [intOf]; omega
              · have q0 : ((cn : Int) != 0) = true := by simp; omega
                have HBF : Hid (b = false) := hidp (bool_no HBC.out (fun h => hcw (by
                  have h1 := h k hk
                  rw [HHD.out] at h1
                  rw [← HCN.out, (HLO.out.1 h1) q hq, HIF.out])))
                clear hcw
                go_wp2_with (first
                  | (go_at_call 67; refine (xRacked_c HV ad hq (HR5.out q hq) k hk false HTG.out _ (HVL.out.below HB.out)).mono ?_; rintro e w4 ⟨rfl, hb4⟩; have HB4 := hidp (Bgo HB.out hb4); have HX4 := hidp (HX.out.keep hb4); have HO4 := hidp (own_below HO.out hb4); clear hb4 c0 c1 c2 c3; obtain ⟨c0, c1, c2, c3⟩ := HX4.out.four)
                  | (go_at_call 65; refine (xIn_c l Au nl cu q (by omega) (by omega) ⟨by omega, by omega⟩ HLN.out _ (Reads.of_own HO4.out)).mono ?_; rintro e w9 ⟨rfl, rfl⟩; rw [HCN.out])
                  | fail)
                go_ret
                exact ⟨by rw [HBF.out]; rfl, HB4.out⟩
          · have t1 : decide ((q : Int) < H.p) = false := decide_eq_false (by omega)
            have HL1 : Hid (∀ j, j < k + 1 → H.ListOk (13 + j)) := hidp (fun j hj => by
              rcases Nat.lt_or_ge j k with h | h
              · exact HLS.out j h
              · obtain rfl : j = k := by omega
                rw [HHD.out]
                exact HLO.out.2 (fun q' hq' => HOK.out q' (by omega)))
            go_wp2_with fail
            go_roundw
            case rel => exact ⟨k + 1, by omega, by go_num, HL1, HX, HB⟩
            case measure => simp [intOf]; omega
    · have t0 : decide ((k : Int) < 9) = false := decide_eq_false (by omega)
      have HBT : Hid (b = true) := hidp (HBC.out.2 (fun q hq => HLS.out q (by omega)))
      go_wp2_with fail
      go_ret
      exact ⟨by rw [HBT.out]; rfl, HB.out⟩
end
end Go.Proofs.YtkbjckhbllmclaaGreatDoor
