/-
  The document's Check. Written by doc12/gen_doccheck.py.
-/
import Derived.Test.YtkbjckhbllmclaaGreatDoorTDocFeet
import Derived.Test.YtkbjckhbllmclaaGreatDoorT11
import Derived.Test.YtkbjckhbllmclaaGreatDoorT12
import Derived.Test.YtkbjckhbllmclaaGreatDoorTDocLoose
import Derived.Test.YtkbjckhbllmclaaGreatDoorT13
import Derived.Test.YtkbjckhbllmclaaGreatDoorT14
import Derived.Test.YtkbjckhbllmclaaGreatDoorT08
namespace Go.Proofs.YtkbjckhbllmclaaGreatDoor
open Go.ChangeShapes Go.WideShapes Go.ChangeAt Go.RowKit Go.Shelf
set_option linter.unusedVariables false
set_option linter.unusedSimpArgs false
section
set_option maxHeartbeats 1600000 in
theorem xCheck_no (t q s : Int) (A : Option Addr) (n c : Nat) (hnc : n ≤ c) (hc : c ≤ maxLen) (h : ¬ (lC t q s ≠ 0 ∧ (n : Int) = lC t q s)) (w : World) :
    Calls Tryz.prog 23 #[.agg #[.int .i64 t, .int .i64 q, .int .i64 s], .slice A n c] w fun e w' => e = .returned (.tuple #[.int .i64 1, .bool false]) ∧ Below w.heap.size w w' := by
  have HX0 := hidp (Held.new w 23 #[.int .i64 t, .int .i64 q, .int .i64 s])
  obtain ⟨c0, c1, c2⟩ := HX0.out.three
  have HBW := hidp (Bnew (B0 w) (.cells #[.int .i64 t, .int .i64 q, .int .i64 s] 23))
  cases hr : rightB t q s
  · have HRI := hidp hr
    clear hr h
    go_enter Tryz.func23, Tryz.ntmps23
    go_wp2_with (first
      | (go_at_call 33; refine (r4Right_c t q s _).mono ?_; rintro e w2 ⟨rfl, hb2⟩; rw [HRI.out]; have HB2 := hidp (Bgo HBW.out hb2); have HX2 := hidp (HX0.out.keep hb2); clear hb2 c0 c1 c2; obtain ⟨c0, c1, c2⟩ := HX2.out.three)
      | fail)
    go_ret2
    exact ⟨rfl, HB2.out⟩
  · have HRI := hidp hr
    have hl0 : lC t q s ≠ 0 := by
      have := (lay_yes hr).5
      have h4 := (rightB_iff t q s).1 hr
      omega
    have hne : ¬ (n : Int) = lC t q s := fun h2 => h ⟨hl0, h2⟩
    obtain ⟨l, hl⟩ : ∃ l, lC t q s = l := ⟨_, rfl⟩
    have HLC := hidp hl
    rw [hl] at hne
    have q0 : ((n : Int) != l) = true := by simpa using hne
    clear hr h hl0 hl hne
    go_enter Tryz.func23, Tryz.ntmps23
    go_wp2_with (first
      | (go_at_call 33; refine (r4Right_c t q s _).mono ?_; rintro e w2 ⟨rfl, hb2⟩; rw [HRI.out]; have HB2 := hidp (Bgo HBW.out hb2); have HX2 := hidp (HX0.out.keep hb2); clear hb2 c0 c1 c2; obtain ⟨c0, c1, c2⟩ := HX2.out.three)
      | (go_at_call 34; refine (r7Cells_c t q s _).mono ?_; rintro e w3 ⟨rfl, hb3⟩; rw [HLC.out]; have HB3 := hidp (Bgo HB2.out hb3))
      | fail)
    go_ret2
    exact ⟨rfl, HB3.out⟩


set_option maxHeartbeats 3200000 in
theorem xCheck_1 {H : AuH} {n c : Nat} (HV : HeapV H n c) (ad : Addr) (hr : ∀ i, i < 1 → H.rule i) (hno : ¬ H.rule 1) (w : World) (hv : IsVals w ad n H.V) :
    Calls Tryz.prog 23 #[.agg #[.int .i64 (H.t : Int), .int .i64 (H.p : Int), .int .i64 (H.s : Int)], .slice (some ad) n c] w fun e w' => e = .returned (.tuple #[.int .i64 2, .bool false]) ∧ Below w.heap.size w w' := by
  have HVL := hidp hv
  have HX0 := hidp (Held.new w 23 #[.int .i64 (H.t : Int), .int .i64 (H.p : Int), .int .i64 (H.s : Int)])
  obtain ⟨c0, c1, c2⟩ := HX0.out.three
  have HBW := hidp (Bnew (B0 w) (.cells #[.int .i64 (H.t : Int), .int .i64 (H.p : Int), .int .i64 (H.s : Int)] 23))
  have HRI := hidp HV.right
  have HLC : Hid (lC H.t H.p H.s = (n : Int)) := hidp (by have := (lay_yes HV.right).5; have := HV.len; omega)
  have HR1 := hidp (fun (W : World) (hv : IsVals W ad n H.V) => xTiles_c HV ad false ⟨fun h => (by cases h), fun h => absurd h hno⟩ W hv)
  have hn := HV.nums
  have hcx : c ≤ 9223372036854775807 := hn.2.2.2.2.2.2.2.2
  have hni : n ≤ 6238 := hn.2.2.2.2.2.2.1
  have hnc := HV.cap
  clear hv hr hno hn
  go_enter Tryz.func23, Tryz.ntmps23
  go_wp2_with (first
    | (go_at_call 33; refine (r4Right_c H.t H.p H.s _).mono ?_; rintro e w2 ⟨rfl, hb2⟩; rw [HRI.out]; have HB2 := hidp (Bgo HBW.out hb2); have HX2 := hidp (HX0.out.keep hb2); clear hb2 c0 c1 c2; obtain ⟨c0, c1, c2⟩ := HX2.out.three)
    | (go_at_call 34; refine (r7Cells_c H.t H.p H.s _).mono ?_; rintro e w3 ⟨rfl, hb3⟩; rw [HLC.out]; have HB3 := hidp (Bgo HB2.out hb3); have HX3 := hidp (HX2.out.keep hb3); clear hb3 c0 c1 c2; obtain ⟨c0, c1, c2⟩ := HX3.out.three; obtain ⟨x0, x1, x2, x3⟩ := (Held.new w3 58 #[.int .i64 (H.t : Int), .int .i64 (H.p : Int), .int .i64 (H.s : Int), .slice (some ad) n c]).four)
    | (go_at_call 35; refine (HR1.out _ (HVL.out.below (Bnew HB3.out (.cells #[.int .i64 (H.t : Int), .int .i64 (H.p : Int), .int .i64 (H.s : Int), .slice (some ad) n c] 58)))).mono ?_; rintro e w4 ⟨rfl, hb4⟩; have HB4 := hidp (Bgo (Bnew HB3.out (.cells #[.int .i64 (H.t : Int), .int .i64 (H.p : Int), .int .i64 (H.s : Int), .slice (some ad) n c] 58)) hb4); have HX4 := hidp ((Held.new w3 58 #[.int .i64 (H.t : Int), .int .i64 (H.p : Int), .int .i64 (H.s : Int), .slice (some ad) n c]).keep hb4); clear hb4 x0 x1 x2 x3; obtain ⟨x0, x1, x2, x3⟩ := HX4.out.four)
    | fail)
  go_ret2
  exact ⟨rfl, HB4.out⟩


set_option maxHeartbeats 3200000 in
theorem xCheck_2 {H : AuH} {n c : Nat} (HV : HeapV H n c) (ad : Addr) (hr : ∀ i, i < 2 → H.rule i) (hno : ¬ H.rule 2) (w : World) (hv : IsVals w ad n H.V) :
    Calls Tryz.prog 23 #[.agg #[.int .i64 (H.t : Int), .int .i64 (H.p : Int), .int .i64 (H.s : Int)], .slice (some ad) n c] w fun e w' => e = .returned (.tuple #[.int .i64 3, .bool false]) ∧ Below w.heap.size w w' := by
  have HVL := hidp hv
  have HX0 := hidp (Held.new w 23 #[.int .i64 (H.t : Int), .int .i64 (H.p : Int), .int .i64 (H.s : Int)])
  obtain ⟨c0, c1, c2⟩ := HX0.out.three
  have HBW := hidp (Bnew (B0 w) (.cells #[.int .i64 (H.t : Int), .int .i64 (H.p : Int), .int .i64 (H.s : Int)] 23))
  have HRI := hidp HV.right
  have HLC : Hid (lC H.t H.p H.s = (n : Int)) := hidp (by have := (lay_yes HV.right).5; have := HV.len; omega)
  have HR1 := hidp (fun (W : World) (hv : IsVals W ad n H.V) => xTiles_c HV ad true ⟨fun _ => hr 1 (by omega), fun _ => rfl⟩ W hv)
  have HR2 := hidp (fun (W : World) (hv : IsVals W ad n H.V) => xFeet_c HV (hr 1 (by omega)) ad false ⟨fun h => (by cases h), fun h => absurd h hno⟩ W hv)
  have hn := HV.nums
  have hcx : c ≤ 9223372036854775807 := hn.2.2.2.2.2.2.2.2
  have hni : n ≤ 6238 := hn.2.2.2.2.2.2.1
  have hnc := HV.cap
  clear hv hr hno hn
  go_enter Tryz.func23, Tryz.ntmps23
  go_wp2_with (first
    | (go_at_call 33; refine (r4Right_c H.t H.p H.s _).mono ?_; rintro e w2 ⟨rfl, hb2⟩; rw [HRI.out]; have HB2 := hidp (Bgo HBW.out hb2); have HX2 := hidp (HX0.out.keep hb2); clear hb2 c0 c1 c2; obtain ⟨c0, c1, c2⟩ := HX2.out.three)
    | (go_at_call 34; refine (r7Cells_c H.t H.p H.s _).mono ?_; rintro e w3 ⟨rfl, hb3⟩; rw [HLC.out]; have HB3 := hidp (Bgo HB2.out hb3); have HX3 := hidp (HX2.out.keep hb3); clear hb3 c0 c1 c2; obtain ⟨c0, c1, c2⟩ := HX3.out.three; obtain ⟨x0, x1, x2, x3⟩ := (Held.new w3 58 #[.int .i64 (H.t : Int), .int .i64 (H.p : Int), .int .i64 (H.s : Int), .slice (some ad) n c]).four)
    | (go_at_call 35; refine (HR1.out _ (HVL.out.below (Bnew HB3.out (.cells #[.int .i64 (H.t : Int), .int .i64 (H.p : Int), .int .i64 (H.s : Int), .slice (some ad) n c] 58)))).mono ?_; rintro e w4 ⟨rfl, hb4⟩; have HB4 := hidp (Bgo (Bnew HB3.out (.cells #[.int .i64 (H.t : Int), .int .i64 (H.p : Int), .int .i64 (H.s : Int), .slice (some ad) n c] 58)) hb4); have HX4 := hidp ((Held.new w3 58 #[.int .i64 (H.t : Int), .int .i64 (H.p : Int), .int .i64 (H.s : Int), .slice (some ad) n c]).keep hb4); clear hb4 x0 x1 x2 x3; obtain ⟨x0, x1, x2, x3⟩ := HX4.out.four)
    | (go_at_call 36; refine (HR2.out _ (HVL.out.below HB4.out)).mono ?_; rintro e w5 ⟨rfl, hb5⟩; have HB5 := hidp (Bgo HB4.out hb5); have HX5 := hidp (HX4.out.keep hb5); clear hb5 x0 x1 x2 x3; obtain ⟨x0, x1, x2, x3⟩ := HX5.out.four)
    | fail)
  go_ret2
  exact ⟨rfl, HB5.out⟩


set_option maxHeartbeats 3200000 in
theorem xCheck_3 {H : AuH} {n c : Nat} (HV : HeapV H n c) (ad : Addr) (hr : ∀ i, i < 3 → H.rule i) (hno : ¬ H.rule 3) (w : World) (hv : IsVals w ad n H.V) :
    Calls Tryz.prog 23 #[.agg #[.int .i64 (H.t : Int), .int .i64 (H.p : Int), .int .i64 (H.s : Int)], .slice (some ad) n c] w fun e w' => e = .returned (.tuple #[.int .i64 4, .bool false]) ∧ Below w.heap.size w w' := by
  have HVL := hidp hv
  have HX0 := hidp (Held.new w 23 #[.int .i64 (H.t : Int), .int .i64 (H.p : Int), .int .i64 (H.s : Int)])
  obtain ⟨c0, c1, c2⟩ := HX0.out.three
  have HBW := hidp (Bnew (B0 w) (.cells #[.int .i64 (H.t : Int), .int .i64 (H.p : Int), .int .i64 (H.s : Int)] 23))
  have HRI := hidp HV.right
  have HLC : Hid (lC H.t H.p H.s = (n : Int)) := hidp (by have := (lay_yes HV.right).5; have := HV.len; omega)
  have HR1 := hidp (fun (W : World) (hv : IsVals W ad n H.V) => xTiles_c HV ad true ⟨fun _ => hr 1 (by omega), fun _ => rfl⟩ W hv)
  have HR2 := hidp (fun (W : World) (hv : IsVals W ad n H.V) => xFeet_c HV (hr 1 (by omega)) ad true ⟨fun _ => hr 2 (by omega), fun _ => rfl⟩ W hv)
  have HR3 := hidp (fun (W : World) (hv : IsVals W ad n H.V) => xApart_c HV (hr 1 (by omega)) ad false ⟨fun h => (by cases h), fun h => absurd h hno⟩ W hv)
  have hn := HV.nums
  have hcx : c ≤ 9223372036854775807 := hn.2.2.2.2.2.2.2.2
  have hni : n ≤ 6238 := hn.2.2.2.2.2.2.1
  have hnc := HV.cap
  clear hv hr hno hn
  go_enter Tryz.func23, Tryz.ntmps23
  go_wp2_with (first
    | (go_at_call 33; refine (r4Right_c H.t H.p H.s _).mono ?_; rintro e w2 ⟨rfl, hb2⟩; rw [HRI.out]; have HB2 := hidp (Bgo HBW.out hb2); have HX2 := hidp (HX0.out.keep hb2); clear hb2 c0 c1 c2; obtain ⟨c0, c1, c2⟩ := HX2.out.three)
    | (go_at_call 34; refine (r7Cells_c H.t H.p H.s _).mono ?_; rintro e w3 ⟨rfl, hb3⟩; rw [HLC.out]; have HB3 := hidp (Bgo HB2.out hb3); have HX3 := hidp (HX2.out.keep hb3); clear hb3 c0 c1 c2; obtain ⟨c0, c1, c2⟩ := HX3.out.three; obtain ⟨x0, x1, x2, x3⟩ := (Held.new w3 58 #[.int .i64 (H.t : Int), .int .i64 (H.p : Int), .int .i64 (H.s : Int), .slice (some ad) n c]).four)
    | (go_at_call 35; refine (HR1.out _ (HVL.out.below (Bnew HB3.out (.cells #[.int .i64 (H.t : Int), .int .i64 (H.p : Int), .int .i64 (H.s : Int), .slice (some ad) n c] 58)))).mono ?_; rintro e w4 ⟨rfl, hb4⟩; have HB4 := hidp (Bgo (Bnew HB3.out (.cells #[.int .i64 (H.t : Int), .int .i64 (H.p : Int), .int .i64 (H.s : Int), .slice (some ad) n c] 58)) hb4); have HX4 := hidp ((Held.new w3 58 #[.int .i64 (H.t : Int), .int .i64 (H.p : Int), .int .i64 (H.s : Int), .slice (some ad) n c]).keep hb4); clear hb4 x0 x1 x2 x3; obtain ⟨x0, x1, x2, x3⟩ := HX4.out.four)
    | (go_at_call 36; refine (HR2.out _ (HVL.out.below HB4.out)).mono ?_; rintro e w5 ⟨rfl, hb5⟩; have HB5 := hidp (Bgo HB4.out hb5); have HX5 := hidp (HX4.out.keep hb5); clear hb5 x0 x1 x2 x3; obtain ⟨x0, x1, x2, x3⟩ := HX5.out.four)
    | (go_at_call 37; refine (HR3.out _ (HVL.out.below HB5.out)).mono ?_; rintro e w6 ⟨rfl, hb6⟩; have HB6 := hidp (Bgo HB5.out hb6); have HX6 := hidp (HX5.out.keep hb6); clear hb6 x0 x1 x2 x3; obtain ⟨x0, x1, x2, x3⟩ := HX6.out.four)
    | fail)
  go_ret2
  exact ⟨rfl, HB6.out⟩


set_option maxHeartbeats 3200000 in
theorem xCheck_4 {H : AuH} {n c : Nat} (HV : HeapV H n c) (ad : Addr) (hr : ∀ i, i < 4 → H.rule i) (hno : ¬ H.rule 4) (w : World) (hv : IsVals w ad n H.V) :
    Calls Tryz.prog 23 #[.agg #[.int .i64 (H.t : Int), .int .i64 (H.p : Int), .int .i64 (H.s : Int)], .slice (some ad) n c] w fun e w' => e = .returned (.tuple #[.int .i64 5, .bool false]) ∧ Below w.heap.size w w' := by
  have HVL := hidp hv
  have HX0 := hidp (Held.new w 23 #[.int .i64 (H.t : Int), .int .i64 (H.p : Int), .int .i64 (H.s : Int)])
  obtain ⟨c0, c1, c2⟩ := HX0.out.three
  have HBW := hidp (Bnew (B0 w) (.cells #[.int .i64 (H.t : Int), .int .i64 (H.p : Int), .int .i64 (H.s : Int)] 23))
  have HRI := hidp HV.right
  have HLC : Hid (lC H.t H.p H.s = (n : Int)) := hidp (by have := (lay_yes HV.right).5; have := HV.len; omega)
  have HR1 := hidp (fun (W : World) (hv : IsVals W ad n H.V) => xTiles_c HV ad true ⟨fun _ => hr 1 (by omega), fun _ => rfl⟩ W hv)
  have HR2 := hidp (fun (W : World) (hv : IsVals W ad n H.V) => xFeet_c HV (hr 1 (by omega)) ad true ⟨fun _ => hr 2 (by omega), fun _ => rfl⟩ W hv)
  have HR3 := hidp (fun (W : World) (hv : IsVals W ad n H.V) => xApart_c HV (hr 1 (by omega)) ad true ⟨fun _ => hr 3 (by omega), fun _ => rfl⟩ W hv)
  have HR4 := hidp (fun (W : World) (hv : IsVals W ad n H.V) => xSlots5_c HV ad false ⟨fun h => (by cases h), fun h => absurd h hno⟩ W hv)
  have hn := HV.nums
  have hcx : c ≤ 9223372036854775807 := hn.2.2.2.2.2.2.2.2
  have hni : n ≤ 6238 := hn.2.2.2.2.2.2.1
  have hnc := HV.cap
  clear hv hr hno hn
  go_enter Tryz.func23, Tryz.ntmps23
  go_wp2_with (first
    | (go_at_call 33; refine (r4Right_c H.t H.p H.s _).mono ?_; rintro e w2 ⟨rfl, hb2⟩; rw [HRI.out]; have HB2 := hidp (Bgo HBW.out hb2); have HX2 := hidp (HX0.out.keep hb2); clear hb2 c0 c1 c2; obtain ⟨c0, c1, c2⟩ := HX2.out.three)
    | (go_at_call 34; refine (r7Cells_c H.t H.p H.s _).mono ?_; rintro e w3 ⟨rfl, hb3⟩; rw [HLC.out]; have HB3 := hidp (Bgo HB2.out hb3); have HX3 := hidp (HX2.out.keep hb3); clear hb3 c0 c1 c2; obtain ⟨c0, c1, c2⟩ := HX3.out.three; obtain ⟨x0, x1, x2, x3⟩ := (Held.new w3 58 #[.int .i64 (H.t : Int), .int .i64 (H.p : Int), .int .i64 (H.s : Int), .slice (some ad) n c]).four)
    | (go_at_call 35; refine (HR1.out _ (HVL.out.below (Bnew HB3.out (.cells #[.int .i64 (H.t : Int), .int .i64 (H.p : Int), .int .i64 (H.s : Int), .slice (some ad) n c] 58)))).mono ?_; rintro e w4 ⟨rfl, hb4⟩; have HB4 := hidp (Bgo (Bnew HB3.out (.cells #[.int .i64 (H.t : Int), .int .i64 (H.p : Int), .int .i64 (H.s : Int), .slice (some ad) n c] 58)) hb4); have HX4 := hidp ((Held.new w3 58 #[.int .i64 (H.t : Int), .int .i64 (H.p : Int), .int .i64 (H.s : Int), .slice (some ad) n c]).keep hb4); clear hb4 x0 x1 x2 x3; obtain ⟨x0, x1, x2, x3⟩ := HX4.out.four)
    | (go_at_call 36; refine (HR2.out _ (HVL.out.below HB4.out)).mono ?_; rintro e w5 ⟨rfl, hb5⟩; have HB5 := hidp (Bgo HB4.out hb5); have HX5 := hidp (HX4.out.keep hb5); clear hb5 x0 x1 x2 x3; obtain ⟨x0, x1, x2, x3⟩ := HX5.out.four)
    | (go_at_call 37; refine (HR3.out _ (HVL.out.below HB5.out)).mono ?_; rintro e w6 ⟨rfl, hb6⟩; have HB6 := hidp (Bgo HB5.out hb6); have HX6 := hidp (HX5.out.keep hb6); clear hb6 x0 x1 x2 x3; obtain ⟨x0, x1, x2, x3⟩ := HX6.out.four)
    | (go_at_call 38; refine (HR4.out _ (HVL.out.below HB6.out)).mono ?_; rintro e w7 ⟨rfl, hb7⟩; have HB7 := hidp (Bgo HB6.out hb7); have HX7 := hidp (HX6.out.keep hb7); clear hb7 x0 x1 x2 x3; obtain ⟨x0, x1, x2, x3⟩ := HX7.out.four)
    | fail)
  go_ret2
  exact ⟨rfl, HB7.out⟩


set_option maxHeartbeats 3200000 in
theorem xCheck_5 {H : AuH} {n c : Nat} (HV : HeapV H n c) (ad : Addr) (hr : ∀ i, i < 5 → H.rule i) (hno : ¬ H.rule 5) (w : World) (hv : IsVals w ad n H.V) :
    Calls Tryz.prog 23 #[.agg #[.int .i64 (H.t : Int), .int .i64 (H.p : Int), .int .i64 (H.s : Int)], .slice (some ad) n c] w fun e w' => e = .returned (.tuple #[.int .i64 6, .bool false]) ∧ Below w.heap.size w w' := by
  have HVL := hidp hv
  have HX0 := hidp (Held.new w 23 #[.int .i64 (H.t : Int), .int .i64 (H.p : Int), .int .i64 (H.s : Int)])
  obtain ⟨c0, c1, c2⟩ := HX0.out.three
  have HBW := hidp (Bnew (B0 w) (.cells #[.int .i64 (H.t : Int), .int .i64 (H.p : Int), .int .i64 (H.s : Int)] 23))
  have HRI := hidp HV.right
  have HLC : Hid (lC H.t H.p H.s = (n : Int)) := hidp (by have := (lay_yes HV.right).5; have := HV.len; omega)
  have HR1 := hidp (fun (W : World) (hv : IsVals W ad n H.V) => xTiles_c HV ad true ⟨fun _ => hr 1 (by omega), fun _ => rfl⟩ W hv)
  have HR2 := hidp (fun (W : World) (hv : IsVals W ad n H.V) => xFeet_c HV (hr 1 (by omega)) ad true ⟨fun _ => hr 2 (by omega), fun _ => rfl⟩ W hv)
  have HR3 := hidp (fun (W : World) (hv : IsVals W ad n H.V) => xApart_c HV (hr 1 (by omega)) ad true ⟨fun _ => hr 3 (by omega), fun _ => rfl⟩ W hv)
  have HR4 := hidp (fun (W : World) (hv : IsVals W ad n H.V) => xSlots5_c HV ad true ⟨fun _ => hr 4 (by omega), fun _ => rfl⟩ W hv)
  have HR5 := hidp (fun (W : World) (hv : IsVals W ad n H.V) => xBins_c HV ad false ⟨fun h => (by cases h), fun h => absurd h hno⟩ W hv)
  have hn := HV.nums
  have hcx : c ≤ 9223372036854775807 := hn.2.2.2.2.2.2.2.2
  have hni : n ≤ 6238 := hn.2.2.2.2.2.2.1
  have hnc := HV.cap
  clear hv hr hno hn
  go_enter Tryz.func23, Tryz.ntmps23
  go_wp2_with (first
    | (go_at_call 33; refine (r4Right_c H.t H.p H.s _).mono ?_; rintro e w2 ⟨rfl, hb2⟩; rw [HRI.out]; have HB2 := hidp (Bgo HBW.out hb2); have HX2 := hidp (HX0.out.keep hb2); clear hb2 c0 c1 c2; obtain ⟨c0, c1, c2⟩ := HX2.out.three)
    | (go_at_call 34; refine (r7Cells_c H.t H.p H.s _).mono ?_; rintro e w3 ⟨rfl, hb3⟩; rw [HLC.out]; have HB3 := hidp (Bgo HB2.out hb3); have HX3 := hidp (HX2.out.keep hb3); clear hb3 c0 c1 c2; obtain ⟨c0, c1, c2⟩ := HX3.out.three; obtain ⟨x0, x1, x2, x3⟩ := (Held.new w3 58 #[.int .i64 (H.t : Int), .int .i64 (H.p : Int), .int .i64 (H.s : Int), .slice (some ad) n c]).four)
    | (go_at_call 35; refine (HR1.out _ (HVL.out.below (Bnew HB3.out (.cells #[.int .i64 (H.t : Int), .int .i64 (H.p : Int), .int .i64 (H.s : Int), .slice (some ad) n c] 58)))).mono ?_; rintro e w4 ⟨rfl, hb4⟩; have HB4 := hidp (Bgo (Bnew HB3.out (.cells #[.int .i64 (H.t : Int), .int .i64 (H.p : Int), .int .i64 (H.s : Int), .slice (some ad) n c] 58)) hb4); have HX4 := hidp ((Held.new w3 58 #[.int .i64 (H.t : Int), .int .i64 (H.p : Int), .int .i64 (H.s : Int), .slice (some ad) n c]).keep hb4); clear hb4 x0 x1 x2 x3; obtain ⟨x0, x1, x2, x3⟩ := HX4.out.four)
    | (go_at_call 36; refine (HR2.out _ (HVL.out.below HB4.out)).mono ?_; rintro e w5 ⟨rfl, hb5⟩; have HB5 := hidp (Bgo HB4.out hb5); have HX5 := hidp (HX4.out.keep hb5); clear hb5 x0 x1 x2 x3; obtain ⟨x0, x1, x2, x3⟩ := HX5.out.four)
    | (go_at_call 37; refine (HR3.out _ (HVL.out.below HB5.out)).mono ?_; rintro e w6 ⟨rfl, hb6⟩; have HB6 := hidp (Bgo HB5.out hb6); have HX6 := hidp (HX5.out.keep hb6); clear hb6 x0 x1 x2 x3; obtain ⟨x0, x1, x2, x3⟩ := HX6.out.four)
    | (go_at_call 38; refine (HR4.out _ (HVL.out.below HB6.out)).mono ?_; rintro e w7 ⟨rfl, hb7⟩; have HB7 := hidp (Bgo HB6.out hb7); have HX7 := hidp (HX6.out.keep hb7); clear hb7 x0 x1 x2 x3; obtain ⟨x0, x1, x2, x3⟩ := HX7.out.four)
    | (go_at_call 39; refine (HR5.out _ (HVL.out.below HB7.out)).mono ?_; rintro e w8 ⟨rfl, hb8⟩; have HB8 := hidp (Bgo HB7.out hb8); have HX8 := hidp (HX7.out.keep hb8); clear hb8 x0 x1 x2 x3; obtain ⟨x0, x1, x2, x3⟩ := HX8.out.four)
    | fail)
  go_ret2
  exact ⟨rfl, HB8.out⟩


set_option maxHeartbeats 3200000 in
theorem xCheck_6 {H : AuH} {n c : Nat} (HV : HeapV H n c) (ad : Addr) (hr : ∀ i, i < 6 → H.rule i) (hno : ¬ H.rule 6) (w : World) (hv : IsVals w ad n H.V) :
    Calls Tryz.prog 23 #[.agg #[.int .i64 (H.t : Int), .int .i64 (H.p : Int), .int .i64 (H.s : Int)], .slice (some ad) n c] w fun e w' => e = .returned (.tuple #[.int .i64 7, .bool false]) ∧ Below w.heap.size w w' := by
  have HVL := hidp hv
  have HX0 := hidp (Held.new w 23 #[.int .i64 (H.t : Int), .int .i64 (H.p : Int), .int .i64 (H.s : Int)])
  obtain ⟨c0, c1, c2⟩ := HX0.out.three
  have HBW := hidp (Bnew (B0 w) (.cells #[.int .i64 (H.t : Int), .int .i64 (H.p : Int), .int .i64 (H.s : Int)] 23))
  have HRI := hidp HV.right
  have HLC : Hid (lC H.t H.p H.s = (n : Int)) := hidp (by have := (lay_yes HV.right).5; have := HV.len; omega)
  have HR1 := hidp (fun (W : World) (hv : IsVals W ad n H.V) => xTiles_c HV ad true ⟨fun _ => hr 1 (by omega), fun _ => rfl⟩ W hv)
  have HR2 := hidp (fun (W : World) (hv : IsVals W ad n H.V) => xFeet_c HV (hr 1 (by omega)) ad true ⟨fun _ => hr 2 (by omega), fun _ => rfl⟩ W hv)
  have HR3 := hidp (fun (W : World) (hv : IsVals W ad n H.V) => xApart_c HV (hr 1 (by omega)) ad true ⟨fun _ => hr 3 (by omega), fun _ => rfl⟩ W hv)
  have HR4 := hidp (fun (W : World) (hv : IsVals W ad n H.V) => xSlots5_c HV ad true ⟨fun _ => hr 4 (by omega), fun _ => rfl⟩ W hv)
  have HR5 := hidp (fun (W : World) (hv : IsVals W ad n H.V) => xBins_c HV ad true ⟨fun _ => hr 5 (by omega), fun _ => rfl⟩ W hv)
  have HR6 := hidp (fun (W : World) (hv : IsVals W ad n H.V) => xRacks_c HV (hr 4 (by omega)) ad false ⟨fun h => (by cases h), fun h => absurd h hno⟩ W hv)
  have hn := HV.nums
  have hcx : c ≤ 9223372036854775807 := hn.2.2.2.2.2.2.2.2
  have hni : n ≤ 6238 := hn.2.2.2.2.2.2.1
  have hnc := HV.cap
  clear hv hr hno hn
  go_enter Tryz.func23, Tryz.ntmps23
  go_wp2_with (first
    | (go_at_call 33; refine (r4Right_c H.t H.p H.s _).mono ?_; rintro e w2 ⟨rfl, hb2⟩; rw [HRI.out]; have HB2 := hidp (Bgo HBW.out hb2); have HX2 := hidp (HX0.out.keep hb2); clear hb2 c0 c1 c2; obtain ⟨c0, c1, c2⟩ := HX2.out.three)
    | (go_at_call 34; refine (r7Cells_c H.t H.p H.s _).mono ?_; rintro e w3 ⟨rfl, hb3⟩; rw [HLC.out]; have HB3 := hidp (Bgo HB2.out hb3); have HX3 := hidp (HX2.out.keep hb3); clear hb3 c0 c1 c2; obtain ⟨c0, c1, c2⟩ := HX3.out.three; obtain ⟨x0, x1, x2, x3⟩ := (Held.new w3 58 #[.int .i64 (H.t : Int), .int .i64 (H.p : Int), .int .i64 (H.s : Int), .slice (some ad) n c]).four)
    | (go_at_call 35; refine (HR1.out _ (HVL.out.below (Bnew HB3.out (.cells #[.int .i64 (H.t : Int), .int .i64 (H.p : Int), .int .i64 (H.s : Int), .slice (some ad) n c] 58)))).mono ?_; rintro e w4 ⟨rfl, hb4⟩; have HB4 := hidp (Bgo (Bnew HB3.out (.cells #[.int .i64 (H.t : Int), .int .i64 (H.p : Int), .int .i64 (H.s : Int), .slice (some ad) n c] 58)) hb4); have HX4 := hidp ((Held.new w3 58 #[.int .i64 (H.t : Int), .int .i64 (H.p : Int), .int .i64 (H.s : Int), .slice (some ad) n c]).keep hb4); clear hb4 x0 x1 x2 x3; obtain ⟨x0, x1, x2, x3⟩ := HX4.out.four)
    | (go_at_call 36; refine (HR2.out _ (HVL.out.below HB4.out)).mono ?_; rintro e w5 ⟨rfl, hb5⟩; have HB5 := hidp (Bgo HB4.out hb5); have HX5 := hidp (HX4.out.keep hb5); clear hb5 x0 x1 x2 x3; obtain ⟨x0, x1, x2, x3⟩ := HX5.out.four)
    | (go_at_call 37; refine (HR3.out _ (HVL.out.below HB5.out)).mono ?_; rintro e w6 ⟨rfl, hb6⟩; have HB6 := hidp (Bgo HB5.out hb6); have HX6 := hidp (HX5.out.keep hb6); clear hb6 x0 x1 x2 x3; obtain ⟨x0, x1, x2, x3⟩ := HX6.out.four)
    | (go_at_call 38; refine (HR4.out _ (HVL.out.below HB6.out)).mono ?_; rintro e w7 ⟨rfl, hb7⟩; have HB7 := hidp (Bgo HB6.out hb7); have HX7 := hidp (HX6.out.keep hb7); clear hb7 x0 x1 x2 x3; obtain ⟨x0, x1, x2, x3⟩ := HX7.out.four)
    | (go_at_call 39; refine (HR5.out _ (HVL.out.below HB7.out)).mono ?_; rintro e w8 ⟨rfl, hb8⟩; have HB8 := hidp (Bgo HB7.out hb8); have HX8 := hidp (HX7.out.keep hb8); clear hb8 x0 x1 x2 x3; obtain ⟨x0, x1, x2, x3⟩ := HX8.out.four)
    | (go_at_call 40; refine (HR6.out _ (HVL.out.below HB8.out)).mono ?_; rintro e w9 ⟨rfl, hb9⟩; have HB9 := hidp (Bgo HB8.out hb9); have HX9 := hidp (HX8.out.keep hb9); clear hb9 x0 x1 x2 x3; obtain ⟨x0, x1, x2, x3⟩ := HX9.out.four)
    | fail)
  go_ret2
  exact ⟨rfl, HB9.out⟩


set_option maxHeartbeats 3200000 in
theorem xCheck_7 {H : AuH} {n c : Nat} (HV : HeapV H n c) (ad : Addr) (hr : ∀ i, i < 7 → H.rule i) (hno : ¬ H.rule 7) (w : World) (hv : IsVals w ad n H.V) :
    Calls Tryz.prog 23 #[.agg #[.int .i64 (H.t : Int), .int .i64 (H.p : Int), .int .i64 (H.s : Int)], .slice (some ad) n c] w fun e w' => e = .returned (.tuple #[.int .i64 8, .bool false]) ∧ Below w.heap.size w w' := by
  have HVL := hidp hv
  have HX0 := hidp (Held.new w 23 #[.int .i64 (H.t : Int), .int .i64 (H.p : Int), .int .i64 (H.s : Int)])
  obtain ⟨c0, c1, c2⟩ := HX0.out.three
  have HBW := hidp (Bnew (B0 w) (.cells #[.int .i64 (H.t : Int), .int .i64 (H.p : Int), .int .i64 (H.s : Int)] 23))
  have HRI := hidp HV.right
  have HLC : Hid (lC H.t H.p H.s = (n : Int)) := hidp (by have := (lay_yes HV.right).5; have := HV.len; omega)
  have HR1 := hidp (fun (W : World) (hv : IsVals W ad n H.V) => xTiles_c HV ad true ⟨fun _ => hr 1 (by omega), fun _ => rfl⟩ W hv)
  have HR2 := hidp (fun (W : World) (hv : IsVals W ad n H.V) => xFeet_c HV (hr 1 (by omega)) ad true ⟨fun _ => hr 2 (by omega), fun _ => rfl⟩ W hv)
  have HR3 := hidp (fun (W : World) (hv : IsVals W ad n H.V) => xApart_c HV (hr 1 (by omega)) ad true ⟨fun _ => hr 3 (by omega), fun _ => rfl⟩ W hv)
  have HR4 := hidp (fun (W : World) (hv : IsVals W ad n H.V) => xSlots5_c HV ad true ⟨fun _ => hr 4 (by omega), fun _ => rfl⟩ W hv)
  have HR5 := hidp (fun (W : World) (hv : IsVals W ad n H.V) => xBins_c HV ad true ⟨fun _ => hr 5 (by omega), fun _ => rfl⟩ W hv)
  have HR6 := hidp (fun (W : World) (hv : IsVals W ad n H.V) => xRacks_c HV (hr 4 (by omega)) ad true ⟨fun _ => hr 6 (by omega), fun _ => rfl⟩ W hv)
  have HR7 := hidp (fun (W : World) (hv : IsVals W ad n H.V) => xLoose_c HV (hr 4 (by omega)) ad false ⟨fun h => (by cases h), fun h => absurd h hno⟩ W hv)
  have hn := HV.nums
  have hcx : c ≤ 9223372036854775807 := hn.2.2.2.2.2.2.2.2
  have hni : n ≤ 6238 := hn.2.2.2.2.2.2.1
  have hnc := HV.cap
  clear hv hr hno hn
  go_enter Tryz.func23, Tryz.ntmps23
  go_wp2_with (first
    | (go_at_call 33; refine (r4Right_c H.t H.p H.s _).mono ?_; rintro e w2 ⟨rfl, hb2⟩; rw [HRI.out]; have HB2 := hidp (Bgo HBW.out hb2); have HX2 := hidp (HX0.out.keep hb2); clear hb2 c0 c1 c2; obtain ⟨c0, c1, c2⟩ := HX2.out.three)
    | (go_at_call 34; refine (r7Cells_c H.t H.p H.s _).mono ?_; rintro e w3 ⟨rfl, hb3⟩; rw [HLC.out]; have HB3 := hidp (Bgo HB2.out hb3); have HX3 := hidp (HX2.out.keep hb3); clear hb3 c0 c1 c2; obtain ⟨c0, c1, c2⟩ := HX3.out.three; obtain ⟨x0, x1, x2, x3⟩ := (Held.new w3 58 #[.int .i64 (H.t : Int), .int .i64 (H.p : Int), .int .i64 (H.s : Int), .slice (some ad) n c]).four)
    | (go_at_call 35; refine (HR1.out _ (HVL.out.below (Bnew HB3.out (.cells #[.int .i64 (H.t : Int), .int .i64 (H.p : Int), .int .i64 (H.s : Int), .slice (some ad) n c] 58)))).mono ?_; rintro e w4 ⟨rfl, hb4⟩; have HB4 := hidp (Bgo (Bnew HB3.out (.cells #[.int .i64 (H.t : Int), .int .i64 (H.p : Int), .int .i64 (H.s : Int), .slice (some ad) n c] 58)) hb4); have HX4 := hidp ((Held.new w3 58 #[.int .i64 (H.t : Int), .int .i64 (H.p : Int), .int .i64 (H.s : Int), .slice (some ad) n c]).keep hb4); clear hb4 x0 x1 x2 x3; obtain ⟨x0, x1, x2, x3⟩ := HX4.out.four)
    | (go_at_call 36; refine (HR2.out _ (HVL.out.below HB4.out)).mono ?_; rintro e w5 ⟨rfl, hb5⟩; have HB5 := hidp (Bgo HB4.out hb5); have HX5 := hidp (HX4.out.keep hb5); clear hb5 x0 x1 x2 x3; obtain ⟨x0, x1, x2, x3⟩ := HX5.out.four)
    | (go_at_call 37; refine (HR3.out _ (HVL.out.below HB5.out)).mono ?_; rintro e w6 ⟨rfl, hb6⟩; have HB6 := hidp (Bgo HB5.out hb6); have HX6 := hidp (HX5.out.keep hb6); clear hb6 x0 x1 x2 x3; obtain ⟨x0, x1, x2, x3⟩ := HX6.out.four)
    | (go_at_call 38; refine (HR4.out _ (HVL.out.below HB6.out)).mono ?_; rintro e w7 ⟨rfl, hb7⟩; have HB7 := hidp (Bgo HB6.out hb7); have HX7 := hidp (HX6.out.keep hb7); clear hb7 x0 x1 x2 x3; obtain ⟨x0, x1, x2, x3⟩ := HX7.out.four)
    | (go_at_call 39; refine (HR5.out _ (HVL.out.below HB7.out)).mono ?_; rintro e w8 ⟨rfl, hb8⟩; have HB8 := hidp (Bgo HB7.out hb8); have HX8 := hidp (HX7.out.keep hb8); clear hb8 x0 x1 x2 x3; obtain ⟨x0, x1, x2, x3⟩ := HX8.out.four)
    | (go_at_call 40; refine (HR6.out _ (HVL.out.below HB8.out)).mono ?_; rintro e w9 ⟨rfl, hb9⟩; have HB9 := hidp (Bgo HB8.out hb9); have HX9 := hidp (HX8.out.keep hb9); clear hb9 x0 x1 x2 x3; obtain ⟨x0, x1, x2, x3⟩ := HX9.out.four)
    | (go_at_call 41; refine (HR7.out _ (HVL.out.below HB9.out)).mono ?_; rintro e w10 ⟨rfl, hb10⟩; have HB10 := hidp (Bgo HB9.out hb10); have HX10 := hidp (HX9.out.keep hb10); clear hb10 x0 x1 x2 x3; obtain ⟨x0, x1, x2, x3⟩ := HX10.out.four)
    | fail)
  go_ret2
  exact ⟨rfl, HB10.out⟩


set_option maxHeartbeats 3200000 in
theorem xCheck_8 {H : AuH} {n c : Nat} (HV : HeapV H n c) (ad : Addr) (hr : ∀ i, i < 8 → H.rule i) (hno : ¬ H.rule 8) (w : World) (hv : IsVals w ad n H.V) :
    Calls Tryz.prog 23 #[.agg #[.int .i64 (H.t : Int), .int .i64 (H.p : Int), .int .i64 (H.s : Int)], .slice (some ad) n c] w fun e w' => e = .returned (.tuple #[.int .i64 9, .bool false]) ∧ Below w.heap.size w w' := by
  have HVL := hidp hv
  have HX0 := hidp (Held.new w 23 #[.int .i64 (H.t : Int), .int .i64 (H.p : Int), .int .i64 (H.s : Int)])
  obtain ⟨c0, c1, c2⟩ := HX0.out.three
  have HBW := hidp (Bnew (B0 w) (.cells #[.int .i64 (H.t : Int), .int .i64 (H.p : Int), .int .i64 (H.s : Int)] 23))
  have HRI := hidp HV.right
  have HLC : Hid (lC H.t H.p H.s = (n : Int)) := hidp (by have := (lay_yes HV.right).5; have := HV.len; omega)
  have HR1 := hidp (fun (W : World) (hv : IsVals W ad n H.V) => xTiles_c HV ad true ⟨fun _ => hr 1 (by omega), fun _ => rfl⟩ W hv)
  have HR2 := hidp (fun (W : World) (hv : IsVals W ad n H.V) => xFeet_c HV (hr 1 (by omega)) ad true ⟨fun _ => hr 2 (by omega), fun _ => rfl⟩ W hv)
  have HR3 := hidp (fun (W : World) (hv : IsVals W ad n H.V) => xApart_c HV (hr 1 (by omega)) ad true ⟨fun _ => hr 3 (by omega), fun _ => rfl⟩ W hv)
  have HR4 := hidp (fun (W : World) (hv : IsVals W ad n H.V) => xSlots5_c HV ad true ⟨fun _ => hr 4 (by omega), fun _ => rfl⟩ W hv)
  have HR5 := hidp (fun (W : World) (hv : IsVals W ad n H.V) => xBins_c HV ad true ⟨fun _ => hr 5 (by omega), fun _ => rfl⟩ W hv)
  have HR6 := hidp (fun (W : World) (hv : IsVals W ad n H.V) => xRacks_c HV (hr 4 (by omega)) ad true ⟨fun _ => hr 6 (by omega), fun _ => rfl⟩ W hv)
  have HR7 := hidp (fun (W : World) (hv : IsVals W ad n H.V) => xLoose_c HV (hr 4 (by omega)) ad true ⟨fun _ => hr 7 (by omega), fun _ => rfl⟩ W hv)
  have HR8 := hidp (fun (W : World) (hv : IsVals W ad n H.V) => xCounts_c HV (hr 4 (by omega)) ad false ⟨fun h => (by cases h), fun h => absurd h hno⟩ W hv)
  have hn := HV.nums
  have hcx : c ≤ 9223372036854775807 := hn.2.2.2.2.2.2.2.2
  have hni : n ≤ 6238 := hn.2.2.2.2.2.2.1
  have hnc := HV.cap
  clear hv hr hno hn
  go_enter Tryz.func23, Tryz.ntmps23
  go_wp2_with (first
    | (go_at_call 33; refine (r4Right_c H.t H.p H.s _).mono ?_; rintro e w2 ⟨rfl, hb2⟩; rw [HRI.out]; have HB2 := hidp (Bgo HBW.out hb2); have HX2 := hidp (HX0.out.keep hb2); clear hb2 c0 c1 c2; obtain ⟨c0, c1, c2⟩ := HX2.out.three)
    | (go_at_call 34; refine (r7Cells_c H.t H.p H.s _).mono ?_; rintro e w3 ⟨rfl, hb3⟩; rw [HLC.out]; have HB3 := hidp (Bgo HB2.out hb3); have HX3 := hidp (HX2.out.keep hb3); clear hb3 c0 c1 c2; obtain ⟨c0, c1, c2⟩ := HX3.out.three; obtain ⟨x0, x1, x2, x3⟩ := (Held.new w3 58 #[.int .i64 (H.t : Int), .int .i64 (H.p : Int), .int .i64 (H.s : Int), .slice (some ad) n c]).four)
    | (go_at_call 35; refine (HR1.out _ (HVL.out.below (Bnew HB3.out (.cells #[.int .i64 (H.t : Int), .int .i64 (H.p : Int), .int .i64 (H.s : Int), .slice (some ad) n c] 58)))).mono ?_; rintro e w4 ⟨rfl, hb4⟩; have HB4 := hidp (Bgo (Bnew HB3.out (.cells #[.int .i64 (H.t : Int), .int .i64 (H.p : Int), .int .i64 (H.s : Int), .slice (some ad) n c] 58)) hb4); have HX4 := hidp ((Held.new w3 58 #[.int .i64 (H.t : Int), .int .i64 (H.p : Int), .int .i64 (H.s : Int), .slice (some ad) n c]).keep hb4); clear hb4 x0 x1 x2 x3; obtain ⟨x0, x1, x2, x3⟩ := HX4.out.four)
    | (go_at_call 36; refine (HR2.out _ (HVL.out.below HB4.out)).mono ?_; rintro e w5 ⟨rfl, hb5⟩; have HB5 := hidp (Bgo HB4.out hb5); have HX5 := hidp (HX4.out.keep hb5); clear hb5 x0 x1 x2 x3; obtain ⟨x0, x1, x2, x3⟩ := HX5.out.four)
    | (go_at_call 37; refine (HR3.out _ (HVL.out.below HB5.out)).mono ?_; rintro e w6 ⟨rfl, hb6⟩; have HB6 := hidp (Bgo HB5.out hb6); have HX6 := hidp (HX5.out.keep hb6); clear hb6 x0 x1 x2 x3; obtain ⟨x0, x1, x2, x3⟩ := HX6.out.four)
    | (go_at_call 38; refine (HR4.out _ (HVL.out.below HB6.out)).mono ?_; rintro e w7 ⟨rfl, hb7⟩; have HB7 := hidp (Bgo HB6.out hb7); have HX7 := hidp (HX6.out.keep hb7); clear hb7 x0 x1 x2 x3; obtain ⟨x0, x1, x2, x3⟩ := HX7.out.four)
    | (go_at_call 39; refine (HR5.out _ (HVL.out.below HB7.out)).mono ?_; rintro e w8 ⟨rfl, hb8⟩; have HB8 := hidp (Bgo HB7.out hb8); have HX8 := hidp (HX7.out.keep hb8); clear hb8 x0 x1 x2 x3; obtain ⟨x0, x1, x2, x3⟩ := HX8.out.four)
    | (go_at_call 40; refine (HR6.out _ (HVL.out.below HB8.out)).mono ?_; rintro e w9 ⟨rfl, hb9⟩; have HB9 := hidp (Bgo HB8.out hb9); have HX9 := hidp (HX8.out.keep hb9); clear hb9 x0 x1 x2 x3; obtain ⟨x0, x1, x2, x3⟩ := HX9.out.four)
    | (go_at_call 41; refine (HR7.out _ (HVL.out.below HB9.out)).mono ?_; rintro e w10 ⟨rfl, hb10⟩; have HB10 := hidp (Bgo HB9.out hb10); have HX10 := hidp (HX9.out.keep hb10); clear hb10 x0 x1 x2 x3; obtain ⟨x0, x1, x2, x3⟩ := HX10.out.four)
    | (go_at_call 42; refine (HR8.out _ (HVL.out.below HB10.out)).mono ?_; rintro e w11 ⟨rfl, hb11⟩; have HB11 := hidp (Bgo HB10.out hb11); have HX11 := hidp (HX10.out.keep hb11); clear hb11 x0 x1 x2 x3; obtain ⟨x0, x1, x2, x3⟩ := HX11.out.four)
    | fail)
  go_ret2
  exact ⟨rfl, HB11.out⟩


set_option maxHeartbeats 3200000 in
theorem xCheck_9 {H : AuH} {n c : Nat} (HV : HeapV H n c) (ad : Addr) (hr : ∀ i, i < 9 → H.rule i) (hno : ¬ H.rule 9) (w : World) (hv : IsVals w ad n H.V) :
    Calls Tryz.prog 23 #[.agg #[.int .i64 (H.t : Int), .int .i64 (H.p : Int), .int .i64 (H.s : Int)], .slice (some ad) n c] w fun e w' => e = .returned (.tuple #[.int .i64 10, .bool false]) ∧ Below w.heap.size w w' := by
  have HVL := hidp hv
  have HX0 := hidp (Held.new w 23 #[.int .i64 (H.t : Int), .int .i64 (H.p : Int), .int .i64 (H.s : Int)])
  obtain ⟨c0, c1, c2⟩ := HX0.out.three
  have HBW := hidp (Bnew (B0 w) (.cells #[.int .i64 (H.t : Int), .int .i64 (H.p : Int), .int .i64 (H.s : Int)] 23))
  have HRI := hidp HV.right
  have HLC : Hid (lC H.t H.p H.s = (n : Int)) := hidp (by have := (lay_yes HV.right).5; have := HV.len; omega)
  have HR1 := hidp (fun (W : World) (hv : IsVals W ad n H.V) => xTiles_c HV ad true ⟨fun _ => hr 1 (by omega), fun _ => rfl⟩ W hv)
  have HR2 := hidp (fun (W : World) (hv : IsVals W ad n H.V) => xFeet_c HV (hr 1 (by omega)) ad true ⟨fun _ => hr 2 (by omega), fun _ => rfl⟩ W hv)
  have HR3 := hidp (fun (W : World) (hv : IsVals W ad n H.V) => xApart_c HV (hr 1 (by omega)) ad true ⟨fun _ => hr 3 (by omega), fun _ => rfl⟩ W hv)
  have HR4 := hidp (fun (W : World) (hv : IsVals W ad n H.V) => xSlots5_c HV ad true ⟨fun _ => hr 4 (by omega), fun _ => rfl⟩ W hv)
  have HR5 := hidp (fun (W : World) (hv : IsVals W ad n H.V) => xBins_c HV ad true ⟨fun _ => hr 5 (by omega), fun _ => rfl⟩ W hv)
  have HR6 := hidp (fun (W : World) (hv : IsVals W ad n H.V) => xRacks_c HV (hr 4 (by omega)) ad true ⟨fun _ => hr 6 (by omega), fun _ => rfl⟩ W hv)
  have HR7 := hidp (fun (W : World) (hv : IsVals W ad n H.V) => xLoose_c HV (hr 4 (by omega)) ad true ⟨fun _ => hr 7 (by omega), fun _ => rfl⟩ W hv)
  have HR8 := hidp (fun (W : World) (hv : IsVals W ad n H.V) => xCounts_c HV (hr 4 (by omega)) ad true ⟨fun _ => hr 8 (by omega), fun _ => rfl⟩ W hv)
  have HR9 := hidp (fun (W : World) (hv : IsVals W ad n H.V) => xRoots_c HV ad false ⟨fun h => (by cases h), fun h => absurd h hno⟩ W hv)
  have hn := HV.nums
  have hcx : c ≤ 9223372036854775807 := hn.2.2.2.2.2.2.2.2
  have hni : n ≤ 6238 := hn.2.2.2.2.2.2.1
  have hnc := HV.cap
  clear hv hr hno hn
  go_enter Tryz.func23, Tryz.ntmps23
  go_wp2_with (first
    | (go_at_call 33; refine (r4Right_c H.t H.p H.s _).mono ?_; rintro e w2 ⟨rfl, hb2⟩; rw [HRI.out]; have HB2 := hidp (Bgo HBW.out hb2); have HX2 := hidp (HX0.out.keep hb2); clear hb2 c0 c1 c2; obtain ⟨c0, c1, c2⟩ := HX2.out.three)
    | (go_at_call 34; refine (r7Cells_c H.t H.p H.s _).mono ?_; rintro e w3 ⟨rfl, hb3⟩; rw [HLC.out]; have HB3 := hidp (Bgo HB2.out hb3); have HX3 := hidp (HX2.out.keep hb3); clear hb3 c0 c1 c2; obtain ⟨c0, c1, c2⟩ := HX3.out.three; obtain ⟨x0, x1, x2, x3⟩ := (Held.new w3 58 #[.int .i64 (H.t : Int), .int .i64 (H.p : Int), .int .i64 (H.s : Int), .slice (some ad) n c]).four)
    | (go_at_call 35; refine (HR1.out _ (HVL.out.below (Bnew HB3.out (.cells #[.int .i64 (H.t : Int), .int .i64 (H.p : Int), .int .i64 (H.s : Int), .slice (some ad) n c] 58)))).mono ?_; rintro e w4 ⟨rfl, hb4⟩; have HB4 := hidp (Bgo (Bnew HB3.out (.cells #[.int .i64 (H.t : Int), .int .i64 (H.p : Int), .int .i64 (H.s : Int), .slice (some ad) n c] 58)) hb4); have HX4 := hidp ((Held.new w3 58 #[.int .i64 (H.t : Int), .int .i64 (H.p : Int), .int .i64 (H.s : Int), .slice (some ad) n c]).keep hb4); clear hb4 x0 x1 x2 x3; obtain ⟨x0, x1, x2, x3⟩ := HX4.out.four)
    | (go_at_call 36; refine (HR2.out _ (HVL.out.below HB4.out)).mono ?_; rintro e w5 ⟨rfl, hb5⟩; have HB5 := hidp (Bgo HB4.out hb5); have HX5 := hidp (HX4.out.keep hb5); clear hb5 x0 x1 x2 x3; obtain ⟨x0, x1, x2, x3⟩ := HX5.out.four)
    | (go_at_call 37; refine (HR3.out _ (HVL.out.below HB5.out)).mono ?_; rintro e w6 ⟨rfl, hb6⟩; have HB6 := hidp (Bgo HB5.out hb6); have HX6 := hidp (HX5.out.keep hb6); clear hb6 x0 x1 x2 x3; obtain ⟨x0, x1, x2, x3⟩ := HX6.out.four)
    | (go_at_call 38; refine (HR4.out _ (HVL.out.below HB6.out)).mono ?_; rintro e w7 ⟨rfl, hb7⟩; have HB7 := hidp (Bgo HB6.out hb7); have HX7 := hidp (HX6.out.keep hb7); clear hb7 x0 x1 x2 x3; obtain ⟨x0, x1, x2, x3⟩ := HX7.out.four)
    | (go_at_call 39; refine (HR5.out _ (HVL.out.below HB7.out)).mono ?_; rintro e w8 ⟨rfl, hb8⟩; have HB8 := hidp (Bgo HB7.out hb8); have HX8 := hidp (HX7.out.keep hb8); clear hb8 x0 x1 x2 x3; obtain ⟨x0, x1, x2, x3⟩ := HX8.out.four)
    | (go_at_call 40; refine (HR6.out _ (HVL.out.below HB8.out)).mono ?_; rintro e w9 ⟨rfl, hb9⟩; have HB9 := hidp (Bgo HB8.out hb9); have HX9 := hidp (HX8.out.keep hb9); clear hb9 x0 x1 x2 x3; obtain ⟨x0, x1, x2, x3⟩ := HX9.out.four)
    | (go_at_call 41; refine (HR7.out _ (HVL.out.below HB9.out)).mono ?_; rintro e w10 ⟨rfl, hb10⟩; have HB10 := hidp (Bgo HB9.out hb10); have HX10 := hidp (HX9.out.keep hb10); clear hb10 x0 x1 x2 x3; obtain ⟨x0, x1, x2, x3⟩ := HX10.out.four)
    | (go_at_call 42; refine (HR8.out _ (HVL.out.below HB10.out)).mono ?_; rintro e w11 ⟨rfl, hb11⟩; have HB11 := hidp (Bgo HB10.out hb11); have HX11 := hidp (HX10.out.keep hb11); clear hb11 x0 x1 x2 x3; obtain ⟨x0, x1, x2, x3⟩ := HX11.out.four)
    | (go_at_call 43; refine (HR9.out _ (HVL.out.below HB11.out)).mono ?_; rintro e w12 ⟨rfl, hb12⟩; have HB12 := hidp (Bgo HB11.out hb12); have HX12 := hidp (HX11.out.keep hb12); clear hb12 x0 x1 x2 x3; obtain ⟨x0, x1, x2, x3⟩ := HX12.out.four)
    | fail)
  go_ret2
  exact ⟨rfl, HB12.out⟩


set_option maxHeartbeats 3200000 in
theorem xCheck_10 {H : AuH} {n c : Nat} (HV : HeapV H n c) (ad : Addr) (hr : ∀ i, i < 10 → H.rule i) (w : World) (hv : IsVals w ad n H.V) :
    Calls Tryz.prog 23 #[.agg #[.int .i64 (H.t : Int), .int .i64 (H.p : Int), .int .i64 (H.s : Int)], .slice (some ad) n c] w fun e w' => e = .returned (.tuple #[.int .i64 0, .bool true]) ∧ Below w.heap.size w w' := by
  have HVL := hidp hv
  have HX0 := hidp (Held.new w 23 #[.int .i64 (H.t : Int), .int .i64 (H.p : Int), .int .i64 (H.s : Int)])
  obtain ⟨c0, c1, c2⟩ := HX0.out.three
  have HBW := hidp (Bnew (B0 w) (.cells #[.int .i64 (H.t : Int), .int .i64 (H.p : Int), .int .i64 (H.s : Int)] 23))
  have HRI := hidp HV.right
  have HLC : Hid (lC H.t H.p H.s = (n : Int)) := hidp (by have := (lay_yes HV.right).5; have := HV.len; omega)
  have HR1 := hidp (fun (W : World) (hv : IsVals W ad n H.V) => xTiles_c HV ad true ⟨fun _ => hr 1 (by omega), fun _ => rfl⟩ W hv)
  have HR2 := hidp (fun (W : World) (hv : IsVals W ad n H.V) => xFeet_c HV (hr 1 (by omega)) ad true ⟨fun _ => hr 2 (by omega), fun _ => rfl⟩ W hv)
  have HR3 := hidp (fun (W : World) (hv : IsVals W ad n H.V) => xApart_c HV (hr 1 (by omega)) ad true ⟨fun _ => hr 3 (by omega), fun _ => rfl⟩ W hv)
  have HR4 := hidp (fun (W : World) (hv : IsVals W ad n H.V) => xSlots5_c HV ad true ⟨fun _ => hr 4 (by omega), fun _ => rfl⟩ W hv)
  have HR5 := hidp (fun (W : World) (hv : IsVals W ad n H.V) => xBins_c HV ad true ⟨fun _ => hr 5 (by omega), fun _ => rfl⟩ W hv)
  have HR6 := hidp (fun (W : World) (hv : IsVals W ad n H.V) => xRacks_c HV (hr 4 (by omega)) ad true ⟨fun _ => hr 6 (by omega), fun _ => rfl⟩ W hv)
  have HR7 := hidp (fun (W : World) (hv : IsVals W ad n H.V) => xLoose_c HV (hr 4 (by omega)) ad true ⟨fun _ => hr 7 (by omega), fun _ => rfl⟩ W hv)
  have HR8 := hidp (fun (W : World) (hv : IsVals W ad n H.V) => xCounts_c HV (hr 4 (by omega)) ad true ⟨fun _ => hr 8 (by omega), fun _ => rfl⟩ W hv)
  have HR9 := hidp (fun (W : World) (hv : IsVals W ad n H.V) => xRoots_c HV ad true ⟨fun _ => hr 9 (by omega), fun _ => rfl⟩ W hv)
  have hn := HV.nums
  have hcx : c ≤ 9223372036854775807 := hn.2.2.2.2.2.2.2.2
  have hni : n ≤ 6238 := hn.2.2.2.2.2.2.1
  have hnc := HV.cap
  clear hv hr hn
  go_enter Tryz.func23, Tryz.ntmps23
  go_wp2_with (first
    | (go_at_call 33; refine (r4Right_c H.t H.p H.s _).mono ?_; rintro e w2 ⟨rfl, hb2⟩; rw [HRI.out]; have HB2 := hidp (Bgo HBW.out hb2); have HX2 := hidp (HX0.out.keep hb2); clear hb2 c0 c1 c2; obtain ⟨c0, c1, c2⟩ := HX2.out.three)
    | (go_at_call 34; refine (r7Cells_c H.t H.p H.s _).mono ?_; rintro e w3 ⟨rfl, hb3⟩; rw [HLC.out]; have HB3 := hidp (Bgo HB2.out hb3); have HX3 := hidp (HX2.out.keep hb3); clear hb3 c0 c1 c2; obtain ⟨c0, c1, c2⟩ := HX3.out.three; obtain ⟨x0, x1, x2, x3⟩ := (Held.new w3 58 #[.int .i64 (H.t : Int), .int .i64 (H.p : Int), .int .i64 (H.s : Int), .slice (some ad) n c]).four)
    | (go_at_call 35; refine (HR1.out _ (HVL.out.below (Bnew HB3.out (.cells #[.int .i64 (H.t : Int), .int .i64 (H.p : Int), .int .i64 (H.s : Int), .slice (some ad) n c] 58)))).mono ?_; rintro e w4 ⟨rfl, hb4⟩; have HB4 := hidp (Bgo (Bnew HB3.out (.cells #[.int .i64 (H.t : Int), .int .i64 (H.p : Int), .int .i64 (H.s : Int), .slice (some ad) n c] 58)) hb4); have HX4 := hidp ((Held.new w3 58 #[.int .i64 (H.t : Int), .int .i64 (H.p : Int), .int .i64 (H.s : Int), .slice (some ad) n c]).keep hb4); clear hb4 x0 x1 x2 x3; obtain ⟨x0, x1, x2, x3⟩ := HX4.out.four)
    | (go_at_call 36; refine (HR2.out _ (HVL.out.below HB4.out)).mono ?_; rintro e w5 ⟨rfl, hb5⟩; have HB5 := hidp (Bgo HB4.out hb5); have HX5 := hidp (HX4.out.keep hb5); clear hb5 x0 x1 x2 x3; obtain ⟨x0, x1, x2, x3⟩ := HX5.out.four)
    | (go_at_call 37; refine (HR3.out _ (HVL.out.below HB5.out)).mono ?_; rintro e w6 ⟨rfl, hb6⟩; have HB6 := hidp (Bgo HB5.out hb6); have HX6 := hidp (HX5.out.keep hb6); clear hb6 x0 x1 x2 x3; obtain ⟨x0, x1, x2, x3⟩ := HX6.out.four)
    | (go_at_call 38; refine (HR4.out _ (HVL.out.below HB6.out)).mono ?_; rintro e w7 ⟨rfl, hb7⟩; have HB7 := hidp (Bgo HB6.out hb7); have HX7 := hidp (HX6.out.keep hb7); clear hb7 x0 x1 x2 x3; obtain ⟨x0, x1, x2, x3⟩ := HX7.out.four)
    | (go_at_call 39; refine (HR5.out _ (HVL.out.below HB7.out)).mono ?_; rintro e w8 ⟨rfl, hb8⟩; have HB8 := hidp (Bgo HB7.out hb8); have HX8 := hidp (HX7.out.keep hb8); clear hb8 x0 x1 x2 x3; obtain ⟨x0, x1, x2, x3⟩ := HX8.out.four)
    | (go_at_call 40; refine (HR6.out _ (HVL.out.below HB8.out)).mono ?_; rintro e w9 ⟨rfl, hb9⟩; have HB9 := hidp (Bgo HB8.out hb9); have HX9 := hidp (HX8.out.keep hb9); clear hb9 x0 x1 x2 x3; obtain ⟨x0, x1, x2, x3⟩ := HX9.out.four)
    | (go_at_call 41; refine (HR7.out _ (HVL.out.below HB9.out)).mono ?_; rintro e w10 ⟨rfl, hb10⟩; have HB10 := hidp (Bgo HB9.out hb10); have HX10 := hidp (HX9.out.keep hb10); clear hb10 x0 x1 x2 x3; obtain ⟨x0, x1, x2, x3⟩ := HX10.out.four)
    | (go_at_call 42; refine (HR8.out _ (HVL.out.below HB10.out)).mono ?_; rintro e w11 ⟨rfl, hb11⟩; have HB11 := hidp (Bgo HB10.out hb11); have HX11 := hidp (HX10.out.keep hb11); clear hb11 x0 x1 x2 x3; obtain ⟨x0, x1, x2, x3⟩ := HX11.out.four)
    | (go_at_call 43; refine (HR9.out _ (HVL.out.below HB11.out)).mono ?_; rintro e w12 ⟨rfl, hb12⟩; have HB12 := hidp (Bgo HB11.out hb12); have HX12 := hidp (HX11.out.keep hb12); clear hb12 x0 x1 x2 x3; obtain ⟨x0, x1, x2, x3⟩ := HX12.out.four)
    | fail)
  go_ret2
  exact ⟨rfl, HB12.out⟩


def XCheckIs (w : World) (t q s : Int) (A : Option Addr) (n c : Nat) (m : Nat) (b : Bool) : Prop :=
  ∀ W, Below w.heap.size w W → Calls Tryz.prog 23 #[.agg #[.int .i64 t, .int .i64 q, .int .i64 s], .slice A n c] W fun e w' => e = .returned (.tuple #[.int .i64 (m : Int), .bool b]) ∧ Below W.heap.size W w'
theorem XCheckIs.grown {w w1 : World} {t q s : Int} {A : Option Addr} {n c m : Nat} {b : Bool} (h : XCheckIs w t q s A n c m b) (hb : Below w.heap.size w w1) : XCheckIs w1 t q s A n c m b :=
  fun W hW => h W (Bgo hb hW)
theorem xCheckIs_no (w : World) (t q s : Int) (A : Option Addr) (n c : Nat) (hnc : n ≤ c) (hc : c ≤ maxLen) (h : ¬ (lC t q s ≠ 0 ∧ (n : Int) = lC t q s)) : XCheckIs w t q s A n c 1 false :=
  fun W _ => xCheck_no t q s A n c hnc hc h W
theorem xCheckIs_yes {H : AuH} {n c : Nat} (HV : HeapV H n c) (ad : Addr) (w : World) (hv : IsVals w ad n H.V) {m : Nat} {b : Bool} (h : H.Told m b) : XCheckIs w H.t H.p H.s (some ad) n c m b := by
  intro W hW
  rcases h with ⟨rfl, rfl, hr⟩ | ⟨rfl, k, rfl, h1, h2, hr, hno⟩
  · exact xCheck_10 HV ad hr W (hv.below hW)
  · rcases (by omega : k = 1 ∨ k = 2 ∨ k = 3 ∨ k = 4 ∨ k = 5 ∨ k = 6 ∨ k = 7 ∨ k = 8 ∨ k = 9) with rfl | rfl | rfl | rfl | rfl | rfl | rfl | rfl | rfl
    · exact xCheck_1 HV ad hr hno W (hv.below hW)
    · exact xCheck_2 HV ad hr hno W (hv.below hW)
    · exact xCheck_3 HV ad hr hno W (hv.below hW)
    · exact xCheck_4 HV ad hr hno W (hv.below hW)
    · exact xCheck_5 HV ad hr hno W (hv.below hW)
    · exact xCheck_6 HV ad hr hno W (hv.below hW)
    · exact xCheck_7 HV ad hr hno W (hv.below hW)
    · exact xCheck_8 HV ad hr hno W (hv.below hW)
    · exact xCheck_9 HV ad hr hno W (hv.below hW)
end
section
set_option maxHeartbeats 1600000 in
theorem xSound_c (t q s : Int) (A : Option Addr) (n c m : Nat) (b : Bool) (w : World) (hC : XCheckIs w t q s A n c m b) :
    Calls Tryz.prog 13 #[.agg #[.int .i64 t, .int .i64 q, .int .i64 s], .slice A n c] w fun e w' => e = .returned (.bool b) ∧ Below w.heap.size w w' := by
  have HX0 := hidp (Held.new w 23 #[.int .i64 t, .int .i64 q, .int .i64 s])
  obtain ⟨c0, c1, c2⟩ := HX0.out.three
  have HBW := hidp (Bnew (B0 w) (.cells #[.int .i64 t, .int .i64 q, .int .i64 s] 23))
  have HCK := hidp (hC _ HBW.out)
  clear hC
  go_enter Tryz.func13, Tryz.ntmps13
  go_wp2_with (first
    | (go_at_call 23; refine HCK.out.mono ?_; rintro e w2 ⟨rfl, hb2⟩; have HB2 := hidp (Bgo HBW.out hb2); clear hb2)
    | fail)
  go_ret
  exact ⟨rfl, HB2.out⟩


set_option maxHeartbeats 1600000 in
theorem xPartsTop_yes {H : AuH} {n c : Nat} (HV : HeapV H n c) (ad : Addr) (m : Nat) (w : World) (hv : IsVals w ad n H.V) (hC : XCheckIs w H.t H.p H.s (some ad) n c m true) :
    Calls Tryz.prog 14 #[.agg #[.int .i64 (H.t : Int), .int .i64 (H.p : Int), .int .i64 (H.s : Int)], .slice (some ad) n c] w fun e w' => ∃ u, e = .returned u ∧ w'.ownsRow w.heap.size 43 3 u H.parts.length (ptVs H.parts) ∧ Below w.heap.size w w' := by
  have HX0 := hidp (Held.new w 23 #[.int .i64 (H.t : Int), .int .i64 (H.p : Int), .int .i64 (H.s : Int)])
  obtain ⟨c0, c1, c2⟩ := HX0.out.three
  have HBW := hidp (Bnew (B0 w) (.cells #[.int .i64 (H.t : Int), .int .i64 (H.p : Int), .int .i64 (H.s : Int)] 23))
  have HSO := hidp (xSound_c (H.t : Int) (H.p : Int) (H.s : Int) (some ad) n c m true _ (hC.grown HBW.out))
  have HPP := hidp (fun (W : World) (h1 : Below w.heap.size w W) => xParts_c HV ad W (hv.below h1))
  unfold hpV at HPP
  clear hC hv
  go_enter Tryz.func14, Tryz.ntmps14
  go_wp2_with (first
    | (go_at_call 13; refine HSO.out.mono ?_; rintro e w2 ⟨rfl, hb2⟩; have HX2 := hidp (HX0.out.keep hb2); have HB2 := hidp (Bgo HBW.out hb2); have HB3 := hidp (Bnew HB2.out (.cells #[.int .i64 (H.t : Int), .int .i64 (H.p : Int), .int .i64 (H.s : Int), .slice (some ad) n c] 58)); clear hb2 c0 c1 c2; obtain ⟨c0, c1, c2⟩ := HX2.out.three; obtain ⟨x0, x1, x2, x3⟩ := (Held.new w2 58 #[.int .i64 (H.t : Int), .int .i64 (H.p : Int), .int .i64 (H.s : Int), .slice (some ad) n c]).four)
    | (go_at_call 24; refine (HPP.out _ HB3.out).mono ?_; rintro e w4 ⟨u, rfl, hown4, hb4⟩; have HO4 := hidp hown4; have HB4 := hidp (Bgo HB3.out hb4); clear hown4 hb4)
    | fail)
  go_ret
  exact ⟨u, rfl, own_down HO4.out HB3.out.size, HB4.out⟩
end
end Go.Proofs.YtkbjckhbllmclaaGreatDoor
