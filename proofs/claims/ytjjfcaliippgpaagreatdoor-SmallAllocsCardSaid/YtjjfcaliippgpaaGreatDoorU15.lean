/-
  The document's Check. Written by doc12/gen_doccheck.py.
-/
import Derived.Test.YtjjfcaliippgpaaGreatDoorUDocFeet
import Derived.Test.YtjjfcaliippgpaaGreatDoorU12
import Derived.Test.YtjjfcaliippgpaaGreatDoorUDocLoose
import Derived.Test.YtjjfcaliippgpaaGreatDoorU13
import Derived.Test.YtjjfcaliippgpaaGreatDoorU14
import Derived.Test.YtjjfcaliippgpaaGreatDoorU06
import Derived.Test.YtjjfcaliippgpaaGreatDoorU03
import Derived.Test.YtjjfcaliippgpaaGreatDoorU07
import Derived.Test.YtjjfcaliippgpaaGreatDoorU05
import Derived.Test.YtjjfcaliippgpaaGreatDoorU10
import Derived.Test.YtjjfcaliippgpaaGreatDoorU01
namespace Go.Proofs.YtjjfcaliippgpaaGreatDoor
open Go.ChangeShapes Go.WideShapes Go.ChangeAt Go.RowKit Go.Shelf
set_option linter.unusedVariables false
set_option linter.unusedSimpArgs false
section
set_option maxHeartbeats 1600000 in
theorem xCheck_no (t q s : Int) (A : Option Addr) (n c : Nat) (hnc : n <= c) (hc : c <= maxLen) (h : ¬ (lC t q s ≠ 0 /\ (n : Int) = lC t q s)) (w : World) :
  Calls Tryz.prog 106 #[.agg #[.int .i64 t, .int .i64 q, .int .i64 s], .slice A n c] w fun e w' => e = .returned (.tuple #[.int .i64 1, .bool false]) /\ Below w.heap.size w w' := by
 have HX0 := hidp (Held.new w 23 #[.int .i64 t, .int .i64 q, .int .i64 s])
 obtain ⟨c0, c1, c2⟩ := HX0.out.three
 have HBW := hidp (Bnew (B0 w) (.cells #[.int .i64 t, .int .i64 q, .int .i64 s] 23))
 cases hr : rightB t q s
 ·have HRI := hidp hr
  clear hr h
  go_enter Tryz.func106, Tryz.ntmps106
  go_wp2_with (first
   | (go_at_call 109; refine (r4Right_c t q s _).mono ?_; rintro e w2 ⟨rfl, hb2⟩; rw [HRI.out]; have HB2 := hidp (Bgo HBW.out hb2); have HX2 := hidp (HX0.out.keep hb2); clear hb2 c0 c1 c2; obtain ⟨c0, c1, c2⟩ := HX2.out.three)
   | fail)
  go_ret2
  exact ⟨rfl, HB2.out⟩
 ·have HRI := hidp hr
  have hl0 : lC t q s ≠ 0 := by
   have := (lay_yes hr).5
   have h4 := (rightB_iff t q s).1 hr
   omega
  have hne : ¬ (n : Int) = lC t q s := fun h2 => h ⟨hl0, h2⟩
  obtain ⟨l, hl⟩ : ∃ l, lC t q s = l := ⟨_, rfl⟩
  have HLC := hidp hl
  rw [hl] at hne
  have q0 : ((n : Int) != l) = true := by simpa using hne
  clear hr h hl0 hl hne
  go_enter Tryz.func106, Tryz.ntmps106
  go_wp2_with (first
   | (go_at_call 109; refine (r4Right_c t q s _).mono ?_; rintro e w2 ⟨rfl, hb2⟩; rw [HRI.out]; have HB2 := hidp (Bgo HBW.out hb2); have HX2 := hidp (HX0.out.keep hb2); clear hb2 c0 c1 c2; obtain ⟨c0, c1, c2⟩ := HX2.out.three)
   | (go_at_call 139; refine (r7Cells_c t q s _).mono ?_; rintro e w3 ⟨rfl, hb3⟩; rw [HLC.out]; have HB3 := hidp (Bgo HB2.out hb3))
   | fail)
  go_ret2
  exact ⟨rfl, HB3.out⟩

set_option maxHeartbeats 3200000 in
theorem xCheck_1 {H : AuH} {n c : Nat} (HV : HeapV H n c) (ad : Addr) (hr : ∀ i, i < 1 -> H.rule i) (hno : ¬ H.rule 1) (w : World) (hv : IsVals w ad n H.V) :
  Calls Tryz.prog 106 #[.agg #[.int .i64 (H.t : Int), .int .i64 (H.p : Int), .int .i64 (H.s : Int)], .slice (some ad) n c] w fun e w' => e = .returned (.tuple #[.int .i64 2, .bool false]) /\ Below w.heap.size w w' := by
 have HVL := hidp hv
 have HX0 := hidp (Held.new w 23 #[.int .i64 (H.t : Int), .int .i64 (H.p : Int), .int .i64 (H.s : Int)])
 obtain ⟨c0, c1, c2⟩ := HX0.out.three
 have HBW := hidp (Bnew (B0 w) (.cells #[.int .i64 (H.t : Int), .int .i64 (H.p : Int), .int .i64 (H.s : Int)] 23))
 have HRI := hidp HV.right
 have HLC : Hid (lC H.t H.p H.s = (n : Int)) := hidp (by have := (lay_yes HV.right).5; have := HV.len; omega)
 have HR1 := hidp (fun (W : World) (hv : IsVals W ad n H.V) => xTiles_c HV ad false ⟨fun h => (by cases h), fun h => absurd h hno⟩ W hv)
 have hn := HV.nums
 have hcx : c <= 9223372036854775807 := hn.2.2.2.2.2.2.2.2
 have hni : n <= 6238 := hn.2.2.2.2.2.2.1
 have hnc := HV.cap
 clear hv hr hno hn
 go_enter Tryz.func106, Tryz.ntmps106
 go_wp2_with (first
  | (go_at_call 109; refine (r4Right_c H.t H.p H.s _).mono ?_; rintro e w2 ⟨rfl, hb2⟩; rw [HRI.out]; have HB2 := hidp (Bgo HBW.out hb2); have HX2 := hidp (HX0.out.keep hb2); clear hb2 c0 c1 c2; obtain ⟨c0, c1, c2⟩ := HX2.out.three)
  | (go_at_call 139; refine (r7Cells_c H.t H.p H.s _).mono ?_; rintro e w3 ⟨rfl, hb3⟩; rw [HLC.out]; have HB3 := hidp (Bgo HB2.out hb3); have HX3 := hidp (HX2.out.keep hb3); clear hb3 c0 c1 c2; obtain ⟨c0, c1, c2⟩ := HX3.out.three; obtain ⟨x0, x1, x2, x3⟩ := (Held.new w3 114 #[.int .i64 (H.t : Int), .int .i64 (H.p : Int), .int .i64 (H.s : Int), .slice (some ad) n c]).four)
  | (go_at_call 140; refine (HR1.out _ (HVL.out.below (Bnew HB3.out (.cells #[.int .i64 (H.t : Int), .int .i64 (H.p : Int), .int .i64 (H.s : Int), .slice (some ad) n c] 114)))).mono ?_; rintro e w4 ⟨rfl, hb4⟩; have HB4 := hidp (Bgo (Bnew HB3.out (.cells #[.int .i64 (H.t : Int), .int .i64 (H.p : Int), .int .i64 (H.s : Int), .slice (some ad) n c] 114)) hb4); have HX4 := hidp ((Held.new w3 114 #[.int .i64 (H.t : Int), .int .i64 (H.p : Int), .int .i64 (H.s : Int), .slice (some ad) n c]).keep hb4); clear hb4 x0 x1 x2 x3; obtain ⟨x0, x1, x2, x3⟩ := HX4.out.four)
  | fail)
 go_ret2
 exact ⟨rfl, HB4.out⟩

set_option maxHeartbeats 3200000 in
theorem xCheck_2 {H : AuH} {n c : Nat} (HV : HeapV H n c) (ad : Addr) (hr : ∀ i, i < 2 -> H.rule i) (hno : ¬ H.rule 2) (w : World) (hv : IsVals w ad n H.V) :
  Calls Tryz.prog 106 #[.agg #[.int .i64 (H.t : Int), .int .i64 (H.p : Int), .int .i64 (H.s : Int)], .slice (some ad) n c] w fun e w' => e = .returned (.tuple #[.int .i64 3, .bool false]) /\ Below w.heap.size w w' := by
 have HVL := hidp hv
 have HX0 := hidp (Held.new w 23 #[.int .i64 (H.t : Int), .int .i64 (H.p : Int), .int .i64 (H.s : Int)])
 obtain ⟨c0, c1, c2⟩ := HX0.out.three
 have HBW := hidp (Bnew (B0 w) (.cells #[.int .i64 (H.t : Int), .int .i64 (H.p : Int), .int .i64 (H.s : Int)] 23))
 have HRI := hidp HV.right
 have HLC : Hid (lC H.t H.p H.s = (n : Int)) := hidp (by have := (lay_yes HV.right).5; have := HV.len; omega)
 have HR1 := hidp (fun (W : World) (hv : IsVals W ad n H.V) => xTiles_c HV ad true ⟨fun _ => hr 1 (by omega), fun _ => rfl⟩ W hv)
 have HR2 := hidp (fun (W : World) (hv : IsVals W ad n H.V) => xFeet_c HV (hr 1 (by omega)) ad false ⟨fun h => (by cases h), fun h => absurd h hno⟩ W hv)
 have hn := HV.nums
 have hcx : c <= 9223372036854775807 := hn.2.2.2.2.2.2.2.2
 have hni : n <= 6238 := hn.2.2.2.2.2.2.1
 have hnc := HV.cap
 clear hv hr hno hn
 go_enter Tryz.func106, Tryz.ntmps106
 go_wp2_with (first
  | (go_at_call 109; refine (r4Right_c H.t H.p H.s _).mono ?_; rintro e w2 ⟨rfl, hb2⟩; rw [HRI.out]; have HB2 := hidp (Bgo HBW.out hb2); have HX2 := hidp (HX0.out.keep hb2); clear hb2 c0 c1 c2; obtain ⟨c0, c1, c2⟩ := HX2.out.three)
  | (go_at_call 139; refine (r7Cells_c H.t H.p H.s _).mono ?_; rintro e w3 ⟨rfl, hb3⟩; rw [HLC.out]; have HB3 := hidp (Bgo HB2.out hb3); have HX3 := hidp (HX2.out.keep hb3); clear hb3 c0 c1 c2; obtain ⟨c0, c1, c2⟩ := HX3.out.three; obtain ⟨x0, x1, x2, x3⟩ := (Held.new w3 114 #[.int .i64 (H.t : Int), .int .i64 (H.p : Int), .int .i64 (H.s : Int), .slice (some ad) n c]).four)
  | (go_at_call 140; refine (HR1.out _ (HVL.out.below (Bnew HB3.out (.cells #[.int .i64 (H.t : Int), .int .i64 (H.p : Int), .int .i64 (H.s : Int), .slice (some ad) n c] 114)))).mono ?_; rintro e w4 ⟨rfl, hb4⟩; have HB4 := hidp (Bgo (Bnew HB3.out (.cells #[.int .i64 (H.t : Int), .int .i64 (H.p : Int), .int .i64 (H.s : Int), .slice (some ad) n c] 114)) hb4); have HX4 := hidp ((Held.new w3 114 #[.int .i64 (H.t : Int), .int .i64 (H.p : Int), .int .i64 (H.s : Int), .slice (some ad) n c]).keep hb4); clear hb4 x0 x1 x2 x3; obtain ⟨x0, x1, x2, x3⟩ := HX4.out.four)
  | (go_at_call 141; refine (HR2.out _ (HVL.out.below HB4.out)).mono ?_; rintro e w5 ⟨rfl, hb5⟩; have HB5 := hidp (Bgo HB4.out hb5); have HX5 := hidp (HX4.out.keep hb5); clear hb5 x0 x1 x2 x3; obtain ⟨x0, x1, x2, x3⟩ := HX5.out.four)
  | fail)
 go_ret2
 exact ⟨rfl, HB5.out⟩

set_option maxHeartbeats 3200000 in
theorem xCheck_3 {H : AuH} {n c : Nat} (HV : HeapV H n c) (ad : Addr) (hr : ∀ i, i < 3 -> H.rule i) (hno : ¬ H.rule 3) (w : World) (hv : IsVals w ad n H.V) :
  Calls Tryz.prog 106 #[.agg #[.int .i64 (H.t : Int), .int .i64 (H.p : Int), .int .i64 (H.s : Int)], .slice (some ad) n c] w fun e w' => e = .returned (.tuple #[.int .i64 4, .bool false]) /\ Below w.heap.size w w' := by
 have HVL := hidp hv
 have HX0 := hidp (Held.new w 23 #[.int .i64 (H.t : Int), .int .i64 (H.p : Int), .int .i64 (H.s : Int)])
 obtain ⟨c0, c1, c2⟩ := HX0.out.three
 have HBW := hidp (Bnew (B0 w) (.cells #[.int .i64 (H.t : Int), .int .i64 (H.p : Int), .int .i64 (H.s : Int)] 23))
 have HRI := hidp HV.right
 have HLC : Hid (lC H.t H.p H.s = (n : Int)) := hidp (by have := (lay_yes HV.right).5; have := HV.len; omega)
 have HR1 := hidp (fun (W : World) (hv : IsVals W ad n H.V) => xTiles_c HV ad true ⟨fun _ => hr 1 (by omega), fun _ => rfl⟩ W hv)
 have HR2 := hidp (fun (W : World) (hv : IsVals W ad n H.V) => xFeet_c HV (hr 1 (by omega)) ad true ⟨fun _ => hr 2 (by omega), fun _ => rfl⟩ W hv)
 have HR3 := hidp (fun (W : World) (hv : IsVals W ad n H.V) => xApart_c HV (hr 1 (by omega)) ad false ⟨fun h => (by cases h), fun h => absurd h hno⟩ W hv)
 have hn := HV.nums
 have hcx : c <= 9223372036854775807 := hn.2.2.2.2.2.2.2.2
 have hni : n <= 6238 := hn.2.2.2.2.2.2.1
 have hnc := HV.cap
 clear hv hr hno hn
 go_enter Tryz.func106, Tryz.ntmps106
 go_wp2_with (first
  | (go_at_call 109; refine (r4Right_c H.t H.p H.s _).mono ?_; rintro e w2 ⟨rfl, hb2⟩; rw [HRI.out]; have HB2 := hidp (Bgo HBW.out hb2); have HX2 := hidp (HX0.out.keep hb2); clear hb2 c0 c1 c2; obtain ⟨c0, c1, c2⟩ := HX2.out.three)
  | (go_at_call 139; refine (r7Cells_c H.t H.p H.s _).mono ?_; rintro e w3 ⟨rfl, hb3⟩; rw [HLC.out]; have HB3 := hidp (Bgo HB2.out hb3); have HX3 := hidp (HX2.out.keep hb3); clear hb3 c0 c1 c2; obtain ⟨c0, c1, c2⟩ := HX3.out.three; obtain ⟨x0, x1, x2, x3⟩ := (Held.new w3 114 #[.int .i64 (H.t : Int), .int .i64 (H.p : Int), .int .i64 (H.s : Int), .slice (some ad) n c]).four)
  | (go_at_call 140; refine (HR1.out _ (HVL.out.below (Bnew HB3.out (.cells #[.int .i64 (H.t : Int), .int .i64 (H.p : Int), .int .i64 (H.s : Int), .slice (some ad) n c] 114)))).mono ?_; rintro e w4 ⟨rfl, hb4⟩; have HB4 := hidp (Bgo (Bnew HB3.out (.cells #[.int .i64 (H.t : Int), .int .i64 (H.p : Int), .int .i64 (H.s : Int), .slice (some ad) n c] 114)) hb4); have HX4 := hidp ((Held.new w3 114 #[.int .i64 (H.t : Int), .int .i64 (H.p : Int), .int .i64 (H.s : Int), .slice (some ad) n c]).keep hb4); clear hb4 x0 x1 x2 x3; obtain ⟨x0, x1, x2, x3⟩ := HX4.out.four)
  | (go_at_call 141; refine (HR2.out _ (HVL.out.below HB4.out)).mono ?_; rintro e w5 ⟨rfl, hb5⟩; have HB5 := hidp (Bgo HB4.out hb5); have HX5 := hidp (HX4.out.keep hb5); clear hb5 x0 x1 x2 x3; obtain ⟨x0, x1, x2, x3⟩ := HX5.out.four)
  | (go_at_call 142; refine (HR3.out _ (HVL.out.below HB5.out)).mono ?_; rintro e w6 ⟨rfl, hb6⟩; have HB6 := hidp (Bgo HB5.out hb6); have HX6 := hidp (HX5.out.keep hb6); clear hb6 x0 x1 x2 x3; obtain ⟨x0, x1, x2, x3⟩ := HX6.out.four)
  | fail)
 go_ret2
 exact ⟨rfl, HB6.out⟩

set_option maxHeartbeats 3200000 in
theorem xCheck_4 {H : AuH} {n c : Nat} (HV : HeapV H n c) (ad : Addr) (hr : ∀ i, i < 4 -> H.rule i) (hno : ¬ H.rule 4) (w : World) (hv : IsVals w ad n H.V) :
  Calls Tryz.prog 106 #[.agg #[.int .i64 (H.t : Int), .int .i64 (H.p : Int), .int .i64 (H.s : Int)], .slice (some ad) n c] w fun e w' => e = .returned (.tuple #[.int .i64 5, .bool false]) /\ Below w.heap.size w w' := by
 have HVL := hidp hv
 have HX0 := hidp (Held.new w 23 #[.int .i64 (H.t : Int), .int .i64 (H.p : Int), .int .i64 (H.s : Int)])
 obtain ⟨c0, c1, c2⟩ := HX0.out.three
 have HBW := hidp (Bnew (B0 w) (.cells #[.int .i64 (H.t : Int), .int .i64 (H.p : Int), .int .i64 (H.s : Int)] 23))
 have HRI := hidp HV.right
 have HLC : Hid (lC H.t H.p H.s = (n : Int)) := hidp (by have := (lay_yes HV.right).5; have := HV.len; omega)
 have HR1 := hidp (fun (W : World) (hv : IsVals W ad n H.V) => xTiles_c HV ad true ⟨fun _ => hr 1 (by omega), fun _ => rfl⟩ W hv)
 have HR2 := hidp (fun (W : World) (hv : IsVals W ad n H.V) => xFeet_c HV (hr 1 (by omega)) ad true ⟨fun _ => hr 2 (by omega), fun _ => rfl⟩ W hv)
 have HR3 := hidp (fun (W : World) (hv : IsVals W ad n H.V) => xApart_c HV (hr 1 (by omega)) ad true ⟨fun _ => hr 3 (by omega), fun _ => rfl⟩ W hv)
 have HR4 := hidp (fun (W : World) (hv : IsVals W ad n H.V) => xSlots5_c HV ad false ⟨fun h => (by cases h), fun h => absurd h hno⟩ W hv)
 have hn := HV.nums
 have hcx : c <= 9223372036854775807 := hn.2.2.2.2.2.2.2.2
 have hni : n <= 6238 := hn.2.2.2.2.2.2.1
 have hnc := HV.cap
 clear hv hr hno hn
 go_enter Tryz.func106, Tryz.ntmps106
 go_wp2_with (first
  | (go_at_call 109; refine (r4Right_c H.t H.p H.s _).mono ?_; rintro e w2 ⟨rfl, hb2⟩; rw [HRI.out]; have HB2 := hidp (Bgo HBW.out hb2); have HX2 := hidp (HX0.out.keep hb2); clear hb2 c0 c1 c2; obtain ⟨c0, c1, c2⟩ := HX2.out.three)
  | (go_at_call 139; refine (r7Cells_c H.t H.p H.s _).mono ?_; rintro e w3 ⟨rfl, hb3⟩; rw [HLC.out]; have HB3 := hidp (Bgo HB2.out hb3); have HX3 := hidp (HX2.out.keep hb3); clear hb3 c0 c1 c2; obtain ⟨c0, c1, c2⟩ := HX3.out.three; obtain ⟨x0, x1, x2, x3⟩ := (Held.new w3 114 #[.int .i64 (H.t : Int), .int .i64 (H.p : Int), .int .i64 (H.s : Int), .slice (some ad) n c]).four)
  | (go_at_call 140; refine (HR1.out _ (HVL.out.below (Bnew HB3.out (.cells #[.int .i64 (H.t : Int), .int .i64 (H.p : Int), .int .i64 (H.s : Int), .slice (some ad) n c] 114)))).mono ?_; rintro e w4 ⟨rfl, hb4⟩; have HB4 := hidp (Bgo (Bnew HB3.out (.cells #[.int .i64 (H.t : Int), .int .i64 (H.p : Int), .int .i64 (H.s : Int), .slice (some ad) n c] 114)) hb4); have HX4 := hidp ((Held.new w3 114 #[.int .i64 (H.t : Int), .int .i64 (H.p : Int), .int .i64 (H.s : Int), .slice (some ad) n c]).keep hb4); clear hb4 x0 x1 x2 x3; obtain ⟨x0, x1, x2, x3⟩ := HX4.out.four)
  | (go_at_call 141; refine (HR2.out _ (HVL.out.below HB4.out)).mono ?_; rintro e w5 ⟨rfl, hb5⟩; have HB5 := hidp (Bgo HB4.out hb5); have HX5 := hidp (HX4.out.keep hb5); clear hb5 x0 x1 x2 x3; obtain ⟨x0, x1, x2, x3⟩ := HX5.out.four)
  | (go_at_call 142; refine (HR3.out _ (HVL.out.below HB5.out)).mono ?_; rintro e w6 ⟨rfl, hb6⟩; have HB6 := hidp (Bgo HB5.out hb6); have HX6 := hidp (HX5.out.keep hb6); clear hb6 x0 x1 x2 x3; obtain ⟨x0, x1, x2, x3⟩ := HX6.out.four)
  | (go_at_call 143; refine (HR4.out _ (HVL.out.below HB6.out)).mono ?_; rintro e w7 ⟨rfl, hb7⟩; have HB7 := hidp (Bgo HB6.out hb7); have HX7 := hidp (HX6.out.keep hb7); clear hb7 x0 x1 x2 x3; obtain ⟨x0, x1, x2, x3⟩ := HX7.out.four)
  | fail)
 go_ret2
 exact ⟨rfl, HB7.out⟩

set_option maxHeartbeats 3200000 in
theorem xCheck_5 {H : AuH} {n c : Nat} (HV : HeapV H n c) (ad : Addr) (hr : ∀ i, i < 5 -> H.rule i) (hno : ¬ H.rule 5) (w : World) (hv : IsVals w ad n H.V) :
  Calls Tryz.prog 106 #[.agg #[.int .i64 (H.t : Int), .int .i64 (H.p : Int), .int .i64 (H.s : Int)], .slice (some ad) n c] w fun e w' => e = .returned (.tuple #[.int .i64 6, .bool false]) /\ Below w.heap.size w w' := by
 have HVL := hidp hv
 have HX0 := hidp (Held.new w 23 #[.int .i64 (H.t : Int), .int .i64 (H.p : Int), .int .i64 (H.s : Int)])
 obtain ⟨c0, c1, c2⟩ := HX0.out.three
 have HBW := hidp (Bnew (B0 w) (.cells #[.int .i64 (H.t : Int), .int .i64 (H.p : Int), .int .i64 (H.s : Int)] 23))
 have HRI := hidp HV.right
 have HLC : Hid (lC H.t H.p H.s = (n : Int)) := hidp (by have := (lay_yes HV.right).5; have := HV.len; omega)
 have HR1 := hidp (fun (W : World) (hv : IsVals W ad n H.V) => xTiles_c HV ad true ⟨fun _ => hr 1 (by omega), fun _ => rfl⟩ W hv)
 have HR2 := hidp (fun (W : World) (hv : IsVals W ad n H.V) => xFeet_c HV (hr 1 (by omega)) ad true ⟨fun _ => hr 2 (by omega), fun _ => rfl⟩ W hv)
 have HR3 := hidp (fun (W : World) (hv : IsVals W ad n H.V) => xApart_c HV (hr 1 (by omega)) ad true ⟨fun _ => hr 3 (by omega), fun _ => rfl⟩ W hv)
 have HR4 := hidp (fun (W : World) (hv : IsVals W ad n H.V) => xSlots5_c HV ad true ⟨fun _ => hr 4 (by omega), fun _ => rfl⟩ W hv)
 have HR5 := hidp (fun (W : World) (hv : IsVals W ad n H.V) => xBins_c HV ad false ⟨fun h => (by cases h), fun h => absurd h hno⟩ W hv)
 have hn := HV.nums
 have hcx : c <= 9223372036854775807 := hn.2.2.2.2.2.2.2.2
 have hni : n <= 6238 := hn.2.2.2.2.2.2.1
 have hnc := HV.cap
 clear hv hr hno hn
 go_enter Tryz.func106, Tryz.ntmps106
 go_wp2_with (first
  | (go_at_call 109; refine (r4Right_c H.t H.p H.s _).mono ?_; rintro e w2 ⟨rfl, hb2⟩; rw [HRI.out]; have HB2 := hidp (Bgo HBW.out hb2); have HX2 := hidp (HX0.out.keep hb2); clear hb2 c0 c1 c2; obtain ⟨c0, c1, c2⟩ := HX2.out.three)
  | (go_at_call 139; refine (r7Cells_c H.t H.p H.s _).mono ?_; rintro e w3 ⟨rfl, hb3⟩; rw [HLC.out]; have HB3 := hidp (Bgo HB2.out hb3); have HX3 := hidp (HX2.out.keep hb3); clear hb3 c0 c1 c2; obtain ⟨c0, c1, c2⟩ := HX3.out.three; obtain ⟨x0, x1, x2, x3⟩ := (Held.new w3 114 #[.int .i64 (H.t : Int), .int .i64 (H.p : Int), .int .i64 (H.s : Int), .slice (some ad) n c]).four)
  | (go_at_call 140; refine (HR1.out _ (HVL.out.below (Bnew HB3.out (.cells #[.int .i64 (H.t : Int), .int .i64 (H.p : Int), .int .i64 (H.s : Int), .slice (some ad) n c] 114)))).mono ?_; rintro e w4 ⟨rfl, hb4⟩; have HB4 := hidp (Bgo (Bnew HB3.out (.cells #[.int .i64 (H.t : Int), .int .i64 (H.p : Int), .int .i64 (H.s : Int), .slice (some ad) n c] 114)) hb4); have HX4 := hidp ((Held.new w3 114 #[.int .i64 (H.t : Int), .int .i64 (H.p : Int), .int .i64 (H.s : Int), .slice (some ad) n c]).keep hb4); clear hb4 x0 x1 x2 x3; obtain ⟨x0, x1, x2, x3⟩ := HX4.out.four)
  | (go_at_call 141; refine (HR2.out _ (HVL.out.below HB4.out)).mono ?_; rintro e w5 ⟨rfl, hb5⟩; have HB5 := hidp (Bgo HB4.out hb5); have HX5 := hidp (HX4.out.keep hb5); clear hb5 x0 x1 x2 x3; obtain ⟨x0, x1, x2, x3⟩ := HX5.out.four)
  | (go_at_call 142; refine (HR3.out _ (HVL.out.below HB5.out)).mono ?_; rintro e w6 ⟨rfl, hb6⟩; have HB6 := hidp (Bgo HB5.out hb6); have HX6 := hidp (HX5.out.keep hb6); clear hb6 x0 x1 x2 x3; obtain ⟨x0, x1, x2, x3⟩ := HX6.out.four)
  | (go_at_call 143; refine (HR4.out _ (HVL.out.below HB6.out)).mono ?_; rintro e w7 ⟨rfl, hb7⟩; have HB7 := hidp (Bgo HB6.out hb7); have HX7 := hidp (HX6.out.keep hb7); clear hb7 x0 x1 x2 x3; obtain ⟨x0, x1, x2, x3⟩ := HX7.out.four)
  | (go_at_call 144; refine (HR5.out _ (HVL.out.below HB7.out)).mono ?_; rintro e w8 ⟨rfl, hb8⟩; have HB8 := hidp (Bgo HB7.out hb8); have HX8 := hidp (HX7.out.keep hb8); clear hb8 x0 x1 x2 x3; obtain ⟨x0, x1, x2, x3⟩ := HX8.out.four)
  | fail)
 go_ret2
 exact ⟨rfl, HB8.out⟩

set_option maxHeartbeats 3200000 in
theorem xCheck_6 {H : AuH} {n c : Nat} (HV : HeapV H n c) (ad : Addr) (hr : ∀ i, i < 6 -> H.rule i) (hno : ¬ H.rule 6) (w : World) (hv : IsVals w ad n H.V) :
  Calls Tryz.prog 106 #[.agg #[.int .i64 (H.t : Int), .int .i64 (H.p : Int), .int .i64 (H.s : Int)], .slice (some ad) n c] w fun e w' => e = .returned (.tuple #[.int .i64 7, .bool false]) /\ Below w.heap.size w w' := by
 have HVL := hidp hv
 have HX0 := hidp (Held.new w 23 #[.int .i64 (H.t : Int), .int .i64 (H.p : Int), .int .i64 (H.s : Int)])
 obtain ⟨c0, c1, c2⟩ := HX0.out.three
 have HBW := hidp (Bnew (B0 w) (.cells #[.int .i64 (H.t : Int), .int .i64 (H.p : Int), .int .i64 (H.s : Int)] 23))
 have HRI := hidp HV.right
 have HLC : Hid (lC H.t H.p H.s = (n : Int)) := hidp (by have := (lay_yes HV.right).5; have := HV.len; omega)
 have HR1 := hidp (fun (W : World) (hv : IsVals W ad n H.V) => xTiles_c HV ad true ⟨fun _ => hr 1 (by omega), fun _ => rfl⟩ W hv)
 have HR2 := hidp (fun (W : World) (hv : IsVals W ad n H.V) => xFeet_c HV (hr 1 (by omega)) ad true ⟨fun _ => hr 2 (by omega), fun _ => rfl⟩ W hv)
 have HR3 := hidp (fun (W : World) (hv : IsVals W ad n H.V) => xApart_c HV (hr 1 (by omega)) ad true ⟨fun _ => hr 3 (by omega), fun _ => rfl⟩ W hv)
 have HR4 := hidp (fun (W : World) (hv : IsVals W ad n H.V) => xSlots5_c HV ad true ⟨fun _ => hr 4 (by omega), fun _ => rfl⟩ W hv)
 have HR5 := hidp (fun (W : World) (hv : IsVals W ad n H.V) => xBins_c HV ad true ⟨fun _ => hr 5 (by omega), fun _ => rfl⟩ W hv)
 have HR6 := hidp (fun (W : World) (hv : IsVals W ad n H.V) => xRacks_c HV (hr 4 (by omega)) ad false ⟨fun h => (by cases h), fun h => absurd h hno⟩ W hv)
 have hn := HV.nums
 have hcx : c <= 9223372036854775807 := hn.2.2.2.2.2.2.2.2
 have hni : n <= 6238 := hn.2.2.2.2.2.2.1
 have hnc := HV.cap
 clear hv hr hno hn
 go_enter Tryz.func106, Tryz.ntmps106
 go_wp2_with (first
  | (go_at_call 109; refine (r4Right_c H.t H.p H.s _).mono ?_; rintro e w2 ⟨rfl, hb2⟩; rw [HRI.out]; have HB2 := hidp (Bgo HBW.out hb2); have HX2 := hidp (HX0.out.keep hb2); clear hb2 c0 c1 c2; obtain ⟨c0, c1, c2⟩ := HX2.out.three)
  | (go_at_call 139; refine (r7Cells_c H.t H.p H.s _).mono ?_; rintro e w3 ⟨rfl, hb3⟩; rw [HLC.out]; have HB3 := hidp (Bgo HB2.out hb3); have HX3 := hidp (HX2.out.keep hb3); clear hb3 c0 c1 c2; obtain ⟨c0, c1, c2⟩ := HX3.out.three; obtain ⟨x0, x1, x2, x3⟩ := (Held.new w3 114 #[.int .i64 (H.t : Int), .int .i64 (H.p : Int), .int .i64 (H.s : Int), .slice (some ad) n c]).four)
  | (go_at_call 140; refine (HR1.out _ (HVL.out.below (Bnew HB3.out (.cells #[.int .i64 (H.t : Int), .int .i64 (H.p : Int), .int .i64 (H.s : Int), .slice (some ad) n c] 114)))).mono ?_; rintro e w4 ⟨rfl, hb4⟩; have HB4 := hidp (Bgo (Bnew HB3.out (.cells #[.int .i64 (H.t : Int), .int .i64 (H.p : Int), .int .i64 (H.s : Int), .slice (some ad) n c] 114)) hb4); have HX4 := hidp ((Held.new w3 114 #[.int .i64 (H.t : Int), .int .i64 (H.p : Int), .int .i64 (H.s : Int), .slice (some ad) n c]).keep hb4); clear hb4 x0 x1 x2 x3; obtain ⟨x0, x1, x2, x3⟩ := HX4.out.four)
  | (go_at_call 141; refine (HR2.out _ (HVL.out.below HB4.out)).mono ?_; rintro e w5 ⟨rfl, hb5⟩; have HB5 := hidp (Bgo HB4.out hb5); have HX5 := hidp (HX4.out.keep hb5); clear hb5 x0 x1 x2 x3; obtain ⟨x0, x1, x2, x3⟩ := HX5.out.four)
  | (go_at_call 142; refine (HR3.out _ (HVL.out.below HB5.out)).mono ?_; rintro e w6 ⟨rfl, hb6⟩; have HB6 := hidp (Bgo HB5.out hb6); have HX6 := hidp (HX5.out.keep hb6); clear hb6 x0 x1 x2 x3; obtain ⟨x0, x1, x2, x3⟩ := HX6.out.four)
  | (go_at_call 143; refine (HR4.out _ (HVL.out.below HB6.out)).mono ?_; rintro e w7 ⟨rfl, hb7⟩; have HB7 := hidp (Bgo HB6.out hb7); have HX7 := hidp (HX6.out.keep hb7); clear hb7 x0 x1 x2 x3; obtain ⟨x0, x1, x2, x3⟩ := HX7.out.four)
  | (go_at_call 144; refine (HR5.out _ (HVL.out.below HB7.out)).mono ?_; rintro e w8 ⟨rfl, hb8⟩; have HB8 := hidp (Bgo HB7.out hb8); have HX8 := hidp (HX7.out.keep hb8); clear hb8 x0 x1 x2 x3; obtain ⟨x0, x1, x2, x3⟩ := HX8.out.four)
  | (go_at_call 145; refine (HR6.out _ (HVL.out.below HB8.out)).mono ?_; rintro e w9 ⟨rfl, hb9⟩; have HB9 := hidp (Bgo HB8.out hb9); have HX9 := hidp (HX8.out.keep hb9); clear hb9 x0 x1 x2 x3; obtain ⟨x0, x1, x2, x3⟩ := HX9.out.four)
  | fail)
 go_ret2
 exact ⟨rfl, HB9.out⟩

set_option maxHeartbeats 3200000 in
theorem xCheck_7 {H : AuH} {n c : Nat} (HV : HeapV H n c) (ad : Addr) (hr : ∀ i, i < 7 -> H.rule i) (hno : ¬ H.rule 7) (w : World) (hv : IsVals w ad n H.V) :
  Calls Tryz.prog 106 #[.agg #[.int .i64 (H.t : Int), .int .i64 (H.p : Int), .int .i64 (H.s : Int)], .slice (some ad) n c] w fun e w' => e = .returned (.tuple #[.int .i64 8, .bool false]) /\ Below w.heap.size w w' := by
 have HVL := hidp hv
 have HX0 := hidp (Held.new w 23 #[.int .i64 (H.t : Int), .int .i64 (H.p : Int), .int .i64 (H.s : Int)])
 obtain ⟨c0, c1, c2⟩ := HX0.out.three
 have HBW := hidp (Bnew (B0 w) (.cells #[.int .i64 (H.t : Int), .int .i64 (H.p : Int), .int .i64 (H.s : Int)] 23))
 have HRI := hidp HV.right
 have HLC : Hid (lC H.t H.p H.s = (n : Int)) := hidp (by have := (lay_yes HV.right).5; have := HV.len; omega)
 have HR1 := hidp (fun (W : World) (hv : IsVals W ad n H.V) => xTiles_c HV ad true ⟨fun _ => hr 1 (by omega), fun _ => rfl⟩ W hv)
 have HR2 := hidp (fun (W : World) (hv : IsVals W ad n H.V) => xFeet_c HV (hr 1 (by omega)) ad true ⟨fun _ => hr 2 (by omega), fun _ => rfl⟩ W hv)
 have HR3 := hidp (fun (W : World) (hv : IsVals W ad n H.V) => xApart_c HV (hr 1 (by omega)) ad true ⟨fun _ => hr 3 (by omega), fun _ => rfl⟩ W hv)
 have HR4 := hidp (fun (W : World) (hv : IsVals W ad n H.V) => xSlots5_c HV ad true ⟨fun _ => hr 4 (by omega), fun _ => rfl⟩ W hv)
 have HR5 := hidp (fun (W : World) (hv : IsVals W ad n H.V) => xBins_c HV ad true ⟨fun _ => hr 5 (by omega), fun _ => rfl⟩ W hv)
 have HR6 := hidp (fun (W : World) (hv : IsVals W ad n H.V) => xRacks_c HV (hr 4 (by omega)) ad true ⟨fun _ => hr 6 (by omega), fun _ => rfl⟩ W hv)
 have HR7 := hidp (fun (W : World) (hv : IsVals W ad n H.V) => xLoose_c HV (hr 4 (by omega)) ad false ⟨fun h => (by cases h), fun h => absurd h hno⟩ W hv)
 have hn := HV.nums
 have hcx : c <= 9223372036854775807 := hn.2.2.2.2.2.2.2.2
 have hni : n <= 6238 := hn.2.2.2.2.2.2.1
 have hnc := HV.cap
 clear hv hr hno hn
 go_enter Tryz.func106, Tryz.ntmps106
 go_wp2_with (first
  | (go_at_call 109; refine (r4Right_c H.t H.p H.s _).mono ?_; rintro e w2 ⟨rfl, hb2⟩; rw [HRI.out]; have HB2 := hidp (Bgo HBW.out hb2); have HX2 := hidp (HX0.out.keep hb2); clear hb2 c0 c1 c2; obtain ⟨c0, c1, c2⟩ := HX2.out.three)
  | (go_at_call 139; refine (r7Cells_c H.t H.p H.s _).mono ?_; rintro e w3 ⟨rfl, hb3⟩; rw [HLC.out]; have HB3 := hidp (Bgo HB2.out hb3); have HX3 := hidp (HX2.out.keep hb3); clear hb3 c0 c1 c2; obtain ⟨c0, c1, c2⟩ := HX3.out.three; obtain ⟨x0, x1, x2, x3⟩ := (Held.new w3 114 #[.int .i64 (H.t : Int), .int .i64 (H.p : Int), .int .i64 (H.s : Int), .slice (some ad) n c]).four)
  | (go_at_call 140; refine (HR1.out _ (HVL.out.below (Bnew HB3.out (.cells #[.int .i64 (H.t : Int), .int .i64 (H.p : Int), .int .i64 (H.s : Int), .slice (some ad) n c] 114)))).mono ?_; rintro e w4 ⟨rfl, hb4⟩; have HB4 := hidp (Bgo (Bnew HB3.out (.cells #[.int .i64 (H.t : Int), .int .i64 (H.p : Int), .int .i64 (H.s : Int), .slice (some ad) n c] 114)) hb4); have HX4 := hidp ((Held.new w3 114 #[.int .i64 (H.t : Int), .int .i64 (H.p : Int), .int .i64 (H.s : Int), .slice (some ad) n c]).keep hb4); clear hb4 x0 x1 x2 x3; obtain ⟨x0, x1, x2, x3⟩ := HX4.out.four)
  | (go_at_call 141; refine (HR2.out _ (HVL.out.below HB4.out)).mono ?_; rintro e w5 ⟨rfl, hb5⟩; have HB5 := hidp (Bgo HB4.out hb5); have HX5 := hidp (HX4.out.keep hb5); clear hb5 x0 x1 x2 x3; obtain ⟨x0, x1, x2, x3⟩ := HX5.out.four)
  | (go_at_call 142; refine (HR3.out _ (HVL.out.below HB5.out)).mono ?_; rintro e w6 ⟨rfl, hb6⟩; have HB6 := hidp (Bgo HB5.out hb6); have HX6 := hidp (HX5.out.keep hb6); clear hb6 x0 x1 x2 x3; obtain ⟨x0, x1, x2, x3⟩ := HX6.out.four)
  | (go_at_call 143; refine (HR4.out _ (HVL.out.below HB6.out)).mono ?_; rintro e w7 ⟨rfl, hb7⟩; have HB7 := hidp (Bgo HB6.out hb7); have HX7 := hidp (HX6.out.keep hb7); clear hb7 x0 x1 x2 x3; obtain ⟨x0, x1, x2, x3⟩ := HX7.out.four)
  | (go_at_call 144; refine (HR5.out _ (HVL.out.below HB7.out)).mono ?_; rintro e w8 ⟨rfl, hb8⟩; have HB8 := hidp (Bgo HB7.out hb8); have HX8 := hidp (HX7.out.keep hb8); clear hb8 x0 x1 x2 x3; obtain ⟨x0, x1, x2, x3⟩ := HX8.out.four)
  | (go_at_call 145; refine (HR6.out _ (HVL.out.below HB8.out)).mono ?_; rintro e w9 ⟨rfl, hb9⟩; have HB9 := hidp (Bgo HB8.out hb9); have HX9 := hidp (HX8.out.keep hb9); clear hb9 x0 x1 x2 x3; obtain ⟨x0, x1, x2, x3⟩ := HX9.out.four)
  | (go_at_call 146; refine (HR7.out _ (HVL.out.below HB9.out)).mono ?_; rintro e w10 ⟨rfl, hb10⟩; have HB10 := hidp (Bgo HB9.out hb10); have HX10 := hidp (HX9.out.keep hb10); clear hb10 x0 x1 x2 x3; obtain ⟨x0, x1, x2, x3⟩ := HX10.out.four)
  | fail)
 go_ret2
 exact ⟨rfl, HB10.out⟩

set_option maxHeartbeats 3200000 in
theorem xCheck_8 {H : AuH} {n c : Nat} (HV : HeapV H n c) (ad : Addr) (hr : ∀ i, i < 8 -> H.rule i) (hno : ¬ H.rule 8) (w : World) (hv : IsVals w ad n H.V) :
  Calls Tryz.prog 106 #[.agg #[.int .i64 (H.t : Int), .int .i64 (H.p : Int), .int .i64 (H.s : Int)], .slice (some ad) n c] w fun e w' => e = .returned (.tuple #[.int .i64 9, .bool false]) /\ Below w.heap.size w w' := by
 have HVL := hidp hv
 have HX0 := hidp (Held.new w 23 #[.int .i64 (H.t : Int), .int .i64 (H.p : Int), .int .i64 (H.s : Int)])
 obtain ⟨c0, c1, c2⟩ := HX0.out.three
 have HBW := hidp (Bnew (B0 w) (.cells #[.int .i64 (H.t : Int), .int .i64 (H.p : Int), .int .i64 (H.s : Int)] 23))
 have HRI := hidp HV.right
 have HLC : Hid (lC H.t H.p H.s = (n : Int)) := hidp (by have := (lay_yes HV.right).5; have := HV.len; omega)
 have HR1 := hidp (fun (W : World) (hv : IsVals W ad n H.V) => xTiles_c HV ad true ⟨fun _ => hr 1 (by omega), fun _ => rfl⟩ W hv)
 have HR2 := hidp (fun (W : World) (hv : IsVals W ad n H.V) => xFeet_c HV (hr 1 (by omega)) ad true ⟨fun _ => hr 2 (by omega), fun _ => rfl⟩ W hv)
 have HR3 := hidp (fun (W : World) (hv : IsVals W ad n H.V) => xApart_c HV (hr 1 (by omega)) ad true ⟨fun _ => hr 3 (by omega), fun _ => rfl⟩ W hv)
 have HR4 := hidp (fun (W : World) (hv : IsVals W ad n H.V) => xSlots5_c HV ad true ⟨fun _ => hr 4 (by omega), fun _ => rfl⟩ W hv)
 have HR5 := hidp (fun (W : World) (hv : IsVals W ad n H.V) => xBins_c HV ad true ⟨fun _ => hr 5 (by omega), fun _ => rfl⟩ W hv)
 have HR6 := hidp (fun (W : World) (hv : IsVals W ad n H.V) => xRacks_c HV (hr 4 (by omega)) ad true ⟨fun _ => hr 6 (by omega), fun _ => rfl⟩ W hv)
 have HR7 := hidp (fun (W : World) (hv : IsVals W ad n H.V) => xLoose_c HV (hr 4 (by omega)) ad true ⟨fun _ => hr 7 (by omega), fun _ => rfl⟩ W hv)
 have HR8 := hidp (fun (W : World) (hv : IsVals W ad n H.V) => xCounts_c HV (hr 4 (by omega)) ad false ⟨fun h => (by cases h), fun h => absurd h hno⟩ W hv)
 have hn := HV.nums
 have hcx : c <= 9223372036854775807 := hn.2.2.2.2.2.2.2.2
 have hni : n <= 6238 := hn.2.2.2.2.2.2.1
 have hnc := HV.cap
 clear hv hr hno hn
 go_enter Tryz.func106, Tryz.ntmps106
 go_wp2_with (first
  | (go_at_call 109; refine (r4Right_c H.t H.p H.s _).mono ?_; rintro e w2 ⟨rfl, hb2⟩; rw [HRI.out]; have HB2 := hidp (Bgo HBW.out hb2); have HX2 := hidp (HX0.out.keep hb2); clear hb2 c0 c1 c2; obtain ⟨c0, c1, c2⟩ := HX2.out.three)
  | (go_at_call 139; refine (r7Cells_c H.t H.p H.s _).mono ?_; rintro e w3 ⟨rfl, hb3⟩; rw [HLC.out]; have HB3 := hidp (Bgo HB2.out hb3); have HX3 := hidp (HX2.out.keep hb3); clear hb3 c0 c1 c2; obtain ⟨c0, c1, c2⟩ := HX3.out.three; obtain ⟨x0, x1, x2, x3⟩ := (Held.new w3 114 #[.int .i64 (H.t : Int), .int .i64 (H.p : Int), .int .i64 (H.s : Int), .slice (some ad) n c]).four)
  | (go_at_call 140; refine (HR1.out _ (HVL.out.below (Bnew HB3.out (.cells #[.int .i64 (H.t : Int), .int .i64 (H.p : Int), .int .i64 (H.s : Int), .slice (some ad) n c] 114)))).mono ?_; rintro e w4 ⟨rfl, hb4⟩; have HB4 := hidp (Bgo (Bnew HB3.out (.cells #[.int .i64 (H.t : Int), .int .i64 (H.p : Int), .int .i64 (H.s : Int), .slice (some ad) n c] 114)) hb4); have HX4 := hidp ((Held.new w3 114 #[.int .i64 (H.t : Int), .int .i64 (H.p : Int), .int .i64 (H.s : Int), .slice (some ad) n c]).keep hb4); clear hb4 x0 x1 x2 x3; obtain ⟨x0, x1, x2, x3⟩ := HX4.out.four)
  | (go_at_call 141; refine (HR2.out _ (HVL.out.below HB4.out)).mono ?_; rintro e w5 ⟨rfl, hb5⟩; have HB5 := hidp (Bgo HB4.out hb5); have HX5 := hidp (HX4.out.keep hb5); clear hb5 x0 x1 x2 x3; obtain ⟨x0, x1, x2, x3⟩ := HX5.out.four)
  | (go_at_call 142; refine (HR3.out _ (HVL.out.below HB5.out)).mono ?_; rintro e w6 ⟨rfl, hb6⟩; have HB6 := hidp (Bgo HB5.out hb6); have HX6 := hidp (HX5.out.keep hb6); clear hb6 x0 x1 x2 x3; obtain ⟨x0, x1, x2, x3⟩ := HX6.out.four)
  | (go_at_call 143; refine (HR4.out _ (HVL.out.below HB6.out)).mono ?_; rintro e w7 ⟨rfl, hb7⟩; have HB7 := hidp (Bgo HB6.out hb7); have HX7 := hidp (HX6.out.keep hb7); clear hb7 x0 x1 x2 x3; obtain ⟨x0, x1, x2, x3⟩ := HX7.out.four)
  | (go_at_call 144; refine (HR5.out _ (HVL.out.below HB7.out)).mono ?_; rintro e w8 ⟨rfl, hb8⟩; have HB8 := hidp (Bgo HB7.out hb8); have HX8 := hidp (HX7.out.keep hb8); clear hb8 x0 x1 x2 x3; obtain ⟨x0, x1, x2, x3⟩ := HX8.out.four)
  | (go_at_call 145; refine (HR6.out _ (HVL.out.below HB8.out)).mono ?_; rintro e w9 ⟨rfl, hb9⟩; have HB9 := hidp (Bgo HB8.out hb9); have HX9 := hidp (HX8.out.keep hb9); clear hb9 x0 x1 x2 x3; obtain ⟨x0, x1, x2, x3⟩ := HX9.out.four)
  | (go_at_call 146; refine (HR7.out _ (HVL.out.below HB9.out)).mono ?_; rintro e w10 ⟨rfl, hb10⟩; have HB10 := hidp (Bgo HB9.out hb10); have HX10 := hidp (HX9.out.keep hb10); clear hb10 x0 x1 x2 x3; obtain ⟨x0, x1, x2, x3⟩ := HX10.out.four)
  | (go_at_call 147; refine (HR8.out _ (HVL.out.below HB10.out)).mono ?_; rintro e w11 ⟨rfl, hb11⟩; have HB11 := hidp (Bgo HB10.out hb11); have HX11 := hidp (HX10.out.keep hb11); clear hb11 x0 x1 x2 x3; obtain ⟨x0, x1, x2, x3⟩ := HX11.out.four)
  | fail)
 go_ret2
 exact ⟨rfl, HB11.out⟩

set_option maxHeartbeats 3200000 in
theorem xCheck_9 {H : AuH} {n c : Nat} (HV : HeapV H n c) (ad : Addr) (hr : ∀ i, i < 9 -> H.rule i) (hno : ¬ H.rule 9) (w : World) (hv : IsVals w ad n H.V) :
  Calls Tryz.prog 106 #[.agg #[.int .i64 (H.t : Int), .int .i64 (H.p : Int), .int .i64 (H.s : Int)], .slice (some ad) n c] w fun e w' => e = .returned (.tuple #[.int .i64 10, .bool false]) /\ Below w.heap.size w w' := by
 have HVL := hidp hv
 have HX0 := hidp (Held.new w 23 #[.int .i64 (H.t : Int), .int .i64 (H.p : Int), .int .i64 (H.s : Int)])
 obtain ⟨c0, c1, c2⟩ := HX0.out.three
 have HBW := hidp (Bnew (B0 w) (.cells #[.int .i64 (H.t : Int), .int .i64 (H.p : Int), .int .i64 (H.s : Int)] 23))
 have HRI := hidp HV.right
 have HLC : Hid (lC H.t H.p H.s = (n : Int)) := hidp (by have := (lay_yes HV.right).5; have := HV.len; omega)
 have HR1 := hidp (fun (W : World) (hv : IsVals W ad n H.V) => xTiles_c HV ad true ⟨fun _ => hr 1 (by omega), fun _ => rfl⟩ W hv)
 have HR2 := hidp (fun (W : World) (hv : IsVals W ad n H.V) => xFeet_c HV (hr 1 (by omega)) ad true ⟨fun _ => hr 2 (by omega), fun _ => rfl⟩ W hv)
 have HR3 := hidp (fun (W : World) (hv : IsVals W ad n H.V) => xApart_c HV (hr 1 (by omega)) ad true ⟨fun _ => hr 3 (by omega), fun _ => rfl⟩ W hv)
 have HR4 := hidp (fun (W : World) (hv : IsVals W ad n H.V) => xSlots5_c HV ad true ⟨fun _ => hr 4 (by omega), fun _ => rfl⟩ W hv)
 have HR5 := hidp (fun (W : World) (hv : IsVals W ad n H.V) => xBins_c HV ad true ⟨fun _ => hr 5 (by omega), fun _ => rfl⟩ W hv)
 have HR6 := hidp (fun (W : World) (hv : IsVals W ad n H.V) => xRacks_c HV (hr 4 (by omega)) ad true ⟨fun _ => hr 6 (by omega), fun _ => rfl⟩ W hv)
 have HR7 := hidp (fun (W : World) (hv : IsVals W ad n H.V) => xLoose_c HV (hr 4 (by omega)) ad true ⟨fun _ => hr 7 (by omega), fun _ => rfl⟩ W hv)
 have HR8 := hidp (fun (W : World) (hv : IsVals W ad n H.V) => xCounts_c HV (hr 4 (by omega)) ad true ⟨fun _ => hr 8 (by omega), fun _ => rfl⟩ W hv)
 have HR9 := hidp (fun (W : World) (hv : IsVals W ad n H.V) => xRoots_c HV ad false ⟨fun h => (by cases h), fun h => absurd h hno⟩ W hv)
 have hn := HV.nums
 have hcx : c <= 9223372036854775807 := hn.2.2.2.2.2.2.2.2
 have hni : n <= 6238 := hn.2.2.2.2.2.2.1
 have hnc := HV.cap
 clear hv hr hno hn
 go_enter Tryz.func106, Tryz.ntmps106
 go_wp2_with (first
  | (go_at_call 109; refine (r4Right_c H.t H.p H.s _).mono ?_; rintro e w2 ⟨rfl, hb2⟩; rw [HRI.out]; have HB2 := hidp (Bgo HBW.out hb2); have HX2 := hidp (HX0.out.keep hb2); clear hb2 c0 c1 c2; obtain ⟨c0, c1, c2⟩ := HX2.out.three)
  | (go_at_call 139; refine (r7Cells_c H.t H.p H.s _).mono ?_; rintro e w3 ⟨rfl, hb3⟩; rw [HLC.out]; have HB3 := hidp (Bgo HB2.out hb3); have HX3 := hidp (HX2.out.keep hb3); clear hb3 c0 c1 c2; obtain ⟨c0, c1, c2⟩ := HX3.out.three; obtain ⟨x0, x1, x2, x3⟩ := (Held.new w3 114 #[.int .i64 (H.t : Int), .int .i64 (H.p : Int), .int .i64 (H.s : Int), .slice (some ad) n c]).four)
  | (go_at_call 140; refine (HR1.out _ (HVL.out.below (Bnew HB3.out (.cells #[.int .i64 (H.t : Int), .int .i64 (H.p : Int), .int .i64 (H.s : Int), .slice (some ad) n c] 114)))).mono ?_; rintro e w4 ⟨rfl, hb4⟩; have HB4 := hidp (Bgo (Bnew HB3.out (.cells #[.int .i64 (H.t : Int), .int .i64 (H.p : Int), .int .i64 (H.s : Int), .slice (some ad) n c] 114)) hb4); have HX4 := hidp ((Held.new w3 114 #[.int .i64 (H.t : Int), .int .i64 (H.p : Int), .int .i64 (H.s : Int), .slice (some ad) n c]).keep hb4); clear hb4 x0 x1 x2 x3; obtain ⟨x0, x1, x2, x3⟩ := HX4.out.four)
  | (go_at_call 141; refine (HR2.out _ (HVL.out.below HB4.out)).mono ?_; rintro e w5 ⟨rfl, hb5⟩; have HB5 := hidp (Bgo HB4.out hb5); have HX5 := hidp (HX4.out.keep hb5); clear hb5 x0 x1 x2 x3; obtain ⟨x0, x1, x2, x3⟩ := HX5.out.four)
  | (go_at_call 142; refine (HR3.out _ (HVL.out.below HB5.out)).mono ?_; rintro e w6 ⟨rfl, hb6⟩; have HB6 := hidp (Bgo HB5.out hb6); have HX6 := hidp (HX5.out.keep hb6); clear hb6 x0 x1 x2 x3; obtain ⟨x0, x1, x2, x3⟩ := HX6.out.four)
  | (go_at_call 143; refine (HR4.out _ (HVL.out.below HB6.out)).mono ?_; rintro e w7 ⟨rfl, hb7⟩; have HB7 := hidp (Bgo HB6.out hb7); have HX7 := hidp (HX6.out.keep hb7); clear hb7 x0 x1 x2 x3; obtain ⟨x0, x1, x2, x3⟩ := HX7.out.four)
  | (go_at_call 144; refine (HR5.out _ (HVL.out.below HB7.out)).mono ?_; rintro e w8 ⟨rfl, hb8⟩; have HB8 := hidp (Bgo HB7.out hb8); have HX8 := hidp (HX7.out.keep hb8); clear hb8 x0 x1 x2 x3; obtain ⟨x0, x1, x2, x3⟩ := HX8.out.four)
  | (go_at_call 145; refine (HR6.out _ (HVL.out.below HB8.out)).mono ?_; rintro e w9 ⟨rfl, hb9⟩; have HB9 := hidp (Bgo HB8.out hb9); have HX9 := hidp (HX8.out.keep hb9); clear hb9 x0 x1 x2 x3; obtain ⟨x0, x1, x2, x3⟩ := HX9.out.four)
  | (go_at_call 146; refine (HR7.out _ (HVL.out.below HB9.out)).mono ?_; rintro e w10 ⟨rfl, hb10⟩; have HB10 := hidp (Bgo HB9.out hb10); have HX10 := hidp (HX9.out.keep hb10); clear hb10 x0 x1 x2 x3; obtain ⟨x0, x1, x2, x3⟩ := HX10.out.four)
  | (go_at_call 147; refine (HR8.out _ (HVL.out.below HB10.out)).mono ?_; rintro e w11 ⟨rfl, hb11⟩; have HB11 := hidp (Bgo HB10.out hb11); have HX11 := hidp (HX10.out.keep hb11); clear hb11 x0 x1 x2 x3; obtain ⟨x0, x1, x2, x3⟩ := HX11.out.four)
  | (go_at_call 148; refine (HR9.out _ (HVL.out.below HB11.out)).mono ?_; rintro e w12 ⟨rfl, hb12⟩; have HB12 := hidp (Bgo HB11.out hb12); have HX12 := hidp (HX11.out.keep hb12); clear hb12 x0 x1 x2 x3; obtain ⟨x0, x1, x2, x3⟩ := HX12.out.four)
  | fail)
 go_ret2
 exact ⟨rfl, HB12.out⟩

set_option maxHeartbeats 3200000 in
theorem xCheck_10 {H : AuH} {n c : Nat} (HV : HeapV H n c) (ad : Addr) (hr : ∀ i, i < 10 -> H.rule i) (w : World) (hv : IsVals w ad n H.V) :
  Calls Tryz.prog 106 #[.agg #[.int .i64 (H.t : Int), .int .i64 (H.p : Int), .int .i64 (H.s : Int)], .slice (some ad) n c] w fun e w' => e = .returned (.tuple #[.int .i64 0, .bool true]) /\ Below w.heap.size w w' := by
 have HVL := hidp hv
 have HX0 := hidp (Held.new w 23 #[.int .i64 (H.t : Int), .int .i64 (H.p : Int), .int .i64 (H.s : Int)])
 obtain ⟨c0, c1, c2⟩ := HX0.out.three
 have HBW := hidp (Bnew (B0 w) (.cells #[.int .i64 (H.t : Int), .int .i64 (H.p : Int), .int .i64 (H.s : Int)] 23))
 have HRI := hidp HV.right
 have HLC : Hid (lC H.t H.p H.s = (n : Int)) := hidp (by have := (lay_yes HV.right).5; have := HV.len; omega)
 have HR1 := hidp (fun (W : World) (hv : IsVals W ad n H.V) => xTiles_c HV ad true ⟨fun _ => hr 1 (by omega), fun _ => rfl⟩ W hv)
 have HR2 := hidp (fun (W : World) (hv : IsVals W ad n H.V) => xFeet_c HV (hr 1 (by omega)) ad true ⟨fun _ => hr 2 (by omega), fun _ => rfl⟩ W hv)
 have HR3 := hidp (fun (W : World) (hv : IsVals W ad n H.V) => xApart_c HV (hr 1 (by omega)) ad true ⟨fun _ => hr 3 (by omega), fun _ => rfl⟩ W hv)
 have HR4 := hidp (fun (W : World) (hv : IsVals W ad n H.V) => xSlots5_c HV ad true ⟨fun _ => hr 4 (by omega), fun _ => rfl⟩ W hv)
 have HR5 := hidp (fun (W : World) (hv : IsVals W ad n H.V) => xBins_c HV ad true ⟨fun _ => hr 5 (by omega), fun _ => rfl⟩ W hv)
 have HR6 := hidp (fun (W : World) (hv : IsVals W ad n H.V) => xRacks_c HV (hr 4 (by omega)) ad true ⟨fun _ => hr 6 (by omega), fun _ => rfl⟩ W hv)
 have HR7 := hidp (fun (W : World) (hv : IsVals W ad n H.V) => xLoose_c HV (hr 4 (by omega)) ad true ⟨fun _ => hr 7 (by omega), fun _ => rfl⟩ W hv)
 have HR8 := hidp (fun (W : World) (hv : IsVals W ad n H.V) => xCounts_c HV (hr 4 (by omega)) ad true ⟨fun _ => hr 8 (by omega), fun _ => rfl⟩ W hv)
 have HR9 := hidp (fun (W : World) (hv : IsVals W ad n H.V) => xRoots_c HV ad true ⟨fun _ => hr 9 (by omega), fun _ => rfl⟩ W hv)
 have hn := HV.nums
 have hcx : c <= 9223372036854775807 := hn.2.2.2.2.2.2.2.2
 have hni : n <= 6238 := hn.2.2.2.2.2.2.1
 have hnc := HV.cap
 clear hv hr hn
 go_enter Tryz.func106, Tryz.ntmps106
 go_wp2_with (first
  | (go_at_call 109; refine (r4Right_c H.t H.p H.s _).mono ?_; rintro e w2 ⟨rfl, hb2⟩; rw [HRI.out]; have HB2 := hidp (Bgo HBW.out hb2); have HX2 := hidp (HX0.out.keep hb2); clear hb2 c0 c1 c2; obtain ⟨c0, c1, c2⟩ := HX2.out.three)
  | (go_at_call 139; refine (r7Cells_c H.t H.p H.s _).mono ?_; rintro e w3 ⟨rfl, hb3⟩; rw [HLC.out]; have HB3 := hidp (Bgo HB2.out hb3); have HX3 := hidp (HX2.out.keep hb3); clear hb3 c0 c1 c2; obtain ⟨c0, c1, c2⟩ := HX3.out.three; obtain ⟨x0, x1, x2, x3⟩ := (Held.new w3 114 #[.int .i64 (H.t : Int), .int .i64 (H.p : Int), .int .i64 (H.s : Int), .slice (some ad) n c]).four)
  | (go_at_call 140; refine (HR1.out _ (HVL.out.below (Bnew HB3.out (.cells #[.int .i64 (H.t : Int), .int .i64 (H.p : Int), .int .i64 (H.s : Int), .slice (some ad) n c] 114)))).mono ?_; rintro e w4 ⟨rfl, hb4⟩; have HB4 := hidp (Bgo (Bnew HB3.out (.cells #[.int .i64 (H.t : Int), .int .i64 (H.p : Int), .int .i64 (H.s : Int), .slice (some ad) n c] 114)) hb4); have HX4 := hidp ((Held.new w3 114 #[.int .i64 (H.t : Int), .int .i64 (H.p : Int), .int .i64 (H.s : Int), .slice (some ad) n c]).keep hb4); clear hb4 x0 x1 x2 x3; obtain ⟨x0, x1, x2, x3⟩ := HX4.out.four)
  | (go_at_call 141; refine (HR2.out _ (HVL.out.below HB4.out)).mono ?_; rintro e w5 ⟨rfl, hb5⟩; have HB5 := hidp (Bgo HB4.out hb5); have HX5 := hidp (HX4.out.keep hb5); clear hb5 x0 x1 x2 x3; obtain ⟨x0, x1, x2, x3⟩ := HX5.out.four)
  | (go_at_call 142; refine (HR3.out _ (HVL.out.below HB5.out)).mono ?_; rintro e w6 ⟨rfl, hb6⟩; have HB6 := hidp (Bgo HB5.out hb6); have HX6 := hidp (HX5.out.keep hb6); clear hb6 x0 x1 x2 x3; obtain ⟨x0, x1, x2, x3⟩ := HX6.out.four)
  | (go_at_call 143; refine (HR4.out _ (HVL.out.below HB6.out)).mono ?_; rintro e w7 ⟨rfl, hb7⟩; have HB7 := hidp (Bgo HB6.out hb7); have HX7 := hidp (HX6.out.keep hb7); clear hb7 x0 x1 x2 x3; obtain ⟨x0, x1, x2, x3⟩ := HX7.out.four)
  | (go_at_call 144; refine (HR5.out _ (HVL.out.below HB7.out)).mono ?_; rintro e w8 ⟨rfl, hb8⟩; have HB8 := hidp (Bgo HB7.out hb8); have HX8 := hidp (HX7.out.keep hb8); clear hb8 x0 x1 x2 x3; obtain ⟨x0, x1, x2, x3⟩ := HX8.out.four)
  | (go_at_call 145; refine (HR6.out _ (HVL.out.below HB8.out)).mono ?_; rintro e w9 ⟨rfl, hb9⟩; have HB9 := hidp (Bgo HB8.out hb9); have HX9 := hidp (HX8.out.keep hb9); clear hb9 x0 x1 x2 x3; obtain ⟨x0, x1, x2, x3⟩ := HX9.out.four)
  | (go_at_call 146; refine (HR7.out _ (HVL.out.below HB9.out)).mono ?_; rintro e w10 ⟨rfl, hb10⟩; have HB10 := hidp (Bgo HB9.out hb10); have HX10 := hidp (HX9.out.keep hb10); clear hb10 x0 x1 x2 x3; obtain ⟨x0, x1, x2, x3⟩ := HX10.out.four)
  | (go_at_call 147; refine (HR8.out _ (HVL.out.below HB10.out)).mono ?_; rintro e w11 ⟨rfl, hb11⟩; have HB11 := hidp (Bgo HB10.out hb11); have HX11 := hidp (HX10.out.keep hb11); clear hb11 x0 x1 x2 x3; obtain ⟨x0, x1, x2, x3⟩ := HX11.out.four)
  | (go_at_call 148; refine (HR9.out _ (HVL.out.below HB11.out)).mono ?_; rintro e w12 ⟨rfl, hb12⟩; have HB12 := hidp (Bgo HB11.out hb12); have HX12 := hidp (HX11.out.keep hb12); clear hb12 x0 x1 x2 x3; obtain ⟨x0, x1, x2, x3⟩ := HX12.out.four)
  | fail)
 go_ret2
 exact ⟨rfl, HB12.out⟩

def XCheckIs (w : World) (t q s : Int) (A : Option Addr) (n c : Nat) (m : Nat) (b : Bool) : Prop :=
 ∀ W, Below w.heap.size w W -> Calls Tryz.prog 106 #[.agg #[.int .i64 t, .int .i64 q, .int .i64 s], .slice A n c] W fun e w' => e = .returned (.tuple #[.int .i64 (m : Int), .bool b]) /\ Below W.heap.size W w'
theorem XCheckIs.grown {w w1 : World} {t q s : Int} {A : Option Addr} {n c m : Nat} {b : Bool} (h : XCheckIs w t q s A n c m b) (hb : Below w.heap.size w w1) : XCheckIs w1 t q s A n c m b :=
 fun W hW => h W (Bgo hb hW)
theorem xCheckIs_no (w : World) (t q s : Int) (A : Option Addr) (n c : Nat) (hnc : n <= c) (hc : c <= maxLen) (h : ¬ (lC t q s ≠ 0 /\ (n : Int) = lC t q s)) : XCheckIs w t q s A n c 1 false :=
 fun W _ => xCheck_no t q s A n c hnc hc h W
theorem xCheckIs_yes {H : AuH} {n c : Nat} (HV : HeapV H n c) (ad : Addr) (w : World) (hv : IsVals w ad n H.V) {m : Nat} {b : Bool} (h : H.Told m b) : XCheckIs w H.t H.p H.s (some ad) n c m b := by
 intro W hW
 rcases h with ⟨rfl, rfl, hr⟩ | ⟨rfl, k, rfl, h1, h2, hr, hno⟩
 ·exact xCheck_10 HV ad hr W (hv.below hW)
 ·rcases (by omega : k = 1 \/ k = 2 \/ k = 3 \/ k = 4 \/ k = 5 \/ k = 6 \/ k = 7 \/ k = 8 \/ k = 9) with rfl | rfl | rfl | rfl | rfl | rfl | rfl | rfl | rfl
  ·exact xCheck_1 HV ad hr hno W (hv.below hW)
  ·exact xCheck_2 HV ad hr hno W (hv.below hW)
  ·exact xCheck_3 HV ad hr hno W (hv.below hW)
  ·exact xCheck_4 HV ad hr hno W (hv.below hW)
  ·exact xCheck_5 HV ad hr hno W (hv.below hW)
  ·exact xCheck_6 HV ad hr hno W (hv.below hW)
  ·exact xCheck_7 HV ad hr hno W (hv.below hW)
  ·exact xCheck_8 HV ad hr hno W (hv.below hW)
  ·exact xCheck_9 HV ad hr hno W (hv.below hW)
end
section
set_option maxHeartbeats 1600000 in
theorem xSound_c (t q s : Int) (A : Option Addr) (n c m : Nat) (b : Bool) (w : World) (hC : XCheckIs w t q s A n c m b) :
  Calls Tryz.prog 65 #[.agg #[.int .i64 t, .int .i64 q, .int .i64 s], .slice A n c] w fun e w' => e = .returned (.bool b) /\ Below w.heap.size w w' := by
 have HX0 := hidp (Held.new w 23 #[.int .i64 t, .int .i64 q, .int .i64 s])
 obtain ⟨c0, c1, c2⟩ := HX0.out.three
 have HBW := hidp (Bnew (B0 w) (.cells #[.int .i64 t, .int .i64 q, .int .i64 s] 23))
 have HCK := hidp (hC _ HBW.out)
 clear hC
 go_enter Tryz.func65, Tryz.ntmps65
 go_wp2_with (first
  | (go_at_call 106; refine HCK.out.mono ?_; rintro e w2 ⟨rfl, hb2⟩; have HB2 := hidp (Bgo HBW.out hb2); clear hb2)
  | fail)
 go_ret
 exact ⟨rfl, HB2.out⟩

set_option maxHeartbeats 1600000 in
theorem xPartsTop_yes {H : AuH} {n c : Nat} (HV : HeapV H n c) (ad : Addr) (m : Nat) (w : World) (hv : IsVals w ad n H.V) (hC : XCheckIs w H.t H.p H.s (some ad) n c m true) :
  Calls Tryz.prog 68 #[.agg #[.int .i64 (H.t : Int), .int .i64 (H.p : Int), .int .i64 (H.s : Int)], .slice (some ad) n c] w fun e w' => ∃ u, e = .returned u /\ w'.ownsRow w.heap.size 128 3 u H.parts.length (ptVs H.parts) /\ Below w.heap.size w w' := by
 have HX0 := hidp (Held.new w 23 #[.int .i64 (H.t : Int), .int .i64 (H.p : Int), .int .i64 (H.s : Int)])
 obtain ⟨c0, c1, c2⟩ := HX0.out.three
 have HBW := hidp (Bnew (B0 w) (.cells #[.int .i64 (H.t : Int), .int .i64 (H.p : Int), .int .i64 (H.s : Int)] 23))
 have HSO := hidp (xSound_c (H.t : Int) (H.p : Int) (H.s : Int) (some ad) n c m true _ (hC.grown HBW.out))
 have HPP := hidp (fun (W : World) (h1 : Below w.heap.size w W) => xParts_c HV ad W (hv.below h1))
 unfold hpV at HPP
 clear hC hv
 go_enter Tryz.func68, Tryz.ntmps68
 go_wp2_with (first
  | (go_at_call 65; refine HSO.out.mono ?_; rintro e w2 ⟨rfl, hb2⟩; have HX2 := hidp (HX0.out.keep hb2); have HB2 := hidp (Bgo HBW.out hb2); have HB3 := hidp (Bnew HB2.out (.cells #[.int .i64 (H.t : Int), .int .i64 (H.p : Int), .int .i64 (H.s : Int), .slice (some ad) n c] 114)); clear hb2 c0 c1 c2; obtain ⟨c0, c1, c2⟩ := HX2.out.three; obtain ⟨x0, x1, x2, x3⟩ := (Held.new w2 114 #[.int .i64 (H.t : Int), .int .i64 (H.p : Int), .int .i64 (H.s : Int), .slice (some ad) n c]).four)
  | (go_at_call 108; refine (HPP.out _ HB3.out).mono ?_; rintro e w4 ⟨u, rfl, hown4, hb4⟩; have HO4 := hidp hown4; have HB4 := hidp (Bgo HB3.out hb4); clear hown4 hb4)
  | fail)
 go_ret
 exact ⟨u, rfl, own_down HO4.out HB3.out.size, HB4.out⟩
end
end Go.Proofs.YtjjfcaliippgpaaGreatDoor

namespace Go.Proofs.YtjjfcaliippgpaaGreatDoor
open Go.ChangeShapes Go.WideShapes Go.ChangeAt Go.RowKit
set_option linter.unusedVariables false
set_option maxRecDepth 100000
section
section
variable {H : Type} {enc : TypeId × Value -> H} {P : Program} {w : World} {base : Nat} {sp : Nat -> Bool} {held : Bool}
theorem open_vals {t e : TypeId} {v : Value} {d : DataW H} {p : List MemPlace} (ht : P.underlying t = some (.slice e)) (he : P.underlying e = some (.int .u32)) (hc : P.cellsOf e = 1)
  {r : Reach} {b0 : Nat} (hval : Value.okWide P w r b0 t v) (h : DataW.Trod enc P w base sp held t v d p) (hlt : ∀ x ∈ p, x.block < w.heap.size) :
  ∃ (A : Option Addr) (c : Nat) (ws : List Nat), v = .slice A ws.length c /\ ws.length <= c /\ c <= maxLen /\ (∀ x ∈ ws, x < 2 ^ 32) /\ Reads w w.heap.size 1 A ws.length (valVs ws) := by
 obtain ⟨fuel, hf⟩ := h
 have hv : v.cells = #[v] := by
  obtain ⟨A, n, c, rfl⟩ := okWide_slice ht hval
  rfl
 rw [hv] at hf
 rcases open_ints ht he hc hf with ⟨hcs, _⟩ | ⟨a, len, cap, zs, hcs, hb, hl, hm, hz, hx, hcell, hwf⟩
 ·injection hcs with hcs
  subst hcs
  exact ⟨none, 0, [], rfl, Nat.le_refl _, Nat.zero_le _, by simp, Reads.none_⟩
 ·injection hcs with hcs
  subst hcs
  have hlz : len <= zs.length := by rw [hz]; split <;> omega
  have hlen : ((zs.take len).map Int.toNat).length = len := by simp; omega
  refine ⟨some a, cap, (zs.take len).map Int.toNat, by rw [hlen], by rw [hlen]; exact hl, hm, ?_, ?_⟩
  ·intro x hx
   obtain ⟨z, hz1, rfl⟩ := List.mem_map.1 hx
   obtain ⟨n, rfl, hn⟩ := u32_nat (hwf z (List.mem_of_mem_take hz1))
   simpa using hn
  ·refine ⟨by rw [valVs_len]; omega, fun hn => ?_⟩
   rw [hlen] at hn
   refine ⟨a, rfl, ?_, fun j u hu => ?_⟩
   ·have hp : (p : List MemPlace) = MemPlace.row a zs.length := by
     have := congrArg Prod.snd hx
     simpa using this
    have h0 : MemPlace.cell a.block a.off ∈ p \/ (∃ x ∈ p, x.block = a.block) := by
     right
     rw [hp]
     refine ⟨(MemPlace.row a zs.length)[0]'(by simp [MemPlace.row]; omega), List.getElem_mem _, ?_⟩
     simp [MemPlace.row, MemPlace.block]
    rcases h0 with h0 | ⟨x, hx1, hx2⟩
    ·exact hlt _ h0
    ·rw [<- hx2]; exact hlt x hx1
   ·unfold valVs at hu
    rw [List.map_map] at hu
    have hj : j < len := by
     rcases Nat.lt_or_ge j len with h1 | h1
     ·exact h1
     ·rw [List.getElem?_eq_none (by simp; omega)] at hu; cases hu
    rw [List.getElem?_map, List.getElem?_take_of_lt hj, List.getElem?_eq_getElem (by omega)] at hu
    simp only [Option.map_some, Option.some.injEq, Function.comp_apply] at hu
    subst hu
    rw [hcell j (by omega)]
    have hw := hwf zs[j] (List.getElem_mem _)
    obtain ⟨n, hn1, _⟩ := u32_nat hw
    have : (zs.getD j 0) = zs[j] := by simp [List.getD, List.getElem?_eq_getElem (show j < zs.length by omega)]
    rw [this, hn1]
    simp
end
end
end Go.Proofs.YtjjfcaliippgpaaGreatDoor

namespace Go.Proofs.YtjjfcaliippgpaaGreatDoor
open Go.ChangeShapes Go.WideShapes Go.ChangeAt Go.RowKit
set_option linter.unusedVariables false
section
theorem heap13_of (W : World) (t q s : Int) (A : Option Addr) (c : Nat) (vals : List Nat) (hnc : vals.length <= c) (hcm : c <= maxLen) (h32 : ∀ x ∈ vals, x < 2 ^ 32) (hR : Reads W W.heap.size 1 A vals.length (valVs vals)) (h : lC t q s ≠ 0 /\ (vals.length : Int) = lC t q s) :
  ∃ (H : AuH) (ad : Addr), t = H.t /\ q = H.p /\ s = H.s /\ A = some ad /\ (∀ i, H.V i = vals.getD i 0) /\ HeapV H vals.length c /\ IsVals W ad vals.length H.V := by
 cases hr : rightB t q s
 ·exact absurd (lay_no hr).5 h.1
 ·have hn := (rightB_iff t q s).1 hr
  have hl := (lay_yes hr).5
  have hlen : 0 < vals.length := by have := h.2; rw [hl] at this; omega
  obtain ⟨ad, rfl, hb, hc⟩ := hR.2 hlen
  have hx : ∀ i, i < vals.length -> vals[i]? = some (vals.getD i 0) := fun i hi => by simp [List.getD, List.getElem?_eq_getElem hi]
  refine ⟨⟨t.toNat, q.toNat, s.toNat, fun i => vals.getD i 0⟩, ad, by show t = _; simp; omega, by show q = _; simp; omega, by show s = _; simp; omega, rfl, fun i => rfl, ⟨?_, ?_, hnc, hcm, fun i hi => ?_⟩, hb, fun i hi => ?_⟩
  ·show rightB ((t.toNat : Nat) : Int) ((q.toNat : Nat) : Int) ((s.toNat : Nat) : Int) = true
   rw [show ((t.toNat : Nat) : Int) = t by omega, show ((q.toNat : Nat) : Int) = q by omega, show ((s.toNat : Nat) : Int) = s by omega]
   exact hr
  ·show vals.length = 30 + 4 * t.toNat + 6 * q.toNat
   have := h.2
   rw [hl] at this
   omega
  ·exact h32 _ (List.mem_of_getElem? (hx i hi))
  ·refine hc i _ ?_
   unfold valVs
   rw [List.getElem?_map, hx i hi]
   rfl
theorem heap13_or (W : World) (t q s : Int) (A : Option Addr) (c : Nat) (vals : List Nat) (hnc : vals.length <= c) (hcm : c <= maxLen) (h32 : ∀ x ∈ vals, x < 2 ^ 32) (hR : Reads W W.heap.size 1 A vals.length (valVs vals)) :
  (∃ m, XCheckIs W t q s A vals.length c m false) \/ ∃ (H : AuH) (ad : Addr) (m : Nat), t = H.t /\ q = H.p /\ s = H.s /\ A = some ad /\ (∀ i, H.V i = vals.getD i 0) /\ HeapV H vals.length c /\ IsVals W ad vals.length H.V /\ H.Told m true /\ XCheckIs W H.t H.p H.s (some ad) vals.length c m true := by
 by_cases h : lC t q s ≠ 0 /\ (vals.length : Int) = lC t q s
 ·obtain ⟨H, ad, rfl, rfl, rfl, rfl, hV, HV, hv⟩ := heap13_of W t q s A c vals hnc hcm h32 hR h
  obtain ⟨m, b, hto⟩ := H.told_is
  have hX := xCheckIs_yes HV ad W hv hto
  cases b with
  | true => exact .inr ⟨H, ad, m, rfl, rfl, rfl, rfl, hV, HV, hv, hto, hX⟩
  | false => exact .inl ⟨m, hX⟩
 ·exact .inl ⟨1, xCheckIs_no W t q s A vals.length c hnc hcm h⟩
end
end Go.Proofs.YtjjfcaliippgpaaGreatDoor

namespace Go.Proofs.YtjjfcaliippgpaaGreatDoor
open Go.ChangeShapes Go.WideShapes Go.ChangeAt Go.RowKit Go.Maps
set_option linter.unusedVariables false
set_option linter.unusedSimpArgs false
section
theorem told_rules {H : AuH} {m : Nat} (h : H.Told m true) : ∀ i, i < 10 -> H.rule i := by
 rcases h with ⟨_, _, h⟩ | ⟨h, _⟩
 ·exact h
 ·cases h
end
section
section
variable {H H' : AuH} {n c c' : Nat} {L L' : Nat -> List Nat} {q p i : Nat}
theorem slot_room (HV : HeapV H n c) (hk : H.K q = 3) (hi : i < slotI (H.Cl q)) : 1 <= H.zs q /\ i * H.zs q + H.zs q <= H.pg := by
 have h8 : 0 <= H.Cl q /\ H.Cl q <= 8 := by have := H.K_cases q; omega
 obtain ⟨k, hkk⟩ := Int.eq_ofNat_of_zero_le h8.1
 have hs : 10 <= (H.s : Int) /\ (H.s : Int) <= 20 := by have := HV.nums; omega
 unfold AuH.zs
 rw [hkk] at hi ⊢
 rw [slotI_nat] at hi
 have hf := size_facts hs (k := k) (by omega)
 have hp : pageS (H.s : Int) = H.pg := by unfold AuH.pg; rw [pageS_yes hs, Int.toNat_natCast]
 rw [hp] at hf
 have h1 : (i + 1) * sizeN (H.s : Int) (k : Int) <= slotN k * sizeN (H.s : Int) (k : Int) := Nat.mul_le_mul_right _ hi
 have h2 := hf.2.2.1
 rw [Nat.mul_comm] at h2
 rw [Nat.add_mul, Nat.one_mul] at h1
 omega
end
section
variable {Z : Nat -> Nat -> List Int} {t0 k0 k : Nat} {l : List Int}
end
end
section
def inc32 (x : Nat) : Nat := (x + 1) % 4294967296
section
variable (n : Nat) (K : Nat -> Option Nat) (t q s : Int)
def onS (p i : Nat) (st : Vst) : Vst :=
 putS n (getS n K (putS n (getS n K st (pageI t q s p 4)) (pageI t q s p 4) (getV n K st (pageI t q s p 4) ||| 2 ^ i)) 1) 1
  (inc32 (getV n K (putS n (getS n K st (pageI t q s p 4)) (pageI t q s p 4) (getV n K st (pageI t q s p 4) ||| 2 ^ i)) 1))
end
section
variable {H : AuH} {n c : Nat} {K : Nat -> Option Nat} {st : Vst} {L : Nat -> List Nat} {p i : Nat}
end
end
end Go.Proofs.YtjjfcaliippgpaaGreatDoor

namespace Go.Proofs.YtjjfcaliippgpaaGreatDoor
open Go.ChangeShapes Go.WideShapes Go.ChangeAt Go.RowKit Go.Maps
set_option linter.unusedVariables false
set_option linter.unusedSimpArgs false
set_option maxRecDepth 100000
section
theorem smBit_c (s : Nat) (hs : s < 32) (w : World) : Calls Tryz.prog 102 #[.int .i64 (s : Int)] w fun e w' => e = .returned (.int .u32 ((2 ^ s : Nat) : Int)) /\ w = w' := by
 have e := hidp (pow32 hs)
 have e5 : s <= 31 := by omega
 go_enter Tryz.func102, Tryz.ntmps102
 go_wp2
 go_ret
 exact ⟨ret_u32 e.out, rfl⟩
theorem pow2_32 {i : Nat} (hi : i < 32) : 2 ^ i < 2 ^ 32 := Nat.pow_lt_pow_right (by decide) hi
theorem setB_or {v i : Nat} (hv : v < 2 ^ 32) (hi : i < 32) : bits .or .u32 (v : Int) ((2 ^ i : Nat) : Int) = ((v ||| 2 ^ i : Nat) : Int) := u32_or_nat v (2 ^ i) hv (pow2_32 hi)
theorem setB_lt {v i : Nat} (hv : v < 2 ^ 32) (hi : i < 32) : v ||| 2 ^ i < 2 ^ 32 := Nat.or_lt_two_pow hv (pow2_32 hi)
theorem smSlotAt_c {b : Nat} {t q s : Int} {g : Nat} {U : Nat -> Sl} (k : Nat) (hk : k < 9) (a : Int) (h0 : -9223372036854775808 <= a) (h1 : a <= 9223372036854775807) (hs : spotB t q s a = true) (hr : slotB t q s (k : Int) (spotO t q s a) = true) (w : World) (hT : SlotsLaid w) (hH : Held w g 83 (hdC b t q s U)) :
  Calls Tryz.prog 77 #[.pointer (some ⟨g, 0, none⟩), .int .i64 (k : Int), .int .i64 a] w fun e w' => e = .returned (.tuple #[.int .i64 (spotP t q s a), .int .i64 (slotR t q s (k : Int) (spotO t q s a))]) /\ Below w.heap.size w w' := by
 have HH := hidp hH
 have HT := hidp hT
 have HB := hidp (B0 w)
 have hob := spot_parts hs
 obtain ⟨o, ho⟩ : ∃ o, spotO t q s a = o := ⟨_, rfl⟩
 rw [ho] at hr hob ⊢
 have HO := hidp ho
 have HS := hidp hs
 have HR := hidp hr
 have o0 : 0 <= o := hob.2.2.2.2.2.1
 have o1 : o < 1048576 := hob.2.2.2.2.2.2
 clear ho hs hr hH hT hob
 obtain ⟨x0, x1, x2, x3⟩ := HH.out.hd4
 go_enter Tryz.func77, Tryz.ntmps77
 go_wp2_with fail
 refine (adPage_c t q s a h0 h1 _).mono ?_
 rintro e w2 ⟨rfl, hb⟩
 rw [HO.out, HS.out]
 replace HH := hidp (HH.out.keep hb)
 replace HB := hidp (Bgo HB.out hb)
 clear hb x0 x1 x2 x3
 obtain ⟨x0, x1, x2, x3⟩ := HH.out.hd4
 go_wp2_with fail
 refine (adSlot_c t q s (k : Int) o (by omega) (by omega) (by omega) (by omega) _ (HT.out.below HB.out)).mono ?_
 rintro e w3 ⟨rfl, hb⟩
 rw [HR.out]
 replace HB := hidp (Bgo HB.out hb)
 clear hb
 go_wp2
 go_ret2
 exact ⟨rfl, HB.out⟩
section
variable {base b n : Nat} {wh all : Bool} {K : Nat -> Option Nat} {st : Vst} {w w0 : World} {A G : Nat -> Prop} {t q s k : Int}

set_option maxHeartbeats 3200000 in
theorem smLive_c (hn : n < 2 ^ 40) (p : Int) (i : Nat) (hi : i < 32) {g : Nat} {U : Nat -> Sl} (hG : G g) (hH : Held w g 83 (hdC b t q s U)) (h : (vOb base b n wh K).At w0 A G st w) :
  Calls Tryz.prog 76 #[.pointer (some ⟨g, 0, none⟩), .int .i64 p, .int .i64 (i : Int)] w fun e w' => e = .returned (.tuple #[]) /\ (vOb base b n wh K).At w0 A G (putS n (getS n K st (pageI t q s p 4)) (pageI t q s p 4) ((getV n K st (pageI t q s p 4)) ||| 2 ^ i)) w' /\ Stay G w w' := by
 have W0 := hidp (WL.start h)
 have HGG := hidp hG
 have HHD := hidp hH
 obtain ⟨v, hv⟩ : ∃ v, getV n K st (pageI t q s p 4) = v := ⟨_, rfl⟩
 have hv32 : v < 2 ^ 32 := by rw [<- hv]; exact vAt_lt h _
 have HV := hidp hv
 rw [hv]
 obtain ⟨u, hu⟩ : ∃ u, v ||| 2 ^ i = u := ⟨_, rfl⟩
 have HU : Hid (u < 2 ^ 32) := hidp (by rw [<- hu]; exact setB_lt hv32 hi)
 obtain ⟨x, hx⟩ : ∃ x, 2 ^ i = x := ⟨_, rfl⟩
 have HX := hidp hx
 have e1 : bits .or .u32 (v : Int) (x : Int) = (u : Int) := by rw [<- hu, <- hx]; exact setB_or hv32 hi
 rw [hu]
 clear h hv hu hv32 hx hG hH
 go_enter Tryz.func76, Tryz.ntmps76
 obtain ⟨x0, x1, x2, x3⟩ := (W0.out.stay.held HGG.out HHD.out).hd4
 go_wp2_with fail
 refine (plSlots_c t q s p _).mono ?_; rintro e w1 ⟨rfl, hb⟩; have W1 := hidp (W0.out.keep hb); clear hb W0
 obtain ⟨x0, x1, x2, x3⟩ := (W1.out.stay.held HGG.out HHD.out).hd4
 go_wp2_with fail
 refine wp_region_held_drew (S := (fun w' => w'.cell? ⟨g, 0, none⟩ = some (.pointer (some ⟨b, 0, none⟩)))) (by kernel_rfl) ?_ (fun hHeld => ?_)
 ·(try dsimp only)
  exact (W1.out.drew.stay.held HGG.out HHD.out).hd4.1
 refine tkz 0 ?_
 refine tkz 1 ?_
 refine tkz 2 ?_
 refine tkz 3 ?_
 refine tkz 4 ?_
 refine tkz 5 ?_
 refine tkz 6 ?_
 refine tkz 7 ?_
 refine tkz 8 ?_
 refine tkz 9 ?_
 refine tkz 11 ?_
 refine rdz 10 fun K hK => ?_
 go_simp
 refine (vGetA hn _ W1.out.drew.at_).mono ?_; rintro e w2 ⟨rfl, h1, h2⟩; have W2 := hidp (W1.out.drew.call h1 h2); clear h1 h2 W1; rw [HV.out]
 refine hK.out _ _ ?_ (fun hHeld => ?_)
 ·(try dsimp only)
  exact (W2.out.stay.held HGG.out HHD.out).hd4.1
 clear hK K
 (try simp only [Act.put, gA, gB, gC, sA, sB, sC])
 refine rdz 12 fun K hK => ?_
 go_simp
 refine (smBit_c i hi _).mono ?_; rintro e w9 ⟨rfl, rfl⟩; rw [HX.out]
 refine hK.out _ _ ?_ (fun hHeld => ?_)
 ·(try dsimp only)
  exact (W2.out.stay.held HGG.out HHD.out).hd4.1
 clear hK K
 (try simp only [Act.put, gA, gB, gC, sA, sB, sC])
 refine tkz 13 ?_
 refine rdz 14 fun K hK => ?_
 go_simp
 refine (vPutA hn _ u HU.out W2.out.at_).mono ?_; rintro e w3 ⟨rfl, h1, h2⟩; have W3 := hidp (W2.out.call h1 h2); clear h1 h2 W2
 refine hK.out _ _ ?_ (fun hHeld => ?_)
 ·(try dsimp only)
  exact (W3.out.stay.held HGG.out HHD.out).hd4.1
 clear hK K
 (try simp only [Act.put, gA, gB, gC, sA, sB, sC])
 refine dnz ?_
 obtain ⟨x0, x1, x2, x3⟩ := (W3.out.stay.held HGG.out HHD.out).hd4
 go_wp2
 go_end0
 exact ⟨rfl, W3.out.fin⟩

set_option maxHeartbeats 3200000 in
theorem smCount_inc (hn : n < 2 ^ 40) {g : Nat} {U : Nat -> Sl} (hG : G g) (hH : Held w g 83 (hdC b t q s U)) (h : (vOb base b n wh K).At w0 A G st w) :
  Calls Tryz.prog 39 #[.pointer (some ⟨g, 0, none⟩), .int .i64 1] w fun e w' => e = .returned (.tuple #[]) /\ (vOb base b n wh K).At w0 A G (putS n (getS n K st 1) 1 (inc32 (getV n K st 1))) w' /\ Stay G w w' := by
 have W0 := hidp (WL.start h)
 have HGG := hidp hG
 have HHD := hidp hH
 obtain ⟨v, hv⟩ : ∃ v, getV n K st 1 = v := ⟨_, rfl⟩
 have hv32 : v < 2 ^ 32 := by rw [<- hv]; exact vAt_lt h _
 have HV := hidp hv
 rw [hv]
 obtain ⟨u, hu⟩ : ∃ u, inc32 v = u := ⟨_, rfl⟩
 have HU : Hid (u < 2 ^ 32) := hidp (by rw [<- hu]; exact Nat.mod_lt _ (by decide))
 have e1 : ((v : Int) + 1) % 4294967296 = (u : Int) := by rw [<- hu]; unfold inc32; omega
 have e2 : IntKind.u32.wrap ((v : Int) + 1) = (u : Int) := by unfold IntKind.wrap; simpa [IntKind.bits, IntKind.signed] using e1
 have e3 : IntKind.u32.wrap 1 = 1 := by decide
 rw [hu]
 clear h hv hu hv32 hG hH
 go_enter Tryz.func39, Tryz.ntmps39
 obtain ⟨x0, x1, x2, x3⟩ := (W0.out.stay.held HGG.out HHD.out).hd4
 go_wp2_with fail
 refine wp_region_held_drew (S := (fun w' => w'.cell? ⟨g, 0, none⟩ = some (.pointer (some ⟨b, 0, none⟩)))) (by kernel_rfl) ?_ (fun hHeld => ?_)
 ·(try dsimp only)
  exact (W0.out.drew.stay.held HGG.out HHD.out).hd4.1
 refine tkz 0 ?_
 refine tkz 1 ?_
 refine tkz 2 ?_
 refine tkz 3 ?_
 refine tkz 4 ?_
 refine tkz 5 ?_
 refine tkz 6 ?_
 refine tkz 7 ?_
 refine tkz 9 ?_
 refine tkz 10 ?_
 refine rdz 8 fun K hK => ?_
 go_simp
 refine (vGetA hn 1 W0.out.drew.at_).mono ?_; rintro e w1 ⟨rfl, h1, h2⟩; have W1 := hidp (W0.out.drew.call h1 h2); clear h1 h2 W0; rw [HV.out]
 refine hK.out _ _ ?_ (fun hHeld => ?_)
 ·(try dsimp only)
  exact (W1.out.stay.held HGG.out HHD.out).hd4.1
 clear hK K
 (try simp only [Act.put, gA, gB, gC, sA, sB, sC])
 refine tkz 11 ?_
 refine rdz 12 fun K hK => ?_
 go_simp
 refine (vPutA hn 1 u HU.out W1.out.at_).mono ?_; rintro e w2 ⟨rfl, h1, h2⟩; have W2 := hidp (W1.out.call h1 h2); clear h1 h2 W1
 refine hK.out _ _ ?_ (fun hHeld => ?_)
 ·(try dsimp only)
  exact (W2.out.stay.held HGG.out HHD.out).hd4.1
 clear hK K
 (try simp only [Act.put, gA, gB, gC, sA, sB, sC])
 refine dnz ?_
 obtain ⟨x0, x1, x2, x3⟩ := (W2.out.stay.held HGG.out HHD.out).hd4
 go_wp2
 go_end0
 exact ⟨rfl, W2.out.fin⟩

end
end
end Go.Proofs.YtjjfcaliippgpaaGreatDoor

namespace Go.Proofs.YtjjfcaliippgpaaGreatDoor
open Go.ChangeShapes Go.WideShapes Go.ChangeAt Go.RowKit Go.Maps
set_option linter.unusedVariables false
set_option linter.unusedSimpArgs false
section
theorem longs_of_own {w : World} {base : Nat} {u : Value} {l : List Int} (h : w.ownsRow base 2 1 u l.length (lgVs l)) (hb : ∀ z ∈ l, -9223372036854775808 <= z /\ z <= 9223372036854775807) : LongsAt w u l := by
 have hx : ∀ {A : Option Addr} {c : Nat}, u = .slice A l.length c -> A ≠ none -> True := fun _ _ => trivial
 rcases h.2 with ⟨hu, hn⟩ | ⟨g, cap, cur, hu, hbs, hg, hnc, hcm, hr⟩
 ·have hl : l = [] := List.length_eq_zero_iff.1 hn
  subst hl
  exact ⟨none, 0, hu, Nat.le_refl _, Nat.zero_le _, hb, fun _ => ⟨rfl, rfl⟩, fun ad e => by cases e⟩
 ·refine ⟨some ⟨g, 0, none⟩, cap, hu, hnc, hcm, hb, (fun e => by cases e), fun ad e => ?_⟩
  injection e with e
  subst e
  refine ⟨fun _ => (h.lt g (by rw [hu]; rfl)).2, fun i z hz => ?_⟩
  have hi : i < l.length := by
   rcases Nat.lt_or_ge i l.length with h1 | h1
   ·exact h1
   ·rw [List.getElem?_eq_none h1] at hz; cases hz
  subst hu
  have h1 := h.cellAt i (by omega)
  rw [show (⟨g, 0, none⟩ : Addr).add i = ⟨g, i, none⟩ by unfold Addr.add; by_cases h0 : i = 0 <;> simp [h0]]
  rw [h1]
  unfold lgVs
  rw [List.getElem?_map, hz]
  rfl
theorem wpList_append_opt {P : Program} {w : World} {ops : Array Oper} {rest : List Oper} {o : Oper} {a : Act} {Q : Exit -> Act -> World -> Prop} (hgd : o.guard = none) (s x : Operand) (t : TypeId)
  (ho : o.op = .call { callee := .builtin .append, args := #[s, x], argTypes := #[t, t] })
  (base : Nat) (e : TypeId) (i : TypeInfo) (z : Value) (size bytes : Nat) (ht : P.underlying t = some (.slice e)) (hi : P.info? e = some i) (hz : i.zero = some z)
  (hsize : i.size = size) (hby : i.bytes = bytes) (hzs : z.cells.size = size) (hsz : 0 < size)
  (v : Value) (n : Nat) (xs : List Value) (hs : a.eval s = v) (hown : w.ownsRow base e size v n xs)
  (A : Option Addr) (m c : Nat) (news : List Value) (hx : a.eval x = .slice A m c) (hnone : A = none -> m = 0 /\ c = 0) (hl : news.length = m * size) (hnews : ∀ ad, A = some ad -> ∀ j u, news[j]? = some u -> w.cell? (ad.add j) = some u) (h1 : ∀ u ∈ news, u.oneCell' = true)
  (h63 : n + m <= maxLen) (hbytes : (n + m) * bytes <= 140737488355328) (hbase : base <= w.heap.size)
  (h : ∀ v' w', w'.ownsRow base e size v' (n + m) (xs ++ news) -> w.grownBy w' v.ownBlock -> wpList P ops Q rest (a.put o.dst v') w') : wpList P ops Q (o :: rest) a w := by
 cases A with
 | some ad => exact wpList_append_own _ hgd s x t ho base e i z size bytes ht hi hz hsize hby hzs hsz v n xs hs hown ad m c news hx hl (hnews ad rfl) h1 h63 hbytes hbase (fun v' w' g1 g2 _ => h v' w' g1 g2)
 | none =>
  obtain ⟨rfl, rfl⟩ := hnone rfl
  obtain rfl : news = [] := List.length_eq_zero_iff.1 (by omega)
  obtain ⟨A1, c1, rfl⟩ := own_slice hown
  have hcc := own_caps_any hown
  refine wpList_append_none hgd s x t ho e i ht hi A1 n c1 0 hcc.1 hs hx (h _ _ (by rw [List.append_nil]; exact hown) ⟨rfl, rfl, rfl, Nat.le_refl _, fun _ _ _ => rfl⟩)
end
end Go.Proofs.YtjjfcaliippgpaaGreatDoor
