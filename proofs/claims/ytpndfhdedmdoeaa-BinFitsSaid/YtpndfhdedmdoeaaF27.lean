/-
  The document's Check. Written by doc12/gen_doccheck.py.
-/
import Derived.Test.YtpndfhdedmdoeaaDocFeet
import Derived.Test.YtpndfhdedmdoeaaF21
import Derived.Test.YtpndfhdedmdoeaaF22
import Derived.Test.YtpndfhdedmdoeaaDocLoose
import Derived.Test.YtpndfhdedmdoeaaF23
import Derived.Test.YtpndfhdedmdoeaaF26
import Derived.Test.YtpndfhdedmdoeaaF18
import Derived.Test.YtpndfhdedmdoeaaF04
import Derived.Test.YtpndfhdedmdoeaaF17
import Derived.Test.YtpndfhdedmdoeaaF19
namespace Go.Proofs.Ytpndfhdedmdoeaa
open Go.ChangeShapes Go.WideShapes Go.ChangeAt Go.RowKit Go.Shelf
set_option linter.unusedVariables false
set_option linter.unusedSimpArgs false


set_option maxHeartbeats 1600000 in
theorem xCheck_no (t q s : Int) (A : Option Addr) (n c : Nat) (hnc : n ≤ c) (hc : c ≤ maxLen) (h : ¬ (lC t q s ≠ 0 ∧ (n : Int) = lC t q s)) (w : World) :
    Calls Try.prog 58 #[.agg #[.int .i64 t, .int .i64 q, .int .i64 s], .slice A n c] w fun e w' => e = .returned (.tuple #[.int .i64 1, .bool false]) ∧ Below w.heap.size w w' := by
  have HX0 := hidp (Held.new w 23 #[.int .i64 t, .int .i64 q, .int .i64 s])
  obtain ⟨c0, c1, c2⟩ := HX0.out.three
  have HBW := hidp (Bnew (B0 w) (.cells #[.int .i64 t, .int .i64 q, .int .i64 s] 23))
  cases hr : rightB t q s
  · have HRI := hidp hr
    clear hr h
    go_enter Try.func58, Try.ntmps58
    go_wp2_with (first
      | (go_at_call 81; refine (r4Right_c t q s _).mono ?_; rintro e w2 ⟨rfl, hb2⟩; rw [HRI.out]; have HB2 := hidp (Bgo HBW.out hb2); have HX2 := hidp (HX0.out.keep hb2); clear hb2 c0 c1 c2; obtain ⟨c0, c1, c2⟩ := HX2.out.three)
      | fail)
    go_ret2
    exact ⟨rfl, HB2.out⟩
  · have HRI := hidp hr
    have hl0 : lC t q s ≠ 0 := by
      have := (lay_yes hr).5
      have h4 := (rightB_iff t q s).1 hr
      omega
    have hne : ¬ (n : Int) = lC t q s := fun h2 => h ⟨hl0, h2⟩
    obtain ⟨l, hl⟩ : ∃ l, lC t q s = l := ⟨_, rfl⟩
    have HLC := hidp hl
    rw [hl] at hne
    have q0 : ((n : Int) != l) = true := by simpa using hne
    clear hr h hl0 hl hne
    go_enter Try.func58, Try.ntmps58
    go_wp2_with (first
      | (go_at_call 81; refine (r4Right_c t q s _).mono ?_; rintro e w2 ⟨rfl, hb2⟩; rw [HRI.out]; have HB2 := hidp (Bgo HBW.out hb2); have HX2 := hidp (HX0.out.keep hb2); clear hb2 c0 c1 c2; obtain ⟨c0, c1, c2⟩ := HX2.out.three)
      | (go_at_call 82; refine (r7Cells_c t q s _).mono ?_; rintro e w3 ⟨rfl, hb3⟩; rw [HLC.out]; have HB3 := hidp (Bgo HB2.out hb3))
      | fail)
    go_ret2
    exact ⟨rfl, HB3.out⟩


set_option maxHeartbeats 3200000 in
theorem xCheck_1 {H : AuH} {n c : Nat} (HV : HeapV H n c) (ad : Addr) (hr : ∀ i, i < 1 → H.rule i) (hno : ¬ H.rule 1) (w : World) (hv : IsVals w ad n H.V) :
    Calls Try.prog 58 #[.agg #[.int .i64 (H.t : Int), .int .i64 (H.p : Int), .int .i64 (H.s : Int)], .slice (some ad) n c] w fun e w' => e = .returned (.tuple #[.int .i64 2, .bool false]) ∧ Below w.heap.size w w' := by
  have HVL := hidp hv
  have HX0 := hidp (Held.new w 23 #[.int .i64 (H.t : Int), .int .i64 (H.p : Int), .int .i64 (H.s : Int)])
  obtain ⟨c0, c1, c2⟩ := HX0.out.three
  have HBW := hidp (Bnew (B0 w) (.cells #[.int .i64 (H.t : Int), .int .i64 (H.p : Int), .int .i64 (H.s : Int)] 23))
  have HRI := hidp HV.right
  have HLC : Hid (lC H.t H.p H.s = (n : Int)) := hidp (by have := (lay_yes HV.right).5; have := HV.len; omega)
  have HR1 := hidp (fun (W : World) (hv : IsVals W ad n H.V) => xTiles_c HV ad false ⟨fun h => (by cases h), fun h => absurd h hno⟩ W hv)
  have hn := HV.nums
  have hcx : c ≤ 9223372036854775807 := hn.2.2.2.2.2.2.2.2
  have hni : n ≤ 6238 := hn.2.2.2.2.2.2.1
  have hnc := HV.cap
  clear hv hr hno hn
  go_enter Try.func58, Try.ntmps58
  go_wp2_with (first
    | (go_at_call 81; refine (r4Right_c H.t H.p H.s _).mono ?_; rintro e w2 ⟨rfl, hb2⟩; rw [HRI.out]; have HB2 := hidp (Bgo HBW.out hb2); have HX2 := hidp (HX0.out.keep hb2); clear hb2 c0 c1 c2; obtain ⟨c0, c1, c2⟩ := HX2.out.three)
    | (go_at_call 82; refine (r7Cells_c H.t H.p H.s _).mono ?_; rintro e w3 ⟨rfl, hb3⟩; rw [HLC.out]; have HB3 := hidp (Bgo HB2.out hb3); have HX3 := hidp (HX2.out.keep hb3); clear hb3 c0 c1 c2; obtain ⟨c0, c1, c2⟩ := HX3.out.three; obtain ⟨x0, x1, x2, x3⟩ := (Held.new w3 53 #[.int .i64 (H.t : Int), .int .i64 (H.p : Int), .int .i64 (H.s : Int), .slice (some ad) n c]).four)
    | (go_at_call 83; refine (HR1.out _ (HVL.out.below (Bnew HB3.out (.cells #[.int .i64 (H.t : Int), .int .i64 (H.p : Int), .int .i64 (H.s : Int), .slice (some ad) n c] 53)))).mono ?_; rintro e w4 ⟨rfl, hb4⟩; have HB4 := hidp (Bgo (Bnew HB3.out (.cells #[.int .i64 (H.t : Int), .int .i64 (H.p : Int), .int .i64 (H.s : Int), .slice (some ad) n c] 53)) hb4); have HX4 := hidp ((Held.new w3 53 #[.int .i64 (H.t : Int), .int .i64 (H.p : Int), .int .i64 (H.s : Int), .slice (some ad) n c]).keep hb4); clear hb4 x0 x1 x2 x3; obtain ⟨x0, x1, x2, x3⟩ := HX4.out.four)
    | fail)
  go_ret2
  exact ⟨rfl, HB4.out⟩


set_option maxHeartbeats 3200000 in
theorem xCheck_2 {H : AuH} {n c : Nat} (HV : HeapV H n c) (ad : Addr) (hr : ∀ i, i < 2 → H.rule i) (hno : ¬ H.rule 2) (w : World) (hv : IsVals w ad n H.V) :
    Calls Try.prog 58 #[.agg #[.int .i64 (H.t : Int), .int .i64 (H.p : Int), .int .i64 (H.s : Int)], .slice (some ad) n c] w fun e w' => e = .returned (.tuple #[.int .i64 3, .bool false]) ∧ Below w.heap.size w w' := by
  have HVL := hidp hv
  have HX0 := hidp (Held.new w 23 #[.int .i64 (H.t : Int), .int .i64 (H.p : Int), .int .i64 (H.s : Int)])
  obtain ⟨c0, c1, c2⟩ := HX0.out.three
  have HBW := hidp (Bnew (B0 w) (.cells #[.int .i64 (H.t : Int), .int .i64 (H.p : Int), .int .i64 (H.s : Int)] 23))
  have HRI := hidp HV.right
  have HLC : Hid (lC H.t H.p H.s = (n : Int)) := hidp (by have := (lay_yes HV.right).5; have := HV.len; omega)
  have HR1 := hidp (fun (W : World) (hv : IsVals W ad n H.V) => xTiles_c HV ad true ⟨fun _ => hr 1 (by omega), fun _ => rfl⟩ W hv)
  have HR2 := hidp (fun (W : World) (hv : IsVals W ad n H.V) => xFeet_c HV (hr 1 (by omega)) ad false ⟨fun h => (by cases h), fun h => absurd h hno⟩ W hv)
  have hn := HV.nums
  have hcx : c ≤ 9223372036854775807 := hn.2.2.2.2.2.2.2.2
  have hni : n ≤ 6238 := hn.2.2.2.2.2.2.1
  have hnc := HV.cap
  clear hv hr hno hn
  go_enter Try.func58, Try.ntmps58
  go_wp2_with (first
    | (go_at_call 81; refine (r4Right_c H.t H.p H.s _).mono ?_; rintro e w2 ⟨rfl, hb2⟩; rw [HRI.out]; have HB2 := hidp (Bgo HBW.out hb2); have HX2 := hidp (HX0.out.keep hb2); clear hb2 c0 c1 c2; obtain ⟨c0, c1, c2⟩ := HX2.out.three)
    | (go_at_call 82; refine (r7Cells_c H.t H.p H.s _).mono ?_; rintro e w3 ⟨rfl, hb3⟩; rw [HLC.out]; have HB3 := hidp (Bgo HB2.out hb3); have HX3 := hidp (HX2.out.keep hb3); clear hb3 c0 c1 c2; obtain ⟨c0, c1, c2⟩ := HX3.out.three; obtain ⟨x0, x1, x2, x3⟩ := (Held.new w3 53 #[.int .i64 (H.t : Int), .int .i64 (H.p : Int), .int .i64 (H.s : Int), .slice (some ad) n c]).four)
    | (go_at_call 83; refine (HR1.out _ (HVL.out.below (Bnew HB3.out (.cells #[.int .i64 (H.t : Int), .int .i64 (H.p : Int), .int .i64 (H.s : Int), .slice (some ad) n c] 53)))).mono ?_; rintro e w4 ⟨rfl, hb4⟩; have HB4 := hidp (Bgo (Bnew HB3.out (.cells #[.int .i64 (H.t : Int), .int .i64 (H.p : Int), .int .i64 (H.s : Int), .slice (some ad) n c] 53)) hb4); have HX4 := hidp ((Held.new w3 53 #[.int .i64 (H.t : Int), .int .i64 (H.p : Int), .int .i64 (H.s : Int), .slice (some ad) n c]).keep hb4); clear hb4 x0 x1 x2 x3; obtain ⟨x0, x1, x2, x3⟩ := HX4.out.four)
    | (go_at_call 84; refine (HR2.out _ (HVL.out.below HB4.out)).mono ?_; rintro e w5 ⟨rfl, hb5⟩; have HB5 := hidp (Bgo HB4.out hb5); have HX5 := hidp (HX4.out.keep hb5); clear hb5 x0 x1 x2 x3; obtain ⟨x0, x1, x2, x3⟩ := HX5.out.four)
    | fail)
  go_ret2
  exact ⟨rfl, HB5.out⟩


set_option maxHeartbeats 3200000 in
theorem xCheck_3 {H : AuH} {n c : Nat} (HV : HeapV H n c) (ad : Addr) (hr : ∀ i, i < 3 → H.rule i) (hno : ¬ H.rule 3) (w : World) (hv : IsVals w ad n H.V) :
    Calls Try.prog 58 #[.agg #[.int .i64 (H.t : Int), .int .i64 (H.p : Int), .int .i64 (H.s : Int)], .slice (some ad) n c] w fun e w' => e = .returned (.tuple #[.int .i64 4, .bool false]) ∧ Below w.heap.size w w' := by
  have HVL := hidp hv
  have HX0 := hidp (Held.new w 23 #[.int .i64 (H.t : Int), .int .i64 (H.p : Int), .int .i64 (H.s : Int)])
  obtain ⟨c0, c1, c2⟩ := HX0.out.three
  have HBW := hidp (Bnew (B0 w) (.cells #[.int .i64 (H.t : Int), .int .i64 (H.p : Int), .int .i64 (H.s : Int)] 23))
  have HRI := hidp HV.right
  have HLC : Hid (lC H.t H.p H.s = (n : Int)) := hidp (by have := (lay_yes HV.right).5; have := HV.len; omega)
  have HR1 := hidp (fun (W : World) (hv : IsVals W ad n H.V) => xTiles_c HV ad true ⟨fun _ => hr 1 (by omega), fun _ => rfl⟩ W hv)
  have HR2 := hidp (fun (W : World) (hv : IsVals W ad n H.V) => xFeet_c HV (hr 1 (by omega)) ad true ⟨fun _ => hr 2 (by omega), fun _ => rfl⟩ W hv)
  have HR3 := hidp (fun (W : World) (hv : IsVals W ad n H.V) => xApart_c HV (hr 1 (by omega)) ad false ⟨fun h => (by cases h), fun h => absurd h hno⟩ W hv)
  have hn := HV.nums
  have hcx : c ≤ 9223372036854775807 := hn.2.2.2.2.2.2.2.2
  have hni : n ≤ 6238 := hn.2.2.2.2.2.2.1
  have hnc := HV.cap
  clear hv hr hno hn
  go_enter Try.func58, Try.ntmps58
  go_wp2_with (first
    | (go_at_call 81; refine (r4Right_c H.t H.p H.s _).mono ?_; rintro e w2 ⟨rfl, hb2⟩; rw [HRI.out]; have HB2 := hidp (Bgo HBW.out hb2); have HX2 := hidp (HX0.out.keep hb2); clear hb2 c0 c1 c2; obtain ⟨c0, c1, c2⟩ := HX2.out.three)
    | (go_at_call 82; refine (r7Cells_c H.t H.p H.s _).mono ?_; rintro e w3 ⟨rfl, hb3⟩; rw [HLC.out]; have HB3 := hidp (Bgo HB2.out hb3); have HX3 := hidp (HX2.out.keep hb3); clear hb3 c0 c1 c2; obtain ⟨c0, c1, c2⟩ := HX3.out.three; obtain ⟨x0, x1, x2, x3⟩ := (Held.new w3 53 #[.int .i64 (H.t : Int), .int .i64 (H.p : Int), .int .i64 (H.s : Int), .slice (some ad) n c]).four)
    | (go_at_call 83; refine (HR1.out _ (HVL.out.below (Bnew HB3.out (.cells #[.int .i64 (H.t : Int), .int .i64 (H.p : Int), .int .i64 (H.s : Int), .slice (some ad) n c] 53)))).mono ?_; rintro e w4 ⟨rfl, hb4⟩; have HB4 := hidp (Bgo (Bnew HB3.out (.cells #[.int .i64 (H.t : Int), .int .i64 (H.p : Int), .int .i64 (H.s : Int), .slice (some ad) n c] 53)) hb4); have HX4 := hidp ((Held.new w3 53 #[.int .i64 (H.t : Int), .int .i64 (H.p : Int), .int .i64 (H.s : Int), .slice (some ad) n c]).keep hb4); clear hb4 x0 x1 x2 x3; obtain ⟨x0, x1, x2, x3⟩ := HX4.out.four)
    | (go_at_call 84; refine (HR2.out _ (HVL.out.below HB4.out)).mono ?_; rintro e w5 ⟨rfl, hb5⟩; have HB5 := hidp (Bgo HB4.out hb5); have HX5 := hidp (HX4.out.keep hb5); clear hb5 x0 x1 x2 x3; obtain ⟨x0, x1, x2, x3⟩ := HX5.out.four)
    | (go_at_call 85; refine (HR3.out _ (HVL.out.below HB5.out)).mono ?_; rintro e w6 ⟨rfl, hb6⟩; have HB6 := hidp (Bgo HB5.out hb6); have HX6 := hidp (HX5.out.keep hb6); clear hb6 x0 x1 x2 x3; obtain ⟨x0, x1, x2, x3⟩ := HX6.out.four)
    | fail)
  go_ret2
  exact ⟨rfl, HB6.out⟩


set_option maxHeartbeats 3200000 in
theorem xCheck_4 {H : AuH} {n c : Nat} (HV : HeapV H n c) (ad : Addr) (hr : ∀ i, i < 4 → H.rule i) (hno : ¬ H.rule 4) (w : World) (hv : IsVals w ad n H.V) :
    Calls Try.prog 58 #[.agg #[.int .i64 (H.t : Int), .int .i64 (H.p : Int), .int .i64 (H.s : Int)], .slice (some ad) n c] w fun e w' => e = .returned (.tuple #[.int .i64 5, .bool false]) ∧ Below w.heap.size w w' := by
  have HVL := hidp hv
  have HX0 := hidp (Held.new w 23 #[.int .i64 (H.t : Int), .int .i64 (H.p : Int), .int .i64 (H.s : Int)])
  obtain ⟨c0, c1, c2⟩ := HX0.out.three
  have HBW := hidp (Bnew (B0 w) (.cells #[.int .i64 (H.t : Int), .int .i64 (H.p : Int), .int .i64 (H.s : Int)] 23))
  have HRI := hidp HV.right
  have HLC : Hid (lC H.t H.p H.s = (n : Int)) := hidp (by have := (lay_yes HV.right).5; have := HV.len; omega)
  have HR1 := hidp (fun (W : World) (hv : IsVals W ad n H.V) => xTiles_c HV ad true ⟨fun _ => hr 1 (by omega), fun _ => rfl⟩ W hv)
  have HR2 := hidp (fun (W : World) (hv : IsVals W ad n H.V) => xFeet_c HV (hr 1 (by omega)) ad true ⟨fun _ => hr 2 (by omega), fun _ => rfl⟩ W hv)
  have HR3 := hidp (fun (W : World) (hv : IsVals W ad n H.V) => xApart_c HV (hr 1 (by omega)) ad true ⟨fun _ => hr 3 (by omega), fun _ => rfl⟩ W hv)
  have HR4 := hidp (fun (W : World) (hv : IsVals W ad n H.V) => xSlots5_c HV ad false ⟨fun h => (by cases h), fun h => absurd h hno⟩ W hv)
  have hn := HV.nums
  have hcx : c ≤ 9223372036854775807 := hn.2.2.2.2.2.2.2.2
  have hni : n ≤ 6238 := hn.2.2.2.2.2.2.1
  have hnc := HV.cap
  clear hv hr hno hn
  go_enter Try.func58, Try.ntmps58
  go_wp2_with (first
    | (go_at_call 81; refine (r4Right_c H.t H.p H.s _).mono ?_; rintro e w2 ⟨rfl, hb2⟩; rw [HRI.out]; have HB2 := hidp (Bgo HBW.out hb2); have HX2 := hidp (HX0.out.keep hb2); clear hb2 c0 c1 c2; obtain ⟨c0, c1, c2⟩ := HX2.out.three)
    | (go_at_call 82; refine (r7Cells_c H.t H.p H.s _).mono ?_; rintro e w3 ⟨rfl, hb3⟩; rw [HLC.out]; have HB3 := hidp (Bgo HB2.out hb3); have HX3 := hidp (HX2.out.keep hb3); clear hb3 c0 c1 c2; obtain ⟨c0, c1, c2⟩ := HX3.out.three; obtain ⟨x0, x1, x2, x3⟩ := (Held.new w3 53 #[.int .i64 (H.t : Int), .int .i64 (H.p : Int), .int .i64 (H.s : Int), .slice (some ad) n c]).four)
    | (go_at_call 83; refine (HR1.out _ (HVL.out.below (Bnew HB3.out (.cells #[.int .i64 (H.t : Int), .int .i64 (H.p : Int), .int .i64 (H.s : Int), .slice (some ad) n c] 53)))).mono ?_; rintro e w4 ⟨rfl, hb4⟩; have HB4 := hidp (Bgo (Bnew HB3.out (.cells #[.int .i64 (H.t : Int), .int .i64 (H.p : Int), .int .i64 (H.s : Int), .slice (some ad) n c] 53)) hb4); have HX4 := hidp ((Held.new w3 53 #[.int .i64 (H.t : Int), .int .i64 (H.p : Int), .int .i64 (H.s : Int), .slice (some ad) n c]).keep hb4); clear hb4 x0 x1 x2 x3; obtain ⟨x0, x1, x2, x3⟩ := HX4.out.four)
    | (go_at_call 84; refine (HR2.out _ (HVL.out.below HB4.out)).mono ?_; rintro e w5 ⟨rfl, hb5⟩; have HB5 := hidp (Bgo HB4.out hb5); have HX5 := hidp (HX4.out.keep hb5); clear hb5 x0 x1 x2 x3; obtain ⟨x0, x1, x2, x3⟩ := HX5.out.four)
    | (go_at_call 85; refine (HR3.out _ (HVL.out.below HB5.out)).mono ?_; rintro e w6 ⟨rfl, hb6⟩; have HB6 := hidp (Bgo HB5.out hb6); have HX6 := hidp (HX5.out.keep hb6); clear hb6 x0 x1 x2 x3; obtain ⟨x0, x1, x2, x3⟩ := HX6.out.four)
    | (go_at_call 86; refine (HR4.out _ (HVL.out.below HB6.out)).mono ?_; rintro e w7 ⟨rfl, hb7⟩; have HB7 := hidp (Bgo HB6.out hb7); have HX7 := hidp (HX6.out.keep hb7); clear hb7 x0 x1 x2 x3; obtain ⟨x0, x1, x2, x3⟩ := HX7.out.four)
    | fail)
  go_ret2
  exact ⟨rfl, HB7.out⟩


set_option maxHeartbeats 3200000 in
theorem xCheck_5 {H : AuH} {n c : Nat} (HV : HeapV H n c) (ad : Addr) (hr : ∀ i, i < 5 → H.rule i) (hno : ¬ H.rule 5) (w : World) (hv : IsVals w ad n H.V) :
    Calls Try.prog 58 #[.agg #[.int .i64 (H.t : Int), .int .i64 (H.p : Int), .int .i64 (H.s : Int)], .slice (some ad) n c] w fun e w' => e = .returned (.tuple #[.int .i64 6, .bool false]) ∧ Below w.heap.size w w' := by
  have HVL := hidp hv
  have HX0 := hidp (Held.new w 23 #[.int .i64 (H.t : Int), .int .i64 (H.p : Int), .int .i64 (H.s : Int)])
  obtain ⟨c0, c1, c2⟩ := HX0.out.three
  have HBW := hidp (Bnew (B0 w) (.cells #[.int .i64 (H.t : Int), .int .i64 (H.p : Int), .int .i64 (H.s : Int)] 23))
  have HRI := hidp HV.right
  have HLC : Hid (lC H.t H.p H.s = (n : Int)) := hidp (by have := (lay_yes HV.right).5; have := HV.len; omega)
  have HR1 := hidp (fun (W : World) (hv : IsVals W ad n H.V) => xTiles_c HV ad true ⟨fun _ => hr 1 (by omega), fun _ => rfl⟩ W hv)
  have HR2 := hidp (fun (W : World) (hv : IsVals W ad n H.V) => xFeet_c HV (hr 1 (by omega)) ad true ⟨fun _ => hr 2 (by omega), fun _ => rfl⟩ W hv)
  have HR3 := hidp (fun (W : World) (hv : IsVals W ad n H.V) => xApart_c HV (hr 1 (by omega)) ad true ⟨fun _ => hr 3 (by omega), fun _ => rfl⟩ W hv)
  have HR4 := hidp (fun (W : World) (hv : IsVals W ad n H.V) => xSlots5_c HV ad true ⟨fun _ => hr 4 (by omega), fun _ => rfl⟩ W hv)
  have HR5 := hidp (fun (W : World) (hv : IsVals W ad n H.V) => xBins_c HV ad false ⟨fun h => (by cases h), fun h => absurd h hno⟩ W hv)
  have hn := HV.nums
  have hcx : c ≤ 9223372036854775807 := hn.2.2.2.2.2.2.2.2
  have hni : n ≤ 6238 := hn.2.2.2.2.2.2.1
  have hnc := HV.cap
  clear hv hr hno hn
  go_enter Try.func58, Try.ntmps58
  go_wp2_with (first
    | (go_at_call 81; refine (r4Right_c H.t H.p H.s _).mono ?_; rintro e w2 ⟨rfl, hb2⟩; rw [HRI.out]; have HB2 := hidp (Bgo HBW.out hb2); have HX2 := hidp (HX0.out.keep hb2); clear hb2 c0 c1 c2; obtain ⟨c0, c1, c2⟩ := HX2.out.three)
    | (go_at_call 82; refine (r7Cells_c H.t H.p H.s _).mono ?_; rintro e w3 ⟨rfl, hb3⟩; rw [HLC.out]; have HB3 := hidp (Bgo HB2.out hb3); have HX3 := hidp (HX2.out.keep hb3); clear hb3 c0 c1 c2; obtain ⟨c0, c1, c2⟩ := HX3.out.three; obtain ⟨x0, x1, x2, x3⟩ := (Held.new w3 53 #[.int .i64 (H.t : Int), .int .i64 (H.p : Int), .int .i64 (H.s : Int), .slice (some ad) n c]).four)
    | (go_at_call 83; refine (HR1.out _ (HVL.out.below (Bnew HB3.out (.cells #[.int .i64 (H.t : Int), .int .i64 (H.p : Int), .int .i64 (H.s : Int), .slice (some ad) n c] 53)))).mono ?_; rintro e w4 ⟨rfl, hb4⟩; have HB4 := hidp (Bgo (Bnew HB3.out (.cells #[.int .i64 (H.t : Int), .int .i64 (H.p : Int), .int .i64 (H.s : Int), .slice (some ad) n c] 53)) hb4); have HX4 := hidp ((Held.new w3 53 #[.int .i64 (H.t : Int), .int .i64 (H.p : Int), .int .i64 (H.s : Int), .slice (some ad) n c]).keep hb4); clear hb4 x0 x1 x2 x3; obtain ⟨x0, x1, x2, x3⟩ := HX4.out.four)
    | (go_at_call 84; refine (HR2.out _ (HVL.out.below HB4.out)).mono ?_; rintro e w5 ⟨rfl, hb5⟩; have HB5 := hidp (Bgo HB4.out hb5); have HX5 := hidp (HX4.out.keep hb5); clear hb5 x0 x1 x2 x3; obtain ⟨x0, x1, x2, x3⟩ := HX5.out.four)
    | (go_at_call 85; refine (HR3.out _ (HVL.out.below HB5.out)).mono ?_; rintro e w6 ⟨rfl, hb6⟩; have HB6 := hidp (Bgo HB5.out hb6); have HX6 := hidp (HX5.out.keep hb6); clear hb6 x0 x1 x2 x3; obtain ⟨x0, x1, x2, x3⟩ := HX6.out.four)
    | (go_at_call 86; refine (HR4.out _ (HVL.out.below HB6.out)).mono ?_; rintro e w7 ⟨rfl, hb7⟩; have HB7 := hidp (Bgo HB6.out hb7); have HX7 := hidp (HX6.out.keep hb7); clear hb7 x0 x1 x2 x3; obtain ⟨x0, x1, x2, x3⟩ := HX7.out.four)
    | (go_at_call 87; refine (HR5.out _ (HVL.out.below HB7.out)).mono ?_; rintro e w8 ⟨rfl, hb8⟩; have HB8 := hidp (Bgo HB7.out hb8); have HX8 := hidp (HX7.out.keep hb8); clear hb8 x0 x1 x2 x3; obtain ⟨x0, x1, x2, x3⟩ := HX8.out.four)
    | fail)
  go_ret2
  exact ⟨rfl, HB8.out⟩


set_option maxHeartbeats 3200000 in
theorem xCheck_6 {H : AuH} {n c : Nat} (HV : HeapV H n c) (ad : Addr) (hr : ∀ i, i < 6 → H.rule i) (hno : ¬ H.rule 6) (w : World) (hv : IsVals w ad n H.V) :
    Calls Try.prog 58 #[.agg #[.int .i64 (H.t : Int), .int .i64 (H.p : Int), .int .i64 (H.s : Int)], .slice (some ad) n c] w fun e w' => e = .returned (.tuple #[.int .i64 7, .bool false]) ∧ Below w.heap.size w w' := by
  have HVL := hidp hv
  have HX0 := hidp (Held.new w 23 #[.int .i64 (H.t : Int), .int .i64 (H.p : Int), .int .i64 (H.s : Int)])
  obtain ⟨c0, c1, c2⟩ := HX0.out.three
  have HBW := hidp (Bnew (B0 w) (.cells #[.int .i64 (H.t : Int), .int .i64 (H.p : Int), .int .i64 (H.s : Int)] 23))
  have HRI := hidp HV.right
  have HLC : Hid (lC H.t H.p H.s = (n : Int)) := hidp (by have := (lay_yes HV.right).5; have := HV.len; omega)
  have HR1 := hidp (fun (W : World) (hv : IsVals W ad n H.V) => xTiles_c HV ad true ⟨fun _ => hr 1 (by omega), fun _ => rfl⟩ W hv)
  have HR2 := hidp (fun (W : World) (hv : IsVals W ad n H.V) => xFeet_c HV (hr 1 (by omega)) ad true ⟨fun _ => hr 2 (by omega), fun _ => rfl⟩ W hv)
  have HR3 := hidp (fun (W : World) (hv : IsVals W ad n H.V) => xApart_c HV (hr 1 (by omega)) ad true ⟨fun _ => hr 3 (by omega), fun _ => rfl⟩ W hv)
  have HR4 := hidp (fun (W : World) (hv : IsVals W ad n H.V) => xSlots5_c HV ad true ⟨fun _ => hr 4 (by omega), fun _ => rfl⟩ W hv)
  have HR5 := hidp (fun (W : World) (hv : IsVals W ad n H.V) => xBins_c HV ad true ⟨fun _ => hr 5 (by omega), fun _ => rfl⟩ W hv)
  have HR6 := hidp (fun (W : World) (hv : IsVals W ad n H.V) => xRacks_c HV (hr 4 (by omega)) ad false ⟨fun h => (by cases h), fun h => absurd h hno⟩ W hv)
  have hn := HV.nums
  have hcx : c ≤ 9223372036854775807 := hn.2.2.2.2.2.2.2.2
  have hni : n ≤ 6238 := hn.2.2.2.2.2.2.1
  have hnc := HV.cap
  clear hv hr hno hn
  go_enter Try.func58, Try.ntmps58
  go_wp2_with (first
    | (go_at_call 81; refine (r4Right_c H.t H.p H.s _).mono ?_; rintro e w2 ⟨rfl, hb2⟩; rw [HRI.out]; have HB2 := hidp (Bgo HBW.out hb2); have HX2 := hidp (HX0.out.keep hb2); clear hb2 c0 c1 c2; obtain ⟨c0, c1, c2⟩ := HX2.out.three)
    | (go_at_call 82; refine (r7Cells_c H.t H.p H.s _).mono ?_; rintro e w3 ⟨rfl, hb3⟩; rw [HLC.out]; have HB3 := hidp (Bgo HB2.out hb3); have HX3 := hidp (HX2.out.keep hb3); clear hb3 c0 c1 c2; obtain ⟨c0, c1, c2⟩ := HX3.out.three; obtain ⟨x0, x1, x2, x3⟩ := (Held.new w3 53 #[.int .i64 (H.t : Int), .int .i64 (H.p : Int), .int .i64 (H.s : Int), .slice (some ad) n c]).four)
    | (go_at_call 83; refine (HR1.out _ (HVL.out.below (Bnew HB3.out (.cells #[.int .i64 (H.t : Int), .int .i64 (H.p : Int), .int .i64 (H.s : Int), .slice (some ad) n c] 53)))).mono ?_; rintro e w4 ⟨rfl, hb4⟩; have HB4 := hidp (Bgo (Bnew HB3.out (.cells #[.int .i64 (H.t : Int), .int .i64 (H.p : Int), .int .i64 (H.s : Int), .slice (some ad) n c] 53)) hb4); have HX4 := hidp ((Held.new w3 53 #[.int .i64 (H.t : Int), .int .i64 (H.p : Int), .int .i64 (H.s : Int), .slice (some ad) n c]).keep hb4); clear hb4 x0 x1 x2 x3; obtain ⟨x0, x1, x2, x3⟩ := HX4.out.four)
    | (go_at_call 84; refine (HR2.out _ (HVL.out.below HB4.out)).mono ?_; rintro e w5 ⟨rfl, hb5⟩; have HB5 := hidp (Bgo HB4.out hb5); have HX5 := hidp (HX4.out.keep hb5); clear hb5 x0 x1 x2 x3; obtain ⟨x0, x1, x2, x3⟩ := HX5.out.four)
    | (go_at_call 85; refine (HR3.out _ (HVL.out.below HB5.out)).mono ?_; rintro e w6 ⟨rfl, hb6⟩; have HB6 := hidp (Bgo HB5.out hb6); have HX6 := hidp (HX5.out.keep hb6); clear hb6 x0 x1 x2 x3; obtain ⟨x0, x1, x2, x3⟩ := HX6.out.four)
    | (go_at_call 86; refine (HR4.out _ (HVL.out.below HB6.out)).mono ?_; rintro e w7 ⟨rfl, hb7⟩; have HB7 := hidp (Bgo HB6.out hb7); have HX7 := hidp (HX6.out.keep hb7); clear hb7 x0 x1 x2 x3; obtain ⟨x0, x1, x2, x3⟩ := HX7.out.four)
    | (go_at_call 87; refine (HR5.out _ (HVL.out.below HB7.out)).mono ?_; rintro e w8 ⟨rfl, hb8⟩; have HB8 := hidp (Bgo HB7.out hb8); have HX8 := hidp (HX7.out.keep hb8); clear hb8 x0 x1 x2 x3; obtain ⟨x0, x1, x2, x3⟩ := HX8.out.four)
    | (go_at_call 88; refine (HR6.out _ (HVL.out.below HB8.out)).mono ?_; rintro e w9 ⟨rfl, hb9⟩; have HB9 := hidp (Bgo HB8.out hb9); have HX9 := hidp (HX8.out.keep hb9); clear hb9 x0 x1 x2 x3; obtain ⟨x0, x1, x2, x3⟩ := HX9.out.four)
    | fail)
  go_ret2
  exact ⟨rfl, HB9.out⟩


set_option maxHeartbeats 3200000 in
theorem xCheck_7 {H : AuH} {n c : Nat} (HV : HeapV H n c) (ad : Addr) (hr : ∀ i, i < 7 → H.rule i) (hno : ¬ H.rule 7) (w : World) (hv : IsVals w ad n H.V) :
    Calls Try.prog 58 #[.agg #[.int .i64 (H.t : Int), .int .i64 (H.p : Int), .int .i64 (H.s : Int)], .slice (some ad) n c] w fun e w' => e = .returned (.tuple #[.int .i64 8, .bool false]) ∧ Below w.heap.size w w' := by
  have HVL := hidp hv
  have HX0 := hidp (Held.new w 23 #[.int .i64 (H.t : Int), .int .i64 (H.p : Int), .int .i64 (H.s : Int)])
  obtain ⟨c0, c1, c2⟩ := HX0.out.three
  have HBW := hidp (Bnew (B0 w) (.cells #[.int .i64 (H.t : Int), .int .i64 (H.p : Int), .int .i64 (H.s : Int)] 23))
  have HRI := hidp HV.right
  have HLC : Hid (lC H.t H.p H.s = (n : Int)) := hidp (by have := (lay_yes HV.right).5; have := HV.len; omega)
  have HR1 := hidp (fun (W : World) (hv : IsVals W ad n H.V) => xTiles_c HV ad true ⟨fun _ => hr 1 (by omega), fun _ => rfl⟩ W hv)
  have HR2 := hidp (fun (W : World) (hv : IsVals W ad n H.V) => xFeet_c HV (hr 1 (by omega)) ad true ⟨fun _ => hr 2 (by omega), fun _ => rfl⟩ W hv)
  have HR3 := hidp (fun (W : World) (hv : IsVals W ad n H.V) => xApart_c HV (hr 1 (by omega)) ad true ⟨fun _ => hr 3 (by omega), fun _ => rfl⟩ W hv)
  have HR4 := hidp (fun (W : World) (hv : IsVals W ad n H.V) => xSlots5_c HV ad true ⟨fun _ => hr 4 (by omega), fun _ => rfl⟩ W hv)
  have HR5 := hidp (fun (W : World) (hv : IsVals W ad n H.V) => xBins_c HV ad true ⟨fun _ => hr 5 (by omega), fun _ => rfl⟩ W hv)
  have HR6 := hidp (fun (W : World) (hv : IsVals W ad n H.V) => xRacks_c HV (hr 4 (by omega)) ad true ⟨fun _ => hr 6 (by omega), fun _ => rfl⟩ W hv)
  have HR7 := hidp (fun (W : World) (hv : IsVals W ad n H.V) => xLoose_c HV (hr 4 (by omega)) ad false ⟨fun h => (by cases h), fun h => absurd h hno⟩ W hv)
  have hn := HV.nums
  have hcx : c ≤ 9223372036854775807 := hn.2.2.2.2.2.2.2.2
  have hni : n ≤ 6238 := hn.2.2.2.2.2.2.1
  have hnc := HV.cap
  clear hv hr hno hn
  go_enter Try.func58, Try.ntmps58
  go_wp2_with (first
    | (go_at_call 81; refine (r4Right_c H.t H.p H.s _).mono ?_; rintro e w2 ⟨rfl, hb2⟩; rw [HRI.out]; have HB2 := hidp (Bgo HBW.out hb2); have HX2 := hidp (HX0.out.keep hb2); clear hb2 c0 c1 c2; obtain ⟨c0, c1, c2⟩ := HX2.out.three)
    | (go_at_call 82; refine (r7Cells_c H.t H.p H.s _).mono ?_; rintro e w3 ⟨rfl, hb3⟩; rw [HLC.out]; have HB3 := hidp (Bgo HB2.out hb3); have HX3 := hidp (HX2.out.keep hb3); clear hb3 c0 c1 c2; obtain ⟨c0, c1, c2⟩ := HX3.out.three; obtain ⟨x0, x1, x2, x3⟩ := (Held.new w3 53 #[.int .i64 (H.t : Int), .int .i64 (H.p : Int), .int .i64 (H.s : Int), .slice (some ad) n c]).four)
    | (go_at_call 83; refine (HR1.out _ (HVL.out.below (Bnew HB3.out (.cells #[.int .i64 (H.t : Int), .int .i64 (H.p : Int), .int .i64 (H.s : Int), .slice (some ad) n c] 53)))).mono ?_; rintro e w4 ⟨rfl, hb4⟩; have HB4 := hidp (Bgo (Bnew HB3.out (.cells #[.int .i64 (H.t : Int), .int .i64 (H.p : Int), .int .i64 (H.s : Int), .slice (some ad) n c] 53)) hb4); have HX4 := hidp ((Held.new w3 53 #[.int .i64 (H.t : Int), .int .i64 (H.p : Int), .int .i64 (H.s : Int), .slice (some ad) n c]).keep hb4); clear hb4 x0 x1 x2 x3; obtain ⟨x0, x1, x2, x3⟩ := HX4.out.four)
    | (go_at_call 84; refine (HR2.out _ (HVL.out.below HB4.out)).mono ?_; rintro e w5 ⟨rfl, hb5⟩; have HB5 := hidp (Bgo HB4.out hb5); have HX5 := hidp (HX4.out.keep hb5); clear hb5 x0 x1 x2 x3; obtain ⟨x0, x1, x2, x3⟩ := HX5.out.four)
    | (go_at_call 85; refine (HR3.out _ (HVL.out.below HB5.out)).mono ?_; rintro e w6 ⟨rfl, hb6⟩; have HB6 := hidp (Bgo HB5.out hb6); have HX6 := hidp (HX5.out.keep hb6); clear hb6 x0 x1 x2 x3; obtain ⟨x0, x1, x2, x3⟩ := HX6.out.four)
    | (go_at_call 86; refine (HR4.out _ (HVL.out.below HB6.out)).mono ?_; rintro e w7 ⟨rfl, hb7⟩; have HB7 := hidp (Bgo HB6.out hb7); have HX7 := hidp (HX6.out.keep hb7); clear hb7 x0 x1 x2 x3; obtain ⟨x0, x1, x2, x3⟩ := HX7.out.four)
    | (go_at_call 87; refine (HR5.out _ (HVL.out.below HB7.out)).mono ?_; rintro e w8 ⟨rfl, hb8⟩; have HB8 := hidp (Bgo HB7.out hb8); have HX8 := hidp (HX7.out.keep hb8); clear hb8 x0 x1 x2 x3; obtain ⟨x0, x1, x2, x3⟩ := HX8.out.four)
    | (go_at_call 88; refine (HR6.out _ (HVL.out.below HB8.out)).mono ?_; rintro e w9 ⟨rfl, hb9⟩; have HB9 := hidp (Bgo HB8.out hb9); have HX9 := hidp (HX8.out.keep hb9); clear hb9 x0 x1 x2 x3; obtain ⟨x0, x1, x2, x3⟩ := HX9.out.four)
    | (go_at_call 89; refine (HR7.out _ (HVL.out.below HB9.out)).mono ?_; rintro e w10 ⟨rfl, hb10⟩; have HB10 := hidp (Bgo HB9.out hb10); have HX10 := hidp (HX9.out.keep hb10); clear hb10 x0 x1 x2 x3; obtain ⟨x0, x1, x2, x3⟩ := HX10.out.four)
    | fail)
  go_ret2
  exact ⟨rfl, HB10.out⟩


set_option maxHeartbeats 3200000 in
theorem xCheck_8 {H : AuH} {n c : Nat} (HV : HeapV H n c) (ad : Addr) (hr : ∀ i, i < 8 → H.rule i) (hno : ¬ H.rule 8) (w : World) (hv : IsVals w ad n H.V) :
    Calls Try.prog 58 #[.agg #[.int .i64 (H.t : Int), .int .i64 (H.p : Int), .int .i64 (H.s : Int)], .slice (some ad) n c] w fun e w' => e = .returned (.tuple #[.int .i64 9, .bool false]) ∧ Below w.heap.size w w' := by
  have HVL := hidp hv
  have HX0 := hidp (Held.new w 23 #[.int .i64 (H.t : Int), .int .i64 (H.p : Int), .int .i64 (H.s : Int)])
  obtain ⟨c0, c1, c2⟩ := HX0.out.three
  have HBW := hidp (Bnew (B0 w) (.cells #[.int .i64 (H.t : Int), .int .i64 (H.p : Int), .int .i64 (H.s : Int)] 23))
  have HRI := hidp HV.right
  have HLC : Hid (lC H.t H.p H.s = (n : Int)) := hidp (by have := (lay_yes HV.right).5; have := HV.len; omega)
  have HR1 := hidp (fun (W : World) (hv : IsVals W ad n H.V) => xTiles_c HV ad true ⟨fun _ => hr 1 (by omega), fun _ => rfl⟩ W hv)
  have HR2 := hidp (fun (W : World) (hv : IsVals W ad n H.V) => xFeet_c HV (hr 1 (by omega)) ad true ⟨fun _ => hr 2 (by omega), fun _ => rfl⟩ W hv)
  have HR3 := hidp (fun (W : World) (hv : IsVals W ad n H.V) => xApart_c HV (hr 1 (by omega)) ad true ⟨fun _ => hr 3 (by omega), fun _ => rfl⟩ W hv)
  have HR4 := hidp (fun (W : World) (hv : IsVals W ad n H.V) => xSlots5_c HV ad true ⟨fun _ => hr 4 (by omega), fun _ => rfl⟩ W hv)
  have HR5 := hidp (fun (W : World) (hv : IsVals W ad n H.V) => xBins_c HV ad true ⟨fun _ => hr 5 (by omega), fun _ => rfl⟩ W hv)
  have HR6 := hidp (fun (W : World) (hv : IsVals W ad n H.V) => xRacks_c HV (hr 4 (by omega)) ad true ⟨fun _ => hr 6 (by omega), fun _ => rfl⟩ W hv)
  have HR7 := hidp (fun (W : World) (hv : IsVals W ad n H.V) => xLoose_c HV (hr 4 (by omega)) ad true ⟨fun _ => hr 7 (by omega), fun _ => rfl⟩ W hv)
  have HR8 := hidp (fun (W : World) (hv : IsVals W ad n H.V) => xCounts_c HV (hr 4 (by omega)) ad false ⟨fun h => (by cases h), fun h => absurd h hno⟩ W hv)
  have hn := HV.nums
  have hcx : c ≤ 9223372036854775807 := hn.2.2.2.2.2.2.2.2
  have hni : n ≤ 6238 := hn.2.2.2.2.2.2.1
  have hnc := HV.cap
  clear hv hr hno hn
  go_enter Try.func58, Try.ntmps58
  go_wp2_with (first
    | (go_at_call 81; refine (r4Right_c H.t H.p H.s _).mono ?_; rintro e w2 ⟨rfl, hb2⟩; rw [HRI.out]; have HB2 := hidp (Bgo HBW.out hb2); have HX2 := hidp (HX0.out.keep hb2); clear hb2 c0 c1 c2; obtain ⟨c0, c1, c2⟩ := HX2.out.three)
    | (go_at_call 82; refine (r7Cells_c H.t H.p H.s _).mono ?_; rintro e w3 ⟨rfl, hb3⟩; rw [HLC.out]; have HB3 := hidp (Bgo HB2.out hb3); have HX3 := hidp (HX2.out.keep hb3); clear hb3 c0 c1 c2; obtain ⟨c0, c1, c2⟩ := HX3.out.three; obtain ⟨x0, x1, x2, x3⟩ := (Held.new w3 53 #[.int .i64 (H.t : Int), .int .i64 (H.p : Int), .int .i64 (H.s : Int), .slice (some ad) n c]).four)
    | (go_at_call 83; refine (HR1.out _ (HVL.out.below (Bnew HB3.out (.cells #[.int .i64 (H.t : Int), .int .i64 (H.p : Int), .int .i64 (H.s : Int), .slice (some ad) n c] 53)))).mono ?_; rintro e w4 ⟨rfl, hb4⟩; have HB4 := hidp (Bgo (Bnew HB3.out (.cells #[.int .i64 (H.t : Int), .int .i64 (H.p : Int), .int .i64 (H.s : Int), .slice (some ad) n c] 53)) hb4); have HX4 := hidp ((Held.new w3 53 #[.int .i64 (H.t : Int), .int .i64 (H.p : Int), .int .i64 (H.s : Int), .slice (some ad) n c]).keep hb4); clear hb4 x0 x1 x2 x3; obtain ⟨x0, x1, x2, x3⟩ := HX4.out.four)
    | (go_at_call 84; refine (HR2.out _ (HVL.out.below HB4.out)).mono ?_; rintro e w5 ⟨rfl, hb5⟩; have HB5 := hidp (Bgo HB4.out hb5); have HX5 := hidp (HX4.out.keep hb5); clear hb5 x0 x1 x2 x3; obtain ⟨x0, x1, x2, x3⟩ := HX5.out.four)
    | (go_at_call 85; refine (HR3.out _ (HVL.out.below HB5.out)).mono ?_; rintro e w6 ⟨rfl, hb6⟩; have HB6 := hidp (Bgo HB5.out hb6); have HX6 := hidp (HX5.out.keep hb6); clear hb6 x0 x1 x2 x3; obtain ⟨x0, x1, x2, x3⟩ := HX6.out.four)
    | (go_at_call 86; refine (HR4.out _ (HVL.out.below HB6.out)).mono ?_; rintro e w7 ⟨rfl, hb7⟩; have HB7 := hidp (Bgo HB6.out hb7); have HX7 := hidp (HX6.out.keep hb7); clear hb7 x0 x1 x2 x3; obtain ⟨x0, x1, x2, x3⟩ := HX7.out.four)
    | (go_at_call 87; refine (HR5.out _ (HVL.out.below HB7.out)).mono ?_; rintro e w8 ⟨rfl, hb8⟩; have HB8 := hidp (Bgo HB7.out hb8); have HX8 := hidp (HX7.out.keep hb8); clear hb8 x0 x1 x2 x3; obtain ⟨x0, x1, x2, x3⟩ := HX8.out.four)
    | (go_at_call 88; refine (HR6.out _ (HVL.out.below HB8.out)).mono ?_; rintro e w9 ⟨rfl, hb9⟩; have HB9 := hidp (Bgo HB8.out hb9); have HX9 := hidp (HX8.out.keep hb9); clear hb9 x0 x1 x2 x3; obtain ⟨x0, x1, x2, x3⟩ := HX9.out.four)
    | (go_at_call 89; refine (HR7.out _ (HVL.out.below HB9.out)).mono ?_; rintro e w10 ⟨rfl, hb10⟩; have HB10 := hidp (Bgo HB9.out hb10); have HX10 := hidp (HX9.out.keep hb10); clear hb10 x0 x1 x2 x3; obtain ⟨x0, x1, x2, x3⟩ := HX10.out.four)
    | (go_at_call 90; refine (HR8.out _ (HVL.out.below HB10.out)).mono ?_; rintro e w11 ⟨rfl, hb11⟩; have HB11 := hidp (Bgo HB10.out hb11); have HX11 := hidp (HX10.out.keep hb11); clear hb11 x0 x1 x2 x3; obtain ⟨x0, x1, x2, x3⟩ := HX11.out.four)
    | fail)
  go_ret2
  exact ⟨rfl, HB11.out⟩


set_option maxHeartbeats 3200000 in
theorem xCheck_9 {H : AuH} {n c : Nat} (HV : HeapV H n c) (ad : Addr) (hr : ∀ i, i < 9 → H.rule i) (hno : ¬ H.rule 9) (w : World) (hv : IsVals w ad n H.V) :
    Calls Try.prog 58 #[.agg #[.int .i64 (H.t : Int), .int .i64 (H.p : Int), .int .i64 (H.s : Int)], .slice (some ad) n c] w fun e w' => e = .returned (.tuple #[.int .i64 10, .bool false]) ∧ Below w.heap.size w w' := by
  have HVL := hidp hv
  have HX0 := hidp (Held.new w 23 #[.int .i64 (H.t : Int), .int .i64 (H.p : Int), .int .i64 (H.s : Int)])
  obtain ⟨c0, c1, c2⟩ := HX0.out.three
  have HBW := hidp (Bnew (B0 w) (.cells #[.int .i64 (H.t : Int), .int .i64 (H.p : Int), .int .i64 (H.s : Int)] 23))
  have HRI := hidp HV.right
  have HLC : Hid (lC H.t H.p H.s = (n : Int)) := hidp (by have := (lay_yes HV.right).5; have := HV.len; omega)
  have HR1 := hidp (fun (W : World) (hv : IsVals W ad n H.V) => xTiles_c HV ad true ⟨fun _ => hr 1 (by omega), fun _ => rfl⟩ W hv)
  have HR2 := hidp (fun (W : World) (hv : IsVals W ad n H.V) => xFeet_c HV (hr 1 (by omega)) ad true ⟨fun _ => hr 2 (by omega), fun _ => rfl⟩ W hv)
  have HR3 := hidp (fun (W : World) (hv : IsVals W ad n H.V) => xApart_c HV (hr 1 (by omega)) ad true ⟨fun _ => hr 3 (by omega), fun _ => rfl⟩ W hv)
  have HR4 := hidp (fun (W : World) (hv : IsVals W ad n H.V) => xSlots5_c HV ad true ⟨fun _ => hr 4 (by omega), fun _ => rfl⟩ W hv)
  have HR5 := hidp (fun (W : World) (hv : IsVals W ad n H.V) => xBins_c HV ad true ⟨fun _ => hr 5 (by omega), fun _ => rfl⟩ W hv)
  have HR6 := hidp (fun (W : World) (hv : IsVals W ad n H.V) => xRacks_c HV (hr 4 (by omega)) ad true ⟨fun _ => hr 6 (by omega), fun _ => rfl⟩ W hv)
  have HR7 := hidp (fun (W : World) (hv : IsVals W ad n H.V) => xLoose_c HV (hr 4 (by omega)) ad true ⟨fun _ => hr 7 (by omega), fun _ => rfl⟩ W hv)
  have HR8 := hidp (fun (W : World) (hv : IsVals W ad n H.V) => xCounts_c HV (hr 4 (by omega)) ad true ⟨fun _ => hr 8 (by omega), fun _ => rfl⟩ W hv)
  have HR9 := hidp (fun (W : World) (hv : IsVals W ad n H.V) => xRoots_c HV ad false ⟨fun h => (by cases h), fun h => absurd h hno⟩ W hv)
  have hn := HV.nums
  have hcx : c ≤ 9223372036854775807 := hn.2.2.2.2.2.2.2.2
  have hni : n ≤ 6238 := hn.2.2.2.2.2.2.1
  have hnc := HV.cap
  clear hv hr hno hn
  go_enter Try.func58, Try.ntmps58
  go_wp2_with (first
    | (go_at_call 81; refine (r4Right_c H.t H.p H.s _).mono ?_; rintro e w2 ⟨rfl, hb2⟩; rw [HRI.out]; have HB2 := hidp (Bgo HBW.out hb2); have HX2 := hidp (HX0.out.keep hb2); clear hb2 c0 c1 c2; obtain ⟨c0, c1, c2⟩ := HX2.out.three)
    | (go_at_call 82; refine (r7Cells_c H.t H.p H.s _).mono ?_; rintro e w3 ⟨rfl, hb3⟩; rw [HLC.out]; have HB3 := hidp (Bgo HB2.out hb3); have HX3 := hidp (HX2.out.keep hb3); clear hb3 c0 c1 c2; obtain ⟨c0, c1, c2⟩ := HX3.out.three; obtain ⟨x0, x1, x2, x3⟩ := (Held.new w3 53 #[.int .i64 (H.t : Int), .int .i64 (H.p : Int), .int .i64 (H.s : Int), .slice (some ad) n c]).four)
    | (go_at_call 83; refine (HR1.out _ (HVL.out.below (Bnew HB3.out (.cells #[.int .i64 (H.t : Int), .int .i64 (H.p : Int), .int .i64 (H.s : Int), .slice (some ad) n c] 53)))).mono ?_; rintro e w4 ⟨rfl, hb4⟩; have HB4 := hidp (Bgo (Bnew HB3.out (.cells #[.int .i64 (H.t : Int), .int .i64 (H.p : Int), .int .i64 (H.s : Int), .slice (some ad) n c] 53)) hb4); have HX4 := hidp ((Held.new w3 53 #[.int .i64 (H.t : Int), .int .i64 (H.p : Int), .int .i64 (H.s : Int), .slice (some ad) n c]).keep hb4); clear hb4 x0 x1 x2 x3; obtain ⟨x0, x1, x2, x3⟩ := HX4.out.four)
    | (go_at_call 84; refine (HR2.out _ (HVL.out.below HB4.out)).mono ?_; rintro e w5 ⟨rfl, hb5⟩; have HB5 := hidp (Bgo HB4.out hb5); have HX5 := hidp (HX4.out.keep hb5); clear hb5 x0 x1 x2 x3; obtain ⟨x0, x1, x2, x3⟩ := HX5.out.four)
    | (go_at_call 85; refine (HR3.out _ (HVL.out.below HB5.out)).mono ?_; rintro e w6 ⟨rfl, hb6⟩; have HB6 := hidp (Bgo HB5.out hb6); have HX6 := hidp (HX5.out.keep hb6); clear hb6 x0 x1 x2 x3; obtain ⟨x0, x1, x2, x3⟩ := HX6.out.four)
    | (go_at_call 86; refine (HR4.out _ (HVL.out.below HB6.out)).mono ?_; rintro e w7 ⟨rfl, hb7⟩; have HB7 := hidp (Bgo HB6.out hb7); have HX7 := hidp (HX6.out.keep hb7); clear hb7 x0 x1 x2 x3; obtain ⟨x0, x1, x2, x3⟩ := HX7.out.four)
    | (go_at_call 87; refine (HR5.out _ (HVL.out.below HB7.out)).mono ?_; rintro e w8 ⟨rfl, hb8⟩; have HB8 := hidp (Bgo HB7.out hb8); have HX8 := hidp (HX7.out.keep hb8); clear hb8 x0 x1 x2 x3; obtain ⟨x0, x1, x2, x3⟩ := HX8.out.four)
    | (go_at_call 88; refine (HR6.out _ (HVL.out.below HB8.out)).mono ?_; rintro e w9 ⟨rfl, hb9⟩; have HB9 := hidp (Bgo HB8.out hb9); have HX9 := hidp (HX8.out.keep hb9); clear hb9 x0 x1 x2 x3; obtain ⟨x0, x1, x2, x3⟩ := HX9.out.four)
    | (go_at_call 89; refine (HR7.out _ (HVL.out.below HB9.out)).mono ?_; rintro e w10 ⟨rfl, hb10⟩; have HB10 := hidp (Bgo HB9.out hb10); have HX10 := hidp (HX9.out.keep hb10); clear hb10 x0 x1 x2 x3; obtain ⟨x0, x1, x2, x3⟩ := HX10.out.four)
    | (go_at_call 90; refine (HR8.out _ (HVL.out.below HB10.out)).mono ?_; rintro e w11 ⟨rfl, hb11⟩; have HB11 := hidp (Bgo HB10.out hb11); have HX11 := hidp (HX10.out.keep hb11); clear hb11 x0 x1 x2 x3; obtain ⟨x0, x1, x2, x3⟩ := HX11.out.four)
    | (go_at_call 91; refine (HR9.out _ (HVL.out.below HB11.out)).mono ?_; rintro e w12 ⟨rfl, hb12⟩; have HB12 := hidp (Bgo HB11.out hb12); have HX12 := hidp (HX11.out.keep hb12); clear hb12 x0 x1 x2 x3; obtain ⟨x0, x1, x2, x3⟩ := HX12.out.four)
    | fail)
  go_ret2
  exact ⟨rfl, HB12.out⟩


set_option maxHeartbeats 3200000 in
theorem xCheck_10 {H : AuH} {n c : Nat} (HV : HeapV H n c) (ad : Addr) (hr : ∀ i, i < 10 → H.rule i) (w : World) (hv : IsVals w ad n H.V) :
    Calls Try.prog 58 #[.agg #[.int .i64 (H.t : Int), .int .i64 (H.p : Int), .int .i64 (H.s : Int)], .slice (some ad) n c] w fun e w' => e = .returned (.tuple #[.int .i64 0, .bool true]) ∧ Below w.heap.size w w' := by
  have HVL := hidp hv
  have HX0 := hidp (Held.new w 23 #[.int .i64 (H.t : Int), .int .i64 (H.p : Int), .int .i64 (H.s : Int)])
  obtain ⟨c0, c1, c2⟩ := HX0.out.three
  have HBW := hidp (Bnew (B0 w) (.cells #[.int .i64 (H.t : Int), .int .i64 (H.p : Int), .int .i64 (H.s : Int)] 23))
  have HRI := hidp HV.right
  have HLC : Hid (lC H.t H.p H.s = (n : Int)) := hidp (by have := (lay_yes HV.right).5; have := HV.len; omega)
  have HR1 := hidp (fun (W : World) (hv : IsVals W ad n H.V) => xTiles_c HV ad true ⟨fun _ => hr 1 (by omega), fun _ => rfl⟩ W hv)
  have HR2 := hidp (fun (W : World) (hv : IsVals W ad n H.V) => xFeet_c HV (hr 1 (by omega)) ad true ⟨fun _ => hr 2 (by omega), fun _ => rfl⟩ W hv)
  have HR3 := hidp (fun (W : World) (hv : IsVals W ad n H.V) => xApart_c HV (hr 1 (by omega)) ad true ⟨fun _ => hr 3 (by omega), fun _ => rfl⟩ W hv)
  have HR4 := hidp (fun (W : World) (hv : IsVals W ad n H.V) => xSlots5_c HV ad true ⟨fun _ => hr 4 (by omega), fun _ => rfl⟩ W hv)
  have HR5 := hidp (fun (W : World) (hv : IsVals W ad n H.V) => xBins_c HV ad true ⟨fun _ => hr 5 (by omega), fun _ => rfl⟩ W hv)
  have HR6 := hidp (fun (W : World) (hv : IsVals W ad n H.V) => xRacks_c HV (hr 4 (by omega)) ad true ⟨fun _ => hr 6 (by omega), fun _ => rfl⟩ W hv)
  have HR7 := hidp (fun (W : World) (hv : IsVals W ad n H.V) => xLoose_c HV (hr 4 (by omega)) ad true ⟨fun _ => hr 7 (by omega), fun _ => rfl⟩ W hv)
  have HR8 := hidp (fun (W : World) (hv : IsVals W ad n H.V) => xCounts_c HV (hr 4 (by omega)) ad true ⟨fun _ => hr 8 (by omega), fun _ => rfl⟩ W hv)
  have HR9 := hidp (fun (W : World) (hv : IsVals W ad n H.V) => xRoots_c HV ad true ⟨fun _ => hr 9 (by omega), fun _ => rfl⟩ W hv)
  have hn := HV.nums
  have hcx : c ≤ 9223372036854775807 := hn.2.2.2.2.2.2.2.2
  have hni : n ≤ 6238 := hn.2.2.2.2.2.2.1
  have hnc := HV.cap
  clear hv hr hn
  go_enter Try.func58, Try.ntmps58
  go_wp2_with (first
    | (go_at_call 81; refine (r4Right_c H.t H.p H.s _).mono ?_; rintro e w2 ⟨rfl, hb2⟩; rw [HRI.out]; have HB2 := hidp (Bgo HBW.out hb2); have HX2 := hidp (HX0.out.keep hb2); clear hb2 c0 c1 c2; obtain ⟨c0, c1, c2⟩ := HX2.out.three)
    | (go_at_call 82; refine (r7Cells_c H.t H.p H.s _).mono ?_; rintro e w3 ⟨rfl, hb3⟩; rw [HLC.out]; have HB3 := hidp (Bgo HB2.out hb3); have HX3 := hidp (HX2.out.keep hb3); clear hb3 c0 c1 c2; obtain ⟨c0, c1, c2⟩ := HX3.out.three; obtain ⟨x0, x1, x2, x3⟩ := (Held.new w3 53 #[.int .i64 (H.t : Int), .int .i64 (H.p : Int), .int .i64 (H.s : Int), .slice (some ad) n c]).four)
    | (go_at_call 83; refine (HR1.out _ (HVL.out.below (Bnew HB3.out (.cells #[.int .i64 (H.t : Int), .int .i64 (H.p : Int), .int .i64 (H.s : Int), .slice (some ad) n c] 53)))).mono ?_; rintro e w4 ⟨rfl, hb4⟩; have HB4 := hidp (Bgo (Bnew HB3.out (.cells #[.int .i64 (H.t : Int), .int .i64 (H.p : Int), .int .i64 (H.s : Int), .slice (some ad) n c] 53)) hb4); have HX4 := hidp ((Held.new w3 53 #[.int .i64 (H.t : Int), .int .i64 (H.p : Int), .int .i64 (H.s : Int), .slice (some ad) n c]).keep hb4); clear hb4 x0 x1 x2 x3; obtain ⟨x0, x1, x2, x3⟩ := HX4.out.four)
    | (go_at_call 84; refine (HR2.out _ (HVL.out.below HB4.out)).mono ?_; rintro e w5 ⟨rfl, hb5⟩; have HB5 := hidp (Bgo HB4.out hb5); have HX5 := hidp (HX4.out.keep hb5); clear hb5 x0 x1 x2 x3; obtain ⟨x0, x1, x2, x3⟩ := HX5.out.four)
    | (go_at_call 85; refine (HR3.out _ (HVL.out.below HB5.out)).mono ?_; rintro e w6 ⟨rfl, hb6⟩; have HB6 := hidp (Bgo HB5.out hb6); have HX6 := hidp (HX5.out.keep hb6); clear hb6 x0 x1 x2 x3; obtain ⟨x0, x1, x2, x3⟩ := HX6.out.four)
    | (go_at_call 86; refine (HR4.out _ (HVL.out.below HB6.out)).mono ?_; rintro e w7 ⟨rfl, hb7⟩; have HB7 := hidp (Bgo HB6.out hb7); have HX7 := hidp (HX6.out.keep hb7); clear hb7 x0 x1 x2 x3; obtain ⟨x0, x1, x2, x3⟩ := HX7.out.four)
    | (go_at_call 87; refine (HR5.out _ (HVL.out.below HB7.out)).mono ?_; rintro e w8 ⟨rfl, hb8⟩; have HB8 := hidp (Bgo HB7.out hb8); have HX8 := hidp (HX7.out.keep hb8); clear hb8 x0 x1 x2 x3; obtain ⟨x0, x1, x2, x3⟩ := HX8.out.four)
    | (go_at_call 88; refine (HR6.out _ (HVL.out.below HB8.out)).mono ?_; rintro e w9 ⟨rfl, hb9⟩; have HB9 := hidp (Bgo HB8.out hb9); have HX9 := hidp (HX8.out.keep hb9); clear hb9 x0 x1 x2 x3; obtain ⟨x0, x1, x2, x3⟩ := HX9.out.four)
    | (go_at_call 89; refine (HR7.out _ (HVL.out.below HB9.out)).mono ?_; rintro e w10 ⟨rfl, hb10⟩; have HB10 := hidp (Bgo HB9.out hb10); have HX10 := hidp (HX9.out.keep hb10); clear hb10 x0 x1 x2 x3; obtain ⟨x0, x1, x2, x3⟩ := HX10.out.four)
    | (go_at_call 90; refine (HR8.out _ (HVL.out.below HB10.out)).mono ?_; rintro e w11 ⟨rfl, hb11⟩; have HB11 := hidp (Bgo HB10.out hb11); have HX11 := hidp (HX10.out.keep hb11); clear hb11 x0 x1 x2 x3; obtain ⟨x0, x1, x2, x3⟩ := HX11.out.four)
    | (go_at_call 91; refine (HR9.out _ (HVL.out.below HB11.out)).mono ?_; rintro e w12 ⟨rfl, hb12⟩; have HB12 := hidp (Bgo HB11.out hb12); have HX12 := hidp (HX11.out.keep hb12); clear hb12 x0 x1 x2 x3; obtain ⟨x0, x1, x2, x3⟩ := HX12.out.four)
    | fail)
  go_ret2
  exact ⟨rfl, HB12.out⟩


/-- what the document's Check tells of a configuration and values, in every world that has grown -/
def XCheckIs (w : World) (t q s : Int) (A : Option Addr) (n c : Nat) (m : Nat) (b : Bool) : Prop :=
  ∀ W, Below w.heap.size w W → Calls Try.prog 58 #[.agg #[.int .i64 t, .int .i64 q, .int .i64 s], .slice A n c] W fun e w' => e = .returned (.tuple #[.int .i64 (m : Int), .bool b]) ∧ Below W.heap.size W w'
theorem XCheckIs.grown {w w1 : World} {t q s : Int} {A : Option Addr} {n c m : Nat} {b : Bool} (h : XCheckIs w t q s A n c m b) (hb : Below w.heap.size w w1) : XCheckIs w1 t q s A n c m b :=
  fun W hW => h W (Bgo hb hW)
theorem xCheckIs_no (w : World) (t q s : Int) (A : Option Addr) (n c : Nat) (hnc : n ≤ c) (hc : c ≤ maxLen) (h : ¬ (lC t q s ≠ 0 ∧ (n : Int) = lC t q s)) : XCheckIs w t q s A n c 1 false :=
  fun W _ => xCheck_no t q s A n c hnc hc h W
theorem xCheckIs_yes {H : AuH} {n c : Nat} (HV : HeapV H n c) (ad : Addr) (w : World) (hv : IsVals w ad n H.V) {m : Nat} {b : Bool} (h : H.Told m b) : XCheckIs w H.t H.p H.s (some ad) n c m b := by
  intro W hW
  rcases h with ⟨rfl, rfl, hr⟩ | ⟨rfl, k, rfl, h1, h2, hr, hno⟩
  · exact xCheck_10 HV ad hr W (hv.below hW)
  · rcases (by omega : k = 1 ∨ k = 2 ∨ k = 3 ∨ k = 4 ∨ k = 5 ∨ k = 6 ∨ k = 7 ∨ k = 8 ∨ k = 9) with rfl | rfl | rfl | rfl | rfl | rfl | rfl | rfl | rfl
    · exact xCheck_1 HV ad hr hno W (hv.below hW)
    · exact xCheck_2 HV ad hr hno W (hv.below hW)
    · exact xCheck_3 HV ad hr hno W (hv.below hW)
    · exact xCheck_4 HV ad hr hno W (hv.below hW)
    · exact xCheck_5 HV ad hr hno W (hv.below hW)
    · exact xCheck_6 HV ad hr hno W (hv.below hW)
    · exact xCheck_7 HV ad hr hno W (hv.below hW)
    · exact xCheck_8 HV ad hr hno W (hv.below hW)
    · exact xCheck_9 HV ad hr hno W (hv.below hW)
end Go.Proofs.Ytpndfhdedmdoeaa

/-
  The document's Sound, Parts, Live; parts that are the same. Written by doc12/gen_doctop.py.
-/
namespace Go.Proofs.Ytpndfhdedmdoeaa
open Go.ChangeShapes Go.WideShapes Go.ChangeAt Go.RowKit Go.Shelf
set_option linter.unusedVariables false
set_option linter.unusedSimpArgs false


set_option maxHeartbeats 1600000 in
theorem xSound_c (t q s : Int) (A : Option Addr) (n c m : Nat) (b : Bool) (w : World) (hC : XCheckIs w t q s A n c m b) :
    Calls Try.prog 22 #[.agg #[.int .i64 t, .int .i64 q, .int .i64 s], .slice A n c] w fun e w' => e = .returned (.bool b) ∧ Below w.heap.size w w' := by
  have HX0 := hidp (Held.new w 23 #[.int .i64 t, .int .i64 q, .int .i64 s])
  obtain ⟨c0, c1, c2⟩ := HX0.out.three
  have HBW := hidp (Bnew (B0 w) (.cells #[.int .i64 t, .int .i64 q, .int .i64 s] 23))
  have HCK := hidp (hC _ HBW.out)
  clear hC
  go_enter Try.func22, Try.ntmps22
  go_wp2_with (first
    | (go_at_call 58; refine HCK.out.mono ?_; rintro e w2 ⟨rfl, hb2⟩; have HB2 := hidp (Bgo HBW.out hb2); clear hb2)
    | fail)
  go_ret
  exact ⟨rfl, HB2.out⟩


end Go.Proofs.Ytpndfhdedmdoeaa

/-
  A slice of values of 32 bits that came in, opened. (Made of XKit's open_words.)
-/
namespace Go.Proofs.Ytpndfhdedmdoeaa
open Go.ChangeShapes Go.WideShapes Go.ChangeAt Go.RowKit
set_option linter.unusedVariables false
set_option maxRecDepth 100000

section
variable {H : Type} {enc : TypeId × Value → H} {P : Program} {w : World} {base : Nat} {sp : Nat → Bool} {held : Bool}
/-- a slice of values that came in: nil or not, it reads as a list of values -/
theorem open_vals {t e : TypeId} {v : Value} {d : DataW H} {p : List MemPlace} (ht : P.underlying t = some (.slice e)) (he : P.underlying e = some (.int .u32)) (hc : P.cellsOf e = 1)
    {r : Reach} {b0 : Nat} (hval : Value.okWide P w r b0 t v) (h : DataW.Trod enc P w base sp held t v d p) (hlt : ∀ x ∈ p, x.block < w.heap.size) :
    ∃ (A : Option Addr) (c : Nat) (ws : List Nat), v = .slice A ws.length c ∧ ws.length ≤ c ∧ c ≤ maxLen ∧ (∀ x ∈ ws, x < 2 ^ 32) ∧ Reads w w.heap.size 1 A ws.length (valVs ws) := by
  obtain ⟨fuel, hf⟩ := h
  have hv : v.cells = #[v] := by
    obtain ⟨A, n, c, rfl⟩ := okWide_slice ht hval
    rfl
  rw [hv] at hf
  rcases open_ints ht he hc hf with ⟨hcs, _⟩ | ⟨a, len, cap, zs, hcs, hb, hl, hm, hz, hx, hcell, hwf⟩
  · injection hcs with hcs
    subst hcs
    exact ⟨none, 0, [], rfl, Nat.le_refl _, Nat.zero_le _, by simp, Reads.none_⟩
  · injection hcs with hcs
    subst hcs
    have hlz : len ≤ zs.length := by rw [hz]; split <;> omega
    have hlen : ((zs.take len).map Int.toNat).length = len := by simp; omega
    refine ⟨some a, cap, (zs.take len).map Int.toNat, by rw [hlen], by rw [hlen]; exact hl, hm, ?_, ?_⟩
    · intro x hx
      obtain ⟨z, hz1, rfl⟩ := List.mem_map.1 hx
      obtain ⟨n, rfl, hn⟩ := u32_nat (hwf z (List.mem_of_mem_take hz1))
      simpa using hn
    · refine ⟨by rw [valVs_len]; omega, fun hn => ?_⟩
      rw [hlen] at hn
      refine ⟨a, rfl, ?_, fun j u hu => ?_⟩
      · have hp : (p : List MemPlace) = MemPlace.row a zs.length := by
          have := congrArg Prod.snd hx
          simpa using this
        have h0 : MemPlace.cell a.block a.off ∈ p ∨ (∃ x ∈ p, x.block = a.block) := by
          right
          rw [hp]
          refine ⟨(MemPlace.row a zs.length)[0]'(by simp [MemPlace.row]; omega), List.getElem_mem _, ?_⟩
          simp [MemPlace.row, MemPlace.block]
        rcases h0 with h0 | ⟨x, hx1, hx2⟩
        · exact hlt _ h0
        · rw [← hx2]; exact hlt x hx1
      · unfold valVs at hu
        rw [List.map_map] at hu
        have hj : j < len := by
          rcases Nat.lt_or_ge j len with h1 | h1
          · exact h1
          · rw [List.getElem?_eq_none (by simp; omega)] at hu; cases hu
        rw [List.getElem?_map, List.getElem?_take_of_lt hj, List.getElem?_eq_getElem (by omega)] at hu
        simp only [Option.map_some, Option.some.injEq, Function.comp_apply] at hu
        subst hu
        rw [hcell j (by omega)]
        have hw := hwf zs[j] (List.getElem_mem _)
        obtain ⟨n, hn1, _⟩ := u32_nat hw
        have : (zs.getD j 0) = zs[j] := by simp [List.getD, List.getElem?_eq_getElem (show j < zs.length by omega)]
        rw [this, hn1]
        simp
end
end Go.Proofs.Ytpndfhdedmdoeaa

/-
  Values that came in are a right configuration's cells, or not; and then a heap, or none, for the document.
-/
namespace Go.Proofs.Ytpndfhdedmdoeaa
open Go.ChangeShapes Go.WideShapes Go.ChangeAt Go.RowKit
set_option linter.unusedVariables false

theorem heap13_of (W : World) (t q s : Int) (A : Option Addr) (c : Nat) (vals : List Nat) (hnc : vals.length ≤ c) (hcm : c ≤ maxLen) (h32 : ∀ x ∈ vals, x < 2 ^ 32) (hR : Reads W W.heap.size 1 A vals.length (valVs vals)) (h : lC t q s ≠ 0 ∧ (vals.length : Int) = lC t q s) :
    ∃ (H : AuH) (ad : Addr), t = H.t ∧ q = H.p ∧ s = H.s ∧ A = some ad ∧ (∀ i, H.V i = vals.getD i 0) ∧ HeapV H vals.length c ∧ IsVals W ad vals.length H.V := by
  cases hr : rightB t q s
  · exact absurd (lay_no hr).5 h.1
  · have hn := (rightB_iff t q s).1 hr
    have hl := (lay_yes hr).5
    have hlen : 0 < vals.length := by have := h.2; rw [hl] at this; omega
    obtain ⟨ad, rfl, hb, hc⟩ := hR.2 hlen
    have hx : ∀ i, i < vals.length → vals[i]? = some (vals.getD i 0) := fun i hi => by simp [List.getD, List.getElem?_eq_getElem hi]
    refine ⟨⟨t.toNat, q.toNat, s.toNat, fun i => vals.getD i 0⟩, ad, by show t = _; simp; omega, by show q = _; simp; omega, by show s = _; simp; omega, rfl, fun i => rfl, ⟨?_, ?_, hnc, hcm, fun i hi => ?_⟩, hb, fun i hi => ?_⟩
    · show rightB ((t.toNat : Nat) : Int) ((q.toNat : Nat) : Int) ((s.toNat : Nat) : Int) = true
      rw [show ((t.toNat : Nat) : Int) = t by omega, show ((q.toNat : Nat) : Int) = q by omega, show ((s.toNat : Nat) : Int) = s by omega]
      exact hr
    · show vals.length = 30 + 4 * t.toNat + 6 * q.toNat
      have := h.2
      rw [hl] at this
      omega
    · exact h32 _ (List.mem_of_getElem? (hx i hi))
    · refine hc i _ ?_
      unfold valVs
      rw [List.getElem?_map, hx i hi]
      rfl
theorem told_lists {H : AuH} {m : Nat} (h : H.Told m true) {hd : Nat} (h2 : 2 ≤ hd) (h21 : hd ≤ 21) : H.ListOk hd := by
  rcases h with ⟨_, _, h⟩ | ⟨h, _⟩
  · rcases Nat.lt_or_ge hd 13 with h1 | h1
    · have h5 : ∀ k, k < 11 → H.ListOk (2 + k) := h 5 (by omega)
      have := h5 (hd - 2) (by omega)
      rwa [show 2 + (hd - 2) = hd by omega] at this
    · have h6 : ∀ k, k < 9 → H.ListOk (13 + k) := h 6 (by omega)
      have := h6 (hd - 13) (by omega)
      rwa [show 13 + (hd - 13) = hd by omega] at this
  · cases h
/-- the document's Check: none, or a heap's values -/
theorem heap13_or (W : World) (t q s : Int) (A : Option Addr) (c : Nat) (vals : List Nat) (hnc : vals.length ≤ c) (hcm : c ≤ maxLen) (h32 : ∀ x ∈ vals, x < 2 ^ 32) (hR : Reads W W.heap.size 1 A vals.length (valVs vals)) :
    (∃ m, XCheckIs W t q s A vals.length c m false) ∨ ∃ (H : AuH) (ad : Addr) (m : Nat), t = H.t ∧ q = H.p ∧ s = H.s ∧ A = some ad ∧ (∀ i, H.V i = vals.getD i 0) ∧ HeapV H vals.length c ∧ IsVals W ad vals.length H.V ∧ H.Told m true ∧ XCheckIs W H.t H.p H.s (some ad) vals.length c m true := by
  by_cases h : lC t q s ≠ 0 ∧ (vals.length : Int) = lC t q s
  · obtain ⟨H, ad, rfl, rfl, rfl, rfl, hV, HV, hv⟩ := heap13_of W t q s A c vals hnc hcm h32 hR h
    obtain ⟨m, b, hto⟩ := H.told_is
    have hX := xCheckIs_yes HV ad W hv hto
    cases b with
    | true => exact .inr ⟨H, ad, m, rfl, rfl, rfl, rfl, hV, HV, hv, hto, hX⟩
    | false => exact .inl ⟨m, hX⟩
  · exact .inl ⟨1, xCheckIs_no W t q s A vals.length c hnc hcm h⟩
end Go.Proofs.Ytpndfhdedmdoeaa

/-
  What Find tells on a heap, beside how many pages the longest free span has. No program is named here but for the Views'.
-/
namespace Go.Proofs.Ytpndfhdedmdoeaa
open Go.ChangeShapes Go.WideShapes Go.ChangeAt Go.RowKit Go.Maps
set_option linter.unusedVariables false
set_option linter.unusedSimpArgs false

theorem told_rules {H : AuH} {m : Nat} (h : H.Told m true) : ∀ i, i < 10 → H.rule i := by
  rcases h with ⟨_, _, h⟩ | ⟨h, _⟩
  · exact h
  · cases h
/-- how many pages the longest free span of the first k pages has -/
def longF (H : AuH) : Nat → Nat
  | 0 => 0
  | k + 1 => if H.K k = 1 then max (longF H k) (H.ln k) else longF H k
theorem longF_ge {H : AuH} : ∀ {k p : Nat}, p < k → H.K p = 1 → H.ln p ≤ longF H k
  | k + 1, p, hp, hk => by
    unfold longF
    rcases Nat.lt_or_ge p k with h | h
    · have := longF_ge h hk
      split <;> omega
    · obtain rfl : p = k := by omega
      rw [if_pos hk]
      omega
theorem longF_le {H : AuH} {m : Nat} : ∀ {k : Nat}, (∀ p, p < k → H.K p = 1 → H.ln p ≤ m) → longF H k ≤ m
  | 0, _ => by unfold longF; omega
  | k + 1, h => by
    have h1 := longF_le (k := k) (fun p hp => h p (by omega))
    unfold longF
    split
    · have := h k (by omega) (by assumption)
      omega
    · exact h1
theorem fits_heap {H : AuH} {n c : Nat} {K : Nat → Option Nat} (HV : HeapV H n c) (hr : ∀ i, i < 10 → H.rule i) (hK : ∀ i, i < n → K i = some (H.V i)) (nn : Int) :
    (findI n K H.t H.p H.s nn freshS).2.wr = [] ∧ (((findI n K H.t H.p H.s nn freshS).1 = none ∧ (1 ≤ nn → (longF H H.p : Int) < nn)) ∨ ∃ p, (findI n K H.t H.p H.s nn freshS).1 = some p ∧ p < H.p ∧ H.K p = 1 ∧ nn ≤ (H.ln p : Int) ∧ 1 ≤ nn ∧ nn ≤ (longF H H.p : Int)) := by
  have hti : H.Tiled := hr 1 (by omega)
  have hmax : longF H H.p ≤ H.p := longF_le (fun p hp hk => by
    have := ((H.can_iff p).1 (hti.start hp (by omega)).2).2.2
    omega)
  by_cases h1 : 1 ≤ nn ∧ nn ≤ H.p
  · obtain ⟨m, rfl⟩ := Int.eq_ofNat_of_zero_le (show 0 ≤ nn by omega)
    have hP := HV.fit.nums
    obtain ⟨k, hk, hk10, ha, hb⟩ := ofI_nat (n := m) (by omega) (by omega)
    rw [findI_yes hk h1.1 h1.2]
    obtain ⟨g1, g2⟩ := find_heap HV hr hK (nn := m) (by omega) hk10 ha hb
    refine ⟨g1.wr, ?_⟩
    rcases g2 with ⟨g2, g3⟩ | ⟨p, g2, g3, g4, g5⟩
    · refine .inl ⟨g2, fun _ => ?_⟩
      have : longF H H.p ≤ m - 1 := longF_le (fun p hp hk => by have := g3 p hp hk; omega)
      omega
    · have := longF_ge g3 g4
      exact .inr ⟨p, g2, g3, g4, by omega, by omega, by omega⟩
  · rw [findI_no h1]
    exact ⟨rfl, .inl ⟨rfl, fun h => by omega⟩⟩
end Go.Proofs.Ytpndfhdedmdoeaa
