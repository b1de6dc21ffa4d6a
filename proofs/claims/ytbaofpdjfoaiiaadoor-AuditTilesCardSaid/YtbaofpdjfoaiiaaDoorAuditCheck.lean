/-
  The rules, asked one by one. Written by audit/gen_check.py.
-/
import Derived.Test.YtbaofpdjfoaiiaaDoorAuditR3
import Derived.Test.YtbaofpdjfoaiiaaDoorAuditR4
import Derived.Test.YtbaofpdjfoaiiaaDoorAuditR9
import Derived.Test.YtbaofpdjfoaiiaaDoorAuditR678
import Derived.Test.YtbaofpdjfoaiiaaDoorAuditR10
namespace Go.Proofs.YtbaofpdjfoaiiaaDoor
open Go.ChangeShapes Go.WideShapes Go.ChangeAt Go.RowKit Go.Shelf
set_option linter.unusedVariables false
set_option linter.unusedSimpArgs false

theorem index8 (k : Nat) (hk : k < 8) (a0 a1 a2 a3 a4 a5 a6 a7 : Value) (w : World) : (Instr.index 69 (.agg #[a0, a1, a2, a3, a4, a5, a6, a7]) (.int .i64 (k : Int))).run Tryd.prog w = .ok ((#[a0, a1, a2, a3, a4, a5, a6, a7] : Array Value).getD k undef) w := by
  rcases (by omega : k = 0 ∨ k = 1 ∨ k = 2 ∨ k = 3 ∨ k = 4 ∨ k = 5 ∨ k = 6 ∨ k = 7) with rfl | rfl | rfl | rfl | rfl | rfl | rfl | rfl <;> kernel_rfl

set_option maxHeartbeats 3200000 in
set_option maxRecDepth 100000 in
theorem auHasRoots_c {H : AuH} {n c : Nat} (HV : HeapV H n c) (ad : Addr) (b : Bool) (hb : b = true ↔ H.R10) (w : World) (hv : IsVals w ad n H.V) (hT : SlotsLaid w) :
    Calls Tryd.prog 25 #[hpV H ad n c] w fun e w' => e = .returned (.bool b) ∧ Below w.heap.size w w' := by
  have HVL := hidp hv
  have HTL := hidp hT
  have HBC := hidp hb
  have HX0 := hidp (Held.new w 41 #[.int .i64 (H.t : Int), .int .i64 (H.p : Int), .int .i64 (H.s : Int), .slice (some ad) n c])
  obtain ⟨c0, c1, c2, c3⟩ := HX0.out.four
  have HBW := hidp (Bnew (B0 w) (.cells #[.int .i64 (H.t : Int), .int .i64 (H.p : Int), .int .i64 (H.s : Int), .slice (some ad) n c] 41))
  have hnr : 30 ≤ n := by have := HV.len; omega
  clear hv hT hb
  unfold hpV
  go_enter Tryd.func25, Tryd.ntmps25
  go_wp2_with (first
    | (go_at_call 46; refine (auRoots_c HV ad _ (HVL.out.below HBW.out)).mono ?_; rintro e w2 ⟨rfl, hb2⟩; have HB2 := hidp (Bgo HBW.out hb2); have HX2 := hidp (HX0.out.keep hb2); clear hb2; unfold rootsV)
    | fail)
  clear c0 c1 c2 c3
  go_loopw [7] (fun u wr => ∃ k : Nat, k ≤ 8 ∧ u = .int .i64 (k : Int) ∧ Hid (∀ i, i < k → H.V (22 + i) ≠ 0 → H.LiveAt (H.V (22 + i) : Int)) ∧ Hid (Held wr w.heap.size 41 #[.int .i64 (H.t : Int), .int .i64 (H.p : Int), .int .i64 (H.s : Int), .slice (some ad) n c]) ∧ Hid (Below w.heap.size w wr)) (fun u _ => 8 - (intOf u).toNat)
  case atStart => exact ⟨0, by omega, rfl, hidp (fun i h => absurd h (by omega)), HX2, HB2⟩
  case round =>
    clear HX2 HB2 HX0 HBW
    obtain ⟨k, hk, rfl, HOK, HX, HB⟩ := hrel
    obtain ⟨c0, c1, c2, c3⟩ := HX.out.four
    by_cases hlt : k < 8
    · have HVR := hidp (HVL.out.below HB.out)
      have HTR := hidp (HTL.out.below HB.out)
      have hv32 := HV.lt (22 + k) (by omega)
      have HST : Hid ((H.V (22 + k) ≠ 0 → H.LiveAt (H.V (22 + k) : Int)) → ∀ i, i < k + 1 → H.V (22 + i) ≠ 0 → H.LiveAt (H.V (22 + i) : Int)) := hidp (fun h i hi => by
        rcases Nat.lt_or_ge i k with h2 | h2
        · exact HOK.out i h2
        · have : i = k := by omega
          subst this; exact h)
      have HBN : Hid (¬ (H.V (22 + k) ≠ 0 → H.LiveAt (H.V (22 + k) : Int)) → b = false) := hidp (fun h => bool_no HBC.out (fun h2 => h (h2 k hlt)))
      obtain ⟨v, hvv⟩ : ∃ v, H.V (22 + k) = v := ⟨_, rfl⟩
      rw [hvv] at hv32 HST HBN
      have hix : ∀ w : World, (Instr.index 69 (.agg #[.int .i64 (H.V 22 : Nat), .int .i64 (H.V 23 : Nat), .int .i64 (H.V 24 : Nat), .int .i64 (H.V 25 : Nat), .int .i64 (H.V 26 : Nat), .int .i64 (H.V 27 : Nat), .int .i64 (H.V 28 : Nat), .int .i64 (H.V 29 : Nat)]) (.int .i64 (k : Int))).run Tryd.prog w = .ok (.int .i64 (v : Int)) w := fun w => by
        rw [index8 k hlt, ← hvv]
        clear hvv
        rcases (by omega : k = 0 ∨ k = 1 ∨ k = 2 ∨ k = 3 ∨ k = 4 ∨ k = 5 ∨ k = 6 ∨ k = 7) with rfl | rfl | rfl | rfl | rfl | rfl | rfl | rfl <;> rfl
      clear hvv
      clear HOK
      by_cases hz : v = 0
      · have q0 : ((v : Int) != 0) = false := by simp; omega
        have HOK1 := hidp (HST.out (fun h => absurd hz h))
        clear hz
        go_wp2_with fail
        go_roundw
        case rel => exact ⟨k + 1, by omega, by go_num, HOK1, HX, HB⟩
        case measure => simp [intOf]; omega
      · have q0 : ((v : Int) != 0) = true := by simp; omega
        by_cases hl : H.LiveAt (v : Int)
        · have HOK1 := hidp (HST.out (fun _ => hl))
          have HZ : Hid ((true = true) ↔ H.LiveAt (v : Int)) := hidp ⟨fun _ => hl, fun _ => rfl⟩
          have HLV : Hid (∀ W, IsVals W ad n H.V → SlotsLaid W → Calls Tryd.prog 47 #[hpV H ad n c, .int .i64 (v : Int)] W fun e w' => e = .returned (.bool true) ∧ Below W.heap.size W w') := hidp (fun W h1 h2 => auIsLive_c HV ad v hv32 true HZ.out W h1 h2)
          clear hl HZ
          go_wp2_with (first
            | (go_at_call 47; refine (HLV.out _ HVR.out HTR.out).mono ?_; rintro e w4 ⟨rfl, hb4⟩; have HB4 := hidp (Bgo HB.out hb4); have HX4 := hidp (HX.out.keep hb4); clear hb4)
            | fail)
          go_roundw
          case rel => exact ⟨k + 1, by omega, by go_num, HOK1, HX4, HB4⟩
          case measure => simp [intOf]; omega
        · have HBF := hidp (HBN.out (fun h => hl (h hz)))
          have HLV : Hid (∀ W, IsVals W ad n H.V → SlotsLaid W → Calls Tryd.prog 47 #[hpV H ad n c, .int .i64 (v : Int)] W fun e w' => e = .returned (.bool false) ∧ Below W.heap.size W w') := hidp (fun W h1 h2 => auIsLive_c HV ad v hv32 false ⟨fun h => (by cases h), fun h => absurd h hl⟩ W h1 h2)
          clear hl
          go_wp2_with (first
            | (go_at_call 47; refine (HLV.out _ HVR.out HTR.out).mono ?_; rintro e w4 ⟨rfl, hb4⟩; have HB4 := hidp (Bgo HB.out hb4); clear hb4)
            | fail)
          go_ret
          exact ⟨by rw [HBF.out]; rfl, HB4.out⟩
    · have hk8 : k = 8 := by omega
      have HBT : Hid (b = true) := hidp (bool_yes HBC.out (fun i hi => HOK.out i (by omega)))
      subst hk8
      go_wp2_with fail
      go_ret
      exact ⟨by rw [HBT.out]; rfl, HB.out⟩


def cfV (t q s : Int) (A : Option Addr) (n c : Nat) : Value := .agg #[.int .i64 t, .int .i64 q, .int .i64 s, .slice A n c]
set_option maxHeartbeats 1600000 in
theorem auIsOf_c (t q s : Int) (A : Option Addr) (n c : Nat) (hnc : n ≤ c) (hc : c ≤ maxLen) (b : Bool) (hb : b = true ↔ lC t q s ≠ 0 ∧ (n : Int) = lC t q s) (w : World) :
    Calls Tryd.prog 16 #[cfV t q s A n c] w fun e w' => e = .returned (.bool b) ∧ Below w.heap.size w w' := by
  have hcm : c ≤ 9223372036854775807 := hc
  have HX0 := hidp (Held.new w 41 #[.int .i64 t, .int .i64 q, .int .i64 s, .slice A n c])
  obtain ⟨c0, c1, c2, c3⟩ := HX0.out.four
  have HBW := hidp (Bnew (B0 w) (.cells #[.int .i64 t, .int .i64 q, .int .i64 s, .slice A n c] 41))
  have HCL := hidp (fun W => plCells_c t q s W)
  generalize lC t q s = y at *
  unfold cfV
  by_cases h0 : y = 0
  · have HBF : Hid (b = false) := hidp (bool_no hb (fun h => h.1 h0))
    subst h0
    clear hb
    go_enter Tryd.func16, Tryd.ntmps16
    go_wp2_with (first
      | (go_at_call 35; refine (HCL.out _).mono ?_; rintro e w2 ⟨rfl, hb2⟩; have HB2 := hidp (Bgo HBW.out hb2); clear hb2)
      | fail)
    go_ret
    exact ⟨by rw [HBF.out]; rfl, HB2.out⟩
  · have q0 : (y != 0) = true := by simpa using h0
    have q1 : ((n : Int) == y) = b := by
      by_cases h1 : (n : Int) = y
      · rw [bool_yes hb ⟨h0, h1⟩]; simpa using h1
      · rw [bool_no hb (fun h => h1 h.2)]; simpa using h1
    clear hb h0
    go_enter Tryd.func16, Tryd.ntmps16
    go_wp2_with (first
      | (go_at_call 35; refine (HCL.out _).mono ?_; rintro e w2 ⟨rfl, hb2⟩; have HB2 := hidp (Bgo HBW.out hb2); have HX2 := hidp (HX0.out.keep hb2); clear hb2 c0 c1 c2 c3; obtain ⟨c0, c1, c2, c3⟩ := HX2.out.four)
      | fail)
    go_ret
    exact ⟨rfl, HB2.out⟩


theorem cells_of {H : AuH} {n c : Nat} (HV : HeapV H n c) : lC (H.t : Int) (H.p : Int) (H.s : Int) ≠ 0 ∧ (n : Int) = lC (H.t : Int) (H.p : Int) (H.s : Int) := by
  have h := HV.len
  obtain ⟨e1, e2, e3, e4, e5, e6, e7⟩ := lay_yes HV.right
  rw [e5]
  omega
/-- the rules, as methods of a heap -/
def rulesC (v : Value) : Array Value := #[.func (.func 16) #[v] #[], .func (.func 17) #[v] #[], .func (.func 18) #[v] #[], .func (.func 19) #[v] #[], .func (.func 20) #[v] #[], .func (.func 21) #[v] #[], .func (.func 22) #[v] #[], .func (.func 23) #[v] #[], .func (.func 24) #[v] #[], .func (.func 25) #[v] #[]]
set_option maxHeartbeats 1600000 in
set_option maxRecDepth 100000 in
theorem auRules_c (t q s : Int) (A : Option Addr) (n c : Nat) (w : World) :
    Calls Tryd.prog 12 #[cfV t q s A n c] w fun e w' => ∃ g, e = .returned (.slice (some ⟨g, 0, none⟩) 10 10) ∧ Held w' g 26 (rulesC (cfV t q s A n c)) ∧ w.heap.size ≤ g ∧ Below w.heap.size w w' := by
  have HX0 := hidp (Held.new w 41 #[.int .i64 t, .int .i64 q, .int .i64 s, .slice A n c])
  obtain ⟨c0, c1, c2, c3⟩ := HX0.out.four
  unfold cfV rulesC
  go_enter Tryd.func12, Tryd.ntmps12
  go_wp2_with fail
  go_ret
  refine ⟨_, rfl, Held.new2 w _ _ _, by simp, Bnew (Bnew (B0 w) _) _⟩


/-- the rules' own words, from the second one on -/
def AuH.rule (H : AuH) : Nat → Prop
  | 1 => H.Tiled
  | 2 => H.R3
  | 3 => H.R4
  | 4 => H.R5
  | 5 => ∀ k, k < 11 → H.ListOk (2 + k)
  | 6 => ∀ k, k < 9 → H.ListOk (13 + k)
  | 7 => H.R8
  | 8 => H.R9
  | 9 => H.R10
  | _ => True
/-- what Check tells: 0, all rules hold; m + 1: the rule m (from 0 on) is the first that does not -/
def AuH.Told (H : AuH) (m : Nat) (b : Bool) : Prop := (b = true ∧ m = 0 ∧ ∀ i, i < 10 → H.rule i) ∨ (b = false ∧ ∃ k, m = k + 1 ∧ 1 ≤ k ∧ k < 10 ∧ (∀ i, i < k → H.rule i) ∧ ¬ H.rule k)
theorem AuH.Told.one {H : AuH} {m m' : Nat} {b b' : Bool} (h : H.Told m b) (h' : H.Told m' b') : m = m' ∧ b = b' := by
  rcases h with ⟨rfl, rfl, h1⟩ | ⟨rfl, k, rfl, k1, k2, h1, h2⟩ <;> rcases h' with ⟨rfl, rfl, h3⟩ | ⟨rfl, j, rfl, j1, j2, h3, h4⟩
  · exact ⟨rfl, rfl⟩
  · exact absurd (h1 j j2) h4
  · exact absurd (h3 k k2) h2
  · rcases Nat.lt_trichotomy k j with h5 | h5 | h5
    · exact absurd (h3 k h5) h2
    · subst h5; exact ⟨rfl, rfl⟩
    · exact absurd (h1 j h5) h4
theorem first_no (R : Nat → Prop) : ∀ n, (∀ i, i < n → R i) ∨ ∃ k, k < n ∧ (∀ i, i < k → R i) ∧ ¬ R k
  | 0 => .inl fun i h => absurd h (by omega)
  | n + 1 => by
    rcases first_no R n with h | ⟨k, h1, h2, h3⟩
    · by_cases hn : R n
      · exact .inl fun i hi => by
          rcases Nat.lt_or_ge i n with h4 | h4
          · exact h i h4
          · have : i = n := by omega
            subst this; exact hn
      · exact .inr ⟨n, by omega, h, hn⟩
    · exact .inr ⟨k, by omega, h2, h3⟩
theorem AuH.told_is (H : AuH) : ∃ m b, H.Told m b := by
  rcases first_no H.rule 10 with h | ⟨k, h1, h2, h3⟩
  · exact ⟨0, true, .inl ⟨rfl, rfl, h⟩⟩
  · refine ⟨k + 1, false, .inr ⟨rfl, k, rfl, ?_, h1, h2, h3⟩⟩
    rcases Nat.eq_zero_or_pos k with h6 | h6
    · subst h6; exact absurd trivial h3
    · exact h6


set_option maxHeartbeats 6400000 in
set_option maxRecDepth 100000 in
theorem auCheck_c {H : AuH} {n c : Nat} (HV : HeapV H n c) (ad : Addr) (w : World) (hv : IsVals w ad n H.V) (hT : SlotsLaid w) :
    Calls Tryd.prog 8 #[.agg #[.int .i64 (H.t : Int), .int .i64 (H.p : Int), .int .i64 (H.s : Int)], .slice (some ad) n c] w fun e w' => ∃ m b, e = .returned (.tuple #[.int .i64 ((m : Nat) : Int), .bool b]) ∧ H.Told m b ∧ Below w.heap.size w w' := by
  have HVL := hidp hv
  have HTL := hidp hT
  have hx := Held.new w 23 #[.int .i64 (H.t : Int), .int .i64 (H.p : Int), .int .i64 (H.s : Int)]
  obtain ⟨c0, c1, c2⟩ := hx.three
  have HBW := hidp (Bnew (B0 w) (.cells #[.int .i64 (H.t : Int), .int .i64 (H.p : Int), .int .i64 (H.s : Int)] 23))
  have HRU := hidp (fun W => auRules_c (H.t : Int) (H.p : Int) (H.s : Int) (some ad) n c W)
  have HOF := hidp (fun W => auIsOf_c (H.t : Int) (H.p : Int) (H.s : Int) (some ad) n c HV.cap HV.max true ⟨fun _ => (cells_of HV), fun _ => rfl⟩ W)
  have hcm : c ≤ 9223372036854775807 := HV.max
  clear hx hv hT
  unfold cfV at HRU HOF
  go_enter Tryd.func8, Tryd.ntmps8
  go_wp2_with (first
    | (go_at_call 12; refine (HRU.out _).mono ?_; rintro e w2 ⟨g, rfl, hh2, hg2, hb2⟩; have HR2 := hidp hh2; have HB2 := hidp (Bgo HBW.out hb2); clear hh2 hg2 hb2)
    | fail)
  clear c0 c1 c2 HBW HRU
  refine wp_loop_rounds 11 ?_
  rw [rounds_succ]
  have e0 := HR2.out.cell 0
  simp only [rulesC, List.getElem?_toArray, List.getElem?_cons_zero, List.getElem?_cons_succ] at e0
  go_wp2_with (first
    | (go_at_call 16; refine (HOF.out _).mono ?_; rintro e w3 ⟨rfl, hb3⟩; have HB3 := hidp (Bgo HB2.out hb3); have HR3 := hidp (HR2.out.keep hb3); clear hb3)
    | fail)
  clear e0 HR2
  rw [rounds_succ]
  have e1 := HR3.out.cell 1
  simp only [rulesC, List.getElem?_toArray, List.getElem?_cons_zero, List.getElem?_cons_succ] at e1
  by_cases hr : H.rule 1
  · have HOK : Hid (H.rule 1) := hidp hr
    have HOK1 := HOK
    have HTI : Hid H.Tiled := hidp hr
    clear hr
    go_wp2_with (first
      | (go_at_call 17; refine (auHasSpans_c HV ad true ⟨fun _ => HOK.out, fun _ => rfl⟩ _ (HVL.out.below HB3.out)).mono ?_; rintro e w4 ⟨rfl, hb4⟩; have HB4 := hidp (Bgo HB3.out hb4); have HR4 := hidp (HR3.out.keep hb4); clear hb4)
      | fail)
    clear e1 HOK HR3
    rw [rounds_succ]
    have e2 := HR4.out.cell 2
    simp only [rulesC, List.getElem?_toArray, List.getElem?_cons_zero, List.getElem?_cons_succ] at e2
    by_cases hr : H.rule 2
    · have HOK : Hid (H.rule 2) := hidp hr
      have HOK2 := HOK
      skip
      clear hr
      go_wp2_with (first
        | (go_at_call 18; refine (auHasFeet_c HV HTI.out ad true ⟨fun _ => HOK.out, fun _ => rfl⟩ _ (HVL.out.below HB4.out)).mono ?_; rintro e w5 ⟨rfl, hb5⟩; have HB5 := hidp (Bgo HB4.out hb5); have HR5 := hidp (HR4.out.keep hb5); clear hb5)
        | fail)
      clear e2 HOK HR4
      rw [rounds_succ]
      have e3 := HR5.out.cell 3
      simp only [rulesC, List.getElem?_toArray, List.getElem?_cons_zero, List.getElem?_cons_succ] at e3
      by_cases hr : H.rule 3
      · have HOK : Hid (H.rule 3) := hidp hr
        have HOK3 := HOK
        skip
        clear hr
        go_wp2_with (first
          | (go_at_call 19; refine (auHasFreeApart_c HV HTI.out ad true ⟨fun _ => HOK.out, fun _ => rfl⟩ _ (HVL.out.below HB5.out)).mono ?_; rintro e w6 ⟨rfl, hb6⟩; have HB6 := hidp (Bgo HB5.out hb6); have HR6 := hidp (HR5.out.keep hb6); clear hb6)
          | fail)
        clear e3 HOK HR5
        rw [rounds_succ]
        have e4 := HR6.out.cell 4
        simp only [rulesC, List.getElem?_toArray, List.getElem?_cons_zero, List.getElem?_cons_succ] at e4
        by_cases hr : H.rule 4
        · have HOK : Hid (H.rule 4) := hidp hr
          have HOK4 := HOK
          skip
          clear hr
          go_wp2_with (first
            | (go_at_call 20; refine (auHasSlots_c HV HTI.out ad true ⟨fun _ => HOK.out, fun _ => rfl⟩ _ (HVL.out.below HB6.out) (HTL.out.below HB6.out)).mono ?_; rintro e w7 ⟨rfl, hb7⟩; have HB7 := hidp (Bgo HB6.out hb7); have HR7 := hidp (HR6.out.keep hb7); clear hb7)
            | fail)
          clear e4 HOK HR6
          rw [rounds_succ]
          have e5 := HR7.out.cell 5
          simp only [rulesC, List.getElem?_toArray, List.getElem?_cons_zero, List.getElem?_cons_succ] at e5
          by_cases hr : H.rule 5
          · have HOK : Hid (H.rule 5) := hidp hr
            have HOK5 := HOK
            skip
            clear hr
            go_wp2_with (first
              | (go_at_call 21; refine (auHasBins_c HV HTI.out ad true ⟨fun _ => HOK.out, fun _ => rfl⟩ _ (HVL.out.below HB7.out) (HTL.out.below HB7.out)).mono ?_; rintro e w8 ⟨rfl, hb8⟩; have HB8 := hidp (Bgo HB7.out hb8); have HR8 := hidp (HR7.out.keep hb8); clear hb8)
              | fail)
            clear e5 HOK HR7
            rw [rounds_succ]
            have e6 := HR8.out.cell 6
            simp only [rulesC, List.getElem?_toArray, List.getElem?_cons_zero, List.getElem?_cons_succ] at e6
            by_cases hr : H.rule 6
            · have HOK : Hid (H.rule 6) := hidp hr
              have HOK6 := HOK
              skip
              clear hr
              go_wp2_with (first
                | (go_at_call 22; refine (auHasRacks_c HV HTI.out ad true ⟨fun _ => HOK.out, fun _ => rfl⟩ _ (HVL.out.below HB8.out) (HTL.out.below HB8.out)).mono ?_; rintro e w9 ⟨rfl, hb9⟩; have HB9 := hidp (Bgo HB8.out hb9); have HR9 := hidp (HR8.out.keep hb9); clear hb9)
                | fail)
              clear e6 HOK HR8
              rw [rounds_succ]
              have e7 := HR9.out.cell 7
              simp only [rulesC, List.getElem?_toArray, List.getElem?_cons_zero, List.getElem?_cons_succ] at e7
              by_cases hr : H.rule 7
              · have HOK : Hid (H.rule 7) := hidp hr
                have HOK7 := HOK
                skip
                clear hr
                go_wp2_with (first
                  | (go_at_call 23; refine (auHasNoOther_c HV HTI.out ad true ⟨fun _ => HOK.out, fun _ => rfl⟩ _ (HVL.out.below HB9.out) (HTL.out.below HB9.out)).mono ?_; rintro e w10 ⟨rfl, hb10⟩; have HB10 := hidp (Bgo HB9.out hb10); have HR10 := hidp (HR9.out.keep hb10); clear hb10)
                  | fail)
                clear e7 HOK HR9
                rw [rounds_succ]
                have e8 := HR10.out.cell 8
                simp only [rulesC, List.getElem?_toArray, List.getElem?_cons_zero, List.getElem?_cons_succ] at e8
                by_cases hr : H.rule 8
                · have HOK : Hid (H.rule 8) := hidp hr
                  have HOK8 := HOK
                  skip
                  clear hr
                  go_wp2_with (first
                    | (go_at_call 24; refine (auHasCounts_c HV HTI.out ad true ⟨fun _ => HOK.out, fun _ => rfl⟩ _ (HVL.out.below HB10.out)).mono ?_; rintro e w11 ⟨rfl, hb11⟩; have HB11 := hidp (Bgo HB10.out hb11); have HR11 := hidp (HR10.out.keep hb11); clear hb11)
                    | fail)
                  clear e8 HOK HR10
                  rw [rounds_succ]
                  have e9 := HR11.out.cell 9
                  simp only [rulesC, List.getElem?_toArray, List.getElem?_cons_zero, List.getElem?_cons_succ] at e9
                  by_cases hr : H.rule 9
                  · have HOK : Hid (H.rule 9) := hidp hr
                    have HOK9 := HOK
                    skip
                    clear hr
                    go_wp2_with (first
                      | (go_at_call 25; refine (auHasRoots_c HV ad true ⟨fun _ => HOK.out, fun _ => rfl⟩ _ (HVL.out.below HB11.out) (HTL.out.below HB11.out)).mono ?_; rintro e w12 ⟨rfl, hb12⟩; have HB12 := hidp (Bgo HB11.out hb12); have HR12 := hidp (HR11.out.keep hb12); clear hb12)
                      | fail)
                    clear e9 HOK HR11
                    rw [rounds_succ]
                    go_wp2_with fail
                    go_ret2
                    exact ⟨0, true, rfl, .inl ⟨rfl, rfl, fun j hj => by
                      rcases (by omega : j = 0 ∨ j = 1 ∨ j = 2 ∨ j = 3 ∨ j = 4 ∨ j = 5 ∨ j = 6 ∨ j = 7 ∨ j = 8 ∨ j = 9) with rfl | rfl | rfl | rfl | rfl | rfl | rfl | rfl | rfl | rfl
                      · exact trivial
                      · exact HOK1.out
                      · exact HOK2.out
                      · exact HOK3.out
                      · exact HOK4.out
                      · exact HOK5.out
                      · exact HOK6.out
                      · exact HOK7.out
                      · exact HOK8.out
                      · exact HOK9.out⟩, HB12.out⟩
                  · have HNO : Hid (¬ H.rule 9) := hidp hr
                    clear hr
                    go_wp2_with (first
                      | (go_at_call 25; refine (auHasRoots_c HV ad false ⟨fun h => (by cases h), fun h => absurd h HNO.out⟩ _ (HVL.out.below HB11.out) (HTL.out.below HB11.out)).mono ?_; rintro e w12 ⟨rfl, hb12⟩; have HB12 := hidp (Bgo HB11.out hb12); have HR12 := hidp (HR11.out.keep hb12); clear hb12)
                      | fail)
                    go_ret2
                    refine ⟨10, false, rfl, .inr ⟨rfl, 9, rfl, by omega, by omega, fun j hj => ?_, HNO.out⟩, HB12.out⟩
                    rcases (by omega : j = 0 ∨ j = 1 ∨ j = 2 ∨ j = 3 ∨ j = 4 ∨ j = 5 ∨ j = 6 ∨ j = 7 ∨ j = 8) with rfl | rfl | rfl | rfl | rfl | rfl | rfl | rfl | rfl
                    · exact trivial
                    · exact HOK1.out
                    · exact HOK2.out
                    · exact HOK3.out
                    · exact HOK4.out
                    · exact HOK5.out
                    · exact HOK6.out
                    · exact HOK7.out
                    · exact HOK8.out
                · have HNO : Hid (¬ H.rule 8) := hidp hr
                  clear hr
                  go_wp2_with (first
                    | (go_at_call 24; refine (auHasCounts_c HV HTI.out ad false ⟨fun h => (by cases h), fun h => absurd h HNO.out⟩ _ (HVL.out.below HB10.out)).mono ?_; rintro e w11 ⟨rfl, hb11⟩; have HB11 := hidp (Bgo HB10.out hb11); have HR11 := hidp (HR10.out.keep hb11); clear hb11)
                    | fail)
                  go_ret2
                  refine ⟨9, false, rfl, .inr ⟨rfl, 8, rfl, by omega, by omega, fun j hj => ?_, HNO.out⟩, HB11.out⟩
                  rcases (by omega : j = 0 ∨ j = 1 ∨ j = 2 ∨ j = 3 ∨ j = 4 ∨ j = 5 ∨ j = 6 ∨ j = 7) with rfl | rfl | rfl | rfl | rfl | rfl | rfl | rfl
                  · exact trivial
                  · exact HOK1.out
                  · exact HOK2.out
                  · exact HOK3.out
                  · exact HOK4.out
                  · exact HOK5.out
                  · exact HOK6.out
                  · exact HOK7.out
              · have HNO : Hid (¬ H.rule 7) := hidp hr
                clear hr
                go_wp2_with (first
                  | (go_at_call 23; refine (auHasNoOther_c HV HTI.out ad false ⟨fun h => (by cases h), fun h => absurd h HNO.out⟩ _ (HVL.out.below HB9.out) (HTL.out.below HB9.out)).mono ?_; rintro e w10 ⟨rfl, hb10⟩; have HB10 := hidp (Bgo HB9.out hb10); have HR10 := hidp (HR9.out.keep hb10); clear hb10)
                  | fail)
                go_ret2
                refine ⟨8, false, rfl, .inr ⟨rfl, 7, rfl, by omega, by omega, fun j hj => ?_, HNO.out⟩, HB10.out⟩
                rcases (by omega : j = 0 ∨ j = 1 ∨ j = 2 ∨ j = 3 ∨ j = 4 ∨ j = 5 ∨ j = 6) with rfl | rfl | rfl | rfl | rfl | rfl | rfl
                · exact trivial
                · exact HOK1.out
                · exact HOK2.out
                · exact HOK3.out
                · exact HOK4.out
                · exact HOK5.out
                · exact HOK6.out
            · have HNO : Hid (¬ H.rule 6) := hidp hr
              clear hr
              go_wp2_with (first
                | (go_at_call 22; refine (auHasRacks_c HV HTI.out ad false ⟨fun h => (by cases h), fun h => absurd h HNO.out⟩ _ (HVL.out.below HB8.out) (HTL.out.below HB8.out)).mono ?_; rintro e w9 ⟨rfl, hb9⟩; have HB9 := hidp (Bgo HB8.out hb9); have HR9 := hidp (HR8.out.keep hb9); clear hb9)
                | fail)
              go_ret2
              refine ⟨7, false, rfl, .inr ⟨rfl, 6, rfl, by omega, by omega, fun j hj => ?_, HNO.out⟩, HB9.out⟩
              rcases (by omega : j = 0 ∨ j = 1 ∨ j = 2 ∨ j = 3 ∨ j = 4 ∨ j = 5) with rfl | rfl | rfl | rfl | rfl | rfl
              · exact trivial
              · exact HOK1.out
              · exact HOK2.out
              · exact HOK3.out
              · exact HOK4.out
              · exact HOK5.out
          · have HNO : Hid (¬ H.rule 5) := hidp hr
            clear hr
            go_wp2_with (first
              | (go_at_call 21; refine (auHasBins_c HV HTI.out ad false ⟨fun h => (by cases h), fun h => absurd h HNO.out⟩ _ (HVL.out.below HB7.out) (HTL.out.below HB7.out)).mono ?_; rintro e w8 ⟨rfl, hb8⟩; have HB8 := hidp (Bgo HB7.out hb8); have HR8 := hidp (HR7.out.keep hb8); clear hb8)
              | fail)
            go_ret2
            refine ⟨6, false, rfl, .inr ⟨rfl, 5, rfl, by omega, by omega, fun j hj => ?_, HNO.out⟩, HB8.out⟩
            rcases (by omega : j = 0 ∨ j = 1 ∨ j = 2 ∨ j = 3 ∨ j = 4) with rfl | rfl | rfl | rfl | rfl
            · exact trivial
            · exact HOK1.out
            · exact HOK2.out
            · exact HOK3.out
            · exact HOK4.out
        · have HNO : Hid (¬ H.rule 4) := hidp hr
          clear hr
          go_wp2_with (first
            | (go_at_call 20; refine (auHasSlots_c HV HTI.out ad false ⟨fun h => (by cases h), fun h => absurd h HNO.out⟩ _ (HVL.out.below HB6.out) (HTL.out.below HB6.out)).mono ?_; rintro e w7 ⟨rfl, hb7⟩; have HB7 := hidp (Bgo HB6.out hb7); have HR7 := hidp (HR6.out.keep hb7); clear hb7)
            | fail)
          go_ret2
          refine ⟨5, false, rfl, .inr ⟨rfl, 4, rfl, by omega, by omega, fun j hj => ?_, HNO.out⟩, HB7.out⟩
          rcases (by omega : j = 0 ∨ j = 1 ∨ j = 2 ∨ j = 3) with rfl | rfl | rfl | rfl
          · exact trivial
          · exact HOK1.out
          · exact HOK2.out
          · exact HOK3.out
      · have HNO : Hid (¬ H.rule 3) := hidp hr
        clear hr
        go_wp2_with (first
          | (go_at_call 19; refine (auHasFreeApart_c HV HTI.out ad false ⟨fun h => (by cases h), fun h => absurd h HNO.out⟩ _ (HVL.out.below HB5.out)).mono ?_; rintro e w6 ⟨rfl, hb6⟩; have HB6 := hidp (Bgo HB5.out hb6); have HR6 := hidp (HR5.out.keep hb6); clear hb6)
          | fail)
        go_ret2
        refine ⟨4, false, rfl, .inr ⟨rfl, 3, rfl, by omega, by omega, fun j hj => ?_, HNO.out⟩, HB6.out⟩
        rcases (by omega : j = 0 ∨ j = 1 ∨ j = 2) with rfl | rfl | rfl
        · exact trivial
        · exact HOK1.out
        · exact HOK2.out
    · have HNO : Hid (¬ H.rule 2) := hidp hr
      clear hr
      go_wp2_with (first
        | (go_at_call 18; refine (auHasFeet_c HV HTI.out ad false ⟨fun h => (by cases h), fun h => absurd h HNO.out⟩ _ (HVL.out.below HB4.out)).mono ?_; rintro e w5 ⟨rfl, hb5⟩; have HB5 := hidp (Bgo HB4.out hb5); have HR5 := hidp (HR4.out.keep hb5); clear hb5)
        | fail)
      go_ret2
      refine ⟨3, false, rfl, .inr ⟨rfl, 2, rfl, by omega, by omega, fun j hj => ?_, HNO.out⟩, HB5.out⟩
      rcases (by omega : j = 0 ∨ j = 1) with rfl | rfl
      · exact trivial
      · exact HOK1.out
  · have HNO : Hid (¬ H.rule 1) := hidp hr
    clear hr
    go_wp2_with (first
      | (go_at_call 17; refine (auHasSpans_c HV ad false ⟨fun h => (by cases h), fun h => absurd h HNO.out⟩ _ (HVL.out.below HB3.out)).mono ?_; rintro e w4 ⟨rfl, hb4⟩; have HB4 := hidp (Bgo HB3.out hb4); have HR4 := hidp (HR3.out.keep hb4); clear hb4)
      | fail)
    go_ret2
    refine ⟨2, false, rfl, .inr ⟨rfl, 1, rfl, by omega, by omega, fun j hj => ?_, HNO.out⟩, HB4.out⟩
    rcases (by omega : j = 0) with rfl
    · exact trivial

end Go.Proofs.YtbaofpdjfoaiiaaDoor
