/-
  The rules, asked one by one. Written by audit/gen_check.py.
-/
import Derived.Test.YtbaofpdjfoaiiaaGreatDoorZRules
import Derived.Test.YtbaofpdjfoaiiaaGreatDoorZMore
import Derived.Test.YtbaofpdjfoaiiaaGreatDoorZLists
import Derived.Test.YtbaofpdjfoaiiaaGreatDoorZParts
namespace Go.Proofs.YtbaofpdjfoaiiaaGreatDoor
open Go.ChangeShapes Go.WideShapes Go.ChangeAt Go.RowKit Go.Shelf
set_option linter.unusedVariables false
set_option linter.unusedSimpArgs false

theorem index8 (k : Nat) (hk : k < 8) (a0 a1 a2 a3 a4 a5 a6 a7 : Value) (w : World) : (Instr.index 31 (.agg #[a0, a1, a2, a3, a4, a5, a6, a7]) (.int .i64 (k : Int))).run Tryz.prog w = .ok ((#[a0, a1, a2, a3, a4, a5, a6, a7] : Array Value).getD k undef) w := by
  rcases (by omega : k = 0 ∨ k = 1 ∨ k = 2 ∨ k = 3 ∨ k = 4 ∨ k = 5 ∨ k = 6 ∨ k = 7) with rfl | rfl | rfl | rfl | rfl | rfl | rfl | rfl <;> kernel_rfl

set_option maxHeartbeats 3200000 in
set_option maxRecDepth 100000 in
theorem auHasRoots_c {H : AuH} {n c : Nat} (HV : HeapV H n c) (ad : Addr) (b : Bool) (hb : b = true ↔ H.R10) (w : World) (hv : IsVals w ad n H.V) (hT : SlotsLaid w) :
    Calls Tryz.prog 48 #[hpV H ad n c] w fun e w' => e = .returned (.bool b) ∧ Below w.heap.size w w' := by
  have HVL := hidp hv
  have HTL := hidp hT
  have HBC := hidp hb
  have HX0 := hidp (Held.new w 47 #[.int .i64 (H.t : Int), .int .i64 (H.p : Int), .int .i64 (H.s : Int), .slice (some ad) n c])
  obtain ⟨c0, c1, c2, c3⟩ := HX0.out.four
  have HBW := hidp (Bnew (B0 w) (.cells #[.int .i64 (H.t : Int), .int .i64 (H.p : Int), .int .i64 (H.s : Int), .slice (some ad) n c] 47))
  have hnr : 30 ≤ n := by have := HV.len; omega
  clear hv hT hb
  unfold hpV
  go_enter Tryz.func48, Tryz.ntmps48
  go_wp2_with (first
    | (go_at_call 32; refine (auRoots_c HV ad _ (HVL.out.below HBW.out)).mono ?_; rintro e w2 ⟨rfl, hb2⟩; have HB2 := hidp (Bgo HBW.out hb2); have HX2 := hidp (HX0.out.keep hb2); clear hb2; unfold rootsV)
    | fail)
  clear c0 c1 c2 c3
  go_loopw [7] (fun u wr => ∃ k : Nat, k ≤ 8 ∧ u = .int .i64 (k : Int) ∧ Hid (∀ i, i < k → H.V (22 + i) ≠ 0 → H.LiveAt (H.V (22 + i) : Int)) ∧ Hid (Held wr w.heap.size 47 #[.int .i64 (H.t : Int), .int .i64 (H.p : Int), .int .i64 (H.s : Int), .slice (some ad) n c]) ∧ Hid (Below w.heap.size w wr)) (fun u _ => 8 - (intOf u).toNat)
  case atStart => exact ⟨0, by omega, rfl, hidp (fun i h => absurd h (by omega)), HX2, HB2⟩
  case round =>
    clear HX2 HB2 HX0 HBW
    obtain ⟨k, hk, rfl, HOK, HX, HB⟩ := hrel
    obtain ⟨c0, c1, c2, c3⟩ := HX.out.four
    by_cases hlt : k < 8
    · have HVR := hidp (HVL.out.below HB.out)
      have HTR := hidp (HTL.out.below HB.out)
      have hv32 := HV.lt (22 + k) (by omega)
      have HST : Hid ((H.V (22 + k) ≠ 0 → H.LiveAt (H.V (22 + k) : Int)) → ∀ i, i < k + 1 → H.V (22 + i) ≠ 0 → H.LiveAt (H.V (22 + i) : Int)) := hidp (fun h i hi => by
        rcases Nat.lt_or_ge i k with h2 | h2
        · exact HOK.out i h2
        · have : i = k := by omega
          subst this; exact h)
      have HBN : Hid (¬ (H.V (22 + k) ≠ 0 → H.LiveAt (H.V (22 + k) : Int)) → b = false) := hidp (fun h => bool_no HBC.out (fun h2 => h (h2 k hlt)))
      obtain ⟨v, hvv⟩ : ∃ v, H.V (22 + k) = v := ⟨_, rfl⟩
      rw [hvv] at hv32 HST HBN
      have hix : ∀ w : World, (Instr.index 31 (.agg #[.int .i64 (H.V 22 : Nat), .int .i64 (H.V 23 : Nat), .int .i64 (H.V 24 : Nat), .int .i64 (H.V 25 : Nat), .int .i64 (H.V 26 : Nat), .int .i64 (H.V 27 : Nat), .int .i64 (H.V 28 : Nat), .int .i64 (H.V 29 : Nat)]) (.int .i64 (k : Int))).run Tryz.prog w = .ok (.int .i64 (v : Int)) w := fun w => by
        rw [index8 k hlt, ← hvv]
        clear hvv
        rcases (by omega : k = 0 ∨ k = 1 ∨ k = 2 ∨ k = 3 ∨ k = 4 ∨ k = 5 ∨ k = 6 ∨ k = 7) with rfl | rfl | rfl | rfl | rfl | rfl | rfl | rfl <;> rfl
      clear hvv
      clear HOK
      by_cases hz : v = 0
      · have q0 : ((v : Int) != 0) = false := by simp; omega
        have HOK1 := hidp (HST.out (fun h => absurd hz h))
        clear hz
        go_wp2_with fail
        go_roundw
        case rel => exact ⟨k + 1, by omega, by go_num, HOK1, HX, HB⟩
        case measure => simp [intOf]; omega
      · have q0 : ((v : Int) != 0) = true := by simp; omega
        by_cases hl : H.LiveAt (v : Int)
        · have HOK1 := hidp (HST.out (fun _ => hl))
          have HZ : Hid ((true = true) ↔ H.LiveAt (v : Int)) := hidp ⟨fun _ => hl, fun _ => rfl⟩
          have HLV : Hid (∀ W, IsVals W ad n H.V → SlotsLaid W → Calls Tryz.prog 91 #[hpV H ad n c, .int .i64 (v : Int)] W fun e w' => e = .returned (.bool true) ∧ Below W.heap.size W w') := hidp (fun W h1 h2 => auIsLive_c HV ad v hv32 true HZ.out W h1 h2)
          clear hl HZ
          go_wp2_with (first
            | (go_at_call 91; refine (HLV.out _ HVR.out HTR.out).mono ?_; rintro e w4 ⟨rfl, hb4⟩; have HB4 := hidp (Bgo HB.out hb4); have HX4 := hidp (HX.out.keep hb4); clear hb4)
            | fail)
          go_roundw
          case rel => exact ⟨k + 1, by omega, by go_num, HOK1, HX4, HB4⟩
          case measure => simp [intOf]; omega
        · have HBF := hidp (HBN.out (fun h => hl (h hz)))
          have HLV : Hid (∀ W, IsVals W ad n H.V → SlotsLaid W → Calls Tryz.prog 91 #[hpV H ad n c, .int .i64 (v : Int)] W fun e w' => e = .returned (.bool false) ∧ Below W.heap.size W w') := hidp (fun W h1 h2 => auIsLive_c HV ad v hv32 false ⟨fun h => (by cases h), fun h => absurd h hl⟩ W h1 h2)
          clear hl
          go_wp2_with (first
            | (go_at_call 91; refine (HLV.out _ HVR.out HTR.out).mono ?_; rintro e w4 ⟨rfl, hb4⟩; have HB4 := hidp (Bgo HB.out hb4); clear hb4)
            | fail)
          go_ret
          exact ⟨by rw [HBF.out]; rfl, HB4.out⟩
    · have hk8 : k = 8 := by omega
      have HBT : Hid (b = true) := hidp (bool_yes HBC.out (fun i hi => HOK.out i (by omega)))
      subst hk8
      go_wp2_with fail
      go_ret
      exact ⟨by rw [HBT.out]; rfl, HB.out⟩


def cfV (t q s : Int) (A : Option Addr) (n c : Nat) : Value := .agg #[.int .i64 t, .int .i64 q, .int .i64 s, .slice A n c]
set_option maxHeartbeats 1600000 in
theorem auIsOf_c (t q s : Int) (A : Option Addr) (n c : Nat) (hnc : n ≤ c) (hc : c ≤ maxLen) (b : Bool) (hb : b = true ↔ lC t q s ≠ 0 ∧ (n : Int) = lC t q s) (w : World) :
    Calls Tryz.prog 39 #[cfV t q s A n c] w fun e w' => e = .returned (.bool b) ∧ Below w.heap.size w w' := by
  have hcm : c ≤ 9223372036854775807 := hc
  have HX0 := hidp (Held.new w 47 #[.int .i64 t, .int .i64 q, .int .i64 s, .slice A n c])
  obtain ⟨c0, c1, c2, c3⟩ := HX0.out.four
  have HBW := hidp (Bnew (B0 w) (.cells #[.int .i64 t, .int .i64 q, .int .i64 s, .slice A n c] 47))
  have HCL := hidp (fun W => plCells_c t q s W)
  generalize lC t q s = y at *
  unfold cfV
  by_cases h0 : y = 0
  · have HBF : Hid (b = false) := hidp (bool_no hb (fun h => h.1 h0))
    subst h0
    clear hb
    go_enter Tryz.func39, Tryz.ntmps39
    go_wp2_with (first
      | (go_at_call 76; refine (HCL.out _).mono ?_; rintro e w2 ⟨rfl, hb2⟩; have HB2 := hidp (Bgo HBW.out hb2); clear hb2)
      | fail)
    go_ret
    exact ⟨by rw [HBF.out]; rfl, HB2.out⟩
  · have q0 : (y != 0) = true := by simpa using h0
    have q1 : ((n : Int) == y) = b := by
      by_cases h1 : (n : Int) = y
      · rw [bool_yes hb ⟨h0, h1⟩]; simpa using h1
      · rw [bool_no hb (fun h => h1 h.2)]; simpa using h1
    clear hb h0
    go_enter Tryz.func39, Tryz.ntmps39
    go_wp2_with (first
      | (go_at_call 76; refine (HCL.out _).mono ?_; rintro e w2 ⟨rfl, hb2⟩; have HB2 := hidp (Bgo HBW.out hb2); have HX2 := hidp (HX0.out.keep hb2); clear hb2 c0 c1 c2 c3; obtain ⟨c0, c1, c2, c3⟩ := HX2.out.four)
      | fail)
    go_ret
    exact ⟨rfl, HB2.out⟩


theorem cells_of {H : AuH} {n c : Nat} (HV : HeapV H n c) : lC (H.t : Int) (H.p : Int) (H.s : Int) ≠ 0 ∧ (n : Int) = lC (H.t : Int) (H.p : Int) (H.s : Int) := by
  have h := HV.len
  obtain ⟨e1, e2, e3, e4, e5, e6, e7⟩ := lay_yes HV.right
  rw [e5]
  omega
/-- the rules, as methods of a heap -/
def rulesC (v : Value) : Array Value := #[.func (.func 39) #[v] #[], .func (.func 40) #[v] #[], .func (.func 41) #[v] #[], .func (.func 42) #[v] #[], .func (.func 43) #[v] #[], .func (.func 44) #[v] #[], .func (.func 45) #[v] #[], .func (.func 46) #[v] #[], .func (.func 47) #[v] #[], .func (.func 48) #[v] #[]]
set_option maxHeartbeats 1600000 in
set_option maxRecDepth 100000 in
theorem auRules_c (t q s : Int) (A : Option Addr) (n c : Nat) (w : World) :
    Calls Tryz.prog 18 #[cfV t q s A n c] w fun e w' => ∃ g, e = .returned (.slice (some ⟨g, 0, none⟩) 10 10) ∧ Held w' g 26 (rulesC (cfV t q s A n c)) ∧ w.heap.size ≤ g ∧ Below w.heap.size w w' := by
  have HX0 := hidp (Held.new w 47 #[.int .i64 t, .int .i64 q, .int .i64 s, .slice A n c])
  obtain ⟨c0, c1, c2, c3⟩ := HX0.out.four
  unfold cfV rulesC
  go_enter Tryz.func18, Tryz.ntmps18
  go_wp2_with fail
  go_ret
  refine ⟨_, rfl, Held.new2 w _ _ _, by simp, Bnew (Bnew (B0 w) _) _⟩


/-- the rules' own words, from the second one on -/
def AuH.rule (H : AuH) : Nat → Prop
  | 1 => H.Tiled
  | 2 => H.R3
  | 3 => H.R4
  | 4 => H.R5
  | 5 => ∀ k, k < 11 → H.ListOk (2 + k)
  | 6 => ∀ k, k < 9 → H.ListOk (13 + k)
  | 7 => H.R8
  | 8 => H.R9
  | 9 => H.R10
  | _ => True
/-- what Check tells: 0, all rules hold; m + 1: the rule m (from 0 on) is the first that does not -/
def AuH.Told (H : AuH) (m : Nat) (b : Bool) : Prop := (b = true ∧ m = 0 ∧ ∀ i, i < 10 → H.rule i) ∨ (b = false ∧ ∃ k, m = k + 1 ∧ 1 ≤ k ∧ k < 10 ∧ (∀ i, i < k → H.rule i) ∧ ¬ H.rule k)
theorem AuH.Told.one {H : AuH} {m m' : Nat} {b b' : Bool} (h : H.Told m b) (h' : H.Told m' b') : m = m' ∧ b = b' := by
  rcases h with ⟨rfl, rfl, h1⟩ | ⟨rfl, k, rfl, k1, k2, h1, h2⟩ <;> rcases h' with ⟨rfl, rfl, h3⟩ | ⟨rfl, j, rfl, j1, j2, h3, h4⟩
  · exact ⟨rfl, rfl⟩
  · exact absurd (h1 j j2) h4
  · exact absurd (h3 k k2) h2
  · rcases Nat.lt_trichotomy k j with h5 | h5 | h5
    · exact absurd (h3 k h5) h2
    · subst h5; exact ⟨rfl, rfl⟩
    · exact absurd (h1 j h5) h4
theorem first_no (R : Nat → Prop) : ∀ n, (∀ i, i < n → R i) ∨ ∃ k, k < n ∧ (∀ i, i < k → R i) ∧ ¬ R k
  | 0 => .inl fun i h => absurd h (by omega)
  | n + 1 => by
    rcases first_no R n with h | ⟨k, h1, h2, h3⟩
    · by_cases hn : R n
      · exact .inl fun i hi => by
          rcases Nat.lt_or_ge i n with h4 | h4
          · exact h i h4
          · have : i = n := by omega
            subst this; exact hn
      · exact .inr ⟨n, by omega, h, hn⟩
    · exact .inr ⟨k, by omega, h2, h3⟩
theorem AuH.told_is (H : AuH) : ∃ m b, H.Told m b := by
  rcases first_no H.rule 10 with h | ⟨k, h1, h2, h3⟩
  · exact ⟨0, true, .inl ⟨rfl, rfl, h⟩⟩
  · refine ⟨k + 1, false, .inr ⟨rfl, k, rfl, ?_, h1, h2, h3⟩⟩
    rcases Nat.eq_zero_or_pos k with h6 | h6
    · subst h6; exact absurd trivial h3
    · exact h6


set_option maxHeartbeats 6400000 in
set_option maxRecDepth 100000 in
theorem auCheck_c {H : AuH} {n c : Nat} (HV : HeapV H n c) (ad : Addr) (w : World) (hv : IsVals w ad n H.V) (hT : SlotsLaid w) :
    Calls Tryz.prog 8 #[.agg #[.int .i64 (H.t : Int), .int .i64 (H.p : Int), .int .i64 (H.s : Int)], .slice (some ad) n c] w fun e w' => ∃ m b, e = .returned (.tuple #[.int .i64 ((m : Nat) : Int), .bool b]) ∧ H.Told m b ∧ Below w.heap.size w w' := by
  have HVL := hidp hv
  have HTL := hidp hT
  have hx := Held.new w 23 #[.int .i64 (H.t : Int), .int .i64 (H.p : Int), .int .i64 (H.s : Int)]
  obtain ⟨c0, c1, c2⟩ := hx.three
  have HBW := hidp (Bnew (B0 w) (.cells #[.int .i64 (H.t : Int), .int .i64 (H.p : Int), .int .i64 (H.s : Int)] 23))
  have HRU := hidp (fun W => auRules_c (H.t : Int) (H.p : Int) (H.s : Int) (some ad) n c W)
  have HOF := hidp (fun W => auIsOf_c (H.t : Int) (H.p : Int) (H.s : Int) (some ad) n c HV.cap HV.max true ⟨fun _ => (cells_of HV), fun _ => rfl⟩ W)
  have hcm : c ≤ 9223372036854775807 := HV.max
  clear hx hv hT
  unfold cfV at HRU HOF
  go_enter Tryz.func8, Tryz.ntmps8
  go_wp2_with (first
    | (go_at_call 18; refine (HRU.out _).mono ?_; rintro e w2 ⟨g, rfl, hh2, hg2, hb2⟩; have HR2 := hidp hh2; have HB2 := hidp (Bgo HBW.out hb2); clear hh2 hg2 hb2)
    | fail)
  clear c0 c1 c2 HBW HRU
  refine wp_loop_rounds 11 ?_
  rw [rounds_succ]
  have e0 := HR2.out.cell 0
  simp only [rulesC, List.getElem?_toArray, List.getElem?_cons_zero, List.getElem?_cons_succ] at e0
  go_wp2_with (first
    | (go_at_call 39; refine (HOF.out _).mono ?_; rintro e w3 ⟨rfl, hb3⟩; have HB3 := hidp (Bgo HB2.out hb3); have HR3 := hidp (HR2.out.keep hb3); clear hb3)
    | fail)
  clear e0 HR2
  rw [rounds_succ]
  have e1 := HR3.out.cell 1
  simp only [rulesC, List.getElem?_toArray, List.getElem?_cons_zero, List.getElem?_cons_succ] at e1
  by_cases hr : H.rule 1
  · have HOK : Hid (H.rule 1) := hidp hr
    have HOK1 := HOK
    have HTI : Hid H.Tiled := hidp hr
    clear hr
    go_wp2_with (first
      | (go_at_call 40; refine (auHasSpans_c HV ad true ⟨fun _ => HOK.out, fun _ => rfl⟩ _ (HVL.out.below HB3.out)).mono ?_; rintro e w4 ⟨rfl, hb4⟩; have HB4 := hidp (Bgo HB3.out hb4); have HR4 := hidp (HR3.out.keep hb4); clear hb4)
      | fail)
    clear e1 HOK HR3
    rw [rounds_succ]
    have e2 := HR4.out.cell 2
    simp only [rulesC, List.getElem?_toArray, List.getElem?_cons_zero, List.getElem?_cons_succ] at e2
    by_cases hr : H.rule 2
    · have HOK : Hid (H.rule 2) := hidp hr
      have HOK2 := HOK
      skip
      clear hr
      go_wp2_with (first
        | (go_at_call 41; refine (auHasFeet_c HV HTI.out ad true ⟨fun _ => HOK.out, fun _ => rfl⟩ _ (HVL.out.below HB4.out)).mono ?_; rintro e w5 ⟨rfl, hb5⟩; have HB5 := hidp (Bgo HB4.out hb5); have HR5 := hidp (HR4.out.keep hb5); clear hb5)
        | fail)
      clear e2 HOK HR4
      rw [rounds_succ]
      have e3 := HR5.out.cell 3
      simp only [rulesC, List.getElem?_toArray, List.getElem?_cons_zero, List.getElem?_cons_succ] at e3
      by_cases hr : H.rule 3
      · have HOK : Hid (H.rule 3) := hidp hr
        have HOK3 := HOK
        skip
        clear hr
        go_wp2_with (first
          | (go_at_call 42; refine (auHasFreeApart_c HV HTI.out ad true ⟨fun _ => HOK.out, fun _ => rfl⟩ _ (HVL.out.below HB5.out)).mono ?_; rintro e w6 ⟨rfl, hb6⟩; have HB6 := hidp (Bgo HB5.out hb6); have HR6 := hidp (HR5.out.keep hb6); clear hb6)
          | fail)
        clear e3 HOK HR5
        rw [rounds_succ]
        have e4 := HR6.out.cell 4
        simp only [rulesC, List.getElem?_toArray, List.getElem?_cons_zero, List.getElem?_cons_succ] at e4
        by_cases hr : H.rule 4
        · have HOK : Hid (H.rule 4) := hidp hr
          have HOK4 := HOK
          skip
          clear hr
          go_wp2_with (first
            | (go_at_call 43; refine (auHasSlots_c HV HTI.out ad true ⟨fun _ => HOK.out, fun _ => rfl⟩ _ (HVL.out.below HB6.out) (HTL.out.below HB6.out)).mono ?_; rintro e w7 ⟨rfl, hb7⟩; have HB7 := hidp (Bgo HB6.out hb7); have HR7 := hidp (HR6.out.keep hb7); clear hb7)
            | fail)
          clear e4 HOK HR6
          rw [rounds_succ]
          have e5 := HR7.out.cell 5
          simp only [rulesC, List.getElem?_toArray, List.getElem?_cons_zero, List.getElem?_cons_succ] at e5
          by_cases hr : H.rule 5
          · have HOK : Hid (H.rule 5) := hidp hr
            have HOK5 := HOK
            skip
            clear hr
            go_wp2_with (first
              | (go_at_call 44; refine (auHasBins_c HV HTI.out ad true ⟨fun _ => HOK.out, fun _ => rfl⟩ _ (HVL.out.below HB7.out) (HTL.out.below HB7.out)).mono ?_; rintro e w8 ⟨rfl, hb8⟩; have HB8 := hidp (Bgo HB7.out hb8); have HR8 := hidp (HR7.out.keep hb8); clear hb8)
              | fail)
            clear e5 HOK HR7
            rw [rounds_succ]
            have e6 := HR8.out.cell 6
            simp only [rulesC, List.getElem?_toArray, List.getElem?_cons_zero, List.getElem?_cons_succ] at e6
            by_cases hr : H.rule 6
            · have HOK : Hid (H.rule 6) := hidp hr
              have HOK6 := HOK
              skip
              clear hr
              go_wp2_with (first
                | (go_at_call 45; refine (auHasRacks_c HV HTI.out ad true ⟨fun _ => HOK.out, fun _ => rfl⟩ _ (HVL.out.below HB8.out) (HTL.out.below HB8.out)).mono ?_; rintro e w9 ⟨rfl, hb9⟩; have HB9 := hidp (Bgo HB8.out hb9); have HR9 := hidp (HR8.out.keep hb9); clear hb9)
                | fail)
              clear e6 HOK HR8
              rw [rounds_succ]
              have e7 := HR9.out.cell 7
              simp only [rulesC, List.getElem?_toArray, List.getElem?_cons_zero, List.getElem?_cons_succ] at e7
              by_cases hr : H.rule 7
              · have HOK : Hid (H.rule 7) := hidp hr
                have HOK7 := HOK
                skip
                clear hr
                go_wp2_with (first
                  | (go_at_call 46; refine (auHasNoOther_c HV HTI.out ad true ⟨fun _ => HOK.out, fun _ => rfl⟩ _ (HVL.out.below HB9.out) (HTL.out.below HB9.out)).mono ?_; rintro e w10 ⟨rfl, hb10⟩; have HB10 := hidp (Bgo HB9.out hb10); have HR10 := hidp (HR9.out.keep hb10); clear hb10)
                  | fail)
                clear e7 HOK HR9
                rw [rounds_succ]
                have e8 := HR10.out.cell 8
                simp only [rulesC, List.getElem?_toArray, List.getElem?_cons_zero, List.getElem?_cons_succ] at e8
                by_cases hr : H.rule 8
                · have HOK : Hid (H.rule 8) := hidp hr
                  have HOK8 := HOK
                  skip
                  clear hr
                  go_wp2_with (first
                    | (go_at_call 47; refine (auHasCounts_c HV HTI.out ad true ⟨fun _ => HOK.out, fun _ => rfl⟩ _ (HVL.out.below HB10.out)).mono ?_; rintro e w11 ⟨rfl, hb11⟩; have HB11 := hidp (Bgo HB10.out hb11); have HR11 := hidp (HR10.out.keep hb11); clear hb11)
                    | fail)
                  clear e8 HOK HR10
                  rw [rounds_succ]
                  have e9 := HR11.out.cell 9
                  simp only [rulesC, List.getElem?_toArray, List.getElem?_cons_zero, List.getElem?_cons_succ] at e9
                  by_cases hr : H.rule 9
                  · have HOK : Hid (H.rule 9) := hidp hr
                    have HOK9 := HOK
                    skip
                    clear hr
                    go_wp2_with (first
                      | (go_at_call 48; refine (auHasRoots_c HV ad true ⟨fun _ => HOK.out, fun _ => rfl⟩ _ (HVL.out.below HB11.out) (HTL.out.below HB11.out)).mono ?_; rintro e w12 ⟨rfl, hb12⟩; have HB12 := hidp (Bgo HB11.out hb12); have HR12 := hidp (HR11.out.keep hb12); clear hb12)
                      | fail)
                    clear e9 HOK HR11
                    rw [rounds_succ]
                    go_wp2_with fail
                    go_ret2
                    exact ⟨0, true, rfl, .inl ⟨rfl, rfl, fun j hj => by
                      rcases (by omega : j = 0 ∨ j = 1 ∨ j = 2 ∨ j = 3 ∨ j = 4 ∨ j = 5 ∨ j = 6 ∨ j = 7 ∨ j = 8 ∨ j = 9) with rfl | rfl | rfl | rfl | rfl | rfl | rfl | rfl | rfl | rfl
                      · exact trivial
                      · exact HOK1.out
                      · exact HOK2.out
                      · exact HOK3.out
                      · exact HOK4.out
                      · exact HOK5.out
                      · exact HOK6.out
                      · exact HOK7.out
                      · exact HOK8.out
                      · exact HOK9.out⟩, HB12.out⟩
                  · have HNO : Hid (¬ H.rule 9) := hidp hr
                    clear hr
                    go_wp2_with (first
                      | (go_at_call 48; refine (auHasRoots_c HV ad false ⟨fun h => (by cases h), fun h => absurd h HNO.out⟩ _ (HVL.out.below HB11.out) (HTL.out.below HB11.out)).mono ?_; rintro e w12 ⟨rfl, hb12⟩; have HB12 := hidp (Bgo HB11.out hb12); have HR12 := hidp (HR11.out.keep hb12); clear hb12)
                      | fail)
                    go_ret2
                    refine ⟨10, false, rfl, .inr ⟨rfl, 9, rfl, by omega, by omega, fun j hj => ?_, HNO.out⟩, HB12.out⟩
                    rcases (by omega : j = 0 ∨ j = 1 ∨ j = 2 ∨ j = 3 ∨ j = 4 ∨ j = 5 ∨ j = 6 ∨ j = 7 ∨ j = 8) with rfl | rfl | rfl | rfl | rfl | rfl | rfl | rfl | rfl
                    · exact trivial
                    · exact HOK1.out
                    · exact HOK2.out
                    · exact HOK3.out
                    · exact HOK4.out
                    · exact HOK5.out
                    · exact HOK6.out
                    · exact HOK7.out
                    · exact HOK8.out
                · have HNO : Hid (¬ H.rule 8) := hidp hr
                  clear hr
                  go_wp2_with (first
                    | (go_at_call 47; refine (auHasCounts_c HV HTI.out ad false ⟨fun h => (by cases h), fun h => absurd h HNO.out⟩ _ (HVL.out.below HB10.out)).mono ?_; rintro e w11 ⟨rfl, hb11⟩; have HB11 := hidp (Bgo HB10.out hb11); have HR11 := hidp (HR10.out.keep hb11); clear hb11)
                    | fail)
                  go_ret2
                  refine ⟨9, false, rfl, .inr ⟨rfl, 8, rfl, by omega, by omega, fun j hj => ?_, HNO.out⟩, HB11.out⟩
                  rcases (by omega : j = 0 ∨ j = 1 ∨ j = 2 ∨ j = 3 ∨ j = 4 ∨ j = 5 ∨ j = 6 ∨ j = 7) with rfl | rfl | rfl | rfl | rfl | rfl | rfl | rfl
                  · exact trivial
                  · exact HOK1.out
                  · exact HOK2.out
                  · exact HOK3.out
                  · exact HOK4.out
                  · exact HOK5.out
                  · exact HOK6.out
                  · exact HOK7.out
              · have HNO : Hid (¬ H.rule 7) := hidp hr
                clear hr
                go_wp2_with (first
                  | (go_at_call 46; refine (auHasNoOther_c HV HTI.out ad false ⟨fun h => (by cases h), fun h => absurd h HNO.out⟩ _ (HVL.out.below HB9.out) (HTL.out.below HB9.out)).mono ?_; rintro e w10 ⟨rfl, hb10⟩; have HB10 := hidp (Bgo HB9.out hb10); have HR10 := hidp (HR9.out.keep hb10); clear hb10)
                  | fail)
                go_ret2
                refine ⟨8, false, rfl, .inr ⟨rfl, 7, rfl, by omega, by omega, fun j hj => ?_, HNO.out⟩, HB10.out⟩
                rcases (by omega : j = 0 ∨ j = 1 ∨ j = 2 ∨ j = 3 ∨ j = 4 ∨ j = 5 ∨ j = 6) with rfl | rfl | rfl | rfl | rfl | rfl | rfl
                · exact trivial
                · exact HOK1.out
                · exact HOK2.out
                · exact HOK3.out
                · exact HOK4.out
                · exact HOK5.out
                · exact HOK6.out
            · have HNO : Hid (¬ H.rule 6) := hidp hr
              clear hr
              go_wp2_with (first
                | (go_at_call 45; refine (auHasRacks_c HV HTI.out ad false ⟨fun h => (by cases h), fun h => absurd h HNO.out⟩ _ (HVL.out.below HB8.out) (HTL.out.below HB8.out)).mono ?_; rintro e w9 ⟨rfl, hb9⟩; have HB9 := hidp (Bgo HB8.out hb9); have HR9 := hidp (HR8.out.keep hb9); clear hb9)
                | fail)
              go_ret2
              refine ⟨7, false, rfl, .inr ⟨rfl, 6, rfl, by omega, by omega, fun j hj => ?_, HNO.out⟩, HB9.out⟩
              rcases (by omega : j = 0 ∨ j = 1 ∨ j = 2 ∨ j = 3 ∨ j = 4 ∨ j = 5) with rfl | rfl | rfl | rfl | rfl | rfl
              · exact trivial
              · exact HOK1.out
              · exact HOK2.out
              · exact HOK3.out
              · exact HOK4.out
              · exact HOK5.out
          · have HNO : Hid (¬ H.rule 5) := hidp hr
            clear hr
            go_wp2_with (first
              | (go_at_call 44; refine (auHasBins_c HV HTI.out ad false ⟨fun h => (by cases h), fun h => absurd h HNO.out⟩ _ (HVL.out.below HB7.out) (HTL.out.below HB7.out)).mono ?_; rintro e w8 ⟨rfl, hb8⟩; have HB8 := hidp (Bgo HB7.out hb8); have HR8 := hidp (HR7.out.keep hb8); clear hb8)
              | fail)
            go_ret2
            refine ⟨6, false, rfl, .inr ⟨rfl, 5, rfl, by omega, by omega, fun j hj => ?_, HNO.out⟩, HB8.out⟩
            rcases (by omega : j = 0 ∨ j = 1 ∨ j = 2 ∨ j = 3 ∨ j = 4) with rfl | rfl | rfl | rfl | rfl
            · exact trivial
            · exact HOK1.out
            · exact HOK2.out
            · exact HOK3.out
            · exact HOK4.out
        · have HNO : Hid (¬ H.rule 4) := hidp hr
          clear hr
          go_wp2_with (first
            | (go_at_call 43; refine (auHasSlots_c HV HTI.out ad false ⟨fun h => (by cases h), fun h => absurd h HNO.out⟩ _ (HVL.out.below HB6.out) (HTL.out.below HB6.out)).mono ?_; rintro e w7 ⟨rfl, hb7⟩; have HB7 := hidp (Bgo HB6.out hb7); have HR7 := hidp (HR6.out.keep hb7); clear hb7)
            | fail)
          go_ret2
          refine ⟨5, false, rfl, .inr ⟨rfl, 4, rfl, by omega, by omega, fun j hj => ?_, HNO.out⟩, HB7.out⟩
          rcases (by omega : j = 0 ∨ j = 1 ∨ j = 2 ∨ j = 3) with rfl | rfl | rfl | rfl
          · exact trivial
          · exact HOK1.out
          · exact HOK2.out
          · exact HOK3.out
      · have HNO : Hid (¬ H.rule 3) := hidp hr
        clear hr
        go_wp2_with (first
          | (go_at_call 42; refine (auHasFreeApart_c HV HTI.out ad false ⟨fun h => (by cases h), fun h => absurd h HNO.out⟩ _ (HVL.out.below HB5.out)).mono ?_; rintro e w6 ⟨rfl, hb6⟩; have HB6 := hidp (Bgo HB5.out hb6); have HR6 := hidp (HR5.out.keep hb6); clear hb6)
          | fail)
        go_ret2
        refine ⟨4, false, rfl, .inr ⟨rfl, 3, rfl, by omega, by omega, fun j hj => ?_, HNO.out⟩, HB6.out⟩
        rcases (by omega : j = 0 ∨ j = 1 ∨ j = 2) with rfl | rfl | rfl
        · exact trivial
        · exact HOK1.out
        · exact HOK2.out
    · have HNO : Hid (¬ H.rule 2) := hidp hr
      clear hr
      go_wp2_with (first
        | (go_at_call 41; refine (auHasFeet_c HV HTI.out ad false ⟨fun h => (by cases h), fun h => absurd h HNO.out⟩ _ (HVL.out.below HB4.out)).mono ?_; rintro e w5 ⟨rfl, hb5⟩; have HB5 := hidp (Bgo HB4.out hb5); have HR5 := hidp (HR4.out.keep hb5); clear hb5)
        | fail)
      go_ret2
      refine ⟨3, false, rfl, .inr ⟨rfl, 2, rfl, by omega, by omega, fun j hj => ?_, HNO.out⟩, HB5.out⟩
      rcases (by omega : j = 0 ∨ j = 1) with rfl | rfl
      · exact trivial
      · exact HOK1.out
  · have HNO : Hid (¬ H.rule 1) := hidp hr
    clear hr
    go_wp2_with (first
      | (go_at_call 40; refine (auHasSpans_c HV ad false ⟨fun h => (by cases h), fun h => absurd h HNO.out⟩ _ (HVL.out.below HB3.out)).mono ?_; rintro e w4 ⟨rfl, hb4⟩; have HB4 := hidp (Bgo HB3.out hb4); have HR4 := hidp (HR3.out.keep hb4); clear hb4)
      | fail)
    go_ret2
    refine ⟨2, false, rfl, .inr ⟨rfl, 1, rfl, by omega, by omega, fun j hj => ?_, HNO.out⟩, HB4.out⟩
    rcases (by omega : j = 0) with rfl
    · exact trivial

end Go.Proofs.YtbaofpdjfoaiiaaGreatDoor

/-
  Check at whatever values, and heapOf. Written by audit/gen_heapof.py.
-/
namespace Go.Proofs.YtbaofpdjfoaiiaaGreatDoor
open Go.ChangeShapes Go.WideShapes Go.ChangeAt Go.RowKit Go.Shelf
set_option linter.unusedVariables false
set_option linter.unusedSimpArgs false

set_option maxHeartbeats 1600000 in
set_option maxRecDepth 100000 in
theorem auCheck_no (t q s : Int) (A : Option Addr) (n c : Nat) (hnc : n ≤ c) (hc : c ≤ maxLen) (h : ¬ (lC t q s ≠ 0 ∧ (n : Int) = lC t q s)) (w : World) :
    Calls Tryz.prog 8 #[.agg #[.int .i64 t, .int .i64 q, .int .i64 s], .slice A n c] w fun e w' => e = .returned (.tuple #[.int .i64 1, .bool false]) ∧ Below w.heap.size w w' := by
  have hx := Held.new w 23 #[.int .i64 t, .int .i64 q, .int .i64 s]
  obtain ⟨c0, c1, c2⟩ := hx.three
  have HBW := hidp (Bnew (B0 w) (.cells #[.int .i64 t, .int .i64 q, .int .i64 s] 23))
  have HRU := hidp (fun W => auRules_c t q s A n c W)
  have HOF := hidp (fun W => auIsOf_c t q s A n c hnc hc false ⟨fun h2 => (by cases h2), fun h2 => absurd h2 h⟩ W)
  clear hx h
  unfold cfV at HRU HOF
  go_enter Tryz.func8, Tryz.ntmps8
  go_wp2_with (first
    | (go_at_call 18; refine (HRU.out _).mono ?_; rintro e w2 ⟨g, rfl, hh2, hg2, hb2⟩; have HR2 := hidp hh2; have HB2 := hidp (Bgo HBW.out hb2); clear hh2 hg2 hb2)
    | fail)
  clear c0 c1 c2 HBW HRU
  refine wp_loop_rounds 1 ?_
  rw [rounds_succ]
  have e0 := HR2.out.cell 0
  simp only [rulesC, List.getElem?_toArray, List.getElem?_cons_zero, List.getElem?_cons_succ] at e0
  go_wp2_with (first
    | (go_at_call 39; refine (HOF.out _).mono ?_; rintro e w3 ⟨rfl, hb3⟩; have HB3 := hidp (Bgo HB2.out hb3); clear hb3)
    | fail)
  go_ret2
  exact ⟨rfl, HB3.out⟩

/-- what Check tells of a configuration and values, in every world that has grown -/
def CheckIs (w : World) (t q s : Int) (A : Option Addr) (n c : Nat) (m : Nat) (b : Bool) : Prop :=
  ∀ W, Below w.heap.size w W → Calls Tryz.prog 8 #[.agg #[.int .i64 t, .int .i64 q, .int .i64 s], .slice A n c] W fun e w' => e = .returned (.tuple #[.int .i64 (m : Int), .bool b]) ∧ Below W.heap.size W w'
theorem CheckIs.grown {w w1 : World} {t q s : Int} {A : Option Addr} {n c m : Nat} {b : Bool} (h : CheckIs w t q s A n c m b) (hb : Below w.heap.size w w1) : CheckIs w1 t q s A n c m b :=
  fun W hW => h W (Bgo hb hW)
theorem checkIs_no (w : World) (t q s : Int) (A : Option Addr) (n c : Nat) (hnc : n ≤ c) (hc : c ≤ maxLen) (h : ¬ (lC t q s ≠ 0 ∧ (n : Int) = lC t q s)) : CheckIs w t q s A n c 1 false :=
  fun W _ => auCheck_no t q s A n c hnc hc h W
theorem checkIs_yes {H : AuH} {n c : Nat} (HV : HeapV H n c) (ad : Addr) (w : World) (hv : IsVals w ad n H.V) (hT : SlotsLaid w) {m : Nat} {b : Bool} (h : H.Told m b) : CheckIs w H.t H.p H.s (some ad) n c m b :=
  fun W hW => (auCheck_c HV ad W (hv.below hW) (hT.below hW)).mono (by
    rintro e w' ⟨m', b', rfl, h', hb⟩
    obtain ⟨rfl, rfl⟩ := h.one h'
    exact ⟨rfl, hb⟩)

set_option maxHeartbeats 1600000 in
theorem auHeapOf_c (t q s : Int) (A : Option Addr) (n c m : Nat) (b : Bool) (w : World) (hC : CheckIs w t q s A n c m b) :
    Calls Tryz.prog 30 #[.agg #[.int .i64 t, .int .i64 q, .int .i64 s], .slice A n c] w fun e w' => e = .returned (.tuple #[cfV t q s A n c, .bool b]) ∧ Below w.heap.size w w' := by
  have hx := (Held.new w 23 #[.int .i64 t, .int .i64 q, .int .i64 s]).alloc (.cells #[.int .i64 0, .int .i64 0, .int .i64 0, .slice none 0 0] 47)
  obtain ⟨c0, c1, c2⟩ := hx.three
  have HX := hidp hx
  have h4 := Held.new2 w (.cells #[.int .i64 t, .int .i64 q, .int .i64 s] 23) 47 #[.int .i64 0, .int .i64 0, .int .i64 0, .slice none 0 0]
  have HX4 := hidp h4
  have HBW := hidp (Bnew (Bnew (B0 w) (.cells #[.int .i64 t, .int .i64 q, .int .i64 s] 23)) (.cells #[.int .i64 0, .int .i64 0, .int .i64 0, .slice none 0 0] 47))
  have HCK := hidp hC
  clear hx hC h4
  go_enter Tryz.func30, Tryz.ntmps30
  go_wp2_with (first
    | (go_at_call 8; refine (HCK.out _ HBW.out).mono ?_; rintro e w2 ⟨rfl, hb2⟩; have HB2 := hidp (Bgo HBW.out hb2); have HX2 := hidp (HX.out.keep hb2); have HX42 := hidp (HX4.out.keep hb2); clear hb2 c0 c1 c2; obtain ⟨c0, c1, c2⟩ := HX2.out.three; obtain ⟨d0, d1, d2, d3⟩ := HX42.out.four; have f0 := HX42.out.thawed 0; have f1 := HX42.out.thawed 1; have f2 := HX42.out.thawed 2; have f3 := HX42.out.thawed 3)
    | fail)
  have z := (((HX42.out.put 0 (.int .i64 t)).put 1 (.int .i64 q)).put 2 (.int .i64 s)).put 3 (.slice A n c)
  have y0 := z.cell 0
  have y1 := z.cell 1
  have y2 := z.cell 2
  have y3 := z.cell 3
  simp at y0 y1 y2 y3
  refine bodyPost_ret (v := .tuple #[cfV t q s A n c, .bool b]) (by simp [results, Tryz.results30, go_sem, cfV, y0, y1, y2, y3]) rfl ⟨rfl, ?_⟩
  exact Bput (Bput (Bput (Bput HB2.out (by simp) _) (by simp) _) (by simp) _) (by simp) _

end Go.Proofs.YtbaofpdjfoaiiaaGreatDoor

/-
  The live blocks; Parts, Live. Written by audit/gen_live.py.
-/
namespace Go.Proofs.YtbaofpdjfoaiiaaGreatDoor
open Go.ChangeShapes Go.WideShapes Go.ChangeAt Go.RowKit Go.Shelf
set_option linter.unusedVariables false
set_option linter.unusedSimpArgs false

def blocksOf (l : List (Int × Int × Int)) : List (Int × Int) := (l.filter fun x => decide (x.1 = 2)).map fun x => x.2
def bkVs (l : List (Int × Int)) : List Value := l.flatMap fun x => [.int .i64 x.1, .int .i64 x.2]
theorem bkVs_len (l : List (Int × Int)) : (bkVs l).length = l.length * 2 := by unfold bkVs; induction l with
  | nil => rfl
  | cons x l ih => rw [List.flatMap_cons, List.length_append, ih]; simp; omega
theorem bkVs_snoc (l : List (Int × Int)) (x : Int × Int) : bkVs (l ++ [x]) = bkVs l ++ [.int .i64 x.1, .int .i64 x.2] := by unfold bkVs; rw [List.flatMap_append]; simp
theorem blocksOf_app (l m : List (Int × Int × Int)) : blocksOf (l ++ m) = blocksOf l ++ blocksOf m := by unfold blocksOf; rw [List.filter_append, List.map_append]
theorem blocksOf_yes {x : Int × Int × Int} (h : x.1 = 2) : blocksOf [x] = [x.2] := by simp [blocksOf, h]
theorem blocksOf_no {x : Int × Int × Int} (h : x.1 ≠ 2) : blocksOf [x] = [] := by simp [blocksOf, h]
theorem blocksOf_len (l : List (Int × Int × Int)) : (blocksOf l).length ≤ l.length := by unfold blocksOf; rw [List.length_map]; exact List.length_filter_le _ _
theorem blockInfo : (Tryz.prog.info? 58).map (fun i => (i.zero, i.size, i.bytes)) = some (some (.agg #[.int .i64 0, .int .i64 0]), 2, 16) := by kernel_rfl
theorem ptVs_get : ∀ (l : List (Int × Int × Int)) (i : Nat) (x : Int × Int × Int), l[i]? = some x → (ptVs l)[i * 3]? = some (.int .i64 x.1) ∧ (ptVs l)[i * 3 + 1]? = some (.int .i64 x.2.1) ∧ (ptVs l)[i * 3 + 2]? = some (.int .i64 x.2.2)
  | [], i, x, h => by simp at h
  | y :: l, 0, x, h => by
    simp at h
    subst h
    simp [ptVs]
  | y :: l, i + 1, x, h => by
    have h' : l[i]? = some x := by simpa using h
    obtain ⟨h1, h2, h3⟩ := ptVs_get l i x h'
    have e : ptVs (y :: l) = [.int .i64 y.1, .int .i64 y.2.1, .int .i64 y.2.2] ++ ptVs l := by simp [ptVs]
    have g : ∀ k, (ptVs (y :: l))[(i * 3 + k) + 3]? = (ptVs l)[i * 3 + k]? := fun k => by
      rw [e, List.getElem?_append_right (by simp)]
      simp
    exact ⟨by have := g 0; rw [Nat.add_zero] at this; rw [show (i + 1) * 3 = i * 3 + 3 by omega, this]; exact h1, by rw [show (i + 1) * 3 + 1 = (i * 3 + 1) + 3 by omega, g]; exact h2, by rw [show (i + 1) * 3 + 2 = (i * 3 + 2) + 3 by omega, g]; exact h3⟩
theorem own_caps3 {w : World} {base : Nat} {e : TypeId} {size n c : Nat} {A : Option Addr} {xs : List Value} (h : w.ownsRow base e size (.slice A n c) n xs) : n ≤ c ∧ c ≤ maxLen := by
  rcases h.2 with ⟨h1, h2⟩ | ⟨g, cap, cur, h1, hb, hg, hnc, hcm, hr⟩
  · injection h1 with _ h1 h3; omega
  · injection h1 with _ _ h3; omega
/-- the parts of a row, one by one -/
theorem own_part {w : World} {base n g cap : Nat} {e : TypeId} {l : List (Int × Int × Int)} (h : w.ownsRow base e 3 (.slice (some ⟨g, 0, none⟩) n cap) n (ptVs l)) (hn : l.length = n) {i : Nat} {x : Int × Int × Int} (hx : l[i]? = some x) :
    w.cell? ⟨g, i * 3, none⟩ = some (.int .i64 x.1) ∧ w.cell? ⟨g, i * 3 + 1, none⟩ = some (.int .i64 x.2.1) ∧ w.cell? ⟨g, i * 3 + 2, none⟩ = some (.int .i64 x.2.2) := by
  have hi : i < n := by
    rcases Nat.lt_or_ge i n with h1 | h1
    · exact h1
    · rw [List.getElem?_eq_none (by omega)] at hx; cases hx
  obtain ⟨h1, h2, h3⟩ := ptVs_get l i x hx
  exact ⟨(h.cellAt _ (by omega)).trans h1, (h.cellAt _ (by omega)).trans h2, (h.cellAt _ (by omega)).trans h3⟩

set_option maxHeartbeats 3200000 in
set_option maxRecDepth 100000 in
theorem auLive_c {H : AuH} {n c : Nat} (HV : HeapV H n c) (ht : H.Tiled) (ad : Addr) (w : World) (hv : IsVals w ad n H.V) (hT : SlotsLaid w) :
    Calls Tryz.prog 31 #[hpV H ad n c] w fun e w' => ∃ u, e = .returned u ∧ w'.ownsRow w.heap.size 58 2 u (blocksOf H.parts).length (bkVs (blocksOf H.parts)) ∧ Below w.heap.size w w' := by
  have hx := Held.new w 47 #[.int .i64 (H.t : Int), .int .i64 (H.p : Int), .int .i64 (H.s : Int), .slice (some ad) n c]
  obtain ⟨c0, c1, c2, c3⟩ := hx.four
  have HBW := hidp (Bnew (B0 w) (.cells #[.int .i64 (H.t : Int), .int .i64 (H.p : Int), .int .i64 (H.s : Int), .slice (some ad) n c] 47))
  have HPS := hidp (auParts_c HV ht ad _ (hv.below HBW.out) (hT.below HBW.out))
  have hpl := AuH.parts_len (H := H) H.p
  have hpp := HV.nums.2.2.2.1
  obtain ⟨j0, hjn, hjz0, hjz1, hjz2⟩ := info_parts blockInfo
  obtain ⟨L, hL⟩ : ∃ L, H.parts = L := ⟨_, rfl⟩
  have hpl : L.length ≤ 40000 := by rw [← hL]; unfold AuH.parts; omega
  rw [hL] at HPS ⊢
  obtain ⟨nl, hnl⟩ : ∃ nl, L.length = nl := ⟨_, rfl⟩
  rw [hnl] at HPS hpl
  have HNL := hidp hnl
  clear hx hL hnl hv hT
  unfold hpV
  go_enter Tryz.func31, Tryz.ntmps31
  go_wp2_with (first
    | (go_at_call 37; refine HPS.out.mono ?_; rintro e w2 ⟨v, rfl, hown2, hb2⟩; obtain ⟨Av, cv, rfl⟩ := own_slice hown2; have HO2 := hidp hown2; have HB2 := hidp (Bgo HBW.out hb2); clear hown2 hb2)
    | fail)
  clear c0 c1 c2 c3 HBW HPS
  have HC2 := hidp (own_caps3 HO2.out)
  have hcv : nl ≤ cv ∧ cv ≤ 9223372036854775807 := HC2.out
  go_loopw [3, 9] (fun u i wr => ∃ (k m : Nat), k ≤ nl ∧ i = .int .i64 (k : Int) ∧ m ≤ k ∧ Hid ((blocksOf (L.take k)).length = m) ∧ Hid (wr.ownsRow w2.heap.size 58 2 u m (bkVs (blocksOf (L.take k)))) ∧ Hid (Below w2.heap.size w2 wr)) (fun _ i _ => nl - (intOf i).toNat)
  case atStart => exact ⟨0, 0, by omega, rfl, by omega, hidp rfl, hidp (World.ownsRow_nil _ _ _ _), hidp (B0 _)⟩
  case round =>
    obtain ⟨k, m, hk, rfl, hmk, HM, HO, HB⟩ := hrel
    by_cases hlt : k < nl
    · obtain ⟨x, hx⟩ : ∃ x, L[k]? = some x := ⟨_, List.getElem?_eq_getElem (by have := HNL.out; omega)⟩
      obtain ⟨gv, cv', hvv, hbv, hlv⟩ := HO2.out.form (by omega)
      injection hvv with hvv hn0 hcc
      subst hvv
      subst hcc
      obtain ⟨p0, p1, p2⟩ := own_part (own_below HO2.out HB.out) HNL.out hx
      have HTK : Hid (L.take (k + 1) = L.take k ++ [x]) := hidp (by rw [List.take_add_one, hx]; rfl)
      obtain ⟨kd, a, z⟩ := x
      have t0 : decide ((k : Int) < nl) = true := decide_eq_true (by omega)
      clear hn0 hx
      simp only at p0 p1 p2
      have hbs := HB.out.size
      by_cases h2 : kd = 2
      · subst h2
        have HB1 : Hid (blocksOf (L.take (k + 1)) = blocksOf (L.take k) ++ [(a, z)]) := hidp (by rw [HTK.out, blocksOf_app, blocksOf_yes rfl])
        go_wp2_with (first
          | (at_builtin
             refine wpList_append_lies _ rfl _ _ 30 rfl w2.heap.size 58 j0 (.agg #[.int .i64 0, .int .i64 0]) 2 16 Tryz.underlying30 hjn hjz0 hjz1 hjz2 rfl (by decide) u3 m (bkVs (blocksOf (L.take k))) rfl ((HO.out.alloc _).alloc _) ⟨_, 0, none⟩ 1 1 [.int .i64 a, .int .i64 z] rfl rfl ?c1 ?c2 (by omega) ?c3 ?c4 ?c5 _ rfl ?_
             case c1 => intro jj yy hyy; rcases jj with _ | _ | jj; (· simp at hyy; subst hyy; simp [Addr.add]); (· simp at hyy; subst hyy; simp [Addr.add]); (· simp at hyy)
             case c2 => simp [Value.oneCell']
             case c3 => unfold maxLen; omega
             case c4 => omega
             case c5 => simp; omega
             intro g cap w8 hown8 hgrow8 hat8 hlt8)
          | fail)
        have HO8 : Hid (w8.ownsRow w2.heap.size 58 2 (.slice (some ⟨g, 0, none⟩) (m + 1) cap) (m + 1) (bkVs (blocksOf (L.take (k + 1))))) := hidp (by rw [HB1.out, bkVs_snoc]; exact hown8)
        have HB8 : Hid (Below w2.heap.size w2 w8) := hidp ((Bnew (Bnew HB.out _) _).grown hgrow8 (by simp; omega) (fun i hi => (HO.out.lt i hi).1))
        have HM1 : Hid ((blocksOf (L.take (k + 1))).length = m + 1) := hidp (by rw [HB1.out, List.length_append, HM.out]; rfl)
        clear hown8 hgrow8 hat8 hlt8
        go_wp2_with fail
        go_roundw
        case rel => exact ⟨k + 1, m + 1, by omega, by go_num, by omega, HM1, HO8, HB8⟩
        case measure => simp [intOf]; omega
      · have HB1 : Hid (blocksOf (L.take (k + 1)) = blocksOf (L.take k)) := hidp (by rw [HTK.out, blocksOf_app, blocksOf_no h2, List.append_nil])
        have q0 : (kd == 2) = false := by simpa using h2
        go_wp2_with fail
        go_roundw
        case rel => exact ⟨k + 1, m, by omega, by go_num, by omega, hidp (by rw [HB1.out]; exact HM.out), hidp (by rw [HB1.out]; exact HO.out.alloc _), hidp (Bnew HB.out _)⟩
        case measure => simp [intOf]; omega
    · have hkn : k = nl := by omega
      have t0 : decide ((k : Int) < nl) = false := decide_eq_false (by omega)
      have HTK : Hid (L.take k = L) := hidp (by rw [List.take_of_length_le (by have := HNL.out; omega)])
      clear hkn
      go_wp2_with fail
      go_ret
      refine ⟨u3, rfl, ?_, HB2.out.trans (HB.out.mono HB2.out.size)⟩
      have h1 := HO.out
      have h2 := HM.out
      rw [HTK.out] at h1 h2
      rw [h2]
      exact own_down h1 HB2.out.size


set_option maxHeartbeats 1600000 in
theorem auPartsTop_no (t q s : Int) (A : Option Addr) (n c m : Nat) (w : World) (hC : CheckIs w t q s A n c m false) :
    Calls Tryz.prog 16 #[.agg #[.int .i64 t, .int .i64 q, .int .i64 s], .slice A n c] w fun e w' => e = .returned (.slice none 0 0) ∧ Below w.heap.size w w' := by
  have hx := Held.new w 23 #[.int .i64 t, .int .i64 q, .int .i64 s]
  obtain ⟨c0, c1, c2⟩ := hx.three
  have HBW := hidp (Bnew (B0 w) (.cells #[.int .i64 t, .int .i64 q, .int .i64 s] 23))
  have HHO := hidp (auHeapOf_c t q s A n c m false _ (hC.grown HBW.out))
  clear hx hC
  unfold cfV at HHO
  go_enter Tryz.func16, Tryz.ntmps16
  go_wp2_with (first
    | (go_at_call 30; refine HHO.out.mono ?_; rintro e w2 ⟨rfl, hb2⟩; have HB2 := hidp (Bgo HBW.out hb2); clear hb2)
    | fail)
  go_ret
  exact ⟨rfl, Bnew HB2.out _⟩
set_option maxHeartbeats 1600000 in
theorem auPartsTop_yes {H : AuH} {n c : Nat} (HV : HeapV H n c) (ht : H.Tiled) (ad : Addr) (m : Nat) (w : World) (hv : IsVals w ad n H.V) (hT : SlotsLaid w) (hC : CheckIs w H.t H.p H.s (some ad) n c m true) :
    Calls Tryz.prog 16 #[.agg #[.int .i64 (H.t : Int), .int .i64 (H.p : Int), .int .i64 (H.s : Int)], .slice (some ad) n c] w fun e w' => ∃ u, e = .returned u ∧ w'.ownsRow w.heap.size 44 3 u H.parts.length (ptVs H.parts) ∧ Below w.heap.size w w' := by
  have hx := Held.new w 23 #[.int .i64 (H.t : Int), .int .i64 (H.p : Int), .int .i64 (H.s : Int)]
  obtain ⟨c0, c1, c2⟩ := hx.three
  have HBW := hidp (Bnew (B0 w) (.cells #[.int .i64 (H.t : Int), .int .i64 (H.p : Int), .int .i64 (H.s : Int)] 23))
  have HHO := hidp (auHeapOf_c (H.t : Int) (H.p : Int) (H.s : Int) (some ad) n c m true _ (hC.grown HBW.out))
  have HVL := hidp hv
  have HTL := hidp hT
  clear hx hC hv hT
  unfold cfV at HHO
  have HPP := hidp (fun (W : World) (h1 : Below w.heap.size w W) => auParts_c HV ht ad W (HVL.out.below h1) (HTL.out.below h1))
  unfold hpV at HPP
  go_enter Tryz.func16, Tryz.ntmps16
  go_wp2_with (first
    | (go_at_call 30; refine HHO.out.mono ?_; rintro e w2 ⟨rfl, hb2⟩; have HB2 := hidp (Bgo HBW.out hb2); have HB3 := hidp (Bnew HB2.out (.cells #[.int .i64 (H.t : Int), .int .i64 (H.p : Int), .int .i64 (H.s : Int), .slice (some ad) n c] 47)); have hx2 := Held.new w2 47 #[.int .i64 (H.t : Int), .int .i64 (H.p : Int), .int .i64 (H.s : Int), .slice (some ad) n c]; clear hb2 c0 c1 c2; obtain ⟨c0, c1, c2, c3⟩ := hx2.four)
    | (go_at_call 37; refine (HPP.out _ HB3.out).mono ?_; rintro e w4 ⟨u, rfl, hown4, hb4⟩; have HO4 := hidp hown4; have HB4 := hidp (Bgo HB3.out hb4); clear hown4 hb4)
    | fail)
  go_ret
  exact ⟨u, rfl, own_down HO4.out HB3.out.size, HB4.out⟩


set_option maxHeartbeats 1600000 in
theorem auLiveTop_no (t q s : Int) (A : Option Addr) (n c m : Nat) (w : World) (hC : CheckIs w t q s A n c m false) :
    Calls Tryz.prog 12 #[.agg #[.int .i64 t, .int .i64 q, .int .i64 s], .slice A n c] w fun e w' => e = .returned (.slice none 0 0) ∧ Below w.heap.size w w' := by
  have hx := Held.new w 23 #[.int .i64 t, .int .i64 q, .int .i64 s]
  obtain ⟨c0, c1, c2⟩ := hx.three
  have HBW := hidp (Bnew (B0 w) (.cells #[.int .i64 t, .int .i64 q, .int .i64 s] 23))
  have HHO := hidp (auHeapOf_c t q s A n c m false _ (hC.grown HBW.out))
  clear hx hC
  unfold cfV at HHO
  go_enter Tryz.func12, Tryz.ntmps12
  go_wp2_with (first
    | (go_at_call 30; refine HHO.out.mono ?_; rintro e w2 ⟨rfl, hb2⟩; have HB2 := hidp (Bgo HBW.out hb2); clear hb2)
    | fail)
  go_ret
  exact ⟨rfl, Bnew HB2.out _⟩
set_option maxHeartbeats 1600000 in
theorem auLiveTop_yes {H : AuH} {n c : Nat} (HV : HeapV H n c) (ht : H.Tiled) (ad : Addr) (m : Nat) (w : World) (hv : IsVals w ad n H.V) (hT : SlotsLaid w) (hC : CheckIs w H.t H.p H.s (some ad) n c m true) :
    Calls Tryz.prog 12 #[.agg #[.int .i64 (H.t : Int), .int .i64 (H.p : Int), .int .i64 (H.s : Int)], .slice (some ad) n c] w fun e w' => ∃ u, e = .returned u ∧ w'.ownsRow w.heap.size 58 2 u (blocksOf H.parts).length (bkVs (blocksOf H.parts)) ∧ Below w.heap.size w w' := by
  have hx := Held.new w 23 #[.int .i64 (H.t : Int), .int .i64 (H.p : Int), .int .i64 (H.s : Int)]
  obtain ⟨c0, c1, c2⟩ := hx.three
  have HBW := hidp (Bnew (B0 w) (.cells #[.int .i64 (H.t : Int), .int .i64 (H.p : Int), .int .i64 (H.s : Int)] 23))
  have HHO := hidp (auHeapOf_c (H.t : Int) (H.p : Int) (H.s : Int) (some ad) n c m true _ (hC.grown HBW.out))
  have HVL := hidp hv
  have HTL := hidp hT
  clear hx hC hv hT
  unfold cfV at HHO
  have HPP := hidp (fun (W : World) (h1 : Below w.heap.size w W) => auLive_c HV ht ad W (HVL.out.below h1) (HTL.out.below h1))
  unfold hpV at HPP
  go_enter Tryz.func12, Tryz.ntmps12
  go_wp2_with (first
    | (go_at_call 30; refine HHO.out.mono ?_; rintro e w2 ⟨rfl, hb2⟩; have HB2 := hidp (Bgo HBW.out hb2); have HB3 := hidp (Bnew HB2.out (.cells #[.int .i64 (H.t : Int), .int .i64 (H.p : Int), .int .i64 (H.s : Int), .slice (some ad) n c] 47)); have hx2 := Held.new w2 47 #[.int .i64 (H.t : Int), .int .i64 (H.p : Int), .int .i64 (H.s : Int), .slice (some ad) n c]; clear hb2 c0 c1 c2; obtain ⟨c0, c1, c2, c3⟩ := hx2.four)
    | (go_at_call 31; refine (HPP.out _ HB3.out).mono ?_; rintro e w4 ⟨u, rfl, hown4, hb4⟩; have HO4 := hidp hown4; have HB4 := hidp (Bgo HB3.out hb4); clear hown4 hb4)
    | fail)
  go_ret
  exact ⟨u, rfl, own_down HO4.out HB3.out.size, HB4.out⟩

end Go.Proofs.YtbaofpdjfoaiiaaGreatDoor

/-
  The page's example is a heap; the laws' live. Written by audit/gen_ex.py.
-/
namespace Go.Proofs.YtbaofpdjfoaiiaaGreatDoor
open Go.ChangeShapes Go.WideShapes Go.ChangeAt Go.RowKit Go.Shelf
set_option linter.unusedVariables false
set_option linter.unusedSimpArgs false

def exV (i : Nat) : Nat := if i = 0 then 4 else if i = 4 then 1 else if i = 34 then 65 else if i = 53 then 1 else 0
def exH : AuH := ⟨1, 4, 10, exV⟩
theorem ex_nx : exH.nx 0 = 4 ∧ exH.can 0 = true := by decide
theorem ex_K : ∀ q, q < 4 → q ≠ 0 → exH.K q = 0 := by decide
theorem ex_K0 : exH.K 0 = 1 ∧ exH.ln 0 = 4 := by decide
theorem ex_cel : ∀ q, q < 4 → ∀ b, b < 6 → exH.cel q b = if q = 0 ∧ b = 0 then 65 else if q = 3 ∧ b = 1 then 1 else 0 := by decide
theorem ex_tgt0 : exH.tgt 0 = 4 := by
  unfold AuH.tgt
  rw [if_pos ex_K0.1, ex_K0.2]
  rw [HM.logI_at ((4 : Nat) : Int) 2 (by decide) (by decide)]
  decide
theorem ex_tgt : ∀ q, q < 4 → q ≠ 0 → exH.tgt q = -1 := fun q h1 h2 => AuH.tgt_none (ex_K q h1 h2)
theorem ex_at {a : Nat} (h : exH.At a) (h2 : a < 4) : a = 0 := by
  rcases Nat.eq_zero_or_pos a with h3 | h3
  · exact h3
  · have := (AuH.At.next .zero h h3).2
    rw [ex_nx.1] at this
    omega
theorem ex_tiled : exH.Tiled := by
  have h := AuH.At.step (H := exH) .zero ex_nx.2
  rw [ex_nx.1] at h
  refine ⟨h, fun a ha hc hl q h1 h2 => ?_⟩
  have := ex_at ha hl
  subst this
  rw [ex_nx.1] at h2
  rw [ex_cel q h2 0 (by omega), if_neg (by omega), if_neg (by omega)]
theorem ex_cnt (head : Nat) : exH.cnt head 4 = if (head : Int) = 4 then 1 else if (head : Int) = -1 then 3 else 0 := by
  show 0 + exH.isF head 0 + exH.isF head 1 + exH.isF head 2 + exH.isF head 3 = _
  unfold AuH.isF
  rw [ex_tgt0, ex_tgt 1 (by omega) (by omega), ex_tgt 2 (by omega) (by omega), ex_tgt 3 (by omega) (by omega)]
  by_cases h : (head : Int) = 4
  · rw [h]; decide
  · rw [if_neg h, if_neg (fun h2 => h h2.symm)]
    rw [if_neg (show ¬ (-1 : Int) = head by omega), if_neg (show ¬ (head : Int) = -1 by omega)]
theorem ex_list (head : Nat) (h1 : 2 ≤ head) (h2 : head < 22) : exH.ListOk head := by
  unfold AuH.ListOk
  have e : exH.p = 4 := rfl
  rw [e, ex_cnt]
  by_cases h : head = 4
  · subst h
    rw [if_pos (by decide)]
    refine ⟨⟨by decide, by decide, ?_, by decide⟩, ?_⟩
    · exact ex_tgt0
    · show exH.cel 0 2 = 0
      decide
  · rw [if_neg (by omega), if_neg (by omega)]
    show exV head = 0
    unfold exV
    rw [if_neg (by omega), if_neg (by omega), if_neg (by omega), if_neg (by omega)]
theorem ex_rules : ∀ i, i < 10 → exH.rule i := by
  intro i hi
  rcases (by omega : i = 0 ∨ i = 1 ∨ i = 2 ∨ i = 3 ∨ i = 4 ∨ i = 5 ∨ i = 6 ∨ i = 7 ∨ i = 8 ∨ i = 9) with rfl | rfl | rfl | rfl | rfl | rfl | rfl | rfl | rfl | rfl
  · exact trivial
  · exact ex_tiled
  · intro q hq hk
    have : q = 0 := Classical.byContradiction (fun h => hk (ex_K q hq h))
    subst this
    refine ⟨fun r h1 h2 => ?_, by rw [ex_K0.2]; decide⟩
    rw [ex_K0.2] at h2
    rw [ex_cel r (by omega) 1 (by omega), if_neg (by omega), if_neg (by omega)]
  · intro q ha hq hk hn
    have := ex_at ha hq
    subst this
    rw [ex_nx.1] at hn
    exact absurd hn (by decide)
  · intro q hq
    have hq : q < 4 := hq
    have h5 : exH.cel q 5 = 0 := by rw [ex_cel q hq 5 (by omega), if_neg (by omega), if_neg (by omega)]
    have h4 : exH.cel q 4 = 0 := by rw [ex_cel q hq 4 (by omega), if_neg (by omega), if_neg (by omega)]
    refine ⟨fun h => ?_, fun _ => ⟨h5, h4⟩⟩
    rcases Nat.eq_zero_or_pos q with h3 | h3
    · subst h3; rw [ex_K0.1] at h; exact absurd h (by decide)
    · rw [ex_K q hq (by omega)] at h; exact absurd h (by decide)
  · exact fun k hk => ex_list (2 + k) (by omega) (by omega)
  · exact fun k hk => ex_list (13 + k) (by omega) (by omega)
  · intro q hq ht
    have hq : q < 4 := hq
    exact ⟨by rw [ex_cel q hq 2 (by omega), if_neg (by omega), if_neg (by omega)], by rw [ex_cel q hq 3 (by omega), if_neg (by omega), if_neg (by omega)]⟩
  · show _ ∧ _
    exact ⟨by decide, by decide⟩
  · intro i hi h
    exfalso
    apply h
    show exV (22 + i) = 0
    unfold exV
    rw [if_neg (by omega), if_neg (by omega), if_neg (by omega), if_neg (by omega)]
theorem ex_told : exH.Told 0 true := .inl ⟨rfl, rfl, ex_rules⟩
theorem ex_parts : exH.parts = [(1, 1024, 4096)] := by decide
theorem ex_heap : HeapV exH 58 58 := ⟨by decide, rfl, Nat.le_refl _, by decide, fun i hi => by
  show exV i < 2 ^ 32
  unfold exV
  split
  · omega
  · split
    · omega
    · split
      · omega
      · split <;> omega⟩
theorem adds_at (g j : Nat) : (⟨g, 0, none⟩ : Addr).add j = ⟨g, j, none⟩ := by
  unfold Addr.add
  by_cases hz : j = 0
  · rw [if_pos hz, hz]
  · rw [if_neg hz]; simp
theorem u32Info : (Tryz.prog.info? 42).map (fun i => (i.zero, i.size, i.bytes)) = some (some (.int .u32 0), 1, 4) := by kernel_rfl


set_option maxHeartbeats 3200000 in
set_option maxRecDepth 100000 in
theorem live_c (w : World) (hT : SlotsLaid w) :
    Calls Tryz.prog 7 #[] w fun e w' => e = .returned (.bool true) ∧ Below w.heap.size w w' := by
  obtain ⟨i0, hin, hz0, hz1, hz2⟩ := info_parts u32Info
  obtain ⟨cs, hcs, hcl, hc0⟩ : ∃ cs, madeCells (Value.int .u32 0).cells (58 * i0.size) = cs ∧ cs.size = 58 ∧ ∀ i, i < 58 → cs[i]? = some (.int .u32 0) := ⟨_, rfl, by rw [hz1]; simp [size_madeCells], fun i hi => by
    have e : madeCells (Value.int .u32 0).cells (58 * 1) = Array.replicate 58 (Value.int .u32 0) := by kernel_rfl
    rw [hz1, e, Array.getElem?_replicate, if_pos hi]⟩
  have hmk : ∀ w : World, (Instr.makeSlice 24 (.int .i64 58) (.int .i64 58)).run Tryz.prog w = .ok (.slice (some ⟨w.heap.size, 0, none⟩) 58 58) (w.alloc (.cells cs 42)) := fun w => by
    have := run_makeSlice (w := w) 24 42 i0 _ Tryz.underlying24 hin hz0 .i64 .i64 58 58 (by omega) (by omega) (by rw [hz1]; decide) (by rw [hz2]; omega) (by omega)
    have e58 : ((58 : Int).toNat) = 58 := rfl
    rw [e58, hcs] at this
    exact this
  have hn0 := fun (w : World) => hc0 0 (by omega)
  have k0 := hc0 0 (by omega)
  have k4 := hc0 4 (by omega)
  have k34 := hc0 34 (by omega)
  have k53 := hc0 53 (by omega)
  clear hn0
  obtain ⟨cs4, hcs4⟩ : ∃ cs4, (((cs.setIfInBounds 0 (Value.int .u32 4)).setIfInBounds 4 (Value.int .u32 1)).setIfInBounds 34 (Value.int .u32 65)).setIfInBounds 53 (Value.int .u32 1) = cs4 := ⟨_, rfl⟩
  have HB4 := hidp (Bnew (Bnew (B0 w) (.cells #[.int .i64 1, .int .i64 4, .int .i64 10] 23)) (.cells cs4 42))
  have HX4 := hidp ((Held.new w 23 #[.int .i64 1, .int .i64 4, .int .i64 10]).alloc (.cells cs4 42))
  have h4 := Held.new2 w (.cells #[.int .i64 1, .int .i64 4, .int .i64 10] 23) 42 cs4
  have hv4 : ∀ i, i < 58 → cs4[i]? = some (.int .u32 (exV i : Nat)) := fun i hi => by
    rw [← hcs4]
    unfold exV
    by_cases e0 : i = 0
    · subst e0; simp [hcl]
    · by_cases e1 : i = 4
      · subst e1; simp [hcl]
      · by_cases e2 : i = 34
        · subst e2; simp [hcl]
        · by_cases e3 : i = 53
          · subst e3; simp [hcl]
          · rw [if_neg e0, if_neg e1, if_neg e2, if_neg e3, Array.getElem?_setIfInBounds_ne (by omega), Array.getElem?_setIfInBounds_ne (by omega), Array.getElem?_setIfInBounds_ne (by omega), Array.getElem?_setIfInBounds_ne (by omega)]
            exact hc0 i hi
  have HV4 : Hid (IsVals ((w.alloc (.cells #[.int .i64 1, .int .i64 4, .int .i64 10] 23)).alloc (.cells cs4 42)) ⟨w.heap.size + 1, 0, none⟩ 58 exV) := hidp ⟨by simp, fun i hi => by rw [adds_at, h4.cell i]; exact hv4 i hi⟩
  obtain ⟨W4, hW4⟩ : ∃ W4, (w.alloc (.cells #[.int .i64 1, .int .i64 4, .int .i64 10] 23)).alloc (.cells cs4 42) = W4 := ⟨_, rfl⟩
  rw [hW4] at HB4 HX4 HV4
  clear h4 hv4
  have HT4 := hidp (hT.below HB4.out)
  have HC1 : Hid (CheckIs W4 1 4 10 (some ⟨w.heap.size + 1, 0, none⟩) 58 58 0 true) := hidp (checkIs_yes ex_heap _ _ HV4.out HT4.out ex_told)
  have HC2 : Hid (∀ W, Below W4.heap.size W4 W → Calls Tryz.prog 8 #[.agg #[.int .i64 1, .int .i64 4, .int .i64 10], .slice (some ⟨w.heap.size + 1, 1, none⟩) 57 57] W fun e w' => e = .returned (.tuple #[.int .i64 1, .bool false]) ∧ Below W.heap.size W w') := hidp (fun W hW => auCheck_no 1 4 10 _ 57 57 (by omega) (by decide) (by decide) W)
  have HPA := hidp (auPartsTop_yes ex_heap ex_tiled ⟨w.heap.size + 1, 0, none⟩ 0)
  have HC1x := hidp (fun W hW => HC1.out W hW)
  obtain ⟨c0, c1, c2⟩ := HX4.out.three
  clear hT hc0 k0 k4 k34 k53
  go_enter Tryz.func7, Tryz.ntmps7
  go_wp2_with (first
    | (go_at_call 8; refine (HC1.out _ (B0 _)).mono ?_; rintro e w5 ⟨rfl, hb5⟩; have HB5 := hidp hb5; have HX5 := hidp (HX4.out.keep hb5); clear hb5 c0 c1 c2; obtain ⟨c0, c1, c2⟩ := HX5.out.three)
    | fail)
  clear hmk
  refine wp_region_held_drew (S := (fun w' => w'.cell? ⟨w.heap.size, 0, none⟩ = some (.int .i64 1) ∧ w'.cell? ⟨w.heap.size, 1, none⟩ = some (.int .i64 4) ∧ w'.cell? ⟨w.heap.size, 2, none⟩ = some (.int .i64 10))) (by kernel_rfl) ?_ (fun hHeld => ?_)
  · (try dsimp only)
    first | exact HX5.out.drew.three | exact HX6.out.three | exact hHeld
  refine tkO (i := 0) (v := ?_) rfl (by kernel_rfl) (fun _ _ _ h => h) (by rfl) ?_ (by assumption) ?_
  rotate_left
  · intro w hSw; (try dsimp only at hSw); go_simp; (try with_reducible rfl)
  (try simp only [Act.put, gA, gB, gC, sA, sB, sC])
  refine tkO (i := 1) (v := ?_) rfl (by kernel_rfl) (fun _ _ _ h => h) (by rfl) ?_ (by assumption) ?_
  rotate_left
  · intro w hSw; (try dsimp only at hSw); go_simp; (try with_reducible rfl)
  (try simp only [Act.put, gA, gB, gC, sA, sB, sC])
  refine tkO (i := 2) (v := ?_) rfl (by kernel_rfl) (fun _ _ _ h => h) (by rfl) ?_ (by assumption) ?_
  rotate_left
  · intro w hSw; (try dsimp only at hSw); go_simp; (try with_reducible rfl)
  (try simp only [Act.put, gA, gB, gC, sA, sB, sC])
  refine wpAnyH_ready (rs := [3]) (by kernel_rfl) (by simp) ?_
  refine AllReadyH.cons (o := _) rfl (fun K hK => ?_) AllReadyH.nil
  go_simp
  (go_at_call 8; refine (HC2.out _ (Bdrew HB5.out)).mono ?_; rintro e w6 ⟨rfl, hb6⟩; have HB6 := hidp (Bgo (Bdrew HB5.out) hb6); have HX6 := hidp (HX5.out.drew.keep hb6); clear hb6)
  refine hK.out _ _ ?_ (fun hHeld => ?_)
  · (try dsimp only)
    first | exact HX5.out.drew.three | exact HX6.out.three | exact hHeld
  clear hK K
  (try simp only [Act.put, gA, gB, gC, sA, sB, sC])
  refine tkO (i := 4) (v := ?_) rfl (by kernel_rfl) (fun _ _ _ h => h) (by rfl) ?_ (by assumption) ?_
  rotate_left
  · intro w hSw; (try dsimp only at hSw); go_simp; (try with_reducible rfl)
  (try simp only [Act.put, gA, gB, gC, sA, sB, sC])
  refine tkO (i := 5) (v := ?_) rfl (by kernel_rfl) (fun _ _ _ h => h) (by rfl) ?_ (by assumption) ?_
  rotate_left
  · intro w hSw; (try dsimp only at hSw); go_simp; (try with_reducible rfl)
  (try simp only [Act.put, gA, gB, gC, sA, sB, sC])
  refine tkO (i := 6) (v := ?_) rfl (by kernel_rfl) (fun _ _ _ h => h) (by rfl) ?_ (by assumption) ?_
  rotate_left
  · intro w hSw; (try dsimp only at hSw); go_simp; (try with_reducible rfl)
  (try simp only [Act.put, gA, gB, gC, sA, sB, sC])
  refine tkO (i := 7) (v := ?_) rfl (by kernel_rfl) (fun _ _ _ h => h) (by rfl) ?_ (by assumption) ?_
  rotate_left
  · intro w hSw; (try dsimp only at hSw); go_simp; (try with_reducible rfl)
  (try simp only [Act.put, gA, gB, gC, sA, sB, sC])
  refine tkO (i := 8) (v := ?_) rfl (by kernel_rfl) (fun _ _ _ h => h) (by rfl) ?_ (by assumption) ?_
  rotate_left
  · intro w hSw; (try dsimp only at hSw); go_simp; (try with_reducible rfl)
  (try simp only [Act.put, gA, gB, gC, sA, sB, sC])
  refine wpAnyH_done (by kernel_rfl) ?_ _
  have HVP := hidp (HPA.out w6 (HV4.out.below HB6.out) (HT4.out.below HB6.out) (fun W hW => HC1.out W (Bgo HB6.out hW)))
  rw [ex_parts] at HVP
  obtain ⟨c0, c1, c2⟩ := HX6.out.three
  go_wp2_with (first
    | (go_at_call 16; refine HVP.out.mono ?_; rintro e w7 ⟨u, rfl, hown7, hb7⟩; have HB7 := hidp (Bgo HB6.out hb7); obtain ⟨gu, cu, rfl, _, _⟩ := hown7.form (by decide); obtain ⟨p0, p1, p2⟩ := own_part hown7 rfl (i := 0) (x := (1, 1024, 4096)) rfl; have p3 := own_caps3 hown7; clear hb7 hown7)
    | fail)
  go_ret
  exact ⟨rfl, Bgo HB4.out HB7.out⟩
end Go.Proofs.YtbaofpdjfoaiiaaGreatDoor
