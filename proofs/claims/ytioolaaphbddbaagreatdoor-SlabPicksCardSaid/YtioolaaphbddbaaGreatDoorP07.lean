/-
  What the document's Find does. Written by bin/gen_rfind.py.
-/
import Derived.Test.YtioolaaphbddbaaGreatDoorP06
import Derived.Test.YtioolaaphbddbaaGreatDoorP04
import Derived.Test.YtioolaaphbddbaaGreatDoorP01
import Derived.Test.YtioolaaphbddbaaGreatDoorP03
import Derived.Deep.RegionHeld3
import Derived.IntWalk
import Derived.KernelRfl
import Derived.Test.YtioolaaphbddbaaGreatDoorP05
import Derived.RegionTactic
import Derived.ChangeAlike
import Derived.BigQuiet
import Derived.Test.YtioolaaphbddbaaGreatDoorKit
namespace Go.Proofs.YtioolaaphbddbaaGreatDoor
open Go.ChangeShapes Go.WideShapes Go.ChangeAt Go.RowKit Go.Maps
set_option linter.unusedVariables false
set_option linter.unusedSimpArgs false
set_option maxRecDepth 100000
section
section
variable {base b n : Nat} {wh all : Bool} {K : Nat → Option Nat} {st : Vst} {w w0 : World} {A G : Nat → Prop} {t q s : Int}
theorem r14Find_low (nn : Int) (h1 : nn < 1) (h : (rOb base b n all K).At w0 A G st w) :
    Calls Tryz.prog 90 #[.pointer (some ⟨b, 0, none⟩), .agg #[.int .i64 t, .int .i64 q, .int .i64 s], .int .i64 nn] w fun e w' => e = .returned (.tuple #[.int .i64 (foundI (((none : Option Nat), st)).1), .bool (((none : Option Nat), st)).1.isSome]) ∧ (rOb base b n all K).At w0 A G (((none : Option Nat), st)).2 w' ∧ Stay G w w' := by
  have W0 := hidp ((WL.start h).new 23 #[.int .i64 t, .int .i64 q, .int .i64 s])
  obtain ⟨x0, x1, x2⟩ := W0.out.h0.three
  have t0 : decide (nn < (1 : Int)) = true := decide_eq_true h1
  clear h
  go_enter Tryz.func90, Tryz.ntmps90
  go_wp2
  go_ret2
  exact ⟨rfl, W0.out.fin⟩
theorem r14Find_high (nn : Int) (h1 : 1 ≤ nn) (h2 : q < nn) (h : (rOb base b n all K).At w0 A G st w) :
    Calls Tryz.prog 90 #[.pointer (some ⟨b, 0, none⟩), .agg #[.int .i64 t, .int .i64 q, .int .i64 s], .int .i64 nn] w fun e w' => e = .returned (.tuple #[.int .i64 (foundI (((none : Option Nat), st)).1), .bool (((none : Option Nat), st)).1.isSome]) ∧ (rOb base b n all K).At w0 A G (((none : Option Nat), st)).2 w' ∧ Stay G w w' := by
  have W0 := hidp ((WL.start h).new 23 #[.int .i64 t, .int .i64 q, .int .i64 s])
  obtain ⟨x0, x1, x2⟩ := W0.out.h0.three
  have t0 : decide (nn < (1 : Int)) = false := decide_eq_false (by omega)
  have t1 : decide (q < nn) = true := decide_eq_true h2
  clear h
  go_enter Tryz.func90, Tryz.ntmps90
  go_wp2
  go_ret2
  exact ⟨rfl, W0.out.fin⟩

set_option maxHeartbeats 6400000 in
theorem r14Find_yes (hn : n < 2 ^ 40) (hq : q ≤ 1024) (nn : Int) (own : Nat) (ho : ofI nn = (own : Int)) (ho10 : own ≤ 10) (h1 : 1 ≤ nn) (h2 : nn ≤ q) (h : (rOb base b n all K).At w0 A G st w) :
    Calls Tryz.prog 90 #[.pointer (some ⟨b, 0, none⟩), .agg #[.int .i64 t, .int .i64 q, .int .i64 s], .int .i64 nn] w fun e w' => e = .returned (.tuple #[.int .i64 (foundI (findF n K t q s nn own st).1), .bool (findF n K t q s nn own st).1.isSome]) ∧ (rOb base b n all K).At w0 A G (findF n K t q s nn own st).2 w' ∧ Stay G w w' := by
  have W0 := hidp ((WL.start h).new 23 #[.int .i64 t, .int .i64 q, .int .i64 s])
  obtain ⟨x0, x1, x2⟩ := W0.out.h0.three
  have t0 : decide (nn < (1 : Int)) = false := decide_eq_false (by omega)
  have t1 : decide (q < nn) = false := decide_eq_false (by omega)
  have HO := hidp ho
  obtain ⟨Q, hQ⟩ : ∃ Q, q.toNat = Q := ⟨_, rfl⟩
  have hQ1 : 1 ≤ Q ∧ Q ≤ 1024 := by omega
  have hqQ : ∀ l : Nat, ((l : Int) < q ↔ l < Q) := fun l => by omega
  have hqL : ∀ l : Nat, 1 ≤ l → ((l : Int) ≤ q ↔ l ≤ Q) := fun l h1 => by omega
  obtain ⟨hd0, hhd⟩ : ∃ hd : Nat, 2 + own = hd := ⟨_, rfl⟩
  have HB0 : Hid (nthI 2 11 1 (own : Int) = (hd0 : Int)) := hidp (by rw [nth_on (by omega) (by omega) (by omega)]; omega)
  obtain ⟨l0, hl0⟩ : ∃ l, getV n K st (hd0 : Int) = l := ⟨_, rfl⟩
  have hl032 : l0 < 2 ^ 32 := by rw [← hl0]; exact rAt_lt h _
  have HL0 := hidp hl0
  obtain ⟨s0, hs0⟩ : ∃ s0, getS n K st (hd0 : Int) = s0 := ⟨_, rfl⟩
  have HS0 := hidp hs0
  have HFF : Hid (findF n K t q s nn own st = match (lookF n K t q s nn Q l0 s0).1 with
      | some p => (some p, (lookF n K t q s nn Q l0 s0).2)
      | none => nextF n K q (11 - (own + 1)) (own + 1) (lookF n K t q s nn Q l0 s0).2) := hidp (by unfold findF; rw [hhd, hl0, hs0, hQ]; rfl)
  clear h ho hQ hhd hl0 hs0
  go_enter Tryz.func90, Tryz.ntmps90
  go_wp2_with fail
  refine (r14Of_c nn (by omega) (by omega) _).mono ?_
  rintro e w9 ⟨rfl, rfl⟩
  rw [HO.out]
  go_wp2_with fail
  refine (r7Bin_c (own : Int) _).mono ?_
  rintro e w9 ⟨rfl, rfl⟩
  rw [HB0.out]
  go_wp2_with fail
  refine (rGetA hn _ W0.out.at_).mono ?_
  rintro e w2 ⟨rfl, a1, a2⟩
  rw [HL0.out]
  have W2 := hidp (W0.out.call a1 a2)
  rw [HS0.out] at W2
  clear a1 a2 W0 HL0 HS0 HB0
  clear x0 x1 x2
  obtain ⟨x0, x1, x2⟩ := W2.out.h0.three
  go_wp2_with fail
  clear x0 x1 x2
  go_loopw [8, 9, 10] (fun u8 u9 _ wr => ∃ (m l : Nat) (sy : Vst), m ≤ Q ∧ u9 = .int .i64 (m : Int) ∧ u8 = .int .i64 (l : Int) ∧ l < 2 ^ 32 ∧ Hid (lookF n K t q s nn Q l0 s0 = lookF n K t q s nn (Q - m) l sy) ∧ Hid (WL (rOb base b n all K) w0 A G w [⟨w.heap.size, 23, #[.int .i64 t, .int .i64 q, .int .i64 s]⟩] sy wr)) (fun _ u9 _ _ => Q - (intOf u9).toNat)
  case atStart => exact ⟨0, l0, _, by omega, by go_num, by go_num, hl032, hidp rfl, W2⟩
  case round =>
    clear W2
    obtain ⟨m, l, sy, hm, rfl, rfl, hl, HLK, W3⟩ := hrel
    obtain ⟨x0, x1, x2⟩ := W3.out.h0.three
    by_cases hmQ : m < Q
    · have t4 : decide ((m : Int) < q) = true := decide_eq_true ((hqQ m).2 hmQ)
      by_cases hp1 : 1 ≤ l
      · have t3 : decide ((1 : Int) ≤ (l : Int)) = true := decide_eq_true (by omega)
        by_cases hp2 : l ≤ Q
        · have t5 : decide ((l : Int) ≤ q) = true := decide_eq_true ((hqL l hp1).2 hp2)
          obtain ⟨j, hj⟩ : ∃ j, Q - m = j + 1 := ⟨Q - m - 1, by omega⟩
          have HJ : Hid (Q - (m + 1) = j) := hidp (by omega)
          replace HLK : Hid (lookF n K t q s nn Q l0 s0 = lookF n K t q s nn (j + 1) l sy) := hidp (by rw [← hj]; exact HLK.out)
          have HPP : Hid (1 ≤ l ∧ (l : Int) ≤ q) := hidp ⟨hp1, (hqL l hp1).2 hp2⟩
          clear hj
          obtain ⟨⟨kk, ll, cc, okk⟩, hI⟩ : ∃ x, infoOf n K t q s ((l : Int) - 1) sy = x := ⟨_, rfl⟩
          have HI := hidp hI
          by_cases hk1 : kk = 1
          · subst hk1
            by_cases hln : nn ≤ ll
            · have HFT : Hid (fitB nn (getV n K sy (pageI t q s ((l : Int) - 1) 0)) = true) := hidp (by unfold infoOf at hI; unfold fitB; rw [hI]; simp; omega)
              clear hI
              have t7 : decide (nn ≤ ll) = true := decide_eq_true hln
              go_wp2_with fail
              refine (r14Info_c hn ((l : Int) - 1) 1 ll cc okk HI.out W3.out.at_).mono ?_; rintro e w5 ⟨rfl, a1, a2⟩; have W5 := hidp (W3.out.call a1 a2); clear a1 a2 W3
              have Y5 := hidp (Held.new w5 60 #[.int .i64 1, .int .i64 ll, .int .i64 cc])
              have W6 := hidp (W5.out.alloc (.cells #[.int .i64 1, .int .i64 ll, .int .i64 cc] 60))
              clear x0 x1 x2
              obtain ⟨x0, x1, x2⟩ := W6.out.h0.three
              obtain ⟨y0, y1, y2⟩ := Y5.out.three
              clear W5
              have HFIN : Hid (findF n K t q s nn own st = (some (l - 1), getS n K sy (pageI t q s ((l : Int) - 1) 0))) := hidp (by rw [HFF.out, HLK.out, lookF_found n K t q s nn HPP.out HFT.out])
              have HPL : Hid (Value.int .i64 ((l : Int) - 1) = Value.int .i64 ((l - 1 : Nat) : Int)) := hidp (by congr 1; omega)
              clear HFF HLK HFT HI
              go_wp2_with fail
              go_ret2
              exact ⟨by rw [HFIN.out]; show Ending.returned (.tuple #[.int .i64 ((l : Int) - 1), .bool true]) = _; rw [HPL.out]; rfl, by rw [HFIN.out]; exact W6.out.fin⟩
            · have HFT : Hid (fitB nn (getV n K sy (pageI t q s ((l : Int) - 1) 0)) = false) := hidp (by unfold infoOf at hI; unfold fitB; rw [hI]; simp; omega)
              clear hI
              have t7 : decide (nn ≤ ll) = false := decide_eq_false hln
              go_wp2_with fail
              refine (r14Info_c hn ((l : Int) - 1) 1 ll cc okk HI.out W3.out.at_).mono ?_; rintro e w5 ⟨rfl, a1, a2⟩; have W5 := hidp (W3.out.call a1 a2); clear a1 a2 W3
              have Y5 := hidp (Held.new w5 60 #[.int .i64 1, .int .i64 ll, .int .i64 cc])
              have W6 := hidp (W5.out.alloc (.cells #[.int .i64 1, .int .i64 ll, .int .i64 cc] 60))
              clear x0 x1 x2
              obtain ⟨x0, x1, x2⟩ := W6.out.h0.three
              obtain ⟨y0, y1, y2⟩ := Y5.out.three
              clear W5
              obtain ⟨v, hv⟩ : ∃ v, getV n K (getS n K sy (pageI t q s ((l : Int) - 1) 0)) (pageI t q s ((l : Int) - 1) 2) = v := ⟨_, rfl⟩
              have hv32 : v < 2 ^ 32 := by rw [← hv]; exact rWL_lt W6.out _
              have HV := hidp hv
              have HLK2 : Hid (lookF n K t q s nn Q l0 s0 = lookF n K t q s nn (Q - (m + 1)) v (getS n K (getS n K sy (pageI t q s ((l : Int) - 1) 0)) (pageI t q s ((l : Int) - 1) 2))) := hidp (by rw [HLK.out, lookF_step n K t q s nn HPP.out HFT.out, HV.out, HJ.out])
              clear hv HLK HFT HI
              go_wp2_with fail
              refine (r7Next_c t q s ((l : Int) - 1) _).mono ?_; rintro e w7 ⟨rfl, hb⟩; have W7 := hidp (W6.out.keep hb); clear hb W6
              go_wp2_with fail
              refine (rGetA hn _ W7.out.at_).mono ?_; rintro e w8 ⟨rfl, a1, a2⟩; have W8 := hidp (W7.out.call a1 a2); clear a1 a2 W7; rw [HV.out]
              clear x0 x1 x2 y0 y1 y2
              go_wp2_with fail
              go_roundw
              case rel => exact ⟨m + 1, v, _, by omega, by go_num, by go_num, hv32, HLK2, W8⟩
              case measure => simp [intOf]; omega
          · have HFT : Hid (fitB nn (getV n K sy (pageI t q s ((l : Int) - 1) 0)) = false) := hidp (by unfold infoOf at hI; unfold fitB; rw [hI]; simp [hk1])
            clear hI
            have t6 : (kk == 1) = false := by simpa using hk1
            
            go_wp2_with fail
            refine (r14Info_c hn ((l : Int) - 1) kk ll cc okk HI.out W3.out.at_).mono ?_; rintro e w5 ⟨rfl, a1, a2⟩; have W5 := hidp (W3.out.call a1 a2); clear a1 a2 W3
            have Y5 := hidp (Held.new w5 60 #[.int .i64 kk, .int .i64 ll, .int .i64 cc])
            have W6 := hidp (W5.out.alloc (.cells #[.int .i64 kk, .int .i64 ll, .int .i64 cc] 60))
            clear x0 x1 x2
            obtain ⟨x0, x1, x2⟩ := W6.out.h0.three
            obtain ⟨y0, y1, y2⟩ := Y5.out.three
            clear W5
            obtain ⟨v, hv⟩ : ∃ v, getV n K (getS n K sy (pageI t q s ((l : Int) - 1) 0)) (pageI t q s ((l : Int) - 1) 2) = v := ⟨_, rfl⟩
            have hv32 : v < 2 ^ 32 := by rw [← hv]; exact rWL_lt W6.out _
            have HV := hidp hv
            have HLK2 : Hid (lookF n K t q s nn Q l0 s0 = lookF n K t q s nn (Q - (m + 1)) v (getS n K (getS n K sy (pageI t q s ((l : Int) - 1) 0)) (pageI t q s ((l : Int) - 1) 2))) := hidp (by rw [HLK.out, lookF_step n K t q s nn HPP.out HFT.out, HV.out, HJ.out])
            clear hv HLK HFT HI
            go_wp2_with fail
            refine (r7Next_c t q s ((l : Int) - 1) _).mono ?_; rintro e w7 ⟨rfl, hb⟩; have W7 := hidp (W6.out.keep hb); clear hb W6
            go_wp2_with fail
            refine (rGetA hn _ W7.out.at_).mono ?_; rintro e w8 ⟨rfl, a1, a2⟩; have W8 := hidp (W7.out.call a1 a2); clear a1 a2 W7; rw [HV.out]
            clear x0 x1 x2 y0 y1 y2
            go_wp2_with fail
            go_roundw
            case rel => exact ⟨m + 1, v, _, by omega, by go_num, by go_num, hv32, HLK2, W8⟩
            case measure => simp [intOf]; omega
        · have t5 : decide ((l : Int) ≤ q) = false := decide_eq_false (fun h3 => hp2 ((hqL l hp1).1 h3))
          have HNX : Hid (findF n K t q s nn own st = nextF n K q (11 - (own + 1)) (own + 1) sy) := hidp (by
            rw [HFF.out, HLK.out, lookF_end n K t q s nn (fun h4 => hp2 ((hqL l h4.1).1 h4.2))]
            try rfl)
          clear HFF HLK
          go_wp2_with fail
          refine (r14Of_c nn (by omega) (by omega) _).mono ?_
          rintro e w9 ⟨rfl, rfl⟩
          rw [HO.out]
          go_wp2_with fail
          clear x0 x1 x2
          go_loopw [8, 11] (fun _ u11 wr => ∃ (k : Nat) (sx : Vst), own < k ∧ k ≤ 11 ∧ u11 = .int .i64 (k : Int) ∧ Hid (findF n K t q s nn own st = nextF n K q (11 - k) k sx) ∧ Hid (WL (rOb base b n all K) w0 A G w [⟨w.heap.size, 23, #[.int .i64 t, .int .i64 q, .int .i64 s]⟩] sx wr)) (fun _ u11 _ => 11 - (intOf u11).toNat)
          case atStart => exact ⟨own + 1, _, by omega, by omega, by go_num, HNX, W3⟩
          case round =>
            clear W3 HNX
            obtain ⟨k, sx, hko, hk11, rfl, HFF, W1⟩ := hrel
            obtain ⟨x0, x1, x2⟩ := W1.out.h0.three
            by_cases hk : k < 11
            · have t2 : decide ((k : Int) < 11) = true := decide_eq_true (by omega)
              obtain ⟨hd, hhd⟩ : ∃ hd : Nat, 2 + k = hd := ⟨_, rfl⟩
              have HHD := hidp hhd
              have HB : Hid (nthI 2 11 1 (k : Int) = (hd : Int)) := hidp (by rw [nth_on (by omega) (by omega) (by omega)]; omega)
              obtain ⟨l1, hl1⟩ : ∃ l, getV n K sx (hd : Int) = l := ⟨_, rfl⟩
              have hl32 : l1 < 2 ^ 32 := by rw [← hl1]; exact rWL_lt W1.out _
              have HL1 := hidp hl1
              obtain ⟨j, hj⟩ : ∃ j, 11 - k = j + 1 := ⟨10 - k, by omega⟩
              have HJ : Hid (11 - (k + 1) = j) := hidp (by omega)
              rw [hj] at HFF
              clear hl1 hhd hj
              go_wp2_with fail
              refine (r7Bin_c (k : Int) _).mono ?_
              rintro e w9 ⟨rfl, rfl⟩
              rw [HB.out]
              go_wp2_with fail
              refine (rGetA hn _ W1.out.at_).mono ?_
              rintro e w2 ⟨rfl, a1, a2⟩
              rw [HL1.out]
              have W2 := hidp (W1.out.call a1 a2)
              clear a1 a2 W1 x0 x1 x2
              obtain ⟨x0, x1, x2⟩ := W2.out.h0.three
              by_cases hp1 : 1 ≤ l1
              · have t3 : decide ((1 : Int) ≤ (l1 : Int)) = true := decide_eq_true (by omega)
                by_cases hp2 : l1 ≤ Q
                · have t4 : decide ((l1 : Int) ≤ q) = true := decide_eq_true ((hqL l1 hp1).2 hp2)
                  have HFIN : Hid (findF n K t q s nn own st = (some (l1 - 1), getS n K sx (hd : Int))) := hidp (by rw [HFF.out, nextF_found n K q (by rw [HHD.out, HL1.out]; exact ⟨hp1, (hqL l1 hp1).2 hp2⟩), HHD.out, HL1.out])
                  have HPL : Hid (Value.int .i64 ((l1 : Int) - 1) = Value.int .i64 ((l1 - 1 : Nat) : Int)) := hidp (by congr 1; omega)
                  clear HFF HL1
                  go_wp2_with fail
                  go_ret2
                  exact ⟨by rw [HFIN.out]; show Ending.returned (.tuple #[.int .i64 ((l1 : Int) - 1), .bool true]) = _; rw [HPL.out]; rfl, by rw [HFIN.out]; exact W2.out.fin⟩
                · have t4 : decide ((l1 : Int) ≤ q) = false := decide_eq_false (fun h3 => hp2 ((hqL l1 hp1).1 h3))
                  have HN2 : Hid (findF n K t q s nn own st = nextF n K q (11 - (k + 1)) (k + 1) (getS n K sx (hd : Int))) := hidp (by
                    rw [HFF.out, nextF_step n K q (by rw [HHD.out, HL1.out]; exact fun h4 => hp2 ((hqL l1 h4.1).1 h4.2)), HHD.out, HJ.out])
                  clear HFF HL1
                  go_wp2_with fail
                  go_roundw
                  case rel => exact ⟨k + 1, _, by omega, by omega, by go_num, HN2, W2⟩
                  case measure => simp [intOf]; omega
              · have t3 : decide ((1 : Int) ≤ (l1 : Int)) = false := decide_eq_false (by omega)
                have HN2 : Hid (findF n K t q s nn own st = nextF n K q (11 - (k + 1)) (k + 1) (getS n K sx (hd : Int))) := hidp (by
                  rw [HFF.out, nextF_step n K q (by rw [HHD.out, HL1.out]; exact fun h4 => hp1 h4.1), HHD.out, HJ.out])
                clear HFF HL1
                go_wp2_with fail
                go_roundw
                case rel => exact ⟨k + 1, _, by omega, by omega, by go_num, HN2, W2⟩
                case measure => simp [intOf]; omega
            · have t2 : decide ((k : Int) < 11) = false := decide_eq_false (by omega)
              have HFIN : Hid (findF n K t q s nn own st = (none, sx)) := hidp (by
                rw [HFF.out, show 11 - k = 0 by omega]
                rfl)
              go_wp2_with fail
              go_ret2
              exact ⟨by rw [HFIN.out]; rfl, by rw [HFIN.out]; exact W1.out.fin⟩
      · have t3 : decide ((1 : Int) ≤ (l : Int)) = false := decide_eq_false (by omega)
        have HNX : Hid (findF n K t q s nn own st = nextF n K q (11 - (own + 1)) (own + 1) sy) := hidp (by
          rw [HFF.out, HLK.out, lookF_end n K t q s nn (fun h4 => hp1 h4.1)]
          try rfl)
        clear HFF HLK
        go_wp2_with fail
        refine (r14Of_c nn (by omega) (by omega) _).mono ?_
        rintro e w9 ⟨rfl, rfl⟩
        rw [HO.out]
        go_wp2_with fail
        clear x0 x1 x2
        go_loopw [8, 11] (fun _ u11 wr => ∃ (k : Nat) (sx : Vst), own < k ∧ k ≤ 11 ∧ u11 = .int .i64 (k : Int) ∧ Hid (findF n K t q s nn own st = nextF n K q (11 - k) k sx) ∧ Hid (WL (rOb base b n all K) w0 A G w [⟨w.heap.size, 23, #[.int .i64 t, .int .i64 q, .int .i64 s]⟩] sx wr)) (fun _ u11 _ => 11 - (intOf u11).toNat)
        case atStart => exact ⟨own + 1, _, by omega, by omega, by go_num, HNX, W3⟩
        case round =>
          clear W3 HNX
          obtain ⟨k, sx, hko, hk11, rfl, HFF, W1⟩ := hrel
          obtain ⟨x0, x1, x2⟩ := W1.out.h0.three
          by_cases hk : k < 11
          · have t2 : decide ((k : Int) < 11) = true := decide_eq_true (by omega)
            obtain ⟨hd, hhd⟩ : ∃ hd : Nat, 2 + k = hd := ⟨_, rfl⟩
            have HHD := hidp hhd
            have HB : Hid (nthI 2 11 1 (k : Int) = (hd : Int)) := hidp (by rw [nth_on (by omega) (by omega) (by omega)]; omega)
            obtain ⟨l1, hl1⟩ : ∃ l, getV n K sx (hd : Int) = l := ⟨_, rfl⟩
            have hl32 : l1 < 2 ^ 32 := by rw [← hl1]; exact rWL_lt W1.out _
            have HL1 := hidp hl1
            obtain ⟨j, hj⟩ : ∃ j, 11 - k = j + 1 := ⟨10 - k, by omega⟩
            have HJ : Hid (11 - (k + 1) = j) := hidp (by omega)
            rw [hj] at HFF
            clear hl1 hhd hj
            go_wp2_with fail
            refine (r7Bin_c (k : Int) _).mono ?_
            rintro e w9 ⟨rfl, rfl⟩
            rw [HB.out]
            go_wp2_with fail
            refine (rGetA hn _ W1.out.at_).mono ?_
            rintro e w2 ⟨rfl, a1, a2⟩
            rw [HL1.out]
            have W2 := hidp (W1.out.call a1 a2)
            clear a1 a2 W1 x0 x1 x2
            obtain ⟨x0, x1, x2⟩ := W2.out.h0.three
            by_cases hp1 : 1 ≤ l1
            · have t3 : decide ((1 : Int) ≤ (l1 : Int)) = true := decide_eq_true (by omega)
              by_cases hp2 : l1 ≤ Q
              · have t4 : decide ((l1 : Int) ≤ q) = true := decide_eq_true ((hqL l1 hp1).2 hp2)
                have HFIN : Hid (findF n K t q s nn own st = (some (l1 - 1), getS n K sx (hd : Int))) := hidp (by rw [HFF.out, nextF_found n K q (by rw [HHD.out, HL1.out]; exact ⟨hp1, (hqL l1 hp1).2 hp2⟩), HHD.out, HL1.out])
                have HPL : Hid (Value.int .i64 ((l1 : Int) - 1) = Value.int .i64 ((l1 - 1 : Nat) : Int)) := hidp (by congr 1; omega)
                clear HFF HL1
                go_wp2_with fail
                go_ret2
                exact ⟨by rw [HFIN.out]; show Ending.returned (.tuple #[.int .i64 ((l1 : Int) - 1), .bool true]) = _; rw [HPL.out]; rfl, by rw [HFIN.out]; exact W2.out.fin⟩
              · have t4 : decide ((l1 : Int) ≤ q) = false := decide_eq_false (fun h3 => hp2 ((hqL l1 hp1).1 h3))
                have HN2 : Hid (findF n K t q s nn own st = nextF n K q (11 - (k + 1)) (k + 1) (getS n K sx (hd : Int))) := hidp (by
                  rw [HFF.out, nextF_step n K q (by rw [HHD.out, HL1.out]; exact fun h4 => hp2 ((hqL l1 h4.1).1 h4.2)), HHD.out, HJ.out])
                clear HFF HL1
                go_wp2_with fail
                go_roundw
                case rel => exact ⟨k + 1, _, by omega, by omega, by go_num, HN2, W2⟩
                case measure => simp [intOf]; omega
            · have t3 : decide ((1 : Int) ≤ (l1 : Int)) = false := decide_eq_false (by omega)
              have HN2 : Hid (findF n K t q s nn own st = nextF n K q (11 - (k + 1)) (k + 1) (getS n K sx (hd : Int))) := hidp (by
                rw [HFF.out, nextF_step n K q (by rw [HHD.out, HL1.out]; exact fun h4 => hp1 h4.1), HHD.out, HJ.out])
              clear HFF HL1
              go_wp2_with fail
              go_roundw
              case rel => exact ⟨k + 1, _, by omega, by omega, by go_num, HN2, W2⟩
              case measure => simp [intOf]; omega
          · have t2 : decide ((k : Int) < 11) = false := decide_eq_false (by omega)
            have HFIN : Hid (findF n K t q s nn own st = (none, sx)) := hidp (by
              rw [HFF.out, show 11 - k = 0 by omega]
              rfl)
            go_wp2_with fail
            go_ret2
            exact ⟨by rw [HFIN.out]; rfl, by rw [HFIN.out]; exact W1.out.fin⟩
    · have t4 : decide ((m : Int) < q) = false := decide_eq_false (fun h3 => hmQ ((hqQ m).1 h3))
      have HNX : Hid (findF n K t q s nn own st = nextF n K q (11 - (own + 1)) (own + 1) sy) := hidp (by
        rw [HFF.out, HLK.out, show Q - m = 0 by omega]
        try rfl)
      clear HFF HLK
      go_wp2_with fail
      refine (r14Of_c nn (by omega) (by omega) _).mono ?_
      rintro e w9 ⟨rfl, rfl⟩
      rw [HO.out]
      go_wp2_with fail
      clear x0 x1 x2
      go_loopw [8, 11] (fun _ u11 wr => ∃ (k : Nat) (sx : Vst), own < k ∧ k ≤ 11 ∧ u11 = .int .i64 (k : Int) ∧ Hid (findF n K t q s nn own st = nextF n K q (11 - k) k sx) ∧ Hid (WL (rOb base b n all K) w0 A G w [⟨w.heap.size, 23, #[.int .i64 t, .int .i64 q, .int .i64 s]⟩] sx wr)) (fun _ u11 _ => 11 - (intOf u11).toNat)
      case atStart => exact ⟨own + 1, _, by omega, by omega, by go_num, HNX, W3⟩
      case round =>
        clear W3 HNX
        obtain ⟨k, sx, hko, hk11, rfl, HFF, W1⟩ := hrel
        obtain ⟨x0, x1, x2⟩ := W1.out.h0.three
        by_cases hk : k < 11
        · have t2 : decide ((k : Int) < 11) = true := decide_eq_true (by omega)
          obtain ⟨hd, hhd⟩ : ∃ hd : Nat, 2 + k = hd := ⟨_, rfl⟩
          have HHD := hidp hhd
          have HB : Hid (nthI 2 11 1 (k : Int) = (hd : Int)) := hidp (by rw [nth_on (by omega) (by omega) (by omega)]; omega)
          obtain ⟨l1, hl1⟩ : ∃ l, getV n K sx (hd : Int) = l := ⟨_, rfl⟩
          have hl32 : l1 < 2 ^ 32 := by rw [← hl1]; exact rWL_lt W1.out _
          have HL1 := hidp hl1
          obtain ⟨j, hj⟩ : ∃ j, 11 - k = j + 1 := ⟨10 - k, by omega⟩
          have HJ : Hid (11 - (k + 1) = j) := hidp (by omega)
          rw [hj] at HFF
          clear hl1 hhd hj
          go_wp2_with fail
          refine (r7Bin_c (k : Int) _).mono ?_
          rintro e w9 ⟨rfl, rfl⟩
          rw [HB.out]
          go_wp2_with fail
          refine (rGetA hn _ W1.out.at_).mono ?_
          rintro e w2 ⟨rfl, a1, a2⟩
          rw [HL1.out]
          have W2 := hidp (W1.out.call a1 a2)
          clear a1 a2 W1 x0 x1 x2
          obtain ⟨x0, x1, x2⟩ := W2.out.h0.three
          by_cases hp1 : 1 ≤ l1
          · have t3 : decide ((1 : Int) ≤ (l1 : Int)) = true := decide_eq_true (by omega)
            by_cases hp2 : l1 ≤ Q
            · have t4 : decide ((l1 : Int) ≤ q) = true := decide_eq_true ((hqL l1 hp1).2 hp2)
              have HFIN : Hid (findF n K t q s nn own st = (some (l1 - 1), getS n K sx (hd : Int))) := hidp (by rw [HFF.out, nextF_found n K q (by rw [HHD.out, HL1.out]; exact ⟨hp1, (hqL l1 hp1).2 hp2⟩), HHD.out, HL1.out])
              have HPL : Hid (Value.int .i64 ((l1 : Int) - 1) = Value.int .i64 ((l1 - 1 : Nat) : Int)) := hidp (by congr 1; omega)
              clear HFF HL1
              go_wp2_with fail
              go_ret2
              exact ⟨by rw [HFIN.out]; show Ending.returned (.tuple #[.int .i64 ((l1 : Int) - 1), .bool true]) = _; rw [HPL.out]; rfl, by rw [HFIN.out]; exact W2.out.fin⟩
            · have t4 : decide ((l1 : Int) ≤ q) = false := decide_eq_false (fun h3 => hp2 ((hqL l1 hp1).1 h3))
              have HN2 : Hid (findF n K t q s nn own st = nextF n K q (11 - (k + 1)) (k + 1) (getS n K sx (hd : Int))) := hidp (by
                rw [HFF.out, nextF_step n K q (by rw [HHD.out, HL1.out]; exact fun h4 => hp2 ((hqL l1 h4.1).1 h4.2)), HHD.out, HJ.out])
              clear HFF HL1
              go_wp2_with fail
              go_roundw
              case rel => exact ⟨k + 1, _, by omega, by omega, by go_num, HN2, W2⟩
              case measure => simp [intOf]; omega
          · have t3 : decide ((1 : Int) ≤ (l1 : Int)) = false := decide_eq_false (by omega)
            have HN2 : Hid (findF n K t q s nn own st = nextF n K q (11 - (k + 1)) (k + 1) (getS n K sx (hd : Int))) := hidp (by
              rw [HFF.out, nextF_step n K q (by rw [HHD.out, HL1.out]; exact fun h4 => hp1 h4.1), HHD.out, HJ.out])
            clear HFF HL1
            go_wp2_with fail
            go_roundw
            case rel => exact ⟨k + 1, _, by omega, by omega, by go_num, HN2, W2⟩
            case measure => simp [intOf]; omega
        · have t2 : decide ((k : Int) < 11) = false := decide_eq_false (by omega)
          have HFIN : Hid (findF n K t q s nn own st = (none, sx)) := hidp (by
            rw [HFF.out, show 11 - k = 0 by omega]
            rfl)
          go_wp2_with fail
          go_ret2
          exact ⟨by rw [HFIN.out]; rfl, by rw [HFIN.out]; exact W1.out.fin⟩

theorem r14Find_c (hn : n < 2 ^ 40) (hq : q ≤ 1024) (nn : Int) (h : (rOb base b n all K).At w0 A G st w) :
    Calls Tryz.prog 90 #[.pointer (some ⟨b, 0, none⟩), .agg #[.int .i64 t, .int .i64 q, .int .i64 s], .int .i64 nn] w fun e w' => e = .returned (.tuple #[.int .i64 (foundI (findI n K t q s nn st).1), .bool (findI n K t q s nn st).1.isSome]) ∧ (rOb base b n all K).At w0 A G (findI n K t q s nn st).2 w' ∧ Stay G w w' := by
  by_cases h1 : nn < 1
  · rw [findI_no (by omega)]; exact r14Find_low nn h1 h
  · by_cases h2 : q < nn
    · rw [findI_no (by omega)]; exact r14Find_high nn (by omega) h2 h
    · obtain ⟨m, rfl⟩ := Int.eq_ofNat_of_zero_le (show 0 ≤ nn by omega)
      obtain ⟨own, ho, ho10, _⟩ := ofI_nat (n := m) (by omega) (by omega)
      rw [findI_yes ho (by omega) (by omega)]
      exact r14Find_yes hn hq (m : Int) own ho ho10 (by omega) (by omega) h
end
end
section
theorem ntVs_snoc (l : List Nat) (q : Nat) : ntVs (l ++ [q]) = ntVs l ++ [.int .i64 (q : Int)] := by unfold ntVs; simp
theorem ntVs_len (l : List Nat) : (ntVs l).length = l.length := by unfold ntVs; simp
theorem own_caps9 {w : World} {base : Nat} {e : TypeId} {size n c : Nat} {A : Option Addr} {xs : List Value} (h : w.ownsRow base e size (.slice A n c) n xs) : n ≤ c ∧ c ≤ 9223372036854775807 := by
  rcases h.2 with ⟨h1, h2⟩ | ⟨g, cap, cur, h1, hb, hg, hnc, hcm, hr⟩
  · injection h1 with _ h1 h3; omega
  · injection h1 with _ _ h3; unfold maxLen at hcm; omega
theorem own_lower {w : World} {base base' : Nat} {e : TypeId} {size n : Nat} {v : Value} {xs : List Value} (h : w.ownsRow base e size v n xs) (hb : base' ≤ base) : w.ownsRow base' e size v n xs := by
  refine ⟨h.1, ?_⟩
  rcases h.2 with h2 | ⟨g, cap, cur, rfl, hbg, hg, hr⟩
  · exact .inl h2
  · exact .inr ⟨g, cap, cur, rfl, Nat.le_trans hb hbg, hg, hr⟩

def WalkEnd (O : Ob) (w0 : World) (A G : Nat → Prop) (l : List Nat) (s : Vst) (w : World) (e : Ending) (w' : World) : Prop :=
  ∃ u, e = .returned u ∧ w'.ownsRow w.heap.size 3 1 u l.length (ntVs l) ∧ O.At w0 A (GU G u) s w' ∧ Stay G w w'
structure RowW (O : Ob) (w0 : World) (A G : Nat → Prop) (ws : World) (N : Nat) (T : TypeId) (cs : Array Value) (base : Nat) (u : Value) (nl : Nat) (xs : List Value) (st : Vst) (w : World) : Prop where
  at_ : O.At w0 A (GU (And1 G N) u) st w
  own : w.ownsRow base 3 1 u nl xs
  held : Held w N T cs
  stay : Stay G ws w
section
variable {O : Ob} {w0 ws w w' : World} {A G : Nat → Prop} {N : Nat} {T : TypeId} {cs : Array Value} {base : Nat} {u : Value} {nl : Nat} {xs : List Value} {st s' : Vst}
theorem RowW.keep (h : RowW O w0 A G ws N T cs base u nl xs st w) (hb : Below w.heap.size w w') : RowW O w0 A G ws N T cs base u nl xs st w' := ⟨h.at_.keep hb, own_below h.own hb, h.held.keep hb, h.stay.trans (Stay.of_below hb G)⟩
theorem RowW.call (h : RowW O w0 A G ws N T cs base u nl xs st w) (h1 : O.At w0 A (GU (And1 G N) u) s' w') (h2 : Stay (GU (And1 G N) u) w w') : RowW O w0 A G ws N T cs base u nl xs s' w' :=
  ⟨h1, h2.own (fun g e => .inr e) h.own, h2.held (.inl (.inr rfl)) h.held, h.stay.trans (h2.less fun g x => .inl (.inl x))⟩
theorem Ob.At.own_lt (h : O.At w0 A G st w) : ∀ g, G g → g < w.heap.size := fun g x => by
  obtain ⟨A', _, _, _, h4⟩ := h
  exact (h4 g x).2.1
theorem row_grown {g cap : Nat} {x : Value} {o : Obj} (hA : O.At w0 A (GU (And1 G N) u) st w) (hO : w.ownsRow base 3 1 u nl xs) (hC : Held w N T cs) (hN : u.ownBlock ≠ some N) (hS : Stay G ws w)
    (hown : w'.ownsRow base 3 1 (.slice (some ⟨g, 0, none⟩) (nl + 1) cap) (nl + 1) (xs ++ [x])) (hgr : (w.alloc o).grownBy w' u.ownBlock) (hat : u.ownBlock = some g ∨ g = (w.alloc o).heap.size) (hlt : g < w'.heap.size)
    (hG : ∀ g, G g → g < base) : RowW O w0 A G ws N T cs base (.slice (some ⟨g, 0, none⟩) (nl + 1) cap) (nl + 1) (xs ++ [x]) st w' := by
  refine ⟨(hA.alloc o).grown hgr (fun g e => .inr e) ?_, hown, ?_, (hS.trans (Stay.of_below (Bnew (B0 _) o) G)).trans (Stay.of_grown hgr (fun g e x => by have := hG g x; have := (hO.lt g e).1; omega))⟩
  · rintro i (x | x)
    · exact .inl (.inl x)
    · simp [Value.ownBlock] at x
      subst x
      rcases hat with h | h
      · exact .inl (.inr h)
      · exact .inr ⟨by omega, hlt⟩
  · exact (hgr.block N (by simp; have := hC.lt; omega) (fun e => hN e.symm)).trans (hC.alloc o)
theorem RowW.put (h : RowW O w0 A G ws N T cs base u nl xs st w) (hN : u.ownBlock ≠ some N) (hn : ws.heap.size ≤ N) (i : Nat) (v : Value) : RowW O w0 A G ws N T (cs.setIfInBounds i v) base u nl xs st (w.setCell ⟨N, i, none⟩ v) :=
  ⟨h.at_.put (p := ⟨N, i, none⟩) (.inl (.inr rfl)) v, own_kept h.own (fun g e => Below.heap_setCell w ⟨N, i, none⟩ v g (fun e2 => by have e2 : g = N := e2; subst e2; exact hN e)), h.held.put i v,
    ⟨by simp; exact h.stay.1, fun g hg hl => (Below.heap_setCell w ⟨N, i, none⟩ v g (fun e2 => by have e2 : g = N := e2; omega)).trans (h.stay.2 g hg hl)⟩⟩
theorem WK.put (h : WK O w0 A G ws N T cs st w) (hn : ws.heap.size ≤ N) (i : Nat) (v : Value) : WK O w0 A G ws N T (cs.setIfInBounds i v) st (w.setCell ⟨N, i, none⟩ v) :=
  ⟨h.at_.put (p := ⟨N, i, none⟩) (.inr rfl) v, h.held.put i v, ⟨by simp; exact h.stay.1, fun g hg hl => (Below.heap_setCell w ⟨N, i, none⟩ v g (fun e2 => by have e2 : g = N := e2; omega)).trans (h.stay.2 g hg hl)⟩⟩
theorem WK.next {T' : TypeId} {cs' : Array Value} (h : WK O w0 A G ws N T cs st w) (h0 : Held ws N T cs) : WK O w0 A (And1 G N) ws w.heap.size T' cs' st (w.alloc (.cells cs' T')) :=
  ⟨h.at_.box _, Held.new _ _ _, (Stay.trans ⟨h.stay.1, fun g hg hl => by
    rcases hg with x | rfl
    · exact h.stay.2 g x hl
    · exact h.held.trans h0.symm⟩ (Stay.of_below (Bnew (B0 w) _) _))⟩
theorem WK.less {N' : Nat} (h : WK O w0 A (And1 G N') ws N T cs st w) : WK O w0 A G ws N T cs st w :=
  ⟨h.at_.less (fun g x => by
    rcases x with x | x
    · exact .inl (.inl x)
    · exact .inr x), h.held, h.stay.less (fun g x => .inl x)⟩
theorem RowW.next {T' : TypeId} {cs' : Array Value} (h : RowW O w0 A G ws N T cs base u nl xs st w) : RowW O w0 A G ws w.heap.size T' cs' base u nl xs st (w.alloc (.cells cs' T')) :=
  ⟨h.at_.keep2 (Bnew (B0 w) _) (fun g x => by
    rcases x with (x | x) | x
    · exact .inl (.inl (.inl x))
    · right; subst x; simp
    · exact .inl (.inr x)), own_below h.own (Bnew (B0 w) _), Held.new _ _ _, h.stay.trans (Stay.of_below (Bnew (B0 w) _) G)⟩
theorem heldOwn_ne {t e : TypeId} {size : Nat} {v : Value} {g : Nat} (h : Held w g t cs) (ho : w.ownsRow base e size v nl xs) (hne : t ≠ e) : v.ownBlock ≠ some g := by
  intro hv
  rcases ho.2 with ⟨rfl, _⟩ | ⟨g', cap, cur, rfl, hb, hg, _⟩
  · simp [Value.ownBlock] at hv
  · have : g' = g := by simpa [Value.ownBlock] using hv
    subst this
    unfold Held at h
    rw [h] at hg
    injection hg with hg
    injection hg with _ h2
    exact hne h2
end
end
end Go.Proofs.YtioolaaphbddbaaGreatDoor

namespace Go.Proofs.YtioolaaphbddbaaGreatDoor
open Go.ChangeShapes Go.WideShapes Go.ChangeAt Go.RowKit Go.Maps
set_option linter.unusedVariables false
set_option maxRecDepth 100000
set_option linter.unusedSimpArgs false
section
theorem rowV_nat6 {w : World} {base : Nat} {e : TypeId} {v : Value} {l : List Nat} (h : w.ownsRow base e 1 v l.length (ntVs l)) : RowV w v ((l.map fun (i : Nat) => (i : Int)).map (Value.int .i64)) := by
  have e0 : ntVs l = (l.map fun (n : Nat) => (n : Int)).map (Value.int .i64) := by unfold ntVs; rw [List.map_map]; rfl
  rw [e0] at h
  refine RowV.of_own (base := base) (e := e) ?_
  simpa using h
theorem RWrites_c {base b n : Nat} {all : Bool} {v : Nat → Value} {Kn : Nat → Option Nat} {s : Vst} (hlim : s.wr.length < 2 ^ 40) (w : World) (h : IsRefV w base b n all v Kn s) :
    Calls Tryz.prog 52 #[.pointer (some ⟨b, 0, none⟩)] w fun e w' => ∃ u, e = .returned u ∧ w'.ownsRow w.heap.size 96 2 u s.wr.length (prVs s.wr) ∧ Below w.heap.size w w' := by
  have hn := h.nmax
  have HH := hidp h
  have HO : Hid (w.ownsRow base 3 1 (v 5) s.wr.length (ntVs (s.wr.map (·.1)))) := hidp (h.parts.own.rowAt (by omega) rfl rfl rfl rfl)
  obtain ⟨A, cr, hv5⟩ := own_slice HO.out
  have HO5 : Hid (w.ownsRow base 3 1 (.slice A s.wr.length cr) s.wr.length (ntVs (s.wr.map (·.1)))) := hidp (by have := HO.out; rwa [hv5] at this)
  obtain ⟨hqc, hcr⟩ := vown_caps HO5.out
  have hcr2 : cr ≤ 9223372036854775807 := hcr
  have HC6 : Hid (∀ w', Below w.heap.size w w' → w'.cell? ⟨b, 6, none⟩ = some (.slice A s.wr.length cr)) := hidp (fun w' hb => by
    have := (h.keep hb).cells.2.2.2.2.2.2.1
    rwa [hv5] at this)
  obtain ⟨q, hq⟩ : ∃ q, s.wr.length = q := ⟨_, rfl⟩
  have HQ := hidp hq
  have HP0 : Hid ((w.alloc (.cells #[] 96)).ownsRow w.heap.size 96 2 (.slice (some ⟨w.heap.size, 0, none⟩) 0 0) 0 (prVs (s.wr.take 0))) := hidp (World.ownsRow_made w #[] 0 (Nat.le_refl _) (Nat.zero_le _) (by simp))
  have HB0 := hidp (Bnew (B0 w) (.cells #[] 96))
  obtain ⟨j0, hjn, hjz0, hjz1, hjz2⟩ := info_parts pairInfo
  rw [hq] at HO5 HC6 hqc hlim ⊢
  clear h HO hv5 hq hcr
  go_enter Tryz.func52, Tryz.ntmps52
  go_wp2_with fail
  go_loopw [3, 4] (fun u i wr => ∃ k : Nat, k ≤ q ∧ i = .int .i64 k ∧ Hid (wr.ownsRow w.heap.size 96 2 u k (prVs (s.wr.take k))) ∧ Hid (Below w.heap.size w wr)) (fun _ i _ => q - (intOf i).toNat)
  case atStart => exact ⟨0, by omega, rfl, HP0, HB0⟩
  case round =>
    clear HP0 HB0
    obtain ⟨k, hk, rfl, HP, HB⟩ := hrel
    have c6 := HC6.out _ HB.out
    by_cases hlt : k < q
    · have hkl : k < s.wr.length := by have := HQ.out; omega
      have hcn : cellW s.wr k < n := by
        have := (HH.out.ok.wrLt s.wr[k] (List.getElem_mem _)).1
        simpa [cellW, List.getD, List.getElem?_eq_getElem hkl] using this
      obtain ⟨g3, p3, hv3, hp3, hm3, hg3, hl3, hr3⟩ := HH.out.row (i := 3) (by omega) (by omega)
      have hto : toV s.wr (cellW s.wr k) = atW s.wr k := by unfold toV; rw [HH.out.ok.wrNd k hkl]
      have d3 := (hr3 _ hcn).1.trans (rX_3 n Kn s hcn)
      rw [hto] at d3
      obtain ⟨gw, cw, hvw, _, hgw⟩ := HO5.out.form (by omega)
      injection hvw with hvw _ hcc
      subst hvw
      subst hcc
      have d5 : w.cell? ⟨gw, k, none⟩ = some (.int .i64 ((cellW s.wr k : Nat) : Int)) := by
        rw [HO5.out.cellAt k (by omega)]
        unfold ntVs
        rw [List.getElem?_map, List.getElem?_map, List.getElem?_eq_getElem hkl]
        simp [cellW, List.getD, List.getElem?_eq_getElem hkl]
      have HPS : Hid (prVs (s.wr.take (k + 1)) = prVs (s.wr.take k) ++ [.int .i64 ((cellW s.wr k : Nat) : Int), .int .u32 ((atW s.wr k : Nat) : Int)]) := hidp (by
        have e : s.wr.take (k + 1) = s.wr.take k ++ [(cellW s.wr k, atW s.wr k)] := by
          have e0 : (cellW s.wr k, atW s.wr k) = s.wr[k] := by simp [cellW, atW, List.getD, List.getElem?_eq_getElem hkl]
          rw [List.take_add_one, List.getElem?_eq_getElem hkl, e0]
          rfl
        rw [e, prVs_snoc])
      have HS : Hid (∀ w', Below w.heap.size w w' → w'.cell? ⟨b, 6, none⟩ = some (.slice (some ⟨gw, 0, none⟩) q cr) ∧ w'.cell? ⟨gw, k, none⟩ = some (.int .i64 ((cellW s.wr k : Nat) : Int)) ∧ w'.cell? ⟨b, 4, none⟩ = some (.slice (some ⟨g3, 0, none⟩) n p3) ∧ w'.cell? ⟨g3, cellW s.wr k, none⟩ = some (.int .u32 ((atW s.wr k : Nat) : Int))) := hidp (fun w' hb => by
        refine ⟨HC6.out _ hb, (hb.cell (p := ⟨gw, k, none⟩) hgw).trans d5, ?_, (hb.cell (p := ⟨g3, cellW s.wr k, none⟩) hl3).trans d3⟩
        have := (HH.out.keep hb).cells.2.2.2.2.1
        rwa [hv3] at this)
      obtain ⟨y0, y1, y2, y3⟩ := HS.out _ HB.out
      clear hto d3 d5 hr3 hv3 hkl
      generalize cellW s.wr k = cx at *
      generalize atW s.wr k = ax at *
      go_wp2_with fail
      refine wp_region_held_drew (S := (fun w' => w'.cell? ⟨b, 6, none⟩ = some (.slice (some ⟨gw, 0, none⟩) q cr) ∧ w'.cell? ⟨gw, k, none⟩ = some (.int .i64 (cx : Int)) ∧ w'.cell? ⟨b, 4, none⟩ = some (.slice (some ⟨g3, 0, none⟩) n p3) ∧ w'.cell? ⟨g3, cx, none⟩ = some (.int .u32 (ax : Int)))) (by kernel_rfl) ?_ (fun hHeld => ?_)
      · (try dsimp only)
        first | exact ⟨y0, y1, y2, y3⟩ | exact HS.out _ (Bnew (Bdrew HB.out) _) | exact HS.out _ HBq.out | exact hHeld
      refine wpAnyH_take (i := 0) (oi := _) (v := ?_) rfl (by kernel_rfl) (by kernel_rfl) (by kernel_rfl) (fun _ _ _ h => h) (Or.inl ⟨by rfl, ?_⟩) (by assumption) ?_
      rotate_left
      · intro w hSw; (try dsimp only at hSw); go_simp; (try with_reducible rfl)
      (try simp only [Act.put, List.getElem_toArray, List.getElem_cons_zero, List.getElem_cons_succ, List.setIfInBounds_toArray, List.set_cons_zero, List.set_cons_succ])
      refine wpAnyH_take (i := 1) (oi := _) (v := ?_) rfl (by kernel_rfl) (by kernel_rfl) (by kernel_rfl) (fun _ _ _ h => h) (Or.inl ⟨by rfl, ?_⟩) (by assumption) ?_
      rotate_left
      · intro w hSw; (try dsimp only at hSw); go_simp; (try with_reducible rfl)
      (try simp only [Act.put, List.getElem_toArray, List.getElem_cons_zero, List.getElem_cons_succ, List.setIfInBounds_toArray, List.set_cons_zero, List.set_cons_succ])
      refine wpAnyH_take (i := 2) (oi := _) (v := ?_) rfl (by kernel_rfl) (by kernel_rfl) (by kernel_rfl) (fun _ _ _ h => h) (Or.inl ⟨by rfl, ?_⟩) (by assumption) ?_
      rotate_left
      · intro w hSw; (try dsimp only at hSw); go_simp; (try with_reducible rfl)
      (try simp only [Act.put, List.getElem_toArray, List.getElem_cons_zero, List.getElem_cons_succ, List.setIfInBounds_toArray, List.set_cons_zero, List.set_cons_succ])
      refine wpAnyH_take (i := 3) (oi := _) (v := ?_) rfl (by kernel_rfl) (by kernel_rfl) (by kernel_rfl) (fun _ _ _ h => h) (Or.inl ⟨by rfl, ?_⟩) (by assumption) ?_
      rotate_left
      · intro w hSw; (try dsimp only at hSw); go_simp; (try with_reducible rfl)
      (try simp only [Act.put, List.getElem_toArray, List.getElem_cons_zero, List.getElem_cons_succ, List.setIfInBounds_toArray, List.set_cons_zero, List.set_cons_succ])
      refine wpAnyH_take (i := 4) (oi := _) (v := ?_) rfl (by kernel_rfl) (by kernel_rfl) (by kernel_rfl) (fun _ _ _ h => h) (Or.inl ⟨by rfl, ?_⟩) (by assumption) ?_
      rotate_left
      · intro w hSw; (try dsimp only at hSw); go_simp; (try with_reducible rfl)
      (try simp only [Act.put, List.getElem_toArray, List.getElem_cons_zero, List.getElem_cons_succ, List.setIfInBounds_toArray, List.set_cons_zero, List.set_cons_succ])
      refine wpAnyH_take (i := 5) (oi := _) (v := ?_) rfl (by kernel_rfl) (by kernel_rfl) (by kernel_rfl) (fun _ _ _ h => h) (Or.inl ⟨by rfl, ?_⟩) (by assumption) ?_
      rotate_left
      · intro w hSw; (try dsimp only at hSw); go_simp; (try with_reducible rfl)
      (try simp only [Act.put, List.getElem_toArray, List.getElem_cons_zero, List.getElem_cons_succ, List.setIfInBounds_toArray, List.set_cons_zero, List.set_cons_succ])
      refine wpAnyH_take (i := 6) (oi := _) (v := ?_) rfl (by kernel_rfl) (by kernel_rfl) (by kernel_rfl) (fun _ _ _ h => h) (Or.inl ⟨by rfl, ?_⟩) (by assumption) ?_
      rotate_left
      · intro w hSw; (try dsimp only at hSw); go_simp; (try with_reducible rfl)
      (try simp only [Act.put, List.getElem_toArray, List.getElem_cons_zero, List.getElem_cons_succ, List.setIfInBounds_toArray, List.set_cons_zero, List.set_cons_succ])
      refine wpAnyH_take (i := 7) (oi := _) (v := ?_) rfl (by kernel_rfl) (by kernel_rfl) (by kernel_rfl) (fun _ _ _ h => h) (Or.inl ⟨by rfl, ?_⟩) (by assumption) ?_
      rotate_left
      · intro w hSw; (try dsimp only at hSw); go_simp; (try with_reducible rfl)
      (try simp only [Act.put, List.getElem_toArray, List.getElem_cons_zero, List.getElem_cons_succ, List.setIfInBounds_toArray, List.set_cons_zero, List.set_cons_succ])
      refine wpAnyH_take (i := 8) (oi := _) (v := ?_) rfl (by kernel_rfl) (by kernel_rfl) (by kernel_rfl) (fun _ _ _ h => h) (Or.inl ⟨by rfl, ?_⟩) (by assumption) ?_
      rotate_left
      · intro w hSw; (try dsimp only at hSw); go_simp; (try with_reducible rfl)
      (try simp only [Act.put, List.getElem_toArray, List.getElem_cons_zero, List.getElem_cons_succ, List.setIfInBounds_toArray, List.set_cons_zero, List.set_cons_succ])
      refine wpAnyH_take (i := 9) (oi := _) (v := ?_) rfl (by kernel_rfl) (by kernel_rfl) (by kernel_rfl) (fun _ _ _ h => h) (Or.inl ⟨by rfl, ?_⟩) (by assumption) ?_
      rotate_left
      · intro w hSw; (try dsimp only at hSw); go_simp; (try with_reducible rfl)
      (try simp only [Act.put, List.getElem_toArray, List.getElem_cons_zero, List.getElem_cons_succ, List.setIfInBounds_toArray, List.set_cons_zero, List.set_cons_succ])
      refine wpAnyH_take (i := 10) (oi := _) (v := ?_) rfl (by kernel_rfl) (by kernel_rfl) (by kernel_rfl) (fun _ _ _ h => h) (Or.inl ⟨by rfl, ?_⟩) (by assumption) ?_
      rotate_left
      · intro w hSw; (try dsimp only at hSw); go_simp; (try with_reducible rfl)
      (try simp only [Act.put, List.getElem_toArray, List.getElem_cons_zero, List.getElem_cons_succ, List.setIfInBounds_toArray, List.set_cons_zero, List.set_cons_succ])
      refine wpAnyH_take (i := 11) (oi := _) (v := ?_) rfl (by kernel_rfl) (by kernel_rfl) (by kernel_rfl) (fun _ _ _ h => h) (Or.inl ⟨by rfl, ?_⟩) (by assumption) ?_
      rotate_left
      · intro w hSw; (try dsimp only at hSw); go_simp; (try with_reducible rfl)
      (try simp only [Act.put, List.getElem_toArray, List.getElem_cons_zero, List.getElem_cons_succ, List.setIfInBounds_toArray, List.set_cons_zero, List.set_cons_succ])
      refine wpAnyH_take (i := 12) (oi := _) (v := ?_) rfl (by kernel_rfl) (by kernel_rfl) (by kernel_rfl) (fun _ _ _ h => h) (Or.inl ⟨by rfl, ?_⟩) (by assumption) ?_
      rotate_left
      · intro w hSw; (try dsimp only at hSw); go_simp; (try with_reducible rfl)
      (try simp only [Act.put, List.getElem_toArray, List.getElem_cons_zero, List.getElem_cons_succ, List.setIfInBounds_toArray, List.set_cons_zero, List.set_cons_succ])
      refine wpAnyH_take (i := 13) (oi := _) (v := ?_) rfl (by kernel_rfl) (by kernel_rfl) (by kernel_rfl) (fun _ _ _ h => h) (Or.inl ⟨by rfl, ?_⟩) (by assumption) ?_
      rotate_left
      · intro w hSw; (try dsimp only at hSw); go_simp; (try with_reducible rfl)
      (try simp only [Act.put, List.getElem_toArray, List.getElem_cons_zero, List.getElem_cons_succ, List.setIfInBounds_toArray, List.set_cons_zero, List.set_cons_succ])
      refine wpAnyH_take (i := 14) (oi := _) (v := ?_) rfl (by kernel_rfl) (by kernel_rfl) (by kernel_rfl) (fun _ _ _ h => h) (Or.inl ⟨by rfl, ?_⟩) (by assumption) ?_
      rotate_left
      · intro w hSw; (try dsimp only at hSw); go_simp; (try with_reducible rfl)
      (try simp only [Act.put, List.getElem_toArray, List.getElem_cons_zero, List.getElem_cons_succ, List.setIfInBounds_toArray, List.set_cons_zero, List.set_cons_succ])
      refine wpAnyH_take (i := 15) (oi := _) (v := ?_) rfl (by kernel_rfl) (by kernel_rfl) (by kernel_rfl) (fun _ _ _ h => h) (Or.inl ⟨by rfl, ?_⟩) (by assumption) ?_
      rotate_left
      · intro w hSw; (try dsimp only at hSw); go_simp; (try with_reducible rfl)
      (try simp only [Act.put, List.getElem_toArray, List.getElem_cons_zero, List.getElem_cons_succ, List.setIfInBounds_toArray, List.set_cons_zero, List.set_cons_succ])
      refine wpAnyH_take (i := 16) (oi := _) (v := ?_) rfl (by kernel_rfl) (by kernel_rfl) (by kernel_rfl) (fun _ _ _ h => h) (Or.inl ⟨by rfl, ?_⟩) (by assumption) ?_
      rotate_left
      · intro w hSw; (try dsimp only at hSw); go_simp; (try with_reducible rfl)
      (try simp only [Act.put, List.getElem_toArray, List.getElem_cons_zero, List.getElem_cons_succ, List.setIfInBounds_toArray, List.set_cons_zero, List.set_cons_succ])
      refine wpAnyH_take (i := 17) (oi := _) (v := ?_) rfl (by kernel_rfl) (by kernel_rfl) (by kernel_rfl) (fun _ _ _ h => h) (Or.inl ⟨by rfl, ?_⟩) (by assumption) ?_
      rotate_left
      · intro w hSw; (try dsimp only at hSw); go_simp; (try with_reducible rfl)
      (try simp only [Act.put, List.getElem_toArray, List.getElem_cons_zero, List.getElem_cons_succ, List.setIfInBounds_toArray, List.set_cons_zero, List.set_cons_succ])
      refine wpAnyH_take (i := 18) (oi := _) (v := ?_) rfl (by kernel_rfl) (by kernel_rfl) (by kernel_rfl) (fun _ _ _ h => h) (Or.inl ⟨by rfl, ?_⟩) (by assumption) ?_
      rotate_left
      · intro w hSw; (try dsimp only at hSw); go_simp; (try with_reducible rfl)
      (try simp only [Act.put, List.getElem_toArray, List.getElem_cons_zero, List.getElem_cons_succ, List.setIfInBounds_toArray, List.set_cons_zero, List.set_cons_succ])
      refine wpAnyH_take (i := 19) (oi := _) (v := ?_) rfl (by kernel_rfl) (by kernel_rfl) (by kernel_rfl) (fun _ _ _ h => h) (Or.inl ⟨by rfl, ?_⟩) (by assumption) ?_
      rotate_left
      · intro w hSw; (try dsimp only at hSw); go_simp; (try with_reducible rfl)
      (try simp only [Act.put, List.getElem_toArray, List.getElem_cons_zero, List.getElem_cons_succ, List.setIfInBounds_toArray, List.set_cons_zero, List.set_cons_succ])
      refine wpAnyH_take (i := 20) (oi := _) (v := ?_) rfl (by kernel_rfl) (by kernel_rfl) (by kernel_rfl) (fun _ _ _ h => h) (Or.inl ⟨by rfl, ?_⟩) (by assumption) ?_
      rotate_left
      · intro w hSw; (try dsimp only at hSw); go_simp; (try with_reducible rfl)
      (try simp only [Act.put, List.getElem_toArray, List.getElem_cons_zero, List.getElem_cons_succ, List.setIfInBounds_toArray, List.set_cons_zero, List.set_cons_succ])
      refine wpAnyH_take (i := 21) (oi := _) (v := ?_) rfl (by kernel_rfl) (by kernel_rfl) (by kernel_rfl) (fun _ _ _ h => h) (Or.inl ⟨by rfl, ?_⟩) (by assumption) ?_
      rotate_left
      · intro w hSw; (try dsimp only at hSw); go_simp; (try with_reducible rfl)
      (try simp only [Act.put, List.getElem_toArray, List.getElem_cons_zero, List.getElem_cons_succ, List.setIfInBounds_toArray, List.set_cons_zero, List.set_cons_succ])
      refine wpAnyH_ready (rs := [22]) (by kernel_rfl) (by simp) ?_
      refine AllReadyH.cons (o := _) rfl (fun K hK => ?_) AllReadyH.nil
      go_simp
      skip
      refine hK.out _ _ ?_ (fun hHeld => ?_)
      · (try dsimp only)
        first | exact ⟨y0, y1, y2, y3⟩ | exact HS.out _ (Bnew (Bdrew HB.out) _) | exact HS.out _ HBq.out | exact hHeld
      clear hK K
      (try simp only [Act.put, List.getElem_toArray, List.getElem_cons_zero, List.getElem_cons_succ, List.setIfInBounds_toArray, List.set_cons_zero, List.set_cons_succ])
      refine wpAnyH_ready (rs := [23]) (by kernel_rfl) (by simp) ?_
      refine AllReadyH.cons (o := _) rfl (fun K hK => ?_) AllReadyH.nil
      (refine step_append_lies _ (by rfl) _ _ 40 (by rfl) w.heap.size 96 j0 (.agg #[.int .i64 0, .int .u32 0]) 2 16 Tryz.underlying40 hjn hjz0 hjz1 hjz2 rfl (by decide) u3 k (prVs (s.wr.take k)) (by rfl) ((own_below HP.out (Bdrew (B0 _))).alloc _) ⟨_, 0, none⟩ 1 1 [.int .i64 (cx : Int), .int .u32 (ax : Int)] (by rfl) rfl (fun j y hy => World.news_of_block (w := wr.alloc (.cells #[.int .i64 (cx : Int), .int .u32 (ax : Int)] 96)) (heap_alloc_new wr _) j y (by simpa using hy)) (by simp [Value.oneCell']) (by omega) (by unfold maxLen; omega) (by omega) (by have := HB.out.size; simp; omega) _ rfl ?_; intro g cap w6 hown6 hgrow6 hat6 hlt6; have HBq := hidp ((Bnew HB.out (.cells #[.int .i64 (cx : Int), .int .u32 (ax : Int)] 96)).grown (w' := w6) ⟨hgrow6.os, hgrow6.tape, hgrow6.output, hgrow6.size, hgrow6.block⟩ (by have := HB.out.size; simp; omega) (fun q' hq' => (HP.out.lt q' hq').1)); have HO6 := hidp hown6; clear hown6 hgrow6 hat6 hlt6)
      refine hK.out _ _ ?_ (fun hHeld => ?_)
      · (try dsimp only)
        first | exact ⟨y0, y1, y2, y3⟩ | exact HS.out _ (Bnew (Bdrew HB.out) _) | exact HS.out _ HBq.out | exact hHeld
      clear hK K
      (try simp only [Act.put, List.getElem_toArray, List.getElem_cons_zero, List.getElem_cons_succ, List.setIfInBounds_toArray, List.set_cons_zero, List.set_cons_succ])
      refine wpAnyH_take (i := 24) (oi := _) (v := ?_) rfl (by kernel_rfl) (by kernel_rfl) (by kernel_rfl) (fun _ _ _ h => h) (Or.inl ⟨by rfl, ?_⟩) (by assumption) ?_
      rotate_left
      · intro w hSw; (try dsimp only at hSw); go_simp; (try with_reducible rfl)
      (try simp only [Act.put, List.getElem_toArray, List.getElem_cons_zero, List.getElem_cons_succ, List.setIfInBounds_toArray, List.set_cons_zero, List.set_cons_succ])
      refine wpAnyH_done (by kernel_rfl) ?_ _
      go_wp2
      go_roundw
      case rel => exact ⟨k + 1, by omega, by go_num, hidp (by rw [HPS.out]; exact HO6.out), HBq⟩
      case measure => simp [intOf]; omega
    · obtain rfl : k = q := by omega
      have HPF : Hid (wr.ownsRow w.heap.size 96 2 u3 k (prVs s.wr)) := hidp (by
        have := HP.out
        rwa [List.take_of_length_le (by have := HQ.out; omega)] at this)
      go_wp2
      go_ret
      exact ⟨u3, rfl, HPF.out, HB.out⟩

theorem Same_c {base b n : Nat} {all : Bool} {v : Nat → Value} {Kn : Nat → Option Nat} {s : Vst} (h1 : s.rd.length < 2 ^ 40) (h2 : s.wr.length < 2 ^ 40) (u1 u2 : Value) (w : World) (h : IsRefV w base b n all v Kn s)
    (HR : RowV w u1 ((s.rd.map fun (i : Nat) => (i : Int)).map (Value.int .i64))) (HW : RowP w u2 s.wr) :
    Calls Tryz.prog 15 #[.pointer (some ⟨b, 0, none⟩), u1, u2, .int .i64 (missI s)] w fun e w' => e = .returned (.bool true) ∧ Below w.heap.size w w' := by
  have HH := hidp h
  have c5 := h.cells.2.2.2.2.2.1
  have HV : Hid (RowV w (v 4) ((s.rd.map fun (i : Nat) => (i : Int)).map (Value.int .i64))) := hidp (rowV_nat6 (h.parts.own.rowAt (by omega) rfl rfl rfl rfl))
  have HR := hidp HR
  have HW := hidp HW
  obtain ⟨mi, hmi⟩ : ∃ mi, missI s = mi := ⟨_, rfl⟩
  have HMI := hidp hmi
  rw [hmi]
  clear h hmi
  go_enter Tryz.func15, Tryz.ntmps15
  go_wp2_with fail
  refine (Ints_same _ _ _ _ HR.out HV.out).mono ?_
  rintro e w1 ⟨rfl, j1, rfl⟩
  obtain ⟨w2, hw2⟩ : ∃ w2, w.drewN j1 = w2 := ⟨_, rfl⟩
  have hb := Bdraw (B0 w) j1
  rw [hw2] at hb ⊢
  have HH2 := hidp (HH.out.keep hb)
  have HW2 := hidp (HW.out.below hb)
  have HB2 := hidp hb
  clear hb HH HW HR HV c5 hw2
  go_wp2_with fail
  refine (RWrites_c h2 _ HH2.out).mono ?_
  rintro e w3 ⟨u3, rfl, ho, hb⟩
  have HP3 := hidp (RowP.of_own ho)
  have HW3 := hidp (HW2.out.below hb)
  have HH3 := hidp (HH2.out.keep hb)
  have HB3 := hidp (Bgo HB2.out hb)
  clear ho hb HH2 HW2 HB2
  go_wp2_with fail
  refine (Pairs_same s.wr _ _ _ HW3.out HP3.out).mono ?_
  rintro e w4 ⟨rfl, j4, rfl⟩
  have c7 : (w3.drewN j4).cell? ⟨b, 7, none⟩ = some (.int .i64 mi) := by
    have := (HH3.out.keep (Bdraw (B0 w3) j4)).cells.2.2.2.2.2.2.2.1
    rwa [HMI.out] at this
  have HB4 := hidp (Bdraw HB3.out j4)
  obtain ⟨w5, hw5⟩ : ∃ w5, w3.drewN j4 = w5 := ⟨_, rfl⟩
  rw [hw5] at c7 HB4 ⊢
  clear hw5
  go_wp2
  go_ret
  exact ⟨rfl, HB4.out⟩
end
end Go.Proofs.YtioolaaphbddbaaGreatDoor

namespace Go.Proofs.YtioolaaphbddbaaGreatDoor
open Go.ChangeShapes Go.WideShapes Go.ChangeAt Go.RowKit Go.Maps
set_option linter.unusedVariables false
set_option linter.unusedSimpArgs false
set_option maxRecDepth 100000
section
structure Duo (W : World) (O1 O2 : Ob) (A B G : Nat → Prop) (s1 s2 : Vst) (w : World) : Prop where
  i1 : O1.I w s1 A
  i2 : O2.I w s2 B
  ab : ∀ i, A i → ¬ B i
  aG : ∀ g, G g → g < w.heap.size ∧ ¬ A g ∧ ¬ B g
  lo : ∀ i, A i ∨ B i → W.heap.size ≤ i
  bel : Below W.heap.size W w
def noOb : Ob where
  I _ _ A := ∀ i, ¬ A i
  lt h i hi := absurd hi (h i)
  turns h _ _ := h

section
variable {W w w' : World} {O1 O2 : Ob} {A B G : Nat → Prop} {s1 s2 s' : Vst}
theorem Duo.left1 (h : Duo W O1 O2 A B G s1 s2 w) (hl : O1.Left w A s' w') : ∃ A', Duo W O1 O2 A' B G s' s2 w' ∧ Stay G w w' := by
  obtain ⟨A', k1, k2, k3⟩ := hl
  have hs := h.bel.size
  refine ⟨A', ⟨k1, O2.turns h.i2 k3 (fun i hi ha => h.ab i ha hi), fun i hi hb => ?_, fun g hg => ⟨Nat.lt_of_lt_of_le (h.aG g hg).1 k3.size, fun x => ?_, (h.aG g hg).2.2⟩, fun i hi => ?_, k3.below h.bel (fun i hi => h.lo i (.inl hi))⟩, ⟨k3.size, fun g hg hl => k3.block g hl (h.aG g hg).2.1⟩⟩
  · rcases k2 i hi with h1 | h1
    · exact h.ab i h1 hb
    · have := O2.lt h.i2 i hb; omega
  · rcases k2 g x with h1 | h1
    · exact (h.aG g hg).2.1 h1
    · have := (h.aG g hg).1; omega
  · rcases hi with hi | hi
    · rcases k2 i hi with h1 | h1
      · exact h.lo i (.inl h1)
      · omega
    · exact h.lo i (.inr hi)
theorem Duo.swap (h : Duo W O1 O2 A B G s1 s2 w) : Duo W O2 O1 B A G s2 s1 w := ⟨h.i2, h.i1, fun i hb ha => h.ab i ha hb, fun g hg => ⟨(h.aG g hg).1, (h.aG g hg).2.2, (h.aG g hg).2.1⟩, fun i hi => h.lo i hi.symm, h.bel⟩
theorem Duo.left2 (h : Duo W O1 O2 A B G s1 s2 w) (hl : O2.Left w B s' w') : ∃ B', Duo W O1 O2 A B' G s1 s' w' ∧ Stay G w w' := by
  obtain ⟨B', h1, h2⟩ := h.swap.left1 hl
  exact ⟨B', h1.swap, h2⟩
theorem Duo.keep (h : Duo W O1 O2 A B G s1 s2 w) (hb : Below w.heap.size w w') : Duo W O1 O2 A B G s1 s2 w' :=
  ⟨Ob.keep h.i1 hb, Ob.keep h.i2 hb, h.ab, fun g hg => ⟨Nat.lt_of_lt_of_le (h.aG g hg).1 hb.size, (h.aG g hg).2⟩, h.lo, Bgo h.bel hb⟩
theorem Duo.keep2 {G' : Nat → Prop} (h : Duo W O1 O2 A B G s1 s2 w) (hb : Below w.heap.size w w') (hG : ∀ g, G' g → G g ∨ (w.heap.size ≤ g ∧ g < w'.heap.size)) : Duo W O1 O2 A B G' s1 s2 w' := by
  have hk := h.keep hb
  refine ⟨hk.i1, hk.i2, hk.ab, fun g x => ?_, hk.lo, hk.bel⟩
  rcases hG g x with h1 | h1
  · exact hk.aG g h1
  · exact ⟨h1.2, fun y => by have := O1.lt h.i1 g y; omega, fun y => by have := O2.lt h.i2 g y; omega⟩
theorem Duo.grown {row : Option Nat} {G' : Nat → Prop} (h : Duo W O1 O2 A B G s1 s2 w) (hg : w.grownBy w' row) (hr : ∀ g, row = some g → G g ∧ W.heap.size ≤ g) (hG : ∀ g, G' g → G g ∨ (w.heap.size ≤ g ∧ g < w'.heap.size)) : Duo W O1 O2 A B G' s1 s2 w' := by
  have ht : Turns (fun i => row = some i) w w' := ⟨hg.os, hg.tape, hg.output, hg.size, fun i hi hn => hg.block i hi (fun e => hn e.symm)⟩
  refine ⟨O1.turns h.i1 ht (fun i hi e => (h.aG i (hr i e).1).2.1 hi), O2.turns h.i2 ht (fun i hi e => (h.aG i (hr i e).1).2.2 hi), h.ab, fun g x => ?_, h.lo, ht.below h.bel (fun i e => (hr i e).2)⟩
  rcases hG g x with h1 | h1
  · exact ⟨Nat.lt_of_lt_of_le (h.aG g h1).1 hg.size, (h.aG g h1).2⟩
  · exact ⟨h1.2, fun y => by have := O1.lt h.i1 g y; omega, fun y => by have := O2.lt h.i2 g y; omega⟩
theorem Duo.less {G' : Nat → Prop} (h : Duo W O1 O2 A B G s1 s2 w) (hg : ∀ g, G' g → G g) : Duo W O1 O2 A B G' s1 s2 w := { h with aG := fun g x => h.aG g (hg g x) }
theorem Duo.at1 (h : Duo W O1 O2 A B G s1 s2 w) : O1.At w A (fun _ => False) s1 w := Ob.At.start h.i1
theorem Duo.at2 (h : Duo W O1 O2 A B G s1 s2 w) : O2.At w B (fun _ => False) s2 w := Ob.At.start h.i2
theorem Duo.walk1 {l : List Nat} {e : Ending} (h : Duo W O1 O2 A B G s1 s2 w) (hw : WalkEnd O1 w A (fun _ => False) l s' w e w') :
    ∃ u A', e = .returned u ∧ w'.ownsRow w.heap.size 3 1 u l.length (ntVs l) ∧ Duo W O1 O2 A' B (GU G u) s' s2 w' ∧ Stay G w w' := by
  obtain ⟨u, he, ho, hA, _⟩ := hw
  obtain ⟨A', k1, k2, k3, k4⟩ := hA
  have hs := h.bel.size
  have k5 : ∀ g, (GU (fun _ => False) u) g → ¬ A' g := fun g x => (k4 g x).2.2
  refine ⟨u, A', he, ho, ⟨k1, O2.turns h.i2 k3 (fun i hi ha => h.ab i ha hi), fun i hi hb => ?_, fun g hg => ?_, fun i hi => ?_, k3.below h.bel (fun i hi => h.lo i (.inl hi))⟩, ⟨k3.size, fun g hg hl => k3.block g hl (h.aG g hg).2.1⟩⟩
  · rcases k2 i hi with h1 | h1
    · exact h.ab i h1 hb
    · have := O2.lt h.i2 i hb; omega
  · rcases hg with hg | hg
    · refine ⟨Nat.lt_of_lt_of_le (h.aG g hg).1 k3.size, fun x => ?_, (h.aG g hg).2.2⟩
      rcases k2 g x with h1 | h1
      · exact (h.aG g hg).2.1 h1
      · have := (h.aG g hg).1; omega
    · have h1 := ho.lt g hg
      exact ⟨h1.2, k5 g (.inr hg), fun x => by have := O2.lt h.i2 g x; omega⟩
  · rcases hi with hi | hi
    · rcases k2 i hi with h1 | h1
      · exact h.lo i (.inl h1)
      · omega
    · exact h.lo i (.inr hi)
theorem RowV.lit (w : World) (cs : Array Value) (t : TypeId) (n : Nat) (h : cs.size = n) (hm : n ≤ maxLen) : RowV (w.alloc (.cells cs t)) (.slice (some ⟨w.heap.size, 0, none⟩) n n) cs.toList := by
  subst h
  refine ⟨by simpa using hm, .inr ⟨w.heap.size, 0, cs.size, by simp, by simp, fun i u hu => ?_⟩⟩
  rw [Nat.zero_add, (Held.new w t cs).cell i]
  simpa using hu
theorem duo_made {b n base : Nat} {wh : Bool} {o : VGeo} {K : Nat → Option Nat} {s : Vst} (hI : IsView w base b n wh o K s) (hb : W.heap.size ≤ base) (hB : Below W.heap.size W w) (hG : ∀ g, G g → g < w.heap.size ∧ ¬ o.A b g) :
    Duo W (vOb base b n wh K) noOb (o.A b) (fun _ => False) G s freshS w :=
  ⟨⟨o, hI, rfl⟩, fun _ x => x, fun _ _ x => x, fun g hg => ⟨(hG g hg).1, (hG g hg).2, fun x => x⟩, fun i hi => by
    rcases hi with hi | hi
    · exact Nat.le_trans hb (hI.ge i hi)
    · exact hi.elim, hB⟩
end
end
section
theorem few14_c (t q s : Int) (w : World) : Calls Tryz.prog 7 #[.agg #[.int .i64 t, .int .i64 q, .int .i64 s]] w fun e w' => e = .returned (.bool (decide (q ≤ 64))) ∧ Below w.heap.size w w' := by
  go_enter Tryz.func7, Tryz.ntmps7
  go_wp2
  go_ret
  exact ⟨rfl, Bnew (B0 _) _⟩
theorem make82 (w : World) : (Instr.makeSlice 24 (.int .i64 82) (.int .i64 82)).run Tryz.prog w = .ok (.slice (some ⟨w.heap.size, 0, none⟩) 82 82) (w.alloc (.cells (Array.replicate 82 (.int .u32 0)) 63)) := by kernel_rfl
def ex14L : List Nat := ((((List.replicate 82 0).set 0 8).set 5 1).set 34 129).set 77 1
def ex14C : Array Value := ((((Array.replicate 82 (Value.int .u32 0)).setIfInBounds 0 (.int .u32 8)).setIfInBounds 5 (.int .u32 1)).setIfInBounds 34 (.int .u32 129)).setIfInBounds 77 (.int .u32 1)
theorem ex14_eq : ex14C.toList = valVs ex14L := by
  unfold ex14C ex14L valVs
  simp only [Array.toList_setIfInBounds, Array.toList_replicate, List.map_set, List.map_replicate]
  rfl
def ex14K : Nat → Option Nat := fun i => ex14L[i]?
set_option maxHeartbeats 1600000 in
theorem Eight14_c (w : World) : Calls Tryz.prog 31 #[] w fun e w' => ∃ g, e = .returned (.tuple #[.agg #[.int .i64 1, .int .i64 8, .int .i64 10], .slice (some ⟨g, 0, none⟩) 82 82]) ∧ Held w' g 63 ex14C ∧ Below w.heap.size w w' := by
  have hmk := make82
  have HC := (Held.new w 23 #[.int .i64 0, .int .i64 0, .int .i64 0]).alloc (.cells (Array.replicate 82 (.int .u32 0)) 63)
  have HG := Held.new2 w (.cells #[.int .i64 0, .int .i64 0, .int .i64 0] 23) 63 (Array.replicate 82 (.int .u32 0))
  have g0 : _ = some (Value.int .u32 0) := (HG.cell 0).trans (by simp)
  have g1 : _ = some (Value.int .u32 0) := (HG.cell 5).trans (by simp)
  have g2 : _ = some (Value.int .u32 0) := (HG.cell 34).trans (by simp)
  have g3 : _ = some (Value.int .u32 0) := (HG.cell 77).trans (by simp)
  have f0 := HG.thawed
  obtain ⟨c0, c1, c2⟩ := HC.three
  have f1 := HC.thawed
  clear HC HG
  go_enter Tryz.func31, Tryz.ntmps31
  go_wp2
  refine bodyPost_ret (v := .tuple #[.agg #[.int .i64 1, .int .i64 8, .int .i64 10], .slice (some ⟨w.heap.size + 1, 0, none⟩) 82 82]) (by simp [results, Tryz.results31, go_sem]) rfl ⟨w.heap.size + 1, rfl, ?_, ?_⟩
  · unfold ex14C
    exact Held.new2 w (.cells #[.int .i64 1, .int .i64 8, .int .i64 10] 23) 63 _
  · exact Bnew (Bnew (B0 w) _) _
end
end Go.Proofs.YtioolaaphbddbaaGreatDoor

namespace Go.Proofs.YtioolaaphbddbaaGreatDoor
open Go.ChangeShapes Go.WideShapes Go.ChangeAt Go.RowKit
set_option linter.unusedVariables false
section
theorem put_new (x a v : Nat) (ha : a + 16 ≤ 64) (hx : x < 2 ^ a) (hv : v < 65536) : HM.putN x a 16 v = x + v * 2 ^ a := by
  have hx64 : x < 2 ^ 64 := Nat.lt_of_lt_of_le hx (Nat.pow_le_pow_right (by omega) (by omega))
  have h1 : x + v * 2 ^ a = 2 ^ a * v + x := by rw [Nat.mul_comm, Nat.add_comm]
  have hlt : 2 ^ a * v + x < 2 ^ 64 := by
    have e : (2 : Nat) ^ 64 = 2 ^ a * 2 ^ (64 - a) := by rw [← Nat.pow_add]; congr 1; omega
    have e2 : (2 : Nat) ^ 16 ≤ 2 ^ (64 - a) := Nat.pow_le_pow_right (by omega) (by omega)
    have e3 : 2 ^ a * (v + 1) ≤ 2 ^ a * 2 ^ (64 - a) := Nat.mul_le_mul_left _ (by omega)
    rw [Nat.mul_succ] at e3
    rw [e]
    omega
  rw [h1]
  apply Nat.eq_of_testBit_eq
  intro i
  by_cases hi : i < 64
  · rw [HM.bit_putN x a 16 v i ha hv hi, Nat.testBit_two_pow_mul_add _ hx]
    by_cases h2 : i < a
    · rw [if_neg (by omega), if_pos h2]
    · rw [if_neg h2]
      by_cases h3 : i < a + 16
      · rw [if_pos ⟨by omega, h3⟩]
      · rw [if_neg (by omega), Nat.testBit_lt_two_pow (Nat.lt_of_lt_of_le hx (Nat.pow_le_pow_right (by omega) (by omega))), Nat.testBit_lt_two_pow (Nat.lt_of_lt_of_le hv (show 65536 ≤ 2 ^ (i - a) from Nat.pow_le_pow_right (n := 2) (by omega) (show 16 ≤ i - a by omega)))]
  · rw [HM.bit_high (HM.putN_lt x a 16 v ha hv) (by omega), HM.bit_high hlt (by omega)]
end
end Go.Proofs.YtioolaaphbddbaaGreatDoor

namespace Go.Proofs.YtioolaaphbddbaaGreatDoor
open Go.ChangeShapes Go.WideShapes Go.ChangeAt Go.RowKit
set_option linter.unusedVariables false
set_option linter.unusedSimpArgs false
section
def SlotsLaid (w : World) : Prop := ∀ k : Nat, k < 9 → w.cell? ⟨0, k, none⟩ = some (.int .i64 ((slotN k : Nat) : Int))
theorem SlotsLaid.below {w w' : World} (h : SlotsLaid w) (hb : Below w.heap.size w w') : SlotsLaid w' := fun k hk => cells_stay hb _ _ (h k hk)
theorem SlotsLaid.alloc {w : World} (h : SlotsLaid w) (o : Obj) : SlotsLaid (w.alloc o) := h.below (Bnew (B0 _) _)
theorem SlotsLaid.drewN {w : World} (h : SlotsLaid w) (n : Nat) : SlotsLaid (w.drewN n) := h.below (Bdraw (B0 _) _)
theorem SlotsLaid.drew {w : World} (h : SlotsLaid w) : SlotsLaid w.drew := h.below (Bdrew (B0 _))

theorem clSlots_c (k : Int) (h0 : -9223372036854775808 ≤ k) (h1 : k ≤ 9223372036854775807) (w : World) (hT : SlotsLaid w) :
    Calls Tryz.prog 36 #[.int .i64 k] w fun e w' => e = .returned (.int .i64 ((slotI k : Nat) : Int)) ∧ w = w' := by
  by_cases a : k < 0
  · have E := hidp (slotI_out (.inl a))
    go_enter Tryz.func36, Tryz.ntmps36
    go_wp2
    go_ret
    exact ⟨by rw [E.out]; rfl, rfl⟩
  by_cases b : 9 ≤ k
  · have E := hidp (slotI_out (.inr b))
    go_enter Tryz.func36, Tryz.ntmps36
    go_wp2
    go_ret
    exact ⟨by rw [E.out]; rfl, rfl⟩
  · obtain ⟨k, rfl⟩ : ∃ n : Nat, k = n := ⟨k.toNat, by omega⟩
    have E := hidp (slotI_nat k)
    have hk : k < 9 := by omega
    have hc := hT k hk
    have HT := hidp hT
    clear hT
    go_enter Tryz.func36, Tryz.ntmps36
    go_wp2
    go_ret
    exact ⟨by rw [E.out]; rfl, rfl⟩

theorem r5Slots_c (k : Int) (h0 : -9223372036854775808 ≤ k) (h1 : k ≤ 9223372036854775807) (w : World) :
    Calls Tryz.prog 22 #[.int .i64 k] w fun e w' => e = .returned (.int .i64 ((slotI k : Nat) : Int)) ∧ w = w' := by
  by_cases a : 0 ≤ k ∧ k < 9
  · obtain ⟨k, rfl⟩ : ∃ n : Nat, k = n := ⟨k.toNat, by omega⟩
    have hk : k < 9 := by omega
    clear a h0 h1
    match k, hk with
    | 0, _ | 1, _ | 2, _ | 3, _ | 4, _ | 5, _ | 6, _ | 7, _ | 8, _ =>
      go_enter Tryz.func22, Tryz.ntmps22
      go_wp2
      go_ret
      exact ⟨rfl, rfl⟩
  · have E := hidp (slotI_out (k := k) (by omega))
    have e0 : (k == 0) = false := by simp; omega
    have e1 : (k == 1) = false := by simp; omega
    have e2 : (k == 2) = false := by simp; omega
    have e3 : (k == 3) = false := by simp; omega
    have e4 : (k == 4) = false := by simp; omega
    have e5 : (k == 5) = false := by simp; omega
    have e6 : (k == 6) = false := by simp; omega
    have e7 : (k == 7) = false := by simp; omega
    have e8 : (k == 8) = false := by simp; omega
    go_enter Tryz.func22, Tryz.ntmps22
    go_wp2
    go_ret
    exact ⟨by rw [E.out]; rfl, rfl⟩

theorem r5Size_c (s k : Int) (h0 : -9223372036854775808 ≤ k) (h1 : k ≤ 9223372036854775807) (w : World) :
    Calls Tryz.prog 160 #[.int .i64 s, .int .i64 k] w fun e w' => e = .returned (.int .i64 ((sizeN s k : Nat) : Int)) ∧ Below w.heap.size w w' := by
  obtain ⟨n, hn⟩ : ∃ n, slotI k = n := ⟨_, rfl⟩
  obtain ⟨p, hp⟩ : ∃ p, pageS s = p := ⟨_, rfl⟩
  have hn1 : n ≤ 32 := hn ▸ slotI_le k
  have hp1 : p ≤ 1048576 := hp ▸ pageS_le s
  have E : sizeN s k = p / n - p / n % 16 := by unfold sizeN; rw [hn, hp]
  have HN := hidp hn
  have HP := hidp (show pageN 1 4 s = p from hp)
  have HE := hidp E
  clear hn hp E
  by_cases hz : n = 0 ∨ p = 0
  · have hE : p / n - p / n % 16 = 0 := by rcases hz with rfl | rfl <;> simp
    have HE2 := hidp (HE.out.trans hE)
    clear hE
    rcases hz with rfl | rfl
    · go_enter Tryz.func160, Tryz.ntmps160
      go_wp2_with fail
      refine (r4Page_c 1 4 s _).mono ?_
      rintro e w2 ⟨rfl, hb2⟩
      rw [HP.out]
      go_wp2_with fail
      refine (r5Slots_c k h0 h1 _).mono ?_
      rintro e w1 ⟨rfl, rfl⟩
      rw [HN.out]
      go_wp2
      go_ret
      exact ⟨by rw [HE2.out]; rfl, hb2⟩
    · have hn0 : ¬ n = 0 ∨ n = 0 := by omega
      rcases hn0 with hn0 | rfl
      all_goals
        go_enter Tryz.func160, Tryz.ntmps160
        go_wp2_with fail
        refine (r4Page_c 1 4 s _).mono ?_
        rintro e w2 ⟨rfl, hb2⟩
        rw [HP.out]
        go_wp2_with fail
        refine (r5Slots_c k h0 h1 _).mono ?_
        rintro e w1 ⟨rfl, rfl⟩
        rw [HN.out]
        go_wp2
        go_ret
        exact ⟨by rw [HE2.out]; rfl, hb2⟩
  · have hq : ((p : Int).tdiv n) = ((p / n : Nat) : Int) := by rw [Int.tdiv_eq_ediv_of_nonneg (by omega)]; norm_cast
    have hq1 : p / n ≤ 1048576 := Nat.le_trans (Nat.div_le_self _ _) hp1
    obtain ⟨q, hqq⟩ : ∃ q, p / n = q := ⟨_, rfl⟩
    rw [hqq] at hq hq1
    have HQ := hidp hqq
    have hn2 : ¬ n = 0 := by omega
    have hp2 : ¬ p = 0 := by omega
    have hn3 : ((n : Int) == 0) = false := by simpa using hn2
    have hp3 : ((p : Int) == 0) = false := by simpa using hp2
    clear hqq hz
    go_enter Tryz.func160, Tryz.ntmps160
    go_wp2_with fail
    refine (r4Page_c 1 4 s _).mono ?_
    rintro e w2 ⟨rfl, hb2⟩
    rw [HP.out]
    go_wp2_with fail
    refine (r5Slots_c k h0 h1 _).mono ?_
    rintro e w1 ⟨rfl, rfl⟩
    rw [HN.out]
    go_wp2
    go_ret
    refine ⟨?_, hb2⟩
    rw [HE.out, HQ.out]
    refine ret_int ?_
    omega
end
section
theorem Held.drew {w : World} {g : Nat} {t : TypeId} {cs : Array Value} (h : Held w g t cs) : Held w.drew g t cs := h
structure HeapV (H : AuH) (n c : Nat) : Prop where
  right : rightB H.t H.p H.s = true
  len : n = 30 + 4 * H.t + 6 * H.p
  cap : n ≤ c
  max : c ≤ maxLen
  lt : ∀ i, i < n → H.V i < 2 ^ 32
def IsVals (w : World) (ad : Addr) (n : Nat) (V : Nat → Nat) : Prop := ad.block < w.heap.size ∧ ∀ i, i < n → w.cell? (ad.add i) = some (.int .u32 (V i : Nat))
theorem IsVals.below {w w' : World} {ad : Addr} {n : Nat} {V : Nat → Nat} (h : IsVals w ad n V) (hb : Below w.heap.size w w') : IsVals w' ad n V :=
  ⟨Nat.lt_of_lt_of_le h.1 hb.size, fun i hi => by
    have e : (ad.add i).block < w.heap.size := by rw [block_of_add]; exact h.1
    exact (hb.cell e).trans (h.2 i hi)⟩
theorem IsVals.drew {w : World} {ad : Addr} {n : Nat} {V : Nat → Nat} (h : IsVals w ad n V) : IsVals w.drew ad n V := h
theorem HeapV.nums {H : AuH} {n c : Nat} (h : HeapV H n c) : 1 ≤ H.t ∧ H.t ≤ 16 ∧ 4 ≤ H.p ∧ H.p ≤ 1024 ∧ 10 ≤ H.s ∧ H.s ≤ 20 ∧ n ≤ 6238 ∧ n ≤ c ∧ c ≤ maxLen := by
  have h1 := (rightB_iff _ _ _).1 h.right
  have h2 := h.len
  have h3 := h.cap
  have h4 := h.max
  omega
theorem HeapV.cel_lt {H : AuH} {n c : Nat} (h : HeapV H n c) {q b : Nat} (hq : q < H.p) (hb : b < 6) : H.cel q b < 2 ^ 32 := h.lt _ (by have := h.len; omega)
theorem HeapV.page {H : AuH} {n c : Nat} (h : HeapV H n c) {q b : Nat} (hq : q < H.p) (hb : b < 6) : pageI H.t H.p H.s q b = ((30 + 4 * H.t + 6 * q + b : Nat) : Int) := by
  rw [pcell_yes h.right (by omega) (by omega) (by omega) (by omega)]
  push_cast
  omega
def hpV (H : AuH) (ad : Addr) (n c : Nat) : Value := .agg #[.int .i64 (H.t : Int), .int .i64 (H.p : Int), .int .i64 (H.s : Int), .slice (some ad) n c]
end
end Go.Proofs.YtioolaaphbddbaaGreatDoor
