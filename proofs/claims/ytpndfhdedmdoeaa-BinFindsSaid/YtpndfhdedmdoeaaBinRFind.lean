/-
  What the document's Find does. Written by bin/gen_rfind.py.
-/
import Derived.Test.YtpndfhdedmdoeaaBinRAdd
namespace Go.Proofs.Ytpndfhdedmdoeaa
open Go.ChangeShapes Go.WideShapes Go.ChangeAt Go.RowKit Go.Maps
set_option linter.unusedVariables false
set_option linter.unusedSimpArgs false
set_option maxRecDepth 100000

section
variable {base b n : Nat} {wh all : Bool} {K : Nat → Option Nat} {st : Vst} {w w0 : World} {A G : Nat → Prop} {t q s : Int}
theorem r14Find_low (nn : Int) (h1 : nn < 1) (h : (rOb base b n all K).At w0 A G st w) :
    Calls Try.prog 21 #[.pointer (some ⟨b, 0, none⟩), .agg #[.int .i64 t, .int .i64 q, .int .i64 s], .int .i64 nn] w fun e w' => e = .returned (.tuple #[.int .i64 (foundI (((none : Option Nat), st)).1), .bool (((none : Option Nat), st)).1.isSome]) ∧ (rOb base b n all K).At w0 A G (((none : Option Nat), st)).2 w' ∧ Stay G w w' := by
  have W0 := hidp ((WL.start h).new 23 #[.int .i64 t, .int .i64 q, .int .i64 s])
  obtain ⟨x0, x1, x2⟩ := W0.out.h0.three
  have t0 : decide (nn < (1 : Int)) = true := decide_eq_true h1
  clear h
  go_enter Try.func21, Try.ntmps21
  go_wp2
  go_ret2
  exact ⟨rfl, W0.out.fin⟩
theorem r14Find_high (nn : Int) (h1 : 1 ≤ nn) (h2 : q < nn) (h : (rOb base b n all K).At w0 A G st w) :
    Calls Try.prog 21 #[.pointer (some ⟨b, 0, none⟩), .agg #[.int .i64 t, .int .i64 q, .int .i64 s], .int .i64 nn] w fun e w' => e = .returned (.tuple #[.int .i64 (foundI (((none : Option Nat), st)).1), .bool (((none : Option Nat), st)).1.isSome]) ∧ (rOb base b n all K).At w0 A G (((none : Option Nat), st)).2 w' ∧ Stay G w w' := by
  have W0 := hidp ((WL.start h).new 23 #[.int .i64 t, .int .i64 q, .int .i64 s])
  obtain ⟨x0, x1, x2⟩ := W0.out.h0.three
  have t0 : decide (nn < (1 : Int)) = false := decide_eq_false (by omega)
  have t1 : decide (q < nn) = true := decide_eq_true h2
  clear h
  go_enter Try.func21, Try.ntmps21
  go_wp2
  go_ret2
  exact ⟨rfl, W0.out.fin⟩

set_option maxHeartbeats 6400000 in
theorem r14Find_yes (hn : n < 2 ^ 40) (hq : q ≤ 1024) (nn : Int) (own : Nat) (ho : ofI nn = (own : Int)) (ho10 : own ≤ 10) (h1 : 1 ≤ nn) (h2 : nn ≤ q) (h : (rOb base b n all K).At w0 A G st w) :
    Calls Try.prog 21 #[.pointer (some ⟨b, 0, none⟩), .agg #[.int .i64 t, .int .i64 q, .int .i64 s], .int .i64 nn] w fun e w' => e = .returned (.tuple #[.int .i64 (foundI (findF n K t q s nn own st).1), .bool (findF n K t q s nn own st).1.isSome]) ∧ (rOb base b n all K).At w0 A G (findF n K t q s nn own st).2 w' ∧ Stay G w w' := by
  have W0 := hidp ((WL.start h).new 23 #[.int .i64 t, .int .i64 q, .int .i64 s])
  obtain ⟨x0, x1, x2⟩ := W0.out.h0.three
  have t0 : decide (nn < (1 : Int)) = false := decide_eq_false (by omega)
  have t1 : decide (q < nn) = false := decide_eq_false (by omega)
  have HO := hidp ho
  obtain ⟨Q, hQ⟩ : ∃ Q, q.toNat = Q := ⟨_, rfl⟩
  have hQ1 : 1 ≤ Q ∧ Q ≤ 1024 := by omega
  have hqQ : ∀ l : Nat, ((l : Int) < q ↔ l < Q) := fun l => by omega
  have hqL : ∀ l : Nat, 1 ≤ l → ((l : Int) ≤ q ↔ l ≤ Q) := fun l h1 => by omega
  obtain ⟨hd0, hhd⟩ : ∃ hd : Nat, 2 + own = hd := ⟨_, rfl⟩
  have HB0 : Hid (nthI 2 11 1 (own : Int) = (hd0 : Int)) := hidp (by rw [nth_on (by omega) (by omega) (by omega)]; omega)
  obtain ⟨l0, hl0⟩ : ∃ l, getV n K st (hd0 : Int) = l := ⟨_, rfl⟩
  have hl032 : l0 < 2 ^ 32 := by rw [← hl0]; exact rAt_lt h _
  have HL0 := hidp hl0
  obtain ⟨s0, hs0⟩ : ∃ s0, getS n K st (hd0 : Int) = s0 := ⟨_, rfl⟩
  have HS0 := hidp hs0
  have HFF : Hid (findF n K t q s nn own st = match (lookF n K t q s nn Q l0 s0).1 with
      | some p => (some p, (lookF n K t q s nn Q l0 s0).2)
      | none => nextF n K q (11 - (own + 1)) (own + 1) (lookF n K t q s nn Q l0 s0).2) := hidp (by unfold findF; rw [hhd, hl0, hs0, hQ]; rfl)
  clear h ho hQ hhd hl0 hs0
  go_enter Try.func21, Try.ntmps21
  go_wp2_with fail
  refine (r14Of_c nn (by omega) (by omega) _).mono ?_
  rintro e w9 ⟨rfl, rfl⟩
  rw [HO.out]
  go_wp2_with fail
  refine (r7Bin_c (own : Int) _).mono ?_
  rintro e w9 ⟨rfl, rfl⟩
  rw [HB0.out]
  go_wp2_with fail
  refine (rGetA hn _ W0.out.at_).mono ?_
  rintro e w2 ⟨rfl, a1, a2⟩
  rw [HL0.out]
  have W2 := hidp (W0.out.call a1 a2)
  rw [HS0.out] at W2
  clear a1 a2 W0 HL0 HS0 HB0
  clear x0 x1 x2
  obtain ⟨x0, x1, x2⟩ := W2.out.h0.three
  go_wp2_with fail
  clear x0 x1 x2
  go_loopw [8, 9, 10] (fun u8 u9 _ wr => ∃ (m l : Nat) (sy : Vst), m ≤ Q ∧ u9 = .int .i64 (m : Int) ∧ u8 = .int .i64 (l : Int) ∧ l < 2 ^ 32 ∧ Hid (lookF n K t q s nn Q l0 s0 = lookF n K t q s nn (Q - m) l sy) ∧ Hid (WL (rOb base b n all K) w0 A G w [⟨w.heap.size, 23, #[.int .i64 t, .int .i64 q, .int .i64 s]⟩] sy wr)) (fun _ u9 _ _ => Q - (intOf u9).toNat)
  case atStart => exact ⟨0, l0, _, by omega, by go_num, by go_num, hl032, hidp rfl, W2⟩
  case round =>
    clear W2
    obtain ⟨m, l, sy, hm, rfl, rfl, hl, HLK, W3⟩ := hrel
    obtain ⟨x0, x1, x2⟩ := W3.out.h0.three
    by_cases hmQ : m < Q
    · have t4 : decide ((m : Int) < q) = true := decide_eq_true ((hqQ m).2 hmQ)
      by_cases hp1 : 1 ≤ l
      · have t3 : decide ((1 : Int) ≤ (l : Int)) = true := decide_eq_true (by omega)
        by_cases hp2 : l ≤ Q
        · have t5 : decide ((l : Int) ≤ q) = true := decide_eq_true ((hqL l hp1).2 hp2)
          obtain ⟨j, hj⟩ : ∃ j, Q - m = j + 1 := ⟨Q - m - 1, by omega⟩
          have HJ : Hid (Q - (m + 1) = j) := hidp (by omega)
          replace HLK : Hid (lookF n K t q s nn Q l0 s0 = lookF n K t q s nn (j + 1) l sy) := hidp (by rw [← hj]; exact HLK.out)
          have HPP : Hid (1 ≤ l ∧ (l : Int) ≤ q) := hidp ⟨hp1, (hqL l hp1).2 hp2⟩
          clear hj
          obtain ⟨⟨kk, ll, cc, okk⟩, hI⟩ : ∃ x, infoOf n K t q s ((l : Int) - 1) sy = x := ⟨_, rfl⟩
          have HI := hidp hI
          by_cases hk1 : kk = 1
          · subst hk1
            by_cases hln : nn ≤ ll
            · have HFT : Hid (fitB nn (getV n K sy (pageI t q s ((l : Int) - 1) 0)) = true) := hidp (by unfold infoOf at hI; unfold fitB; rw [hI]; simp; omega)
              clear hI
              have t7 : decide (nn ≤ ll) = true := decide_eq_true hln
              go_wp2_with fail
              refine (r14Info_c hn ((l : Int) - 1) 1 ll cc okk HI.out W3.out.at_).mono ?_; rintro e w5 ⟨rfl, a1, a2⟩; have W5 := hidp (W3.out.call a1 a2); clear a1 a2 W3
              have Y5 := hidp (Held.new w5 55 #[.int .i64 1, .int .i64 ll, .int .i64 cc])
              have W6 := hidp (W5.out.alloc (.cells #[.int .i64 1, .int .i64 ll, .int .i64 cc] 55))
              clear x0 x1 x2
              obtain ⟨x0, x1, x2⟩ := W6.out.h0.three
              obtain ⟨y0, y1, y2⟩ := Y5.out.three
              clear W5
              have HFIN : Hid (findF n K t q s nn own st = (some (l - 1), getS n K sy (pageI t q s ((l : Int) - 1) 0))) := hidp (by rw [HFF.out, HLK.out, lookF_found n K t q s nn HPP.out HFT.out])
              have HPL : Hid (Value.int .i64 ((l : Int) - 1) = Value.int .i64 ((l - 1 : Nat) : Int)) := hidp (by congr 1; omega)
              clear HFF HLK HFT HI
              go_wp2_with fail
              go_ret2
              exact ⟨by rw [HFIN.out]; show Ending.returned (.tuple #[.int .i64 ((l : Int) - 1), .bool true]) = _; rw [HPL.out]; rfl, by rw [HFIN.out]; exact W6.out.fin⟩
            · have HFT : Hid (fitB nn (getV n K sy (pageI t q s ((l : Int) - 1) 0)) = false) := hidp (by unfold infoOf at hI; unfold fitB; rw [hI]; simp; omega)
              clear hI
              have t7 : decide (nn ≤ ll) = false := decide_eq_false hln
              go_wp2_with fail
              refine (r14Info_c hn ((l : Int) - 1) 1 ll cc okk HI.out W3.out.at_).mono ?_; rintro e w5 ⟨rfl, a1, a2⟩; have W5 := hidp (W3.out.call a1 a2); clear a1 a2 W3
              have Y5 := hidp (Held.new w5 55 #[.int .i64 1, .int .i64 ll, .int .i64 cc])
              have W6 := hidp (W5.out.alloc (.cells #[.int .i64 1, .int .i64 ll, .int .i64 cc] 55))
              clear x0 x1 x2
              obtain ⟨x0, x1, x2⟩ := W6.out.h0.three
              obtain ⟨y0, y1, y2⟩ := Y5.out.three
              clear W5
              obtain ⟨v, hv⟩ : ∃ v, getV n K (getS n K sy (pageI t q s ((l : Int) - 1) 0)) (pageI t q s ((l : Int) - 1) 2) = v := ⟨_, rfl⟩
              have hv32 : v < 2 ^ 32 := by rw [← hv]; exact rWL_lt W6.out _
              have HV := hidp hv
              have HLK2 : Hid (lookF n K t q s nn Q l0 s0 = lookF n K t q s nn (Q - (m + 1)) v (getS n K (getS n K sy (pageI t q s ((l : Int) - 1) 0)) (pageI t q s ((l : Int) - 1) 2))) := hidp (by rw [HLK.out, lookF_step n K t q s nn HPP.out HFT.out, HV.out, HJ.out])
              clear hv HLK HFT HI
              go_wp2_with fail
              refine (r7Next_c t q s ((l : Int) - 1) _).mono ?_; rintro e w7 ⟨rfl, hb⟩; have W7 := hidp (W6.out.keep hb); clear hb W6
              go_wp2_with fail
              refine (rGetA hn _ W7.out.at_).mono ?_; rintro e w8 ⟨rfl, a1, a2⟩; have W8 := hidp (W7.out.call a1 a2); clear a1 a2 W7; rw [HV.out]
              clear x0 x1 x2 y0 y1 y2
              go_wp2_with fail
              go_roundw
              case rel => exact ⟨m + 1, v, _, by omega, by go_num, by go_num, hv32, HLK2, W8⟩
              case measure => simp [intOf]; omega
          · have HFT : Hid (fitB nn (getV n K sy (pageI t q s ((l : Int) - 1) 0)) = false) := hidp (by unfold infoOf at hI; unfold fitB; rw [hI]; simp [hk1])
            clear hI
            have t6 : (kk == 1) = false := by simpa using hk1
            
            go_wp2_with fail
            refine (r14Info_c hn ((l : Int) - 1) kk ll cc okk HI.out W3.out.at_).mono ?_; rintro e w5 ⟨rfl, a1, a2⟩; have W5 := hidp (W3.out.call a1 a2); clear a1 a2 W3
            have Y5 := hidp (Held.new w5 55 #[.int .i64 kk, .int .i64 ll, .int .i64 cc])
            have W6 := hidp (W5.out.alloc (.cells #[.int .i64 kk, .int .i64 ll, .int .i64 cc] 55))
            clear x0 x1 x2
            obtain ⟨x0, x1, x2⟩ := W6.out.h0.three
            obtain ⟨y0, y1, y2⟩ := Y5.out.three
            clear W5
            obtain ⟨v, hv⟩ : ∃ v, getV n K (getS n K sy (pageI t q s ((l : Int) - 1) 0)) (pageI t q s ((l : Int) - 1) 2) = v := ⟨_, rfl⟩
            have hv32 : v < 2 ^ 32 := by rw [← hv]; exact rWL_lt W6.out _
            have HV := hidp hv
            have HLK2 : Hid (lookF n K t q s nn Q l0 s0 = lookF n K t q s nn (Q - (m + 1)) v (getS n K (getS n K sy (pageI t q s ((l : Int) - 1) 0)) (pageI t q s ((l : Int) - 1) 2))) := hidp (by rw [HLK.out, lookF_step n K t q s nn HPP.out HFT.out, HV.out, HJ.out])
            clear hv HLK HFT HI
            go_wp2_with fail
            refine (r7Next_c t q s ((l : Int) - 1) _).mono ?_; rintro e w7 ⟨rfl, hb⟩; have W7 := hidp (W6.out.keep hb); clear hb W6
            go_wp2_with fail
            refine (rGetA hn _ W7.out.at_).mono ?_; rintro e w8 ⟨rfl, a1, a2⟩; have W8 := hidp (W7.out.call a1 a2); clear a1 a2 W7; rw [HV.out]
            clear x0 x1 x2 y0 y1 y2
            go_wp2_with fail
            go_roundw
            case rel => exact ⟨m + 1, v, _, by omega, by go_num, by go_num, hv32, HLK2, W8⟩
            case measure => simp [intOf]; omega
        · have t5 : decide ((l : Int) ≤ q) = false := decide_eq_false (fun h3 => hp2 ((hqL l hp1).1 h3))
          have HNX : Hid (findF n K t q s nn own st = nextF n K q (11 - (own + 1)) (own + 1) sy) := hidp (by
            rw [HFF.out, HLK.out, lookF_end n K t q s nn (fun h4 => hp2 ((hqL l h4.1).1 h4.2))]
            try rfl)
          clear HFF HLK
          go_wp2_with fail
          refine (r14Of_c nn (by omega) (by omega) _).mono ?_
          rintro e w9 ⟨rfl, rfl⟩
          rw [HO.out]
          go_wp2_with fail
          clear x0 x1 x2
          go_loopw [8, 11] (fun _ u11 wr => ∃ (k : Nat) (sx : Vst), own < k ∧ k ≤ 11 ∧ u11 = .int .i64 (k : Int) ∧ Hid (findF n K t q s nn own st = nextF n K q (11 - k) k sx) ∧ Hid (WL (rOb base b n all K) w0 A G w [⟨w.heap.size, 23, #[.int .i64 t, .int .i64 q, .int .i64 s]⟩] sx wr)) (fun _ u11 _ => 11 - (intOf u11).toNat)
          case atStart => exact ⟨own + 1, _, by omega, by omega, by go_num, HNX, W3⟩
          case round =>
            clear W3 HNX
            obtain ⟨k, sx, hko, hk11, rfl, HFF, W1⟩ := hrel
            obtain ⟨x0, x1, x2⟩ := W1.out.h0.three
            by_cases hk : k < 11
            · have t2 : decide ((k : Int) < 11) = true := decide_eq_true (by omega)
              obtain ⟨hd, hhd⟩ : ∃ hd : Nat, 2 + k = hd := ⟨_, rfl⟩
              have HHD := hidp hhd
              have HB : Hid (nthI 2 11 1 (k : Int) = (hd : Int)) := hidp (by rw [nth_on (by omega) (by omega) (by omega)]; omega)
              obtain ⟨l1, hl1⟩ : ∃ l, getV n K sx (hd : Int) = l := ⟨_, rfl⟩
              have hl32 : l1 < 2 ^ 32 := by rw [← hl1]; exact rWL_lt W1.out _
              have HL1 := hidp hl1
              obtain ⟨j, hj⟩ : ∃ j, 11 - k = j + 1 := ⟨10 - k, by omega⟩
              have HJ : Hid (11 - (k + 1) = j) := hidp (by omega)
              rw [hj] at HFF
              clear hl1 hhd hj
              go_wp2_with fail
              refine (r7Bin_c (k : Int) _).mono ?_
              rintro e w9 ⟨rfl, rfl⟩
              rw [HB.out]
              go_wp2_with fail
              refine (rGetA hn _ W1.out.at_).mono ?_
              rintro e w2 ⟨rfl, a1, a2⟩
              rw [HL1.out]
              have W2 := hidp (W1.out.call a1 a2)
              clear a1 a2 W1 x0 x1 x2
              obtain ⟨x0, x1, x2⟩ := W2.out.h0.three
              by_cases hp1 : 1 ≤ l1
              · have t3 : decide ((1 : Int) ≤ (l1 : Int)) = true := decide_eq_true (by omega)
                by_cases hp2 : l1 ≤ Q
                · have t4 : decide ((l1 : Int) ≤ q) = true := decide_eq_true ((hqL l1 hp1).2 hp2)
                  have HFIN : Hid (findF n K t q s nn own st = (some (l1 - 1), getS n K sx (hd : Int))) := hidp (by rw [HFF.out, nextF_found n K q (by rw [HHD.out, HL1.out]; exact ⟨hp1, (hqL l1 hp1).2 hp2⟩), HHD.out, HL1.out])
                  have HPL : Hid (Value.int .i64 ((l1 : Int) - 1) = Value.int .i64 ((l1 - 1 : Nat) : Int)) := hidp (by congr 1; omega)
                  clear HFF HL1
                  go_wp2_with fail
                  go_ret2
                  exact ⟨by rw [HFIN.out]; show Ending.returned (.tuple #[.int .i64 ((l1 : Int) - 1), .bool true]) = _; rw [HPL.out]; rfl, by rw [HFIN.out]; exact W2.out.fin⟩
                · have t4 : decide ((l1 : Int) ≤ q) = false := decide_eq_false (fun h3 => hp2 ((hqL l1 hp1).1 h3))
                  have HN2 : Hid (findF n K t q s nn own st = nextF n K q (11 - (k + 1)) (k + 1) (getS n K sx (hd : Int))) := hidp (by
                    rw [HFF.out, nextF_step n K q (by rw [HHD.out, HL1.out]; exact fun h4 => hp2 ((hqL l1 h4.1).1 h4.2)), HHD.out, HJ.out])
                  clear HFF HL1
                  go_wp2_with fail
                  go_roundw
                  case rel => exact ⟨k + 1, _, by omega, by omega, by go_num, HN2, W2⟩
                  case measure => simp [intOf]; omega
              · have t3 : decide ((1 : Int) ≤ (l1 : Int)) = false := decide_eq_false (by omega)
                have HN2 : Hid (findF n K t q s nn own st = nextF n K q (11 - (k + 1)) (k + 1) (getS n K sx (hd : Int))) := hidp (by
                  rw [HFF.out, nextF_step n K q (by rw [HHD.out, HL1.out]; exact fun h4 => hp1 h4.1), HHD.out, HJ.out])
                clear HFF HL1
                go_wp2_with fail
                go_roundw
                case rel => exact ⟨k + 1, _, by omega, by omega, by go_num, HN2, W2⟩
                case measure => simp [intOf]; omega
            · have t2 : decide ((k : Int) < 11) = false := decide_eq_false (by omega)
              have HFIN : Hid (findF n K t q s nn own st = (none, sx)) := hidp (by
                rw [HFF.out, show 11 - k = 0 by omega]
                rfl)
              go_wp2_with fail
              go_ret2
              exact ⟨by rw [HFIN.out]; rfl, by rw [HFIN.out]; exact W1.out.fin⟩
      · have t3 : decide ((1 : Int) ≤ (l : Int)) = false := decide_eq_false (by omega)
        have HNX : Hid (findF n K t q s nn own st = nextF n K q (11 - (own + 1)) (own + 1) sy) := hidp (by
          rw [HFF.out, HLK.out, lookF_end n K t q s nn (fun h4 => hp1 h4.1)]
          try rfl)
        clear HFF HLK
        go_wp2_with fail
        refine (r14Of_c nn (by omega) (by omega) _).mono ?_
        rintro e w9 ⟨rfl, rfl⟩
        rw [HO.out]
        go_wp2_with fail
        clear x0 x1 x2
        go_loopw [8, 11] (fun _ u11 wr => ∃ (k : Nat) (sx : Vst), own < k ∧ k ≤ 11 ∧ u11 = .int .i64 (k : Int) ∧ Hid (findF n K t q s nn own st = nextF n K q (11 - k) k sx) ∧ Hid (WL (rOb base b n all K) w0 A G w [⟨w.heap.size, 23, #[.int .i64 t, .int .i64 q, .int .i64 s]⟩] sx wr)) (fun _ u11 _ => 11 - (intOf u11).toNat)
        case atStart => exact ⟨own + 1, _, by omega, by omega, by go_num, HNX, W3⟩
        case round =>
          clear W3 HNX
          obtain ⟨k, sx, hko, hk11, rfl, HFF, W1⟩ := hrel
          obtain ⟨x0, x1, x2⟩ := W1.out.h0.three
          by_cases hk : k < 11
          · have t2 : decide ((k : Int) < 11) = true := decide_eq_true (by omega)
            obtain ⟨hd, hhd⟩ : ∃ hd : Nat, 2 + k = hd := ⟨_, rfl⟩
            have HHD := hidp hhd
            have HB : Hid (nthI 2 11 1 (k : Int) = (hd : Int)) := hidp (by rw [nth_on (by omega) (by omega) (by omega)]; omega)
            obtain ⟨l1, hl1⟩ : ∃ l, getV n K sx (hd : Int) = l := ⟨_, rfl⟩
            have hl32 : l1 < 2 ^ 32 := by rw [← hl1]; exact rWL_lt W1.out _
            have HL1 := hidp hl1
            obtain ⟨j, hj⟩ : ∃ j, 11 - k = j + 1 := ⟨10 - k, by omega⟩
            have HJ : Hid (11 - (k + 1) = j) := hidp (by omega)
            rw [hj] at HFF
            clear hl1 hhd hj
            go_wp2_with fail
            refine (r7Bin_c (k : Int) _).mono ?_
            rintro e w9 ⟨rfl, rfl⟩
            rw [HB.out]
            go_wp2_with fail
            refine (rGetA hn _ W1.out.at_).mono ?_
            rintro e w2 ⟨rfl, a1, a2⟩
            rw [HL1.out]
            have W2 := hidp (W1.out.call a1 a2)
            clear a1 a2 W1 x0 x1 x2
            obtain ⟨x0, x1, x2⟩ := W2.out.h0.three
            by_cases hp1 : 1 ≤ l1
            · have t3 : decide ((1 : Int) ≤ (l1 : Int)) = true := decide_eq_true (by omega)
              by_cases hp2 : l1 ≤ Q
              · have t4 : decide ((l1 : Int) ≤ q) = true := decide_eq_true ((hqL l1 hp1).2 hp2)
                have HFIN : Hid (findF n K t q s nn own st = (some (l1 - 1), getS n K sx (hd : Int))) := hidp (by rw [HFF.out, nextF_found n K q (by rw [HHD.out, HL1.out]; exact ⟨hp1, (hqL l1 hp1).2 hp2⟩), HHD.out, HL1.out])
                have HPL : Hid (Value.int .i64 ((l1 : Int) - 1) = Value.int .i64 ((l1 - 1 : Nat) : Int)) := hidp (by congr 1; omega)
                clear HFF HL1
                go_wp2_with fail
                go_ret2
                exact ⟨by rw [HFIN.out]; show Ending.returned (.tuple #[.int .i64 ((l1 : Int) - 1), .bool true]) = _; rw [HPL.out]; rfl, by rw [HFIN.out]; exact W2.out.fin⟩
              · have t4 : decide ((l1 : Int) ≤ q) = false := decide_eq_false (fun h3 => hp2 ((hqL l1 hp1).1 h3))
                have HN2 : Hid (findF n K t q s nn own st = nextF n K q (11 - (k + 1)) (k + 1) (getS n K sx (hd : Int))) := hidp (by
                  rw [HFF.out, nextF_step n K q (by rw [HHD.out, HL1.out]; exact fun h4 => hp2 ((hqL l1 h4.1).1 h4.2)), HHD.out, HJ.out])
                clear HFF HL1
                go_wp2_with fail
                go_roundw
                case rel => exact ⟨k + 1, _, by omega, by omega, by go_num, HN2, W2⟩
                case measure => simp [intOf]; omega
            · have t3 : decide ((1 : Int) ≤ (l1 : Int)) = false := decide_eq_false (by omega)
              have HN2 : Hid (findF n K t q s nn own st = nextF n K q (11 - (k + 1)) (k + 1) (getS n K sx (hd : Int))) := hidp (by
                rw [HFF.out, nextF_step n K q (by rw [HHD.out, HL1.out]; exact fun h4 => hp1 h4.1), HHD.out, HJ.out])
              clear HFF HL1
              go_wp2_with fail
              go_roundw
              case rel => exact ⟨k + 1, _, by omega, by omega, by go_num, HN2, W2⟩
              case measure => simp [intOf]; omega
          · have t2 : decide ((k : Int) < 11) = false := decide_eq_false (by omega)
            have HFIN : Hid (findF n K t q s nn own st = (none, sx)) := hidp (by
              rw [HFF.out, show 11 - k = 0 by omega]
              rfl)
            go_wp2_with fail
            go_ret2
            exact ⟨by rw [HFIN.out]; rfl, by rw [HFIN.out]; exact W1.out.fin⟩
    · have t4 : decide ((m : Int) < q) = false := decide_eq_false (fun h3 => hmQ ((hqQ m).1 h3))
      have HNX : Hid (findF n K t q s nn own st = nextF n K q (11 - (own + 1)) (own + 1) sy) := hidp (by
        rw [HFF.out, HLK.out, show Q - m = 0 by omega]
        try rfl)
      clear HFF HLK
      go_wp2_with fail
      refine (r14Of_c nn (by omega) (by omega) _).mono ?_
      rintro e w9 ⟨rfl, rfl⟩
      rw [HO.out]
      go_wp2_with fail
      clear x0 x1 x2
      go_loopw [8, 11] (fun _ u11 wr => ∃ (k : Nat) (sx : Vst), own < k ∧ k ≤ 11 ∧ u11 = .int .i64 (k : Int) ∧ Hid (findF n K t q s nn own st = nextF n K q (11 - k) k sx) ∧ Hid (WL (rOb base b n all K) w0 A G w [⟨w.heap.size, 23, #[.int .i64 t, .int .i64 q, .int .i64 s]⟩] sx wr)) (fun _ u11 _ => 11 - (intOf u11).toNat)
      case atStart => exact ⟨own + 1, _, by omega, by omega, by go_num, HNX, W3⟩
      case round =>
        clear W3 HNX
        obtain ⟨k, sx, hko, hk11, rfl, HFF, W1⟩ := hrel
        obtain ⟨x0, x1, x2⟩ := W1.out.h0.three
        by_cases hk : k < 11
        · have t2 : decide ((k : Int) < 11) = true := decide_eq_true (by omega)
          obtain ⟨hd, hhd⟩ : ∃ hd : Nat, 2 + k = hd := ⟨_, rfl⟩
          have HHD := hidp hhd
          have HB : Hid (nthI 2 11 1 (k : Int) = (hd : Int)) := hidp (by rw [nth_on (by omega) (by omega) (by omega)]; omega)
          obtain ⟨l1, hl1⟩ : ∃ l, getV n K sx (hd : Int) = l := ⟨_, rfl⟩
          have hl32 : l1 < 2 ^ 32 := by rw [← hl1]; exact rWL_lt W1.out _
          have HL1 := hidp hl1
          obtain ⟨j, hj⟩ : ∃ j, 11 - k = j + 1 := ⟨10 - k, by omega⟩
          have HJ : Hid (11 - (k + 1) = j) := hidp (by omega)
          rw [hj] at HFF
          clear hl1 hhd hj
          go_wp2_with fail
          refine (r7Bin_c (k : Int) _).mono ?_
          rintro e w9 ⟨rfl, rfl⟩
          rw [HB.out]
          go_wp2_with fail
          refine (rGetA hn _ W1.out.at_).mono ?_
          rintro e w2 ⟨rfl, a1, a2⟩
          rw [HL1.out]
          have W2 := hidp (W1.out.call a1 a2)
          clear a1 a2 W1 x0 x1 x2
          obtain ⟨x0, x1, x2⟩ := W2.out.h0.three
          by_cases hp1 : 1 ≤ l1
          · have t3 : decide ((1 : Int) ≤ (l1 : Int)) = true := decide_eq_true (by omega)
            by_cases hp2 : l1 ≤ Q
            · have t4 : decide ((l1 : Int) ≤ q) = true := decide_eq_true ((hqL l1 hp1).2 hp2)
              have HFIN : Hid (findF n K t q s nn own st = (some (l1 - 1), getS n K sx (hd : Int))) := hidp (by rw [HFF.out, nextF_found n K q (by rw [HHD.out, HL1.out]; exact ⟨hp1, (hqL l1 hp1).2 hp2⟩), HHD.out, HL1.out])
              have HPL : Hid (Value.int .i64 ((l1 : Int) - 1) = Value.int .i64 ((l1 - 1 : Nat) : Int)) := hidp (by congr 1; omega)
              clear HFF HL1
              go_wp2_with fail
              go_ret2
              exact ⟨by rw [HFIN.out]; show Ending.returned (.tuple #[.int .i64 ((l1 : Int) - 1), .bool true]) = _; rw [HPL.out]; rfl, by rw [HFIN.out]; exact W2.out.fin⟩
            · have t4 : decide ((l1 : Int) ≤ q) = false := decide_eq_false (fun h3 => hp2 ((hqL l1 hp1).1 h3))
              have HN2 : Hid (findF n K t q s nn own st = nextF n K q (11 - (k + 1)) (k + 1) (getS n K sx (hd : Int))) := hidp (by
                rw [HFF.out, nextF_step n K q (by rw [HHD.out, HL1.out]; exact fun h4 => hp2 ((hqL l1 h4.1).1 h4.2)), HHD.out, HJ.out])
              clear HFF HL1
              go_wp2_with fail
              go_roundw
              case rel => exact ⟨k + 1, _, by omega, by omega, by go_num, HN2, W2⟩
              case measure => simp [intOf]; omega
          · have t3 : decide ((1 : Int) ≤ (l1 : Int)) = false := decide_eq_false (by omega)
            have HN2 : Hid (findF n K t q s nn own st = nextF n K q (11 - (k + 1)) (k + 1) (getS n K sx (hd : Int))) := hidp (by
              rw [HFF.out, nextF_step n K q (by rw [HHD.out, HL1.out]; exact fun h4 => hp1 h4.1), HHD.out, HJ.out])
            clear HFF HL1
            go_wp2_with fail
            go_roundw
            case rel => exact ⟨k + 1, _, by omega, by omega, by go_num, HN2, W2⟩
            case measure => simp [intOf]; omega
        · have t2 : decide ((k : Int) < 11) = false := decide_eq_false (by omega)
          have HFIN : Hid (findF n K t q s nn own st = (none, sx)) := hidp (by
            rw [HFF.out, show 11 - k = 0 by omega]
            rfl)
          go_wp2_with fail
          go_ret2
          exact ⟨by rw [HFIN.out]; rfl, by rw [HFIN.out]; exact W1.out.fin⟩

theorem r14Find_c (hn : n < 2 ^ 40) (hq : q ≤ 1024) (nn : Int) (h : (rOb base b n all K).At w0 A G st w) :
    Calls Try.prog 21 #[.pointer (some ⟨b, 0, none⟩), .agg #[.int .i64 t, .int .i64 q, .int .i64 s], .int .i64 nn] w fun e w' => e = .returned (.tuple #[.int .i64 (foundI (findI n K t q s nn st).1), .bool (findI n K t q s nn st).1.isSome]) ∧ (rOb base b n all K).At w0 A G (findI n K t q s nn st).2 w' ∧ Stay G w w' := by
  by_cases h1 : nn < 1
  · rw [findI_no (by omega)]; exact r14Find_low nn h1 h
  · by_cases h2 : q < nn
    · rw [findI_no (by omega)]; exact r14Find_high nn (by omega) h2 h
    · obtain ⟨m, rfl⟩ := Int.eq_ofNat_of_zero_le (show 0 ≤ nn by omega)
      obtain ⟨own, ho, ho10, _⟩ := ofI_nat (n := m) (by omega) (by omega)
      rw [findI_yes ho (by omega) (by omega)]
      exact r14Find_yes hn hq (m : Int) own ho ho10 (by omega) (by omega) h
end
end Go.Proofs.Ytpndfhdedmdoeaa
