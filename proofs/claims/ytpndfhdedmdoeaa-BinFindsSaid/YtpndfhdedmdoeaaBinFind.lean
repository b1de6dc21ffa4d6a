/-
  What bin.Find does. Written by bin/gen_find.py.
-/
import Derived.Test.YtpndfhdedmdoeaaBinAdd
import Derived.WalkMore
namespace Go.Proofs.Ytpndfhdedmdoeaa
open Go.ChangeShapes Go.WideShapes Go.ChangeAt Go.RowKit Go.Maps
set_option linter.unusedVariables false
set_option linter.unusedSimpArgs false
set_option maxRecDepth 100000

section
variable {base b n : Nat} {wh all : Bool} {K : Nat → Option Nat} {st : Vst} {w w0 : World} {A G : Nat → Prop} {t q s : Int}
theorem bnFind_low (nn : Int) (h1 : nn < 1) (h : (vOb base b n wh K).At w0 A G st w) :
    Calls Try.prog 20 #[.pointer (some ⟨b, 0, none⟩), .agg #[.int .i64 t, .int .i64 q, .int .i64 s], .int .i64 nn] w fun e w' => e = .returned (.tuple #[.int .i64 (foundI (((none : Option Nat), st)).1), .bool (((none : Option Nat), st)).1.isSome]) ∧ (vOb base b n wh K).At w0 A G (((none : Option Nat), st)).2 w' ∧ Stay G w w' := by
  have W0 := hidp ((WL.start h).new 23 #[.int .i64 t, .int .i64 q, .int .i64 s])
  obtain ⟨x0, x1, x2⟩ := W0.out.h0.three
  have t0 : decide (nn < (1 : Int)) = true := decide_eq_true h1
  clear h
  go_enter Try.func20, Try.ntmps20
  go_wp2
  go_step3
  go_wp2

  (try rw [Exit.noGoto_ret]); (try change bodyPost _ _ _ _ _ _)
  go_ret2
  exact ⟨rfl, W0.out.fin⟩
theorem bnFind_high (nn : Int) (h1 : 1 ≤ nn) (h2 : q < nn) (h : (vOb base b n wh K).At w0 A G st w) :
    Calls Try.prog 20 #[.pointer (some ⟨b, 0, none⟩), .agg #[.int .i64 t, .int .i64 q, .int .i64 s], .int .i64 nn] w fun e w' => e = .returned (.tuple #[.int .i64 (foundI (((none : Option Nat), st)).1), .bool (((none : Option Nat), st)).1.isSome]) ∧ (vOb base b n wh K).At w0 A G (((none : Option Nat), st)).2 w' ∧ Stay G w w' := by
  have W0 := hidp ((WL.start h).new 23 #[.int .i64 t, .int .i64 q, .int .i64 s])
  obtain ⟨x0, x1, x2⟩ := W0.out.h0.three
  have t0 : decide (nn < (1 : Int)) = false := decide_eq_false (by omega)
  have t1 : decide (q < nn) = true := decide_eq_true h2
  clear h
  go_enter Try.func20, Try.ntmps20
  go_wp2
  go_step3
  go_wp2

  (try rw [Exit.noGoto_ret]); (try change bodyPost _ _ _ _ _ _)
  go_ret2
  exact ⟨rfl, W0.out.fin⟩

set_option maxHeartbeats 6400000 in
theorem bnFind_yes (hn : n < 2 ^ 40) (hq : q ≤ 1024) (nn : Int) (own : Nat) (ho : ofI nn = (own : Int)) (ho10 : own ≤ 10) (h1 : 1 ≤ nn) (h2 : nn ≤ q) (h : (vOb base b n wh K).At w0 A G st w) :
    Calls Try.prog 20 #[.pointer (some ⟨b, 0, none⟩), .agg #[.int .i64 t, .int .i64 q, .int .i64 s], .int .i64 nn] w fun e w' => e = .returned (.tuple #[.int .i64 (foundI (findF n K t q s nn own st).1), .bool (findF n K t q s nn own st).1.isSome]) ∧ (vOb base b n wh K).At w0 A G (findF n K t q s nn own st).2 w' ∧ Stay G w w' := by
  have W0 := hidp ((WL.start h).new 23 #[.int .i64 t, .int .i64 q, .int .i64 s])
  obtain ⟨x0, x1, x2⟩ := W0.out.h0.three
  have t0 : decide (nn < (1 : Int)) = false := decide_eq_false (by omega)
  have t1 : decide (q < nn) = false := decide_eq_false (by omega)
  have HO := hidp ho
  obtain ⟨Q, hQ⟩ : ∃ Q, q.toNat = Q := ⟨_, rfl⟩
  have HQ := hidp hQ
  have hQ1 : 1 ≤ Q ∧ Q ≤ 1024 := by omega
  have hqQ : ∀ l : Nat, ((l : Int) < q ↔ l < Q) := fun l => by omega
  have hqL : ∀ l : Nat, 1 ≤ l → ((l : Int) ≤ q ↔ l ≤ Q) := fun l h1 => by omega
  clear h ho hQ
  go_enter Try.func20, Try.ntmps20
  go_wp2_with fail
  go_step3
  go_wp2_with fail
  refine (bnOf_c nn (by omega) (by omega) _).mono ?_
  rintro e w9 ⟨rfl, rfl⟩
  rw [HO.out]
  go_wp2_with fail
  go_step3
  go_wp2_with fail
  go_loopw [8, 9, 11, 12, 13] (fun u8 u9 u11 _ _ wr => ∃ (k : Nat) (sx : Vst), u8 = .int .i64 0 ∧ u9 = .bool false ∧ own ≤ k ∧ k ≤ 11 ∧ u11 = .int .i64 (k : Int) ∧ Hid ((k = own ∧ sx = st) ∨ (own < k ∧ findF n K t q s nn own st = nextF n K q (11 - k) k sx)) ∧ Hid (WL (vOb base b n wh K) w0 A G w [⟨w.heap.size, 23, #[.int .i64 t, .int .i64 q, .int .i64 s]⟩] sx wr)) (fun _ _ u11 _ _ _ => 11 - (intOf u11).toNat)
  case atStart => exact ⟨own, st, rfl, rfl, by omega, by omega, rfl, hidp (.inl ⟨rfl, rfl⟩), W0⟩
  case round =>
    clear W0 x0 x1 x2
    obtain ⟨k, sx, rfl, rfl, hko, hk11, rfl, HS, W1⟩ := hrel
    obtain ⟨x0, x1, x2⟩ := W1.out.h0.three
    by_cases hk : k < 11
    · have t2 : decide ((k : Int) < 11) = true := decide_eq_true (by omega)
      obtain ⟨hd, hhd⟩ : ∃ hd : Nat, 2 + k = hd := ⟨_, rfl⟩
      have HHD := hidp hhd
      have HB : Hid (nthI 2 11 1 (k : Int) = (hd : Int)) := hidp (by rw [nth_on (by omega) (by omega) (by omega)]; omega)
      obtain ⟨l0, hl0⟩ : ∃ l, getV n K sx (hd : Int) = l := ⟨_, rfl⟩
      have hl32 : l0 < 2 ^ 32 := by rw [← hl0]; exact vWL_lt W1.out _
      have HL0 := hidp hl0
      clear hl0 hhd
      go_wp2_with fail
      refine (plBin_c (k : Int) _).mono ?_
      rintro e w9 ⟨rfl, rfl⟩
      rw [HB.out]
      go_wp2_with fail
      refine (vGetA hn _ W1.out.at_).mono ?_
      rintro e w2 ⟨rfl, a1, a2⟩
      rw [HL0.out]
      have W2 := hidp (W1.out.call a1 a2)
      clear a1 a2 W1 x0 x1 x2
      obtain ⟨x0, x1, x2⟩ := W2.out.h0.three
      by_cases hke : k = own
      · have hsx : sx = st := by
          rcases HS.out with ⟨_, e⟩ | ⟨e, _⟩
          · exact e
          · omega
        subst hsx
        subst hke
        have HFF : Hid (findF n K t q s nn k sx = match (lookF n K t q s nn Q l0 (getS n K sx (hd : Int))).1 with
            | some p => (some p, (lookF n K t q s nn Q l0 (getS n K sx (hd : Int))).2)
            | none => nextF n K q (11 - (k + 1)) (k + 1) (lookF n K t q s nn Q l0 (getS n K sx (hd : Int))).2) := hidp (by unfold findF; rw [HHD.out, HL0.out, HQ.out]; rfl)
        clear HS HL0 HB
        have t3 : decide ((k : Int) < (k : Int)) = false := decide_eq_false (by omega)
        generalize getS n K sx (hd : Int) = s0 at *
        go_wp2_with fail
        clear x0 x1 x2
        go_loopw [8, 9, 12, 13, 35] (fun u8 u9 u12 _ u35 wr => ∃ (m l : Nat) (sy : Vst), u8 = .int .i64 0 ∧ u9 = .bool false ∧ m ≤ Q ∧ u35 = .int .i64 (m : Int) ∧ u12 = .int .u32 (l : Int) ∧ l < 2 ^ 32 ∧ Hid (lookF n K t q s nn Q l0 s0 = lookF n K t q s nn (Q - m) l sy) ∧ Hid (WL (vOb base b n wh K) w0 A G w [⟨w.heap.size, 23, #[.int .i64 t, .int .i64 q, .int .i64 s]⟩] sy wr)) (fun _ _ _ _ u35 _ => Q - (intOf u35).toNat)
        case atStart => exact ⟨0, l0, _, rfl, rfl, by omega, by go_num, rfl, hl32, hidp rfl, W2⟩
        case round =>
          clear W2
          obtain ⟨m, l, sy, rfl, rfl, hm, rfl, rfl, hl, HLK, W3⟩ := hrel
          obtain ⟨x0, x1, x2⟩ := W3.out.h0.three
          by_cases hmQ : m < Q
          · have t4 : decide ((m : Int) < q) = true := decide_eq_true ((hqQ m).2 hmQ)
            obtain ⟨j, hj⟩ : ∃ j, Q - m = j + 1 := ⟨Q - m - 1, by omega⟩
            have HJ : Hid (Q - (m + 1) = j) := hidp (by omega)
            replace HLK : Hid (lookF n K t q s nn Q l0 s0 = lookF n K t q s nn (j + 1) l sy) := hidp (by rw [← hj]; exact HLK.out)
            clear hj
            by_cases hp : 1 ≤ l ∧ l ≤ Q
            · have HPG : Hid (pgB q ((l : Int) - 1) = true) := hidp ((pgB_iff _ _).2 ⟨by omega, by have := (hqQ (l - 1)).2 (by omega); omega⟩)
              have HPP : Hid (1 ≤ l ∧ (l : Int) ≤ q) := hidp ⟨hp.1, (hqL l hp.1).2 hp.2⟩
              obtain ⟨⟨kk, ll, cc, okk⟩, hI⟩ : ∃ x, infoOf n K t q s ((l : Int) - 1) sy = x := ⟨_, rfl⟩
              have HI := hidp hI
              obtain ⟨fb, hfb⟩ : ∃ fb, (decide (kk = 1) && decide (nn ≤ ll)) = fb := ⟨_, rfl⟩
              have HFB := hidp hfb
              have HFT : Hid (fitB nn (getV n K sy (pageI t q s ((l : Int) - 1) 0)) = fb) := hidp (by
                unfold infoOf at hI
                unfold fitB
                rw [hI]
                exact hfb)
              clear hI hfb
              go_wp2_with fail
              refine (bnIsPage_c t q s ((l : Int) - 1) _).mono ?_; rintro e w4 ⟨rfl, hb⟩; have W4 := hidp (W3.out.keep hb); clear hb W3; rw [HPG.out]
              clear x0 x1 x2
              obtain ⟨x0, x1, x2⟩ := W4.out.h0.three
              go_wp2_with fail
              refine (bnBegins_c hn ((l : Int) - 1) kk ll cc okk HI.out W4.out.at_).mono ?_; rintro e w5 ⟨rfl, a1, a2⟩; have W5 := hidp (W4.out.call a1 a2); clear a1 a2 W4
              clear x0 x1 x2
              obtain ⟨x0, x1, x2⟩ := W5.out.h0.three
              go_wp2_with fail
              refine (bnIsLong_c kk ll cc nn _).mono ?_; rintro e w6 ⟨rfl, hb⟩; have W6 := hidp (W5.out.keep hb); clear hb W5; rw [HFB.out]
              clear x0 x1 x2 HFB
              obtain ⟨x0, x1, x2⟩ := W6.out.h0.three
              cases fb with
              | true =>
                have HFIN : Hid (findF n K t q s nn k sx = (some (l - 1), getS n K sy (pageI t q s ((l : Int) - 1) 0))) := hidp (by rw [HFF.out, HLK.out, lookF_found n K t q s nn HPP.out HFT.out])
                have HPL : Hid (Value.int .i64 ((l : Int) - 1) = Value.int .i64 ((l - 1 : Nat) : Int)) := hidp (by congr 1; omega)
                clear HFF HLK HFT HI
                go_wp2_with fail
                (try rw [Exit.noGoto_ret]); (try change bodyPost _ _ _ _ _ _)
                go_ret2
                exact ⟨by rw [HFIN.out]; show Ending.returned (.tuple #[.int .i64 ((l : Int) - 1), .bool true]) = _; rw [HPL.out]; rfl, by rw [HFIN.out]; exact W6.out.fin⟩
              | false =>
                obtain ⟨v, hv⟩ : ∃ v, getV n K (getS n K sy (pageI t q s ((l : Int) - 1) 0)) (pageI t q s ((l : Int) - 1) 2) = v := ⟨_, rfl⟩
                have hv32 : v < 2 ^ 32 := by rw [← hv]; exact vWL_lt W6.out _
                have HV := hidp hv
                have HLK2 : Hid (lookF n K t q s nn Q l0 s0 = lookF n K t q s nn (Q - (m + 1)) v (getS n K (getS n K sy (pageI t q s ((l : Int) - 1) 0)) (pageI t q s ((l : Int) - 1) 2))) := hidp (by rw [HLK.out, lookF_step n K t q s nn HPP.out HFT.out, HV.out, HJ.out])
                clear hv HLK HFT HI
                go_wp2_with fail
                refine (plNext_c t q s ((l : Int) - 1) _).mono ?_; rintro e w7 ⟨rfl, hb⟩; have W7 := hidp (W6.out.keep hb); clear hb W6
                go_wp2_with fail
                refine (vGetA hn _ W7.out.at_).mono ?_; rintro e w8 ⟨rfl, a1, a2⟩; have W8 := hidp (W7.out.call a1 a2); clear a1 a2 W7; rw [HV.out]
                clear x0 x1 x2
                go_wp2_with fail
                go_roundw
                case rel => exact ⟨m + 1, v, _, rfl, rfl, by omega, by go_num, by go_num, hv32, HLK2, W8⟩
                case measure => simp [intOf]; omega
            · have HPG : Hid (pgB q ((l : Int) - 1) = false) := hidp (by
                cases hc : pgB q ((l : Int) - 1) with
                | false => rfl
                | true =>
                  have h3 := (pgB_iff _ _).1 hc
                  exact absurd (⟨by omega, (hqL l (by omega)).1 (by omega)⟩ : 1 ≤ l ∧ l ≤ Q) hp)
              have HNX : Hid ((k + 1 = k ∧ sy = sx) ∨ (k < k + 1 ∧ findF n K t q s nn k sx = nextF n K q (11 - (k + 1)) (k + 1) sy)) := hidp (.inr ⟨by omega, by
                have h3 : ¬ (1 ≤ l ∧ (l : Int) ≤ q) := fun h4 => hp ⟨h4.1, (hqL l h4.1).1 h4.2⟩
                rw [HFF.out, HLK.out, lookF_end n K t q s nn h3]⟩)
              clear HFF HLK
              go_wp2_with fail
              refine (bnIsPage_c t q s ((l : Int) - 1) _).mono ?_; rintro e w4 ⟨rfl, hb⟩; have W4 := hidp (W3.out.keep hb); clear hb W3; rw [HPG.out]
              clear x0 x1 x2
              go_wp2_with fail
              go_roundw
              case rel => exact ⟨k + 1, _, rfl, rfl, by omega, by omega, by go_num, HNX, W4⟩
              case measure => simp [intOf]; omega
          · have t4 : decide ((m : Int) < q) = false := decide_eq_false (fun h3 => hmQ ((hqQ m).1 h3))
            have HNX : Hid ((k + 1 = k ∧ sy = sx) ∨ (k < k + 1 ∧ findF n K t q s nn k sx = nextF n K q (11 - (k + 1)) (k + 1) sy)) := hidp (.inr ⟨by omega, by
                rw [HFF.out, HLK.out, show Q - m = 0 by omega]
                rfl⟩)
            clear HFF HLK
            go_wp2_with fail
            go_roundw
            case rel => exact ⟨k + 1, _, rfl, rfl, by omega, by omega, by go_num, HNX, W3⟩
            case measure => simp [intOf]; omega
      · have hkl : own < k := by omega
        have HFF : Hid (findF n K t q s nn own st = nextF n K q (11 - k) k sx) := hidp (by
          rcases HS.out with ⟨e, _⟩ | ⟨_, e⟩
          · omega
          · exact e)
        obtain ⟨j, hj⟩ : ∃ j, 11 - k = j + 1 := ⟨10 - k, by omega⟩
        have HJ : Hid (11 - (k + 1) = j) := hidp (by omega)
        rw [hj] at HFF
        have t3 : decide ((own : Int) < (k : Int)) = true := decide_eq_true (by omega)
        have t4 : decide ((0 : Int) < q) = true := decide_eq_true (by omega)
        clear HS HB hj hke
        go_wp2_with fail
        clear x0 x1 x2
        go_loopw [8, 9, 12, 13, 35] (fun u8 u9 u12 _ u35 wr => u8 = .int .i64 0 ∧ u9 = .bool false ∧ u35 = .int .i64 0 ∧ u12 = .int .u32 (l0 : Int) ∧ Hid (WL (vOb base b n wh K) w0 A G w [⟨w.heap.size, 23, #[.int .i64 t, .int .i64 q, .int .i64 s]⟩] (getS n K sx (hd : Int)) wr)) (fun _ _ _ _ _ _ => 0)
        case atStart => exact ⟨rfl, rfl, by go_num, rfl, W2⟩
        case round =>
          clear W2
          obtain ⟨rfl, rfl, rfl, rfl, W3⟩ := hrel
          obtain ⟨x0, x1, x2⟩ := W3.out.h0.three
          by_cases hp : 1 ≤ l0 ∧ l0 ≤ Q
          · have HPG : Hid (pgB q ((l0 : Int) - 1) = true) := hidp ((pgB_iff _ _).2 ⟨by omega, by have := (hqQ (l0 - 1)).2 (by omega); omega⟩)
            have HFIN : Hid (findF n K t q s nn own st = (some (l0 - 1), getS n K sx (hd : Int))) := hidp (by rw [HFF.out, nextF_found n K q (by rw [HHD.out, HL0.out]; exact ⟨hp.1, (hqL l0 hp.1).2 hp.2⟩), HHD.out, HL0.out])
            have HPL : Hid (Value.int .i64 ((l0 : Int) - 1) = Value.int .i64 ((l0 - 1 : Nat) : Int)) := hidp (by congr 1; omega)
            clear HFF HL0
            go_wp2_with fail
            refine (bnIsPage_c t q s ((l0 : Int) - 1) _).mono ?_; rintro e w4 ⟨rfl, hb⟩; have W4 := hidp (W3.out.keep hb); clear hb W3; rw [HPG.out]
            clear x0 x1 x2
            go_wp2_with fail
            (try rw [Exit.noGoto_ret]); (try change bodyPost _ _ _ _ _ _)
            go_ret2
            exact ⟨by rw [HFIN.out]; show Ending.returned (.tuple #[.int .i64 ((l0 : Int) - 1), .bool true]) = _; rw [HPL.out]; rfl, by rw [HFIN.out]; exact W4.out.fin⟩
          · have HPG : Hid (pgB q ((l0 : Int) - 1) = false) := hidp (by
              cases hc : pgB q ((l0 : Int) - 1) with
              | false => rfl
              | true =>
                have h3 := (pgB_iff _ _).1 hc
                exact absurd (⟨by omega, (hqL l0 (by omega)).1 (by omega)⟩ : 1 ≤ l0 ∧ l0 ≤ Q) hp)
            have HNX : Hid ((k + 1 = own ∧ getS n K sx (hd : Int) = st) ∨ (own < k + 1 ∧ findF n K t q s nn own st = nextF n K q (11 - (k + 1)) (k + 1) (getS n K sx (hd : Int)))) := hidp (.inr ⟨by omega, by
              rw [HFF.out, nextF_step n K q (by rw [HHD.out, HL0.out]; exact fun h4 => hp ⟨h4.1, (hqL l0 h4.1).1 h4.2⟩), HHD.out, HJ.out]⟩)
            clear HFF HL0
            go_wp2_with fail
            refine (bnIsPage_c t q s ((l0 : Int) - 1) _).mono ?_; rintro e w4 ⟨rfl, hb⟩; have W4 := hidp (W3.out.keep hb); clear hb W3; rw [HPG.out]
            clear x0 x1 x2
            go_wp2_with fail
            go_roundw
            case rel => exact ⟨k + 1, _, rfl, rfl, by omega, by omega, by go_num, HNX, W4⟩
            case measure => simp [intOf]; omega
    · have t2 : decide ((k : Int) < 11) = false := decide_eq_false (by omega)
      have HFIN : Hid (findF n K t q s nn own st = (none, sx)) := hidp (by
        rcases HS.out with ⟨e, _⟩ | ⟨_, e⟩
        · omega
        · rw [e, show 11 - k = 0 by omega]
          rfl)
      go_wp2_with fail
      (try rw [Exit.noGoto_ret]); (try change bodyPost _ _ _ _ _ _)
      go_ret2
      exact ⟨by rw [HFIN.out]; rfl, by rw [HFIN.out]; exact W1.out.fin⟩

theorem bnFind_c (hn : n < 2 ^ 40) (hq : q ≤ 1024) (nn : Int) (h : (vOb base b n wh K).At w0 A G st w) :
    Calls Try.prog 20 #[.pointer (some ⟨b, 0, none⟩), .agg #[.int .i64 t, .int .i64 q, .int .i64 s], .int .i64 nn] w fun e w' => e = .returned (.tuple #[.int .i64 (foundI (findI n K t q s nn st).1), .bool (findI n K t q s nn st).1.isSome]) ∧ (vOb base b n wh K).At w0 A G (findI n K t q s nn st).2 w' ∧ Stay G w w' := by
  by_cases h1 : nn < 1
  · rw [findI_no (by omega)]; exact bnFind_low nn h1 h
  · by_cases h2 : q < nn
    · rw [findI_no (by omega)]; exact bnFind_high nn (by omega) h2 h
    · obtain ⟨m, rfl⟩ := Int.eq_ofNat_of_zero_le (show 0 ≤ nn by omega)
      obtain ⟨own, ho, ho10, _⟩ := ofI_nat (n := m) (by omega) (by omega)
      rw [findI_yes ho (by omega) (by omega)]
      exact bnFind_yes hn hq (m : Int) own ho ho10 (by omega) (by omega) h
end
end Go.Proofs.Ytpndfhdedmdoeaa
