/-
  What the document's Take, Shrink and Grow do. Written by span/gen_doc.py.
-/
import Derived.Test.YtnamlhkccgnbfaaGreatH18
import Derived.Test.YtnamlhkccgnbfaaGreatH17
import Derived.Test.YtnamlhkccgnbfaaGreatH15
import Derived.Test.YtnamlhkccgnbfaaGreatH04
import Derived.Test.YtnamlhkccgnbfaaGreatH09
import Derived.Test.YtnamlhkccgnbfaaGreatH08
import Derived.Test.YtnamlhkccgnbfaaGreatH03
import Derived.Test.YtnamlhkccgnbfaaGreatKit
import Derived.Lib.SmallJoins
namespace Go.Proofs.YtnamlhkccgnbfaaGreat
open Go.ChangeShapes Go.WideShapes Go.ChangeAt Go.RowKit Go.Maps
set_option linter.unusedVariables false
set_option linter.unusedSimpArgs false
set_option maxRecDepth 100000

section
variable {base b n : Nat} {wh all : Bool} {K : Nat → Option Nat} {st : Vst} {w w0 : World} {A G : Nat → Prop} {t q s : Int}

theorem r15Release_i (hn : n < 2 ^ 40) (hq : q ≤ 1024) (P M : Int) (p m : Nat) (eP : P = (p : Int)) (eM : M = (m : Int)) (hp : p ≤ 1024) (hm : m ≤ 1024) (h : (rOb base b n all K).At w0 A G st w) :
    Calls Tryz.prog 24 #[.pointer (some ⟨b, 0, none⟩), .agg #[.int .i64 t, .int .i64 q, .int .i64 s], .int .i64 P, .int .i64 M] w fun e w' => e = .returned (.tuple #[]) ∧ (rOb base b n all K).At w0 A G (releaseS n K t q s p m st) w' ∧ Stay G w w' := by
  subst eP eM
  exact r15Release_c hn hq p m hp hm h

set_option maxHeartbeats 6400000 in
theorem r15Take_none (hn : n < 2 ^ 40) (hq : q ≤ 1024) (nn : Int) (s1 : Vst) (hf : findI n K t q s nn st = (none, s1)) (h : (rOb base b n all K).At w0 A G st w) :
    Calls Tryz.prog 13 #[.pointer (some ⟨b, 0, none⟩), .agg #[.int .i64 t, .int .i64 q, .int .i64 s], .int .i64 nn] w fun e w' => e = .returned (.tuple #[.int .i64 0, .bool false]) ∧ (rOb base b n all K).At w0 A G (s1) w' ∧ Stay G w w' := by
  have W0 := hidp ((WL.start h).new 23 #[.int .i64 t, .int .i64 q, .int .i64 s])
  have hq2 : q ≤ 2147483648 := by omega
  have HFO := hidp hf
  clear h hf
  go_enter Tryz.func13, Tryz.ntmps13
  obtain ⟨x0, x1, x2⟩ := W0.out.h0.three
  go_wp2_with fail
  refine (r14Find_c hn hq nn W0.out.at_).mono ?_; rintro e w1 ⟨rfl, h1, h2⟩; have W1 := hidp (W0.out.call h1 h2); clear h1 h2 W0; rw [HFO.out] at W1 ⊢; dsimp only [foundI, Option.isSome] at W1 ⊢
  obtain ⟨x0, x1, x2⟩ := W1.out.h0.three
  go_wp2
  go_ret2
  exact ⟨rfl, W1.out.fin⟩

set_option maxHeartbeats 6400000 in
theorem r15Take_more (hn : n < 2 ^ 40) (hq : q ≤ 1024) (p m : Nat) (hp : p ≤ 1024) (hm : m ≤ 1024) (l : Int) (hl0 : 0 ≤ l) (hl1 : l ≤ 1024) (s1 : Vst) (hf : findI n K t q s (m : Int) st = (some p, s1)) (hd : dropV n K t q s (p : Int) s1 = l) (hml : (m : Int) < l) (h : (rOb base b n all K).At w0 A G st w) :
    Calls Tryz.prog 13 #[.pointer (some ⟨b, 0, none⟩), .agg #[.int .i64 t, .int .i64 q, .int .i64 s], .int .i64 (m : Int)] w fun e w' => e = .returned (.tuple #[.int .i64 (p : Int), .bool true]) ∧ (rOb base b n all K).At w0 A G (putS n (getS n K (addS n K t q s ((p : Int) + (m : Int)) (l - (m : Int)) (usedS n t q s p m (dropS n K t q s (p : Int) s1))) 0) 0 (sub32 (getV n K (addS n K t q s ((p : Int) + (m : Int)) (l - (m : Int)) (usedS n t q s p m (dropS n K t q s (p : Int) s1))) 0) (m : Int))) w' ∧ Stay G w w' := by
  have W0 := hidp ((WL.start h).new 23 #[.int .i64 t, .int .i64 q, .int .i64 s])
  have hq2 : q ≤ 2147483648 := by omega
  have t1 : decide ((m : Int) < l) = true := decide_eq_true hml
  have HFO := hidp hf
  have HDV := hidp hd
  have HIV := hidp (infoV_lt 2 (m : Int) 0)
  have sp : IntKind.u32.wrap (p : Int) = (p : Int) := wrap_nat32 p (by omega)
  have sk : IntKind.u32.wrap ((p : Int) + 1) = ((p + 1 : Nat) : Int) := by have := wrap_nat32 (p + 1) (by omega); simpa using this
  have v4 : IntKind.i64.wrap ((p : Int) + (m : Int)) = ((p : Int) + (m : Int)) := i64_same (by omega) (by omega)
  have v5 : IntKind.i64.wrap (((p : Int) + (m : Int)) - 1) = (((p : Int) + (m : Int)) - 1) := i64_same (by omega) (by omega)
  have v6 : IntKind.i64.wrap (l - (m : Int)) = (l - (m : Int)) := i64_same (by omega) (by omega)
  have HUS : Hid (putS n (putS n (dropS n K t q s (p : Int) s1) (pageI t q s (p : Int) 0) (infoV 2 (m : Int) 0)) (pageI t q s ((p : Int) + (m : Int) - 1) 1) (p + 1) = usedS n t q s p m (dropS n K t q s (p : Int) s1)) := hidp rfl
  obtain ⟨x, hx⟩ : ∃ x, getV n K (addS n K t q s ((p : Int) + (m : Int)) (l - (m : Int)) (usedS n t q s p m (dropS n K t q s (p : Int) s1))) 0 = x := ⟨_, rfl⟩
  rw [hx]
  obtain ⟨y, hy⟩ : ∃ y, sub32 x (m : Int) = y := ⟨_, rfl⟩
  rw [hy]
  have HY : Hid (y < 2 ^ 32) := hidp (by rw [← hy]; exact sub32_lt x _)
  have sm : IntKind.u32.wrap (m : Int) = (m : Int) := wrap32_small (by omega) (by omega)
  have sa : IntKind.u32.wrap ((x : Int) - (m : Int)) = (y : Int) := by have := wrap_sub32 x (m : Int); rw [sm, hy] at this; exact this
  have HX := hidp hx
  clear hx hy
  clear h hf hd
  go_enter Tryz.func13, Tryz.ntmps13
  obtain ⟨x0, x1, x2⟩ := W0.out.h0.three
  go_wp2_with fail
  refine (r14Find_c hn hq (m : Int) W0.out.at_).mono ?_; rintro e w1 ⟨rfl, h1, h2⟩; have W1 := hidp (W0.out.call h1 h2); clear h1 h2 W0; rw [HFO.out] at W1 ⊢; dsimp only [foundI, Option.isSome] at W1 ⊢
  obtain ⟨x0, x1, x2⟩ := W1.out.h0.three
  go_wp2_with fail
  refine (r14Drop_c hn hq2 (p : Int) W1.out.at_).mono ?_; rintro e w2 ⟨rfl, h1, h2⟩; have W2 := hidp (W1.out.call h1 h2); clear h1 h2 W1; rw [HDV.out]
  obtain ⟨x0, x1, x2⟩ := W2.out.h0.three
  go_wp2_with fail
  refine (r7Info_c t q s (p : Int) _).mono ?_; rintro e w3 ⟨rfl, hb⟩; have W3 := hidp (W2.out.keep hb); clear hb W2
  obtain ⟨x0, x1, x2⟩ := W3.out.h0.three
  go_wp2_with fail
  refine (r9Value_c 2 (m : Int) 0 _).mono ?_; rintro e w4 ⟨rfl, hb⟩; have W4 := hidp (W3.out.keep hb); clear hb W3
  obtain ⟨x0, x1, x2⟩ := W4.out.h0.three
  go_wp2_with fail
  refine (rPutA hn _ _ HIV.out W4.out.at_).mono ?_; rintro e w5 ⟨rfl, h1, h2⟩; have W5 := hidp (W4.out.call h1 h2); clear h1 h2 W4
  obtain ⟨x0, x1, x2⟩ := W5.out.h0.three
  go_wp2_with fail
  refine (r7Foot_c t q s ((p : Int) + (m : Int) - 1) _).mono ?_; rintro e w6 ⟨rfl, hb⟩; have W6 := hidp (W5.out.keep hb); clear hb W5
  obtain ⟨x0, x1, x2⟩ := W6.out.h0.three
  go_wp2_with fail
  refine (rPutA hn _ (p + 1) (by omega) W6.out.at_).mono ?_; rintro e w7 ⟨rfl, h1, h2⟩; have W7 := hidp (W6.out.call h1 h2); clear h1 h2 W6; rw [HUS.out] at W7
  obtain ⟨x0, x1, x2⟩ := W7.out.h0.three
  go_wp2_with fail
  refine (r14Add_c hn hq2 ((p : Int) + (m : Int)) (l - (m : Int)) W7.out.at_).mono ?_; rintro e w8 ⟨rfl, h1, h2⟩; have W8 := hidp (W7.out.call h1 h2); clear h1 h2 W7
  obtain ⟨x0, x1, x2⟩ := W8.out.h0.three
  go_wp2_with fail
  refine (rGetA hn _ W8.out.at_).mono ?_; rintro e w9 ⟨rfl, h1, h2⟩; have W9 := hidp (W8.out.call h1 h2); clear h1 h2 W8; rw [HX.out]
  obtain ⟨x0, x1, x2⟩ := W9.out.h0.three
  go_wp2_with fail
  refine (rPutA hn _ y HY.out W9.out.at_).mono ?_; rintro e w10 ⟨rfl, h1, h2⟩; have W10 := hidp (W9.out.call h1 h2); clear h1 h2 W9
  obtain ⟨x0, x1, x2⟩ := W10.out.h0.three
  go_wp2
  go_ret2
  exact ⟨rfl, W10.out.fin⟩

set_option maxHeartbeats 6400000 in
theorem r15Take_all (hn : n < 2 ^ 40) (hq : q ≤ 1024) (p m : Nat) (hp : p ≤ 1024) (hm : m ≤ 1024) (l : Int) (hl0 : 0 ≤ l) (hl1 : l ≤ 1024) (s1 : Vst) (hf : findI n K t q s (m : Int) st = (some p, s1)) (hd : dropV n K t q s (p : Int) s1 = l) (hml : ¬ (m : Int) < l) (h : (rOb base b n all K).At w0 A G st w) :
    Calls Tryz.prog 13 #[.pointer (some ⟨b, 0, none⟩), .agg #[.int .i64 t, .int .i64 q, .int .i64 s], .int .i64 (m : Int)] w fun e w' => e = .returned (.tuple #[.int .i64 (p : Int), .bool true]) ∧ (rOb base b n all K).At w0 A G (putS n (getS n K (usedS n t q s p m (dropS n K t q s (p : Int) s1)) 0) 0 (sub32 (getV n K (usedS n t q s p m (dropS n K t q s (p : Int) s1)) 0) (m : Int))) w' ∧ Stay G w w' := by
  have W0 := hidp ((WL.start h).new 23 #[.int .i64 t, .int .i64 q, .int .i64 s])
  have hq2 : q ≤ 2147483648 := by omega
  have t1 : decide ((m : Int) < l) = false := decide_eq_false hml
  have HFO := hidp hf
  have HDV := hidp hd
  have HIV := hidp (infoV_lt 2 (m : Int) 0)
  have sp : IntKind.u32.wrap (p : Int) = (p : Int) := wrap_nat32 p (by omega)
  have sk : IntKind.u32.wrap ((p : Int) + 1) = ((p + 1 : Nat) : Int) := by have := wrap_nat32 (p + 1) (by omega); simpa using this
  have v4 : IntKind.i64.wrap ((p : Int) + (m : Int)) = ((p : Int) + (m : Int)) := i64_same (by omega) (by omega)
  have v5 : IntKind.i64.wrap (((p : Int) + (m : Int)) - 1) = (((p : Int) + (m : Int)) - 1) := i64_same (by omega) (by omega)
  have v6 : IntKind.i64.wrap (l - (m : Int)) = (l - (m : Int)) := i64_same (by omega) (by omega)
  have HUS : Hid (putS n (putS n (dropS n K t q s (p : Int) s1) (pageI t q s (p : Int) 0) (infoV 2 (m : Int) 0)) (pageI t q s ((p : Int) + (m : Int) - 1) 1) (p + 1) = usedS n t q s p m (dropS n K t q s (p : Int) s1)) := hidp rfl
  obtain ⟨x, hx⟩ : ∃ x, getV n K (usedS n t q s p m (dropS n K t q s (p : Int) s1)) 0 = x := ⟨_, rfl⟩
  rw [hx]
  obtain ⟨y, hy⟩ : ∃ y, sub32 x (m : Int) = y := ⟨_, rfl⟩
  rw [hy]
  have HY : Hid (y < 2 ^ 32) := hidp (by rw [← hy]; exact sub32_lt x _)
  have sm : IntKind.u32.wrap (m : Int) = (m : Int) := wrap32_small (by omega) (by omega)
  have sa : IntKind.u32.wrap ((x : Int) - (m : Int)) = (y : Int) := by have := wrap_sub32 x (m : Int); rw [sm, hy] at this; exact this
  have HX := hidp hx
  clear hx hy
  clear h hf hd
  go_enter Tryz.func13, Tryz.ntmps13
  obtain ⟨x0, x1, x2⟩ := W0.out.h0.three
  go_wp2_with fail
  refine (r14Find_c hn hq (m : Int) W0.out.at_).mono ?_; rintro e w1 ⟨rfl, h1, h2⟩; have W1 := hidp (W0.out.call h1 h2); clear h1 h2 W0; rw [HFO.out] at W1 ⊢; dsimp only [foundI, Option.isSome] at W1 ⊢
  obtain ⟨x0, x1, x2⟩ := W1.out.h0.three
  go_wp2_with fail
  refine (r14Drop_c hn hq2 (p : Int) W1.out.at_).mono ?_; rintro e w2 ⟨rfl, h1, h2⟩; have W2 := hidp (W1.out.call h1 h2); clear h1 h2 W1; rw [HDV.out]
  obtain ⟨x0, x1, x2⟩ := W2.out.h0.three
  go_wp2_with fail
  refine (r7Info_c t q s (p : Int) _).mono ?_; rintro e w3 ⟨rfl, hb⟩; have W3 := hidp (W2.out.keep hb); clear hb W2
  obtain ⟨x0, x1, x2⟩ := W3.out.h0.three
  go_wp2_with fail
  refine (r9Value_c 2 (m : Int) 0 _).mono ?_; rintro e w4 ⟨rfl, hb⟩; have W4 := hidp (W3.out.keep hb); clear hb W3
  obtain ⟨x0, x1, x2⟩ := W4.out.h0.three
  go_wp2_with fail
  refine (rPutA hn _ _ HIV.out W4.out.at_).mono ?_; rintro e w5 ⟨rfl, h1, h2⟩; have W5 := hidp (W4.out.call h1 h2); clear h1 h2 W4
  obtain ⟨x0, x1, x2⟩ := W5.out.h0.three
  go_wp2_with fail
  refine (r7Foot_c t q s ((p : Int) + (m : Int) - 1) _).mono ?_; rintro e w6 ⟨rfl, hb⟩; have W6 := hidp (W5.out.keep hb); clear hb W5
  obtain ⟨x0, x1, x2⟩ := W6.out.h0.three
  go_wp2_with fail
  refine (rPutA hn _ (p + 1) (by omega) W6.out.at_).mono ?_; rintro e w7 ⟨rfl, h1, h2⟩; have W7 := hidp (W6.out.call h1 h2); clear h1 h2 W6; rw [HUS.out] at W7
  obtain ⟨x0, x1, x2⟩ := W7.out.h0.three
  go_wp2_with fail
  refine (rGetA hn _ W7.out.at_).mono ?_; rintro e w8 ⟨rfl, h1, h2⟩; have W8 := hidp (W7.out.call h1 h2); clear h1 h2 W7; rw [HX.out]
  obtain ⟨x0, x1, x2⟩ := W8.out.h0.three
  go_wp2_with fail
  refine (rPutA hn _ y HY.out W8.out.at_).mono ?_; rintro e w9 ⟨rfl, h1, h2⟩; have W9 := hidp (W8.out.call h1 h2); clear h1 h2 W8
  obtain ⟨x0, x1, x2⟩ := W9.out.h0.three
  go_wp2
  go_ret2
  exact ⟨rfl, W9.out.fin⟩

set_option maxHeartbeats 6400000 in
theorem r15Shrink_c (hn : n < 2 ^ 40) (hq : q ≤ 1024) (p l m : Nat) (hp : p + l ≤ 1024) (hm : m ≤ l) (h : (rOb base b n all K).At w0 A G st w) :
    Calls Tryz.prog 20 #[.pointer (some ⟨b, 0, none⟩), .agg #[.int .i64 t, .int .i64 q, .int .i64 s], .int .i64 (p : Int), .int .i64 (l : Int), .int .i64 (m : Int)] w fun e w' => e = .returned (.tuple #[]) ∧ (rOb base b n all K).At w0 A G (shrinkS n K t q s p l m st) w' ∧ Stay G w w' := by
  have W0 := hidp ((WL.start h).new 23 #[.int .i64 t, .int .i64 q, .int .i64 s])
  have hq2 : q ≤ 2147483648 := by omega
  have HIV := hidp (infoV_lt 2 (m : Int) 0)
  have sp : IntKind.u32.wrap (p : Int) = (p : Int) := wrap_nat32 p (by omega)
  have sk : IntKind.u32.wrap ((p : Int) + 1) = ((p + 1 : Nat) : Int) := by have := wrap_nat32 (p + 1) (by omega); simpa using this
  have v4 : IntKind.i64.wrap ((p : Int) + (m : Int)) = ((p : Int) + (m : Int)) := i64_same (by omega) (by omega)
  have v5 : IntKind.i64.wrap (((p : Int) + (m : Int)) - 1) = (((p : Int) + (m : Int)) - 1) := i64_same (by omega) (by omega)
  have v6 : IntKind.i64.wrap ((l : Int) - (m : Int)) = ((l : Int) - (m : Int)) := i64_same (by omega) (by omega)
  clear h 
  go_enter Tryz.func20, Tryz.ntmps20
  obtain ⟨x0, x1, x2⟩ := W0.out.h0.three
  go_wp2_with fail
  refine (r7Info_c t q s (p : Int) _).mono ?_; rintro e w1 ⟨rfl, hb⟩; have W1 := hidp (W0.out.keep hb); clear hb W0
  obtain ⟨x0, x1, x2⟩ := W1.out.h0.three
  go_wp2_with fail
  refine (r9Value_c 2 (m : Int) 0 _).mono ?_; rintro e w2 ⟨rfl, hb⟩; have W2 := hidp (W1.out.keep hb); clear hb W1
  obtain ⟨x0, x1, x2⟩ := W2.out.h0.three
  go_wp2_with fail
  refine (rPutA hn _ _ HIV.out W2.out.at_).mono ?_; rintro e w3 ⟨rfl, h1, h2⟩; have W3 := hidp (W2.out.call h1 h2); clear h1 h2 W2
  obtain ⟨x0, x1, x2⟩ := W3.out.h0.three
  go_wp2_with fail
  refine (r7Foot_c t q s ((p : Int) + (m : Int) - 1) _).mono ?_; rintro e w4 ⟨rfl, hb⟩; have W4 := hidp (W3.out.keep hb); clear hb W3
  obtain ⟨x0, x1, x2⟩ := W4.out.h0.three
  go_wp2_with fail
  refine (rPutA hn _ (p + 1) (by omega) W4.out.at_).mono ?_; rintro e w5 ⟨rfl, h1, h2⟩; have W5 := hidp (W4.out.call h1 h2); clear h1 h2 W4
  obtain ⟨x0, x1, x2⟩ := W5.out.h0.three
  go_wp2_with fail
  refine (r15Release_i hn hq ((p : Int) + (m : Int)) ((l : Int) - (m : Int)) (p + m) (l - m) (by omega) (by omega) (by omega) (by omega) W5.out.at_).mono ?_; rintro e w6 ⟨rfl, h1, h2⟩; have W6 := hidp (W5.out.call h1 h2); clear h1 h2 W5
  obtain ⟨x0, x1, x2⟩ := W6.out.h0.three
  go_wp2
  go_end0
  exact ⟨rfl, W6.out.fin⟩

set_option maxHeartbeats 6400000 in
theorem r15Grow_end (hn : n < 2 ^ 40) (hq : q ≤ 1024) (p l : Nat) (m : Int) (hp : p + l ≤ 1024) (hm : (l : Int) < m) (hm2 : m ≤ 9223372036854775807) (hr : ¬ ((p : Int) + (l : Int)) < q) (h : (rOb base b n all K).At w0 A G st w) :
    Calls Tryz.prog 22 #[.pointer (some ⟨b, 0, none⟩), .agg #[.int .i64 t, .int .i64 q, .int .i64 s], .int .i64 (p : Int), .int .i64 (l : Int), .int .i64 m] w fun e w' => e = .returned (.bool false) ∧ (rOb base b n all K).At w0 A G (st) w' ∧ Stay G w w' := by
  have W0 := hidp ((WL.start h).new 23 #[.int .i64 t, .int .i64 q, .int .i64 s])
  have hq2 : q ≤ 2147483648 := by omega
  have v4 : IntKind.i64.wrap ((p : Int) + (l : Int)) = ((p : Int) + (l : Int)) := i64_same (by omega) (by omega)
  have t0 : decide (q ≤ ((p : Int) + (l : Int))) = true := decide_eq_true (by omega)
  clear h 
  go_enter Tryz.func22, Tryz.ntmps22
  obtain ⟨x0, x1, x2⟩ := W0.out.h0.three
  go_wp2
  go_ret
  exact ⟨rfl, W0.out.fin⟩

set_option maxHeartbeats 6400000 in
theorem r15Grow_kind (hn : n < 2 ^ 40) (hq : q ≤ 1024) (p l : Nat) (m : Int) (hp : p + l ≤ 1024) (hm : (l : Int) < m) (hm2 : m ≤ 9223372036854775807) (hr : ((p : Int) + (l : Int)) < q) (k1 l1 c1 : Int) (o1 : Bool) (hi1 : infoOf n K t q s ((p : Int) + (l : Int)) st = (k1, l1, c1, o1)) (hk1 : k1 ≠ 1) (h : (rOb base b n all K).At w0 A G st w) :
    Calls Tryz.prog 22 #[.pointer (some ⟨b, 0, none⟩), .agg #[.int .i64 t, .int .i64 q, .int .i64 s], .int .i64 (p : Int), .int .i64 (l : Int), .int .i64 m] w fun e w' => e = .returned (.bool false) ∧ (rOb base b n all K).At w0 A G (getS n K st (pageI t q s ((p : Int) + (l : Int)) 0)) w' ∧ Stay G w w' := by
  have W0 := hidp ((WL.start h).new 23 #[.int .i64 t, .int .i64 q, .int .i64 s])
  have hq2 : q ≤ 2147483648 := by omega
  have v4 : IntKind.i64.wrap ((p : Int) + (l : Int)) = ((p : Int) + (l : Int)) := i64_same (by omega) (by omega)
  have t0 : decide (q ≤ ((p : Int) + (l : Int))) = false := decide_eq_false (by omega)
  have v5 : IntKind.i64.wrap (m - (l : Int)) = (m - (l : Int)) := i64_same (by omega) (by omega)
  have HI1 := hidp hi1
  have u0 : (k1 == 1) = false := by simpa using hk1
  have u1 : (k1 != 1) = true := by simpa using hk1
  clear h hi1
  go_enter Tryz.func22, Tryz.ntmps22
  obtain ⟨x0, x1, x2⟩ := W0.out.h0.three
  go_wp2_with fail
  refine (r14Info_c hn ((p : Int) + (l : Int)) k1 l1 c1 o1 HI1.out W0.out.at_).mono ?_; rintro e w1 ⟨rfl, h1, h2⟩; have W1 := hidp (W0.out.call h1 h2); clear h1 h2 W0
  generalize hNI : w1.heap.size = NI at *
  replace W1 := hidp (W1.out.new 103 #[.int .i64 k1, .int .i64 l1, .int .i64 c1])
  rw [hNI] at W1
  obtain ⟨i0, i1, i2⟩ := W1.out.h0.three
  obtain ⟨x0, x1, x2⟩ := W1.out.h1.three
  go_wp2
  go_ret
  exact ⟨rfl, W1.out.fin⟩

set_option maxHeartbeats 6400000 in
theorem r15Grow_short (hn : n < 2 ^ 40) (hq : q ≤ 1024) (p l : Nat) (m : Int) (hp : p + l ≤ 1024) (hm : (l : Int) < m) (hm2 : m ≤ 9223372036854775807) (hr : ((p : Int) + (l : Int)) < q) (k1 l1 c1 : Int) (o1 : Bool) (hi1 : infoOf n K t q s ((p : Int) + (l : Int)) st = (k1, l1, c1, o1)) (hk1 : k1 = 1) (hs : l1 < m - (l : Int)) (h : (rOb base b n all K).At w0 A G st w) :
    Calls Tryz.prog 22 #[.pointer (some ⟨b, 0, none⟩), .agg #[.int .i64 t, .int .i64 q, .int .i64 s], .int .i64 (p : Int), .int .i64 (l : Int), .int .i64 m] w fun e w' => e = .returned (.bool false) ∧ (rOb base b n all K).At w0 A G (getS n K st (pageI t q s ((p : Int) + (l : Int)) 0)) w' ∧ Stay G w w' := by
  have W0 := hidp ((WL.start h).new 23 #[.int .i64 t, .int .i64 q, .int .i64 s])
  have hq2 : q ≤ 2147483648 := by omega
  have v4 : IntKind.i64.wrap ((p : Int) + (l : Int)) = ((p : Int) + (l : Int)) := i64_same (by omega) (by omega)
  have t0 : decide (q ≤ ((p : Int) + (l : Int))) = false := decide_eq_false (by omega)
  have v5 : IntKind.i64.wrap (m - (l : Int)) = (m - (l : Int)) := i64_same (by omega) (by omega)
  subst hk1
  have HI1 := hidp hi1
  have t1 : decide (l1 < m - (l : Int)) = true := decide_eq_true hs
  clear h hi1
  go_enter Tryz.func22, Tryz.ntmps22
  obtain ⟨x0, x1, x2⟩ := W0.out.h0.three
  go_wp2_with fail
  refine (r14Info_c hn ((p : Int) + (l : Int)) 1 l1 c1 o1 HI1.out W0.out.at_).mono ?_; rintro e w1 ⟨rfl, h1, h2⟩; have W1 := hidp (W0.out.call h1 h2); clear h1 h2 W0
  generalize hNI : w1.heap.size = NI at *
  replace W1 := hidp (W1.out.new 103 #[.int .i64 1, .int .i64 l1, .int .i64 c1])
  rw [hNI] at W1
  obtain ⟨i0, i1, i2⟩ := W1.out.h0.three
  obtain ⟨x0, x1, x2⟩ := W1.out.h1.three
  go_wp2
  go_ret
  exact ⟨rfl, W1.out.fin⟩

set_option maxHeartbeats 6400000 in
theorem r15Grow_more (hn : n < 2 ^ 40) (hq : q ≤ 1024) (p l m : Nat) (hp : p + l ≤ 1024) (hm : l < m) (hm2 : m ≤ 2048) (hr : ((p : Int) + (l : Int)) < q) (k1 l1 c1 : Int) (o1 : Bool) (hi1 : infoOf n K t q s ((p : Int) + (l : Int)) st = (k1, l1, c1, o1)) (hk1 : k1 = 1) (hl0 : 0 ≤ l1) (hl1 : l1 ≤ 1024) (hs : ¬ l1 < ((m : Int) - (l : Int))) (hml : ((m : Int) - (l : Int)) < l1) (h : (rOb base b n all K).At w0 A G st w) :
    Calls Tryz.prog 22 #[.pointer (some ⟨b, 0, none⟩), .agg #[.int .i64 t, .int .i64 q, .int .i64 s], .int .i64 (p : Int), .int .i64 (l : Int), .int .i64 (m : Int)] w fun e w' => e = .returned (.bool true) ∧ (rOb base b n all K).At w0 A G (putS n (getS n K (addS n K t q s ((p : Int) + (m : Int)) (l1 - ((m : Int) - (l : Int))) (usedS n t q s p m (putS n (putS n (dropS n K t q s ((p : Int) + (l : Int)) (getS n K st (pageI t q s ((p : Int) + (l : Int)) 0))) (pageI t q s ((p : Int) + (l : Int)) 0) 0) (pageI t q s (((p : Int) + (l : Int)) - 1) 1) 0))) 0) 0 (sub32 (getV n K (addS n K t q s ((p : Int) + (m : Int)) (l1 - ((m : Int) - (l : Int))) (usedS n t q s p m (putS n (putS n (dropS n K t q s ((p : Int) + (l : Int)) (getS n K st (pageI t q s ((p : Int) + (l : Int)) 0))) (pageI t q s ((p : Int) + (l : Int)) 0) 0) (pageI t q s (((p : Int) + (l : Int)) - 1) 1) 0))) 0) ((m : Int) - (l : Int)))) w' ∧ Stay G w w' := by
  have W0 := hidp ((WL.start h).new 23 #[.int .i64 t, .int .i64 q, .int .i64 s])
  have hq2 : q ≤ 2147483648 := by omega
  have v4 : IntKind.i64.wrap ((p : Int) + (l : Int)) = ((p : Int) + (l : Int)) := i64_same (by omega) (by omega)
  have t0 : decide (q ≤ ((p : Int) + (l : Int))) = false := decide_eq_false (by omega)
  have v5 : IntKind.i64.wrap ((m : Int) - (l : Int)) = ((m : Int) - (l : Int)) := i64_same (by omega) (by omega)
  subst hk1
  have HI1 := hidp hi1
  have t1 : decide (l1 < ((m : Int) - (l : Int))) = false := decide_eq_false hs
  have t2 : decide (((m : Int) - (l : Int)) < l1) = true := decide_eq_true hml
  have HIV := hidp (infoV_lt 2 (m : Int) 0)
  have sp : IntKind.u32.wrap (p : Int) = (p : Int) := wrap_nat32 p (by omega)
  have sk : IntKind.u32.wrap ((p : Int) + 1) = ((p + 1 : Nat) : Int) := by have := wrap_nat32 (p + 1) (by omega); simpa using this
  have v6 : IntKind.i64.wrap (((p : Int) + (l : Int)) - 1) = (((p : Int) + (l : Int)) - 1) := i64_same (by omega) (by omega)
  have v7 : IntKind.i64.wrap ((p : Int) + (m : Int)) = ((p : Int) + (m : Int)) := i64_same (by omega) (by omega)
  have v8 : IntKind.i64.wrap (((p : Int) + (m : Int)) - 1) = (((p : Int) + (m : Int)) - 1) := i64_same (by omega) (by omega)
  have v9 : IntKind.i64.wrap (l1 - ((m : Int) - (l : Int))) = (l1 - ((m : Int) - (l : Int))) := i64_same (by omega) (by omega)
  have HUS : Hid (putS n (putS n (putS n (putS n (dropS n K t q s ((p : Int) + (l : Int)) (getS n K st (pageI t q s ((p : Int) + (l : Int)) 0))) (pageI t q s ((p : Int) + (l : Int)) 0) 0) (pageI t q s (((p : Int) + (l : Int)) - 1) 1) 0) (pageI t q s (p : Int) 0) (infoV 2 (m : Int) 0)) (pageI t q s ((p : Int) + (m : Int) - 1) 1) (p + 1) = usedS n t q s p m (putS n (putS n (dropS n K t q s ((p : Int) + (l : Int)) (getS n K st (pageI t q s ((p : Int) + (l : Int)) 0))) (pageI t q s ((p : Int) + (l : Int)) 0) 0) (pageI t q s (((p : Int) + (l : Int)) - 1) 1) 0)) := hidp rfl
  obtain ⟨x, hx⟩ : ∃ x, getV n K (addS n K t q s ((p : Int) + (m : Int)) (l1 - ((m : Int) - (l : Int))) (usedS n t q s p m (putS n (putS n (dropS n K t q s ((p : Int) + (l : Int)) (getS n K st (pageI t q s ((p : Int) + (l : Int)) 0))) (pageI t q s ((p : Int) + (l : Int)) 0) 0) (pageI t q s (((p : Int) + (l : Int)) - 1) 1) 0))) 0 = x := ⟨_, rfl⟩
  rw [hx]
  obtain ⟨y, hy⟩ : ∃ y, sub32 x ((m : Int) - (l : Int)) = y := ⟨_, rfl⟩
  rw [hy]
  have HY : Hid (y < 2 ^ 32) := hidp (by rw [← hy]; exact sub32_lt x _)
  have sm : IntKind.u32.wrap ((m : Int) - (l : Int)) = ((m : Int) - (l : Int)) := wrap32_small (by omega) (by omega)
  have sa : IntKind.u32.wrap ((x : Int) - ((m : Int) - (l : Int))) = (y : Int) := by have := wrap_sub32 x ((m : Int) - (l : Int)); rw [sm, hy] at this; exact this
  have HX := hidp hx
  clear hx hy
  clear h hi1
  go_enter Tryz.func22, Tryz.ntmps22
  obtain ⟨x0, x1, x2⟩ := W0.out.h0.three
  go_wp2_with fail
  refine (r14Info_c hn ((p : Int) + (l : Int)) 1 l1 c1 o1 HI1.out W0.out.at_).mono ?_; rintro e w1 ⟨rfl, h1, h2⟩; have W1 := hidp (W0.out.call h1 h2); clear h1 h2 W0
  generalize hNI : w1.heap.size = NI at *
  replace W1 := hidp (W1.out.new 103 #[.int .i64 1, .int .i64 l1, .int .i64 c1])
  rw [hNI] at W1
  obtain ⟨i0, i1, i2⟩ := W1.out.h0.three
  obtain ⟨x0, x1, x2⟩ := W1.out.h1.three
  go_wp2_with fail
  refine (r14Drop_c hn hq2 ((p : Int) + (l : Int)) W1.out.at_).mono ?_; rintro e w2 ⟨rfl, h1, h2⟩; have W2 := hidp (W1.out.call h1 h2); clear h1 h2 W1
  obtain ⟨i0, i1, i2⟩ := W2.out.h0.three
  obtain ⟨x0, x1, x2⟩ := W2.out.h1.three
  go_wp2_with fail
  refine (r7Info_c t q s ((p : Int) + (l : Int)) _).mono ?_; rintro e w3 ⟨rfl, hb⟩; have W3 := hidp (W2.out.keep hb); clear hb W2
  obtain ⟨i0, i1, i2⟩ := W3.out.h0.three
  obtain ⟨x0, x1, x2⟩ := W3.out.h1.three
  go_wp2_with fail
  refine (rPutA hn _ 0 (by omega) W3.out.at_).mono ?_; rintro e w4 ⟨rfl, h1, h2⟩; have W4 := hidp (W3.out.call h1 h2); clear h1 h2 W3
  obtain ⟨i0, i1, i2⟩ := W4.out.h0.three
  obtain ⟨x0, x1, x2⟩ := W4.out.h1.three
  go_wp2_with fail
  refine (r7Foot_c t q s (((p : Int) + (l : Int)) - 1) _).mono ?_; rintro e w5 ⟨rfl, hb⟩; have W5 := hidp (W4.out.keep hb); clear hb W4
  obtain ⟨i0, i1, i2⟩ := W5.out.h0.three
  obtain ⟨x0, x1, x2⟩ := W5.out.h1.three
  go_wp2_with fail
  refine (rPutA hn _ 0 (by omega) W5.out.at_).mono ?_; rintro e w6 ⟨rfl, h1, h2⟩; have W6 := hidp (W5.out.call h1 h2); clear h1 h2 W5
  obtain ⟨i0, i1, i2⟩ := W6.out.h0.three
  obtain ⟨x0, x1, x2⟩ := W6.out.h1.three
  go_wp2_with fail
  refine (r7Info_c t q s (p : Int) _).mono ?_; rintro e w7 ⟨rfl, hb⟩; have W7 := hidp (W6.out.keep hb); clear hb W6
  obtain ⟨i0, i1, i2⟩ := W7.out.h0.three
  obtain ⟨x0, x1, x2⟩ := W7.out.h1.three
  go_wp2_with fail
  refine (r9Value_c 2 (m : Int) 0 _).mono ?_; rintro e w8 ⟨rfl, hb⟩; have W8 := hidp (W7.out.keep hb); clear hb W7
  obtain ⟨i0, i1, i2⟩ := W8.out.h0.three
  obtain ⟨x0, x1, x2⟩ := W8.out.h1.three
  go_wp2_with fail
  refine (rPutA hn _ _ HIV.out W8.out.at_).mono ?_; rintro e w9 ⟨rfl, h1, h2⟩; have W9 := hidp (W8.out.call h1 h2); clear h1 h2 W8
  obtain ⟨i0, i1, i2⟩ := W9.out.h0.three
  obtain ⟨x0, x1, x2⟩ := W9.out.h1.three
  go_wp2_with fail
  refine (r7Foot_c t q s ((p : Int) + (m : Int) - 1) _).mono ?_; rintro e w10 ⟨rfl, hb⟩; have W10 := hidp (W9.out.keep hb); clear hb W9
  obtain ⟨i0, i1, i2⟩ := W10.out.h0.three
  obtain ⟨x0, x1, x2⟩ := W10.out.h1.three
  go_wp2_with fail
  refine (rPutA hn _ (p + 1) (by omega) W10.out.at_).mono ?_; rintro e w11 ⟨rfl, h1, h2⟩; have W11 := hidp (W10.out.call h1 h2); clear h1 h2 W10; rw [HUS.out] at W11
  obtain ⟨i0, i1, i2⟩ := W11.out.h0.three
  obtain ⟨x0, x1, x2⟩ := W11.out.h1.three
  go_wp2_with fail
  refine (r14Add_c hn hq2 ((p : Int) + (m : Int)) (l1 - ((m : Int) - (l : Int))) W11.out.at_).mono ?_; rintro e w12 ⟨rfl, h1, h2⟩; have W12 := hidp (W11.out.call h1 h2); clear h1 h2 W11
  obtain ⟨i0, i1, i2⟩ := W12.out.h0.three
  obtain ⟨x0, x1, x2⟩ := W12.out.h1.three
  go_wp2_with fail
  refine (rGetA hn _ W12.out.at_).mono ?_; rintro e w13 ⟨rfl, h1, h2⟩; have W13 := hidp (W12.out.call h1 h2); clear h1 h2 W12; rw [HX.out]
  obtain ⟨i0, i1, i2⟩ := W13.out.h0.three
  obtain ⟨x0, x1, x2⟩ := W13.out.h1.three
  go_wp2_with fail
  refine (rPutA hn _ y HY.out W13.out.at_).mono ?_; rintro e w14 ⟨rfl, h1, h2⟩; have W14 := hidp (W13.out.call h1 h2); clear h1 h2 W13
  obtain ⟨i0, i1, i2⟩ := W14.out.h0.three
  obtain ⟨x0, x1, x2⟩ := W14.out.h1.three
  go_wp2
  go_ret
  exact ⟨rfl, W14.out.fin⟩

set_option maxHeartbeats 6400000 in
theorem r15Grow_all (hn : n < 2 ^ 40) (hq : q ≤ 1024) (p l m : Nat) (hp : p + l ≤ 1024) (hm : l < m) (hm2 : m ≤ 2048) (hr : ((p : Int) + (l : Int)) < q) (k1 l1 c1 : Int) (o1 : Bool) (hi1 : infoOf n K t q s ((p : Int) + (l : Int)) st = (k1, l1, c1, o1)) (hk1 : k1 = 1) (hl0 : 0 ≤ l1) (hl1 : l1 ≤ 1024) (hs : ¬ l1 < ((m : Int) - (l : Int))) (hml : ¬ ((m : Int) - (l : Int)) < l1) (h : (rOb base b n all K).At w0 A G st w) :
    Calls Tryz.prog 22 #[.pointer (some ⟨b, 0, none⟩), .agg #[.int .i64 t, .int .i64 q, .int .i64 s], .int .i64 (p : Int), .int .i64 (l : Int), .int .i64 (m : Int)] w fun e w' => e = .returned (.bool true) ∧ (rOb base b n all K).At w0 A G (putS n (getS n K (usedS n t q s p m (putS n (putS n (dropS n K t q s ((p : Int) + (l : Int)) (getS n K st (pageI t q s ((p : Int) + (l : Int)) 0))) (pageI t q s ((p : Int) + (l : Int)) 0) 0) (pageI t q s (((p : Int) + (l : Int)) - 1) 1) 0)) 0) 0 (sub32 (getV n K (usedS n t q s p m (putS n (putS n (dropS n K t q s ((p : Int) + (l : Int)) (getS n K st (pageI t q s ((p : Int) + (l : Int)) 0))) (pageI t q s ((p : Int) + (l : Int)) 0) 0) (pageI t q s (((p : Int) + (l : Int)) - 1) 1) 0)) 0) ((m : Int) - (l : Int)))) w' ∧ Stay G w w' := by
  have W0 := hidp ((WL.start h).new 23 #[.int .i64 t, .int .i64 q, .int .i64 s])
  have hq2 : q ≤ 2147483648 := by omega
  have v4 : IntKind.i64.wrap ((p : Int) + (l : Int)) = ((p : Int) + (l : Int)) := i64_same (by omega) (by omega)
  have t0 : decide (q ≤ ((p : Int) + (l : Int))) = false := decide_eq_false (by omega)
  have v5 : IntKind.i64.wrap ((m : Int) - (l : Int)) = ((m : Int) - (l : Int)) := i64_same (by omega) (by omega)
  subst hk1
  have HI1 := hidp hi1
  have t1 : decide (l1 < ((m : Int) - (l : Int))) = false := decide_eq_false hs
  have t2 : decide (((m : Int) - (l : Int)) < l1) = false := decide_eq_false hml
  have HIV := hidp (infoV_lt 2 (m : Int) 0)
  have sp : IntKind.u32.wrap (p : Int) = (p : Int) := wrap_nat32 p (by omega)
  have sk : IntKind.u32.wrap ((p : Int) + 1) = ((p + 1 : Nat) : Int) := by have := wrap_nat32 (p + 1) (by omega); simpa using this
  have v6 : IntKind.i64.wrap (((p : Int) + (l : Int)) - 1) = (((p : Int) + (l : Int)) - 1) := i64_same (by omega) (by omega)
  have v7 : IntKind.i64.wrap ((p : Int) + (m : Int)) = ((p : Int) + (m : Int)) := i64_same (by omega) (by omega)
  have v8 : IntKind.i64.wrap (((p : Int) + (m : Int)) - 1) = (((p : Int) + (m : Int)) - 1) := i64_same (by omega) (by omega)
  have v9 : IntKind.i64.wrap (l1 - ((m : Int) - (l : Int))) = (l1 - ((m : Int) - (l : Int))) := i64_same (by omega) (by omega)
  have HUS : Hid (putS n (putS n (putS n (putS n (dropS n K t q s ((p : Int) + (l : Int)) (getS n K st (pageI t q s ((p : Int) + (l : Int)) 0))) (pageI t q s ((p : Int) + (l : Int)) 0) 0) (pageI t q s (((p : Int) + (l : Int)) - 1) 1) 0) (pageI t q s (p : Int) 0) (infoV 2 (m : Int) 0)) (pageI t q s ((p : Int) + (m : Int) - 1) 1) (p + 1) = usedS n t q s p m (putS n (putS n (dropS n K t q s ((p : Int) + (l : Int)) (getS n K st (pageI t q s ((p : Int) + (l : Int)) 0))) (pageI t q s ((p : Int) + (l : Int)) 0) 0) (pageI t q s (((p : Int) + (l : Int)) - 1) 1) 0)) := hidp rfl
  obtain ⟨x, hx⟩ : ∃ x, getV n K (usedS n t q s p m (putS n (putS n (dropS n K t q s ((p : Int) + (l : Int)) (getS n K st (pageI t q s ((p : Int) + (l : Int)) 0))) (pageI t q s ((p : Int) + (l : Int)) 0) 0) (pageI t q s (((p : Int) + (l : Int)) - 1) 1) 0)) 0 = x := ⟨_, rfl⟩
  rw [hx]
  obtain ⟨y, hy⟩ : ∃ y, sub32 x ((m : Int) - (l : Int)) = y := ⟨_, rfl⟩
  rw [hy]
  have HY : Hid (y < 2 ^ 32) := hidp (by rw [← hy]; exact sub32_lt x _)
  have sm : IntKind.u32.wrap ((m : Int) - (l : Int)) = ((m : Int) - (l : Int)) := wrap32_small (by omega) (by omega)
  have sa : IntKind.u32.wrap ((x : Int) - ((m : Int) - (l : Int))) = (y : Int) := by have := wrap_sub32 x ((m : Int) - (l : Int)); rw [sm, hy] at this; exact this
  have HX := hidp hx
  clear hx hy
  clear h hi1
  go_enter Tryz.func22, Tryz.ntmps22
  obtain ⟨x0, x1, x2⟩ := W0.out.h0.three
  go_wp2_with fail
  refine (r14Info_c hn ((p : Int) + (l : Int)) 1 l1 c1 o1 HI1.out W0.out.at_).mono ?_; rintro e w1 ⟨rfl, h1, h2⟩; have W1 := hidp (W0.out.call h1 h2); clear h1 h2 W0
  generalize hNI : w1.heap.size = NI at *
  replace W1 := hidp (W1.out.new 103 #[.int .i64 1, .int .i64 l1, .int .i64 c1])
  rw [hNI] at W1
  obtain ⟨i0, i1, i2⟩ := W1.out.h0.three
  obtain ⟨x0, x1, x2⟩ := W1.out.h1.three
  go_wp2_with fail
  refine (r14Drop_c hn hq2 ((p : Int) + (l : Int)) W1.out.at_).mono ?_; rintro e w2 ⟨rfl, h1, h2⟩; have W2 := hidp (W1.out.call h1 h2); clear h1 h2 W1
  obtain ⟨i0, i1, i2⟩ := W2.out.h0.three
  obtain ⟨x0, x1, x2⟩ := W2.out.h1.three
  go_wp2_with fail
  refine (r7Info_c t q s ((p : Int) + (l : Int)) _).mono ?_; rintro e w3 ⟨rfl, hb⟩; have W3 := hidp (W2.out.keep hb); clear hb W2
  obtain ⟨i0, i1, i2⟩ := W3.out.h0.three
  obtain ⟨x0, x1, x2⟩ := W3.out.h1.three
  go_wp2_with fail
  refine (rPutA hn _ 0 (by omega) W3.out.at_).mono ?_; rintro e w4 ⟨rfl, h1, h2⟩; have W4 := hidp (W3.out.call h1 h2); clear h1 h2 W3
  obtain ⟨i0, i1, i2⟩ := W4.out.h0.three
  obtain ⟨x0, x1, x2⟩ := W4.out.h1.three
  go_wp2_with fail
  refine (r7Foot_c t q s (((p : Int) + (l : Int)) - 1) _).mono ?_; rintro e w5 ⟨rfl, hb⟩; have W5 := hidp (W4.out.keep hb); clear hb W4
  obtain ⟨i0, i1, i2⟩ := W5.out.h0.three
  obtain ⟨x0, x1, x2⟩ := W5.out.h1.three
  go_wp2_with fail
  refine (rPutA hn _ 0 (by omega) W5.out.at_).mono ?_; rintro e w6 ⟨rfl, h1, h2⟩; have W6 := hidp (W5.out.call h1 h2); clear h1 h2 W5
  obtain ⟨i0, i1, i2⟩ := W6.out.h0.three
  obtain ⟨x0, x1, x2⟩ := W6.out.h1.three
  go_wp2_with fail
  refine (r7Info_c t q s (p : Int) _).mono ?_; rintro e w7 ⟨rfl, hb⟩; have W7 := hidp (W6.out.keep hb); clear hb W6
  obtain ⟨i0, i1, i2⟩ := W7.out.h0.three
  obtain ⟨x0, x1, x2⟩ := W7.out.h1.three
  go_wp2_with fail
  refine (r9Value_c 2 (m : Int) 0 _).mono ?_; rintro e w8 ⟨rfl, hb⟩; have W8 := hidp (W7.out.keep hb); clear hb W7
  obtain ⟨i0, i1, i2⟩ := W8.out.h0.three
  obtain ⟨x0, x1, x2⟩ := W8.out.h1.three
  go_wp2_with fail
  refine (rPutA hn _ _ HIV.out W8.out.at_).mono ?_; rintro e w9 ⟨rfl, h1, h2⟩; have W9 := hidp (W8.out.call h1 h2); clear h1 h2 W8
  obtain ⟨i0, i1, i2⟩ := W9.out.h0.three
  obtain ⟨x0, x1, x2⟩ := W9.out.h1.three
  go_wp2_with fail
  refine (r7Foot_c t q s ((p : Int) + (m : Int) - 1) _).mono ?_; rintro e w10 ⟨rfl, hb⟩; have W10 := hidp (W9.out.keep hb); clear hb W9
  obtain ⟨i0, i1, i2⟩ := W10.out.h0.three
  obtain ⟨x0, x1, x2⟩ := W10.out.h1.three
  go_wp2_with fail
  refine (rPutA hn _ (p + 1) (by omega) W10.out.at_).mono ?_; rintro e w11 ⟨rfl, h1, h2⟩; have W11 := hidp (W10.out.call h1 h2); clear h1 h2 W10; rw [HUS.out] at W11
  obtain ⟨i0, i1, i2⟩ := W11.out.h0.three
  obtain ⟨x0, x1, x2⟩ := W11.out.h1.three
  go_wp2_with fail
  refine (rGetA hn _ W11.out.at_).mono ?_; rintro e w12 ⟨rfl, h1, h2⟩; have W12 := hidp (W11.out.call h1 h2); clear h1 h2 W11; rw [HX.out]
  obtain ⟨i0, i1, i2⟩ := W12.out.h0.three
  obtain ⟨x0, x1, x2⟩ := W12.out.h1.three
  go_wp2_with fail
  refine (rPutA hn _ y HY.out W12.out.at_).mono ?_; rintro e w13 ⟨rfl, h1, h2⟩; have W13 := hidp (W12.out.call h1 h2); clear h1 h2 W12
  obtain ⟨i0, i1, i2⟩ := W13.out.h0.three
  obtain ⟨x0, x1, x2⟩ := W13.out.h1.three
  go_wp2
  go_ret
  exact ⟨rfl, W13.out.fin⟩

theorem r15Take_c (hn : n < 2 ^ 40) (hq : q ≤ 1024) (nn : Int) (h : (rOb base b n all K).At w0 A G st w) :
    Calls Tryz.prog 13 #[.pointer (some ⟨b, 0, none⟩), .agg #[.int .i64 t, .int .i64 q, .int .i64 s], .int .i64 nn] w fun e w' => e = .returned (.tuple #[.int .i64 (foundI (takeI n K t q s nn st).1), .bool (takeI n K t q s nn st).1.isSome]) ∧ (rOb base b n all K).At w0 A G ((takeI n K t q s nn st).2) w' ∧ Stay G w w' := by
  obtain ⟨⟨o, s1⟩, hf⟩ : ∃ x, findI n K t q s nn st = x := ⟨_, rfl⟩
  cases o with
  | none =>
    rw [takeI_none hf]
    exact r15Take_none hn hq nn s1 hf h
  | some p =>
    obtain ⟨h1, h2, h3⟩ := findI_lt hf
    obtain ⟨m, rfl⟩ := Int.eq_ofNat_of_zero_le (show 0 ≤ nn by omega)
    rw [takeI_some hf]
    dsimp only [foundI, Option.isSome]
    have hd := dropV_few (n := n) (K := K) (t := t) (q := q) (s := s) (p : Int) s1
    unfold takeS
    rw [lessS_eq rfl]
    by_cases hml : (m : Int) < dropV n K t q s (p : Int) s1
    · rw [restS_yes hml]
      exact r15Take_more hn hq p m (by omega) (by omega) _ hd.1 hd.2 s1 hf rfl hml h
    · rw [restS_no hml]
      exact r15Take_all hn hq p m (by omega) (by omega) _ hd.1 hd.2 s1 hf rfl hml h
theorem r15Grow_c (hn : n < 2 ^ 40) (hq : q ≤ 1024) (p l : Nat) (m : Int) (hp : ((p : Int) + (l : Int)) ≤ q) (hm : (l : Int) < m) (hm2 : m ≤ 9223372036854775807) (h : (rOb base b n all K).At w0 A G st w) :
    Calls Tryz.prog 22 #[.pointer (some ⟨b, 0, none⟩), .agg #[.int .i64 t, .int .i64 q, .int .i64 s], .int .i64 (p : Int), .int .i64 (l : Int), .int .i64 m] w fun e w' => e = .returned (.bool (growB n K t q s p l m st)) ∧ (rOb base b n all K).At w0 A G (growS n K t q s p l m st) w' ∧ Stay G w w' := by
  by_cases hr : ((p : Int) + (l : Int)) < q
  · obtain ⟨⟨k1, l1, c1, o1⟩, hi1⟩ : ∃ x, infoOf n K t q s ((p : Int) + (l : Int)) st = x := ⟨_, rfl⟩
    have hb := growB_is (m := m) hr hi1
    by_cases hk : k1 = 1
    · have h3 : 0 ≤ l1 ∧ l1 ≤ 1024 := by
        have h4 := hi1
        unfold infoOf at h4
        rw [hk] at h4
        exact infoG_len h4
      by_cases hs : l1 < m - (l : Int)
      · rw [decide_eq_false (show ¬ m - (l : Int) ≤ l1 by omega), Bool.and_false] at hb
        rw [growS_no hr hb, hb]
        exact r15Grow_short hn hq p l m (by omega) hm hm2 hr k1 l1 c1 o1 hi1 hk hs h
      · rw [decide_eq_true hk, decide_eq_true (show m - (l : Int) ≤ l1 by omega)] at hb
        obtain ⟨mm, rfl⟩ := Int.eq_ofNat_of_zero_le (show 0 ≤ m by omega)
        rw [growS_yes hr (by omega) (by rw [hi1, hk]) hb, hb]
        by_cases hml : (mm : Int) - (l : Int) < l1
        · rw [restS_yes (by omega), show (l : Int) + l1 - (mm : Int) = l1 - ((mm : Int) - (l : Int)) by omega]
          exact r15Grow_more hn hq p l mm (by omega) (by omega) (by omega) hr k1 l1 c1 o1 hi1 hk h3.1 h3.2 hs hml h
        · rw [restS_no (by omega)]
          exact r15Grow_all hn hq p l mm (by omega) (by omega) (by omega) hr k1 l1 c1 o1 hi1 hk h3.1 h3.2 hs hml h
    · rw [decide_eq_false hk, Bool.false_and] at hb
      rw [growS_no hr hb, hb]
      exact r15Grow_kind hn hq p l m (by omega) hm hm2 hr k1 l1 c1 o1 hi1 hk h
  · obtain ⟨hb, hs⟩ := growB_end (n := n) (K := K) (t := t) (s := s) (m := m) (st := st) hr
    rw [hb, hs]
    exact r15Grow_end hn hq p l m (by omega) hm hm2 hr h

end
end Go.Proofs.YtnamlhkccgnbfaaGreat

namespace Go.Proofs.YtnamlhkccgnbfaaGreat
open Go.ChangeShapes Go.WideShapes Go.ChangeAt Go.RowKit Go.Shelf
set_option linter.unusedVariables false
set_option linter.unusedSimpArgs false


set_option maxHeartbeats 1600000 in
theorem xSound_c (t q s : Int) (A : Option Addr) (n c m : Nat) (b : Bool) (w : World) (hC : XCheckIs w t q s A n c m b) :
    Calls Tryz.prog 8 #[.agg #[.int .i64 t, .int .i64 q, .int .i64 s], .slice A n c] w fun e w' => e = .returned (.bool b) ∧ Below w.heap.size w w' := by
  have HX0 := hidp (Held.new w 23 #[.int .i64 t, .int .i64 q, .int .i64 s])
  obtain ⟨c0, c1, c2⟩ := HX0.out.three
  have HBW := hidp (Bnew (B0 w) (.cells #[.int .i64 t, .int .i64 q, .int .i64 s] 23))
  have HCK := hidp (hC _ HBW.out)
  clear hC
  go_enter Tryz.func8, Tryz.ntmps8
  go_wp2_with (first
    | (go_at_call 32; refine HCK.out.mono ?_; rintro e w2 ⟨rfl, hb2⟩; have HB2 := hidp (Bgo HBW.out hb2); clear hb2)
    | fail)
  go_ret
  exact ⟨rfl, HB2.out⟩


end Go.Proofs.YtnamlhkccgnbfaaGreat

namespace Go.Proofs.YtnamlhkccgnbfaaGreat
open Go.ChangeShapes Go.WideShapes Go.ChangeAt Go.RowKit Go.Maps
set_option linter.unusedVariables false
set_option linter.unusedSimpArgs false

def upd (g : Int → Nat) (c : Int) (v : Nat) : Int → Nat := fun a => if a = c then v else g a
theorem upd_same (g : Int → Nat) (c : Int) (v : Nat) : upd g c v c = v := if_pos rfl
theorem upd_other (g : Int → Nat) {c a : Int} (v : Nat) (h : a ≠ c) : upd g c v a = g a := if_neg h

structure Geo (P : Nat) (nx pv : Nat → Int) (hd : Int) : Prop where
  nn : ∀ a b, nx a = nx b → a = b
  pp : ∀ a b, pv a = pv b → a = b
  np : ∀ a b, nx a ≠ pv b
  hn : ∀ a, hd ≠ nx a
  hp : ∀ a, hd ≠ pv a

def Seg (P : Nat) (nx pv : Nat → Int) (g : Int → Nat) : Nat → Nat → List Nat → Nat → Nat → Prop
  | a, x, [], a', x' => a = a' ∧ x = x'
  | a, x, p :: r, a', x' => (x = p + 1 ∧ p < P ∧ g (pv p) = a) ∧ Seg P nx pv g (p + 1) (g (nx p)) r a' x'

section
variable {P : Nat} {nx pv : Nat → Int} {hd : Int} {g g' : Int → Nat} {l l1 l2 : List Nat} {a x a' x' p : Nat}
theorem Seg.append : ∀ {l1 l2 : List Nat} {a x a' x' : Nat}, Seg P nx pv g a x (l1 ++ l2) a' x' ↔ ∃ b y, Seg P nx pv g a x l1 b y ∧ Seg P nx pv g b y l2 a' x'
  | [], l2, a, x, a', x' => by
    constructor
    · intro h; exact ⟨a, x, ⟨rfl, rfl⟩, h⟩
    · rintro ⟨b, y, ⟨rfl, rfl⟩, h⟩; exact h
  | p :: r, l2, a, x, a', x' => by
    constructor
    · rintro ⟨h1, h2⟩
      obtain ⟨b, y, h3, h4⟩ := Seg.append.1 h2
      exact ⟨b, y, ⟨h1, h3⟩, h4⟩
    · rintro ⟨b, y, ⟨h1, h3⟩, h4⟩
      exact ⟨h1, Seg.append.2 ⟨b, y, h3, h4⟩⟩
theorem Seg.frame : ∀ {l : List Nat} {a x a' x' : Nat}, Seg P nx pv g a x l a' x' → (∀ p ∈ l, g' (nx p) = g (nx p) ∧ g' (pv p) = g (pv p)) → Seg P nx pv g' a x l a' x'
  | [], a, x, a', x', h, _ => h
  | p :: r, a, x, a', x', ⟨⟨h1, h2, h3⟩, h4⟩, hf => by
    have hp := hf p (List.mem_cons_self ..)
    refine ⟨⟨h1, h2, by rw [hp.2]; exact h3⟩, ?_⟩
    rw [hp.1]
    exact Seg.frame h4 (fun q hq => hf q (List.mem_cons_of_mem _ hq))
theorem Seg.lt : ∀ {l : List Nat} {a x a' x' : Nat}, Seg P nx pv g a x l a' x' → ∀ p ∈ l, p < P
  | [], a, x, a', x', _, p, hp => by cases hp
  | q :: r, a, x, a', x', ⟨⟨_, h2, _⟩, h4⟩, p, hp => by
    rcases List.mem_cons.1 hp with rfl | hp
    · exact h2
    · exact h4.lt p hp
theorem Seg.last (h : Seg P nx pv g a x (l ++ [p]) a' x') : a' = p + 1 ∧ x' = g (nx p) := by
  obtain ⟨b, y, _, h2, h3⟩ := Seg.append.1 h
  exact ⟨h3.1.symm, h3.2.symm⟩
theorem Seg.head (h : Seg P nx pv g a x (p :: l) a' x') : x = p + 1 ∧ p < P ∧ g (pv p) = a := h.1

structure IsL (P : Nat) (nx pv : Nat → Int) (hd : Int) (g : Int → Nat) (l : List Nat) : Prop where
  seg : ∃ a, Seg P nx pv g 0 (g hd) l a 0
  nodup : l.Nodup

def lk1 : List Nat → Nat
  | [] => 0
  | p :: _ => p + 1
theorem Seg.first {a' : Nat} (h : Seg P nx pv g a x l a' 0) : x = lk1 l := by
  cases l with
  | nil => exact h.2
  | cons p r => exact h.1.1
theorem Seg.reprev (G : Geo P nx pv hd) {b : Nat} (hl : l.Nodup) (h : Seg P nx pv g a x l a' x') (h1 : ∀ p ∈ l, g' (nx p) = g (nx p)) (h2 : ∀ p ∈ l.drop 1, g' (pv p) = g (pv p)) (h3 : ∀ p r, l = p :: r → g' (pv p) = b) (h0 : l = [] → a' = a) :
    ∃ c, Seg P nx pv g' b x l c x' := by
  cases l with
  | nil => exact ⟨b, rfl, h.2⟩
  | cons p r =>
    refine ⟨a', ⟨h.1.1, h.1.2.1, h3 p r rfl⟩, ?_⟩
    rw [h1 p (List.mem_cons_self ..)]
    exact h.2.frame (fun q hq => ⟨h1 q (List.mem_cons_of_mem _ hq), h2 q (by simpa using hq)⟩)

def pull1G (nx pv : Nat → Int) (hd : Int) (p : Nat) (g : Int → Nat) : Int → Nat := if g (pv p) = 0 then upd g hd (g (nx p)) else upd g (nx (g (pv p) - 1)) (g (nx p))
def pull2G (nx pv : Nat → Int) (hd : Int) (p : Nat) (g : Int → Nat) : Int → Nat := if g (nx p) = 0 then pull1G nx pv hd p g else upd (pull1G nx pv hd p g) (pv (g (nx p) - 1)) (g (pv p))
def pullG (nx pv : Nat → Int) (hd : Int) (p : Nat) (g : Int → Nat) : Int → Nat := upd (upd (pull2G nx pv hd p g) (nx p) 0) (pv p) 0
theorem pull_far (G : Geo P nx pv hd) (hl : (l1 ++ p :: l2).Nodup) (hs : Seg P nx pv g 0 (g hd) (l1 ++ p :: l2) a' 0) {c : Int} (c1 : c ≠ hd) (c2 : ∀ u ∈ l1 ++ p :: l2, c ≠ nx u ∧ c ≠ pv u) : pullG nx pv hd p g c = g c := by
  obtain ⟨b, y, s1, ⟨s2, s3, s4⟩, s5⟩ := Seg.append.1 hs
  have cp := c2 p (by simp)
  unfold pullG
  rw [upd_other _ _ cp.2, upd_other _ _ cp.1]
  have b1 : pull1G nx pv hd p g c = g c := by
    unfold pull1G
    split
    · exact upd_other _ _ c1
    · rename_i hz
      rw [s4] at hz ⊢
      rcases List.eq_nil_or_concat l1 with rfl | ⟨m1, u, rfl⟩
      · exact absurd s1.1.symm hz
      · rw [List.concat_eq_append] at s1 c2
        have := s1.last.1
        rw [this]
        exact upd_other _ _ (c2 u (by simp)).1
  unfold pull2G
  split
  · exact b1
  · rename_i hz
    have hx := s5.first
    cases l2 with
    | nil => exact absurd hx hz
    | cons v r =>
      have hx : g (nx p) = v + 1 := hx
      rw [hx, Nat.add_sub_cancel, upd_other _ _ (c2 v (by simp)).2]
      exact b1
theorem IsL.pull (G : Geo P nx pv hd) (h : IsL P nx pv hd g (l1 ++ p :: l2)) : IsL P nx pv hd (pullG nx pv hd p g) (l1 ++ l2) := by
  obtain ⟨⟨a', hs⟩, hl⟩ := h
  obtain ⟨b, y, s1, ⟨s2, s3, s4⟩, s5⟩ := Seg.append.1 hs
  have hx := s5.first
  have hnd := hl
  rw [List.nodup_append] at hnd
  obtain ⟨n1, n2, n3⟩ := hnd
  rw [List.nodup_cons] at n2
  obtain ⟨n4, n5⟩ := n2
  have q1 : ∀ u ∈ l1, u ≠ p := fun u hu => n3 u hu p (List.mem_cons_self ..)
  have q2 : ∀ u ∈ l2, u ≠ p := fun u hu e => n4 (e ▸ hu)
  have q3 : ∀ u ∈ l1, ∀ v ∈ l2, u ≠ v := fun u hu v hv => n3 u hu v (List.mem_cons_of_mem _ hv)
  -- what the cells are, but for those of p
  have w0 : ∀ c, c ≠ nx p → c ≠ pv p → pullG nx pv hd p g c = pull2G nx pv hd p g c := fun c c1 c2 => by unfold pullG; rw [upd_other _ _ c2, upd_other _ _ c1]
  have w1 : ∀ c, (∀ v r, l2 = v :: r → c ≠ pv v) → pull2G nx pv hd p g c = pull1G nx pv hd p g c := fun c c1 => by
    unfold pull2G
    split
    · rfl
    · rename_i hz
      cases l2 with
      | nil => exact absurd hx hz
      | cons v r =>
        have hx : g (nx p) = v + 1 := hx
        rw [hx, Nat.add_sub_cancel, upd_other _ _ (c1 v r rfl)]
  have w2 : ∀ v r, l2 = v :: r → pull2G nx pv hd p g (pv v) = b := fun v r e => by
    subst e
    have hx : g (nx p) = v + 1 := hx
    unfold pull2G
    rw [if_neg (by omega), hx, Nat.add_sub_cancel, upd_same, s4]
  have hs1 : ∃ b', Seg P nx pv (pullG nx pv hd p g) 0 (pullG nx pv hd p g hd) l1 b' (lk1 l2) ∧ b' = b := by
    have hdw : pullG nx pv hd p g hd = pull1G nx pv hd p g hd := by rw [w0 _ (G.hn p) (G.hp p), w1 _ (fun v r _ => G.hp v)]
    rcases List.eq_nil_or_concat l1 with rfl | ⟨m1, u, rfl⟩
    · have hb : b = 0 := s1.1.symm
      refine ⟨0, ⟨rfl, ?_⟩, hb.symm⟩
      rw [hdw]
      unfold pull1G
      rw [if_pos (by rw [s4]; exact hb), upd_same, hx]
    · rw [List.concat_eq_append] at *
      have hbu := s1.last.1
      have hb0 : ¬ g (pv p) = 0 := by rw [s4, hbu]; omega
      have w3 : ∀ c, c ≠ nx u → pull1G nx pv hd p g c = g c := fun c c1 => by
        unfold pull1G
        rw [if_neg hb0, s4, hbu, Nat.add_sub_cancel, upd_other _ _ c1]
      have w4 : pull1G nx pv hd p g (nx u) = lk1 l2 := by
        unfold pull1G
        rw [if_neg hb0, s4, hbu, Nat.add_sub_cancel, upd_same, hx]
      obtain ⟨b0, y0, t1, ⟨t2, t3, t4⟩, t5⟩ := Seg.append.1 s1
      have hum : ∀ v ∈ m1, v ≠ u := fun v hv => by
        have n1' := n1
        rw [List.nodup_append] at n1'
        exact n1'.2.2 v hv u (by simp)
      have k1 : Seg P nx pv (pullG nx pv hd p g) 0 (pullG nx pv hd p g hd) m1 b0 y0 := by
        rw [hdw, w3 _ (G.hn u)]
        refine t1.frame (fun v hv => ⟨?_, ?_⟩)
        · rw [w0 _ (fun e => q1 v (by simp [hv]) (G.nn _ _ e)) (G.np _ _), w1 _ (fun _ _ _ => G.np _ _), w3 _ (fun e => hum v hv (G.nn _ _ e))]
        · rw [w0 _ (fun e => G.np _ _ e.symm) (fun e => q1 v (by simp [hv]) (G.pp _ _ e)), w1 _ (fun z r hz e => q3 v (by simp [hv]) z (by rw [hz]; simp) (G.pp _ _ e)), w3 _ (fun e => G.np _ _ e.symm)]
      have k2 : pullG nx pv hd p g (pv u) = b0 := by
        rw [w0 _ (fun e => G.np _ _ e.symm) (fun e => q1 u (by simp) (G.pp _ _ e)), w1 _ (fun z r hz e => q3 u (by simp) z (by rw [hz]; simp) (G.pp _ _ e)), w3 _ (fun e => G.np _ _ e.symm), t4]
      have k3 : pullG nx pv hd p g (nx u) = lk1 l2 := by
        rw [w0 _ (fun e => q1 u (by simp) (G.nn _ _ e)) (G.np _ _), w1 _ (fun _ _ _ => G.np _ _), w4]
      exact ⟨b, Seg.append.2 ⟨b0, y0, k1, ⟨t2, t3, k2⟩, hbu.symm, k3⟩, rfl⟩
  obtain ⟨b', h1, rfl⟩ := hs1
  have w5 : ∀ c, c ≠ hd → (∀ u ∈ l1, c ≠ nx u) → pull1G nx pv hd p g c = g c := fun c c1 c2 => by
    unfold pull1G
    split
    · exact upd_other _ _ c1
    · rename_i hz
      rw [s4] at hz ⊢
      rcases List.eq_nil_or_concat l1 with rfl | ⟨m1, u, rfl⟩
      · exact absurd s1.1.symm hz
      · rw [List.concat_eq_append] at s1 c2
        have := s1.last.1
        rw [this]
        exact upd_other _ _ (c2 u (by simp))
  have hd2 : ∀ u r, l2 = u :: r → ∀ v ∈ r, v ≠ u := fun u r hl v hv e => by
    subst hl
    rw [List.nodup_cons] at n5
    exact n5.1 (e ▸ hv)
  obtain ⟨c, hc⟩ := s5.reprev (g' := pullG nx pv hd p g) (b := b') G n5
    (fun u hu => by rw [w0 _ (fun e => q2 u hu (G.nn _ _ e)) (G.np _ _), w1 _ (fun _ _ _ => G.np _ _), w5 _ (G.hn u).symm (fun v hv e => q3 v hv u hu (G.nn _ _ e.symm))])
    (fun u hu => by
      have hu' := List.mem_of_mem_drop hu
      rw [w0 _ (fun e => G.np _ _ e.symm) (fun e => q2 u hu' (G.pp _ _ e)), w1 _ (fun z r hz e => by
        have := G.pp _ _ e
        subst hz
        exact hd2 z r rfl u (by simpa using hu) this), w5 _ (G.hp u).symm (fun v hv e => G.np _ _ e.symm)])
    (fun v r e => by rw [w0 _ (fun e => G.np _ _ e.symm) (fun e2 => q2 v (by rw [e]; simp) (G.pp _ _ e2)), w2 v r e])
    (fun e => by subst e; exact s5.1.symm)
  rw [hx] at hc
  refine ⟨⟨c, Seg.append.2 ⟨b', _, h1, hc⟩⟩, ?_⟩
  rw [List.nodup_append]
  exact ⟨n1, n5, fun u hu v hv => q3 u hu v hv⟩
end
end Go.Proofs.YtnamlhkccgnbfaaGreat

namespace Go.Proofs.YtnamlhkccgnbfaaGreat
open Go.ChangeShapes Go.WideShapes Go.ChangeAt Go.RowKit Go.Maps
set_option linter.unusedVariables false
set_option linter.unusedSimpArgs false

structure VW (n : Nat) (K : Nat → Option Nat) (s : Vst) : Prop where
  all : ∀ i, i < n → ∃ v, K i = some v
  lost : s.lost = false
section
variable {n : Nat} {K : Nat → Option Nat} {s : Vst} {c : Int} {v : Nat}
theorem VW.at_ (h : VW n K s) {i : Nat} (hi : i < n) : getV n K s (i : Int) = (match pos s.wr i with | some k => atW s.wr k | none => (K i).getD 0) := by
  have ho := opn_yes hi h.lost
  unfold getV
  rw [if_pos ho, Int.toNat_natCast]
  cases pos s.wr i <;> rfl
theorem getV_far (n : Nat) (K : Nat → Option Nat) (s : Vst) {a : Int} (h : ¬ (0 ≤ a ∧ a < n)) : getV n K s a = 0 := getV_no (by unfold opn; simp; intro _ h1; omega)
theorem VW.get (h : VW n K s) (c : Int) : VW n K (getS n K s c) ∧ getV n K (getS n K s c) = getV n K s := by
  by_cases ho : opn n s c = true
  · obtain ⟨i, rfl, hi, hl⟩ := opn_at ho
    cases hp : pos s.wr i with
    | some k => rw [getS_put ho hp]; exact ⟨h, rfl⟩
    | none =>
      obtain ⟨v, hv⟩ := h.all i hi
      rw [getS_known ho hp hv]
      have e1 : (noteS s i).wr = s.wr ∧ (noteS s i).lost = s.lost := by unfold noteS; split <;> exact ⟨rfl, rfl⟩
      refine ⟨⟨h.all, e1.2.trans h.lost⟩, ?_⟩
      funext a
      unfold getV opn
      rw [e1.1, e1.2]
  · rw [getS_no (by simpa using ho)]; exact ⟨h, rfl⟩
theorem VW.put (h : VW n K s) {i : Nat} (hi : i < n) (v : Nat) : VW n K (putS n s (i : Int) v) ∧ getV n K (putS n s (i : Int) v) = upd (getV n K s) (i : Int) v := by
  have ho := opn_yes hi h.lost
  have hV : VW n K (putS n s (i : Int) v) := ⟨h.all, by rw [putS_yes ho]; exact h.lost⟩
  refine ⟨hV, ?_⟩
  funext a
  by_cases ha : 0 ≤ a ∧ a < n
  · obtain ⟨j, rfl⟩ := Int.eq_ofNat_of_zero_le ha.1
    have hj : j < n := by omega
    rw [hV.at_ hj]
    have hw : (putS n s (i : Int) v).wr = putW s.wr i v := by rw [putS_yes ho]
    rw [hw, pos_putW]
    unfold upd
    cases hp : pos s.wr i with
    | some k =>
      obtain ⟨hk, hc⟩ := pos_some hp
      rw [putW_some hp]
      simp only
      by_cases e : j = i
      · subst e
        rw [if_pos rfl, hp]
        simp [atW, List.getD, hk]
      · rw [if_neg (by omega), h.at_ hj]
        cases hq : pos s.wr j with
        | none => rfl
        | some m =>
          have hm := pos_some hq
          have : m ≠ k := fun e2 => by subst e2; exact e (hm.2.symm.trans hc)
          simp [atW, List.getD, List.getElem?_set_ne (Ne.symm this)]
    | none =>
      rw [putW_none hp]
      simp only
      by_cases e : j = i
      · subst e
        rw [if_pos rfl, if_pos rfl]
        simp [atW, List.getD]
      · rw [if_neg e, if_neg (by omega), h.at_ hj]
        cases hq : pos s.wr j with
        | none => rfl
        | some m =>
          have hm := pos_some hq
          simp [atW, List.getD, List.getElem?_append_left hm.1]
  · rw [getV_far n K _ ha]
    unfold upd
    rw [if_neg (by omega), getV_far n K _ ha]
end

def nxH (t p : Nat) : Int := ((30 + 4 * t + 6 * p + 2 : Nat) : Int)
def pvH (t p : Nat) : Int := ((30 + 4 * t + 6 * p + 3 : Nat) : Int)
theorem geo (P t hd : Nat) (h : hd < 30) : Geo P (nxH t) (pvH t) (hd : Int) :=
  ⟨fun a b e => by unfold nxH at e; omega, fun a b e => by unfold pvH at e; omega, fun a b e => by unfold nxH pvH at e; omega, fun a e => by unfold nxH at e; omega, fun a e => by unfold pvH at e; omega⟩

section
variable {t P s n hd : Nat} {K : Nat → Option Nat} {st : Vst} {l l1 l2 : List Nat} {p : Nat}
structure Fit (t P s n : Nat) : Prop where
  right : rightB t P s = true
  len : n = 30 + 4 * t + 6 * P
theorem Fit.nums (h : Fit t P s n) : 4 ≤ P ∧ P ≤ 1024 := by
  have := (rightB_iff _ _ _).1 h.right
  omega
theorem Fit.nx (h : Fit t P s n) (hp : p < P) : pageI (t : Int) (P : Int) (s : Int) (p : Int) 2 = nxH t p := by
  rw [pcell_yes h.right (by omega) (by omega) (by omega) (by omega)]
  unfold nxH
  push_cast
  omega
theorem Fit.pv (h : Fit t P s n) (hp : p < P) : pageI (t : Int) (P : Int) (s : Int) (p : Int) 3 = pvH t p := by
  rw [pcell_yes h.right (by omega) (by omega) (by omega) (by omega)]
  unfold pvH
  push_cast
  omega
theorem Fit.nxl (h : Fit t P s n) {x : Nat} (h0 : x ≠ 0) (hp : x - 1 < P) : pageI (t : Int) (P : Int) (s : Int) ((x : Int) - 1) 2 = nxH t (x - 1) := by
  rw [← h.nx hp]
  congr 1
  omega
theorem Fit.pvl (h : Fit t P s n) {x : Nat} (h0 : x ≠ 0) (hp : x - 1 < P) : pageI (t : Int) (P : Int) (s : Int) ((x : Int) - 1) 3 = pvH t (x - 1) := by
  rw [← h.pv hp]
  congr 1
  omega
theorem Fit.putN (h : Fit t P s n) (hV : VW n K st) (hp : p < P) (v : Nat) : VW n K (putS n st (nxH t p) v) ∧ getV n K (putS n st (nxH t p) v) = upd (getV n K st) (nxH t p) v := hV.put (by have := h.len; omega) v
theorem Fit.putP (h : Fit t P s n) (hV : VW n K st) (hp : p < P) (v : Nat) : VW n K (putS n st (pvH t p) v) ∧ getV n K (putS n st (pvH t p) v) = upd (getV n K st) (pvH t p) v := hV.put (by have := h.len; omega) v
theorem Fit.putH (h : Fit t P s n) (hV : VW n K st) (hh : hd < 30) (v : Nat) : VW n K (putS n st (hd : Int) v) ∧ getV n K (putS n st (hd : Int) v) = upd (getV n K st) (hd : Int) v := hV.put (by have := h.len; omega) v

theorem Fit.pull (h : Fit t P s n) (hh : hd < 30) (hV : VW n K st) (hp : p < P) (hx : getV n K st (nxH t p) = 0 ∨ getV n K st (nxH t p) - 1 < P) (hy : getV n K st (pvH t p) = 0 ∨ getV n K st (pvH t p) - 1 < P) :
    VW n K (pullS n K t P s hd p st) ∧ getV n K (pullS n K t P s hd p st) = pullG (nxH t) (pvH t) hd p (getV n K st) := by
  obtain ⟨a1, a2⟩ := hV.get (nxH t p)
  obtain ⟨b1, b2⟩ := a1.get (pvH t p)
  have eN : pullN n K t P s p st = getV n K st (nxH t p) := by unfold pullN; rw [h.nx hp]
  have eB : pullB n K t P s p st = getV n K st (pvH t p) := by unfold pullB; rw [h.nx hp, h.pv hp, a2]
  have e0 : pull0 n K t P s p st = getS n K (getS n K st (nxH t p)) (pvH t p) := by unfold pull0; rw [h.nx hp, h.pv hp]
  rw [← e0] at b1 b2
  rw [a2] at b2
  have c : VW n K (pull1 n K t P s hd p st) ∧ getV n K (pull1 n K t P s hd p st) = pull1G (nxH t) (pvH t) hd p (getV n K st) := by
    unfold pull1 pull1G
    rw [eB, eN]
    by_cases hz : getV n K st (pvH t p) = 0
    · rw [if_pos hz, if_pos hz]
      obtain ⟨d1, d2⟩ := h.putH b1 hh (getV n K st (nxH t p))
      rw [b2] at d2
      exact ⟨d1, d2⟩
    · rw [if_neg hz, if_neg hz, h.nxl hz (by omega)]
      obtain ⟨d1, d2⟩ := h.putN b1 (show getV n K st (pvH t p) - 1 < P by omega) (getV n K st (nxH t p))
      rw [b2] at d2
      exact ⟨d1, d2⟩
  have d : VW n K (pull2 n K t P s hd p st) ∧ getV n K (pull2 n K t P s hd p st) = pull2G (nxH t) (pvH t) hd p (getV n K st) := by
    unfold pull2 pull2G
    rw [eB, eN]
    by_cases hz : getV n K st (nxH t p) = 0
    · rw [if_pos hz, if_pos hz]
      exact c
    · rw [if_neg hz, if_neg hz, h.pvl hz (by omega)]
      obtain ⟨d1, d2⟩ := h.putP c.1 (show getV n K st (nxH t p) - 1 < P by omega) (getV n K st (pvH t p))
      rw [c.2] at d2
      exact ⟨d1, d2⟩
  unfold pullS pullG
  rw [h.nx hp, h.pv hp]
  obtain ⟨f1, f2⟩ := h.putN d.1 hp 0
  obtain ⟨g1, g2⟩ := h.putP f1 hp 0
  rw [f2, d.2] at g2
  exact ⟨g1, g2⟩

def HasL (t P hd n : Nat) (K : Nat → Option Nat) (st : Vst) (l : List Nat) : Prop := IsL P (nxH t) (pvH t) hd (getV n K st) l
theorem HasL.lt (h : HasL t P hd n K st l) : ∀ u ∈ l, u < P := by obtain ⟨⟨a, hs⟩, _⟩ := h; exact hs.lt
theorem HasL.len (h : HasL t P hd n K st l) : l.length ≤ P := nodup_few P l h.lt h.nodup
theorem walkF_seg (h : Fit t P s n) : ∀ (l : List Nat) (m x a a' : Nat) (st : Vst), VW n K st → l.length ≤ m → Seg P (nxH t) (pvH t) (getV n K st) a x l a' 0 →
    (walkF n K t P s m x st).1 = l ∧ VW n K (walkF n K t P s m x st).2 ∧ getV n K (walkF n K t P s m x st).2 = getV n K st
  | [], m, x, a, a', st, hV, hm, hs => by
    have hx : x = 0 := hs.2
    subst hx
    rw [walkF_end n K t P s (by omega)]
    exact ⟨rfl, hV, rfl⟩
  | p :: r, m, x, a, a', st, hV, hm, hs => by
    obtain ⟨⟨rfl, hp, _⟩, hr⟩ := hs
    obtain ⟨m', rfl⟩ : ∃ m', m = m' + 1 := ⟨m - 1, by simp at hm; omega⟩
    have hc : pageI (t : Int) (P : Int) (s : Int) (((p + 1 : Nat) : Int) - 1) 2 = nxH t p := by rw [h.nxl (by omega) (by omega)]; rfl
    rw [walkF_step n K t P s ⟨by omega, by omega⟩, hc]
    obtain ⟨g1, g2⟩ := hV.get (nxH t p)
    obtain ⟨i1, i2, i3⟩ := walkF_seg h r m' (getV n K st (nxH t p)) (p + 1) a' (getS n K st (nxH t p)) g1 (by simp at hm; omega) (by rw [g2]; exact hr)
    exact ⟨by rw [i1]; simp, i2, i3.trans g2⟩
theorem HasL.walk (h : HasL t P hd n K st l) (hf : Fit t P s n) (hV : VW n K st) : walkL n K t P s hd st = l ∧ VW n K (walkS n K t P s hd st) ∧ getV n K (walkS n K t P s hd st) = getV n K st := by
  obtain ⟨⟨a, hs⟩, hd'⟩ := id h
  obtain ⟨g1, g2⟩ := hV.get (hd : Int)
  have := walkF_seg hf l (P : Int).toNat (getV n K st hd) 0 a (getS n K st hd) g1 (by rw [Int.toNat_natCast]; exact h.len) (by rw [g2]; exact hs)
  exact ⟨this.1, this.2.1, this.2.2.trans g2⟩
theorem HasL.links (h : HasL t P hd n K st (l1 ++ p :: l2)) : p < P ∧ (getV n K st (nxH t p) = 0 ∨ getV n K st (nxH t p) - 1 < P) ∧ (getV n K st (pvH t p) = 0 ∨ getV n K st (pvH t p) - 1 < P) := by
  have hlt := h.lt
  obtain ⟨⟨a, hs⟩, _⟩ := h
  obtain ⟨b, y, s1, ⟨s2, s3, s4⟩, s5⟩ := Seg.append.1 hs
  refine ⟨s3, ?_, ?_⟩
  · have := s5.first
    cases l2 with
    | nil => exact .inl this
    | cons u r => right; have h2 := hlt u (by simp); have h3 : getV n K st (nxH t p) = u + 1 := this; omega
  · rw [s4]
    rcases List.eq_nil_or_concat l1 with rfl | ⟨m1, u, rfl⟩
    · exact .inl s1.1.symm
    · rw [List.concat_eq_append] at s1 hlt
      right
      have h2 := hlt u (by simp)
      have h3 := s1.last.1
      omega
theorem HasL.pull (h : HasL t P hd n K st (l1 ++ p :: l2)) (hf : Fit t P s n) (hh : hd < 30) (hV : VW n K st) :
    HasL t P hd n K (pullS n K t P s hd p st) (l1 ++ l2) ∧ VW n K (pullS n K t P s hd p st) := by
  obtain ⟨hp, hx, hy⟩ := h.links
  obtain ⟨h2, h3⟩ := hf.pull hh hV hp hx hy
  refine ⟨?_, h2⟩
  unfold HasL
  rw [h3]
  exact IsL.pull (geo P t hd hh) h
theorem HasL.other {hd2 : Nat} {l' : List Nat} (h : HasL t P hd n K st (l1 ++ p :: l2)) (hf : Fit t P s n) (hh : hd < 30) (hV : VW n K st) (h2 : HasL t P hd2 n K st l') (hne : hd2 ≠ hd) (hh2 : hd2 < 30) (hap : ∀ u ∈ l', ¬ u ∈ l1 ++ p :: l2) :
    HasL t P hd2 n K (pullS n K t P s hd p st) l' := by
  obtain ⟨hp, hx, hy⟩ := h.links
  obtain ⟨_, h3⟩ := hf.pull hh hV hp hx hy
  have G := geo P t hd hh
  have G2 := geo P t hd2 hh2
  obtain ⟨⟨a, hs⟩, hnd⟩ := h
  obtain ⟨⟨a2, hs2⟩, hnd2⟩ := h2
  unfold HasL
  rw [h3]
  refine ⟨⟨a2, ?_⟩, hnd2⟩
  rw [pull_far G hnd hs (c := (hd2 : Int)) (by omega) (fun u _ => ⟨G2.hn u, G2.hp u⟩)]
  refine hs2.frame (fun u hu => ⟨?_, ?_⟩)
  · refine pull_far G hnd hs (G.hn u).symm (fun v hv => ⟨fun e => hap u hu (by rw [G.nn _ _ e]; exact hv), G.np _ _⟩)
  · refine pull_far G hnd hs (G.hp u).symm (fun v hv => ⟨fun e => G.np _ _ e.symm, fun e => hap u hu (by rw [G.pp _ _ e]; exact hv)⟩)
end

namespace AuH
variable {H : AuH}
end AuH
section
variable {H : AuH} {n c hd : Nat} {K : Nat → Option Nat} {l : List Nat}
end
end Go.Proofs.YtnamlhkccgnbfaaGreat

namespace Go.Proofs.YtnamlhkccgnbfaaGreat
open Go.ChangeShapes Go.WideShapes Go.ChangeAt Go.RowKit
set_option linter.unusedVariables false
set_option maxRecDepth 100000

section
variable {H : Type} {enc : TypeId × Value → H} {P : Program} {w : World} {base : Nat} {sp : Nat → Bool} {held : Bool}
theorem open_vals {t e : TypeId} {v : Value} {d : DataW H} {p : List MemPlace} (ht : P.underlying t = some (.slice e)) (he : P.underlying e = some (.int .u32)) (hc : P.cellsOf e = 1)
    {r : Reach} {b0 : Nat} (hval : Value.okWide P w r b0 t v) (h : DataW.Trod enc P w base sp held t v d p) (hlt : ∀ x ∈ p, x.block < w.heap.size) :
    ∃ (A : Option Addr) (c : Nat) (ws : List Nat), v = .slice A ws.length c ∧ ws.length ≤ c ∧ c ≤ maxLen ∧ (∀ x ∈ ws, x < 2 ^ 32) ∧ Reads w w.heap.size 1 A ws.length (valVs ws) := by
  obtain ⟨fuel, hf⟩ := h
  have hv : v.cells = #[v] := by
    obtain ⟨A, n, c, rfl⟩ := okWide_slice ht hval
    rfl
  rw [hv] at hf
  rcases open_ints ht he hc hf with ⟨hcs, _⟩ | ⟨a, len, cap, zs, hcs, hb, hl, hm, hz, hx, hcell, hwf⟩
  · injection hcs with hcs
    subst hcs
    exact ⟨none, 0, [], rfl, Nat.le_refl _, Nat.zero_le _, by simp, Reads.none_⟩
  · injection hcs with hcs
    subst hcs
    have hlz : len ≤ zs.length := by rw [hz]; split <;> omega
    have hlen : ((zs.take len).map Int.toNat).length = len := by simp; omega
    refine ⟨some a, cap, (zs.take len).map Int.toNat, by rw [hlen], by rw [hlen]; exact hl, hm, ?_, ?_⟩
    · intro x hx
      obtain ⟨z, hz1, rfl⟩ := List.mem_map.1 hx
      obtain ⟨n, rfl, hn⟩ := u32_nat (hwf z (List.mem_of_mem_take hz1))
      simpa using hn
    · refine ⟨by rw [valVs_len]; omega, fun hn => ?_⟩
      rw [hlen] at hn
      refine ⟨a, rfl, ?_, fun j u hu => ?_⟩
      · have hp : (p : List MemPlace) = MemPlace.row a zs.length := by
          have := congrArg Prod.snd hx
          simpa using this
        have h0 : MemPlace.cell a.block a.off ∈ p ∨ (∃ x ∈ p, x.block = a.block) := by
          right
          rw [hp]
          refine ⟨(MemPlace.row a zs.length)[0]'(by simp [MemPlace.row]; omega), List.getElem_mem _, ?_⟩
          simp [MemPlace.row, MemPlace.block]
        rcases h0 with h0 | ⟨x, hx1, hx2⟩
        · exact hlt _ h0
        · rw [← hx2]; exact hlt x hx1
      · unfold valVs at hu
        rw [List.map_map] at hu
        have hj : j < len := by
          rcases Nat.lt_or_ge j len with h1 | h1
          · exact h1
          · rw [List.getElem?_eq_none (by simp; omega)] at hu; cases hu
        rw [List.getElem?_map, List.getElem?_take_of_lt hj, List.getElem?_eq_getElem (by omega)] at hu
        simp only [Option.map_some, Option.some.injEq, Function.comp_apply] at hu
        subst hu
        rw [hcell j (by omega)]
        have hw := hwf zs[j] (List.getElem_mem _)
        obtain ⟨n, hn1, _⟩ := u32_nat hw
        have : (zs.getD j 0) = zs[j] := by simp [List.getD, List.getElem?_eq_getElem (show j < zs.length by omega)]
        rw [this, hn1]
        simp
end
end Go.Proofs.YtnamlhkccgnbfaaGreat

namespace Go.Proofs.YtnamlhkccgnbfaaGreat
open Go.ChangeShapes Go.WideShapes Go.ChangeAt Go.RowKit
set_option linter.unusedVariables false

theorem heap13_of (W : World) (t q s : Int) (A : Option Addr) (c : Nat) (vals : List Nat) (hnc : vals.length ≤ c) (hcm : c ≤ maxLen) (h32 : ∀ x ∈ vals, x < 2 ^ 32) (hR : Reads W W.heap.size 1 A vals.length (valVs vals)) (h : lC t q s ≠ 0 ∧ (vals.length : Int) = lC t q s) :
    ∃ (H : AuH) (ad : Addr), t = H.t ∧ q = H.p ∧ s = H.s ∧ A = some ad ∧ (∀ i, H.V i = vals.getD i 0) ∧ HeapV H vals.length c ∧ IsVals W ad vals.length H.V := by
  cases hr : rightB t q s
  · exact absurd (lay_no hr).5 h.1
  · have hn := (rightB_iff t q s).1 hr
    have hl := (lay_yes hr).5
    have hlen : 0 < vals.length := by have := h.2; rw [hl] at this; omega
    obtain ⟨ad, rfl, hb, hc⟩ := hR.2 hlen
    have hx : ∀ i, i < vals.length → vals[i]? = some (vals.getD i 0) := fun i hi => by simp [List.getD, List.getElem?_eq_getElem hi]
    refine ⟨⟨t.toNat, q.toNat, s.toNat, fun i => vals.getD i 0⟩, ad, by show t = _; simp; omega, by show q = _; simp; omega, by show s = _; simp; omega, rfl, fun i => rfl, ⟨?_, ?_, hnc, hcm, fun i hi => ?_⟩, hb, fun i hi => ?_⟩
    · show rightB ((t.toNat : Nat) : Int) ((q.toNat : Nat) : Int) ((s.toNat : Nat) : Int) = true
      rw [show ((t.toNat : Nat) : Int) = t by omega, show ((q.toNat : Nat) : Int) = q by omega, show ((s.toNat : Nat) : Int) = s by omega]
      exact hr
    · show vals.length = 30 + 4 * t.toNat + 6 * q.toNat
      have := h.2
      rw [hl] at this
      omega
    · exact h32 _ (List.mem_of_getElem? (hx i hi))
    · refine hc i _ ?_
      unfold valVs
      rw [List.getElem?_map, hx i hi]
      rfl
theorem heap13_or (W : World) (t q s : Int) (A : Option Addr) (c : Nat) (vals : List Nat) (hnc : vals.length ≤ c) (hcm : c ≤ maxLen) (h32 : ∀ x ∈ vals, x < 2 ^ 32) (hR : Reads W W.heap.size 1 A vals.length (valVs vals)) :
    (∃ m, XCheckIs W t q s A vals.length c m false) ∨ ∃ (H : AuH) (ad : Addr) (m : Nat), t = H.t ∧ q = H.p ∧ s = H.s ∧ A = some ad ∧ (∀ i, H.V i = vals.getD i 0) ∧ HeapV H vals.length c ∧ IsVals W ad vals.length H.V ∧ H.Told m true ∧ XCheckIs W H.t H.p H.s (some ad) vals.length c m true := by
  by_cases h : lC t q s ≠ 0 ∧ (vals.length : Int) = lC t q s
  · obtain ⟨H, ad, rfl, rfl, rfl, rfl, hV, HV, hv⟩ := heap13_of W t q s A c vals hnc hcm h32 hR h
    obtain ⟨m, b, hto⟩ := H.told_is
    have hX := xCheckIs_yes HV ad W hv hto
    cases b with
    | true => exact .inr ⟨H, ad, m, rfl, rfl, rfl, rfl, hV, HV, hv, hto, hX⟩
    | false => exact .inl ⟨m, hX⟩
  · exact .inl ⟨1, xCheckIs_no W t q s A vals.length c hnc hcm h⟩
end Go.Proofs.YtnamlhkccgnbfaaGreat

namespace Go.Proofs.YtnamlhkccgnbfaaGreat
open Go.ChangeShapes Go.WideShapes Go.ChangeAt Go.RowKit Go.Maps
set_option linter.unusedVariables false
set_option linter.unusedSimpArgs false
set_option maxRecDepth 100000

theorem SpanTakes_few (t q s nn : Int) (A : Option Addr) (n c m : Nat) (hq : 64 < q) (W : World)  : Calls Tryz.prog 3 #[.agg #[.int .i64 t, .int .i64 q, .int .i64 s], .slice A n c, .int .i64 nn] W (Keeps W) := by
  have t2 : decide (q ≤ (64 : Int)) = false := decide_eq_false (by omega)
  have HC := hidp (Held.new W 23 #[.int .i64 t, .int .i64 q, .int .i64 s])
  have HB := hidp (Bnew (B0 W) (.cells #[.int .i64 t, .int .i64 q, .int .i64 s] 23))
  obtain ⟨x0, x1, x2⟩ := HC.out.three
  go_enter Tryz.func3, Tryz.ntmps3
  go_wp2_with fail
  refine (few14_c t q s _).mono ?_
  rintro e w1 ⟨rfl, hb⟩
  rw [t2]
  replace HC := hidp (HC.out.keep hb)
  replace HB := hidp (Bgo HB.out hb)
  clear hb
  clear x0 x1 x2
  obtain ⟨x0, x1, x2⟩ := HC.out.three

  go_wp2_with fail
  refine (live15_c _).mono ?_
  rintro e w19 ⟨rfl, hb⟩
  have HBL := hidp (Bgo HB.out hb)
  clear hb
  go_wp2
  go_ret
  exact ⟨rfl, HBL.out⟩

theorem SpanTakes_no (t q s nn : Int) (A : Option Addr) (n c m : Nat) (hq : q ≤ 64) (W : World) (hX : Hid (XCheckIs W t q s A n c m false)) : Calls Tryz.prog 3 #[.agg #[.int .i64 t, .int .i64 q, .int .i64 s], .slice A n c, .int .i64 nn] W (Keeps W) := by
  have t2 : decide (q ≤ (64 : Int)) = true := decide_eq_true (by omega)
  have HC := hidp (Held.new W 23 #[.int .i64 t, .int .i64 q, .int .i64 s])
  have HB := hidp (Bnew (B0 W) (.cells #[.int .i64 t, .int .i64 q, .int .i64 s] 23))
  obtain ⟨x0, x1, x2⟩ := HC.out.three
  go_enter Tryz.func3, Tryz.ntmps3
  go_wp2_with fail
  refine (few14_c t q s _).mono ?_
  rintro e w1 ⟨rfl, hb⟩
  rw [t2]
  replace HC := hidp (HC.out.keep hb)
  replace HB := hidp (Bgo HB.out hb)
  clear hb
  clear x0 x1 x2
  obtain ⟨x0, x1, x2⟩ := HC.out.three
  go_wp2_with fail
  refine (xSound_c t q s A n c m false _ (hX.out.grown HB.out)).mono ?_
  rintro e w2 ⟨rfl, hb⟩
  replace HC := hidp (HC.out.keep hb)
  replace HB := hidp (Bgo HB.out hb)
  clear hb
  clear x0 x1 x2
  obtain ⟨x0, x1, x2⟩ := HC.out.three
  go_wp2_with fail
  refine (live15_c _).mono ?_
  rintro e w19 ⟨rfl, hb⟩
  have HBL := hidp (Bgo HB.out hb)
  clear hb
  go_wp2
  go_ret
  exact ⟨rfl, HBL.out⟩

set_option maxHeartbeats 6400000 in
theorem SpanTakes_main (t q s nn : Int) (A : Option Addr) (c n m : Nat) (vals : List Nat) (HNN : Hid (vals.length = n)) (H32 : Hid (∀ x ∈ vals, x < 2 ^ 32))
    (hn : n ≤ 6238) (hq : q ≤ 64) (hnc : n ≤ c) (hcm : c ≤ maxLen) (W : World) (HR : Hid (Reads W W.heap.size 1 A n (valVs vals))) (hX : Hid (XCheckIs W t q s A n c m true)) :
    Calls Tryz.prog 3 #[.agg #[.int .i64 t, .int .i64 q, .int .i64 s], .slice A n c, .int .i64 nn] W (Keeps W) := by
  have t2 : decide (q ≤ (64 : Int)) = true := decide_eq_true (by omega)
  have hcm2 : c ≤ 9223372036854775807 := hcm
  have HC := hidp (Held.new W 23 #[.int .i64 t, .int .i64 q, .int .i64 s])
  have HB := hidp (Bnew (B0 W) (.cells #[.int .i64 t, .int .i64 q, .int .i64 s] 23))
  obtain ⟨x0, x1, x2⟩ := HC.out.three
  go_enter Tryz.func3, Tryz.ntmps3
  go_wp2_with fail
  refine (few14_c t q s _).mono ?_
  rintro e w1 ⟨rfl, hb⟩
  rw [t2]
  replace HC := hidp (HC.out.keep hb)
  replace HB := hidp (Bgo HB.out hb)
  clear hb
  clear x0 x1 x2
  obtain ⟨x0, x1, x2⟩ := HC.out.three
  go_wp2_with fail
  refine (xSound_c t q s A n c m true _ (hX.out.grown HB.out)).mono ?_
  rintro e w2 ⟨rfl, hb⟩
  replace HC := hidp (HC.out.keep hb)
  replace HB := hidp (Bgo HB.out hb)
  clear hb
  clear x0 x1 x2
  obtain ⟨x0, x1, x2⟩ := HC.out.three
  have HL0 : Hid (W.heap.size < w2.heap.size) := hidp HC.out.lt
  have HWS : Hid (W.heap.size ≤ w2.heap.size) := hidp HB.out.size
  have HR1 : Hid (Reads w2 w2.heap.size 1 A n (valVs vals)) := hidp ((HR.out.below HB.out).more HB.out.size)
  go_wp2_with fail
  refine (Whole_c A c vals n HNN.out (by omega) H32.out _ (by
    intro h0
    obtain ⟨ad', e, _, hc⟩ := HR1.out.2 h0
    exact ⟨ad', e, hc⟩)).mono ?_
  rintro e w3 ⟨b1, o1, rfl, hI, hB⟩
  have HV2 : Hid (IsView w3 w2.heap.size b1 n true o1 (wholeV15 vals) freshS) := hidp hI
  replace HB := hidp (Bgo HB.out hB)
  have HR2 : Hid (Reads w3 w3.heap.size 1 A n (valVs vals)) := hidp ((HR1.out.below hB).more hB.size)
  replace HC := hidp (HC.out.keep hB)
  have HLT : Hid ((W.heap.size) < w2.heap.size) := hidp HL0.out
  have HWZ : Hid (W.heap.size ≤ w2.heap.size) := hidp HWS.out
  clear hI hB HR1
  clear x0 x1 x2
  obtain ⟨x0, x1, x2⟩ := HC.out.three
  go_wp2_with fail
  refine (RWhole_c A c vals n HNN.out (by omega) hnc hcm H32.out _ HR2.out).mono ?_
  rintro e w4 ⟨b2, v2, rfl, hI, hB⟩
  have HV3 := hidp (HV2.out.keep hB)
  have HA3 : Hid (IsRefV w4 w3.heap.size b2 n true v2 (wholeV15 vals) freshS) := hidp hI
  replace HB := hidp (Bgo HB.out hB)
  replace HC := hidp (HC.out.keep hB)
  have HL2 : Hid (∀ i, o1.A b1 i → i < w3.heap.size) := hidp HV2.out.lt
  have HL1 : Hid (w2.heap.size ≤ w3.heap.size) := hidp (by have h1 := HV2.out.head.lt; have h2 := HV2.out.ge b1 (.inl (.inl (.inl rfl))); omega)
  clear hI hB HV2 HR2
  generalize hz1 : w2.heap.size = z1 at *
  generalize hz2 : w3.heap.size = z2 at *
  have HD : Hid (Duo W (vOb z1 b1 n true (wholeV15 vals)) (rOb z2 b2 n true (wholeV15 vals)) (o1.A b1) (OwnF b2 6 v2) (fun g => g = W.heap.size) freshS freshS w4) := hidp ⟨⟨o1, HV3.out, rfl⟩, ⟨v2, HA3.out, rfl⟩, fun i hi hj => by have := HL2.out i hi; have := HA3.out.parts.ge i hj; omega, fun g hg => by
      have hl := HLT.out
      have hl1 := HL1.out
      have hlt := HV3.out.head.lt
      rcases hg with hg
      · subst hg; exact ⟨HC.out.lt, fun x => by have := HV3.out.ge _ x; omega, fun x => by have := HA3.out.parts.ge _ x; omega⟩, fun i hi => by
      have := HWZ.out
      rcases hi with hi | hi
      · have := HV3.out.ge _ hi; omega
      · have := HA3.out.parts.ge _ hi; have := HL1.out; omega, HB.out⟩
  clear HV3 HA3 HL2 HL1 HLT HWZ hz1 hz2
  clear x0 x1 x2
  obtain ⟨x0, x1, x2⟩ := HC.out.three
  obtain ⟨fv, hfv⟩ : ∃ fv, foundI (takeI n (wholeV15 vals) t q s nn freshS).1 = fv := ⟨_, rfl⟩
  obtain ⟨fb, hfb⟩ : ∃ fb, (takeI n (wholeV15 vals) t q s nn freshS).1.isSome = fb := ⟨_, rfl⟩
  obtain ⟨sx, hsx⟩ : ∃ sx, (takeI n (wholeV15 vals) t q s nn freshS).2 = sx := ⟨_, rfl⟩
  have HFV := hidp hfv
  have HFB := hidp hfb
  have HSX := hidp hsx
  clear hfv hfb hsx
  have hvv : (fv == fv) = true := by simp
  have hbb : (fb == fb) = true := by simp
  have hq10 : q ≤ 1024 := by omega
  have hn40 : n < 2 ^ 40 := by omega
  go_wp2_with fail
  refine (snTake_c hn40 hq10 nn HD.out.at1).mono ?_
  rintro e w5 ⟨rfl, h1, _⟩
  obtain ⟨A4, h2, h3⟩ := HD.out.left1 h1.left
  rw [HFV.out, HFB.out]
  rw [HSX.out] at h2
  replace HC := hidp (h3.held rfl HC.out)
  replace HD := hidp h2
  clear h1 h2 h3
  clear x0 x1 x2
  obtain ⟨x0, x1, x2⟩ := HC.out.three
  go_wp2_with fail
  refine (r15Take_c hn40 hq10 nn HD.out.at2).mono ?_
  rintro e w6 ⟨rfl, h1, _⟩
  obtain ⟨A4, h2, h3⟩ := HD.out.left2 h1.left
  rw [HFV.out, HFB.out]
  rw [HSX.out] at h2
  replace HC := hidp (h3.held rfl HC.out)
  replace HD := hidp h2
  clear h1 h2 h3
  clear HFV HFB HSX
  clear x0 x1 x2
  obtain ⟨x0, x1, x2⟩ := HC.out.three
  obtain ⟨o, hI, _⟩ := HD.out.i1
  obtain ⟨v, hR, _⟩ := HD.out.i2
  have HV := hidp hI
  have HAA := hidp hR
  have HB := hidp HD.out.bel
  have HL : Hid (sx.rd.length < 2 ^ 40 ∧ sx.wr.length < 2 ^ 40) := hidp (by have := hI.ok.few; omega)
  clear hI hR HD
  go_wp2_with fail
  refine (vReads_c HL.out.1 _ HV.out).mono ?_
  rintro e w90 ⟨r6, rfl, ho, hb⟩
  have HV := hidp (HV.out.keep hb)
  have HAA := hidp (HAA.out.keep hb)
  have HB := hidp (Bgo HB.out hb)
  have HR6 := hidp (rowV_nat6 ho)
  clear hb ho
  go_wp2_with fail
  refine (vWrites_c HL.out.2 _ HV.out).mono ?_
  rintro e w91 ⟨r7, rfl, ho, hb⟩
  have HV := hidp (HV.out.keep hb)
  have HAA := hidp (HAA.out.keep hb)
  have HB := hidp (Bgo HB.out hb)
  have HP7 := hidp (RowP.of_own ho)
  have HR7 := hidp (HR6.out.below hb)
  clear hb ho HR6
  go_wp2_with fail
  refine (vMissing_c _ HV.out).mono ?_
  rintro e w92 ⟨rfl, hw⟩
  subst hw
  go_wp2_with fail
  refine (Same_c HL.out.1 HL.out.2 r6 r7 _ HAA.out HR7.out HP7.out).mono ?_
  rintro e w93 ⟨rfl, hb⟩
  have HB := hidp (Bgo HB.out hb)
  clear hb HV HAA HR7 HP7
  go_wp2_with fail
  refine (live15_c _).mono ?_
  rintro e w19 ⟨rfl, hb⟩
  have HBL := hidp (Bgo HB.out hb)
  clear hb
  go_wp2
  go_ret
  exact ⟨rfl, HBL.out⟩
theorem SpanTakes_calls (t q s nn : Int) (A : Option Addr) (c : Nat) (vals : List Nat) (hnc : vals.length ≤ c) (hcm : c ≤ maxLen) (h32 : ∀ x ∈ vals, x < 2 ^ 32) (W : World) (HR : Hid (Reads W W.heap.size 1 A vals.length (valVs vals))) :
    Calls Tryz.prog 3 #[.agg #[.int .i64 t, .int .i64 q, .int .i64 s], .slice A vals.length c, .int .i64 nn] W (Keeps W) := by
  by_cases hq : q ≤ 64
  · rcases heap13_or W t q s A c vals hnc hcm h32 HR.out with ⟨m, hX⟩ | ⟨H, ad, m, rfl, rfl, rfl, rfl, hV, HV, hv, hto, hX⟩
    · exact SpanTakes_no t q s nn A _ c m hq W (hidp hX)
    · exact SpanTakes_main _ _ _ nn _ c _ m vals (hidp rfl) (hidp h32) (by have := HV.nums; omega) hq hnc hcm W HR (hidp hX)
  · exact SpanTakes_few t q s nn A _ c 0 (by omega) W
end Go.Proofs.YtnamlhkccgnbfaaGreat

namespace Go.Proofs.YtnamlhkccgnbfaaGreat
open Go.ChangeShapes Go.WideShapes Go.ChangeAt Go.RowKit
set_option linter.unusedVariables false
set_option linter.unusedSimpArgs false

set_option maxRecDepth 100000 in
theorem open_conf {H : Type} {enc : TypeId × Value → H} {W : World} {b base : Nat} {sp : Nat → Bool} {held : Bool} {v : Value} {d : DataW H} {p : List MemPlace}
    (hv : Value.okWide Tryz.prog W .any b 23 v) (h : DataW.Trod enc Tryz.prog W base sp held 23 v d p) :
    ∃ (t q s : Int), v = .agg #[.int .i64 t, .int .i64 q, .int .i64 s] := by
  obtain ⟨v0, v1, v2, y0, y1, y2, m, rfl, rfl, rfl, h0, h1, h2⟩ := Joins.open_agg3 Tryz.underlying23 (by kernel_rfl) (by kernel_rfl) hv h
  obtain ⟨a, e0, _, w0⟩ := DataW.trod_int Tryz.underlying3 h0
  obtain ⟨c, e1, _, w1⟩ := DataW.trod_int Tryz.underlying3 h1
  obtain ⟨k, e2, _, w2⟩ := DataW.trod_int Tryz.underlying3 h2
  simp at e0 e1 e2
  subst e0 e1 e2
  exact ⟨a, c, k, rfl⟩
end Go.Proofs.YtnamlhkccgnbfaaGreat
