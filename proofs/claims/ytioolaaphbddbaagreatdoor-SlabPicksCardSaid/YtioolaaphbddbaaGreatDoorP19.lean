/-
  What the document's Release does. Written by span/gen_doc.py.
-/
import Derived.Test.YtioolaaphbddbaaGreatDoorPSpanRelease
import Derived.Test.YtioolaaphbddbaaGreatDoorP07
import Derived.Test.YtioolaaphbddbaaGreatDoorP16
namespace Go.Proofs.YtioolaaphbddbaaGreatDoor
open Go.ChangeShapes Go.WideShapes Go.ChangeAt Go.RowKit Go.Maps
set_option linter.unusedVariables false
set_option linter.unusedSimpArgs false
set_option maxRecDepth 100000
section
section
variable {base b n : Nat} {wh all : Bool} {K : Nat → Option Nat} {st : Vst} {w w0 : World} {A G : Nat → Prop} {t q s : Int}

theorem wrap32_small {x : Int} (h0 : 0 ≤ x) (h1 : x < 4294967296) : IntKind.u32.wrap x = x := by
  show x % 4294967296 = x
  exact Int.emod_eq_of_lt h0 h1

set_option maxHeartbeats 6400000 in
theorem r15Release_0_off (hn : n < 2 ^ 40) (hq : q ≤ 1024) (p m : Nat) (hp : p ≤ 1024) (hm : m ≤ 1024) (hp0 : p = 0) (hr : ¬ ((p : Int) + (m : Int)) < q) (h : (rOb base b n all K).At w0 A G st w) :
    Calls Tryz.prog 60 #[.pointer (some ⟨b, 0, none⟩), .agg #[.int .i64 t, .int .i64 q, .int .i64 s], .int .i64 (p : Int), .int .i64 (m : Int)] w fun e w' => e = .returned (.tuple #[]) ∧ (rOb base b n all K).At w0 A G (putS n (getS n K (addS n K t q s (p : Int) (m : Int) st) 0) 0 (add32 (getV n K (addS n K t q s (p : Int) (m : Int) st) 0) (m : Int))) w' ∧ Stay G w w' := by
  have W0 := hidp ((WL.start h).new 23 #[.int .i64 t, .int .i64 q, .int .i64 s])
  have t0 : decide ((0 : Int) < (p : Int)) = false := decide_eq_false (by omega)
  have t0n : decide (0 < p) = false := decide_eq_false (by omega)
  have v4 : IntKind.i64.wrap ((p : Int) + (m : Int)) = ((p : Int) + (m : Int)) := i64_same (by omega) (by omega)
  have t1 : decide (((p : Int) + (m : Int)) < q) = false := decide_eq_false hr
  obtain ⟨x, hx⟩ : ∃ x, getV n K (addS n K t q s (p : Int) (m : Int) st) 0 = x := ⟨_, rfl⟩
  rw [hx]
  obtain ⟨y, hy⟩ : ∃ y, add32 x (m : Int) = y := ⟨_, rfl⟩
  rw [hy]
  have HY : Hid (y < 2 ^ 32) := hidp (by rw [← hy]; exact add32_lt x _)
  have sm : IntKind.u32.wrap (m : Int) = (m : Int) := wrap32_small (by omega) (by omega)
  have sa : IntKind.u32.wrap ((x : Int) + (m : Int)) = (y : Int) := by have := wrap_add32 x (m : Int); rw [sm, hy] at this; exact this
  have HX := hidp hx
  clear hx hy
  clear h hp0
  go_enter Tryz.func60, Tryz.ntmps60
  obtain ⟨x0, x1, x2⟩ := W0.out.h0.three
  go_wp2_with fail
  refine (r14Add_c hn (by omega) (p : Int) (m : Int) W0.out.at_).mono ?_; rintro e w1 ⟨rfl, h1, h2⟩; have W1 := hidp (W0.out.call h1 h2); clear h1 h2 W0
  obtain ⟨x0, x1, x2⟩ := W1.out.h0.three
  go_wp2_with fail
  refine (rGetA hn _ W1.out.at_).mono ?_; rintro e w2 ⟨rfl, h1, h2⟩; have W2 := hidp (W1.out.call h1 h2); clear h1 h2 W1; rw [HX.out]
  obtain ⟨x0, x1, x2⟩ := W2.out.h0.three
  go_wp2_with fail
  refine (rPutA hn _ y HY.out W2.out.at_).mono ?_; rintro e w3 ⟨rfl, h1, h2⟩; have W3 := hidp (W2.out.call h1 h2); clear h1 h2 W2
  obtain ⟨x0, x1, x2⟩ := W3.out.h0.three
  go_wp2
  go_end0
  exact ⟨rfl, W3.out.fin⟩

set_option maxHeartbeats 6400000 in
theorem r15Release_0_no (hn : n < 2 ^ 40) (hq : q ≤ 1024) (p m : Nat) (hp : p ≤ 1024) (hm : m ≤ 1024) (hp0 : p = 0) (hr : ((p : Int) + (m : Int)) < q) (k2 l2 c2 : Int) (o2 : Bool) (hi2 : infoOf n K t q s ((p : Int) + (m : Int)) st = (k2, l2, c2, o2)) (hk2 : k2 ≠ 1) (s2 : Vst) (hs2 : (getS n K st (pageI t q s ((p : Int) + (m : Int)) 0)) = s2) (h : (rOb base b n all K).At w0 A G st w) :
    Calls Tryz.prog 60 #[.pointer (some ⟨b, 0, none⟩), .agg #[.int .i64 t, .int .i64 q, .int .i64 s], .int .i64 (p : Int), .int .i64 (m : Int)] w fun e w' => e = .returned (.tuple #[]) ∧ (rOb base b n all K).At w0 A G (putS n (getS n K (addS n K t q s (p : Int) (m : Int) s2) 0) 0 (add32 (getV n K (addS n K t q s (p : Int) (m : Int) s2) 0) (m : Int))) w' ∧ Stay G w w' := by
  have W0 := hidp ((WL.start h).new 23 #[.int .i64 t, .int .i64 q, .int .i64 s])
  have t0 : decide ((0 : Int) < (p : Int)) = false := decide_eq_false (by omega)
  have t0n : decide (0 < p) = false := decide_eq_false (by omega)
  have v4 : IntKind.i64.wrap ((p : Int) + (m : Int)) = ((p : Int) + (m : Int)) := i64_same (by omega) (by omega)
  have t1 : decide (((p : Int) + (m : Int)) < q) = true := decide_eq_true hr
  have HI2 := hidp hi2
  have v5 : IntKind.i64.wrap (((p : Int) + (m : Int)) - 1) = ((p : Int) + (m : Int)) - 1 := i64_same (by omega) (by omega)
  have u2 : (k2 == 1) = false := by simpa using hk2
  have HS2 := hidp hs2
  obtain ⟨x, hx⟩ : ∃ x, getV n K (addS n K t q s (p : Int) (m : Int) s2) 0 = x := ⟨_, rfl⟩
  rw [hx]
  obtain ⟨y, hy⟩ : ∃ y, add32 x (m : Int) = y := ⟨_, rfl⟩
  rw [hy]
  have HY : Hid (y < 2 ^ 32) := hidp (by rw [← hy]; exact add32_lt x _)
  have sm : IntKind.u32.wrap (m : Int) = (m : Int) := wrap32_small (by omega) (by omega)
  have sa : IntKind.u32.wrap ((x : Int) + (m : Int)) = (y : Int) := by have := wrap_add32 x (m : Int); rw [sm, hy] at this; exact this
  have HX := hidp hx
  clear hx hy
  clear h hp0 hi2 hs2
  go_enter Tryz.func60, Tryz.ntmps60
  obtain ⟨x0, x1, x2⟩ := W0.out.h0.three
  go_wp2_with fail
  refine (r14Info_c hn ((p : Int) + (m : Int)) k2 l2 c2 o2 HI2.out W0.out.at_).mono ?_; rintro e w1 ⟨rfl, h1, h2⟩; have W1 := hidp (W0.out.call h1 h2); clear h1 h2 W0; rw [HS2.out] at W1
  generalize hNJ : w1.heap.size = NJ at *
  replace W1 := hidp (W1.out.new 60 #[.int .i64 k2, .int .i64 l2, .int .i64 c2])
  rw [hNJ] at W1
  obtain ⟨j0, j1, j2⟩ := W1.out.h0.three
  obtain ⟨x0, x1, x2⟩ := W1.out.h1.three
  go_wp2_with fail
  refine (r14Add_c hn (by omega) (p : Int) (m : Int) W1.out.at_).mono ?_; rintro e w2 ⟨rfl, h1, h2⟩; have W2 := hidp (W1.out.call h1 h2); clear h1 h2 W1
  obtain ⟨j0, j1, j2⟩ := W2.out.h0.three
  obtain ⟨x0, x1, x2⟩ := W2.out.h1.three
  go_wp2_with fail
  refine (rGetA hn _ W2.out.at_).mono ?_; rintro e w3 ⟨rfl, h1, h2⟩; have W3 := hidp (W2.out.call h1 h2); clear h1 h2 W2; rw [HX.out]
  obtain ⟨j0, j1, j2⟩ := W3.out.h0.three
  obtain ⟨x0, x1, x2⟩ := W3.out.h1.three
  go_wp2_with fail
  refine (rPutA hn _ y HY.out W3.out.at_).mono ?_; rintro e w4 ⟨rfl, h1, h2⟩; have W4 := hidp (W3.out.call h1 h2); clear h1 h2 W3
  obtain ⟨j0, j1, j2⟩ := W4.out.h0.three
  obtain ⟨x0, x1, x2⟩ := W4.out.h1.three
  go_wp2
  go_end0
  exact ⟨rfl, W4.out.fin⟩

set_option maxHeartbeats 6400000 in
theorem r15Release_0_yes (hn : n < 2 ^ 40) (hq : q ≤ 1024) (p m : Nat) (hp : p ≤ 1024) (hm : m ≤ 1024) (hp0 : p = 0) (hr : ((p : Int) + (m : Int)) < q) (k2 l2 c2 : Int) (o2 : Bool) (hi2 : infoOf n K t q s ((p : Int) + (m : Int)) st = (k2, l2, c2, o2)) (hk2 : k2 = 1) (dw : Int) (hdw : dropV n K t q s ((p : Int) + (m : Int)) (getS n K st (pageI t q s ((p : Int) + (m : Int)) 0)) = dw) (he0 : 0 ≤ dw) (he1 : dw ≤ 1024) (s2 : Vst) (hs2 : putS n (putS n (dropS n K t q s ((p : Int) + (m : Int)) (getS n K st (pageI t q s ((p : Int) + (m : Int)) 0))) (pageI t q s ((p : Int) + (m : Int)) 0) 0) (pageI t q s (((p : Int) + (m : Int)) - 1) 1) 0 = s2) (h : (rOb base b n all K).At w0 A G st w) :
    Calls Tryz.prog 60 #[.pointer (some ⟨b, 0, none⟩), .agg #[.int .i64 t, .int .i64 q, .int .i64 s], .int .i64 (p : Int), .int .i64 (m : Int)] w fun e w' => e = .returned (.tuple #[]) ∧ (rOb base b n all K).At w0 A G (putS n (getS n K (addS n K t q s (p : Int) ((m : Int) + dw) s2) 0) 0 (add32 (getV n K (addS n K t q s (p : Int) ((m : Int) + dw) s2) 0) (m : Int))) w' ∧ Stay G w w' := by
  have W0 := hidp ((WL.start h).new 23 #[.int .i64 t, .int .i64 q, .int .i64 s])
  have t0 : decide ((0 : Int) < (p : Int)) = false := decide_eq_false (by omega)
  have t0n : decide (0 < p) = false := decide_eq_false (by omega)
  have v4 : IntKind.i64.wrap ((p : Int) + (m : Int)) = ((p : Int) + (m : Int)) := i64_same (by omega) (by omega)
  have t1 : decide (((p : Int) + (m : Int)) < q) = true := decide_eq_true hr
  have HI2 := hidp hi2
  have v5 : IntKind.i64.wrap (((p : Int) + (m : Int)) - 1) = ((p : Int) + (m : Int)) - 1 := i64_same (by omega) (by omega)
  subst hk2
  have HDW := hidp hdw
  have HS2 := hidp hs2
  have v6 : IntKind.i64.wrap ((m : Int) + dw) = ((m : Int) + dw) := i64_same (by omega) (by omega)
  obtain ⟨x, hx⟩ : ∃ x, getV n K (addS n K t q s (p : Int) ((m : Int) + dw) s2) 0 = x := ⟨_, rfl⟩
  rw [hx]
  obtain ⟨y, hy⟩ : ∃ y, add32 x (m : Int) = y := ⟨_, rfl⟩
  rw [hy]
  have HY : Hid (y < 2 ^ 32) := hidp (by rw [← hy]; exact add32_lt x _)
  have sm : IntKind.u32.wrap (m : Int) = (m : Int) := wrap32_small (by omega) (by omega)
  have sa : IntKind.u32.wrap ((x : Int) + (m : Int)) = (y : Int) := by have := wrap_add32 x (m : Int); rw [sm, hy] at this; exact this
  have HX := hidp hx
  clear hx hy
  clear h hp0 hi2 hs2 hdw
  go_enter Tryz.func60, Tryz.ntmps60
  obtain ⟨x0, x1, x2⟩ := W0.out.h0.three
  go_wp2_with fail
  refine (r14Info_c hn ((p : Int) + (m : Int)) 1 l2 c2 o2 HI2.out W0.out.at_).mono ?_; rintro e w1 ⟨rfl, h1, h2⟩; have W1 := hidp (W0.out.call h1 h2); clear h1 h2 W0
  generalize hNJ : w1.heap.size = NJ at *
  replace W1 := hidp (W1.out.new 60 #[.int .i64 1, .int .i64 l2, .int .i64 c2])
  rw [hNJ] at W1
  obtain ⟨j0, j1, j2⟩ := W1.out.h0.three
  obtain ⟨x0, x1, x2⟩ := W1.out.h1.three
  go_wp2_with fail
  refine (r14Drop_c hn (by omega) ((p : Int) + (m : Int)) W1.out.at_).mono ?_; rintro e w2 ⟨rfl, h1, h2⟩; have W2 := hidp (W1.out.call h1 h2); clear h1 h2 W1; rw [HDW.out]
  obtain ⟨j0, j1, j2⟩ := W2.out.h0.three
  obtain ⟨x0, x1, x2⟩ := W2.out.h1.three
  go_wp2_with fail
  refine (r7Info_c t q s ((p : Int) + (m : Int)) _).mono ?_; rintro e w3 ⟨rfl, hb⟩; have W3 := hidp (W2.out.keep hb); clear hb W2
  obtain ⟨j0, j1, j2⟩ := W3.out.h0.three
  obtain ⟨x0, x1, x2⟩ := W3.out.h1.three
  go_wp2_with fail
  refine (rPutA hn _ 0 (by omega) W3.out.at_).mono ?_; rintro e w4 ⟨rfl, h1, h2⟩; have W4 := hidp (W3.out.call h1 h2); clear h1 h2 W3
  obtain ⟨j0, j1, j2⟩ := W4.out.h0.three
  obtain ⟨x0, x1, x2⟩ := W4.out.h1.three
  go_wp2_with fail
  refine (r7Foot_c t q s (((p : Int) + (m : Int)) - 1) _).mono ?_; rintro e w5 ⟨rfl, hb⟩; have W5 := hidp (W4.out.keep hb); clear hb W4
  obtain ⟨j0, j1, j2⟩ := W5.out.h0.three
  obtain ⟨x0, x1, x2⟩ := W5.out.h1.three
  go_wp2_with fail
  refine (rPutA hn _ 0 (by omega) W5.out.at_).mono ?_; rintro e w6 ⟨rfl, h1, h2⟩; have W6 := hidp (W5.out.call h1 h2); clear h1 h2 W5; rw [HS2.out] at W6
  obtain ⟨j0, j1, j2⟩ := W6.out.h0.three
  obtain ⟨x0, x1, x2⟩ := W6.out.h1.three
  go_wp2_with fail
  refine (r14Add_c hn (by omega) (p : Int) ((m : Int) + dw) W6.out.at_).mono ?_; rintro e w7 ⟨rfl, h1, h2⟩; have W7 := hidp (W6.out.call h1 h2); clear h1 h2 W6
  obtain ⟨j0, j1, j2⟩ := W7.out.h0.three
  obtain ⟨x0, x1, x2⟩ := W7.out.h1.three
  go_wp2_with fail
  refine (rGetA hn _ W7.out.at_).mono ?_; rintro e w8 ⟨rfl, h1, h2⟩; have W8 := hidp (W7.out.call h1 h2); clear h1 h2 W7; rw [HX.out]
  obtain ⟨j0, j1, j2⟩ := W8.out.h0.three
  obtain ⟨x0, x1, x2⟩ := W8.out.h1.three
  go_wp2_with fail
  refine (rPutA hn _ y HY.out W8.out.at_).mono ?_; rintro e w9 ⟨rfl, h1, h2⟩; have W9 := hidp (W8.out.call h1 h2); clear h1 h2 W8
  obtain ⟨j0, j1, j2⟩ := W9.out.h0.three
  obtain ⟨x0, x1, x2⟩ := W9.out.h1.three
  go_wp2
  go_end0
  exact ⟨rfl, W9.out.fin⟩

set_option maxHeartbeats 6400000 in
theorem r15Release_no_off (hn : n < 2 ^ 40) (hq : q ≤ 1024) (p m : Nat) (hp : p ≤ 1024) (hm : m ≤ 1024) (hp0 : p ≠ 0) (f : Nat) (hf : getV n K st (pageI t q s ((p : Int) - 1) 1) = f) (k1 l1 c1 : Int) (o1 : Bool) (hi1 : infoOf n K t q s ((f : Int) - 1) (getS n K st (pageI t q s ((p : Int) - 1) 1)) = (k1, l1, c1, o1)) (hk1 : k1 ≠ 1) (s1 : Vst) (hs1 : (getS n K (getS n K st (pageI t q s ((p : Int) - 1) 1)) (pageI t q s ((f : Int) - 1) 0)) = s1) (hr : ¬ ((p : Int) + (m : Int)) < q) (h : (rOb base b n all K).At w0 A G st w) :
    Calls Tryz.prog 60 #[.pointer (some ⟨b, 0, none⟩), .agg #[.int .i64 t, .int .i64 q, .int .i64 s], .int .i64 (p : Int), .int .i64 (m : Int)] w fun e w' => e = .returned (.tuple #[]) ∧ (rOb base b n all K).At w0 A G (putS n (getS n K (addS n K t q s (p : Int) (m : Int) s1) 0) 0 (add32 (getV n K (addS n K t q s (p : Int) (m : Int) s1) 0) (m : Int))) w' ∧ Stay G w w' := by
  have W0 := hidp ((WL.start h).new 23 #[.int .i64 t, .int .i64 q, .int .i64 s])
  have t0 : decide ((0 : Int) < (p : Int)) = true := decide_eq_true (by omega)
  have hf32 : f < 2 ^ 32 := by rw [← hf]; exact rAt_lt h _
  have HF := hidp hf
  have HI1 := hidp hi1
  have v0 : IntKind.i64.wrap ((p : Int) - 1) = (p : Int) - 1 := i64_same (by omega) (by omega)
  have v1 : IntKind.i64.wrap (f : Int) = (f : Int) := i64_same (by omega) (by omega)
  have v2 : IntKind.i64.wrap ((f : Int) - 1) = (f : Int) - 1 := i64_same (by omega) (by omega)
  have u1 : (k1 == 1) = false := by simpa using hk1
  have HS1 := hidp hs1
  have v4 : IntKind.i64.wrap ((p : Int) + (m : Int)) = ((p : Int) + (m : Int)) := i64_same (by omega) (by omega)
  have t1 : decide (((p : Int) + (m : Int)) < q) = false := decide_eq_false hr
  obtain ⟨x, hx⟩ : ∃ x, getV n K (addS n K t q s (p : Int) (m : Int) s1) 0 = x := ⟨_, rfl⟩
  rw [hx]
  obtain ⟨y, hy⟩ : ∃ y, add32 x (m : Int) = y := ⟨_, rfl⟩
  rw [hy]
  have HY : Hid (y < 2 ^ 32) := hidp (by rw [← hy]; exact add32_lt x _)
  have sm : IntKind.u32.wrap (m : Int) = (m : Int) := wrap32_small (by omega) (by omega)
  have sa : IntKind.u32.wrap ((x : Int) + (m : Int)) = (y : Int) := by have := wrap_add32 x (m : Int); rw [sm, hy] at this; exact this
  have HX := hidp hx
  clear hx hy
  clear h hf hi1 hs1
  go_enter Tryz.func60, Tryz.ntmps60
  obtain ⟨x0, x1, x2⟩ := W0.out.h0.three
  go_wp2_with fail
  refine (r7Foot_c t q s ((p : Int) - 1) _).mono ?_; rintro e w1 ⟨rfl, hb⟩; have W1 := hidp (W0.out.keep hb); clear hb W0
  obtain ⟨x0, x1, x2⟩ := W1.out.h0.three
  go_wp2_with fail
  refine (rGetA hn _ W1.out.at_).mono ?_; rintro e w2 ⟨rfl, h1, h2⟩; have W2 := hidp (W1.out.call h1 h2); clear h1 h2 W1; rw [HF.out]
  obtain ⟨x0, x1, x2⟩ := W2.out.h0.three
  go_wp2_with fail
  refine (r14Info_c hn ((f : Int) - 1) k1 l1 c1 o1 HI1.out W2.out.at_).mono ?_; rintro e w3 ⟨rfl, h1, h2⟩; have W3 := hidp (W2.out.call h1 h2); clear h1 h2 W2; rw [HS1.out] at W3
  generalize hNI : w3.heap.size = NI at *
  replace W3 := hidp (W3.out.new 60 #[.int .i64 k1, .int .i64 l1, .int .i64 c1])
  rw [hNI] at W3
  obtain ⟨i0, i1, i2⟩ := W3.out.h0.three
  obtain ⟨x0, x1, x2⟩ := W3.out.h1.three
  go_wp2_with fail
  refine (r14Add_c hn (by omega) (p : Int) (m : Int) W3.out.at_).mono ?_; rintro e w4 ⟨rfl, h1, h2⟩; have W4 := hidp (W3.out.call h1 h2); clear h1 h2 W3
  obtain ⟨i0, i1, i2⟩ := W4.out.h0.three
  obtain ⟨x0, x1, x2⟩ := W4.out.h1.three
  go_wp2_with fail
  refine (rGetA hn _ W4.out.at_).mono ?_; rintro e w5 ⟨rfl, h1, h2⟩; have W5 := hidp (W4.out.call h1 h2); clear h1 h2 W4; rw [HX.out]
  obtain ⟨i0, i1, i2⟩ := W5.out.h0.three
  obtain ⟨x0, x1, x2⟩ := W5.out.h1.three
  go_wp2_with fail
  refine (rPutA hn _ y HY.out W5.out.at_).mono ?_; rintro e w6 ⟨rfl, h1, h2⟩; have W6 := hidp (W5.out.call h1 h2); clear h1 h2 W5
  obtain ⟨i0, i1, i2⟩ := W6.out.h0.three
  obtain ⟨x0, x1, x2⟩ := W6.out.h1.three
  go_wp2
  go_end0
  exact ⟨rfl, W6.out.fin⟩

set_option maxHeartbeats 6400000 in
theorem r15Release_no_no (hn : n < 2 ^ 40) (hq : q ≤ 1024) (p m : Nat) (hp : p ≤ 1024) (hm : m ≤ 1024) (hp0 : p ≠ 0) (f : Nat) (hf : getV n K st (pageI t q s ((p : Int) - 1) 1) = f) (k1 l1 c1 : Int) (o1 : Bool) (hi1 : infoOf n K t q s ((f : Int) - 1) (getS n K st (pageI t q s ((p : Int) - 1) 1)) = (k1, l1, c1, o1)) (hk1 : k1 ≠ 1) (s1 : Vst) (hs1 : (getS n K (getS n K st (pageI t q s ((p : Int) - 1) 1)) (pageI t q s ((f : Int) - 1) 0)) = s1) (hr : ((p : Int) + (m : Int)) < q) (k2 l2 c2 : Int) (o2 : Bool) (hi2 : infoOf n K t q s ((p : Int) + (m : Int)) s1 = (k2, l2, c2, o2)) (hk2 : k2 ≠ 1) (s2 : Vst) (hs2 : (getS n K s1 (pageI t q s ((p : Int) + (m : Int)) 0)) = s2) (h : (rOb base b n all K).At w0 A G st w) :
    Calls Tryz.prog 60 #[.pointer (some ⟨b, 0, none⟩), .agg #[.int .i64 t, .int .i64 q, .int .i64 s], .int .i64 (p : Int), .int .i64 (m : Int)] w fun e w' => e = .returned (.tuple #[]) ∧ (rOb base b n all K).At w0 A G (putS n (getS n K (addS n K t q s (p : Int) (m : Int) s2) 0) 0 (add32 (getV n K (addS n K t q s (p : Int) (m : Int) s2) 0) (m : Int))) w' ∧ Stay G w w' := by
  have W0 := hidp ((WL.start h).new 23 #[.int .i64 t, .int .i64 q, .int .i64 s])
  have t0 : decide ((0 : Int) < (p : Int)) = true := decide_eq_true (by omega)
  have hf32 : f < 2 ^ 32 := by rw [← hf]; exact rAt_lt h _
  have HF := hidp hf
  have HI1 := hidp hi1
  have v0 : IntKind.i64.wrap ((p : Int) - 1) = (p : Int) - 1 := i64_same (by omega) (by omega)
  have v1 : IntKind.i64.wrap (f : Int) = (f : Int) := i64_same (by omega) (by omega)
  have v2 : IntKind.i64.wrap ((f : Int) - 1) = (f : Int) - 1 := i64_same (by omega) (by omega)
  have u1 : (k1 == 1) = false := by simpa using hk1
  have HS1 := hidp hs1
  have v4 : IntKind.i64.wrap ((p : Int) + (m : Int)) = ((p : Int) + (m : Int)) := i64_same (by omega) (by omega)
  have t1 : decide (((p : Int) + (m : Int)) < q) = true := decide_eq_true hr
  have HI2 := hidp hi2
  have v5 : IntKind.i64.wrap (((p : Int) + (m : Int)) - 1) = ((p : Int) + (m : Int)) - 1 := i64_same (by omega) (by omega)
  have u2 : (k2 == 1) = false := by simpa using hk2
  have HS2 := hidp hs2
  obtain ⟨x, hx⟩ : ∃ x, getV n K (addS n K t q s (p : Int) (m : Int) s2) 0 = x := ⟨_, rfl⟩
  rw [hx]
  obtain ⟨y, hy⟩ : ∃ y, add32 x (m : Int) = y := ⟨_, rfl⟩
  rw [hy]
  have HY : Hid (y < 2 ^ 32) := hidp (by rw [← hy]; exact add32_lt x _)
  have sm : IntKind.u32.wrap (m : Int) = (m : Int) := wrap32_small (by omega) (by omega)
  have sa : IntKind.u32.wrap ((x : Int) + (m : Int)) = (y : Int) := by have := wrap_add32 x (m : Int); rw [sm, hy] at this; exact this
  have HX := hidp hx
  clear hx hy
  clear h hf hi1 hs1 hi2 hs2
  go_enter Tryz.func60, Tryz.ntmps60
  obtain ⟨x0, x1, x2⟩ := W0.out.h0.three
  go_wp2_with fail
  refine (r7Foot_c t q s ((p : Int) - 1) _).mono ?_; rintro e w1 ⟨rfl, hb⟩; have W1 := hidp (W0.out.keep hb); clear hb W0
  obtain ⟨x0, x1, x2⟩ := W1.out.h0.three
  go_wp2_with fail
  refine (rGetA hn _ W1.out.at_).mono ?_; rintro e w2 ⟨rfl, h1, h2⟩; have W2 := hidp (W1.out.call h1 h2); clear h1 h2 W1; rw [HF.out]
  obtain ⟨x0, x1, x2⟩ := W2.out.h0.three
  go_wp2_with fail
  refine (r14Info_c hn ((f : Int) - 1) k1 l1 c1 o1 HI1.out W2.out.at_).mono ?_; rintro e w3 ⟨rfl, h1, h2⟩; have W3 := hidp (W2.out.call h1 h2); clear h1 h2 W2; rw [HS1.out] at W3
  generalize hNI : w3.heap.size = NI at *
  replace W3 := hidp (W3.out.new 60 #[.int .i64 k1, .int .i64 l1, .int .i64 c1])
  rw [hNI] at W3
  obtain ⟨i0, i1, i2⟩ := W3.out.h0.three
  obtain ⟨x0, x1, x2⟩ := W3.out.h1.three
  go_wp2_with fail
  refine (r14Info_c hn ((p : Int) + (m : Int)) k2 l2 c2 o2 HI2.out W3.out.at_).mono ?_; rintro e w4 ⟨rfl, h1, h2⟩; have W4 := hidp (W3.out.call h1 h2); clear h1 h2 W3; rw [HS2.out] at W4
  generalize hNJ : w4.heap.size = NJ at *
  replace W4 := hidp (W4.out.new 60 #[.int .i64 k2, .int .i64 l2, .int .i64 c2])
  rw [hNJ] at W4
  obtain ⟨j0, j1, j2⟩ := W4.out.h0.three
  obtain ⟨i0, i1, i2⟩ := W4.out.h1.three
  obtain ⟨x0, x1, x2⟩ := W4.out.h2.three
  go_wp2_with fail
  refine (r14Add_c hn (by omega) (p : Int) (m : Int) W4.out.at_).mono ?_; rintro e w5 ⟨rfl, h1, h2⟩; have W5 := hidp (W4.out.call h1 h2); clear h1 h2 W4
  obtain ⟨j0, j1, j2⟩ := W5.out.h0.three
  obtain ⟨i0, i1, i2⟩ := W5.out.h1.three
  obtain ⟨x0, x1, x2⟩ := W5.out.h2.three
  go_wp2_with fail
  refine (rGetA hn _ W5.out.at_).mono ?_; rintro e w6 ⟨rfl, h1, h2⟩; have W6 := hidp (W5.out.call h1 h2); clear h1 h2 W5; rw [HX.out]
  obtain ⟨j0, j1, j2⟩ := W6.out.h0.three
  obtain ⟨i0, i1, i2⟩ := W6.out.h1.three
  obtain ⟨x0, x1, x2⟩ := W6.out.h2.three
  go_wp2_with fail
  refine (rPutA hn _ y HY.out W6.out.at_).mono ?_; rintro e w7 ⟨rfl, h1, h2⟩; have W7 := hidp (W6.out.call h1 h2); clear h1 h2 W6
  obtain ⟨j0, j1, j2⟩ := W7.out.h0.three
  obtain ⟨i0, i1, i2⟩ := W7.out.h1.three
  obtain ⟨x0, x1, x2⟩ := W7.out.h2.three
  go_wp2
  go_end0
  exact ⟨rfl, W7.out.fin⟩

set_option maxHeartbeats 6400000 in
theorem r15Release_no_yes (hn : n < 2 ^ 40) (hq : q ≤ 1024) (p m : Nat) (hp : p ≤ 1024) (hm : m ≤ 1024) (hp0 : p ≠ 0) (f : Nat) (hf : getV n K st (pageI t q s ((p : Int) - 1) 1) = f) (k1 l1 c1 : Int) (o1 : Bool) (hi1 : infoOf n K t q s ((f : Int) - 1) (getS n K st (pageI t q s ((p : Int) - 1) 1)) = (k1, l1, c1, o1)) (hk1 : k1 ≠ 1) (s1 : Vst) (hs1 : (getS n K (getS n K st (pageI t q s ((p : Int) - 1) 1)) (pageI t q s ((f : Int) - 1) 0)) = s1) (hr : ((p : Int) + (m : Int)) < q) (k2 l2 c2 : Int) (o2 : Bool) (hi2 : infoOf n K t q s ((p : Int) + (m : Int)) s1 = (k2, l2, c2, o2)) (hk2 : k2 = 1) (dw : Int) (hdw : dropV n K t q s ((p : Int) + (m : Int)) (getS n K s1 (pageI t q s ((p : Int) + (m : Int)) 0)) = dw) (he0 : 0 ≤ dw) (he1 : dw ≤ 1024) (s2 : Vst) (hs2 : putS n (putS n (dropS n K t q s ((p : Int) + (m : Int)) (getS n K s1 (pageI t q s ((p : Int) + (m : Int)) 0))) (pageI t q s ((p : Int) + (m : Int)) 0) 0) (pageI t q s (((p : Int) + (m : Int)) - 1) 1) 0 = s2) (h : (rOb base b n all K).At w0 A G st w) :
    Calls Tryz.prog 60 #[.pointer (some ⟨b, 0, none⟩), .agg #[.int .i64 t, .int .i64 q, .int .i64 s], .int .i64 (p : Int), .int .i64 (m : Int)] w fun e w' => e = .returned (.tuple #[]) ∧ (rOb base b n all K).At w0 A G (putS n (getS n K (addS n K t q s (p : Int) ((m : Int) + dw) s2) 0) 0 (add32 (getV n K (addS n K t q s (p : Int) ((m : Int) + dw) s2) 0) (m : Int))) w' ∧ Stay G w w' := by
  have W0 := hidp ((WL.start h).new 23 #[.int .i64 t, .int .i64 q, .int .i64 s])
  have t0 : decide ((0 : Int) < (p : Int)) = true := decide_eq_true (by omega)
  have hf32 : f < 2 ^ 32 := by rw [← hf]; exact rAt_lt h _
  have HF := hidp hf
  have HI1 := hidp hi1
  have v0 : IntKind.i64.wrap ((p : Int) - 1) = (p : Int) - 1 := i64_same (by omega) (by omega)
  have v1 : IntKind.i64.wrap (f : Int) = (f : Int) := i64_same (by omega) (by omega)
  have v2 : IntKind.i64.wrap ((f : Int) - 1) = (f : Int) - 1 := i64_same (by omega) (by omega)
  have u1 : (k1 == 1) = false := by simpa using hk1
  have HS1 := hidp hs1
  have v4 : IntKind.i64.wrap ((p : Int) + (m : Int)) = ((p : Int) + (m : Int)) := i64_same (by omega) (by omega)
  have t1 : decide (((p : Int) + (m : Int)) < q) = true := decide_eq_true hr
  have HI2 := hidp hi2
  have v5 : IntKind.i64.wrap (((p : Int) + (m : Int)) - 1) = ((p : Int) + (m : Int)) - 1 := i64_same (by omega) (by omega)
  subst hk2
  have HDW := hidp hdw
  have HS2 := hidp hs2
  have v6 : IntKind.i64.wrap ((m : Int) + dw) = ((m : Int) + dw) := i64_same (by omega) (by omega)
  obtain ⟨x, hx⟩ : ∃ x, getV n K (addS n K t q s (p : Int) ((m : Int) + dw) s2) 0 = x := ⟨_, rfl⟩
  rw [hx]
  obtain ⟨y, hy⟩ : ∃ y, add32 x (m : Int) = y := ⟨_, rfl⟩
  rw [hy]
  have HY : Hid (y < 2 ^ 32) := hidp (by rw [← hy]; exact add32_lt x _)
  have sm : IntKind.u32.wrap (m : Int) = (m : Int) := wrap32_small (by omega) (by omega)
  have sa : IntKind.u32.wrap ((x : Int) + (m : Int)) = (y : Int) := by have := wrap_add32 x (m : Int); rw [sm, hy] at this; exact this
  have HX := hidp hx
  clear hx hy
  clear h hf hi1 hs1 hi2 hs2 hdw
  go_enter Tryz.func60, Tryz.ntmps60
  obtain ⟨x0, x1, x2⟩ := W0.out.h0.three
  go_wp2_with fail
  refine (r7Foot_c t q s ((p : Int) - 1) _).mono ?_; rintro e w1 ⟨rfl, hb⟩; have W1 := hidp (W0.out.keep hb); clear hb W0
  obtain ⟨x0, x1, x2⟩ := W1.out.h0.three
  go_wp2_with fail
  refine (rGetA hn _ W1.out.at_).mono ?_; rintro e w2 ⟨rfl, h1, h2⟩; have W2 := hidp (W1.out.call h1 h2); clear h1 h2 W1; rw [HF.out]
  obtain ⟨x0, x1, x2⟩ := W2.out.h0.three
  go_wp2_with fail
  refine (r14Info_c hn ((f : Int) - 1) k1 l1 c1 o1 HI1.out W2.out.at_).mono ?_; rintro e w3 ⟨rfl, h1, h2⟩; have W3 := hidp (W2.out.call h1 h2); clear h1 h2 W2; rw [HS1.out] at W3
  generalize hNI : w3.heap.size = NI at *
  replace W3 := hidp (W3.out.new 60 #[.int .i64 k1, .int .i64 l1, .int .i64 c1])
  rw [hNI] at W3
  obtain ⟨i0, i1, i2⟩ := W3.out.h0.three
  obtain ⟨x0, x1, x2⟩ := W3.out.h1.three
  go_wp2_with fail
  refine (r14Info_c hn ((p : Int) + (m : Int)) 1 l2 c2 o2 HI2.out W3.out.at_).mono ?_; rintro e w4 ⟨rfl, h1, h2⟩; have W4 := hidp (W3.out.call h1 h2); clear h1 h2 W3
  generalize hNJ : w4.heap.size = NJ at *
  replace W4 := hidp (W4.out.new 60 #[.int .i64 1, .int .i64 l2, .int .i64 c2])
  rw [hNJ] at W4
  obtain ⟨j0, j1, j2⟩ := W4.out.h0.three
  obtain ⟨i0, i1, i2⟩ := W4.out.h1.three
  obtain ⟨x0, x1, x2⟩ := W4.out.h2.three
  go_wp2_with fail
  refine (r14Drop_c hn (by omega) ((p : Int) + (m : Int)) W4.out.at_).mono ?_; rintro e w5 ⟨rfl, h1, h2⟩; have W5 := hidp (W4.out.call h1 h2); clear h1 h2 W4; rw [HDW.out]
  obtain ⟨j0, j1, j2⟩ := W5.out.h0.three
  obtain ⟨i0, i1, i2⟩ := W5.out.h1.three
  obtain ⟨x0, x1, x2⟩ := W5.out.h2.three
  go_wp2_with fail
  refine (r7Info_c t q s ((p : Int) + (m : Int)) _).mono ?_; rintro e w6 ⟨rfl, hb⟩; have W6 := hidp (W5.out.keep hb); clear hb W5
  obtain ⟨j0, j1, j2⟩ := W6.out.h0.three
  obtain ⟨i0, i1, i2⟩ := W6.out.h1.three
  obtain ⟨x0, x1, x2⟩ := W6.out.h2.three
  go_wp2_with fail
  refine (rPutA hn _ 0 (by omega) W6.out.at_).mono ?_; rintro e w7 ⟨rfl, h1, h2⟩; have W7 := hidp (W6.out.call h1 h2); clear h1 h2 W6
  obtain ⟨j0, j1, j2⟩ := W7.out.h0.three
  obtain ⟨i0, i1, i2⟩ := W7.out.h1.three
  obtain ⟨x0, x1, x2⟩ := W7.out.h2.three
  go_wp2_with fail
  refine (r7Foot_c t q s (((p : Int) + (m : Int)) - 1) _).mono ?_; rintro e w8 ⟨rfl, hb⟩; have W8 := hidp (W7.out.keep hb); clear hb W7
  obtain ⟨j0, j1, j2⟩ := W8.out.h0.three
  obtain ⟨i0, i1, i2⟩ := W8.out.h1.three
  obtain ⟨x0, x1, x2⟩ := W8.out.h2.three
  go_wp2_with fail
  refine (rPutA hn _ 0 (by omega) W8.out.at_).mono ?_; rintro e w9 ⟨rfl, h1, h2⟩; have W9 := hidp (W8.out.call h1 h2); clear h1 h2 W8; rw [HS2.out] at W9
  obtain ⟨j0, j1, j2⟩ := W9.out.h0.three
  obtain ⟨i0, i1, i2⟩ := W9.out.h1.three
  obtain ⟨x0, x1, x2⟩ := W9.out.h2.three
  go_wp2_with fail
  refine (r14Add_c hn (by omega) (p : Int) ((m : Int) + dw) W9.out.at_).mono ?_; rintro e w10 ⟨rfl, h1, h2⟩; have W10 := hidp (W9.out.call h1 h2); clear h1 h2 W9
  obtain ⟨j0, j1, j2⟩ := W10.out.h0.three
  obtain ⟨i0, i1, i2⟩ := W10.out.h1.three
  obtain ⟨x0, x1, x2⟩ := W10.out.h2.three
  go_wp2_with fail
  refine (rGetA hn _ W10.out.at_).mono ?_; rintro e w11 ⟨rfl, h1, h2⟩; have W11 := hidp (W10.out.call h1 h2); clear h1 h2 W10; rw [HX.out]
  obtain ⟨j0, j1, j2⟩ := W11.out.h0.three
  obtain ⟨i0, i1, i2⟩ := W11.out.h1.three
  obtain ⟨x0, x1, x2⟩ := W11.out.h2.three
  go_wp2_with fail
  refine (rPutA hn _ y HY.out W11.out.at_).mono ?_; rintro e w12 ⟨rfl, h1, h2⟩; have W12 := hidp (W11.out.call h1 h2); clear h1 h2 W11
  obtain ⟨j0, j1, j2⟩ := W12.out.h0.three
  obtain ⟨i0, i1, i2⟩ := W12.out.h1.three
  obtain ⟨x0, x1, x2⟩ := W12.out.h2.three
  go_wp2
  go_end0
  exact ⟨rfl, W12.out.fin⟩

set_option maxHeartbeats 6400000 in
theorem r15Release_yes_off (hn : n < 2 ^ 40) (hq : q ≤ 1024) (p m : Nat) (hp : p ≤ 1024) (hm : m ≤ 1024) (hp0 : p ≠ 0) (f : Nat) (hf : getV n K st (pageI t q s ((p : Int) - 1) 1) = f) (k1 l1 c1 : Int) (o1 : Bool) (hi1 : infoOf n K t q s ((f : Int) - 1) (getS n K st (pageI t q s ((p : Int) - 1) 1)) = (k1, l1, c1, o1)) (hk1 : k1 = 1) (dv : Int) (hdv : dropV n K t q s ((f : Int) - 1) (getS n K (getS n K st (pageI t q s ((p : Int) - 1) 1)) (pageI t q s ((f : Int) - 1) 0)) = dv) (hd0 : 0 ≤ dv) (hd1 : dv ≤ 1024) (s1 : Vst) (hs1 : putS n (putS n (dropS n K t q s ((f : Int) - 1) (getS n K (getS n K st (pageI t q s ((p : Int) - 1) 1)) (pageI t q s ((f : Int) - 1) 0))) (pageI t q s (p : Int) 0) 0) (pageI t q s ((p : Int) - 1) 1) 0 = s1) (hr : ¬ ((p : Int) + (m : Int)) < q) (h : (rOb base b n all K).At w0 A G st w) :
    Calls Tryz.prog 60 #[.pointer (some ⟨b, 0, none⟩), .agg #[.int .i64 t, .int .i64 q, .int .i64 s], .int .i64 (p : Int), .int .i64 (m : Int)] w fun e w' => e = .returned (.tuple #[]) ∧ (rOb base b n all K).At w0 A G (putS n (getS n K (addS n K t q s ((f : Int) - 1) ((m : Int) + dv) s1) 0) 0 (add32 (getV n K (addS n K t q s ((f : Int) - 1) ((m : Int) + dv) s1) 0) (m : Int))) w' ∧ Stay G w w' := by
  have W0 := hidp ((WL.start h).new 23 #[.int .i64 t, .int .i64 q, .int .i64 s])
  have t0 : decide ((0 : Int) < (p : Int)) = true := decide_eq_true (by omega)
  have hf32 : f < 2 ^ 32 := by rw [← hf]; exact rAt_lt h _
  have HF := hidp hf
  have HI1 := hidp hi1
  have v0 : IntKind.i64.wrap ((p : Int) - 1) = (p : Int) - 1 := i64_same (by omega) (by omega)
  have v1 : IntKind.i64.wrap (f : Int) = (f : Int) := i64_same (by omega) (by omega)
  have v2 : IntKind.i64.wrap ((f : Int) - 1) = (f : Int) - 1 := i64_same (by omega) (by omega)
  subst hk1
  have HDV := hidp hdv
  have HS1 := hidp hs1
  have v3 : IntKind.i64.wrap ((m : Int) + dv) = (m : Int) + dv := i64_same (by omega) (by omega)
  have v4 : IntKind.i64.wrap ((p : Int) + (m : Int)) = ((p : Int) + (m : Int)) := i64_same (by omega) (by omega)
  have t1 : decide (((p : Int) + (m : Int)) < q) = false := decide_eq_false hr
  obtain ⟨x, hx⟩ : ∃ x, getV n K (addS n K t q s ((f : Int) - 1) ((m : Int) + dv) s1) 0 = x := ⟨_, rfl⟩
  rw [hx]
  obtain ⟨y, hy⟩ : ∃ y, add32 x (m : Int) = y := ⟨_, rfl⟩
  rw [hy]
  have HY : Hid (y < 2 ^ 32) := hidp (by rw [← hy]; exact add32_lt x _)
  have sm : IntKind.u32.wrap (m : Int) = (m : Int) := wrap32_small (by omega) (by omega)
  have sa : IntKind.u32.wrap ((x : Int) + (m : Int)) = (y : Int) := by have := wrap_add32 x (m : Int); rw [sm, hy] at this; exact this
  have HX := hidp hx
  clear hx hy
  clear h hf hi1 hs1 hdv
  go_enter Tryz.func60, Tryz.ntmps60
  obtain ⟨x0, x1, x2⟩ := W0.out.h0.three
  go_wp2_with fail
  refine (r7Foot_c t q s ((p : Int) - 1) _).mono ?_; rintro e w1 ⟨rfl, hb⟩; have W1 := hidp (W0.out.keep hb); clear hb W0
  obtain ⟨x0, x1, x2⟩ := W1.out.h0.three
  go_wp2_with fail
  refine (rGetA hn _ W1.out.at_).mono ?_; rintro e w2 ⟨rfl, h1, h2⟩; have W2 := hidp (W1.out.call h1 h2); clear h1 h2 W1; rw [HF.out]
  obtain ⟨x0, x1, x2⟩ := W2.out.h0.three
  go_wp2_with fail
  refine (r14Info_c hn ((f : Int) - 1) 1 l1 c1 o1 HI1.out W2.out.at_).mono ?_; rintro e w3 ⟨rfl, h1, h2⟩; have W3 := hidp (W2.out.call h1 h2); clear h1 h2 W2
  generalize hNI : w3.heap.size = NI at *
  replace W3 := hidp (W3.out.new 60 #[.int .i64 1, .int .i64 l1, .int .i64 c1])
  rw [hNI] at W3
  obtain ⟨i0, i1, i2⟩ := W3.out.h0.three
  obtain ⟨x0, x1, x2⟩ := W3.out.h1.three
  go_wp2_with fail
  refine (r14Drop_c hn (by omega) ((f : Int) - 1) W3.out.at_).mono ?_; rintro e w4 ⟨rfl, h1, h2⟩; have W4 := hidp (W3.out.call h1 h2); clear h1 h2 W3; rw [HDV.out]
  obtain ⟨i0, i1, i2⟩ := W4.out.h0.three
  obtain ⟨x0, x1, x2⟩ := W4.out.h1.three
  go_wp2_with fail
  refine (r7Info_c t q s (p : Int) _).mono ?_; rintro e w5 ⟨rfl, hb⟩; have W5 := hidp (W4.out.keep hb); clear hb W4
  obtain ⟨i0, i1, i2⟩ := W5.out.h0.three
  obtain ⟨x0, x1, x2⟩ := W5.out.h1.three
  go_wp2_with fail
  refine (rPutA hn _ 0 (by omega) W5.out.at_).mono ?_; rintro e w6 ⟨rfl, h1, h2⟩; have W6 := hidp (W5.out.call h1 h2); clear h1 h2 W5
  obtain ⟨i0, i1, i2⟩ := W6.out.h0.three
  obtain ⟨x0, x1, x2⟩ := W6.out.h1.three
  go_wp2_with fail
  refine (r7Foot_c t q s ((p : Int) - 1) _).mono ?_; rintro e w7 ⟨rfl, hb⟩; have W7 := hidp (W6.out.keep hb); clear hb W6
  obtain ⟨i0, i1, i2⟩ := W7.out.h0.three
  obtain ⟨x0, x1, x2⟩ := W7.out.h1.three
  go_wp2_with fail
  refine (rPutA hn _ 0 (by omega) W7.out.at_).mono ?_; rintro e w8 ⟨rfl, h1, h2⟩; have W8 := hidp (W7.out.call h1 h2); clear h1 h2 W7; rw [HS1.out] at W8
  obtain ⟨i0, i1, i2⟩ := W8.out.h0.three
  obtain ⟨x0, x1, x2⟩ := W8.out.h1.three
  go_wp2_with fail
  refine (r14Add_c hn (by omega) ((f : Int) - 1) ((m : Int) + dv) W8.out.at_).mono ?_; rintro e w9 ⟨rfl, h1, h2⟩; have W9 := hidp (W8.out.call h1 h2); clear h1 h2 W8
  obtain ⟨i0, i1, i2⟩ := W9.out.h0.three
  obtain ⟨x0, x1, x2⟩ := W9.out.h1.three
  go_wp2_with fail
  refine (rGetA hn _ W9.out.at_).mono ?_; rintro e w10 ⟨rfl, h1, h2⟩; have W10 := hidp (W9.out.call h1 h2); clear h1 h2 W9; rw [HX.out]
  obtain ⟨i0, i1, i2⟩ := W10.out.h0.three
  obtain ⟨x0, x1, x2⟩ := W10.out.h1.three
  go_wp2_with fail
  refine (rPutA hn _ y HY.out W10.out.at_).mono ?_; rintro e w11 ⟨rfl, h1, h2⟩; have W11 := hidp (W10.out.call h1 h2); clear h1 h2 W10
  obtain ⟨i0, i1, i2⟩ := W11.out.h0.three
  obtain ⟨x0, x1, x2⟩ := W11.out.h1.three
  go_wp2
  go_end0
  exact ⟨rfl, W11.out.fin⟩

set_option maxHeartbeats 6400000 in
theorem r15Release_yes_no (hn : n < 2 ^ 40) (hq : q ≤ 1024) (p m : Nat) (hp : p ≤ 1024) (hm : m ≤ 1024) (hp0 : p ≠ 0) (f : Nat) (hf : getV n K st (pageI t q s ((p : Int) - 1) 1) = f) (k1 l1 c1 : Int) (o1 : Bool) (hi1 : infoOf n K t q s ((f : Int) - 1) (getS n K st (pageI t q s ((p : Int) - 1) 1)) = (k1, l1, c1, o1)) (hk1 : k1 = 1) (dv : Int) (hdv : dropV n K t q s ((f : Int) - 1) (getS n K (getS n K st (pageI t q s ((p : Int) - 1) 1)) (pageI t q s ((f : Int) - 1) 0)) = dv) (hd0 : 0 ≤ dv) (hd1 : dv ≤ 1024) (s1 : Vst) (hs1 : putS n (putS n (dropS n K t q s ((f : Int) - 1) (getS n K (getS n K st (pageI t q s ((p : Int) - 1) 1)) (pageI t q s ((f : Int) - 1) 0))) (pageI t q s (p : Int) 0) 0) (pageI t q s ((p : Int) - 1) 1) 0 = s1) (hr : ((p : Int) + (m : Int)) < q) (k2 l2 c2 : Int) (o2 : Bool) (hi2 : infoOf n K t q s ((p : Int) + (m : Int)) s1 = (k2, l2, c2, o2)) (hk2 : k2 ≠ 1) (s2 : Vst) (hs2 : (getS n K s1 (pageI t q s ((p : Int) + (m : Int)) 0)) = s2) (h : (rOb base b n all K).At w0 A G st w) :
    Calls Tryz.prog 60 #[.pointer (some ⟨b, 0, none⟩), .agg #[.int .i64 t, .int .i64 q, .int .i64 s], .int .i64 (p : Int), .int .i64 (m : Int)] w fun e w' => e = .returned (.tuple #[]) ∧ (rOb base b n all K).At w0 A G (putS n (getS n K (addS n K t q s ((f : Int) - 1) ((m : Int) + dv) s2) 0) 0 (add32 (getV n K (addS n K t q s ((f : Int) - 1) ((m : Int) + dv) s2) 0) (m : Int))) w' ∧ Stay G w w' := by
  have W0 := hidp ((WL.start h).new 23 #[.int .i64 t, .int .i64 q, .int .i64 s])
  have t0 : decide ((0 : Int) < (p : Int)) = true := decide_eq_true (by omega)
  have hf32 : f < 2 ^ 32 := by rw [← hf]; exact rAt_lt h _
  have HF := hidp hf
  have HI1 := hidp hi1
  have v0 : IntKind.i64.wrap ((p : Int) - 1) = (p : Int) - 1 := i64_same (by omega) (by omega)
  have v1 : IntKind.i64.wrap (f : Int) = (f : Int) := i64_same (by omega) (by omega)
  have v2 : IntKind.i64.wrap ((f : Int) - 1) = (f : Int) - 1 := i64_same (by omega) (by omega)
  subst hk1
  have HDV := hidp hdv
  have HS1 := hidp hs1
  have v3 : IntKind.i64.wrap ((m : Int) + dv) = (m : Int) + dv := i64_same (by omega) (by omega)
  have v4 : IntKind.i64.wrap ((p : Int) + (m : Int)) = ((p : Int) + (m : Int)) := i64_same (by omega) (by omega)
  have t1 : decide (((p : Int) + (m : Int)) < q) = true := decide_eq_true hr
  have HI2 := hidp hi2
  have v5 : IntKind.i64.wrap (((p : Int) + (m : Int)) - 1) = ((p : Int) + (m : Int)) - 1 := i64_same (by omega) (by omega)
  have u2 : (k2 == 1) = false := by simpa using hk2
  have HS2 := hidp hs2
  obtain ⟨x, hx⟩ : ∃ x, getV n K (addS n K t q s ((f : Int) - 1) ((m : Int) + dv) s2) 0 = x := ⟨_, rfl⟩
  rw [hx]
  obtain ⟨y, hy⟩ : ∃ y, add32 x (m : Int) = y := ⟨_, rfl⟩
  rw [hy]
  have HY : Hid (y < 2 ^ 32) := hidp (by rw [← hy]; exact add32_lt x _)
  have sm : IntKind.u32.wrap (m : Int) = (m : Int) := wrap32_small (by omega) (by omega)
  have sa : IntKind.u32.wrap ((x : Int) + (m : Int)) = (y : Int) := by have := wrap_add32 x (m : Int); rw [sm, hy] at this; exact this
  have HX := hidp hx
  clear hx hy
  clear h hf hi1 hs1 hdv hi2 hs2
  go_enter Tryz.func60, Tryz.ntmps60
  obtain ⟨x0, x1, x2⟩ := W0.out.h0.three
  go_wp2_with fail
  refine (r7Foot_c t q s ((p : Int) - 1) _).mono ?_; rintro e w1 ⟨rfl, hb⟩; have W1 := hidp (W0.out.keep hb); clear hb W0
  obtain ⟨x0, x1, x2⟩ := W1.out.h0.three
  go_wp2_with fail
  refine (rGetA hn _ W1.out.at_).mono ?_; rintro e w2 ⟨rfl, h1, h2⟩; have W2 := hidp (W1.out.call h1 h2); clear h1 h2 W1; rw [HF.out]
  obtain ⟨x0, x1, x2⟩ := W2.out.h0.three
  go_wp2_with fail
  refine (r14Info_c hn ((f : Int) - 1) 1 l1 c1 o1 HI1.out W2.out.at_).mono ?_; rintro e w3 ⟨rfl, h1, h2⟩; have W3 := hidp (W2.out.call h1 h2); clear h1 h2 W2
  generalize hNI : w3.heap.size = NI at *
  replace W3 := hidp (W3.out.new 60 #[.int .i64 1, .int .i64 l1, .int .i64 c1])
  rw [hNI] at W3
  obtain ⟨i0, i1, i2⟩ := W3.out.h0.three
  obtain ⟨x0, x1, x2⟩ := W3.out.h1.three
  go_wp2_with fail
  refine (r14Drop_c hn (by omega) ((f : Int) - 1) W3.out.at_).mono ?_; rintro e w4 ⟨rfl, h1, h2⟩; have W4 := hidp (W3.out.call h1 h2); clear h1 h2 W3; rw [HDV.out]
  obtain ⟨i0, i1, i2⟩ := W4.out.h0.three
  obtain ⟨x0, x1, x2⟩ := W4.out.h1.three
  go_wp2_with fail
  refine (r7Info_c t q s (p : Int) _).mono ?_; rintro e w5 ⟨rfl, hb⟩; have W5 := hidp (W4.out.keep hb); clear hb W4
  obtain ⟨i0, i1, i2⟩ := W5.out.h0.three
  obtain ⟨x0, x1, x2⟩ := W5.out.h1.three
  go_wp2_with fail
  refine (rPutA hn _ 0 (by omega) W5.out.at_).mono ?_; rintro e w6 ⟨rfl, h1, h2⟩; have W6 := hidp (W5.out.call h1 h2); clear h1 h2 W5
  obtain ⟨i0, i1, i2⟩ := W6.out.h0.three
  obtain ⟨x0, x1, x2⟩ := W6.out.h1.three
  go_wp2_with fail
  refine (r7Foot_c t q s ((p : Int) - 1) _).mono ?_; rintro e w7 ⟨rfl, hb⟩; have W7 := hidp (W6.out.keep hb); clear hb W6
  obtain ⟨i0, i1, i2⟩ := W7.out.h0.three
  obtain ⟨x0, x1, x2⟩ := W7.out.h1.three
  go_wp2_with fail
  refine (rPutA hn _ 0 (by omega) W7.out.at_).mono ?_; rintro e w8 ⟨rfl, h1, h2⟩; have W8 := hidp (W7.out.call h1 h2); clear h1 h2 W7; rw [HS1.out] at W8
  obtain ⟨i0, i1, i2⟩ := W8.out.h0.three
  obtain ⟨x0, x1, x2⟩ := W8.out.h1.three
  go_wp2_with fail
  refine (r14Info_c hn ((p : Int) + (m : Int)) k2 l2 c2 o2 HI2.out W8.out.at_).mono ?_; rintro e w9 ⟨rfl, h1, h2⟩; have W9 := hidp (W8.out.call h1 h2); clear h1 h2 W8; rw [HS2.out] at W9
  generalize hNJ : w9.heap.size = NJ at *
  replace W9 := hidp (W9.out.new 60 #[.int .i64 k2, .int .i64 l2, .int .i64 c2])
  rw [hNJ] at W9
  obtain ⟨j0, j1, j2⟩ := W9.out.h0.three
  obtain ⟨i0, i1, i2⟩ := W9.out.h1.three
  obtain ⟨x0, x1, x2⟩ := W9.out.h2.three
  go_wp2_with fail
  refine (r14Add_c hn (by omega) ((f : Int) - 1) ((m : Int) + dv) W9.out.at_).mono ?_; rintro e w10 ⟨rfl, h1, h2⟩; have W10 := hidp (W9.out.call h1 h2); clear h1 h2 W9
  obtain ⟨j0, j1, j2⟩ := W10.out.h0.three
  obtain ⟨i0, i1, i2⟩ := W10.out.h1.three
  obtain ⟨x0, x1, x2⟩ := W10.out.h2.three
  go_wp2_with fail
  refine (rGetA hn _ W10.out.at_).mono ?_; rintro e w11 ⟨rfl, h1, h2⟩; have W11 := hidp (W10.out.call h1 h2); clear h1 h2 W10; rw [HX.out]
  obtain ⟨j0, j1, j2⟩ := W11.out.h0.three
  obtain ⟨i0, i1, i2⟩ := W11.out.h1.three
  obtain ⟨x0, x1, x2⟩ := W11.out.h2.three
  go_wp2_with fail
  refine (rPutA hn _ y HY.out W11.out.at_).mono ?_; rintro e w12 ⟨rfl, h1, h2⟩; have W12 := hidp (W11.out.call h1 h2); clear h1 h2 W11
  obtain ⟨j0, j1, j2⟩ := W12.out.h0.three
  obtain ⟨i0, i1, i2⟩ := W12.out.h1.three
  obtain ⟨x0, x1, x2⟩ := W12.out.h2.three
  go_wp2
  go_end0
  exact ⟨rfl, W12.out.fin⟩

set_option maxHeartbeats 6400000 in
theorem r15Release_yes_yes (hn : n < 2 ^ 40) (hq : q ≤ 1024) (p m : Nat) (hp : p ≤ 1024) (hm : m ≤ 1024) (hp0 : p ≠ 0) (f : Nat) (hf : getV n K st (pageI t q s ((p : Int) - 1) 1) = f) (k1 l1 c1 : Int) (o1 : Bool) (hi1 : infoOf n K t q s ((f : Int) - 1) (getS n K st (pageI t q s ((p : Int) - 1) 1)) = (k1, l1, c1, o1)) (hk1 : k1 = 1) (dv : Int) (hdv : dropV n K t q s ((f : Int) - 1) (getS n K (getS n K st (pageI t q s ((p : Int) - 1) 1)) (pageI t q s ((f : Int) - 1) 0)) = dv) (hd0 : 0 ≤ dv) (hd1 : dv ≤ 1024) (s1 : Vst) (hs1 : putS n (putS n (dropS n K t q s ((f : Int) - 1) (getS n K (getS n K st (pageI t q s ((p : Int) - 1) 1)) (pageI t q s ((f : Int) - 1) 0))) (pageI t q s (p : Int) 0) 0) (pageI t q s ((p : Int) - 1) 1) 0 = s1) (hr : ((p : Int) + (m : Int)) < q) (k2 l2 c2 : Int) (o2 : Bool) (hi2 : infoOf n K t q s ((p : Int) + (m : Int)) s1 = (k2, l2, c2, o2)) (hk2 : k2 = 1) (dw : Int) (hdw : dropV n K t q s ((p : Int) + (m : Int)) (getS n K s1 (pageI t q s ((p : Int) + (m : Int)) 0)) = dw) (he0 : 0 ≤ dw) (he1 : dw ≤ 1024) (s2 : Vst) (hs2 : putS n (putS n (dropS n K t q s ((p : Int) + (m : Int)) (getS n K s1 (pageI t q s ((p : Int) + (m : Int)) 0))) (pageI t q s ((p : Int) + (m : Int)) 0) 0) (pageI t q s (((p : Int) + (m : Int)) - 1) 1) 0 = s2) (h : (rOb base b n all K).At w0 A G st w) :
    Calls Tryz.prog 60 #[.pointer (some ⟨b, 0, none⟩), .agg #[.int .i64 t, .int .i64 q, .int .i64 s], .int .i64 (p : Int), .int .i64 (m : Int)] w fun e w' => e = .returned (.tuple #[]) ∧ (rOb base b n all K).At w0 A G (putS n (getS n K (addS n K t q s ((f : Int) - 1) (((m : Int) + dv) + dw) s2) 0) 0 (add32 (getV n K (addS n K t q s ((f : Int) - 1) (((m : Int) + dv) + dw) s2) 0) (m : Int))) w' ∧ Stay G w w' := by
  have W0 := hidp ((WL.start h).new 23 #[.int .i64 t, .int .i64 q, .int .i64 s])
  have t0 : decide ((0 : Int) < (p : Int)) = true := decide_eq_true (by omega)
  have hf32 : f < 2 ^ 32 := by rw [← hf]; exact rAt_lt h _
  have HF := hidp hf
  have HI1 := hidp hi1
  have v0 : IntKind.i64.wrap ((p : Int) - 1) = (p : Int) - 1 := i64_same (by omega) (by omega)
  have v1 : IntKind.i64.wrap (f : Int) = (f : Int) := i64_same (by omega) (by omega)
  have v2 : IntKind.i64.wrap ((f : Int) - 1) = (f : Int) - 1 := i64_same (by omega) (by omega)
  subst hk1
  have HDV := hidp hdv
  have HS1 := hidp hs1
  have v3 : IntKind.i64.wrap ((m : Int) + dv) = (m : Int) + dv := i64_same (by omega) (by omega)
  have v4 : IntKind.i64.wrap ((p : Int) + (m : Int)) = ((p : Int) + (m : Int)) := i64_same (by omega) (by omega)
  have t1 : decide (((p : Int) + (m : Int)) < q) = true := decide_eq_true hr
  have HI2 := hidp hi2
  have v5 : IntKind.i64.wrap (((p : Int) + (m : Int)) - 1) = ((p : Int) + (m : Int)) - 1 := i64_same (by omega) (by omega)
  subst hk2
  have HDW := hidp hdw
  have HS2 := hidp hs2
  have v6 : IntKind.i64.wrap (((m : Int) + dv) + dw) = (((m : Int) + dv) + dw) := i64_same (by omega) (by omega)
  obtain ⟨x, hx⟩ : ∃ x, getV n K (addS n K t q s ((f : Int) - 1) (((m : Int) + dv) + dw) s2) 0 = x := ⟨_, rfl⟩
  rw [hx]
  obtain ⟨y, hy⟩ : ∃ y, add32 x (m : Int) = y := ⟨_, rfl⟩
  rw [hy]
  have HY : Hid (y < 2 ^ 32) := hidp (by rw [← hy]; exact add32_lt x _)
  have sm : IntKind.u32.wrap (m : Int) = (m : Int) := wrap32_small (by omega) (by omega)
  have sa : IntKind.u32.wrap ((x : Int) + (m : Int)) = (y : Int) := by have := wrap_add32 x (m : Int); rw [sm, hy] at this; exact this
  have HX := hidp hx
  clear hx hy
  clear h hf hi1 hs1 hdv hi2 hs2 hdw
  go_enter Tryz.func60, Tryz.ntmps60
  obtain ⟨x0, x1, x2⟩ := W0.out.h0.three
  go_wp2_with fail
  refine (r7Foot_c t q s ((p : Int) - 1) _).mono ?_; rintro e w1 ⟨rfl, hb⟩; have W1 := hidp (W0.out.keep hb); clear hb W0
  obtain ⟨x0, x1, x2⟩ := W1.out.h0.three
  go_wp2_with fail
  refine (rGetA hn _ W1.out.at_).mono ?_; rintro e w2 ⟨rfl, h1, h2⟩; have W2 := hidp (W1.out.call h1 h2); clear h1 h2 W1; rw [HF.out]
  obtain ⟨x0, x1, x2⟩ := W2.out.h0.three
  go_wp2_with fail
  refine (r14Info_c hn ((f : Int) - 1) 1 l1 c1 o1 HI1.out W2.out.at_).mono ?_; rintro e w3 ⟨rfl, h1, h2⟩; have W3 := hidp (W2.out.call h1 h2); clear h1 h2 W2
  generalize hNI : w3.heap.size = NI at *
  replace W3 := hidp (W3.out.new 60 #[.int .i64 1, .int .i64 l1, .int .i64 c1])
  rw [hNI] at W3
  obtain ⟨i0, i1, i2⟩ := W3.out.h0.three
  obtain ⟨x0, x1, x2⟩ := W3.out.h1.three
  go_wp2_with fail
  refine (r14Drop_c hn (by omega) ((f : Int) - 1) W3.out.at_).mono ?_; rintro e w4 ⟨rfl, h1, h2⟩; have W4 := hidp (W3.out.call h1 h2); clear h1 h2 W3; rw [HDV.out]
  obtain ⟨i0, i1, i2⟩ := W4.out.h0.three
  obtain ⟨x0, x1, x2⟩ := W4.out.h1.three
  go_wp2_with fail
  refine (r7Info_c t q s (p : Int) _).mono ?_; rintro e w5 ⟨rfl, hb⟩; have W5 := hidp (W4.out.keep hb); clear hb W4
  obtain ⟨i0, i1, i2⟩ := W5.out.h0.three
  obtain ⟨x0, x1, x2⟩ := W5.out.h1.three
  go_wp2_with fail
  refine (rPutA hn _ 0 (by omega) W5.out.at_).mono ?_; rintro e w6 ⟨rfl, h1, h2⟩; have W6 := hidp (W5.out.call h1 h2); clear h1 h2 W5
  obtain ⟨i0, i1, i2⟩ := W6.out.h0.three
  obtain ⟨x0, x1, x2⟩ := W6.out.h1.three
  go_wp2_with fail
  refine (r7Foot_c t q s ((p : Int) - 1) _).mono ?_; rintro e w7 ⟨rfl, hb⟩; have W7 := hidp (W6.out.keep hb); clear hb W6
  obtain ⟨i0, i1, i2⟩ := W7.out.h0.three
  obtain ⟨x0, x1, x2⟩ := W7.out.h1.three
  go_wp2_with fail
  refine (rPutA hn _ 0 (by omega) W7.out.at_).mono ?_; rintro e w8 ⟨rfl, h1, h2⟩; have W8 := hidp (W7.out.call h1 h2); clear h1 h2 W7; rw [HS1.out] at W8
  obtain ⟨i0, i1, i2⟩ := W8.out.h0.three
  obtain ⟨x0, x1, x2⟩ := W8.out.h1.three
  go_wp2_with fail
  refine (r14Info_c hn ((p : Int) + (m : Int)) 1 l2 c2 o2 HI2.out W8.out.at_).mono ?_; rintro e w9 ⟨rfl, h1, h2⟩; have W9 := hidp (W8.out.call h1 h2); clear h1 h2 W8
  generalize hNJ : w9.heap.size = NJ at *
  replace W9 := hidp (W9.out.new 60 #[.int .i64 1, .int .i64 l2, .int .i64 c2])
  rw [hNJ] at W9
  obtain ⟨j0, j1, j2⟩ := W9.out.h0.three
  obtain ⟨i0, i1, i2⟩ := W9.out.h1.three
  obtain ⟨x0, x1, x2⟩ := W9.out.h2.three
  go_wp2_with fail
  refine (r14Drop_c hn (by omega) ((p : Int) + (m : Int)) W9.out.at_).mono ?_; rintro e w10 ⟨rfl, h1, h2⟩; have W10 := hidp (W9.out.call h1 h2); clear h1 h2 W9; rw [HDW.out]
  obtain ⟨j0, j1, j2⟩ := W10.out.h0.three
  obtain ⟨i0, i1, i2⟩ := W10.out.h1.three
  obtain ⟨x0, x1, x2⟩ := W10.out.h2.three
  go_wp2_with fail
  refine (r7Info_c t q s ((p : Int) + (m : Int)) _).mono ?_; rintro e w11 ⟨rfl, hb⟩; have W11 := hidp (W10.out.keep hb); clear hb W10
  obtain ⟨j0, j1, j2⟩ := W11.out.h0.three
  obtain ⟨i0, i1, i2⟩ := W11.out.h1.three
  obtain ⟨x0, x1, x2⟩ := W11.out.h2.three
  go_wp2_with fail
  refine (rPutA hn _ 0 (by omega) W11.out.at_).mono ?_; rintro e w12 ⟨rfl, h1, h2⟩; have W12 := hidp (W11.out.call h1 h2); clear h1 h2 W11
  obtain ⟨j0, j1, j2⟩ := W12.out.h0.three
  obtain ⟨i0, i1, i2⟩ := W12.out.h1.three
  obtain ⟨x0, x1, x2⟩ := W12.out.h2.three
  go_wp2_with fail
  refine (r7Foot_c t q s (((p : Int) + (m : Int)) - 1) _).mono ?_; rintro e w13 ⟨rfl, hb⟩; have W13 := hidp (W12.out.keep hb); clear hb W12
  obtain ⟨j0, j1, j2⟩ := W13.out.h0.three
  obtain ⟨i0, i1, i2⟩ := W13.out.h1.three
  obtain ⟨x0, x1, x2⟩ := W13.out.h2.three
  go_wp2_with fail
  refine (rPutA hn _ 0 (by omega) W13.out.at_).mono ?_; rintro e w14 ⟨rfl, h1, h2⟩; have W14 := hidp (W13.out.call h1 h2); clear h1 h2 W13; rw [HS2.out] at W14
  obtain ⟨j0, j1, j2⟩ := W14.out.h0.three
  obtain ⟨i0, i1, i2⟩ := W14.out.h1.three
  obtain ⟨x0, x1, x2⟩ := W14.out.h2.three
  go_wp2_with fail
  refine (r14Add_c hn (by omega) ((f : Int) - 1) (((m : Int) + dv) + dw) W14.out.at_).mono ?_; rintro e w15 ⟨rfl, h1, h2⟩; have W15 := hidp (W14.out.call h1 h2); clear h1 h2 W14
  obtain ⟨j0, j1, j2⟩ := W15.out.h0.three
  obtain ⟨i0, i1, i2⟩ := W15.out.h1.three
  obtain ⟨x0, x1, x2⟩ := W15.out.h2.three
  go_wp2_with fail
  refine (rGetA hn _ W15.out.at_).mono ?_; rintro e w16 ⟨rfl, h1, h2⟩; have W16 := hidp (W15.out.call h1 h2); clear h1 h2 W15; rw [HX.out]
  obtain ⟨j0, j1, j2⟩ := W16.out.h0.three
  obtain ⟨i0, i1, i2⟩ := W16.out.h1.three
  obtain ⟨x0, x1, x2⟩ := W16.out.h2.three
  go_wp2_with fail
  refine (rPutA hn _ y HY.out W16.out.at_).mono ?_; rintro e w17 ⟨rfl, h1, h2⟩; have W17 := hidp (W16.out.call h1 h2); clear h1 h2 W16
  obtain ⟨j0, j1, j2⟩ := W17.out.h0.three
  obtain ⟨i0, i1, i2⟩ := W17.out.h1.three
  obtain ⟨x0, x1, x2⟩ := W17.out.h2.three
  go_wp2
  go_end0
  exact ⟨rfl, W17.out.fin⟩

theorem r15Release_c (hn : n < 2 ^ 40) (hq : q ≤ 1024) (p m : Nat) (hp : p ≤ 1024) (hm : m ≤ 1024) (h : (rOb base b n all K).At w0 A G st w) :
    Calls Tryz.prog 60 #[.pointer (some ⟨b, 0, none⟩), .agg #[.int .i64 t, .int .i64 q, .int .i64 s], .int .i64 (p : Int), .int .i64 (m : Int)] w fun e w' => e = .returned (.tuple #[]) ∧ (rOb base b n all K).At w0 A G (releaseS n K t q s p m st) w' ∧ Stay G w w' := by
  by_cases h0 : p = 0
  · by_cases hr : ((p : Int) + (m : Int)) < q
    · obtain ⟨⟨k2, l2, c2, o2⟩, hi2⟩ : ∃ x, infoOf n K t q s ((p : Int) + (m : Int)) st = x := ⟨_, rfl⟩
      by_cases h2 : k2 = 1
      · have d2 := dropV_few (n := n) (K := K) (t := t) (q := q) (s := s) ((p : Int) + (m : Int)) (getS n K st (pageI t q s ((p : Int) + (m : Int)) 0))
        have hR := relR_yes (n := n) (K := K) (t := t) (q := q) (s := s) (r := p + m) (st := st) (by rw [Int.natCast_add]; exact hr) (by rw [Int.natCast_add, hi2]; exact h2)
        rw [Int.natCast_add] at hR
        rw [releaseS_of (relL_zero h0) hR (x := (m : Int) + dropV n K t q s ((p : Int) + (m : Int)) (getS n K st (pageI t q s ((p : Int) + (m : Int)) 0))) (by omega)]
        exact r15Release_0_yes hn hq p m hp hm h0 hr k2 l2 c2 o2 hi2 h2 _ rfl d2.1 d2.2 _ rfl h
      · have hR := relR_no (n := n) (K := K) (t := t) (q := q) (s := s) (r := p + m) (st := st) (by rw [Int.natCast_add]; exact hr) (by rw [Int.natCast_add, hi2]; exact h2)
        rw [Int.natCast_add] at hR
        rw [releaseS_of (relL_zero h0) hR (x := (m : Int)) (by omega)]
        exact r15Release_0_no hn hq p m hp hm h0 hr k2 l2 c2 o2 hi2 h2 _ rfl h
    · have hR := relR_off (n := n) (K := K) (t := t) (q := q) (s := s) (r := p + m) (st := st) (by rw [Int.natCast_add]; exact hr)
      rw [releaseS_of (relL_zero h0) hR (x := (m : Int)) (by omega)]
      exact r15Release_0_off hn hq p m hp hm h0 hr h
  · obtain ⟨f, hf⟩ : ∃ f, getV n K st (pageI t q s ((p : Int) - 1) 1) = f := ⟨_, rfl⟩
    obtain ⟨⟨k1, l1, c1, o1⟩, hi1⟩ : ∃ x, infoOf n K t q s ((f : Int) - 1) (getS n K st (pageI t q s ((p : Int) - 1) 1)) = x := ⟨_, rfl⟩
    by_cases h1 : k1 = 1
    · have d1 := dropV_few (n := n) (K := K) (t := t) (q := q) (s := s) ((f : Int) - 1) (getS n K (getS n K st (pageI t q s ((p : Int) - 1) 1)) (pageI t q s ((f : Int) - 1) 0))
      by_cases hr : ((p : Int) + (m : Int)) < q
      · obtain ⟨⟨k2, l2, c2, o2⟩, hi2⟩ : ∃ x, infoOf n K t q s ((p : Int) + (m : Int)) (putS n (putS n (dropS n K t q s ((f : Int) - 1) (getS n K (getS n K st (pageI t q s ((p : Int) - 1) 1)) (pageI t q s ((f : Int) - 1) 0))) (pageI t q s (p : Int) 0) 0) (pageI t q s ((p : Int) - 1) 1) 0) = x := ⟨_, rfl⟩
        by_cases h2 : k2 = 1
        · have d2 := dropV_few (n := n) (K := K) (t := t) (q := q) (s := s) ((p : Int) + (m : Int)) (getS n K (putS n (putS n (dropS n K t q s ((f : Int) - 1) (getS n K (getS n K st (pageI t q s ((p : Int) - 1) 1)) (pageI t q s ((f : Int) - 1) 0))) (pageI t q s (p : Int) 0) 0) (pageI t q s ((p : Int) - 1) 1) 0) (pageI t q s ((p : Int) + (m : Int)) 0))
          have hR := relR_yes (n := n) (K := K) (t := t) (q := q) (s := s) (r := p + m) (st := (putS n (putS n (dropS n K t q s ((f : Int) - 1) (getS n K (getS n K st (pageI t q s ((p : Int) - 1) 1)) (pageI t q s ((f : Int) - 1) 0))) (pageI t q s (p : Int) 0) 0) (pageI t q s ((p : Int) - 1) 1) 0)) (by rw [Int.natCast_add]; exact hr) (by rw [Int.natCast_add, hi2]; exact h2)
          rw [Int.natCast_add] at hR
          rw [releaseS_of (relL_yes h0 hf (by rw [hi1]; exact h1)) hR (x := ((m : Int) + dropV n K t q s ((f : Int) - 1) (getS n K (getS n K st (pageI t q s ((p : Int) - 1) 1)) (pageI t q s ((f : Int) - 1) 0))) + dropV n K t q s ((p : Int) + (m : Int)) (getS n K (putS n (putS n (dropS n K t q s ((f : Int) - 1) (getS n K (getS n K st (pageI t q s ((p : Int) - 1) 1)) (pageI t q s ((f : Int) - 1) 0))) (pageI t q s (p : Int) 0) 0) (pageI t q s ((p : Int) - 1) 1) 0) (pageI t q s ((p : Int) + (m : Int)) 0))) (by omega)]
          exact r15Release_yes_yes hn hq p m hp hm h0 f hf k1 l1 c1 o1 hi1 h1 _ rfl d1.1 d1.2 _ rfl hr k2 l2 c2 o2 hi2 h2 _ rfl d2.1 d2.2 _ rfl h
        · have hR := relR_no (n := n) (K := K) (t := t) (q := q) (s := s) (r := p + m) (st := (putS n (putS n (dropS n K t q s ((f : Int) - 1) (getS n K (getS n K st (pageI t q s ((p : Int) - 1) 1)) (pageI t q s ((f : Int) - 1) 0))) (pageI t q s (p : Int) 0) 0) (pageI t q s ((p : Int) - 1) 1) 0)) (by rw [Int.natCast_add]; exact hr) (by rw [Int.natCast_add, hi2]; exact h2)
          rw [Int.natCast_add] at hR
          rw [releaseS_of (relL_yes h0 hf (by rw [hi1]; exact h1)) hR (x := ((m : Int) + dropV n K t q s ((f : Int) - 1) (getS n K (getS n K st (pageI t q s ((p : Int) - 1) 1)) (pageI t q s ((f : Int) - 1) 0)))) (by omega)]
          exact r15Release_yes_no hn hq p m hp hm h0 f hf k1 l1 c1 o1 hi1 h1 _ rfl d1.1 d1.2 _ rfl hr k2 l2 c2 o2 hi2 h2 _ rfl h
      · have hR := relR_off (n := n) (K := K) (t := t) (q := q) (s := s) (r := p + m) (st := (putS n (putS n (dropS n K t q s ((f : Int) - 1) (getS n K (getS n K st (pageI t q s ((p : Int) - 1) 1)) (pageI t q s ((f : Int) - 1) 0))) (pageI t q s (p : Int) 0) 0) (pageI t q s ((p : Int) - 1) 1) 0)) (by rw [Int.natCast_add]; exact hr)
        rw [releaseS_of (relL_yes h0 hf (by rw [hi1]; exact h1)) hR (x := ((m : Int) + dropV n K t q s ((f : Int) - 1) (getS n K (getS n K st (pageI t q s ((p : Int) - 1) 1)) (pageI t q s ((f : Int) - 1) 0)))) (by omega)]
        exact r15Release_yes_off hn hq p m hp hm h0 f hf k1 l1 c1 o1 hi1 h1 _ rfl d1.1 d1.2 _ rfl hr h
    · by_cases hr : ((p : Int) + (m : Int)) < q
      · obtain ⟨⟨k2, l2, c2, o2⟩, hi2⟩ : ∃ x, infoOf n K t q s ((p : Int) + (m : Int)) (getS n K (getS n K st (pageI t q s ((p : Int) - 1) 1)) (pageI t q s ((f : Int) - 1) 0)) = x := ⟨_, rfl⟩
        by_cases h2 : k2 = 1
        · have d2 := dropV_few (n := n) (K := K) (t := t) (q := q) (s := s) ((p : Int) + (m : Int)) (getS n K (getS n K (getS n K st (pageI t q s ((p : Int) - 1) 1)) (pageI t q s ((f : Int) - 1) 0)) (pageI t q s ((p : Int) + (m : Int)) 0))
          have hR := relR_yes (n := n) (K := K) (t := t) (q := q) (s := s) (r := p + m) (st := (getS n K (getS n K st (pageI t q s ((p : Int) - 1) 1)) (pageI t q s ((f : Int) - 1) 0))) (by rw [Int.natCast_add]; exact hr) (by rw [Int.natCast_add, hi2]; exact h2)
          rw [Int.natCast_add] at hR
          rw [releaseS_of (relL_no h0 hf (by rw [hi1]; exact h1)) hR (x := (m : Int) + dropV n K t q s ((p : Int) + (m : Int)) (getS n K (getS n K (getS n K st (pageI t q s ((p : Int) - 1) 1)) (pageI t q s ((f : Int) - 1) 0)) (pageI t q s ((p : Int) + (m : Int)) 0))) (by omega)]
          exact r15Release_no_yes hn hq p m hp hm h0 f hf k1 l1 c1 o1 hi1 h1 _ rfl hr k2 l2 c2 o2 hi2 h2 _ rfl d2.1 d2.2 _ rfl h
        · have hR := relR_no (n := n) (K := K) (t := t) (q := q) (s := s) (r := p + m) (st := (getS n K (getS n K st (pageI t q s ((p : Int) - 1) 1)) (pageI t q s ((f : Int) - 1) 0))) (by rw [Int.natCast_add]; exact hr) (by rw [Int.natCast_add, hi2]; exact h2)
          rw [Int.natCast_add] at hR
          rw [releaseS_of (relL_no h0 hf (by rw [hi1]; exact h1)) hR (x := (m : Int)) (by omega)]
          exact r15Release_no_no hn hq p m hp hm h0 f hf k1 l1 c1 o1 hi1 h1 _ rfl hr k2 l2 c2 o2 hi2 h2 _ rfl h
      · have hR := relR_off (n := n) (K := K) (t := t) (q := q) (s := s) (r := p + m) (st := (getS n K (getS n K st (pageI t q s ((p : Int) - 1) 1)) (pageI t q s ((f : Int) - 1) 0))) (by rw [Int.natCast_add]; exact hr)
        rw [releaseS_of (relL_no h0 hf (by rw [hi1]; exact h1)) hR (x := (m : Int)) (by omega)]
        exact r15Release_no_off hn hq p m hp hm h0 f hf k1 l1 c1 o1 hi1 h1 _ rfl hr h
end
end
section
section
variable {base b n : Nat} {wh all : Bool} {K : Nat → Option Nat} {st : Vst} {w w0 : World} {A G : Nat → Prop} {t q s : Int}

set_option maxHeartbeats 6400000 in
theorem r15Take_none (hn : n < 2 ^ 40) (hq : q ≤ 1024) (nn : Int) (s1 : Vst) (hf : findI n K t q s nn st = (none, s1)) (h : (rOb base b n all K).At w0 A G st w) :
    Calls Tryz.prog 41 #[.pointer (some ⟨b, 0, none⟩), .agg #[.int .i64 t, .int .i64 q, .int .i64 s], .int .i64 nn] w fun e w' => e = .returned (.tuple #[.int .i64 0, .bool false]) ∧ (rOb base b n all K).At w0 A G (s1) w' ∧ Stay G w w' := by
  have W0 := hidp ((WL.start h).new 23 #[.int .i64 t, .int .i64 q, .int .i64 s])
  have hq2 : q ≤ 2147483648 := by omega
  have HFO := hidp hf
  clear h hf
  go_enter Tryz.func41, Tryz.ntmps41
  obtain ⟨x0, x1, x2⟩ := W0.out.h0.three
  go_wp2_with fail
  refine (r14Find_c hn hq nn W0.out.at_).mono ?_; rintro e w1 ⟨rfl, h1, h2⟩; have W1 := hidp (W0.out.call h1 h2); clear h1 h2 W0; rw [HFO.out] at W1 ⊢; dsimp only [foundI, Option.isSome] at W1 ⊢
  obtain ⟨x0, x1, x2⟩ := W1.out.h0.three
  go_wp2
  go_ret2
  exact ⟨rfl, W1.out.fin⟩

set_option maxHeartbeats 6400000 in
theorem r15Take_more (hn : n < 2 ^ 40) (hq : q ≤ 1024) (p m : Nat) (hp : p ≤ 1024) (hm : m ≤ 1024) (l : Int) (hl0 : 0 ≤ l) (hl1 : l ≤ 1024) (s1 : Vst) (hf : findI n K t q s (m : Int) st = (some p, s1)) (hd : dropV n K t q s (p : Int) s1 = l) (hml : (m : Int) < l) (h : (rOb base b n all K).At w0 A G st w) :
    Calls Tryz.prog 41 #[.pointer (some ⟨b, 0, none⟩), .agg #[.int .i64 t, .int .i64 q, .int .i64 s], .int .i64 (m : Int)] w fun e w' => e = .returned (.tuple #[.int .i64 (p : Int), .bool true]) ∧ (rOb base b n all K).At w0 A G (putS n (getS n K (addS n K t q s ((p : Int) + (m : Int)) (l - (m : Int)) (usedS n t q s p m (dropS n K t q s (p : Int) s1))) 0) 0 (sub32 (getV n K (addS n K t q s ((p : Int) + (m : Int)) (l - (m : Int)) (usedS n t q s p m (dropS n K t q s (p : Int) s1))) 0) (m : Int))) w' ∧ Stay G w w' := by
  have W0 := hidp ((WL.start h).new 23 #[.int .i64 t, .int .i64 q, .int .i64 s])
  have hq2 : q ≤ 2147483648 := by omega
  have t1 : decide ((m : Int) < l) = true := decide_eq_true hml
  have HFO := hidp hf
  have HDV := hidp hd
  have HIV := hidp (infoV_lt 2 (m : Int) 0)
  have sp : IntKind.u32.wrap (p : Int) = (p : Int) := wrap_nat32 p (by omega)
  have sk : IntKind.u32.wrap ((p : Int) + 1) = ((p + 1 : Nat) : Int) := by have := wrap_nat32 (p + 1) (by omega); simpa using this
  have v4 : IntKind.i64.wrap ((p : Int) + (m : Int)) = ((p : Int) + (m : Int)) := i64_same (by omega) (by omega)
  have v5 : IntKind.i64.wrap (((p : Int) + (m : Int)) - 1) = (((p : Int) + (m : Int)) - 1) := i64_same (by omega) (by omega)
  have v6 : IntKind.i64.wrap (l - (m : Int)) = (l - (m : Int)) := i64_same (by omega) (by omega)
  have HUS : Hid (putS n (putS n (dropS n K t q s (p : Int) s1) (pageI t q s (p : Int) 0) (infoV 2 (m : Int) 0)) (pageI t q s ((p : Int) + (m : Int) - 1) 1) (p + 1) = usedS n t q s p m (dropS n K t q s (p : Int) s1)) := hidp rfl
  obtain ⟨x, hx⟩ : ∃ x, getV n K (addS n K t q s ((p : Int) + (m : Int)) (l - (m : Int)) (usedS n t q s p m (dropS n K t q s (p : Int) s1))) 0 = x := ⟨_, rfl⟩
  rw [hx]
  obtain ⟨y, hy⟩ : ∃ y, sub32 x (m : Int) = y := ⟨_, rfl⟩
  rw [hy]
  have HY : Hid (y < 2 ^ 32) := hidp (by rw [← hy]; exact sub32_lt x _)
  have sm : IntKind.u32.wrap (m : Int) = (m : Int) := wrap32_small (by omega) (by omega)
  have sa : IntKind.u32.wrap ((x : Int) - (m : Int)) = (y : Int) := by have := wrap_sub32 x (m : Int); rw [sm, hy] at this; exact this
  have HX := hidp hx
  clear hx hy
  clear h hf hd
  go_enter Tryz.func41, Tryz.ntmps41
  obtain ⟨x0, x1, x2⟩ := W0.out.h0.three
  go_wp2_with fail
  refine (r14Find_c hn hq (m : Int) W0.out.at_).mono ?_; rintro e w1 ⟨rfl, h1, h2⟩; have W1 := hidp (W0.out.call h1 h2); clear h1 h2 W0; rw [HFO.out] at W1 ⊢; dsimp only [foundI, Option.isSome] at W1 ⊢
  obtain ⟨x0, x1, x2⟩ := W1.out.h0.three
  go_wp2_with fail
  refine (r14Drop_c hn hq2 (p : Int) W1.out.at_).mono ?_; rintro e w2 ⟨rfl, h1, h2⟩; have W2 := hidp (W1.out.call h1 h2); clear h1 h2 W1; rw [HDV.out]
  obtain ⟨x0, x1, x2⟩ := W2.out.h0.three
  go_wp2_with fail
  refine (r7Info_c t q s (p : Int) _).mono ?_; rintro e w3 ⟨rfl, hb⟩; have W3 := hidp (W2.out.keep hb); clear hb W2
  obtain ⟨x0, x1, x2⟩ := W3.out.h0.three
  go_wp2_with fail
  refine (r9Value_c 2 (m : Int) 0 _).mono ?_; rintro e w4 ⟨rfl, hb⟩; have W4 := hidp (W3.out.keep hb); clear hb W3
  obtain ⟨x0, x1, x2⟩ := W4.out.h0.three
  go_wp2_with fail
  refine (rPutA hn _ _ HIV.out W4.out.at_).mono ?_; rintro e w5 ⟨rfl, h1, h2⟩; have W5 := hidp (W4.out.call h1 h2); clear h1 h2 W4
  obtain ⟨x0, x1, x2⟩ := W5.out.h0.three
  go_wp2_with fail
  refine (r7Foot_c t q s ((p : Int) + (m : Int) - 1) _).mono ?_; rintro e w6 ⟨rfl, hb⟩; have W6 := hidp (W5.out.keep hb); clear hb W5
  obtain ⟨x0, x1, x2⟩ := W6.out.h0.three
  go_wp2_with fail
  refine (rPutA hn _ (p + 1) (by omega) W6.out.at_).mono ?_; rintro e w7 ⟨rfl, h1, h2⟩; have W7 := hidp (W6.out.call h1 h2); clear h1 h2 W6; rw [HUS.out] at W7
  obtain ⟨x0, x1, x2⟩ := W7.out.h0.three
  go_wp2_with fail
  refine (r14Add_c hn hq2 ((p : Int) + (m : Int)) (l - (m : Int)) W7.out.at_).mono ?_; rintro e w8 ⟨rfl, h1, h2⟩; have W8 := hidp (W7.out.call h1 h2); clear h1 h2 W7
  obtain ⟨x0, x1, x2⟩ := W8.out.h0.three
  go_wp2_with fail
  refine (rGetA hn _ W8.out.at_).mono ?_; rintro e w9 ⟨rfl, h1, h2⟩; have W9 := hidp (W8.out.call h1 h2); clear h1 h2 W8; rw [HX.out]
  obtain ⟨x0, x1, x2⟩ := W9.out.h0.three
  go_wp2_with fail
  refine (rPutA hn _ y HY.out W9.out.at_).mono ?_; rintro e w10 ⟨rfl, h1, h2⟩; have W10 := hidp (W9.out.call h1 h2); clear h1 h2 W9
  obtain ⟨x0, x1, x2⟩ := W10.out.h0.three
  go_wp2
  go_ret2
  exact ⟨rfl, W10.out.fin⟩

set_option maxHeartbeats 6400000 in
theorem r15Take_all (hn : n < 2 ^ 40) (hq : q ≤ 1024) (p m : Nat) (hp : p ≤ 1024) (hm : m ≤ 1024) (l : Int) (hl0 : 0 ≤ l) (hl1 : l ≤ 1024) (s1 : Vst) (hf : findI n K t q s (m : Int) st = (some p, s1)) (hd : dropV n K t q s (p : Int) s1 = l) (hml : ¬ (m : Int) < l) (h : (rOb base b n all K).At w0 A G st w) :
    Calls Tryz.prog 41 #[.pointer (some ⟨b, 0, none⟩), .agg #[.int .i64 t, .int .i64 q, .int .i64 s], .int .i64 (m : Int)] w fun e w' => e = .returned (.tuple #[.int .i64 (p : Int), .bool true]) ∧ (rOb base b n all K).At w0 A G (putS n (getS n K (usedS n t q s p m (dropS n K t q s (p : Int) s1)) 0) 0 (sub32 (getV n K (usedS n t q s p m (dropS n K t q s (p : Int) s1)) 0) (m : Int))) w' ∧ Stay G w w' := by
  have W0 := hidp ((WL.start h).new 23 #[.int .i64 t, .int .i64 q, .int .i64 s])
  have hq2 : q ≤ 2147483648 := by omega
  have t1 : decide ((m : Int) < l) = false := decide_eq_false hml
  have HFO := hidp hf
  have HDV := hidp hd
  have HIV := hidp (infoV_lt 2 (m : Int) 0)
  have sp : IntKind.u32.wrap (p : Int) = (p : Int) := wrap_nat32 p (by omega)
  have sk : IntKind.u32.wrap ((p : Int) + 1) = ((p + 1 : Nat) : Int) := by have := wrap_nat32 (p + 1) (by omega); simpa using this
  have v4 : IntKind.i64.wrap ((p : Int) + (m : Int)) = ((p : Int) + (m : Int)) := i64_same (by omega) (by omega)
  have v5 : IntKind.i64.wrap (((p : Int) + (m : Int)) - 1) = (((p : Int) + (m : Int)) - 1) := i64_same (by omega) (by omega)
  have v6 : IntKind.i64.wrap (l - (m : Int)) = (l - (m : Int)) := i64_same (by omega) (by omega)
  have HUS : Hid (putS n (putS n (dropS n K t q s (p : Int) s1) (pageI t q s (p : Int) 0) (infoV 2 (m : Int) 0)) (pageI t q s ((p : Int) + (m : Int) - 1) 1) (p + 1) = usedS n t q s p m (dropS n K t q s (p : Int) s1)) := hidp rfl
  obtain ⟨x, hx⟩ : ∃ x, getV n K (usedS n t q s p m (dropS n K t q s (p : Int) s1)) 0 = x := ⟨_, rfl⟩
  rw [hx]
  obtain ⟨y, hy⟩ : ∃ y, sub32 x (m : Int) = y := ⟨_, rfl⟩
  rw [hy]
  have HY : Hid (y < 2 ^ 32) := hidp (by rw [← hy]; exact sub32_lt x _)
  have sm : IntKind.u32.wrap (m : Int) = (m : Int) := wrap32_small (by omega) (by omega)
  have sa : IntKind.u32.wrap ((x : Int) - (m : Int)) = (y : Int) := by have := wrap_sub32 x (m : Int); rw [sm, hy] at this; exact this
  have HX := hidp hx
  clear hx hy
  clear h hf hd
  go_enter Tryz.func41, Tryz.ntmps41
  obtain ⟨x0, x1, x2⟩ := W0.out.h0.three
  go_wp2_with fail
  refine (r14Find_c hn hq (m : Int) W0.out.at_).mono ?_; rintro e w1 ⟨rfl, h1, h2⟩; have W1 := hidp (W0.out.call h1 h2); clear h1 h2 W0; rw [HFO.out] at W1 ⊢; dsimp only [foundI, Option.isSome] at W1 ⊢
  obtain ⟨x0, x1, x2⟩ := W1.out.h0.three
  go_wp2_with fail
  refine (r14Drop_c hn hq2 (p : Int) W1.out.at_).mono ?_; rintro e w2 ⟨rfl, h1, h2⟩; have W2 := hidp (W1.out.call h1 h2); clear h1 h2 W1; rw [HDV.out]
  obtain ⟨x0, x1, x2⟩ := W2.out.h0.three
  go_wp2_with fail
  refine (r7Info_c t q s (p : Int) _).mono ?_; rintro e w3 ⟨rfl, hb⟩; have W3 := hidp (W2.out.keep hb); clear hb W2
  obtain ⟨x0, x1, x2⟩ := W3.out.h0.three
  go_wp2_with fail
  refine (r9Value_c 2 (m : Int) 0 _).mono ?_; rintro e w4 ⟨rfl, hb⟩; have W4 := hidp (W3.out.keep hb); clear hb W3
  obtain ⟨x0, x1, x2⟩ := W4.out.h0.three
  go_wp2_with fail
  refine (rPutA hn _ _ HIV.out W4.out.at_).mono ?_; rintro e w5 ⟨rfl, h1, h2⟩; have W5 := hidp (W4.out.call h1 h2); clear h1 h2 W4
  obtain ⟨x0, x1, x2⟩ := W5.out.h0.three
  go_wp2_with fail
  refine (r7Foot_c t q s ((p : Int) + (m : Int) - 1) _).mono ?_; rintro e w6 ⟨rfl, hb⟩; have W6 := hidp (W5.out.keep hb); clear hb W5
  obtain ⟨x0, x1, x2⟩ := W6.out.h0.three
  go_wp2_with fail
  refine (rPutA hn _ (p + 1) (by omega) W6.out.at_).mono ?_; rintro e w7 ⟨rfl, h1, h2⟩; have W7 := hidp (W6.out.call h1 h2); clear h1 h2 W6; rw [HUS.out] at W7
  obtain ⟨x0, x1, x2⟩ := W7.out.h0.three
  go_wp2_with fail
  refine (rGetA hn _ W7.out.at_).mono ?_; rintro e w8 ⟨rfl, h1, h2⟩; have W8 := hidp (W7.out.call h1 h2); clear h1 h2 W7; rw [HX.out]
  obtain ⟨x0, x1, x2⟩ := W8.out.h0.three
  go_wp2_with fail
  refine (rPutA hn _ y HY.out W8.out.at_).mono ?_; rintro e w9 ⟨rfl, h1, h2⟩; have W9 := hidp (W8.out.call h1 h2); clear h1 h2 W8
  obtain ⟨x0, x1, x2⟩ := W9.out.h0.three
  go_wp2
  go_ret2
  exact ⟨rfl, W9.out.fin⟩

theorem r15Take_c (hn : n < 2 ^ 40) (hq : q ≤ 1024) (nn : Int) (h : (rOb base b n all K).At w0 A G st w) :
    Calls Tryz.prog 41 #[.pointer (some ⟨b, 0, none⟩), .agg #[.int .i64 t, .int .i64 q, .int .i64 s], .int .i64 nn] w fun e w' => e = .returned (.tuple #[.int .i64 (foundI (takeI n K t q s nn st).1), .bool (takeI n K t q s nn st).1.isSome]) ∧ (rOb base b n all K).At w0 A G ((takeI n K t q s nn st).2) w' ∧ Stay G w w' := by
  obtain ⟨⟨o, s1⟩, hf⟩ : ∃ x, findI n K t q s nn st = x := ⟨_, rfl⟩
  cases o with
  | none =>
    rw [takeI_none hf]
    exact r15Take_none hn hq nn s1 hf h
  | some p =>
    obtain ⟨h1, h2, h3⟩ := findI_lt hf
    obtain ⟨m, rfl⟩ := Int.eq_ofNat_of_zero_le (show 0 ≤ nn by omega)
    rw [takeI_some hf]
    dsimp only [foundI, Option.isSome]
    have hd := dropV_few (n := n) (K := K) (t := t) (q := q) (s := s) (p : Int) s1
    unfold takeS
    rw [lessS_eq rfl]
    by_cases hml : (m : Int) < dropV n K t q s (p : Int) s1
    · rw [restS_yes hml]
      exact r15Take_more hn hq p m (by omega) (by omega) _ hd.1 hd.2 s1 hf rfl hml h
    · rw [restS_no hml]
      exact r15Take_all hn hq p m (by omega) (by omega) _ hd.1 hd.2 s1 hf rfl hml h
end
end
end Go.Proofs.YtioolaaphbddbaaGreatDoor
