/-
  What the document's Page and All of sweeping do. Written by sweep/gen_prog.py.
-/
import Derived.Test.YtnmhdlpnimdffaaGreatDoorA07
import Derived.Test.YtnmhdlpnimdffaaGreatDoorA15
import Derived.Test.YtnmhdlpnimdffaaGreatDoorA08
import Derived.Test.YtnmhdlpnimdffaaGreatDoorA03
import Derived.Test.YtnmhdlpnimdffaaGreatDoorA14
import Derived.Test.YtnmhdlpnimdffaaGreatDoorA05
import Derived.Test.YtnmhdlpnimdffaaGreatDoorA06
import Derived.Test.YtnmhdlpnimdffaaGreatDoorA10
import Derived.Test.YtnmhdlpnimdffaaGreatDoorAKit
import Derived.Lib.SmallJoins
import Derived.Test.YtnmhdlpnimdffaaGreatDoorALaw
import Derived.Test.YtnmhdlpnimdffaaGreatDoorCards
import Derived.Test.YtnmhdlpnimdffaaGreatDoorTie
import Derived.SevenTiedAt
import Derived.Lay
import Derived.LaidMore
import Derived.LaidHandle
import Derived.Lib.LaidTab
import Derived.Stop.Joined
import Derived.LaidSub
import Derived.MakeChecks
import Derived.Test.YtnmhdlpnimdffaaGreatDoorA04
namespace Go.Proofs.YtnmhdlpnimdffaaGreatDoor
open Go.ChangeShapes Go.WideShapes Go.ChangeAt Go.RowKit Go.Maps
set_option linter.unusedVariables false
set_option linter.unusedSimpArgs false
set_option maxRecDepth 100000
section
section
variable {base b n : Nat} {wh all : Bool} {K : Nat -> Option Nat} {st : Vst} {w w0 : World} {A G : Nat -> Prop} {t q s : Int}

theorem rack24 {k : Int} (k0 : 0 <= k) (k8 : k <= 8) : nthI 13 9 1 k = 13 + k := by rw [nth_on (by omega) (by omega) (by omega)]; omega
theorem infoG_cls {v : Nat} {k l c : Int} {ok : Bool} (h : infoG v = (k, l, c, ok)) : 0 <= c /\ c <= 8 := by
 have hp : infoP k l c := by
  cases ok
  ·obtain ⟨rfl, rfl, rfl⟩ := infoG_none h
   exact .inl ⟨rfl, rfl, rfl⟩
  ·exact infoB_iff (infoG_back h).1
 rcases hp with ⟨h1, h2, h3⟩ | ⟨h1, h2, h3, h4⟩ | ⟨h1, h2, h3, h4⟩ <;> omega
set_option maxHeartbeats 3200000 in
theorem r24Page_lo (p : Int) (hp : p < 0) (h : (rOb base b n all K).At w0 A G st w) :
  Calls Tryz.prog 12 #[.pointer (some ⟨b, 0, none⟩), .agg #[.int .i64 t, .int .i64 q, .int .i64 s], .int .i64 p] w fun e w' => e = .returned (.bool false) /\ (rOb base b n all K).At w0 A G (st) w' /\ Stay G w w' := by
 have W0 := hidp ((WL.start h).new 23 #[.int .i64 t, .int .i64 q, .int .i64 s])
 have t1 : decide (p < 0) = true := decide_eq_true (by omega)
 clear h
 go_enter Tryz.func12, Tryz.ntmps12
 obtain ⟨x0, x1, x2⟩ := W0.out.h0.three
 go_wp2
 go_ret
 exact ⟨rfl, W0.out.fin⟩

set_option maxHeartbeats 3200000 in
theorem r24Page_hi (p : Int) (hp : 0 <= p) (hp2 : q <= p) (h : (rOb base b n all K).At w0 A G st w) :
  Calls Tryz.prog 12 #[.pointer (some ⟨b, 0, none⟩), .agg #[.int .i64 t, .int .i64 q, .int .i64 s], .int .i64 p] w fun e w' => e = .returned (.bool false) /\ (rOb base b n all K).At w0 A G (st) w' /\ Stay G w w' := by
 have W0 := hidp ((WL.start h).new 23 #[.int .i64 t, .int .i64 q, .int .i64 s])
 have t1 : decide (p < 0) = false := decide_eq_false (by omega)
 have t2 : decide (q <= p) = true := decide_eq_true (by omega)
 clear h
 go_enter Tryz.func12, Tryz.ntmps12
 obtain ⟨x0, x1, x2⟩ := W0.out.h0.three
 go_wp2
 go_ret
 exact ⟨rfl, W0.out.fin⟩

set_option maxHeartbeats 3200000 in
theorem r24Page_kind (hn : n < 2 ^ 40) (hq : q <= 1024) (p : Nat) (hp : (p : Int) < q) (k l c : Int) (ok : Bool) (hI : infoOf n K t q s (p : Int) st = (k, l, c, ok)) (hk : k ≠ 3) (h : (rOb base b n all K).At w0 A G st w) :
  Calls Tryz.prog 12 #[.pointer (some ⟨b, 0, none⟩), .agg #[.int .i64 t, .int .i64 q, .int .i64 s], .int .i64 (p : Int)] w fun e w' => e = .returned (.bool false) /\ (rOb base b n all K).At w0 A G ((getS n K st (pageI t q s (p : Int) 0))) w' /\ Stay G w w' := by
 have W0 := hidp ((WL.start h).new 23 #[.int .i64 t, .int .i64 q, .int .i64 s])
 have t1 : decide ((p : Int) < 0) = false := decide_eq_false (by omega)
 have t2 : decide (q <= (p : Int)) = false := decide_eq_false (by omega)
 obtain ⟨c0, c8⟩ := infoG_cls (v := getV n K st (pageI t q s (p : Int) 0)) hI
 have HI := hidp hI
 have hq31 : q <= 2 ^ 31 := by omega
 have t3 : (k != 3) = true := by simp [hk]
 obtain ⟨wz, hwz⟩ : ∃ z : Nat, z = z := ⟨0, rfl⟩
 clear h hI hk hwz
 go_enter Tryz.func12, Tryz.ntmps12
 obtain ⟨x0, x1, x2⟩ := W0.out.h0.three
 go_wp2_with fail
 refine (r14Info_c hn (p : Int) k l c ok HI.out W0.out.at_).mono ?_; rintro e w1 ⟨rfl, h1, h2⟩; have W1 := hidp (W0.out.call h1 h2); clear h1 h2 W0
 generalize hNI : w1.heap.size = NI at *
 replace W1 := hidp (W1.out.new 68 #[.int .i64 k, .int .i64 l, .int .i64 c])
 rw [hNI] at W1
 obtain ⟨i0, i1, i2⟩ := W1.out.h0.three
 obtain ⟨x0, x1, x2⟩ := W1.out.h1.three
 go_wp2
 go_ret
 exact ⟨rfl, W1.out.fin⟩

set_option maxHeartbeats 3200000 in
theorem r24Page_same (hn : n < 2 ^ 40) (hq : q <= 1024) (p : Nat) (hp : (p : Int) < q) (k l c : Int) (ok : Bool) (hI : infoOf n K t q s (p : Int) st = (k, l, c, ok)) (hk : k = 3) (a u : Nat) (ha : getV n K (getS n K st (pageI t q s (p : Int) 0)) (pageI t q s (p : Int) 4) = a) (hu : getV n K (getS n K (getS n K st (pageI t q s (p : Int) 0)) (pageI t q s (p : Int) 4)) (pageI t q s (p : Int) 5) = u) (he : a = u) (h : (rOb base b n all K).At w0 A G st w) :
  Calls Tryz.prog 12 #[.pointer (some ⟨b, 0, none⟩), .agg #[.int .i64 t, .int .i64 q, .int .i64 s], .int .i64 (p : Int)] w fun e w' => e = .returned (.bool false) /\ (rOb base b n all K).At w0 A G ((getS n K (getS n K (getS n K st (pageI t q s (p : Int) 0)) (pageI t q s (p : Int) 4)) (pageI t q s (p : Int) 5))) w' /\ Stay G w w' := by
 have W0 := hidp ((WL.start h).new 23 #[.int .i64 t, .int .i64 q, .int .i64 s])
 subst hk
 have t1 : decide ((p : Int) < 0) = false := decide_eq_false (by omega)
 have t2 : decide (q <= (p : Int)) = false := decide_eq_false (by omega)
 obtain ⟨c0, c8⟩ := infoG_cls (v := getV n K st (pageI t q s (p : Int) 0)) hI
 have HI := hidp hI
 have hq31 : q <= 2 ^ 31 := by omega
 have t3 : ((3 : Int) != 3) = false := by simp
 have HA := hidp ha
 have HU := hidp hu
 have t4 : ((a : Int) == (u : Int)) = true := by simp [he]
 have t4n : (a == u) = true := by simp [he]
 clear h hI ha hu he
 go_enter Tryz.func12, Tryz.ntmps12
 obtain ⟨x0, x1, x2⟩ := W0.out.h0.three
 go_wp2_with fail
 refine (r14Info_c hn (p : Int) 3 l c ok HI.out W0.out.at_).mono ?_; rintro e w1 ⟨rfl, h1, h2⟩; have W1 := hidp (W0.out.call h1 h2); clear h1 h2 W0
 generalize hNI : w1.heap.size = NI at *
 replace W1 := hidp (W1.out.new 68 #[.int .i64 3, .int .i64 l, .int .i64 c])
 rw [hNI] at W1
 obtain ⟨i0, i1, i2⟩ := W1.out.h0.three
 obtain ⟨x0, x1, x2⟩ := W1.out.h1.three
 obtain ⟨i0, i1, i2⟩ := W1.out.h0.three
 obtain ⟨x0, x1, x2⟩ := W1.out.h1.three
 go_wp2_with fail
 refine (r7Slots_c t q s (p : Int) _).mono ?_; rintro e w2 ⟨rfl, hb⟩; have W2 := hidp (W1.out.keep hb); clear hb W1
 obtain ⟨i0, i1, i2⟩ := W2.out.h0.three
 obtain ⟨x0, x1, x2⟩ := W2.out.h1.three
 go_wp2_with fail
 have HA32 : Hid (a < 2 ^ 32) := hidp (by rw [<- HA.out]; exact rWL_lt W2.out _)
 refine (rGetA hn _ W2.out.at_).mono ?_; rintro e w3 ⟨rfl, h1, h2⟩; have W3 := hidp (W2.out.call h1 h2); clear h1 h2 W2; rw [HA.out]
 obtain ⟨i0, i1, i2⟩ := W3.out.h0.three
 obtain ⟨x0, x1, x2⟩ := W3.out.h1.three
 go_wp2_with fail
 refine (r7Taken_c t q s (p : Int) _).mono ?_; rintro e w4 ⟨rfl, hb⟩; have W4 := hidp (W3.out.keep hb); clear hb W3
 obtain ⟨i0, i1, i2⟩ := W4.out.h0.three
 obtain ⟨x0, x1, x2⟩ := W4.out.h1.three
 go_wp2_with fail
 have HU32 : Hid (u < 2 ^ 32) := hidp (by rw [<- HU.out]; exact rWL_lt W4.out _)
 refine (rGetA hn _ W4.out.at_).mono ?_; rintro e w5 ⟨rfl, h1, h2⟩; have W5 := hidp (W4.out.call h1 h2); clear h1 h2 W4; rw [HU.out]
 obtain ⟨i0, i1, i2⟩ := W5.out.h0.three
 obtain ⟨x0, x1, x2⟩ := W5.out.h1.three
 go_wp2
 go_ret
 exact ⟨rfl, W5.out.fin⟩

set_option maxHeartbeats 3200000 in
theorem r24Page_z_full (hn : n < 2 ^ 40) (hq : q <= 1024) (p : Nat) (hp : (p : Int) < q) (k l c : Int) (ok : Bool) (hI : infoOf n K t q s (p : Int) st = (k, l, c, ok)) (hk : k = 3) (a u : Nat) (ha : getV n K (getS n K st (pageI t q s (p : Int) 0)) (pageI t q s (p : Int) 4) = a) (hu : getV n K (getS n K (getS n K st (pageI t q s (p : Int) 0)) (pageI t q s (p : Int) 4)) (pageI t q s (p : Int) 5) = u) (he : a ≠ u) (hz : a = 0) (hf : fullB u c = true) (h : (rOb base b n all K).At w0 A G st w) :
  Calls Tryz.prog 12 #[.pointer (some ⟨b, 0, none⟩), .agg #[.int .i64 t, .int .i64 q, .int .i64 s], .int .i64 (p : Int)] w fun e w' => e = .returned (.bool true) /\ (rOb base b n all K).At w0 A G ((releaseS n K t q s p 1 (putS n (getS n K (getS n K (getS n K st (pageI t q s (p : Int) 0)) (pageI t q s (p : Int) 4)) (pageI t q s (p : Int) 5)) (pageI t q s (p : Int) 5) a))) w' /\ Stay G w w' := by
 have W0 := hidp ((WL.start h).new 23 #[.int .i64 t, .int .i64 q, .int .i64 s])
 subst hk
 have t1 : decide ((p : Int) < 0) = false := decide_eq_false (by omega)
 have t2 : decide (q <= (p : Int)) = false := decide_eq_false (by omega)
 obtain ⟨c0, c8⟩ := infoG_cls (v := getV n K st (pageI t q s (p : Int) 0)) hI
 have HI := hidp hI
 have hq31 : q <= 2 ^ 31 := by omega
 have t3 : ((3 : Int) != 3) = false := by simp
 have HA := hidp ha
 have HU := hidp hu
 have t4 : ((a : Int) == (u : Int)) = false := by simp; omega
 have t4n : (a == u) = false := by simp; omega
 have t5 : ((a : Int) == 0) = true := by simp; omega
 have t5n : (a == 0) = true := by simp; omega
 have HF := hidp hf
 have rk := hidp (rack24 c0 c8)
 have hp4 : p <= 1024 := by omega
 clear h hI ha hu he hf hz
 go_enter Tryz.func12, Tryz.ntmps12
 obtain ⟨x0, x1, x2⟩ := W0.out.h0.three
 go_wp2_with fail
 refine (r14Info_c hn (p : Int) 3 l c ok HI.out W0.out.at_).mono ?_; rintro e w1 ⟨rfl, h1, h2⟩; have W1 := hidp (W0.out.call h1 h2); clear h1 h2 W0
 generalize hNI : w1.heap.size = NI at *
 replace W1 := hidp (W1.out.new 68 #[.int .i64 3, .int .i64 l, .int .i64 c])
 rw [hNI] at W1
 obtain ⟨i0, i1, i2⟩ := W1.out.h0.three
 obtain ⟨x0, x1, x2⟩ := W1.out.h1.three
 obtain ⟨i0, i1, i2⟩ := W1.out.h0.three
 obtain ⟨x0, x1, x2⟩ := W1.out.h1.three
 go_wp2_with fail
 refine (r7Slots_c t q s (p : Int) _).mono ?_; rintro e w2 ⟨rfl, hb⟩; have W2 := hidp (W1.out.keep hb); clear hb W1
 obtain ⟨i0, i1, i2⟩ := W2.out.h0.three
 obtain ⟨x0, x1, x2⟩ := W2.out.h1.three
 go_wp2_with fail
 have HA32 : Hid (a < 2 ^ 32) := hidp (by rw [<- HA.out]; exact rWL_lt W2.out _)
 refine (rGetA hn _ W2.out.at_).mono ?_; rintro e w3 ⟨rfl, h1, h2⟩; have W3 := hidp (W2.out.call h1 h2); clear h1 h2 W2; rw [HA.out]
 obtain ⟨i0, i1, i2⟩ := W3.out.h0.three
 obtain ⟨x0, x1, x2⟩ := W3.out.h1.three
 go_wp2_with fail
 refine (r7Taken_c t q s (p : Int) _).mono ?_; rintro e w4 ⟨rfl, hb⟩; have W4 := hidp (W3.out.keep hb); clear hb W3
 obtain ⟨i0, i1, i2⟩ := W4.out.h0.three
 obtain ⟨x0, x1, x2⟩ := W4.out.h1.three
 go_wp2_with fail
 have HU32 : Hid (u < 2 ^ 32) := hidp (by rw [<- HU.out]; exact rWL_lt W4.out _)
 refine (rGetA hn _ W4.out.at_).mono ?_; rintro e w5 ⟨rfl, h1, h2⟩; have W5 := hidp (W4.out.call h1 h2); clear h1 h2 W4; rw [HU.out]
 obtain ⟨i0, i1, i2⟩ := W5.out.h0.three
 obtain ⟨x0, x1, x2⟩ := W5.out.h1.three
 go_wp2_with fail
 refine (r7Taken_c t q s (p : Int) _).mono ?_; rintro e w6 ⟨rfl, hb⟩; have W6 := hidp (W5.out.keep hb); clear hb W5
 obtain ⟨i0, i1, i2⟩ := W6.out.h0.three
 obtain ⟨x0, x1, x2⟩ := W6.out.h1.three
 go_wp2_with fail
 refine (rPutA hn _ a HA32.out W6.out.at_).mono ?_; rintro e w7 ⟨rfl, h1, h2⟩; have W7 := hidp (W6.out.call h1 h2); clear h1 h2 W6
 obtain ⟨i0, i1, i2⟩ := W7.out.h0.three
 obtain ⟨x0, x1, x2⟩ := W7.out.h1.three
 go_wp2_with fail
 refine (r16Full_c u c c0 c8 HU32.out _).mono ?_; rintro e w9 ⟨rfl, rfl⟩; rw [HF.out]
 go_wp2_with fail
 refine (r15Release_c hn hq p 1 hp4 (by omega) W7.out.at_).mono ?_; rintro e w8 ⟨rfl, h1, h2⟩; have W8 := hidp (W7.out.call h1 h2); clear h1 h2 W7
 obtain ⟨i0, i1, i2⟩ := W8.out.h0.three
 obtain ⟨x0, x1, x2⟩ := W8.out.h1.three
 go_wp2
 go_ret
 exact ⟨rfl, W8.out.fin⟩

set_option maxHeartbeats 3200000 in
theorem r24Page_z_some (hn : n < 2 ^ 40) (hq : q <= 1024) (p : Nat) (hp : (p : Int) < q) (k l c : Int) (ok : Bool) (hI : infoOf n K t q s (p : Int) st = (k, l, c, ok)) (hk : k = 3) (a u : Nat) (ha : getV n K (getS n K st (pageI t q s (p : Int) 0)) (pageI t q s (p : Int) 4) = a) (hu : getV n K (getS n K (getS n K st (pageI t q s (p : Int) 0)) (pageI t q s (p : Int) 4)) (pageI t q s (p : Int) 5) = u) (he : a ≠ u) (hz : a = 0) (hf : fullB u c = false) (h : (rOb base b n all K).At w0 A G st w) :
  Calls Tryz.prog 12 #[.pointer (some ⟨b, 0, none⟩), .agg #[.int .i64 t, .int .i64 q, .int .i64 s], .int .i64 (p : Int)] w fun e w' => e = .returned (.bool true) /\ (rOb base b n all K).At w0 A G ((releaseS n K t q s p 1 (pullI n K t q s (13 + c) (p : Int) (putS n (getS n K (getS n K (getS n K st (pageI t q s (p : Int) 0)) (pageI t q s (p : Int) 4)) (pageI t q s (p : Int) 5)) (pageI t q s (p : Int) 5) a)))) w' /\ Stay G w w' := by
 have W0 := hidp ((WL.start h).new 23 #[.int .i64 t, .int .i64 q, .int .i64 s])
 subst hk
 have t1 : decide ((p : Int) < 0) = false := decide_eq_false (by omega)
 have t2 : decide (q <= (p : Int)) = false := decide_eq_false (by omega)
 obtain ⟨c0, c8⟩ := infoG_cls (v := getV n K st (pageI t q s (p : Int) 0)) hI
 have HI := hidp hI
 have hq31 : q <= 2 ^ 31 := by omega
 have t3 : ((3 : Int) != 3) = false := by simp
 have HA := hidp ha
 have HU := hidp hu
 have t4 : ((a : Int) == (u : Int)) = false := by simp; omega
 have t4n : (a == u) = false := by simp; omega
 have t5 : ((a : Int) == 0) = true := by simp; omega
 have t5n : (a == 0) = true := by simp; omega
 have HF := hidp hf
 have rk := hidp (rack24 c0 c8)
 have hp4 : p <= 1024 := by omega
 clear h hI ha hu he hf hz
 go_enter Tryz.func12, Tryz.ntmps12
 obtain ⟨x0, x1, x2⟩ := W0.out.h0.three
 go_wp2_with fail
 refine (r14Info_c hn (p : Int) 3 l c ok HI.out W0.out.at_).mono ?_; rintro e w1 ⟨rfl, h1, h2⟩; have W1 := hidp (W0.out.call h1 h2); clear h1 h2 W0
 generalize hNI : w1.heap.size = NI at *
 replace W1 := hidp (W1.out.new 68 #[.int .i64 3, .int .i64 l, .int .i64 c])
 rw [hNI] at W1
 obtain ⟨i0, i1, i2⟩ := W1.out.h0.three
 obtain ⟨x0, x1, x2⟩ := W1.out.h1.three
 obtain ⟨i0, i1, i2⟩ := W1.out.h0.three
 obtain ⟨x0, x1, x2⟩ := W1.out.h1.three
 go_wp2_with fail
 refine (r7Slots_c t q s (p : Int) _).mono ?_; rintro e w2 ⟨rfl, hb⟩; have W2 := hidp (W1.out.keep hb); clear hb W1
 obtain ⟨i0, i1, i2⟩ := W2.out.h0.three
 obtain ⟨x0, x1, x2⟩ := W2.out.h1.three
 go_wp2_with fail
 have HA32 : Hid (a < 2 ^ 32) := hidp (by rw [<- HA.out]; exact rWL_lt W2.out _)
 refine (rGetA hn _ W2.out.at_).mono ?_; rintro e w3 ⟨rfl, h1, h2⟩; have W3 := hidp (W2.out.call h1 h2); clear h1 h2 W2; rw [HA.out]
 obtain ⟨i0, i1, i2⟩ := W3.out.h0.three
 obtain ⟨x0, x1, x2⟩ := W3.out.h1.three
 go_wp2_with fail
 refine (r7Taken_c t q s (p : Int) _).mono ?_; rintro e w4 ⟨rfl, hb⟩; have W4 := hidp (W3.out.keep hb); clear hb W3
 obtain ⟨i0, i1, i2⟩ := W4.out.h0.three
 obtain ⟨x0, x1, x2⟩ := W4.out.h1.three
 go_wp2_with fail
 have HU32 : Hid (u < 2 ^ 32) := hidp (by rw [<- HU.out]; exact rWL_lt W4.out _)
 refine (rGetA hn _ W4.out.at_).mono ?_; rintro e w5 ⟨rfl, h1, h2⟩; have W5 := hidp (W4.out.call h1 h2); clear h1 h2 W4; rw [HU.out]
 obtain ⟨i0, i1, i2⟩ := W5.out.h0.three
 obtain ⟨x0, x1, x2⟩ := W5.out.h1.three
 go_wp2_with fail
 refine (r7Taken_c t q s (p : Int) _).mono ?_; rintro e w6 ⟨rfl, hb⟩; have W6 := hidp (W5.out.keep hb); clear hb W5
 obtain ⟨i0, i1, i2⟩ := W6.out.h0.three
 obtain ⟨x0, x1, x2⟩ := W6.out.h1.three
 go_wp2_with fail
 refine (rPutA hn _ a HA32.out W6.out.at_).mono ?_; rintro e w7 ⟨rfl, h1, h2⟩; have W7 := hidp (W6.out.call h1 h2); clear h1 h2 W6
 obtain ⟨i0, i1, i2⟩ := W7.out.h0.three
 obtain ⟨x0, x1, x2⟩ := W7.out.h1.three
 go_wp2_with fail
 refine (r16Full_c u c c0 c8 HU32.out _).mono ?_; rintro e w9 ⟨rfl, rfl⟩; rw [HF.out]
 go_wp2_with fail
 refine wp_region_held_drew (S := (fun w' => w'.cell? ⟨NI, 2, none⟩ = some (.int .i64 c) /\ w'.cell? ⟨w.heap.size, 0, none⟩ = some (.int .i64 t) /\ w'.cell? ⟨w.heap.size, 1, none⟩ = some (.int .i64 q) /\ w'.cell? ⟨w.heap.size, 2, none⟩ = some (.int .i64 s))) (by kernel_rfl) ?_ (fun hHeld => ?_)
 ·(try dsimp only)
  exact ⟨W7.out.drew.h0.three.2.2, W7.out.drew.h1.three.1, W7.out.drew.h1.three.2.1, W7.out.drew.h1.three.2.2⟩
 refine tkz 0 ?_
 refine tkz 1 ?_
 refine tkz 2 ?_
 refine tkz 3 ?_
 refine tkz 5 ?_
 refine rdz 4 fun K hK => ?_
 go_simp
 refine (r7Rack_c c _).mono ?_; rintro e w9 ⟨rfl, rfl⟩; rw [rk.out]
 refine hK.out _ _ ?_ (fun hHeld => ?_)
 ·(try dsimp only)
  exact ⟨W7.out.drew.h0.three.2.2, W7.out.drew.h1.three.1, W7.out.drew.h1.three.2.1, W7.out.drew.h1.three.2.2⟩
 clear hK K
 (try simp only [Act.put, gA, gB, gC, sA, sB, sC])
 refine rdz 6 fun K hK => ?_
 go_simp
 refine (rkPull_c hn hq31 (p : Int) W7.out.drew.at_).mono ?_; rintro e w8 ⟨rfl, h1, h2⟩; have W8 := hidp (W7.out.drew.call h1 h2); clear h1 h2 W7
 refine hK.out _ _ ?_ (fun hHeld => ?_)
 ·(try dsimp only)
  exact ⟨W8.out.h0.three.2.2, W8.out.h1.three.1, W8.out.h1.three.2.1, W8.out.h1.three.2.2⟩
 clear hK K
 (try simp only [Act.put, gA, gB, gC, sA, sB, sC])
 refine dnz ?_
 obtain ⟨i0, i1, i2⟩ := W8.out.h0.three
 obtain ⟨x0, x1, x2⟩ := W8.out.h1.three
 go_wp2_with fail
 refine (r15Release_c hn hq p 1 hp4 (by omega) W8.out.at_).mono ?_; rintro e w9 ⟨rfl, h1, h2⟩; have W9 := hidp (W8.out.call h1 h2); clear h1 h2 W8
 obtain ⟨i0, i1, i2⟩ := W9.out.h0.three
 obtain ⟨x0, x1, x2⟩ := W9.out.h1.three
 go_wp2
 go_ret
 exact ⟨rfl, W9.out.fin⟩

set_option maxHeartbeats 3200000 in
theorem r24Page_n_full (hn : n < 2 ^ 40) (hq : q <= 1024) (p : Nat) (hp : (p : Int) < q) (k l c : Int) (ok : Bool) (hI : infoOf n K t q s (p : Int) st = (k, l, c, ok)) (hk : k = 3) (a u : Nat) (ha : getV n K (getS n K st (pageI t q s (p : Int) 0)) (pageI t q s (p : Int) 4) = a) (hu : getV n K (getS n K (getS n K st (pageI t q s (p : Int) 0)) (pageI t q s (p : Int) 4)) (pageI t q s (p : Int) 5) = u) (he : a ≠ u) (hz : a ≠ 0) (hf : fullB u c = true) (h : (rOb base b n all K).At w0 A G st w) :
  Calls Tryz.prog 12 #[.pointer (some ⟨b, 0, none⟩), .agg #[.int .i64 t, .int .i64 q, .int .i64 s], .int .i64 (p : Int)] w fun e w' => e = .returned (.bool true) /\ (rOb base b n all K).At w0 A G ((pushI n K t q s (13 + c) (p : Int) (putS n (getS n K (getS n K (getS n K st (pageI t q s (p : Int) 0)) (pageI t q s (p : Int) 4)) (pageI t q s (p : Int) 5)) (pageI t q s (p : Int) 5) a))) w' /\ Stay G w w' := by
 have W0 := hidp ((WL.start h).new 23 #[.int .i64 t, .int .i64 q, .int .i64 s])
 subst hk
 have t1 : decide ((p : Int) < 0) = false := decide_eq_false (by omega)
 have t2 : decide (q <= (p : Int)) = false := decide_eq_false (by omega)
 obtain ⟨c0, c8⟩ := infoG_cls (v := getV n K st (pageI t q s (p : Int) 0)) hI
 have HI := hidp hI
 have hq31 : q <= 2 ^ 31 := by omega
 have t3 : ((3 : Int) != 3) = false := by simp
 have HA := hidp ha
 have HU := hidp hu
 have t4 : ((a : Int) == (u : Int)) = false := by simp; omega
 have t4n : (a == u) = false := by simp; omega
 have t5 : ((a : Int) == 0) = false := by simp; omega
 have t5n : (a == 0) = false := by simp; omega
 have HF := hidp hf
 have rk := hidp (rack24 c0 c8)
 have hp4 : p <= 1024 := by omega
 clear h hI ha hu he hf hz
 go_enter Tryz.func12, Tryz.ntmps12
 obtain ⟨x0, x1, x2⟩ := W0.out.h0.three
 go_wp2_with fail
 refine (r14Info_c hn (p : Int) 3 l c ok HI.out W0.out.at_).mono ?_; rintro e w1 ⟨rfl, h1, h2⟩; have W1 := hidp (W0.out.call h1 h2); clear h1 h2 W0
 generalize hNI : w1.heap.size = NI at *
 replace W1 := hidp (W1.out.new 68 #[.int .i64 3, .int .i64 l, .int .i64 c])
 rw [hNI] at W1
 obtain ⟨i0, i1, i2⟩ := W1.out.h0.three
 obtain ⟨x0, x1, x2⟩ := W1.out.h1.three
 obtain ⟨i0, i1, i2⟩ := W1.out.h0.three
 obtain ⟨x0, x1, x2⟩ := W1.out.h1.three
 go_wp2_with fail
 refine (r7Slots_c t q s (p : Int) _).mono ?_; rintro e w2 ⟨rfl, hb⟩; have W2 := hidp (W1.out.keep hb); clear hb W1
 obtain ⟨i0, i1, i2⟩ := W2.out.h0.three
 obtain ⟨x0, x1, x2⟩ := W2.out.h1.three
 go_wp2_with fail
 have HA32 : Hid (a < 2 ^ 32) := hidp (by rw [<- HA.out]; exact rWL_lt W2.out _)
 refine (rGetA hn _ W2.out.at_).mono ?_; rintro e w3 ⟨rfl, h1, h2⟩; have W3 := hidp (W2.out.call h1 h2); clear h1 h2 W2; rw [HA.out]
 obtain ⟨i0, i1, i2⟩ := W3.out.h0.three
 obtain ⟨x0, x1, x2⟩ := W3.out.h1.three
 go_wp2_with fail
 refine (r7Taken_c t q s (p : Int) _).mono ?_; rintro e w4 ⟨rfl, hb⟩; have W4 := hidp (W3.out.keep hb); clear hb W3
 obtain ⟨i0, i1, i2⟩ := W4.out.h0.three
 obtain ⟨x0, x1, x2⟩ := W4.out.h1.three
 go_wp2_with fail
 have HU32 : Hid (u < 2 ^ 32) := hidp (by rw [<- HU.out]; exact rWL_lt W4.out _)
 refine (rGetA hn _ W4.out.at_).mono ?_; rintro e w5 ⟨rfl, h1, h2⟩; have W5 := hidp (W4.out.call h1 h2); clear h1 h2 W4; rw [HU.out]
 obtain ⟨i0, i1, i2⟩ := W5.out.h0.three
 obtain ⟨x0, x1, x2⟩ := W5.out.h1.three
 go_wp2_with fail
 refine (r7Taken_c t q s (p : Int) _).mono ?_; rintro e w6 ⟨rfl, hb⟩; have W6 := hidp (W5.out.keep hb); clear hb W5
 obtain ⟨i0, i1, i2⟩ := W6.out.h0.three
 obtain ⟨x0, x1, x2⟩ := W6.out.h1.three
 go_wp2_with fail
 refine (rPutA hn _ a HA32.out W6.out.at_).mono ?_; rintro e w7 ⟨rfl, h1, h2⟩; have W7 := hidp (W6.out.call h1 h2); clear h1 h2 W6
 obtain ⟨i0, i1, i2⟩ := W7.out.h0.three
 obtain ⟨x0, x1, x2⟩ := W7.out.h1.three
 go_wp2_with fail
 refine (r16Full_c u c c0 c8 HU32.out _).mono ?_; rintro e w9 ⟨rfl, rfl⟩; rw [HF.out]
 go_wp2_with fail
 refine wp_region_held_drew (S := (fun w' => w'.cell? ⟨NI, 2, none⟩ = some (.int .i64 c) /\ w'.cell? ⟨w.heap.size, 0, none⟩ = some (.int .i64 t) /\ w'.cell? ⟨w.heap.size, 1, none⟩ = some (.int .i64 q) /\ w'.cell? ⟨w.heap.size, 2, none⟩ = some (.int .i64 s))) (by kernel_rfl) ?_ (fun hHeld => ?_)
 ·(try dsimp only)
  exact ⟨W7.out.drew.h0.three.2.2, W7.out.drew.h1.three.1, W7.out.drew.h1.three.2.1, W7.out.drew.h1.three.2.2⟩
 refine tkz 0 ?_
 refine tkz 1 ?_
 refine tkz 2 ?_
 refine tkz 3 ?_
 refine tkz 5 ?_
 refine rdz 4 fun K hK => ?_
 go_simp
 refine (r7Rack_c c _).mono ?_; rintro e w9 ⟨rfl, rfl⟩; rw [rk.out]
 refine hK.out _ _ ?_ (fun hHeld => ?_)
 ·(try dsimp only)
  exact ⟨W7.out.drew.h0.three.2.2, W7.out.drew.h1.three.1, W7.out.drew.h1.three.2.1, W7.out.drew.h1.three.2.2⟩
 clear hK K
 (try simp only [Act.put, gA, gB, gC, sA, sB, sC])
 refine rdz 6 fun K hK => ?_
 go_simp
 refine (rkPush_c hn hq31 (p : Int) W7.out.drew.at_).mono ?_; rintro e w8 ⟨rfl, h1, h2⟩; have W8 := hidp (W7.out.drew.call h1 h2); clear h1 h2 W7
 refine hK.out _ _ ?_ (fun hHeld => ?_)
 ·(try dsimp only)
  exact ⟨W8.out.h0.three.2.2, W8.out.h1.three.1, W8.out.h1.three.2.1, W8.out.h1.three.2.2⟩
 clear hK K
 (try simp only [Act.put, gA, gB, gC, sA, sB, sC])
 refine dnz ?_
 obtain ⟨i0, i1, i2⟩ := W8.out.h0.three
 obtain ⟨x0, x1, x2⟩ := W8.out.h1.three
 go_wp2
 go_ret
 exact ⟨rfl, W8.out.fin⟩

set_option maxHeartbeats 3200000 in
theorem r24Page_n_some (hn : n < 2 ^ 40) (hq : q <= 1024) (p : Nat) (hp : (p : Int) < q) (k l c : Int) (ok : Bool) (hI : infoOf n K t q s (p : Int) st = (k, l, c, ok)) (hk : k = 3) (a u : Nat) (ha : getV n K (getS n K st (pageI t q s (p : Int) 0)) (pageI t q s (p : Int) 4) = a) (hu : getV n K (getS n K (getS n K st (pageI t q s (p : Int) 0)) (pageI t q s (p : Int) 4)) (pageI t q s (p : Int) 5) = u) (he : a ≠ u) (hz : a ≠ 0) (hf : fullB u c = false) (h : (rOb base b n all K).At w0 A G st w) :
  Calls Tryz.prog 12 #[.pointer (some ⟨b, 0, none⟩), .agg #[.int .i64 t, .int .i64 q, .int .i64 s], .int .i64 (p : Int)] w fun e w' => e = .returned (.bool true) /\ (rOb base b n all K).At w0 A G ((putS n (getS n K (getS n K (getS n K st (pageI t q s (p : Int) 0)) (pageI t q s (p : Int) 4)) (pageI t q s (p : Int) 5)) (pageI t q s (p : Int) 5) a)) w' /\ Stay G w w' := by
 have W0 := hidp ((WL.start h).new 23 #[.int .i64 t, .int .i64 q, .int .i64 s])
 subst hk
 have t1 : decide ((p : Int) < 0) = false := decide_eq_false (by omega)
 have t2 : decide (q <= (p : Int)) = false := decide_eq_false (by omega)
 obtain ⟨c0, c8⟩ := infoG_cls (v := getV n K st (pageI t q s (p : Int) 0)) hI
 have HI := hidp hI
 have hq31 : q <= 2 ^ 31 := by omega
 have t3 : ((3 : Int) != 3) = false := by simp
 have HA := hidp ha
 have HU := hidp hu
 have t4 : ((a : Int) == (u : Int)) = false := by simp; omega
 have t4n : (a == u) = false := by simp; omega
 have t5 : ((a : Int) == 0) = false := by simp; omega
 have t5n : (a == 0) = false := by simp; omega
 have HF := hidp hf
 have rk := hidp (rack24 c0 c8)
 have hp4 : p <= 1024 := by omega
 clear h hI ha hu he hf hz
 go_enter Tryz.func12, Tryz.ntmps12
 obtain ⟨x0, x1, x2⟩ := W0.out.h0.three
 go_wp2_with fail
 refine (r14Info_c hn (p : Int) 3 l c ok HI.out W0.out.at_).mono ?_; rintro e w1 ⟨rfl, h1, h2⟩; have W1 := hidp (W0.out.call h1 h2); clear h1 h2 W0
 generalize hNI : w1.heap.size = NI at *
 replace W1 := hidp (W1.out.new 68 #[.int .i64 3, .int .i64 l, .int .i64 c])
 rw [hNI] at W1
 obtain ⟨i0, i1, i2⟩ := W1.out.h0.three
 obtain ⟨x0, x1, x2⟩ := W1.out.h1.three
 obtain ⟨i0, i1, i2⟩ := W1.out.h0.three
 obtain ⟨x0, x1, x2⟩ := W1.out.h1.three
 go_wp2_with fail
 refine (r7Slots_c t q s (p : Int) _).mono ?_; rintro e w2 ⟨rfl, hb⟩; have W2 := hidp (W1.out.keep hb); clear hb W1
 obtain ⟨i0, i1, i2⟩ := W2.out.h0.three
 obtain ⟨x0, x1, x2⟩ := W2.out.h1.three
 go_wp2_with fail
 have HA32 : Hid (a < 2 ^ 32) := hidp (by rw [<- HA.out]; exact rWL_lt W2.out _)
 refine (rGetA hn _ W2.out.at_).mono ?_; rintro e w3 ⟨rfl, h1, h2⟩; have W3 := hidp (W2.out.call h1 h2); clear h1 h2 W2; rw [HA.out]
 obtain ⟨i0, i1, i2⟩ := W3.out.h0.three
 obtain ⟨x0, x1, x2⟩ := W3.out.h1.three
 go_wp2_with fail
 refine (r7Taken_c t q s (p : Int) _).mono ?_; rintro e w4 ⟨rfl, hb⟩; have W4 := hidp (W3.out.keep hb); clear hb W3
 obtain ⟨i0, i1, i2⟩ := W4.out.h0.three
 obtain ⟨x0, x1, x2⟩ := W4.out.h1.three
 go_wp2_with fail
 have HU32 : Hid (u < 2 ^ 32) := hidp (by rw [<- HU.out]; exact rWL_lt W4.out _)
 refine (rGetA hn _ W4.out.at_).mono ?_; rintro e w5 ⟨rfl, h1, h2⟩; have W5 := hidp (W4.out.call h1 h2); clear h1 h2 W4; rw [HU.out]
 obtain ⟨i0, i1, i2⟩ := W5.out.h0.three
 obtain ⟨x0, x1, x2⟩ := W5.out.h1.three
 go_wp2_with fail
 refine (r7Taken_c t q s (p : Int) _).mono ?_; rintro e w6 ⟨rfl, hb⟩; have W6 := hidp (W5.out.keep hb); clear hb W5
 obtain ⟨i0, i1, i2⟩ := W6.out.h0.three
 obtain ⟨x0, x1, x2⟩ := W6.out.h1.three
 go_wp2_with fail
 refine (rPutA hn _ a HA32.out W6.out.at_).mono ?_; rintro e w7 ⟨rfl, h1, h2⟩; have W7 := hidp (W6.out.call h1 h2); clear h1 h2 W6
 obtain ⟨i0, i1, i2⟩ := W7.out.h0.three
 obtain ⟨x0, x1, x2⟩ := W7.out.h1.three
 go_wp2_with fail
 refine (r16Full_c u c c0 c8 HU32.out _).mono ?_; rintro e w9 ⟨rfl, rfl⟩; rw [HF.out]
 go_wp2
 go_ret
 exact ⟨rfl, W7.out.fin⟩

theorem r24Page_c (hn : n < 2 ^ 40) (hq : q <= 1024) (p : Int) (hp : -9223372036854775808 <= p /\ p <= 9223372036854775807) (h : (rOb base b n all K).At w0 A G st w) :
  Calls Tryz.prog 12 #[.pointer (some ⟨b, 0, none⟩), .agg #[.int .i64 t, .int .i64 q, .int .i64 s], .int .i64 p] w fun e w' => e = .returned (.bool (sweepP n K t q s p st).1) /\ (rOb base b n all K).At w0 A G ((sweepP n K t q s p st).2) w' /\ Stay G w w' := by
 unfold sweepP
 by_cases h0 : p < 0
 ·have e : pgB q p = false := by unfold pgB; simp; omega
  rw [e]
  exact r24Page_lo p h0 h
 ·by_cases h1 : q <= p
  ·have e : pgB q p = false := by unfold pgB; simp; omega
   rw [e]
   exact r24Page_hi p (by omega) h1 h
  ·have e : pgB q p = true := by unfold pgB; simp; omega
   rw [e]
   obtain ⟨p, rfl⟩ := Int.eq_ofNat_of_zero_le (show 0 <= p by omega)
   simp only [if_true, Int.toNat_natCast]
   obtain ⟨⟨k, l, c, ok⟩, hI⟩ : ∃ x, infoOf n K t q s (p : Int) st = x := ⟨_, rfl⟩
   unfold sweepI
   rw [hI]
   by_cases hk : k = 3
   ·rw [if_pos hk]
    obtain ⟨a, ha⟩ : ∃ a, getV n K (getS n K st (pageI t q s (p : Int) 0)) (pageI t q s (p : Int) 4) = a := ⟨_, rfl⟩
    obtain ⟨u, hu⟩ : ∃ u, getV n K (getS n K (getS n K st (pageI t q s (p : Int) 0)) (pageI t q s (p : Int) 4)) (pageI t q s (p : Int) 5) = u := ⟨_, rfl⟩
    rw [ha, hu]
    by_cases he : a = u
    ·rw [if_pos he]
     exact r24Page_same hn hq p (by omega) k l c ok hI hk a u ha hu he h
    ·rw [if_neg he]
     unfold sweepAt backS
     dsimp only
     cases hf : fullB u c with
     | true =>
      by_cases hz : a = 0
      ·rw [if_pos hz]
       exact r24Page_z_full hn hq p (by omega) k l c ok hI hk a u ha hu he hz hf h
      ·rw [if_neg hz]
       exact r24Page_n_full hn hq p (by omega) k l c ok hI hk a u ha hu he hz hf h
     | false =>
      by_cases hz : a = 0
      ·rw [if_pos hz]
       exact r24Page_z_some hn hq p (by omega) k l c ok hI hk a u ha hu he hz hf h
      ·rw [if_neg hz]
       exact r24Page_n_some hn hq p (by omega) k l c ok hI hk a u ha hu he hz hf h
   ·rw [if_neg hk]
    exact r24Page_kind hn hq p (by omega) k l c ok hI hk h

set_option maxHeartbeats 3200000 in
theorem r24All_c (hn : n < 2 ^ 40) (P : Nat) (hq : P <= 1024) (hqq : q = (P : Int)) (h : (rOb base b n all K).At w0 A G st w) :
  Calls Tryz.prog 18 #[.pointer (some ⟨b, 0, none⟩), .agg #[.int .i64 t, .int .i64 q, .int .i64 s]] w fun e w' => e = .returned (.int .i64 ((sweepTo n K t q s P st).1 : Int)) /\ (rOb base b n all K).At w0 A G ((sweepTo n K t q s P st).2) w' /\ Stay G w w' := by
 subst hqq
 have W0 := hidp ((WL.start h).new 23 #[.int .i64 t, .int .i64 (P : Int), .int .i64 s])
 clear h
 go_enter Tryz.func18, Tryz.ntmps18
 obtain ⟨x0, x1, x2⟩ := W0.out.h0.three
 go_wp2_with fail
 go_loopw [5, 6] (fun u5 u6 wr => ∃ j : Nat, j <= P /\ u5 = .int .i64 ((sweepTo n K t (P : Int) s j st).1 : Int) /\ u6 = .int .i64 (j : Int) /\ (sweepTo n K t (P : Int) s j st).1 <= j /\ Hid (WL (rOb base b n all K) w0 A G w [⟨w.heap.size, 23, #[.int .i64 t, .int .i64 (P : Int), .int .i64 s]⟩] (sweepTo n K t (P : Int) s j st).2 wr)) (fun u5 u6 _ => P - (intOf u6).toNat)
 case atStart => exact ⟨0, by omega, rfl, rfl, Nat.le_refl _, W0⟩
 case round =>
  clear W0 x0 x1 x2
  obtain ⟨j, hj, rfl, rfl, hm, W0⟩ := hrel
  obtain ⟨x0, x1, x2⟩ := W0.out.h0.three
  obtain ⟨⟨m, sj⟩, hs⟩ : ∃ x, sweepTo n K t (P : Int) s j st = x := ⟨_, rfl⟩
  have hnx : sweepTo n K t (P : Int) s (j + 1) st = (m + (if (sweepI n K t (P : Int) s j sj).1 = true then 1 else 0), (sweepI n K t (P : Int) s j sj).2) := by
   show ((sweepTo n K t (P : Int) s j st).1 + _, _) = _
   rw [hs]
  rw [hs] at W0 hm ⊢
  dsimp only at W0 hm ⊢
  by_cases hlt : j < P
  ·have t1 : decide ((j : Int) < (P : Int)) = true := decide_eq_true (by omega)
   have t1n : decide (j < P) = true := decide_eq_true hlt
   have hpg : sweepP n K t (P : Int) s (j : Int) sj = sweepI n K t (P : Int) s j sj := by
    unfold sweepP pgB
    rw [decide_eq_true (by omega), decide_eq_true (by omega)]
    simp
   obtain ⟨⟨r, sn⟩, hr⟩ : ∃ x, sweepI n K t (P : Int) s j sj = x := ⟨_, rfl⟩
   rw [hr] at hpg hnx
   have HPG := hidp hpg
   have HNX := hidp hnx
   clear hs hpg hnx hr
   go_wp2_with fail
   refine (r24Page_c hn (by omega) (j : Int) (by omega) W0.out.at_).mono ?_; rintro e w1 ⟨rfl, h1, h2⟩
   rw [HPG.out] at h1 ⊢
   dsimp only at h1 ⊢
   have W1 := hidp (W0.out.call h1 h2)
   clear h1 h2 W0
   cases r with
   | true =>
    have HE : Hid (sweepTo n K t (P : Int) s (j + 1) st = (m + 1, sn)) := hidp (by rw [HNX.out]; rfl)
    have c1 : IntKind.i64.wrap ((m : Int) + 1) = (m : Int) + 1 := i64_same (by omega) (by omega)
    clear HNX
    go_wp2
    go_roundw
    case rel => exact ⟨j + 1, by omega, by rw [HE.out]; go_num, by go_num, by rw [HE.out]; show m + 1 <= j + 1; omega, by rw [HE.out]; exact W1⟩
    case measure => simp [intOf]; omega
   | false =>
    have HE : Hid (sweepTo n K t (P : Int) s (j + 1) st = (m, sn)) := hidp (by rw [HNX.out]; rfl)
    clear HNX
    go_wp2
    go_roundw
    case rel => exact ⟨j + 1, by omega, by rw [HE.out], by go_num, by rw [HE.out]; show m <= j + 1; omega, by rw [HE.out]; exact W1⟩
    case measure => simp [intOf]; omega
  ·have t1 : decide ((j : Int) < (P : Int)) = false := decide_eq_false (by omega)
   have t1n : decide (j < P) = false := decide_eq_false hlt
   obtain rfl : j = P := by omega
   have HE := hidp hs
   clear hs hnx
   go_wp2
   go_ret
   rw [HE.out]
   exact ⟨rfl, W0.out.fin⟩
end
end
end Go.Proofs.YtnmhdlpnimdffaaGreatDoor

namespace Go.Proofs.YtnmhdlpnimdffaaGreatDoor
open Go.ChangeShapes Go.WideShapes Go.ChangeAt Go.RowKit
set_option linter.unusedVariables false
set_option maxRecDepth 100000
section
section
variable {H : Type} {enc : TypeId × Value -> H} {P : Program} {w : World} {base : Nat} {sp : Nat -> Bool} {held : Bool}
theorem open_vals {t e : TypeId} {v : Value} {d : DataW H} {p : List MemPlace} (ht : P.underlying t = some (.slice e)) (he : P.underlying e = some (.int .u32)) (hc : P.cellsOf e = 1)
  {r : Reach} {b0 : Nat} (hval : Value.okWide P w r b0 t v) (h : DataW.Trod enc P w base sp held t v d p) (hlt : ∀ x ∈ p, x.block < w.heap.size) :
  ∃ (A : Option Addr) (c : Nat) (ws : List Nat), v = .slice A ws.length c /\ ws.length <= c /\ c <= maxLen /\ (∀ x ∈ ws, x < 2 ^ 32) /\ Reads w w.heap.size 1 A ws.length (valVs ws) := by
 obtain ⟨fuel, hf⟩ := h
 have hv : v.cells = #[v] := by
  obtain ⟨A, n, c, rfl⟩ := okWide_slice ht hval
  rfl
 rw [hv] at hf
 rcases open_ints ht he hc hf with ⟨hcs, _⟩ | ⟨a, len, cap, zs, hcs, hb, hl, hm, hz, hx, hcell, hwf⟩
 ·injection hcs with hcs
  subst hcs
  exact ⟨none, 0, [], rfl, Nat.le_refl _, Nat.zero_le _, by simp, Reads.none_⟩
 ·injection hcs with hcs
  subst hcs
  have hlz : len <= zs.length := by rw [hz]; split <;> omega
  have hlen : ((zs.take len).map Int.toNat).length = len := by simp; omega
  refine ⟨some a, cap, (zs.take len).map Int.toNat, by rw [hlen], by rw [hlen]; exact hl, hm, ?_, ?_⟩
  ·intro x hx
   obtain ⟨z, hz1, rfl⟩ := List.mem_map.1 hx
   obtain ⟨n, rfl, hn⟩ := u32_nat (hwf z (List.mem_of_mem_take hz1))
   simpa using hn
  ·refine ⟨by rw [valVs_len]; omega, fun hn => ?_⟩
   rw [hlen] at hn
   refine ⟨a, rfl, ?_, fun j u hu => ?_⟩
   ·have hp : (p : List MemPlace) = MemPlace.row a zs.length := by
     have := congrArg Prod.snd hx
     simpa using this
    have h0 : MemPlace.cell a.block a.off ∈ p \/ (∃ x ∈ p, x.block = a.block) := by
     right
     rw [hp]
     refine ⟨(MemPlace.row a zs.length)[0]'(by simp [MemPlace.row]; omega), List.getElem_mem _, ?_⟩
     simp [MemPlace.row, MemPlace.block]
    rcases h0 with h0 | ⟨x, hx1, hx2⟩
    ·exact hlt _ h0
    ·rw [<- hx2]; exact hlt x hx1
   ·unfold valVs at hu
    rw [List.map_map] at hu
    have hj : j < len := by
     rcases Nat.lt_or_ge j len with h1 | h1
     ·exact h1
     ·rw [List.getElem?_eq_none (by simp; omega)] at hu; cases hu
    rw [List.getElem?_map, List.getElem?_take_of_lt hj, List.getElem?_eq_getElem (by omega)] at hu
    simp only [Option.map_some, Option.some.injEq, Function.comp_apply] at hu
    subst hu
    rw [hcell j (by omega)]
    have hw := hwf zs[j] (List.getElem_mem _)
    obtain ⟨n, hn1, _⟩ := u32_nat hw
    have : (zs.getD j 0) = zs[j] := by simp [List.getD, List.getElem?_eq_getElem (show j < zs.length by omega)]
    rw [this, hn1]
    simp
end
end
end Go.Proofs.YtnmhdlpnimdffaaGreatDoor

namespace Go.Proofs.YtnmhdlpnimdffaaGreatDoor
open Go.ChangeShapes Go.WideShapes Go.ChangeAt Go.RowKit
set_option linter.unusedVariables false
section
theorem heap13_of (W : World) (t q s : Int) (A : Option Addr) (c : Nat) (vals : List Nat) (hnc : vals.length <= c) (hcm : c <= maxLen) (h32 : ∀ x ∈ vals, x < 2 ^ 32) (hR : Reads W W.heap.size 1 A vals.length (valVs vals)) (h : lC t q s ≠ 0 /\ (vals.length : Int) = lC t q s) :
  ∃ (H : AuH) (ad : Addr), t = H.t /\ q = H.p /\ s = H.s /\ A = some ad /\ (∀ i, H.V i = vals.getD i 0) /\ HeapV H vals.length c /\ IsVals W ad vals.length H.V := by
 cases hr : rightB t q s
 ·exact absurd (lay_no hr).5 h.1
 ·have hn := (rightB_iff t q s).1 hr
  have hl := (lay_yes hr).5
  have hlen : 0 < vals.length := by have := h.2; rw [hl] at this; omega
  obtain ⟨ad, rfl, hb, hc⟩ := hR.2 hlen
  have hx : ∀ i, i < vals.length -> vals[i]? = some (vals.getD i 0) := fun i hi => by simp [List.getD, List.getElem?_eq_getElem hi]
  refine ⟨⟨t.toNat, q.toNat, s.toNat, fun i => vals.getD i 0⟩, ad, by show t = _; simp; omega, by show q = _; simp; omega, by show s = _; simp; omega, rfl, fun i => rfl, ⟨?_, ?_, hnc, hcm, fun i hi => ?_⟩, hb, fun i hi => ?_⟩
  ·show rightB ((t.toNat : Nat) : Int) ((q.toNat : Nat) : Int) ((s.toNat : Nat) : Int) = true
   rw [show ((t.toNat : Nat) : Int) = t by omega, show ((q.toNat : Nat) : Int) = q by omega, show ((s.toNat : Nat) : Int) = s by omega]
   exact hr
  ·show vals.length = 30 + 4 * t.toNat + 6 * q.toNat
   have := h.2
   rw [hl] at this
   omega
  ·exact h32 _ (List.mem_of_getElem? (hx i hi))
  ·refine hc i _ ?_
   unfold valVs
   rw [List.getElem?_map, hx i hi]
   rfl
theorem heap13_or (W : World) (t q s : Int) (A : Option Addr) (c : Nat) (vals : List Nat) (hnc : vals.length <= c) (hcm : c <= maxLen) (h32 : ∀ x ∈ vals, x < 2 ^ 32) (hR : Reads W W.heap.size 1 A vals.length (valVs vals)) :
  (∃ m, XCheckIs W t q s A vals.length c m false) \/ ∃ (H : AuH) (ad : Addr) (m : Nat), t = H.t /\ q = H.p /\ s = H.s /\ A = some ad /\ (∀ i, H.V i = vals.getD i 0) /\ HeapV H vals.length c /\ IsVals W ad vals.length H.V /\ H.Told m true /\ XCheckIs W H.t H.p H.s (some ad) vals.length c m true := by
 by_cases h : lC t q s ≠ 0 /\ (vals.length : Int) = lC t q s
 ·obtain ⟨H, ad, rfl, rfl, rfl, rfl, hV, HV, hv⟩ := heap13_of W t q s A c vals hnc hcm h32 hR h
  obtain ⟨m, b, hto⟩ := H.told_is
  have hX := xCheckIs_yes HV ad W hv hto
  cases b with
  | true => exact .inr ⟨H, ad, m, rfl, rfl, rfl, rfl, hV, HV, hv, hto, hX⟩
  | false => exact .inl ⟨m, hX⟩
 ·exact .inl ⟨1, xCheckIs_no W t q s A vals.length c hnc hcm h⟩
end
end Go.Proofs.YtnmhdlpnimdffaaGreatDoor

namespace Go.Proofs.YtnmhdlpnimdffaaGreatDoor
open Go.ChangeShapes Go.WideShapes Go.ChangeAt Go.RowKit Go.Maps
set_option linter.unusedVariables false
set_option linter.unusedSimpArgs false
section
theorem told_rules {H : AuH} {m : Nat} (h : H.Told m true) : ∀ i, i < 10 -> H.rule i := by
 rcases h with ⟨_, _, h⟩ | ⟨h, _⟩
 ·exact h
 ·cases h
end
section
section
variable {H : AuH} {n c : Nat} {K : Nat -> Option Nat} {st s' : Vst} {L L' : Nat -> List Nat} {g : Nat -> Nat} {A k e : Nat}
end
section
variable {H : AuH} {n c : Nat} {K : Nat -> Option Nat} {st : Vst} {L L' : Nat -> List Nat} {g : Nat -> Nat} {A k e : Nat}

theorem nowH_nowH {s3 s5 : Vst} : nowH (nowH H n K s3) n K s5 = nowH H n K s5 := by
 unfold nowH AuH.re
 congr 1
 funext i
 unfold curV
 by_cases h : i < n
 ·rw [if_pos h, if_pos h]
 ·rw [if_neg h, if_neg h]
  show (if i < n then getV n K s3 (i : Int) else H.V i) = H.V i
  rw [if_neg h]
end
end
section
section
variable {H : AuH} {n c : Nat} {K : Nat -> Option Nat} {st : Vst}
theorem vw_fresh (hK : ∀ i, i < n -> K i = some (H.V i)) : VW n K freshS := ⟨fun i hi => ⟨_, hK i hi⟩, rfl⟩
theorem nowH_fresh (hK : ∀ i, i < n -> K i = some (H.V i)) : nowH H n K freshS = H := by
 unfold nowH AuH.re
 have : curV n (getV n K freshS) H.V = H.V := by
  funext i
  unfold curV
  split
  ·rename_i h
   rw [(vw_fresh hK).at_ h, hK i h]
   rfl
  ·rfl
 rw [this]
end
end
section
def emF (H : AuH) (q : Nat) : Nat := if H.K q = 3 /\ H.cel q 4 = 0 then 1 else 0
def emptyN (H : AuH) : Nat := AuH.sumTo (emF H) H.p
theorem sum_less {f g : Nat -> Nat} {p d : Nat} : ∀ m, (∀ q, q < m -> q ≠ p -> f q = g q) -> (p < m -> f p + d = g p) -> AuH.sumTo f m + (if p < m then d else 0) = AuH.sumTo g m
 | 0, _, _ => rfl
 | m + 1, ho, hp => by
  have ih := sum_less (f := f) (g := g) (p := p) (d := d) m (fun q hq => ho q (by omega)) (fun h => hp (by omega))
  show AuH.sumTo f m + f m + _ = AuH.sumTo g m + g m
  by_cases e : m = p
  ·subst e
   have := hp (by omega)
   rw [if_neg (by omega)] at ih
   rw [if_pos (by omega)]
   omega
  ·rw [ho m (by omega) e]
   by_cases h : p < m
   ·rw [if_pos h] at ih
    rw [if_pos (by omega)]
    omega
   ·rw [if_neg h] at ih
    rw [if_neg (by omega)]
    omega
theorem Swept.empty {H H' : AuH} {L : Nat -> List Nat} {p : Nat} (S : Swept H H' L p) (hp : p < H.p) (he : H'.p = H.p) : emptyN H' + (if H.K p = 3 /\ H.cel p 4 = 0 then 1 else 0) = emptyN H := by
 unfold emptyN
 rw [he]
 have h1 := sum_less (f := emF H') (g := emF H) (p := p) (d := emF H p) H.p (fun q hq hne => by
  have h1 := S.kinds q hq
  unfold emF
  by_cases h0 : H.K q = 3 /\ H.cel q 4 = 0
  ·have hk := h1.2 ⟨h0.1, fun x => hne x.1⟩
   rw [if_pos ⟨hk, by rw [S.bits q hq hk]; exact h0.2⟩, if_pos h0]
  ·rw [if_neg (fun x => h0 ⟨(h1.1 x.1).1, by rw [<- S.bits q hq x.1]; exact x.2⟩), if_neg h0]) (fun _ => by
  have h1 := S.kinds p hp
  have : emF H' p = 0 := by
   unfold emF
   refine if_neg fun x => ?_
   have h2 := h1.1 x.1
   exact h2.2 ⟨rfl, by rw [<- S.bits p hp x.1]; exact x.2⟩
  omega)
 rw [if_pos hp] at h1
 exact h1
theorem sweepTo_le (n : Nat) (K : Nat -> Option Nat) (t q s : Int) : ∀ (m : Nat) (st : Vst), (sweepTo n K t q s m st).1 <= m
 | 0, _ => Nat.le_refl _
 | m + 1, st => by
  have h := sweepTo_le n K t q s m st
  show (sweepTo n K t q s m st).1 + (if (sweepI n K t q s m (sweepTo n K t q s m st).2).1 = true then 1 else 0) <= m + 1
  split <;> omega
structure SwInv (H : AuH) (n : Nat) (K : Nat -> Option Nat) (st : Vst) (L : Nat -> List Nat) : Prop where
 ok : (nowH H n K st).Ok L
 work : Work H.t H.p H.s n K st L (nowH H n K st).V
 roots : ∀ i, i < 8 -> (nowH H n K st).V (22 + i) = H.V (22 + i)
 blocks : blocksOf (nowH H n K st).parts = blocksOf H.parts
 free : (nowH H n K st).V 0 + emptyN (nowH H n K st) = H.V 0 + emptyN H
section
variable {H : AuH} {n c : Nat} {K : Nat -> Option Nat} {st : Vst} {L : Nat -> List Nat} {p : Nat}
theorem SwInv.start (HV : HeapV H n c) (h : H.Ok L) (hK : ∀ i, i < n -> K i = some (H.V i)) : SwInv H n K freshS L := by
 have e := nowH_fresh (H := H) hK
 exact ⟨by rw [e]; exact h, by rw [e]; exact Work.of_ok h HV hK, fun i _ => by rw [e], by rw [e], by rw [e]⟩
theorem SwInv.heap (I : SwInv H n K st L) (HV : HeapV H n c) (hok : VOk n st) (h32 : ∀ i x, K i = some x -> x < 2 ^ 32) : HeapV (nowH H n K st) n c := nowH_heap HV hok h32 HV.cap HV.max
theorem SwInv.step (I : SwInv H n K st L) (HV : HeapV H n c) (hok : VOk n st) (h32 : ∀ i x, K i = some x -> x < 2 ^ 32) (hp : p < H.p) :
  ∃ L', SwInv H n K (sweepI n K H.t H.p H.s p st).2 L' /\ (∀ q i, (nowH H n K (sweepI n K H.t H.p H.s p st).2).hand q i ↔ (nowH H n K st).hand q i /\ q ≠ p) /\
   ((sweepI n K H.t H.p H.s p st).1 = true \/ (sweepI n K H.t H.p H.s p st).2.wr = st.wr) /\ FewW 24 st (sweepI n K H.t H.p H.s p st).2 /\
   ((∀ i, ¬ (nowH H n K st).hand p i) -> (sweepI n K H.t H.p H.s p st).1 = false) := by
 have HV1 := I.heap HV hok h32
 obtain ⟨L', g', W', S, h1, h2, h3⟩ := sweep_heap (H := nowH H n K st) HV1 I.ok I.work nowH_nowH hp
 have S : Swept (nowH H n K st) (nowH (nowH H n K st) n K (sweepI n K H.t H.p H.s p st).2) L' p := S
 have W' : Work H.t H.p H.s n K (sweepI n K H.t H.p H.s p st).2 L' g' := W'
 rw [nowH_nowH] at S
 refine ⟨L', ⟨S.ok, W'.again, fun i hi => (S.roots i hi).trans (I.roots i hi), S.blocks.trans I.blocks, ?_⟩, S.hand, h1, h2, h3⟩
 have he := S.empty hp rfl
 have hf := S.free
 have := I.free
 omega
theorem empty_zero (h : H.Ok L) (HV : HeapV H n c) (hno : ∀ q i, ¬ H.hand q i) : emptyN H = 0 := by
 unfold emptyN
 have : ∀ m, m <= H.p -> AuH.sumTo (emF H) m = 0 := fun m => by
  induction m with
  | zero => intro _; rfl
  | succ m ih =>
   intro hm
   show AuH.sumTo _ m + emF H m = 0
   rw [ih (by omega), Nat.zero_add]
   unfold emF
   rw [if_neg]
   rintro ⟨hk, h4⟩
   obtain ⟨b0, b1, _⟩ := slab_bits h (by omega) hk
   obtain ⟨j, hj⟩ := Nat.exists_testBit_of_ne_zero b0
   refine hno m j ⟨by omega, hk, ?_, hj, by rw [h4, Nat.zero_testBit]⟩
   rcases Nat.lt_or_ge j (slotI (H.Cl m)) with h1 | h1
   ·exact h1
   ·rw [Nat.testBit_lt_two_pow (Nat.lt_of_lt_of_le b1 (Nat.pow_le_pow_right (by omega) h1))] at hj
    cases hj
 exact this H.p (Nat.le_refl _)
theorem SwInv.all (HV : HeapV H n c) (h32 : ∀ i x, K i = some x -> x < 2 ^ 32) (I : SwInv H n K st L) : ∀ m, m <= H.p -> (∀ j, j < m -> VOk n (sweepTo n K H.t H.p H.s j st).2) ->
  ∃ L', SwInv H n K (sweepTo n K H.t H.p H.s m st).2 L' /\ (∀ q i, (nowH H n K (sweepTo n K H.t H.p H.s m st).2).hand q i ↔ (nowH H n K st).hand q i /\ ¬ q < m) /\
   FewW (24 * (sweepTo n K H.t H.p H.s m st).1) st (sweepTo n K H.t H.p H.s m st).2 /\
   ((∀ q i, ¬ (nowH H n K st).hand q i) -> (sweepTo n K H.t H.p H.s m st).1 = 0)
 | 0, _, _ => ⟨L, I, fun q i => ⟨fun x => ⟨x, by omega⟩, fun x => x.1⟩, FewW.refl st, fun _ => rfl⟩
 | m + 1, hm, hok => by
  obtain ⟨L1, I1, a1, a2, a3⟩ := SwInv.all HV h32 I m (by omega) (fun j hj => hok j (by omega))
  obtain ⟨L2, I2, b1, b2, b3, b4⟩ := I1.step HV (hok m (by omega)) h32 (p := m) (by omega)
  refine ⟨L2, I2, fun q i => ?_, ?_, fun hno => ?_⟩
  ·rw [show (sweepTo n K H.t H.p H.s (m + 1) st).2 = (sweepI n K H.t H.p H.s m (sweepTo n K H.t H.p H.s m st).2).2 from rfl, b1, a1]
   constructor
   ·rintro ⟨⟨x, y⟩, z⟩; exact ⟨x, by omega⟩
   ·rintro ⟨x, y⟩; exact ⟨⟨x, by omega⟩, by omega⟩
  ·show FewW (24 * ((sweepTo n K H.t H.p H.s m st).1 + (if (sweepI n K H.t H.p H.s m (sweepTo n K H.t H.p H.s m st).2).1 = true then 1 else 0))) st (sweepI n K H.t H.p H.s m (sweepTo n K H.t H.p H.s m st).2).2
   rcases b2 with b2 | b2
   ·rw [if_pos b2]
    exact (a2.trans b3).more (by omega)
   ·unfold FewW at a2 ⊢
    rw [b2]
    omega
  ·show (sweepTo n K H.t H.p H.s m st).1 + (if (sweepI n K H.t H.p H.s m (sweepTo n K H.t H.p H.s m st).2).1 = true then 1 else 0) = 0
   rw [a3 hno, b4 (fun i x => hno m i ((a1 m i).1 x).1)]
   rfl
end
end
end Go.Proofs.YtnmhdlpnimdffaaGreatDoor

namespace Go.Proofs.YtnmhdlpnimdffaaGreatDoor
open Go.ChangeShapes Go.WideShapes Go.ChangeAt Go.RowKit Go.Maps
set_option linter.unusedVariables false
set_option linter.unusedSimpArgs false
set_option maxRecDepth 100000
section
theorem SweepPages_few (t q s p : Int) (A : Option Addr) (n c m : Nat) (hq : 64 < q) (W : World) (hT : SlotsLaid W)  : Calls Tryz.prog 3 #[.agg #[.int .i64 t, .int .i64 q, .int .i64 s], .slice A n c, .int .i64 p] W (Keeps W) := by
 have t2 : decide (q <= (64 : Int)) = false := decide_eq_false (by omega)
 have HTL := hidp hT
 clear hT
 have HC := hidp (Held.new W 23 #[.int .i64 t, .int .i64 q, .int .i64 s])
 have HB := hidp (Bnew (B0 W) (.cells #[.int .i64 t, .int .i64 q, .int .i64 s] 23))
 obtain ⟨x0, x1, x2⟩ := HC.out.three
 go_enter Tryz.func3, Tryz.ntmps3
 go_wp2_with fail
 refine (few14_c t q s _).mono ?_
 rintro e w1 ⟨rfl, hb⟩
 rw [t2]
 replace HC := hidp (HC.out.keep hb)
 replace HB := hidp (Bgo HB.out hb)
 clear hb
 clear x0 x1 x2
 obtain ⟨x0, x1, x2⟩ := HC.out.three
 go_wp2_with fail
 refine (live24_c _ (HTL.out.below HB.out)).mono ?_
 rintro e w19 ⟨rfl, hb⟩
 have HBL := hidp (Bgo HB.out hb)
 clear hb
 go_wp2
 go_ret
 exact ⟨rfl, HBL.out⟩

theorem SweepPages_no (t q s p : Int) (A : Option Addr) (n c m : Nat) (hq : q <= 64) (W : World) (hT : SlotsLaid W) (hX : Hid (XCheckIs W t q s A n c m false)) : Calls Tryz.prog 3 #[.agg #[.int .i64 t, .int .i64 q, .int .i64 s], .slice A n c, .int .i64 p] W (Keeps W) := by
 have t2 : decide (q <= (64 : Int)) = true := decide_eq_true (by omega)
 have HTL := hidp hT
 clear hT
 have HC := hidp (Held.new W 23 #[.int .i64 t, .int .i64 q, .int .i64 s])
 have HB := hidp (Bnew (B0 W) (.cells #[.int .i64 t, .int .i64 q, .int .i64 s] 23))
 obtain ⟨x0, x1, x2⟩ := HC.out.three
 go_enter Tryz.func3, Tryz.ntmps3
 go_wp2_with fail
 refine (few14_c t q s _).mono ?_
 rintro e w1 ⟨rfl, hb⟩
 rw [t2]
 replace HC := hidp (HC.out.keep hb)
 replace HB := hidp (Bgo HB.out hb)
 clear hb
 clear x0 x1 x2
 obtain ⟨x0, x1, x2⟩ := HC.out.three
 go_wp2_with fail
 refine (xSound_c t q s A n c m false _ (hX.out.grown HB.out)).mono ?_
 rintro e w2 ⟨rfl, hb⟩
 replace HC := hidp (HC.out.keep hb)
 replace HB := hidp (Bgo HB.out hb)
 clear hb
 clear x0 x1 x2
 obtain ⟨x0, x1, x2⟩ := HC.out.three
 go_wp2_with fail
 refine (live24_c _ (HTL.out.below HB.out)).mono ?_
 rintro e w19 ⟨rfl, hb⟩
 have HBL := hidp (Bgo HB.out hb)
 clear hb
 go_wp2
 go_ret
 exact ⟨rfl, HBL.out⟩

def wholeS24 (vals : List Nat) : Nat -> Option Nat := fun i => vals[i]?
set_option maxHeartbeats 12800000 in
theorem SweepPages_main {H : AuH} (p : Int) (hpb : -9223372036854775808 <= p /\ p <= 9223372036854775807) (A : Option Addr) (c n m : Nat) (vals : List Nat) (HNN : Hid (vals.length = n)) (H32 : Hid (∀ x ∈ vals, x < 2 ^ 32))
  (hn : n <= 6238) (hq : H.p <= 64) (hnc : n <= c) (hcm : c <= maxLen)
  (hfew : Hid ((∀ j, j < H.p -> VOk n (sweepTo n (wholeS24 vals) H.t H.p H.s j freshS).2) -> (sweepTo n (wholeS24 vals) H.t H.p H.s H.p freshS).2.wr.length <= 24 * (sweepTo n (wholeS24 vals) H.t H.p H.s H.p freshS).1))
  (W : World) (hT : SlotsLaid W) (HR : Hid (Reads W W.heap.size 1 A n (valVs vals))) (hX : Hid (XCheckIs W H.t H.p H.s A n c m true)) :
  Calls Tryz.prog 3 #[.agg #[.int .i64 (H.t : Int), .int .i64 (H.p : Int), .int .i64 (H.s : Int)], .slice A n c, .int .i64 p] W (Keeps W) := by
 have t2 : decide ((H.p : Int) <= (64 : Int)) = true := decide_eq_true (by omega)
 have hcm2 : c <= 9223372036854775807 := hcm
 have hq10 : (H.p : Int) <= 1024 := by omega
 have hqn : H.p <= 1024 := by omega
 have hn40 : n < 2 ^ 40 := by omega
 have HPB := hidp hpb
 have HTL := hidp hT
 clear hT
 have HC := hidp (Held.new W 23 #[.int .i64 (H.t : Int), .int .i64 (H.p : Int), .int .i64 (H.s : Int)])
 have HB := hidp (Bnew (B0 W) (.cells #[.int .i64 (H.t : Int), .int .i64 (H.p : Int), .int .i64 (H.s : Int)] 23))
 obtain ⟨x0, x1, x2⟩ := HC.out.three
 go_enter Tryz.func3, Tryz.ntmps3
 go_wp2_with fail
 refine (few14_c H.t H.p H.s _).mono ?_
 rintro e w1 ⟨rfl, hb⟩
 rw [t2]
 replace HC := hidp (HC.out.keep hb)
 replace HB := hidp (Bgo HB.out hb)
 clear hb
 clear x0 x1 x2
 obtain ⟨x0, x1, x2⟩ := HC.out.three
 go_wp2_with fail
 refine (xSound_c H.t H.p H.s A n c m true _ (hX.out.grown HB.out)).mono ?_
 rintro e w2 ⟨rfl, hb⟩
 replace HC := hidp (HC.out.keep hb)
 replace HB := hidp (Bgo HB.out hb)
 clear hb
 clear x0 x1 x2
 obtain ⟨x0, x1, x2⟩ := HC.out.three
 have HL0 : Hid (W.heap.size < w2.heap.size) := hidp HC.out.lt
 have HWS : Hid (W.heap.size <= w2.heap.size) := hidp HB.out.size
 have HR1 : Hid (Reads w2 w2.heap.size 1 A n (valVs vals)) := hidp ((HR.out.below HB.out).more HB.out.size)
 go_wp2_with fail
 refine (Whole_c A c vals n HNN.out (by omega) H32.out _ (by
  intro h0
  obtain ⟨ad', e, _, hc⟩ := HR1.out.2 h0
  exact ⟨ad', e, hc⟩)).mono ?_
 rintro e w3 ⟨b1, o1, rfl, hI, hB⟩
 have HV2 : Hid (IsView w3 w2.heap.size b1 n true o1 (wholeS24 vals) freshS) := hidp hI
 replace HB := hidp (Bgo HB.out hB)
 have HR2 : Hid (Reads w3 w3.heap.size 1 A n (valVs vals)) := hidp ((HR1.out.below hB).more hB.size)
 replace HC := hidp (HC.out.keep hB)
 have HLT : Hid ((W.heap.size) < w2.heap.size) := hidp HL0.out
 have HWZ : Hid (W.heap.size <= w2.heap.size) := hidp HWS.out
 clear hI hB HR1
 clear x0 x1 x2
 obtain ⟨x0, x1, x2⟩ := HC.out.three
 go_wp2_with fail
 refine (RWhole_c A c vals n HNN.out (by omega) hnc hcm H32.out _ HR2.out).mono ?_
 rintro e w4 ⟨b2, v2, rfl, hI, hB⟩
 have HV3 := hidp (HV2.out.keep hB)
 have HA3 : Hid (IsRefV w4 w3.heap.size b2 n true v2 (wholeS24 vals) freshS) := hidp hI
 replace HB := hidp (Bgo HB.out hB)
 replace HC := hidp (HC.out.keep hB)
 have HL2 : Hid (∀ i, o1.A b1 i -> i < w3.heap.size) := hidp HV2.out.lt
 have HL1 : Hid (w2.heap.size <= w3.heap.size) := hidp (by have h1 := HV2.out.head.lt; have h2 := HV2.out.ge b1 (.inl (.inl (.inl rfl))); omega)
 clear hI hB HV2 HR2
 generalize hz1 : w2.heap.size = z1 at *
 generalize hz2 : w3.heap.size = z2 at *
 have HD : Hid (Duo W (vOb z1 b1 n true (wholeS24 vals)) (rOb z2 b2 n true (wholeS24 vals)) (o1.A b1) (OwnF b2 6 v2) (fun g => g = W.heap.size) freshS freshS w4) := hidp ⟨⟨o1, HV3.out, rfl⟩, ⟨v2, HA3.out, rfl⟩, fun i hi hj => by have := HL2.out i hi; have := HA3.out.parts.ge i hj; omega, fun g hg => by
   have hl := HLT.out
   have hl1 := HL1.out
   have hlt := HV3.out.head.lt
   rcases hg with hg
   ·subst hg; exact ⟨HC.out.lt, fun x => by have := HV3.out.ge _ x; omega, fun x => by have := HA3.out.parts.ge _ x; omega⟩, fun i hi => by
   have := HWZ.out
   rcases hi with hi | hi
   ·have := HV3.out.ge _ hi; omega
   ·have := HA3.out.parts.ge _ hi; have := HL1.out; omega, HB.out⟩
 clear HV3 HA3 HL2 HL1 HLT HWZ hz1 hz2
 clear x0 x1 x2
 obtain ⟨x0, x1, x2⟩ := HC.out.three
 obtain ⟨⟨rb, sx⟩, hsx⟩ : ∃ x, sweepP n (wholeS24 vals) H.t H.p H.s p freshS = x := ⟨_, rfl⟩
 have HSX := hidp hsx
 clear hsx
 have hbb : (rb != rb) = false := by simp
 go_wp2_with fail
 replace HC := hidp HC.out.drw
 replace HD := hidp (HD.out.keep (Bdrew (B0 _)))
 refine wp_region_held_drew (S := (fun w' => w'.cell? ⟨W.heap.size, 0, none⟩ = some (.int .i64 (H.t : Int)) /\ w'.cell? ⟨W.heap.size, 1, none⟩ = some (.int .i64 (H.p : Int)) /\ w'.cell? ⟨W.heap.size, 2, none⟩ = some (.int .i64 (H.s : Int)))) (by kernel_rfl) ?_ (fun hHeld => ?_)
 ·(try dsimp only)
  first | exact HC.out.three | exact hHeld
 refine tkz 0 ?_
 refine tkz 1 ?_
 refine tkz 2 ?_
 refine tkz 4 ?_
 refine tkz 5 ?_
 refine tkz 6 ?_
 refine rdz 3 fun K hK => ?_
 go_simp
 refine (swPage_c hn40 hq10 p HPB.out (HD.out.slots24 HTL.out).1 (HD.out.slots24 HTL.out).2.1 HD.out.at1).mono ?_
 rintro e w5 ⟨rfl, h1, _⟩
 obtain ⟨A4, h2, h3⟩ := HD.out.left1 h1.left
 rw [HSX.out] at h2 ⊢
 dsimp only at h2 ⊢
 replace HC := hidp (h3.held rfl HC.out)
 skip
 replace HD := hidp h2
 clear h1 h2 h3
 refine hK.out _ _ ?_ (fun hHeld => ?_)
 ·(try dsimp only)
  first | exact HC.out.three | exact hHeld
 clear hK K
 (try simp only [Act.put, gA, gB, gC, sA, sB, sC])
 refine rdz 7 fun K hK => ?_
 go_simp
 refine (r24Page_c hn40 hq10 p HPB.out HD.out.at2).mono ?_
 rintro e w6 ⟨rfl, h1, _⟩
 obtain ⟨A4, h2, h3⟩ := HD.out.left2 h1.left
 rw [HSX.out] at h2 ⊢
 dsimp only at h2 ⊢
 replace HC := hidp (h3.held rfl HC.out)
 skip
 replace HD := hidp h2
 clear h1 h2 h3
 refine hK.out _ _ ?_ (fun hHeld => ?_)
 ·(try dsimp only)
  first | exact HC.out.three | exact hHeld
 clear hK K
 (try simp only [Act.put, gA, gB, gC, sA, sB, sC])
 refine tkz 8 ?_
 refine tkz 9 ?_
 refine dnz ?_
 clear x0 x1 x2
 obtain ⟨x0, x1, x2⟩ := HC.out.three
 clear HSX
 obtain ⟨o, hI, _⟩ := HD.out.i1
 obtain ⟨v, hR, _⟩ := HD.out.i2
 have HV := hidp hI
 have HAA := hidp hR
 replace HB := hidp HD.out.bel
 have HL : Hid (sx.rd.length < 2 ^ 40 /\ sx.wr.length < 2 ^ 40) := hidp (by have := hI.ok.few; omega)
 clear hI hR HD
 go_wp2_with fail
 refine (vReads_c HL.out.1 _ HV.out).mono ?_
 rintro e w90 ⟨r6, rfl, ho, hb⟩
 replace HV := hidp (HV.out.keep hb)
 replace HAA := hidp (HAA.out.keep hb)
 replace HB := hidp (Bgo HB.out hb)
 replace HC := hidp (HC.out.keep hb)
 have HR6 := hidp (rowV_nat6 ho)
 clear hb ho
 clear x0 x1 x2
 obtain ⟨x0, x1, x2⟩ := HC.out.three
 go_wp2_with fail
 refine (vWrites_c HL.out.2 _ HV.out).mono ?_
 rintro e w91 ⟨r7, rfl, ho, hb⟩
 replace HV := hidp (HV.out.keep hb)
 replace HAA := hidp (HAA.out.keep hb)
 replace HB := hidp (Bgo HB.out hb)
 replace HC := hidp (HC.out.keep hb)
 have HP7 := hidp (RowP.of_own ho)
 have HR7 := hidp (HR6.out.below hb)
 clear hb ho HR6
 clear x0 x1 x2
 obtain ⟨x0, x1, x2⟩ := HC.out.three
 go_wp2_with fail
 refine (vMissing_c _ HV.out).mono ?_
 rintro e w92 ⟨rfl, hw⟩
 subst hw
 go_wp2_with fail
 refine (Same_c HL.out.1 HL.out.2 r6 r7 _ HAA.out HR7.out HP7.out).mono ?_
 rintro e w93 ⟨rfl, hb⟩
 replace HV := hidp (HV.out.keep hb)
 replace HB := hidp (Bgo HB.out hb)
 replace HC := hidp (HC.out.keep hb)
 clear hb HAA HR7 HP7
 clear x0 x1 x2
 obtain ⟨x0, x1, x2⟩ := HC.out.three
 clear HV HL
 go_wp2_with fail
 rename World => w2
 have HL0 : Hid (W.heap.size < w2.heap.size) := hidp HC.out.lt
 have HWS : Hid (W.heap.size <= w2.heap.size) := hidp HB.out.size
 have HR1 : Hid (Reads w2 w2.heap.size 1 A n (valVs vals)) := hidp ((HR.out.below HB.out).more HB.out.size)
 skip
 refine (Whole_c A c vals n HNN.out (by omega) H32.out _ (by
  intro h0
  obtain ⟨ad', e, _, hc⟩ := HR1.out.2 h0
  exact ⟨ad', e, hc⟩)).mono ?_
 rintro e w3 ⟨b1, o1, rfl, hI, hB⟩
 have HV2 : Hid (IsView w3 w2.heap.size b1 n true o1 (wholeS24 vals) freshS) := hidp hI
 replace HB := hidp (Bgo HB.out hB)
 have HR2 : Hid (Reads w3 w3.heap.size 1 A n (valVs vals)) := hidp ((HR1.out.below hB).more hB.size)
 replace HC := hidp (HC.out.keep hB)
 have HLT : Hid ((W.heap.size) < w2.heap.size) := hidp HL0.out
 have HWZ : Hid (W.heap.size <= w2.heap.size) := hidp HWS.out
 clear hI hB HR1
 clear x0 x1 x2
 obtain ⟨x0, x1, x2⟩ := HC.out.three
 go_wp2_with fail
 refine (RWhole_c A c vals n HNN.out (by omega) hnc hcm H32.out _ HR2.out).mono ?_
 rintro e w4 ⟨b2, v2, rfl, hI, hB⟩
 have HV3 := hidp (HV2.out.keep hB)
 have HA3 : Hid (IsRefV w4 w3.heap.size b2 n true v2 (wholeS24 vals) freshS) := hidp hI
 replace HB := hidp (Bgo HB.out hB)
 replace HC := hidp (HC.out.keep hB)
 have HL2 : Hid (∀ i, o1.A b1 i -> i < w3.heap.size) := hidp HV2.out.lt
 have HL1 : Hid (w2.heap.size <= w3.heap.size) := hidp (by have h1 := HV2.out.head.lt; have h2 := HV2.out.ge b1 (.inl (.inl (.inl rfl))); omega)
 clear hI hB HV2 HR2
 generalize hz1 : w2.heap.size = z1 at *
 generalize hz2 : w3.heap.size = z2 at *
 have HD : Hid (Duo W (vOb z1 b1 n true (wholeS24 vals)) (rOb z2 b2 n true (wholeS24 vals)) (o1.A b1) (OwnF b2 6 v2) (fun g => g = W.heap.size) freshS freshS w4) := hidp ⟨⟨o1, HV3.out, rfl⟩, ⟨v2, HA3.out, rfl⟩, fun i hi hj => by have := HL2.out i hi; have := HA3.out.parts.ge i hj; omega, fun g hg => by
   have hl := HLT.out
   have hl1 := HL1.out
   have hlt := HV3.out.head.lt
   rcases hg with hg
   ·subst hg; exact ⟨HC.out.lt, fun x => by have := HV3.out.ge _ x; omega, fun x => by have := HA3.out.parts.ge _ x; omega⟩, fun i hi => by
   have := HWZ.out
   rcases hi with hi | hi
   ·have := HV3.out.ge _ hi; omega
   ·have := HA3.out.parts.ge _ hi; have := HL1.out; omega, HB.out⟩
 clear HV3 HA3 HL2 HL1 HLT HWZ hz1 hz2
 clear x0 x1 x2
 obtain ⟨x0, x1, x2⟩ := HC.out.three
 obtain ⟨⟨sn, sx⟩, hsx⟩ : ∃ x, sweepTo n (wholeS24 vals) H.t H.p H.s H.p freshS = x := ⟨_, rfl⟩
 have HSX := hidp hsx
 clear hsx
 go_wp2_with fail
 replace HC := hidp HC.out.drw
 replace HD := hidp (HD.out.keep (Bdrew (B0 _)))
 refine wp_region_held_drew (S := (fun w' => w'.cell? ⟨W.heap.size, 0, none⟩ = some (.int .i64 (H.t : Int)) /\ w'.cell? ⟨W.heap.size, 1, none⟩ = some (.int .i64 (H.p : Int)) /\ w'.cell? ⟨W.heap.size, 2, none⟩ = some (.int .i64 (H.s : Int)))) (by kernel_rfl) ?_ (fun hHeld => ?_)
 ·(try dsimp only)
  first | exact HC.out.three | exact hHeld
 refine tkz 0 ?_
 refine tkz 1 ?_
 refine tkz 3 ?_
 refine tkz 4 ?_
 refine rdz 2 fun K hK => ?_
 go_simp
 refine (swAll_c hn40 H.p hqn rfl (HD.out.slots24 HTL.out).1 (HD.out.slots24 HTL.out).2.1 HD.out.at1).mono ?_
 rintro e w5 ⟨rfl, h1, _, hok⟩
 obtain ⟨A4, h2, h3⟩ := HD.out.left1 h1.left
 rw [HSX.out] at h2 ⊢
 dsimp only at h2 ⊢
 replace HC := hidp (h3.held rfl HC.out)
 have HOKS := hidp hok
 replace HD := hidp h2
 clear h1 h2 h3 hok
 refine hK.out _ _ ?_ (fun hHeld => ?_)
 ·(try dsimp only)
  first | exact HC.out.three | exact hHeld
 clear hK K
 (try simp only [Act.put, gA, gB, gC, sA, sB, sC])
 refine rdz 5 fun K hK => ?_
 go_simp
 refine (r24All_c hn40 H.p hqn rfl HD.out.at2).mono ?_
 rintro e w6 ⟨rfl, h1, _⟩
 obtain ⟨A4, h2, h3⟩ := HD.out.left2 h1.left
 rw [HSX.out] at h2 ⊢
 dsimp only at h2 ⊢
 replace HC := hidp (h3.held rfl HC.out)
 skip
 replace HD := hidp h2
 clear h1 h2 h3
 refine hK.out _ _ ?_ (fun hHeld => ?_)
 ·(try dsimp only)
  first | exact HC.out.three | exact hHeld
 clear hK K
 (try simp only [Act.put, gA, gB, gC, sA, sB, sC])
 refine tkz 6 ?_
 refine tkz 7 ?_
 refine dnz ?_
 clear x0 x1 x2
 obtain ⟨x0, x1, x2⟩ := HC.out.three
 have HW24 : Hid (sx.wr.length <= 24 * sn) := hidp (by
  have h := hfew.out (fun j hj => HOKS.out j (by omega))
  rw [HSX.out] at h
  exact h)
 have HSN : Hid (sn <= 64) := hidp (by
  have h := sweepTo_le n (wholeS24 vals) H.t H.p H.s H.p freshS
  rw [HSX.out] at h
  dsimp only at h
  omega)
 clear HSX HOKS
 have hnn : ((sn : Int) == (sn : Int)) = true := by simp
 have hnnn : (sn == sn) = true := by simp
 obtain ⟨o, hI, _⟩ := HD.out.i1
 obtain ⟨v, hR, _⟩ := HD.out.i2
 have HV := hidp hI
 have HAA := hidp hR
 replace HB := hidp HD.out.bel
 have HL : Hid (sx.rd.length < 2 ^ 40 /\ sx.wr.length < 2 ^ 40) := hidp (by have := hI.ok.few; omega)
 clear hI hR HD
 go_wp2_with fail
 refine (vReads_c HL.out.1 _ HV.out).mono ?_
 rintro e w90 ⟨r6, rfl, ho, hb⟩
 replace HV := hidp (HV.out.keep hb)
 replace HAA := hidp (HAA.out.keep hb)
 replace HB := hidp (Bgo HB.out hb)
 replace HC := hidp (HC.out.keep hb)
 have HR6 := hidp (rowV_nat6 ho)
 clear hb ho
 clear x0 x1 x2
 obtain ⟨x0, x1, x2⟩ := HC.out.three
 go_wp2_with fail
 refine (vWrites_c HL.out.2 _ HV.out).mono ?_
 rintro e w91 ⟨r7, rfl, ho, hb⟩
 replace HV := hidp (HV.out.keep hb)
 replace HAA := hidp (HAA.out.keep hb)
 replace HB := hidp (Bgo HB.out hb)
 replace HC := hidp (HC.out.keep hb)
 have HP7 := hidp (RowP.of_own ho)
 have HR7 := hidp (HR6.out.below hb)
 clear hb ho HR6
 clear x0 x1 x2
 obtain ⟨x0, x1, x2⟩ := HC.out.three
 go_wp2_with fail
 refine (vMissing_c _ HV.out).mono ?_
 rintro e w92 ⟨rfl, hw⟩
 subst hw
 go_wp2_with fail
 refine (Same_c HL.out.1 HL.out.2 r6 r7 _ HAA.out HR7.out HP7.out).mono ?_
 rintro e w93 ⟨rfl, hb⟩
 replace HV := hidp (HV.out.keep hb)
 replace HB := hidp (Bgo HB.out hb)
 replace HC := hidp (HC.out.keep hb)
 clear hb HAA HR7 HP7
 clear x0 x1 x2
 obtain ⟨x0, x1, x2⟩ := HC.out.three
 obtain ⟨wl, hwl⟩ : ∃ wl, sx.wr.length = wl := ⟨_, rfl⟩
 have HWL : Hid (wl <= 24 * sn) := hidp (by rw [<- hwl]; exact HW24.out)
 go_wp2_with fail
 refine (vWrites_c HL.out.2 _ HV.out).mono ?_
 rintro e w96 ⟨r8, rfl, ho, hb⟩
 replace HB := hidp (Bgo HB.out hb)
 rw [hwl] at ho
 obtain ⟨A8, k8, hu8⟩ := own_slice ho
 subst hu8
 clear ho hb HV HL hwl
 by_cases h1 : 1 < sn
 ·have q1 : (1 : Int) < (sn : Int) := by omega
  have w96 : IntKind.i64.wrap (96 * (sn : Int)) = 96 * (sn : Int) := by have := HSN.out; exact i64_same (by omega) (by omega)
  have d96 : decide ((wl : Int) <= 96 * (sn : Int)) = true := by have := HWL.out; exact decide_eq_true (by omega)
  have p96 : (wl : Int) <= 96 * (sn : Int) := by have := HWL.out; omega
  clear h1
  go_wp2_with fail
  refine (live24_c _ (HTL.out.below HB.out)).mono ?_
  rintro e w19 ⟨rfl, hb⟩
  have HBL := hidp (Bgo HB.out hb)
  clear hb
  go_wp2
  go_ret
  exact ⟨rfl, HBL.out⟩
 ·have q1 : ¬ (1 : Int) < (sn : Int) := by omega
  have d96 : decide ((wl : Int) <= 96) = true := by have := HWL.out; exact decide_eq_true (by omega)
  have p96 : (wl : Int) <= 96 := by have := HWL.out; omega
  clear h1
  go_wp2_with fail
  refine (live24_c _ (HTL.out.below HB.out)).mono ?_
  rintro e w19 ⟨rfl, hb⟩
  have HBL := hidp (Bgo HB.out hb)
  clear hb
  go_wp2
  go_ret
  exact ⟨rfl, HBL.out⟩
theorem SweepPages_calls (t q s p : Int) (hpb : -9223372036854775808 <= p /\ p <= 9223372036854775807) (A : Option Addr) (c : Nat) (vals : List Nat) (hnc : vals.length <= c) (hcm : c <= maxLen) (h32 : ∀ x ∈ vals, x < 2 ^ 32) (W : World) (hT : SlotsLaid W) (HR : Hid (Reads W W.heap.size 1 A vals.length (valVs vals))) :
  Calls Tryz.prog 3 #[.agg #[.int .i64 t, .int .i64 q, .int .i64 s], .slice A vals.length c, .int .i64 p] W (Keeps W) := by
 by_cases hq : q <= 64
 ·rcases heap13_or W t q s A c vals hnc hcm h32 HR.out with ⟨m, hX⟩ | ⟨H, ad, m, rfl, rfl, rfl, rfl, hV, HV, hv, hto, hX⟩
  ·exact SweepPages_no t q s p A _ c m hq W hT (hidp hX)
  ·have hn : vals.length <= 6238 := by have := HV.nums; omega
   have hK : ∀ i, i < vals.length -> wholeS24 vals i = some (H.V i) := fun i hi => by
    unfold wholeS24
    rw [hV i, List.getElem?_eq_getElem hi]
    simp [List.getD, List.getElem?_eq_getElem hi]
   have h32K : ∀ i x, wholeS24 vals i = some x -> x < 2 ^ 32 := fun i x h => h32 x (List.mem_of_getElem? h)
   exact SweepPages_main p hpb _ c _ m vals (hidp rfl) (hidp h32) hn (by omega) hnc hcm (hidp fun hok => by
    obtain ⟨LL, hk⟩ := AuH.okL_of (by have := HV.nums; omega) (told_rules hto)
    obtain ⟨_, _, _, h, _⟩ := SwInv.all HV h32K (SwInv.start HV hk hK) H.p (Nat.le_refl _) hok
    have h : _ <= ([] : List (Nat × Nat)).length + _ := h
    simpa using h) W hT HR (hidp hX)
 ·exact SweepPages_few t q s p A _ c 0 (by omega) W hT
end
end Go.Proofs.YtnmhdlpnimdffaaGreatDoor

namespace Go.Proofs.YtnmhdlpnimdffaaGreatDoor
open Go.ChangeShapes Go.WideShapes Go.ChangeAt Go.RowKit
set_option linter.unusedVariables false
set_option linter.unusedSimpArgs false
section
set_option maxRecDepth 100000 in
theorem open_conf {H : Type} {enc : TypeId × Value -> H} {W : World} {b base : Nat} {sp : Nat -> Bool} {held : Bool} {v : Value} {d : DataW H} {p : List MemPlace}
  (hv : Value.okWide Tryz.prog W .any b 23 v) (h : DataW.Trod enc Tryz.prog W base sp held 23 v d p) :
  ∃ (t q s : Int), v = .agg #[.int .i64 t, .int .i64 q, .int .i64 s] := by
 obtain ⟨v0, v1, v2, y0, y1, y2, m, rfl, rfl, rfl, h0, h1, h2⟩ := Joins.open_agg3 Tryz.underlying23 (by kernel_rfl) (by kernel_rfl) hv h
 obtain ⟨a, e0, _, w0⟩ := DataW.trod_int Tryz.underlying3 h0
 obtain ⟨c, e1, _, w1⟩ := DataW.trod_int Tryz.underlying3 h1
 obtain ⟨k, e2, _, w2⟩ := DataW.trod_int Tryz.underlying3 h2
 simp at e0 e1 e2
 subst e0 e1 e2
 exact ⟨a, c, k, rfl⟩
end
end Go.Proofs.YtnmhdlpnimdffaaGreatDoor

namespace Go.Proofs.YtnmhdlpnimdffaaGreatDoor
open Go.ChangeShapes Go.WideShapes Go.ChangeAt Go.RowKit
set_option linter.unusedVariables false
section
section
variable {H : Type} {enc : TypeId × Value -> H}
theorem law_lifted_laid {C : Checked} {os : Os} {f : FuncId} {fn : Func} {s : ChangeSpec} {tb : TypeId} {laid : List (String × DataW Unit)}
  (own : ownKnob C.prog.godebug = none) (started : os.Started) (noInit : C.prog.inits.idxOf? f = none) (hfn : C.prog.funcs[f]? = some fn)
  (witness : ∃ (w : World) (tape : Tape) (i : Input), w.os = os /\ (w.forCall tape i).Shaped C.prog /\ i.vars = [] /\ Input.okWide C.prog (w.forCall tape i) .any w.heap.size f i /\
   ((s.pre enc C.prog fn [] false (w.forCall tape i).memory i.args /\ laidMetH C.prog laid (w.forCall tape i).memory) /\ sizedMet enc C.prog fn (OpenSpec.ofChange s) false (w.forCall tape i).memory i.args) /\
   ({} : Assume).holds C.prog (lone (Frame.enter C.prog f i.args .normal) [] (w.forCall tape i)))
  (hl : laidOutB C.prog = true) (hp : (fn.params.toList.all fun t => C.prog.readableRec t && decide (t < C.prog.types.size)) = true) (hv : s.vars = []) (hr : fn.resultTypes = #[tb]) (htb : C.prog.underlying tb = some .bool)
  (hs : ∀ ds : List (DataW H), ds.length = fn.params.size -> s.fn H ds = ⟨[.lit (.bool true)], ds, []⟩)
  (walk : ∀ (W : World) (base : Nat) (args : Array Value) (ds : List (DataW H)) (ps : List MemPlace), laidMetH C.prog laid W -> Given enc C.prog fn W base args ds ps -> Calls C.prog f args W (Keeps W)) :
  ReturnsInHanded {} C os f .any (fun w args => (s.pre enc C.prog fn [] false w args /\ laidMetH C.prog laid w) /\ sizedMet enc C.prog fn (OpenSpec.ofChange s) false w args) (s.post enc C.prog fn false true false false) := by
 refine returnsInHanded_of_change_and (C := C) (X := fun w _ => laidMetH C.prog laid w) (fun _ _ _ hh h => h.of_heap hh) own started noInit hfn witness ?_
 intro W base args ds gs before hval hW _ hsz hL _
 have hW0 := hW
 obtain ⟨p, q, hA, hV, rfl, hz, hn⟩ := hW0
 rw [hv] at hV
 obtain ⟨rfl, rfl⟩ := trodVars_none hV
 have hvt : s.plain.varTypes C.prog = [] := by
  simp [ChangeSpec.plain, DataSpec.varTypes, hv]
 rw [hvt, List.append_nil, List.append_nil] at hsz
 have hp' : ∀ t ∈ fn.params.toList, C.prog.readableRec t = true /\ t < C.prog.types.size := fun t ht => by
  have := List.all_eq_true.1 hp t ht
  simpa using this
 refine (walk W base args ds p hL ⟨hval, hA, fun x hx => hW.lt x (List.mem_append_left _ hx), hsz⟩).mono ?_
 rintro e W' ⟨rfl, hb⟩
 exact ⟨_, rfl, law_post hl hp' hv hr htb hs hW hb⟩
end

theorem card_of {p : Pinned} {s : OpenSpec} {c : OpenClaim} {kinds : List LaidKind} {tests : Bool} {har : Bool × String} {lk : Bool} (f : FuncId) (fn : Func)
  (hc : c.holds p s) (hw : c.wfByText s = true) (htie : c.laidByTextAt .later p kinds tests) (hst : c.start = .entering) (hnb : c.noBlocks = false /\ c.again = false)
  (hm : p.checked.prog.mainIs = some (har.1, har.2.toList)) (hn : (!har.1 && har.2.isEmpty && !lk) = false) (hname : p.checked.prog.funcNamed c.func = some f) (hfn : p.checked.prog.funcs[f]? = some fn)
  (hlk : lk = p.checked.prog.looks []) (hps : (fn.params.toList.all fun t => !p.checked.prog.wantsStandIn t) = true) (hg : false = c.goesBy p.checked.prog) :
  Claim7.holds p (.plain s) { stood := { row := c, standIns := [], harness := har, looks := lk }, kinds := [], alts := [], laidByText := true, laidKinds := kinds, laidTests := tests, laidLooks := .later } :=
 Claim7.holds_tied_plain_at .later [] kinds tests har lk hc (fun _ h => by cases h) hw (fun _ h => by cases h) htie hst hnb hm hn
  (fun f' fn' hf' hfn' => by
   obtain rfl := Option.some.inj (hname.symm.trans hf')
   obtain rfl := Option.some.inj (hfn.symm.trans hfn')
   refine ⟨hlk, fun j t ht => ?_⟩
   have := List.all_eq_true.1 hps t (by simpa using Array.mem_of_getElem? ht)
   simpa using this)
  hg

theorem tab_of_laid {P : Program} {W : World} {laid : List (String × DataW Unit)} {name : String} {k : IntKind} {zs : List Int} {g : Nat} {t e : TypeId} {n : Nat}
  (h : laidMetH P laid W) (hf : (laid.filter fun x => x.1 == name) = [(name, Lib.tabData k zs)])
  (hg : P.globalNamed name = some g) (hty : (P.globals[g]?).map (·.type) = some t) (ht : P.underlying t = some (.array n e)) (he : P.underlying e = some (.int k)) (hce : P.cellsOf e = 1) (hct : P.cellsOf t = n) :
  ∀ i, i < zs.length -> W.cell? ⟨g, i, none⟩ = some (.int k (zs.getD i 0)) := by
 have h1 := h.filter (fun x => x.1 == name)
 rw [hf, MakeChecks.laidMetH_plain _ _ _ (by rfl)] at h1
 exact fun i hi => (Lib.tabIs_of_head hg hty ht he hce hct h1).cell hg i hi
end
section
theorem slots16_laid {W : World} {laid : List (String × DataW Unit)} (h : laidMetH Tryz.prog laid W)
  (hf : (laid.filter fun x => x.1 == "nacre/class.slots") = [("nacre/class.slots", Lib.tabData .i64 [32, 21, 16, 10, 8, 5, 4, 3, 2])]) : SlotsLaid W := by
 have h1 := tab_of_laid h hf (g := 0) (t := 154) (e := 3) (n := 9) (by kernel_rfl) (by kernel_rfl) Tryz.underlying154 Tryz.underlying3 (by kernel_rfl) (by kernel_rfl)
 intro k hk
 rw [h1 k (by simpa using hk)]
 have : ∀ j, j < 9 -> ([32, 21, 16, 10, 8, 5, 4, 3, 2] : List Int).getD j 0 = ((slotN j : Nat) : Int) := by decide
 rw [this k hk]
end
end Go.Proofs.YtnmhdlpnimdffaaGreatDoor
