/-
  What the methods of slab.page do: taken, setTaken, isFull, push, pull. Written by slab/gen_prog.py.
-/
import Derived.Test.YtnmhdlpnimdffaaGreatDoorA08
import Derived.Test.YtnmhdlpnimdffaaGreatDoorASpanRelease
import Derived.Test.YtnmhdlpnimdffaaGreatDoorA07
import Derived.Test.YtnmhdlpnimdffaaGreatDoorA04
import Derived.Lib.Tables
import Derived.Test.YtnmhdlpnimdffaaGreatDoorA03
import Derived.Deep.RegionHeld3
import Derived.Test.YtnmhdlpnimdffaaGreatDoorA01
import Derived.Test.YtnmhdlpnimdffaaGreatDoorA09
import Derived.WalkMore
namespace Go.Proofs.YtnmhdlpnimdffaaGreatDoor
open Go.ChangeShapes Go.WideShapes Go.ChangeAt Go.RowKit Go.Maps
set_option linter.unusedVariables false
set_option linter.unusedSimpArgs false
set_option maxRecDepth 100000
section
theorem cell_lt16 {w : World} {g o : Nat} {v : Value} (h : w.cell? ⟨g, o, none⟩ = some v) : g < w.heap.size := by
 rcases Nat.lt_or_ge g w.heap.size with h1 | h1
 ·exact h1
 ·have h2 : w.heap[g]? = none := Array.getElem?_eq_none h1
  unfold World.cell? at h
  rw [h2] at h
  cases h
theorem SlotsLaid.at_ {O : Ob} {w0 w : World} {A G : Nat -> Prop} {st : Vst} (hT : SlotsLaid w0) (hA : ¬ A 0) (h : O.At w0 A G st w) : SlotsLaid w := by
 obtain ⟨A', h1, h2, h3, h4⟩ := h
 intro k hk
 have hc := hT k hk
 have hl : (0 : Nat) < w0.heap.size := cell_lt16 hc
 have hb := h3.block _ hl hA
 rw [<- hc]
 unfold World.cell?
 rw [hb]
section
variable {base b n : Nat} {wh all : Bool} {K : Nat -> Option Nat} {st : Vst} {w w0 : World} {A G : Nat -> Prop} {t q s k : Int}
theorem rack_at {k : Int} (k0 : 0 <= k) (k8 : k <= 8) : nthI 13 9 1 k = 13 + k := by rw [nth_on (by omega) (by omega) (by omega)]; omega

end
end
section
theorem ones_add (v a b : Nat) : HM.onesTo v (a + b) = HM.onesTo v a + HM.onesTo (v / 2 ^ a) b := by
 induction b with
 | zero => rfl
 | succ b ih => rw [<- Nat.add_assoc, HM.onesTo_succ, HM.onesTo_succ, ih, Nat.testBit_div_two_pow, Nat.add_comm b a, Nat.add_assoc]
theorem pop8_all : ∀ x : Fin 256, Lib.pop8 (x.val : Int) = ((HM.onesTo x.val 8 : Nat) : Int) := by decide +kernel
theorem pop8_at (x : Nat) (h : x < 256) : Lib.pop8 (x : Int) = ((HM.onesTo x 8 : Nat) : Int) := pop8_all ⟨x, h⟩
theorem ones_low (v : Nat) : HM.onesTo (v % 256) 8 = HM.onesTo v 8 := by
 unfold HM.onesTo
 congr 1
 apply List.filter_congr
 intro i hi
 rw [show (256 : Nat) = 2 ^ 8 from rfl, Nat.testBit_mod_two_pow, decide_eq_true (by simpa using hi)]
 rfl
theorem ones_four (v : Nat) : HM.onesTo v 32 = HM.onesTo (v / 2 ^ 24 % 256) 8 + HM.onesTo (v / 2 ^ 16 % 256) 8 + HM.onesTo (v / 2 ^ 8 % 256) 8 + HM.onesTo (v % 256) 8 := by
 rw [ones_low, ones_low, ones_low, ones_low, show (32 : Nat) = 24 + 8 from rfl, ones_add v 24 8, show (24 : Nat) = 16 + 8 from rfl, ones_add v 16 8, show (16 : Nat) = 8 + 8 from rfl, ones_add v 8 8]
 omega
theorem u8_sum {x y : Nat} (h : x + y < 256) : IntKind.u8.wrap ((x : Int) + (y : Int)) = ((x + y : Nat) : Int) := by
 simp only [IntKind.wrap, IntKind.bits, IntKind.signed]; simp; omega
theorem and255 {x : Int} {y : Nat} (h : x = (y : Int)) (hy : y < 2 ^ 32) : bits .and .u32 x 255 = ((y % 256 : Nat) : Int) := by
 subst h
 have := u32_and_nat y 255 hy (by omega)
 rw [show (255 : Nat) = 2 ^ 8 - 1 from rfl, Nat.and_two_pow_sub_one_eq_mod] at this
 exact this
set_option maxHeartbeats 3200000 in
theorem bitsOnes_c (v : Nat) (hv : v < 2 ^ 32) (w : World) :
  Calls Tryz.prog 80 #[.int .u32 (v : Int)] w fun e w' => e = .returned (.int .i64 ((HM.onesTo v 32 : Nat) : Int)) /\ Below w.heap.size w w' := by
 obtain ⟨a, ha⟩ : ∃ a, v / 2 ^ 24 % 256 = a := ⟨_, rfl⟩
 obtain ⟨b, hb⟩ : ∃ b, v / 2 ^ 16 % 256 = b := ⟨_, rfl⟩
 obtain ⟨c, hc⟩ : ∃ c, v / 2 ^ 8 % 256 = c := ⟨_, rfl⟩
 obtain ⟨d, hd⟩ : ∃ d, v % 256 = d := ⟨_, rfl⟩
 have e1 : (v : Int) / 16777216 = (a : Int) := by omega
 have e2 : bits .and .u32 ((v : Int) / 65536) 255 = (b : Int) := by rw [and255 (y := v / 2 ^ 16) (by omega) (by omega), hb]
 have e3 : bits .and .u32 ((v : Int) / 256) 255 = (c : Int) := by rw [and255 (y := v / 2 ^ 8) (by omega) (by omega), hc]
 have e4 : bits .and .u32 (v : Int) 255 = (d : Int) := by rw [and255 (y := v) rfl (by omega), hd]
 have a1 : (a : Int) <= 255 := by omega
 have b1 : (b : Int) <= 255 := by omega
 have c1 : (c : Int) <= 255 := by omega
 have d1 : (d : Int) <= 255 := by omega
 have a2 := HM.onesTo_le a 8
 have b2 := HM.onesTo_le b 8
 have c2 := HM.onesTo_le c 8
 have d2 := HM.onesTo_le d 8
 have HF := hidp (ones_four v)
 rw [ha, hb, hc, hd] at HF
 have pa := pop8_at a (by omega)
 have pb := pop8_at b (by omega)
 have pc := pop8_at c (by omega)
 have pd := pop8_at d (by omega)
 generalize HM.onesTo a 8 = x at *
 generalize HM.onesTo b 8 = y at *
 generalize HM.onesTo c 8 = z at *
 generalize HM.onesTo d 8 = u at *
 have s1 : IntKind.u8.wrap ((x : Int) + (y : Int)) = ((x + y : Nat) : Int) := u8_sum (by omega)
 have s2 : IntKind.u8.wrap (((x + y : Nat) : Int) + (z : Int)) = ((x + y + z : Nat) : Int) := u8_sum (by omega)
 have s3 : IntKind.u8.wrap (((x + y + z : Nat) : Int) + (u : Int)) = ((x + y + z + u : Nat) : Int) := u8_sum (by omega)
 have s4 : IntKind.i64.wrap ((x + y + z + u : Nat) : Int) = ((x + y + z + u : Nat) : Int) := i64_same (by omega) (by omega)
 obtain ⟨r, hr⟩ : ∃ r, x + y + z + u = r := ⟨_, rfl⟩
 obtain ⟨r1, hr1⟩ : ∃ r, x + y = r := ⟨_, rfl⟩
 obtain ⟨r2, hr2⟩ : ∃ r, r1 + z = r := ⟨_, rfl⟩
 rw [hr1] at s1 s2 s3 s4 hr
 rw [hr2] at s2 s3 s4 hr
 rw [hr] at s3 s4
 have HV : Hid (HM.onesTo v 32 = r) := hidp (by rw [HF.out, hr1, hr2, hr])
 clear ha hb hc hd HF a2 b2 c2 d2 hr hr1 hr2
 have hB := Bdrew (B0 w)
 rw [HV.out]
 clear HV
 go_enter Tryz.func80, Tryz.ntmps80
 go_wp2_with fail
 refine wp_region_held_drew (S := (fun _ => True)) (by kernel_rfl) ?_ (fun hHeld => ?_)
 ·trivial
 refine tkz 0 ?_
 refine tkz 1 ?_
 refine tkz 2 ?_
 refine tkz 3 ?_
 refine tkz 4 ?_
 refine tkz 5 ?_
 refine tkz 6 ?_
 refine tkz 7 ?_
 refine tkz 8 ?_
 refine tkz 9 ?_
 refine tkz 10 ?_
 refine tkz 11 ?_
 refine tkz 12 ?_
 refine tkz 13 ?_
 refine tkz 14 ?_
 refine tkz 15 ?_
 refine tkz 16 ?_
 refine tkz 17 ?_
 refine tkz 18 ?_
 refine dnz ?_
 go_wp2
 go_ret
 exact ⟨rfl, hB⟩
set_option maxHeartbeats 3200000 in
theorem swFull_c (u : Nat) (k : Int) (c0 : 0 <= k) (c8 : k <= 8) (hu : u < 2 ^ 32) (w : World) (hT : SlotsLaid w) :
  Calls Tryz.prog 35 #[.int .u32 (u : Int), .int .i64 k] w fun e w' => e = .returned (.bool (fullB u k)) /\ Below w.heap.size w w' := by
 obtain ⟨o, ho⟩ : ∃ o, HM.onesTo u 32 = o := ⟨_, rfl⟩
 obtain ⟨m, hm⟩ : ∃ m, slotI k = m := ⟨_, rfl⟩
 have HO := hidp ho
 have HMM := hidp hm
 have HU := hidp hu
 have hb : fullB u k = decide (o = m) := by unfold fullB; rw [ho, hm]
 rw [hb]
 have t0 : ((o : Int) == (m : Int)) = decide (o = m) := by
  rw [Bool.eq_iff_iff]; simp; omega
 have HT := hidp hT
 clear hb ho hm hu hT
 go_enter Tryz.func35, Tryz.ntmps35
 go_wp2_with fail
 refine (bitsOnes_c u HU.out _).mono ?_; rintro e w1 ⟨rfl, hb⟩; rw [HO.out]; replace HT := hidp (HT.out.below hb)
 go_wp2_with fail
 refine (clSlots_c k (by omega) (by omega) _ HT.out).mono ?_; rintro e w2 ⟨rfl, rfl⟩; rw [HMM.out]
 go_wp2
 go_ret
 exact ⟨rfl, hb⟩
set_option maxHeartbeats 3200000 in
theorem swPages_c (t q s : Int) (w : World) :
  Calls Tryz.prog 54 #[.agg #[.int .i64 t, .int .i64 q, .int .i64 s]] w fun e w' => e = .returned (.int .i64 (if lC t q s = 0 then 0 else q)) /\ Below w.heap.size w w' := by
 obtain ⟨x, hx⟩ : ∃ x, lC t q s = x := ⟨_, rfl⟩
 have HX := hidp hx
 rw [hx]
 have hB := Bnew (B0 w) (.cells #[.int .i64 t, .int .i64 q, .int .i64 s] 23)
 have H0 := hidp (Held.new w 23 #[.int .i64 t, .int .i64 q, .int .i64 s])
 clear hx
 obtain ⟨x0, x1, x2⟩ := H0.out.three
 by_cases h : x = 0
 ·rw [if_pos h]
  have t0 : (x == 0) = true := by simp [h]
  go_enter Tryz.func54, Tryz.ntmps54
  go_wp2_with fail
  refine (plCells_c t q s _).mono ?_; rintro e w1 ⟨rfl, hb⟩; rw [HX.out]
  go_wp2
  go_ret
  exact ⟨rfl, Bgo hB hb⟩
 ·rw [if_neg h]
  have t0 : (x == 0) = false := by simp [h]
  go_enter Tryz.func54, Tryz.ntmps54
  go_wp2_with fail
  refine (plCells_c t q s _).mono ?_; rintro e w1 ⟨rfl, hb⟩; rw [HX.out]
  obtain ⟨y0, y1, y2⟩ := (H0.out.keep hb).three
  go_wp2
  go_ret
  exact ⟨rfl, Bgo hB hb⟩
section
variable {n : Nat} {K : Nat -> Option Nat} {st : Vst} {t q s p : Int}
theorem page_off24 {b : Int} (h : pgB q p = false) : pageI t q s p b = -1 := by
 unfold pageI
 rw [nth_off (f := nthI (lA t q s) (lP t q s) 6 p) (.inl ?_)]
 apply nth_off
 unfold pgB at h
 simp at h
 unfold lP
 split <;> omega
theorem page_wrong24 {b : Int} (h : lC t q s = 0) : pageI t q s p b = -1 := by
 unfold pageI
 rw [nth_off (f := nthI (lA t q s) (lP t q s) 6 p) (.inl ?_)]
 apply nth_off
 unfold lC at h
 unfold lP
 split at h
 ·rename_i hr
  have := (rightB_iff t q s).1 hr
  omega
 ·rename_i hr
  rw [if_neg hr]
  omega
theorem get_off24 : getV n K st (-1) = 0 /\ getS n K st (-1) = st := by
 have h : opn n st (-1) = false := by unfold opn; simp
 exact ⟨getV_no h, getS_no h⟩
theorem info_off24 (h : pageI t q s p 0 = -1) : infoOf n K t q s p st = (0, 0, 0, (infoG 0).2.2.2) := by
 unfold infoOf
 rw [h, get_off24.1]
 rfl
theorem sweepI_none {p : Nat} (h : pageI t q s (p : Int) 0 = -1) : sweepI n K t q s p st = (false, st) := by
 unfold sweepI
 rw [info_off24 h, h, get_off24.2]
 rfl
theorem sweepTo_none (h : lC t q s = 0) (m : Nat) : sweepTo n K t q s m st = (0, st) := by
 induction m with
 | zero => rfl
 | succ m ih =>
  unfold sweepTo
  rw [ih, sweepI_none (page_wrong24 h)]
  rfl
end
section
variable {base b n : Nat} {wh : Bool} {K : Nat -> Option Nat} {st : Vst} {w w0 : World} {A G : Nat -> Prop} {t q s : Int}
theorem vAt_ok (h : (vOb base b n wh K).At w0 A G st w) : VOk n st := by
 obtain ⟨B, ⟨o, h1, _⟩, _⟩ := h
 exact h1.ok
theorem infoG_cls' {v : Nat} {k l c : Int} {ok : Bool} (h : infoG v = (k, l, c, ok)) : 0 <= c /\ c <= 8 := by
 have hp : infoP k l c := by
  cases ok
  ·obtain ⟨rfl, rfl, rfl⟩ := infoG_none h
   exact .inl ⟨rfl, rfl, rfl⟩
  ·exact infoB_iff (infoG_back h).1
 rcases hp with ⟨h1, h2, h3⟩ | ⟨h1, h2, h3, h4⟩ | ⟨h1, h2, h3, h4⟩ <;> omega

set_option maxHeartbeats 3200000 in
theorem swPage_kind (hn : n < 2 ^ 40) (hq : q <= 1024) (p : Int) (k l c : Int) (ok : Bool) (hI : infoOf n K t q s p st = (k, l, c, ok)) (hk : k ≠ 3) (h : (vOb base b n wh K).At w0 A G st w) :
  Calls Tryz.prog 11 #[.pointer (some ⟨b, 0, none⟩), .agg #[.int .i64 t, .int .i64 q, .int .i64 s], .int .i64 p] w fun e w' => e = .returned (.bool false) /\ (vOb base b n wh K).At w0 A G ((getS n K st (pageI t q s p 0))) w' /\ Stay G w w' := by
 have W0 := hidp ((WL.start h).new 23 #[.int .i64 t, .int .i64 q, .int .i64 s])
 obtain ⟨v, hv⟩ : ∃ v, getV n K st (pageI t q s p 0) = v := ⟨_, rfl⟩
 have hv32 : v < 2 ^ 32 := by rw [<- hv]; exact vAt_lt h _
 have HI : Hid (infoG v = (k, l, c, ok)) := hidp (by rw [<- hv]; exact hI)
 have HV := hidp hv
 have t3 : (k != 3) = true := by simp [hk]
 clear h hI hk hv
 go_enter Tryz.func11, Tryz.ntmps11
 obtain ⟨x0, x1, x2⟩ := W0.out.h0.three
 go_wp2_with fail
 refine (plInfo_c t q s p _).mono ?_; rintro e w1 ⟨rfl, hb⟩; have W1 := hidp (W0.out.keep hb); clear hb W0
 obtain ⟨x0, x1, x2⟩ := W1.out.h0.three
 go_wp2_with fail
 refine (vGetA hn _ W1.out.at_).mono ?_; rintro e w2 ⟨rfl, h1, h2⟩; have W2 := hidp (W1.out.call h1 h2); clear h1 h2 W1; rw [HV.out]
 obtain ⟨x0, x1, x2⟩ := W2.out.h0.three
 go_wp2_with fail
 refine (inGet_c v k l c ok hv32 HI.out _).mono ?_; rintro e w3 ⟨rfl, hb⟩; have W3 := hidp (W2.out.keep hb); clear hb W2
 generalize hNI : w3.heap.size = NI at *
 replace W3 := hidp (W3.out.new 68 #[.int .i64 k, .int .i64 l, .int .i64 c])
 rw [hNI] at W3
 obtain ⟨i0, i1, i2⟩ := W3.out.h0.three
 obtain ⟨x0, x1, x2⟩ := W3.out.h1.three
 go_wp2
 go_ret
 exact ⟨rfl, W3.out.fin⟩

set_option maxHeartbeats 3200000 in
theorem swPage_same (hn : n < 2 ^ 40) (hq : q <= 1024) (p : Nat) (hp : (p : Int) < q) (k l c : Int) (ok : Bool) (hI : infoOf n K t q s (p : Int) st = (k, l, c, ok)) (hk : k = 3) (a u : Nat) (ha : getV n K (getS n K st (pageI t q s (p : Int) 0)) (pageI t q s (p : Int) 4) = a) (hu : getV n K (getS n K (getS n K st (pageI t q s (p : Int) 0)) (pageI t q s (p : Int) 4)) (pageI t q s (p : Int) 5) = u) (he : a = u) (h : (vOb base b n wh K).At w0 A G st w) :
  Calls Tryz.prog 11 #[.pointer (some ⟨b, 0, none⟩), .agg #[.int .i64 t, .int .i64 q, .int .i64 s], .int .i64 (p : Int)] w fun e w' => e = .returned (.bool false) /\ (vOb base b n wh K).At w0 A G ((getS n K (getS n K (getS n K st (pageI t q s (p : Int) 0)) (pageI t q s (p : Int) 4)) (pageI t q s (p : Int) 5))) w' /\ Stay G w w' := by
 have W0 := hidp ((WL.start h).new 23 #[.int .i64 t, .int .i64 q, .int .i64 s])
 subst hk
 obtain ⟨v, hv⟩ : ∃ v, getV n K st (pageI t q s (p : Int) 0) = v := ⟨_, rfl⟩
 have hv32 : v < 2 ^ 32 := by rw [<- hv]; exact vAt_lt h _
 have HI : Hid (infoG v = (3, l, c, ok)) := hidp (by rw [<- hv]; exact hI)
 have HV := hidp hv
 have t3 : ((3 : Int) != 3) = false := by simp
 have HA := hidp ha
 have HU := hidp hu
 have hq31 : q <= 2 ^ 31 := by omega
 have hp4 : p <= 1024 := by omega
 obtain ⟨c0, c8⟩ := infoG_cls' HI.out
 have t4 : ((a : Int) == (u : Int)) = true := by simp [he]
 have t4n : (a == u) = true := by simp [he]
 clear h hI ha hu he hv
 go_enter Tryz.func11, Tryz.ntmps11
 obtain ⟨x0, x1, x2⟩ := W0.out.h0.three
 go_wp2_with fail
 refine (plInfo_c t q s (p : Int) _).mono ?_; rintro e w1 ⟨rfl, hb⟩; have W1 := hidp (W0.out.keep hb); clear hb W0
 obtain ⟨x0, x1, x2⟩ := W1.out.h0.three
 go_wp2_with fail
 refine (vGetA hn _ W1.out.at_).mono ?_; rintro e w2 ⟨rfl, h1, h2⟩; have W2 := hidp (W1.out.call h1 h2); clear h1 h2 W1; rw [HV.out]
 obtain ⟨x0, x1, x2⟩ := W2.out.h0.three
 go_wp2_with fail
 refine (inGet_c v 3 l c ok hv32 HI.out _).mono ?_; rintro e w3 ⟨rfl, hb⟩; have W3 := hidp (W2.out.keep hb); clear hb W2
 generalize hNI : w3.heap.size = NI at *
 replace W3 := hidp (W3.out.new 68 #[.int .i64 3, .int .i64 l, .int .i64 c])
 rw [hNI] at W3
 obtain ⟨i0, i1, i2⟩ := W3.out.h0.three
 obtain ⟨x0, x1, x2⟩ := W3.out.h1.three
 go_wp2_with fail
 refine (plSlots_c t q s (p : Int) _).mono ?_; rintro e w4 ⟨rfl, hb⟩; have W4 := hidp (W3.out.keep hb); clear hb W3
 obtain ⟨i0, i1, i2⟩ := W4.out.h0.three
 obtain ⟨x0, x1, x2⟩ := W4.out.h1.three
 go_wp2_with fail
 have HA32 : Hid (a < 2 ^ 32) := hidp (by rw [<- HA.out]; exact vWL_lt W4.out _)
 refine (vGetA hn _ W4.out.at_).mono ?_; rintro e w5 ⟨rfl, h1, h2⟩; have W5 := hidp (W4.out.call h1 h2); clear h1 h2 W4; rw [HA.out]
 obtain ⟨i0, i1, i2⟩ := W5.out.h0.three
 obtain ⟨x0, x1, x2⟩ := W5.out.h1.three
 go_wp2_with fail
 refine (plTaken_c t q s (p : Int) _).mono ?_; rintro e w6 ⟨rfl, hb⟩; have W6 := hidp (W5.out.keep hb); clear hb W5
 obtain ⟨i0, i1, i2⟩ := W6.out.h0.three
 obtain ⟨x0, x1, x2⟩ := W6.out.h1.three
 go_wp2_with fail
 have HU32 : Hid (u < 2 ^ 32) := hidp (by rw [<- HU.out]; exact vWL_lt W6.out _)
 refine (vGetA hn _ W6.out.at_).mono ?_; rintro e w7 ⟨rfl, h1, h2⟩; have W7 := hidp (W6.out.call h1 h2); clear h1 h2 W6; rw [HU.out]
 obtain ⟨i0, i1, i2⟩ := W7.out.h0.three
 obtain ⟨x0, x1, x2⟩ := W7.out.h1.three
 go_wp2
 go_ret
 exact ⟨rfl, W7.out.fin⟩

set_option maxHeartbeats 3200000 in
theorem swPage_z_full (hn : n < 2 ^ 40) (hq : q <= 1024) (p : Nat) (hp : (p : Int) < q) (k l c : Int) (ok : Bool) (hI : infoOf n K t q s (p : Int) st = (k, l, c, ok)) (hk : k = 3) (a u : Nat) (ha : getV n K (getS n K st (pageI t q s (p : Int) 0)) (pageI t q s (p : Int) 4) = a) (hu : getV n K (getS n K (getS n K st (pageI t q s (p : Int) 0)) (pageI t q s (p : Int) 4)) (pageI t q s (p : Int) 5) = u) (hT : SlotsLaid w0) (hA : ¬ A 0) (he : a ≠ u) (hz : a = 0) (hf : fullB u c = true) (h : (vOb base b n wh K).At w0 A G st w) :
  Calls Tryz.prog 11 #[.pointer (some ⟨b, 0, none⟩), .agg #[.int .i64 t, .int .i64 q, .int .i64 s], .int .i64 (p : Int)] w fun e w' => e = .returned (.bool true) /\ (vOb base b n wh K).At w0 A G ((releaseS n K t q s p 1 (putS n (getS n K (getS n K (getS n K st (pageI t q s (p : Int) 0)) (pageI t q s (p : Int) 4)) (pageI t q s (p : Int) 5)) (pageI t q s (p : Int) 5) a))) w' /\ Stay G w w' := by
 have W0 := hidp ((WL.start h).new 23 #[.int .i64 t, .int .i64 q, .int .i64 s])
 subst hk
 obtain ⟨v, hv⟩ : ∃ v, getV n K st (pageI t q s (p : Int) 0) = v := ⟨_, rfl⟩
 have hv32 : v < 2 ^ 32 := by rw [<- hv]; exact vAt_lt h _
 have HI : Hid (infoG v = (3, l, c, ok)) := hidp (by rw [<- hv]; exact hI)
 have HV := hidp hv
 have t3 : ((3 : Int) != 3) = false := by simp
 have HA := hidp ha
 have HU := hidp hu
 have hq31 : q <= 2 ^ 31 := by omega
 have hp4 : p <= 1024 := by omega
 obtain ⟨c0, c8⟩ := infoG_cls' HI.out
 have t4 : ((a : Int) == (u : Int)) = false := by simp; omega
 have t4n : (a == u) = false := by simp; omega
 have t5 : ((a : Int) == 0) = true := by simp; omega
 have t5n : (a == 0) = true := by simp; omega
 have HF := hidp hf
 have rk := hidp (rack_at c0 c8)
 have HTL := hidp hT
 clear h hI ha hu he hv hf hz hT
 go_enter Tryz.func11, Tryz.ntmps11
 obtain ⟨x0, x1, x2⟩ := W0.out.h0.three
 go_wp2_with fail
 refine (plInfo_c t q s (p : Int) _).mono ?_; rintro e w1 ⟨rfl, hb⟩; have W1 := hidp (W0.out.keep hb); clear hb W0
 obtain ⟨x0, x1, x2⟩ := W1.out.h0.three
 go_wp2_with fail
 refine (vGetA hn _ W1.out.at_).mono ?_; rintro e w2 ⟨rfl, h1, h2⟩; have W2 := hidp (W1.out.call h1 h2); clear h1 h2 W1; rw [HV.out]
 obtain ⟨x0, x1, x2⟩ := W2.out.h0.three
 go_wp2_with fail
 refine (inGet_c v 3 l c ok hv32 HI.out _).mono ?_; rintro e w3 ⟨rfl, hb⟩; have W3 := hidp (W2.out.keep hb); clear hb W2
 generalize hNI : w3.heap.size = NI at *
 replace W3 := hidp (W3.out.new 68 #[.int .i64 3, .int .i64 l, .int .i64 c])
 rw [hNI] at W3
 obtain ⟨i0, i1, i2⟩ := W3.out.h0.three
 obtain ⟨x0, x1, x2⟩ := W3.out.h1.three
 go_wp2_with fail
 refine (plSlots_c t q s (p : Int) _).mono ?_; rintro e w4 ⟨rfl, hb⟩; have W4 := hidp (W3.out.keep hb); clear hb W3
 obtain ⟨i0, i1, i2⟩ := W4.out.h0.three
 obtain ⟨x0, x1, x2⟩ := W4.out.h1.three
 go_wp2_with fail
 have HA32 : Hid (a < 2 ^ 32) := hidp (by rw [<- HA.out]; exact vWL_lt W4.out _)
 refine (vGetA hn _ W4.out.at_).mono ?_; rintro e w5 ⟨rfl, h1, h2⟩; have W5 := hidp (W4.out.call h1 h2); clear h1 h2 W4; rw [HA.out]
 obtain ⟨i0, i1, i2⟩ := W5.out.h0.three
 obtain ⟨x0, x1, x2⟩ := W5.out.h1.three
 go_wp2_with fail
 refine (plTaken_c t q s (p : Int) _).mono ?_; rintro e w6 ⟨rfl, hb⟩; have W6 := hidp (W5.out.keep hb); clear hb W5
 obtain ⟨i0, i1, i2⟩ := W6.out.h0.three
 obtain ⟨x0, x1, x2⟩ := W6.out.h1.three
 go_wp2_with fail
 have HU32 : Hid (u < 2 ^ 32) := hidp (by rw [<- HU.out]; exact vWL_lt W6.out _)
 refine (vGetA hn _ W6.out.at_).mono ?_; rintro e w7 ⟨rfl, h1, h2⟩; have W7 := hidp (W6.out.call h1 h2); clear h1 h2 W6; rw [HU.out]
 obtain ⟨i0, i1, i2⟩ := W7.out.h0.three
 obtain ⟨x0, x1, x2⟩ := W7.out.h1.three
 go_wp2_with fail
 refine (plTaken_c t q s (p : Int) _).mono ?_; rintro e w8 ⟨rfl, hb⟩; have W8 := hidp (W7.out.keep hb); clear hb W7
 obtain ⟨i0, i1, i2⟩ := W8.out.h0.three
 obtain ⟨x0, x1, x2⟩ := W8.out.h1.three
 go_wp2_with fail
 refine (vPutA hn _ a HA32.out W8.out.at_).mono ?_; rintro e w9 ⟨rfl, h1, h2⟩; have W9 := hidp (W8.out.call h1 h2); clear h1 h2 W8
 obtain ⟨i0, i1, i2⟩ := W9.out.h0.three
 obtain ⟨x0, x1, x2⟩ := W9.out.h1.three
 go_wp2_with fail
 refine wp_region_held_drew (S := (fun w' => w'.cell? ⟨NI, 2, none⟩ = some (.int .i64 c))) (by kernel_rfl) ?_ (fun hHeld => ?_)
 ·(try dsimp only)
  exact W9.out.drew.h0.three.2.2
 refine tkz 0 ?_
 refine tkz 1 ?_
 refine tkz 3 ?_
 refine tkz 4 ?_
 refine tkz 5 ?_
 refine rdz 2 fun K hK => ?_
 go_simp
 refine (plRack_c c _).mono ?_; rintro e w9 ⟨rfl, rfl⟩; rw [rk.out]
 refine hK.out _ _ ?_ (fun hHeld => ?_)
 ·(try dsimp only)
  exact W9.out.drew.h0.three.2.2
 clear hK K
 (try simp only [Act.put, gA, gB, gC, sA, sB, sC])
 refine rdz 6 fun K hK => ?_
 go_simp
 refine (swFull_c u c c0 c8 HU32.out _ (SlotsLaid.at_ HTL.out hA W9.out.drew.at_)).mono ?_; rintro e w10 ⟨rfl, hb⟩; have W10 := hidp (W9.out.drew.keep hb); clear hb W9; rw [HF.out]
 refine hK.out _ _ ?_ (fun hHeld => ?_)
 ·(try dsimp only)
  exact W10.out.h0.three.2.2
 clear hK K
 (try simp only [Act.put, gA, gB, gC, sA, sB, sC])
 refine tkz 7 ?_
 refine tkz 8 ?_
 refine dnz ?_
 obtain ⟨i0, i1, i2⟩ := W10.out.h0.three
 obtain ⟨x0, x1, x2⟩ := W10.out.h1.three
 go_wp2_with fail
 refine (snRelease_c hn hq p 1 hp4 (by omega) W10.out.at_).mono ?_; rintro e w11 ⟨rfl, h1, h2⟩; have W11 := hidp (W10.out.call h1 h2); clear h1 h2 W10
 obtain ⟨i0, i1, i2⟩ := W11.out.h0.three
 obtain ⟨x0, x1, x2⟩ := W11.out.h1.three
 go_wp2
 go_ret
 exact ⟨rfl, W11.out.fin⟩

set_option maxHeartbeats 3200000 in
theorem swPage_z_some (hn : n < 2 ^ 40) (hq : q <= 1024) (p : Nat) (hp : (p : Int) < q) (k l c : Int) (ok : Bool) (hI : infoOf n K t q s (p : Int) st = (k, l, c, ok)) (hk : k = 3) (a u : Nat) (ha : getV n K (getS n K st (pageI t q s (p : Int) 0)) (pageI t q s (p : Int) 4) = a) (hu : getV n K (getS n K (getS n K st (pageI t q s (p : Int) 0)) (pageI t q s (p : Int) 4)) (pageI t q s (p : Int) 5) = u) (hT : SlotsLaid w0) (hA : ¬ A 0) (he : a ≠ u) (hz : a = 0) (hf : fullB u c = false) (h : (vOb base b n wh K).At w0 A G st w) :
  Calls Tryz.prog 11 #[.pointer (some ⟨b, 0, none⟩), .agg #[.int .i64 t, .int .i64 q, .int .i64 s], .int .i64 (p : Int)] w fun e w' => e = .returned (.bool true) /\ (vOb base b n wh K).At w0 A G ((releaseS n K t q s p 1 (pullI n K t q s (13 + c) (p : Int) (putS n (getS n K (getS n K (getS n K st (pageI t q s (p : Int) 0)) (pageI t q s (p : Int) 4)) (pageI t q s (p : Int) 5)) (pageI t q s (p : Int) 5) a)))) w' /\ Stay G w w' := by
 have W0 := hidp ((WL.start h).new 23 #[.int .i64 t, .int .i64 q, .int .i64 s])
 subst hk
 obtain ⟨v, hv⟩ : ∃ v, getV n K st (pageI t q s (p : Int) 0) = v := ⟨_, rfl⟩
 have hv32 : v < 2 ^ 32 := by rw [<- hv]; exact vAt_lt h _
 have HI : Hid (infoG v = (3, l, c, ok)) := hidp (by rw [<- hv]; exact hI)
 have HV := hidp hv
 have t3 : ((3 : Int) != 3) = false := by simp
 have HA := hidp ha
 have HU := hidp hu
 have hq31 : q <= 2 ^ 31 := by omega
 have hp4 : p <= 1024 := by omega
 obtain ⟨c0, c8⟩ := infoG_cls' HI.out
 have t4 : ((a : Int) == (u : Int)) = false := by simp; omega
 have t4n : (a == u) = false := by simp; omega
 have t5 : ((a : Int) == 0) = true := by simp; omega
 have t5n : (a == 0) = true := by simp; omega
 have HF := hidp hf
 have rk := hidp (rack_at c0 c8)
 have HTL := hidp hT
 clear h hI ha hu he hv hf hz hT
 go_enter Tryz.func11, Tryz.ntmps11
 obtain ⟨x0, x1, x2⟩ := W0.out.h0.three
 go_wp2_with fail
 refine (plInfo_c t q s (p : Int) _).mono ?_; rintro e w1 ⟨rfl, hb⟩; have W1 := hidp (W0.out.keep hb); clear hb W0
 obtain ⟨x0, x1, x2⟩ := W1.out.h0.three
 go_wp2_with fail
 refine (vGetA hn _ W1.out.at_).mono ?_; rintro e w2 ⟨rfl, h1, h2⟩; have W2 := hidp (W1.out.call h1 h2); clear h1 h2 W1; rw [HV.out]
 obtain ⟨x0, x1, x2⟩ := W2.out.h0.three
 go_wp2_with fail
 refine (inGet_c v 3 l c ok hv32 HI.out _).mono ?_; rintro e w3 ⟨rfl, hb⟩; have W3 := hidp (W2.out.keep hb); clear hb W2
 generalize hNI : w3.heap.size = NI at *
 replace W3 := hidp (W3.out.new 68 #[.int .i64 3, .int .i64 l, .int .i64 c])
 rw [hNI] at W3
 obtain ⟨i0, i1, i2⟩ := W3.out.h0.three
 obtain ⟨x0, x1, x2⟩ := W3.out.h1.three
 go_wp2_with fail
 refine (plSlots_c t q s (p : Int) _).mono ?_; rintro e w4 ⟨rfl, hb⟩; have W4 := hidp (W3.out.keep hb); clear hb W3
 obtain ⟨i0, i1, i2⟩ := W4.out.h0.three
 obtain ⟨x0, x1, x2⟩ := W4.out.h1.three
 go_wp2_with fail
 have HA32 : Hid (a < 2 ^ 32) := hidp (by rw [<- HA.out]; exact vWL_lt W4.out _)
 refine (vGetA hn _ W4.out.at_).mono ?_; rintro e w5 ⟨rfl, h1, h2⟩; have W5 := hidp (W4.out.call h1 h2); clear h1 h2 W4; rw [HA.out]
 obtain ⟨i0, i1, i2⟩ := W5.out.h0.three
 obtain ⟨x0, x1, x2⟩ := W5.out.h1.three
 go_wp2_with fail
 refine (plTaken_c t q s (p : Int) _).mono ?_; rintro e w6 ⟨rfl, hb⟩; have W6 := hidp (W5.out.keep hb); clear hb W5
 obtain ⟨i0, i1, i2⟩ := W6.out.h0.three
 obtain ⟨x0, x1, x2⟩ := W6.out.h1.three
 go_wp2_with fail
 have HU32 : Hid (u < 2 ^ 32) := hidp (by rw [<- HU.out]; exact vWL_lt W6.out _)
 refine (vGetA hn _ W6.out.at_).mono ?_; rintro e w7 ⟨rfl, h1, h2⟩; have W7 := hidp (W6.out.call h1 h2); clear h1 h2 W6; rw [HU.out]
 obtain ⟨i0, i1, i2⟩ := W7.out.h0.three
 obtain ⟨x0, x1, x2⟩ := W7.out.h1.three
 go_wp2_with fail
 refine (plTaken_c t q s (p : Int) _).mono ?_; rintro e w8 ⟨rfl, hb⟩; have W8 := hidp (W7.out.keep hb); clear hb W7
 obtain ⟨i0, i1, i2⟩ := W8.out.h0.three
 obtain ⟨x0, x1, x2⟩ := W8.out.h1.three
 go_wp2_with fail
 refine (vPutA hn _ a HA32.out W8.out.at_).mono ?_; rintro e w9 ⟨rfl, h1, h2⟩; have W9 := hidp (W8.out.call h1 h2); clear h1 h2 W8
 obtain ⟨i0, i1, i2⟩ := W9.out.h0.three
 obtain ⟨x0, x1, x2⟩ := W9.out.h1.three
 go_wp2_with fail
 refine wp_region_held_drew (S := (fun w' => w'.cell? ⟨NI, 2, none⟩ = some (.int .i64 c))) (by kernel_rfl) ?_ (fun hHeld => ?_)
 ·(try dsimp only)
  exact W9.out.drew.h0.three.2.2
 refine tkz 0 ?_
 refine tkz 1 ?_
 refine tkz 3 ?_
 refine tkz 4 ?_
 refine tkz 5 ?_
 refine rdz 2 fun K hK => ?_
 go_simp
 refine (plRack_c c _).mono ?_; rintro e w9 ⟨rfl, rfl⟩; rw [rk.out]
 refine hK.out _ _ ?_ (fun hHeld => ?_)
 ·(try dsimp only)
  exact W9.out.drew.h0.three.2.2
 clear hK K
 (try simp only [Act.put, gA, gB, gC, sA, sB, sC])
 refine rdz 6 fun K hK => ?_
 go_simp
 refine (swFull_c u c c0 c8 HU32.out _ (SlotsLaid.at_ HTL.out hA W9.out.drew.at_)).mono ?_; rintro e w10 ⟨rfl, hb⟩; have W10 := hidp (W9.out.drew.keep hb); clear hb W9; rw [HF.out]
 refine hK.out _ _ ?_ (fun hHeld => ?_)
 ·(try dsimp only)
  exact W10.out.h0.three.2.2
 clear hK K
 (try simp only [Act.put, gA, gB, gC, sA, sB, sC])
 refine tkz 7 ?_
 refine tkz 8 ?_
 refine dnz ?_
 obtain ⟨i0, i1, i2⟩ := W10.out.h0.three
 obtain ⟨x0, x1, x2⟩ := W10.out.h1.three
 go_wp2_with fail
 refine (lkPull_c hn hq31 (p : Int) W10.out.at_).mono ?_; rintro e w11 ⟨rfl, h1, h2⟩; have W11 := hidp (W10.out.call h1 h2); clear h1 h2 W10
 obtain ⟨i0, i1, i2⟩ := W11.out.h0.three
 obtain ⟨x0, x1, x2⟩ := W11.out.h1.three
 go_wp2_with fail
 refine (snRelease_c hn hq p 1 hp4 (by omega) W11.out.at_).mono ?_; rintro e w12 ⟨rfl, h1, h2⟩; have W12 := hidp (W11.out.call h1 h2); clear h1 h2 W11
 obtain ⟨i0, i1, i2⟩ := W12.out.h0.three
 obtain ⟨x0, x1, x2⟩ := W12.out.h1.three
 go_wp2
 go_ret
 exact ⟨rfl, W12.out.fin⟩

set_option maxHeartbeats 3200000 in
theorem swPage_n_full (hn : n < 2 ^ 40) (hq : q <= 1024) (p : Nat) (hp : (p : Int) < q) (k l c : Int) (ok : Bool) (hI : infoOf n K t q s (p : Int) st = (k, l, c, ok)) (hk : k = 3) (a u : Nat) (ha : getV n K (getS n K st (pageI t q s (p : Int) 0)) (pageI t q s (p : Int) 4) = a) (hu : getV n K (getS n K (getS n K st (pageI t q s (p : Int) 0)) (pageI t q s (p : Int) 4)) (pageI t q s (p : Int) 5) = u) (hT : SlotsLaid w0) (hA : ¬ A 0) (he : a ≠ u) (hz : a ≠ 0) (hf : fullB u c = true) (h : (vOb base b n wh K).At w0 A G st w) :
  Calls Tryz.prog 11 #[.pointer (some ⟨b, 0, none⟩), .agg #[.int .i64 t, .int .i64 q, .int .i64 s], .int .i64 (p : Int)] w fun e w' => e = .returned (.bool true) /\ (vOb base b n wh K).At w0 A G ((pushI n K t q s (13 + c) (p : Int) (putS n (getS n K (getS n K (getS n K st (pageI t q s (p : Int) 0)) (pageI t q s (p : Int) 4)) (pageI t q s (p : Int) 5)) (pageI t q s (p : Int) 5) a))) w' /\ Stay G w w' := by
 have W0 := hidp ((WL.start h).new 23 #[.int .i64 t, .int .i64 q, .int .i64 s])
 subst hk
 obtain ⟨v, hv⟩ : ∃ v, getV n K st (pageI t q s (p : Int) 0) = v := ⟨_, rfl⟩
 have hv32 : v < 2 ^ 32 := by rw [<- hv]; exact vAt_lt h _
 have HI : Hid (infoG v = (3, l, c, ok)) := hidp (by rw [<- hv]; exact hI)
 have HV := hidp hv
 have t3 : ((3 : Int) != 3) = false := by simp
 have HA := hidp ha
 have HU := hidp hu
 have hq31 : q <= 2 ^ 31 := by omega
 have hp4 : p <= 1024 := by omega
 obtain ⟨c0, c8⟩ := infoG_cls' HI.out
 have t4 : ((a : Int) == (u : Int)) = false := by simp; omega
 have t4n : (a == u) = false := by simp; omega
 have t5 : ((a : Int) == 0) = false := by simp; omega
 have t5n : (a == 0) = false := by simp; omega
 have HF := hidp hf
 have rk := hidp (rack_at c0 c8)
 have HTL := hidp hT
 clear h hI ha hu he hv hf hz hT
 go_enter Tryz.func11, Tryz.ntmps11
 obtain ⟨x0, x1, x2⟩ := W0.out.h0.three
 go_wp2_with fail
 refine (plInfo_c t q s (p : Int) _).mono ?_; rintro e w1 ⟨rfl, hb⟩; have W1 := hidp (W0.out.keep hb); clear hb W0
 obtain ⟨x0, x1, x2⟩ := W1.out.h0.three
 go_wp2_with fail
 refine (vGetA hn _ W1.out.at_).mono ?_; rintro e w2 ⟨rfl, h1, h2⟩; have W2 := hidp (W1.out.call h1 h2); clear h1 h2 W1; rw [HV.out]
 obtain ⟨x0, x1, x2⟩ := W2.out.h0.three
 go_wp2_with fail
 refine (inGet_c v 3 l c ok hv32 HI.out _).mono ?_; rintro e w3 ⟨rfl, hb⟩; have W3 := hidp (W2.out.keep hb); clear hb W2
 generalize hNI : w3.heap.size = NI at *
 replace W3 := hidp (W3.out.new 68 #[.int .i64 3, .int .i64 l, .int .i64 c])
 rw [hNI] at W3
 obtain ⟨i0, i1, i2⟩ := W3.out.h0.three
 obtain ⟨x0, x1, x2⟩ := W3.out.h1.three
 go_wp2_with fail
 refine (plSlots_c t q s (p : Int) _).mono ?_; rintro e w4 ⟨rfl, hb⟩; have W4 := hidp (W3.out.keep hb); clear hb W3
 obtain ⟨i0, i1, i2⟩ := W4.out.h0.three
 obtain ⟨x0, x1, x2⟩ := W4.out.h1.three
 go_wp2_with fail
 have HA32 : Hid (a < 2 ^ 32) := hidp (by rw [<- HA.out]; exact vWL_lt W4.out _)
 refine (vGetA hn _ W4.out.at_).mono ?_; rintro e w5 ⟨rfl, h1, h2⟩; have W5 := hidp (W4.out.call h1 h2); clear h1 h2 W4; rw [HA.out]
 obtain ⟨i0, i1, i2⟩ := W5.out.h0.three
 obtain ⟨x0, x1, x2⟩ := W5.out.h1.three
 go_wp2_with fail
 refine (plTaken_c t q s (p : Int) _).mono ?_; rintro e w6 ⟨rfl, hb⟩; have W6 := hidp (W5.out.keep hb); clear hb W5
 obtain ⟨i0, i1, i2⟩ := W6.out.h0.three
 obtain ⟨x0, x1, x2⟩ := W6.out.h1.three
 go_wp2_with fail
 have HU32 : Hid (u < 2 ^ 32) := hidp (by rw [<- HU.out]; exact vWL_lt W6.out _)
 refine (vGetA hn _ W6.out.at_).mono ?_; rintro e w7 ⟨rfl, h1, h2⟩; have W7 := hidp (W6.out.call h1 h2); clear h1 h2 W6; rw [HU.out]
 obtain ⟨i0, i1, i2⟩ := W7.out.h0.three
 obtain ⟨x0, x1, x2⟩ := W7.out.h1.three
 go_wp2_with fail
 refine (plTaken_c t q s (p : Int) _).mono ?_; rintro e w8 ⟨rfl, hb⟩; have W8 := hidp (W7.out.keep hb); clear hb W7
 obtain ⟨i0, i1, i2⟩ := W8.out.h0.three
 obtain ⟨x0, x1, x2⟩ := W8.out.h1.three
 go_wp2_with fail
 refine (vPutA hn _ a HA32.out W8.out.at_).mono ?_; rintro e w9 ⟨rfl, h1, h2⟩; have W9 := hidp (W8.out.call h1 h2); clear h1 h2 W8
 obtain ⟨i0, i1, i2⟩ := W9.out.h0.three
 obtain ⟨x0, x1, x2⟩ := W9.out.h1.three
 go_wp2_with fail
 refine wp_region_held_drew (S := (fun w' => w'.cell? ⟨NI, 2, none⟩ = some (.int .i64 c))) (by kernel_rfl) ?_ (fun hHeld => ?_)
 ·(try dsimp only)
  exact W9.out.drew.h0.three.2.2
 refine tkz 0 ?_
 refine tkz 1 ?_
 refine tkz 3 ?_
 refine tkz 4 ?_
 refine tkz 5 ?_
 refine rdz 2 fun K hK => ?_
 go_simp
 refine (plRack_c c _).mono ?_; rintro e w9 ⟨rfl, rfl⟩; rw [rk.out]
 refine hK.out _ _ ?_ (fun hHeld => ?_)
 ·(try dsimp only)
  exact W9.out.drew.h0.three.2.2
 clear hK K
 (try simp only [Act.put, gA, gB, gC, sA, sB, sC])
 refine rdz 6 fun K hK => ?_
 go_simp
 refine (swFull_c u c c0 c8 HU32.out _ (SlotsLaid.at_ HTL.out hA W9.out.drew.at_)).mono ?_; rintro e w10 ⟨rfl, hb⟩; have W10 := hidp (W9.out.drew.keep hb); clear hb W9; rw [HF.out]
 refine hK.out _ _ ?_ (fun hHeld => ?_)
 ·(try dsimp only)
  exact W10.out.h0.three.2.2
 clear hK K
 (try simp only [Act.put, gA, gB, gC, sA, sB, sC])
 refine tkz 7 ?_
 refine tkz 8 ?_
 refine dnz ?_
 obtain ⟨i0, i1, i2⟩ := W10.out.h0.three
 obtain ⟨x0, x1, x2⟩ := W10.out.h1.three
 go_wp2_with fail
 refine (lkPush_c hn hq31 (p : Int) W10.out.at_).mono ?_; rintro e w11 ⟨rfl, h1, h2⟩; have W11 := hidp (W10.out.call h1 h2); clear h1 h2 W10
 obtain ⟨i0, i1, i2⟩ := W11.out.h0.three
 obtain ⟨x0, x1, x2⟩ := W11.out.h1.three
 go_wp2
 go_ret
 exact ⟨rfl, W11.out.fin⟩

set_option maxHeartbeats 3200000 in
theorem swPage_n_some (hn : n < 2 ^ 40) (hq : q <= 1024) (p : Nat) (hp : (p : Int) < q) (k l c : Int) (ok : Bool) (hI : infoOf n K t q s (p : Int) st = (k, l, c, ok)) (hk : k = 3) (a u : Nat) (ha : getV n K (getS n K st (pageI t q s (p : Int) 0)) (pageI t q s (p : Int) 4) = a) (hu : getV n K (getS n K (getS n K st (pageI t q s (p : Int) 0)) (pageI t q s (p : Int) 4)) (pageI t q s (p : Int) 5) = u) (hT : SlotsLaid w0) (hA : ¬ A 0) (he : a ≠ u) (hz : a ≠ 0) (hf : fullB u c = false) (h : (vOb base b n wh K).At w0 A G st w) :
  Calls Tryz.prog 11 #[.pointer (some ⟨b, 0, none⟩), .agg #[.int .i64 t, .int .i64 q, .int .i64 s], .int .i64 (p : Int)] w fun e w' => e = .returned (.bool true) /\ (vOb base b n wh K).At w0 A G ((putS n (getS n K (getS n K (getS n K st (pageI t q s (p : Int) 0)) (pageI t q s (p : Int) 4)) (pageI t q s (p : Int) 5)) (pageI t q s (p : Int) 5) a)) w' /\ Stay G w w' := by
 have W0 := hidp ((WL.start h).new 23 #[.int .i64 t, .int .i64 q, .int .i64 s])
 subst hk
 obtain ⟨v, hv⟩ : ∃ v, getV n K st (pageI t q s (p : Int) 0) = v := ⟨_, rfl⟩
 have hv32 : v < 2 ^ 32 := by rw [<- hv]; exact vAt_lt h _
 have HI : Hid (infoG v = (3, l, c, ok)) := hidp (by rw [<- hv]; exact hI)
 have HV := hidp hv
 have t3 : ((3 : Int) != 3) = false := by simp
 have HA := hidp ha
 have HU := hidp hu
 have hq31 : q <= 2 ^ 31 := by omega
 have hp4 : p <= 1024 := by omega
 obtain ⟨c0, c8⟩ := infoG_cls' HI.out
 have t4 : ((a : Int) == (u : Int)) = false := by simp; omega
 have t4n : (a == u) = false := by simp; omega
 have t5 : ((a : Int) == 0) = false := by simp; omega
 have t5n : (a == 0) = false := by simp; omega
 have HF := hidp hf
 have rk := hidp (rack_at c0 c8)
 have HTL := hidp hT
 clear h hI ha hu he hv hf hz hT
 go_enter Tryz.func11, Tryz.ntmps11
 obtain ⟨x0, x1, x2⟩ := W0.out.h0.three
 go_wp2_with fail
 refine (plInfo_c t q s (p : Int) _).mono ?_; rintro e w1 ⟨rfl, hb⟩; have W1 := hidp (W0.out.keep hb); clear hb W0
 obtain ⟨x0, x1, x2⟩ := W1.out.h0.three
 go_wp2_with fail
 refine (vGetA hn _ W1.out.at_).mono ?_; rintro e w2 ⟨rfl, h1, h2⟩; have W2 := hidp (W1.out.call h1 h2); clear h1 h2 W1; rw [HV.out]
 obtain ⟨x0, x1, x2⟩ := W2.out.h0.three
 go_wp2_with fail
 refine (inGet_c v 3 l c ok hv32 HI.out _).mono ?_; rintro e w3 ⟨rfl, hb⟩; have W3 := hidp (W2.out.keep hb); clear hb W2
 generalize hNI : w3.heap.size = NI at *
 replace W3 := hidp (W3.out.new 68 #[.int .i64 3, .int .i64 l, .int .i64 c])
 rw [hNI] at W3
 obtain ⟨i0, i1, i2⟩ := W3.out.h0.three
 obtain ⟨x0, x1, x2⟩ := W3.out.h1.three
 go_wp2_with fail
 refine (plSlots_c t q s (p : Int) _).mono ?_; rintro e w4 ⟨rfl, hb⟩; have W4 := hidp (W3.out.keep hb); clear hb W3
 obtain ⟨i0, i1, i2⟩ := W4.out.h0.three
 obtain ⟨x0, x1, x2⟩ := W4.out.h1.three
 go_wp2_with fail
 have HA32 : Hid (a < 2 ^ 32) := hidp (by rw [<- HA.out]; exact vWL_lt W4.out _)
 refine (vGetA hn _ W4.out.at_).mono ?_; rintro e w5 ⟨rfl, h1, h2⟩; have W5 := hidp (W4.out.call h1 h2); clear h1 h2 W4; rw [HA.out]
 obtain ⟨i0, i1, i2⟩ := W5.out.h0.three
 obtain ⟨x0, x1, x2⟩ := W5.out.h1.three
 go_wp2_with fail
 refine (plTaken_c t q s (p : Int) _).mono ?_; rintro e w6 ⟨rfl, hb⟩; have W6 := hidp (W5.out.keep hb); clear hb W5
 obtain ⟨i0, i1, i2⟩ := W6.out.h0.three
 obtain ⟨x0, x1, x2⟩ := W6.out.h1.three
 go_wp2_with fail
 have HU32 : Hid (u < 2 ^ 32) := hidp (by rw [<- HU.out]; exact vWL_lt W6.out _)
 refine (vGetA hn _ W6.out.at_).mono ?_; rintro e w7 ⟨rfl, h1, h2⟩; have W7 := hidp (W6.out.call h1 h2); clear h1 h2 W6; rw [HU.out]
 obtain ⟨i0, i1, i2⟩ := W7.out.h0.three
 obtain ⟨x0, x1, x2⟩ := W7.out.h1.three
 go_wp2_with fail
 refine (plTaken_c t q s (p : Int) _).mono ?_; rintro e w8 ⟨rfl, hb⟩; have W8 := hidp (W7.out.keep hb); clear hb W7
 obtain ⟨i0, i1, i2⟩ := W8.out.h0.three
 obtain ⟨x0, x1, x2⟩ := W8.out.h1.three
 go_wp2_with fail
 refine (vPutA hn _ a HA32.out W8.out.at_).mono ?_; rintro e w9 ⟨rfl, h1, h2⟩; have W9 := hidp (W8.out.call h1 h2); clear h1 h2 W8
 obtain ⟨i0, i1, i2⟩ := W9.out.h0.three
 obtain ⟨x0, x1, x2⟩ := W9.out.h1.three
 go_wp2_with fail
 refine wp_region_held_drew (S := (fun w' => w'.cell? ⟨NI, 2, none⟩ = some (.int .i64 c))) (by kernel_rfl) ?_ (fun hHeld => ?_)
 ·(try dsimp only)
  exact W9.out.drew.h0.three.2.2
 refine tkz 0 ?_
 refine tkz 1 ?_
 refine tkz 3 ?_
 refine tkz 4 ?_
 refine tkz 5 ?_
 refine rdz 2 fun K hK => ?_
 go_simp
 refine (plRack_c c _).mono ?_; rintro e w9 ⟨rfl, rfl⟩; rw [rk.out]
 refine hK.out _ _ ?_ (fun hHeld => ?_)
 ·(try dsimp only)
  exact W9.out.drew.h0.three.2.2
 clear hK K
 (try simp only [Act.put, gA, gB, gC, sA, sB, sC])
 refine rdz 6 fun K hK => ?_
 go_simp
 refine (swFull_c u c c0 c8 HU32.out _ (SlotsLaid.at_ HTL.out hA W9.out.drew.at_)).mono ?_; rintro e w10 ⟨rfl, hb⟩; have W10 := hidp (W9.out.drew.keep hb); clear hb W9; rw [HF.out]
 refine hK.out _ _ ?_ (fun hHeld => ?_)
 ·(try dsimp only)
  exact W10.out.h0.three.2.2
 clear hK K
 (try simp only [Act.put, gA, gB, gC, sA, sB, sC])
 refine tkz 7 ?_
 refine tkz 8 ?_
 refine dnz ?_
 obtain ⟨i0, i1, i2⟩ := W10.out.h0.three
 obtain ⟨x0, x1, x2⟩ := W10.out.h1.three
 go_wp2
 go_ret
 exact ⟨rfl, W10.out.fin⟩

theorem swPage_c (hn : n < 2 ^ 40) (hq : q <= 1024) (p : Int) (hp : -9223372036854775808 <= p /\ p <= 9223372036854775807) (hT : SlotsLaid w0) (hA : ¬ A 0) (h : (vOb base b n wh K).At w0 A G st w) :
  Calls Tryz.prog 11 #[.pointer (some ⟨b, 0, none⟩), .agg #[.int .i64 t, .int .i64 q, .int .i64 s], .int .i64 p] w fun e w' => e = .returned (.bool (sweepP n K t q s p st).1) /\ (vOb base b n wh K).At w0 A G ((sweepP n K t q s p st).2) w' /\ Stay G w w' := by
 obtain ⟨⟨k, l, c, ok⟩, hI⟩ : ∃ x, infoOf n K t q s p st = x := ⟨_, rfl⟩
 unfold sweepP
 cases hpg : pgB q p with
 | false =>
  rw [info_off24 (page_off24 hpg)] at hI
  cases hI
  have := swPage_kind (t := t) (s := s) hn hq p 0 0 0 (infoG 0).2.2.2 (info_off24 (page_off24 hpg)) (by omega) h
  rw [page_off24 hpg, get_off24.2] at this
  exact this
 | true =>
  have hpq : 0 <= p /\ p < q := by unfold pgB at hpg; simp at hpg; exact hpg
  obtain ⟨p, rfl⟩ := Int.eq_ofNat_of_zero_le hpq.1
  simp only [if_true, Int.toNat_natCast]
  unfold sweepI
  rw [hI]
  by_cases hk : k = 3
  ·rw [if_pos hk]
   obtain ⟨a, ha⟩ : ∃ a, getV n K (getS n K st (pageI t q s (p : Int) 0)) (pageI t q s (p : Int) 4) = a := ⟨_, rfl⟩
   obtain ⟨u, hu⟩ : ∃ u, getV n K (getS n K (getS n K st (pageI t q s (p : Int) 0)) (pageI t q s (p : Int) 4)) (pageI t q s (p : Int) 5) = u := ⟨_, rfl⟩
   rw [ha, hu]
   by_cases he : a = u
   ·rw [if_pos he]
    exact swPage_same hn hq p hpq.2 k l c ok hI hk a u ha hu he h
   ·rw [if_neg he]
    unfold sweepAt backS
    dsimp only
    cases hf : fullB u c with
    | true =>
     by_cases hz : a = 0
     ·rw [if_pos hz]
      exact swPage_z_full hn hq p hpq.2 k l c ok hI hk a u ha hu hT hA he hz hf h
     ·rw [if_neg hz]
      exact swPage_n_full hn hq p hpq.2 k l c ok hI hk a u ha hu hT hA he hz hf h
    | false =>
     by_cases hz : a = 0
     ·rw [if_pos hz]
      exact swPage_z_some hn hq p hpq.2 k l c ok hI hk a u ha hu hT hA he hz hf h
     ·rw [if_neg hz]
      exact swPage_n_some hn hq p hpq.2 k l c ok hI hk a u ha hu hT hA he hz hf h
  ·rw [if_neg hk]
   exact swPage_kind hn hq (p : Int) k l c ok hI hk h

set_option maxHeartbeats 3200000 in
theorem swAll_to (hn : n < 2 ^ 40) (P M : Nat) (hq : P <= 1024) (hM : M <= P) (hlm : (if lC t (P : Int) s = 0 then (0 : Int) else (P : Int)) = (M : Int)) (hT : SlotsLaid w0) (hA : ¬ A 0) (h : (vOb base b n wh K).At w0 A G st w) :
  Calls Tryz.prog 17 #[.pointer (some ⟨b, 0, none⟩), .agg #[.int .i64 t, .int .i64 (P : Int), .int .i64 s]] w fun e w' => e = .returned (.int .i64 ((sweepTo n K t (P : Int) s M st).1 : Int)) /\ (vOb base b n wh K).At w0 A G ((sweepTo n K t (P : Int) s M st).2) w' /\ Stay G w w' /\ ∀ j, j <= M -> VOk n (sweepTo n K t (P : Int) s j st).2 := by
 have W0 := hidp ((WL.start h).new 23 #[.int .i64 t, .int .i64 (P : Int), .int .i64 s])
 have HL := hidp hlm
 have HO0 := hidp (vAt_ok h)
 clear h hlm
 go_enter Tryz.func17, Tryz.ntmps17
 obtain ⟨x0, x1, x2⟩ := W0.out.h0.three
 go_wp2_with fail
 refine (swPages_c t (P : Int) s _).mono ?_; rintro e w1 ⟨rfl, hb⟩; replace W0 := hidp (W0.out.keep hb); clear hb; rw [HL.out]
 clear x0 x1 x2
 obtain ⟨x0, x1, x2⟩ := W0.out.h0.three
 go_wp2_with fail
 go_loopw [5, 9] (fun u5 u9 wr => ∃ j : Nat, j <= M /\ u5 = .int .i64 ((sweepTo n K t (P : Int) s j st).1 : Int) /\ u9 = .int .i64 (j : Int) /\ (sweepTo n K t (P : Int) s j st).1 <= j /\ Hid (WL (vOb base b n wh K) w0 A G w [⟨w.heap.size, 23, #[.int .i64 t, .int .i64 (P : Int), .int .i64 s]⟩] (sweepTo n K t (P : Int) s j st).2 wr) /\ Hid (∀ i, i <= j -> VOk n (sweepTo n K t (P : Int) s i st).2)) (fun u5 u9 _ => M - (intOf u9).toNat)
 case atStart => exact ⟨0, by omega, rfl, rfl, Nat.le_refl _, W0, hidp (fun i hi => by
  have hi0 : i = 0 := by omega
  rw [hi0]
  exact HO0.out)⟩
 case round =>
  clear W0 x0 x1 x2
  obtain ⟨j, hj, rfl, rfl, hm, W0, HOK⟩ := hrel
  obtain ⟨x0, x1, x2⟩ := W0.out.h0.three
  obtain ⟨⟨m, sj⟩, hs⟩ : ∃ x, sweepTo n K t (P : Int) s j st = x := ⟨_, rfl⟩
  have hnx : sweepTo n K t (P : Int) s (j + 1) st = (m + (if (sweepI n K t (P : Int) s j sj).1 = true then 1 else 0), (sweepI n K t (P : Int) s j sj).2) := by
   show ((sweepTo n K t (P : Int) s j st).1 + _, _) = _
   rw [hs]
  rw [hs] at W0 hm ⊢
  dsimp only at W0 hm ⊢
  by_cases hlt : j < M
  ·have t1 : decide ((j : Int) < (M : Int)) = true := decide_eq_true (by omega)
   have t1n : decide (j < M) = true := decide_eq_true hlt
   have hpg : sweepP n K t (P : Int) s (j : Int) sj = sweepI n K t (P : Int) s j sj := by
    unfold sweepP pgB
    rw [decide_eq_true (by omega), decide_eq_true (by omega)]
    simp
   obtain ⟨⟨r, sn⟩, hr⟩ : ∃ x, sweepI n K t (P : Int) s j sj = x := ⟨_, rfl⟩
   rw [hr] at hpg hnx
   have HPG := hidp hpg
   have HNX := hidp hnx
   clear hs hpg hnx hr
   go_wp2_with fail
   refine (swPage_c hn (by omega) (j : Int) (by omega) hT hA W0.out.at_).mono ?_; rintro e w1 ⟨rfl, h1, h2⟩
   rw [HPG.out] at h1 ⊢
   dsimp only at h1 ⊢
   have hok1 : VOk n sn := vAt_ok h1
   have W1 := hidp (W0.out.call h1 h2)
   clear h1 h2 W0
   have HOK1 : Hid (∀ i, i <= j + 1 -> VOk n (sweepTo n K t (P : Int) s i st).2) := hidp (fun i hi => by
    rcases Nat.lt_or_ge j i with h | h
    ·obtain rfl : i = j + 1 := by omega
     rw [HNX.out]; exact hok1
    ·exact HOK.out i h)
   clear HOK
   cases r with
   | true =>
    have HE : Hid (sweepTo n K t (P : Int) s (j + 1) st = (m + 1, sn)) := hidp (by rw [HNX.out]; rfl)
    have c1 : IntKind.i64.wrap ((m : Int) + 1) = (m : Int) + 1 := i64_same (by omega) (by omega)
    clear HNX
    go_wp2
    go_roundw
    case rel => exact ⟨j + 1, by omega, by rw [HE.out]; go_num, by go_num, by rw [HE.out]; show m + 1 <= j + 1; omega, by rw [HE.out]; exact W1, HOK1⟩
    case measure => simp [intOf]; omega
   | false =>
    have HE : Hid (sweepTo n K t (P : Int) s (j + 1) st = (m, sn)) := hidp (by rw [HNX.out]; rfl)
    clear HNX
    go_wp2
    go_roundw
    case rel => exact ⟨j + 1, by omega, by rw [HE.out], by go_num, by rw [HE.out]; show m <= j + 1; omega, by rw [HE.out]; exact W1, HOK1⟩
    case measure => simp [intOf]; omega
  ·have t1 : decide ((j : Int) < (M : Int)) = false := decide_eq_false (by omega)
   have t1n : decide (j < M) = false := decide_eq_false hlt
   obtain rfl : j = M := by omega
   have HE := hidp hs
   clear hs hnx
   go_wp2
   go_ret
   rw [HE.out]
   obtain ⟨z1, z2⟩ := W0.out.fin
   exact ⟨rfl, z1, z2, HOK.out⟩
theorem swAll_c (hn : n < 2 ^ 40) (P : Nat) (hq : P <= 1024) (hqq : q = (P : Int)) (hT : SlotsLaid w0) (hA : ¬ A 0) (h : (vOb base b n wh K).At w0 A G st w) :
  Calls Tryz.prog 17 #[.pointer (some ⟨b, 0, none⟩), .agg #[.int .i64 t, .int .i64 q, .int .i64 s]] w fun e w' => e = .returned (.int .i64 ((sweepTo n K t q s P st).1 : Int)) /\ (vOb base b n wh K).At w0 A G ((sweepTo n K t q s P st).2) w' /\ Stay G w w' /\ ∀ j, j <= P -> VOk n (sweepTo n K t q s j st).2 := by
 subst hqq
 by_cases h0 : lC t (P : Int) s = 0
 ·have hok := vAt_ok h
  have := swAll_to hn P 0 hq (Nat.zero_le _) (by rw [if_pos h0]; rfl) hT hA h
  refine this.mono ?_
  rintro e w' ⟨h1, h2, h3, _⟩
  rw [sweepTo_none h0] at h1 h2 ⊢
  exact ⟨h1, h2, h3, fun j _ => by rw [sweepTo_none h0]; exact hok⟩
 ·exact swAll_to hn P P hq (Nat.le_refl _) (by rw [if_neg h0]) hT hA h
end
end
section
section
variable {base b n : Nat} {wh all : Bool} {K : Nat -> Option Nat} {st : Vst} {w w0 : World} {A G : Nat -> Prop} {t q s : Int}

theorem r14Add_off (p nn : Int) (hp : pgB q p = false) (h : (rOb base b n all K).At w0 A G st w) :
  Calls Tryz.prog 102 #[.pointer (some ⟨b, 0, none⟩), .agg #[.int .i64 t, .int .i64 q, .int .i64 s], .int .i64 p, .int .i64 nn] w fun e w' => e = .returned (.tuple #[]) /\ (rOb base b n all K).At w0 A G (st) w' /\ Stay G w w' := by
 have W0 := hidp ((WL.start h).new 23 #[.int .i64 t, .int .i64 q, .int .i64 s])
 obtain ⟨x0, x1, x2⟩ := W0.out.h0.three
 have hp := pgB_no hp
 clear h
 go_enter Tryz.func102, Tryz.ntmps102
 by_cases h0 : p < 0
 ·have t0 : decide (p < (0 : Int)) = true := decide_eq_true h0
  go_wp2
  (try simp only [Exit.inBlock, Exit.then])
  refine bodyPost_ret (results_none rfl _ _ _) rfl ?_
  exact ⟨rfl, W0.out.fin⟩
 ·have t0 : decide (p < (0 : Int)) = false := decide_eq_false h0
  have t1 : decide (q <= p) = true := decide_eq_true (by omega)
  go_wp2
  (try simp only [Exit.inBlock, Exit.then])
  refine bodyPost_ret (results_none rfl _ _ _) rfl ?_
  exact ⟨rfl, W0.out.fin⟩

theorem r14Add_low (k : Nat) (nn : Int) (hq : q <= 2147483648) (hk : pgB q (k : Int) = true) (h1 : nn < 1) (h : (rOb base b n all K).At w0 A G st w) :
  Calls Tryz.prog 102 #[.pointer (some ⟨b, 0, none⟩), .agg #[.int .i64 t, .int .i64 q, .int .i64 s], .int .i64 (k : Int), .int .i64 nn] w fun e w' => e = .returned (.tuple #[]) /\ (rOb base b n all K).At w0 A G (st) w' /\ Stay G w w' := by
 have W0 := hidp ((WL.start h).new 23 #[.int .i64 t, .int .i64 q, .int .i64 s])
 obtain ⟨x0, x1, x2⟩ := W0.out.h0.three
 have hk2 := (pgB_iff _ _).1 hk
 have hk31 : k < 2147483648 := by omega
 have sq : IntKind.i64.wrap (q - (k : Int)) = q - (k : Int) := i64_same (by omega) (by omega)
 have t8 : decide ((k : Int) < 0) = false := decide_eq_false (by omega)
 have t9 : decide (q <= (k : Int)) = false := decide_eq_false (by omega)
 clear hk
 have t0 : decide (nn < (1 : Int)) = true := decide_eq_true (by omega)
 clear h
 go_enter Tryz.func102, Tryz.ntmps102
 go_wp2
 (try simp only [Exit.inBlock, Exit.then])
 refine bodyPost_ret (results_none rfl _ _ _) rfl ?_
 exact ⟨rfl, W0.out.fin⟩

theorem r14Add_high (k : Nat) (nn : Int) (hq : q <= 2147483648) (hk : pgB q (k : Int) = true) (h1 : 1 <= nn) (h2 : q - (k : Int) < nn) (h : (rOb base b n all K).At w0 A G st w) :
  Calls Tryz.prog 102 #[.pointer (some ⟨b, 0, none⟩), .agg #[.int .i64 t, .int .i64 q, .int .i64 s], .int .i64 (k : Int), .int .i64 nn] w fun e w' => e = .returned (.tuple #[]) /\ (rOb base b n all K).At w0 A G (st) w' /\ Stay G w w' := by
 have W0 := hidp ((WL.start h).new 23 #[.int .i64 t, .int .i64 q, .int .i64 s])
 obtain ⟨x0, x1, x2⟩ := W0.out.h0.three
 have hk2 := (pgB_iff _ _).1 hk
 have hk31 : k < 2147483648 := by omega
 have sq : IntKind.i64.wrap (q - (k : Int)) = q - (k : Int) := i64_same (by omega) (by omega)
 have t8 : decide ((k : Int) < 0) = false := decide_eq_false (by omega)
 have t9 : decide (q <= (k : Int)) = false := decide_eq_false (by omega)
 clear hk
 have t0 : decide (nn < (1 : Int)) = false := decide_eq_false (by omega)
 have t1 : decide (q - (k : Int) < nn) = true := decide_eq_true (by omega)
 clear h
 go_enter Tryz.func102, Tryz.ntmps102
 go_wp2
 (try simp only [Exit.inBlock, Exit.then])
 refine bodyPost_ret (results_none rfl _ _ _) rfl ?_
 exact ⟨rfl, W0.out.fin⟩

set_option maxHeartbeats 3200000 in
theorem r14Add_yes (hn : n < 2 ^ 40) (k m : Nat) (hq : q <= 2147483648) (hk : pgB q (k : Int) = true) (h1 : 1 <= (m : Int)) (h2 : (m : Int) <= q - (k : Int)) (h : (rOb base b n all K).At w0 A G st w) :
  Calls Tryz.prog 102 #[.pointer (some ⟨b, 0, none⟩), .agg #[.int .i64 t, .int .i64 q, .int .i64 s], .int .i64 (k : Int), .int .i64 (m : Int)] w fun e w' => e = .returned (.tuple #[]) /\ (rOb base b n all K).At w0 A G (addS n K t q s (k : Int) (m : Int) st) w' /\ Stay G w w' := by
 have W0 := hidp ((WL.start h).new 23 #[.int .i64 t, .int .i64 q, .int .i64 s])
 obtain ⟨x0, x1, x2⟩ := W0.out.h0.three
 have t0 : decide ((m : Int) < (1 : Int)) = false := decide_eq_false (by omega)
 have t1 : decide (q - (k : Int) < (m : Int)) = false := decide_eq_false (by omega)
 have hm31 : m <= 2147483648 := by omega
 have sk : IntKind.u32.wrap ((k : Int) + 1) = ((k + 1 : Nat) : Int) := by have := wrap_nat32 (k + 1) (by omega); simpa using this
 have HIV := hidp (infoV_lt 1 (m : Int) 0)
 have HE : Hid (addS n K t q s (k : Int) (m : Int) st = pushI n K t q s (nthI 2 11 1 (ofI (m : Int))) (k : Int) (putS n (putS n st (pageI t q s (k : Int) 0) (infoV 1 (m : Int) 0)) (pageI t q s ((k : Int) + (m : Int) - 1) 1) (k + 1))) := hidp (addS_yes ⟨hk, h1, h2⟩)
 have hk2 := (pgB_iff _ _).1 hk
 have hk31 : k < 2147483648 := by omega
 have sq : IntKind.i64.wrap (q - (k : Int)) = q - (k : Int) := i64_same (by omega) (by omega)
 have t8 : decide ((k : Int) < 0) = false := decide_eq_false (by omega)
 have t9 : decide (q <= (k : Int)) = false := decide_eq_false (by omega)
 clear hk
 clear h
 go_enter Tryz.func102, Tryz.ntmps102
 go_wp2_with fail
 refine (r7Info_c t q s (k : Int) _).mono ?_; rintro e w1 ⟨rfl, hb⟩; have W1 := hidp (W0.out.keep hb); clear hb W0
 obtain ⟨x0, x1, x2⟩ := W1.out.h0.three
 go_wp2_with fail
 refine (r9Value_c 1 (m : Int) 0 _).mono ?_; rintro e w2 ⟨rfl, hb⟩; have W2 := hidp (W1.out.keep hb); clear hb W1
 obtain ⟨x0, x1, x2⟩ := W2.out.h0.three
 go_wp2_with fail
 refine (rPutA hn _ _ HIV.out W2.out.at_).mono ?_; rintro e w3 ⟨rfl, h1, h2⟩; have W3 := hidp (W2.out.call h1 h2); clear h1 h2 W2
 obtain ⟨x0, x1, x2⟩ := W3.out.h0.three
 go_wp2_with fail
 refine (r7Foot_c t q s ((k : Int) + (m : Int) - 1) _).mono ?_; rintro e w4 ⟨rfl, hb⟩; have W4 := hidp (W3.out.keep hb); clear hb W3
 obtain ⟨x0, x1, x2⟩ := W4.out.h0.three
 go_wp2_with fail
 refine (rPutA hn _ (k + 1) (by omega) W4.out.at_).mono ?_; rintro e w5 ⟨rfl, h1, h2⟩; have W5 := hidp (W4.out.call h1 h2); clear h1 h2 W4
 obtain ⟨x0, x1, x2⟩ := W5.out.h0.three
 go_wp2_with fail
 refine wp_region_held_drew (S := (fun w' => w'.cell? ⟨w.heap.size, 0, none⟩ = some (.int .i64 t) /\ w'.cell? ⟨w.heap.size, 1, none⟩ = some (.int .i64 q) /\ w'.cell? ⟨w.heap.size, 2, none⟩ = some (.int .i64 s))) (by kernel_rfl) ?_ (fun hHeld => ?_)
 ·(try dsimp only)
  first | exact W5.out.drew.h0.three | exact W5.out.h0.three | exact W6.out.h0.three | exact hHeld
 refine tkz 0 ?_
 refine tkz 1 ?_
 refine tkz 2 ?_
 refine tkz 5 ?_
 refine rdz 3 fun K hK => ?_
 go_simp
 refine (r14Of_c (m : Int) (by omega) (by omega) _).mono ?_; rintro e w9 ⟨rfl, rfl⟩
 refine hK.out _ _ ?_ (fun hHeld => ?_)
 ·(try dsimp only)
  first | exact W5.out.drew.h0.three | exact W5.out.h0.three | exact W6.out.h0.three | exact hHeld
 clear hK K
 (try simp only [Act.put, gA, gB, gC, sA, sB, sC])
 refine rdz 4 fun K hK => ?_
 go_simp
 refine (r7Bin_c (ofI (m : Int)) _).mono ?_; rintro e w9 ⟨rfl, rfl⟩
 refine hK.out _ _ ?_ (fun hHeld => ?_)
 ·(try dsimp only)
  first | exact W5.out.drew.h0.three | exact W5.out.h0.three | exact W6.out.h0.three | exact hHeld
 clear hK K
 (try simp only [Act.put, gA, gB, gC, sA, sB, sC])
 refine rdz 6 fun K hK => ?_
 go_simp
 refine (rkPush_c hn (by omega) (k : Int) W5.out.drew.at_).mono ?_; rintro e w6 ⟨rfl, h1, h2⟩; have W6 := hidp (W5.out.drew.call h1 h2); clear h1 h2 W5
 refine hK.out _ _ ?_ (fun hHeld => ?_)
 ·(try dsimp only)
  first | exact W5.out.drew.h0.three | exact W5.out.h0.three | exact W6.out.h0.three | exact hHeld
 clear hK K
 (try simp only [Act.put, gA, gB, gC, sA, sB, sC])
 refine dnz ?_
 obtain ⟨x0, x1, x2⟩ := W6.out.h0.three
 go_wp2
 go_end0
 exact ⟨rfl, by rw [HE.out]; exact W6.out.fin⟩

theorem r14Add_c (hn : n < 2 ^ 40) (hq : q <= 2147483648) (p nn : Int) (h : (rOb base b n all K).At w0 A G st w) :
  Calls Tryz.prog 102 #[.pointer (some ⟨b, 0, none⟩), .agg #[.int .i64 t, .int .i64 q, .int .i64 s], .int .i64 p, .int .i64 nn] w fun e w' => e = .returned (.tuple #[]) /\ (rOb base b n all K).At w0 A G (addS n K t q s p nn st) w' /\ Stay G w w' := by
 cases hp : pgB q p with
 | false => rw [addS_no (by rw [hp]; simp)]; exact r14Add_off p nn hp h
 | true =>
  have h1 := (pgB_iff _ _).1 hp
  obtain ⟨k, rfl⟩ := Int.eq_ofNat_of_zero_le h1.1
  by_cases h2 : nn < 1
  ·rw [addS_no (by omega)]; exact r14Add_low k nn hq hp h2 h
  ·by_cases h3 : q - (k : Int) < nn
   ·rw [addS_no (by omega)]; exact r14Add_high k nn hq hp (by omega) h3 h
   ·obtain ⟨m, rfl⟩ := Int.eq_ofNat_of_zero_le (show 0 <= nn by omega)
    exact r14Add_yes hn k m hq hp (by omega) (by omega) h

theorem r14Drop_off (p : Int) (hp : pgB q p = false) (h : (rOb base b n all K).At w0 A G st w) :
  Calls Tryz.prog 101 #[.pointer (some ⟨b, 0, none⟩), .agg #[.int .i64 t, .int .i64 q, .int .i64 s], .int .i64 p] w fun e w' => e = .returned (.int .i64 0) /\ (rOb base b n all K).At w0 A G (st) w' /\ Stay G w w' := by
 have W0 := hidp ((WL.start h).new 23 #[.int .i64 t, .int .i64 q, .int .i64 s])
 obtain ⟨x0, x1, x2⟩ := W0.out.h0.three
 have hp := pgB_no hp
 clear h
 go_enter Tryz.func101, Tryz.ntmps101
 by_cases h0 : p < 0
 ·have t0 : decide (p < (0 : Int)) = true := decide_eq_true h0
  go_wp2
  go_ret
  exact ⟨rfl, W0.out.fin⟩
 ·have t0 : decide (p < (0 : Int)) = false := decide_eq_false h0
  have t1 : decide (q <= p) = true := decide_eq_true (by omega)
  go_wp2
  go_ret
  exact ⟨rfl, W0.out.fin⟩

theorem r14Drop_none (hn : n < 2 ^ 40) (k : Nat) (hq : q <= 2147483648) (hk : pgB q (k : Int) = true) (kk l c : Int) (ok : Bool) (hI : infoOf n K t q s (k : Int) st = (kk, l, c, ok)) (h1 : kk ≠ 1) (h : (rOb base b n all K).At w0 A G st w) :
  Calls Tryz.prog 101 #[.pointer (some ⟨b, 0, none⟩), .agg #[.int .i64 t, .int .i64 q, .int .i64 s], .int .i64 (k : Int)] w fun e w' => e = .returned (.int .i64 0) /\ (rOb base b n all K).At w0 A G (getS n K st (pageI t q s (k : Int) 0)) w' /\ Stay G w w' := by
 have W0 := hidp ((WL.start h).new 23 #[.int .i64 t, .int .i64 q, .int .i64 s])
 obtain ⟨x0, x1, x2⟩ := W0.out.h0.three
 have hk2 := (pgB_iff _ _).1 hk
 have hk31 : k < 2147483648 := by omega
 have sq : IntKind.i64.wrap (q - (k : Int)) = q - (k : Int) := i64_same (by omega) (by omega)
 have t8 : decide ((k : Int) < 0) = false := decide_eq_false (by omega)
 have t9 : decide (q <= (k : Int)) = false := decide_eq_false (by omega)
 clear hk
 have t0 : (kk == 1) = false := by simpa using h1
 have t1 : (kk != 1) = true := by simpa using h1
 have HI := hidp hI
 clear hI
 clear h
 go_enter Tryz.func101, Tryz.ntmps101
 go_wp2_with fail
 refine (r14Info_c hn (k : Int) kk l c ok HI.out W0.out.at_).mono ?_; rintro e w1 ⟨rfl, h1, h2⟩; have W1 := hidp (W0.out.call h1 h2); clear h1 h2 W0
 replace W1 := hidp (W1.out.new 68 #[.int .i64 kk, .int .i64 l, .int .i64 c])
 obtain ⟨x0, x1, x2⟩ := W1.out.h1.three
 obtain ⟨y0, y1, y2⟩ := W1.out.h0.three
 go_wp2
 go_ret
 exact ⟨rfl, W1.out.fin⟩

set_option maxHeartbeats 3200000 in
theorem r14Drop_yes (hn : n < 2 ^ 40) (k : Nat) (hq : q <= 2147483648) (hk : pgB q (k : Int) = true) (kk l c : Int) (ok : Bool) (hI : infoOf n K t q s (k : Int) st = (kk, l, c, ok)) (h1 : kk = 1) (hl0 : 0 <= l) (hl1 : l <= 1024) (h : (rOb base b n all K).At w0 A G st w) :
  Calls Tryz.prog 101 #[.pointer (some ⟨b, 0, none⟩), .agg #[.int .i64 t, .int .i64 q, .int .i64 s], .int .i64 (k : Int)] w fun e w' => e = .returned (.int .i64 l) /\ (rOb base b n all K).At w0 A G (pullI n K t q s (nthI 2 11 1 (ofI l)) (k : Int) (getS n K st (pageI t q s (k : Int) 0))) w' /\ Stay G w w' := by
 have W0 := hidp ((WL.start h).new 23 #[.int .i64 t, .int .i64 q, .int .i64 s])
 obtain ⟨x0, x1, x2⟩ := W0.out.h0.three
 have hk2 := (pgB_iff _ _).1 hk
 have hk31 : k < 2147483648 := by omega
 have sq : IntKind.i64.wrap (q - (k : Int)) = q - (k : Int) := i64_same (by omega) (by omega)
 have t8 : decide ((k : Int) < 0) = false := decide_eq_false (by omega)
 have t9 : decide (q <= (k : Int)) = false := decide_eq_false (by omega)
 clear hk
 subst h1
 have HI := hidp hI
 clear hI
 clear h
 go_enter Tryz.func101, Tryz.ntmps101
 go_wp2_with fail
 refine (r14Info_c hn (k : Int) 1 l c ok HI.out W0.out.at_).mono ?_; rintro e w1 ⟨rfl, h1, h2⟩; have W1 := hidp (W0.out.call h1 h2); clear h1 h2 W0
 generalize hNI : w1.heap.size = NI at *
 replace W1 := hidp (W1.out.new 68 #[.int .i64 1, .int .i64 l, .int .i64 c])
 rw [hNI] at W1
 obtain ⟨x0, x1, x2⟩ := W1.out.h1.three
 obtain ⟨y0, y1, y2⟩ := W1.out.h0.three
 go_wp2_with fail
 refine wp_region_held_drew (S := (fun w' => w'.cell? ⟨w.heap.size, 0, none⟩ = some (.int .i64 t) /\ w'.cell? ⟨w.heap.size, 1, none⟩ = some (.int .i64 q) /\ w'.cell? ⟨w.heap.size, 2, none⟩ = some (.int .i64 s) /\ w'.cell? ⟨NI, 1, none⟩ = some (.int .i64 l))) (by kernel_rfl) ?_ (fun hHeld => ?_)
 ·(try dsimp only)
  first | exact ⟨W1.out.drew.h1.three.1, W1.out.drew.h1.three.2.1, W1.out.drew.h1.three.2.2, W1.out.drew.h0.three.2.1⟩ | exact ⟨W1.out.h1.three.1, W1.out.h1.three.2.1, W1.out.h1.three.2.2, W1.out.h0.three.2.1⟩ | exact ⟨W2.out.h1.three.1, W2.out.h1.three.2.1, W2.out.h1.three.2.2, W2.out.h0.three.2.1⟩ | exact hHeld
 refine tkz 0 ?_
 refine tkz 1 ?_
 refine tkz 2 ?_
 refine tkz 3 ?_
 refine tkz 6 ?_
 refine rdz 4 fun K hK => ?_
 go_simp
 refine (r14Of_c l (by omega) (by omega) _).mono ?_; rintro e w9 ⟨rfl, rfl⟩
 refine hK.out _ _ ?_ (fun hHeld => ?_)
 ·(try dsimp only)
  first | exact ⟨W1.out.drew.h1.three.1, W1.out.drew.h1.three.2.1, W1.out.drew.h1.three.2.2, W1.out.drew.h0.three.2.1⟩ | exact ⟨W1.out.h1.three.1, W1.out.h1.three.2.1, W1.out.h1.three.2.2, W1.out.h0.three.2.1⟩ | exact ⟨W2.out.h1.three.1, W2.out.h1.three.2.1, W2.out.h1.three.2.2, W2.out.h0.three.2.1⟩ | exact hHeld
 clear hK K
 (try simp only [Act.put, gA, gB, gC, sA, sB, sC])
 refine rdz 5 fun K hK => ?_
 go_simp
 refine (r7Bin_c (ofI l) _).mono ?_; rintro e w9 ⟨rfl, rfl⟩
 refine hK.out _ _ ?_ (fun hHeld => ?_)
 ·(try dsimp only)
  first | exact ⟨W1.out.drew.h1.three.1, W1.out.drew.h1.three.2.1, W1.out.drew.h1.three.2.2, W1.out.drew.h0.three.2.1⟩ | exact ⟨W1.out.h1.three.1, W1.out.h1.three.2.1, W1.out.h1.three.2.2, W1.out.h0.three.2.1⟩ | exact ⟨W2.out.h1.three.1, W2.out.h1.three.2.1, W2.out.h1.three.2.2, W2.out.h0.three.2.1⟩ | exact hHeld
 clear hK K
 (try simp only [Act.put, gA, gB, gC, sA, sB, sC])
 refine rdz 7 fun K hK => ?_
 go_simp
 refine (rkPull_c hn (by omega) (k : Int) W1.out.drew.at_).mono ?_; rintro e w2 ⟨rfl, h1, h2⟩; have W2 := hidp (W1.out.drew.call h1 h2); clear h1 h2 W1
 refine hK.out _ _ ?_ (fun hHeld => ?_)
 ·(try dsimp only)
  first | exact ⟨W1.out.drew.h1.three.1, W1.out.drew.h1.three.2.1, W1.out.drew.h1.three.2.2, W1.out.drew.h0.three.2.1⟩ | exact ⟨W1.out.h1.three.1, W1.out.h1.three.2.1, W1.out.h1.three.2.2, W1.out.h0.three.2.1⟩ | exact ⟨W2.out.h1.three.1, W2.out.h1.three.2.1, W2.out.h1.three.2.2, W2.out.h0.three.2.1⟩ | exact hHeld
 clear hK K
 (try simp only [Act.put, gA, gB, gC, sA, sB, sC])
 refine dnz ?_
 obtain ⟨x0, x1, x2⟩ := W2.out.h1.three
 obtain ⟨y0, y1, y2⟩ := W2.out.h0.three
 go_wp2
 go_ret
 exact ⟨rfl, W2.out.fin⟩

theorem r14Drop_c (hn : n < 2 ^ 40) (hq : q <= 2147483648) (p : Int) (h : (rOb base b n all K).At w0 A G st w) :
  Calls Tryz.prog 101 #[.pointer (some ⟨b, 0, none⟩), .agg #[.int .i64 t, .int .i64 q, .int .i64 s], .int .i64 p] w fun e w' => e = .returned (.int .i64 (dropV n K t q s p st)) /\ (rOb base b n all K).At w0 A G (dropS n K t q s p st) w' /\ Stay G w w' := by
 unfold dropS dropV
 cases hp : pgB q p with
 | false => exact r14Drop_off p hp h
 | true =>
  have h1 := (pgB_iff _ _).1 hp
  obtain ⟨k, rfl⟩ := Int.eq_ofNat_of_zero_le h1.1
  obtain ⟨⟨kk, l, c, ok⟩, hI⟩ : ∃ x, infoOf n K t q s (k : Int) st = x := ⟨_, rfl⟩
  rw [hI]
  simp only [if_true]
  by_cases h2 : kk = 1
  ·rw [if_pos h2, if_pos h2]
   have h3 : 0 <= l /\ l <= 1024 := by
    unfold infoOf at hI
    rw [h2] at hI
    exact infoG_len hI
   exact r14Drop_yes hn k hq hp kk l c ok hI h2 h3.1 h3.2 h
  ·rw [if_neg h2, if_neg h2]
   exact r14Drop_none hn k hq hp kk l c ok hI h2 h
end
end
end Go.Proofs.YtnmhdlpnimdffaaGreatDoor

namespace Go.Proofs.YtnmhdlpnimdffaaGreatDoor
open Go.ChangeShapes Go.WideShapes Go.ChangeAt Go.RowKit Go.Maps
set_option linter.unusedVariables false
set_option maxRecDepth 100000
set_option linter.unusedSimpArgs false
section
theorem rowV_nat6 {w : World} {base : Nat} {e : TypeId} {v : Value} {l : List Nat} (h : w.ownsRow base e 1 v l.length (ntVs l)) : RowV w v ((l.map fun (i : Nat) => (i : Int)).map (Value.int .i64)) := by
 have e0 : ntVs l = (l.map fun (n : Nat) => (n : Int)).map (Value.int .i64) := by unfold ntVs; rw [List.map_map]; rfl
 rw [e0] at h
 refine RowV.of_own (base := base) (e := e) ?_
 simpa using h
theorem RWrites_c {base b n : Nat} {all : Bool} {v : Nat -> Value} {Kn : Nat -> Option Nat} {s : Vst} (hlim : s.wr.length < 2 ^ 40) (w : World) (h : IsRefV w base b n all v Kn s) :
  Calls Tryz.prog 51 #[.pointer (some ⟨b, 0, none⟩)] w fun e w' => ∃ u, e = .returned u /\ w'.ownsRow w.heap.size 89 2 u s.wr.length (prVs s.wr) /\ Below w.heap.size w w' := by
 have hn := h.nmax
 have HH := hidp h
 have HO : Hid (w.ownsRow base 3 1 (v 5) s.wr.length (ntVs (s.wr.map (·.1)))) := hidp (h.parts.own.rowAt (by omega) rfl rfl rfl rfl)
 obtain ⟨A, cr, hv5⟩ := own_slice HO.out
 have HO5 : Hid (w.ownsRow base 3 1 (.slice A s.wr.length cr) s.wr.length (ntVs (s.wr.map (·.1)))) := hidp (by have := HO.out; rwa [hv5] at this)
 obtain ⟨hqc, hcr⟩ := vown_caps HO5.out
 have hcr2 : cr <= 9223372036854775807 := hcr
 have HC6 : Hid (∀ w', Below w.heap.size w w' -> w'.cell? ⟨b, 6, none⟩ = some (.slice A s.wr.length cr)) := hidp (fun w' hb => by
  have := (h.keep hb).cells.2.2.2.2.2.2.1
  rwa [hv5] at this)
 obtain ⟨q, hq⟩ : ∃ q, s.wr.length = q := ⟨_, rfl⟩
 have HQ := hidp hq
 have HP0 : Hid ((w.alloc (.cells #[] 89)).ownsRow w.heap.size 89 2 (.slice (some ⟨w.heap.size, 0, none⟩) 0 0) 0 (prVs (s.wr.take 0))) := hidp (World.ownsRow_made w #[] 0 (Nat.le_refl _) (Nat.zero_le _) (by simp))
 have HB0 := hidp (Bnew (B0 w) (.cells #[] 89))
 obtain ⟨j0, hjn, hjz0, hjz1, hjz2⟩ := info_parts pairInfo
 rw [hq] at HO5 HC6 hqc hlim ⊢
 clear h HO hv5 hq hcr
 go_enter Tryz.func51, Tryz.ntmps51
 go_wp2_with fail
 go_loopw [3, 4] (fun u i wr => ∃ k : Nat, k <= q /\ i = .int .i64 k /\ Hid (wr.ownsRow w.heap.size 89 2 u k (prVs (s.wr.take k))) /\ Hid (Below w.heap.size w wr)) (fun _ i _ => q - (intOf i).toNat)
 case atStart => exact ⟨0, by omega, rfl, HP0, HB0⟩
 case round =>
  clear HP0 HB0
  obtain ⟨k, hk, rfl, HP, HB⟩ := hrel
  have c6 := HC6.out _ HB.out
  by_cases hlt : k < q
  ·have hkl : k < s.wr.length := by have := HQ.out; omega
   have hcn : cellW s.wr k < n := by
    have := (HH.out.ok.wrLt s.wr[k] (List.getElem_mem _)).1
    simpa [cellW, List.getD, List.getElem?_eq_getElem hkl] using this
   obtain ⟨g3, p3, hv3, hp3, hm3, hg3, hl3, hr3⟩ := HH.out.row (i := 3) (by omega) (by omega)
   have hto : toV s.wr (cellW s.wr k) = atW s.wr k := by unfold toV; rw [HH.out.ok.wrNd k hkl]
   have d3 := (hr3 _ hcn).1.trans (rX_3 n Kn s hcn)
   rw [hto] at d3
   obtain ⟨gw, cw, hvw, _, hgw⟩ := HO5.out.form (by omega)
   injection hvw with hvw _ hcc
   subst hvw
   subst hcc
   have d5 : w.cell? ⟨gw, k, none⟩ = some (.int .i64 ((cellW s.wr k : Nat) : Int)) := by
    rw [HO5.out.cellAt k (by omega)]
    unfold ntVs
    rw [List.getElem?_map, List.getElem?_map, List.getElem?_eq_getElem hkl]
    simp [cellW, List.getD, List.getElem?_eq_getElem hkl]
   have HPS : Hid (prVs (s.wr.take (k + 1)) = prVs (s.wr.take k) ++ [.int .i64 ((cellW s.wr k : Nat) : Int), .int .u32 ((atW s.wr k : Nat) : Int)]) := hidp (by
    have e : s.wr.take (k + 1) = s.wr.take k ++ [(cellW s.wr k, atW s.wr k)] := by
     have e0 : (cellW s.wr k, atW s.wr k) = s.wr[k] := by simp [cellW, atW, List.getD, List.getElem?_eq_getElem hkl]
     rw [List.take_add_one, List.getElem?_eq_getElem hkl, e0]
     rfl
    rw [e, prVs_snoc])
   have HS : Hid (∀ w', Below w.heap.size w w' -> w'.cell? ⟨b, 6, none⟩ = some (.slice (some ⟨gw, 0, none⟩) q cr) /\ w'.cell? ⟨gw, k, none⟩ = some (.int .i64 ((cellW s.wr k : Nat) : Int)) /\ w'.cell? ⟨b, 4, none⟩ = some (.slice (some ⟨g3, 0, none⟩) n p3) /\ w'.cell? ⟨g3, cellW s.wr k, none⟩ = some (.int .u32 ((atW s.wr k : Nat) : Int))) := hidp (fun w' hb => by
    refine ⟨HC6.out _ hb, (hb.cell (p := ⟨gw, k, none⟩) hgw).trans d5, ?_, (hb.cell (p := ⟨g3, cellW s.wr k, none⟩) hl3).trans d3⟩
    have := (HH.out.keep hb).cells.2.2.2.2.1
    rwa [hv3] at this)
   obtain ⟨y0, y1, y2, y3⟩ := HS.out _ HB.out
   clear hto d3 d5 hr3 hv3 hkl
   generalize cellW s.wr k = cx at *
   generalize atW s.wr k = ax at *
   go_wp2_with fail
   refine wp_region_held_drew (S := (fun w' => w'.cell? ⟨b, 6, none⟩ = some (.slice (some ⟨gw, 0, none⟩) q cr) /\ w'.cell? ⟨gw, k, none⟩ = some (.int .i64 (cx : Int)) /\ w'.cell? ⟨b, 4, none⟩ = some (.slice (some ⟨g3, 0, none⟩) n p3) /\ w'.cell? ⟨g3, cx, none⟩ = some (.int .u32 (ax : Int)))) (by kernel_rfl) ?_ (fun hHeld => ?_)
   ·(try dsimp only)
    first | exact ⟨y0, y1, y2, y3⟩ | exact HS.out _ (Bnew (Bdrew HB.out) _) | exact HS.out _ HBq.out | exact hHeld
   refine tkz 0 ?_
   refine tkz 1 ?_
   refine tkz 2 ?_
   refine tkz 3 ?_
   refine tkz 4 ?_
   refine tkz 5 ?_
   refine tkz 6 ?_
   refine tkz 7 ?_
   refine tkz 8 ?_
   refine tkz 9 ?_
   refine tkz 10 ?_
   refine tkz 11 ?_
   refine tkz 12 ?_
   refine tkz 13 ?_
   refine tkz 14 ?_
   refine tkz 15 ?_
   refine tkz 16 ?_
   refine tkz 17 ?_
   refine tkz 18 ?_
   refine tkz 19 ?_
   refine tkz 20 ?_
   refine tkz 21 ?_
   refine rdz 22 fun K hK => ?_
   go_simp
   skip
   refine hK.out _ _ ?_ (fun hHeld => ?_)
   ·(try dsimp only)
    first | exact ⟨y0, y1, y2, y3⟩ | exact HS.out _ (Bnew (Bdrew HB.out) _) | exact HS.out _ HBq.out | exact hHeld
   clear hK K
   (try simp only [Act.put, gA, gB, gC, sA, sB, sC])
   refine rdz 23 fun K hK => ?_
   (refine step_append_lies _ (by rfl) _ _ 37 (by rfl) w.heap.size 89 j0 (.agg #[.int .i64 0, .int .u32 0]) 2 16 Tryz.underlying37 hjn hjz0 hjz1 hjz2 rfl (by decide) u3 k (prVs (s.wr.take k)) (by rfl) ((own_below HP.out (Bdrew (B0 _))).alloc _) ⟨_, 0, none⟩ 1 1 [.int .i64 (cx : Int), .int .u32 (ax : Int)] (by rfl) rfl (fun j y hy => World.news_of_block (w := wr.alloc (.cells #[.int .i64 (cx : Int), .int .u32 (ax : Int)] 89)) (heap_alloc_new wr _) j y (by simpa using hy)) (by simp [Value.oneCell']) (by omega) (by unfold maxLen; omega) (by omega) (by have := HB.out.size; simp; omega) _ rfl ?_; intro g cap w6 hown6 hgrow6 hat6 hlt6; have HBq := hidp ((Bnew HB.out (.cells #[.int .i64 (cx : Int), .int .u32 (ax : Int)] 89)).grown (w' := w6) ⟨hgrow6.os, hgrow6.tape, hgrow6.output, hgrow6.size, hgrow6.block⟩ (by have := HB.out.size; simp; omega) (fun q' hq' => (HP.out.lt q' hq').1)); have HO6 := hidp hown6; clear hown6 hgrow6 hat6 hlt6)
   refine hK.out _ _ ?_ (fun hHeld => ?_)
   ·(try dsimp only)
    first | exact ⟨y0, y1, y2, y3⟩ | exact HS.out _ (Bnew (Bdrew HB.out) _) | exact HS.out _ HBq.out | exact hHeld
   clear hK K
   (try simp only [Act.put, gA, gB, gC, sA, sB, sC])
   refine tkz 24 ?_
   refine dnz ?_
   go_wp2
   go_roundw
   case rel => exact ⟨k + 1, by omega, by go_num, hidp (by rw [HPS.out]; exact HO6.out), HBq⟩
   case measure => simp [intOf]; omega
  ·obtain rfl : k = q := by omega
   have HPF : Hid (wr.ownsRow w.heap.size 89 2 u3 k (prVs s.wr)) := hidp (by
    have := HP.out
    rwa [List.take_of_length_le (by have := HQ.out; omega)] at this)
   go_wp2
   go_ret
   exact ⟨u3, rfl, HPF.out, HB.out⟩

theorem Same_c {base b n : Nat} {all : Bool} {v : Nat -> Value} {Kn : Nat -> Option Nat} {s : Vst} (h1 : s.rd.length < 2 ^ 40) (h2 : s.wr.length < 2 ^ 40) (u1 u2 : Value) (w : World) (h : IsRefV w base b n all v Kn s)
  (HR : RowV w u1 ((s.rd.map fun (i : Nat) => (i : Int)).map (Value.int .i64))) (HW : RowP w u2 s.wr) :
  Calls Tryz.prog 13 #[.pointer (some ⟨b, 0, none⟩), u1, u2, .int .i64 (missI s)] w fun e w' => e = .returned (.bool true) /\ Below w.heap.size w w' := by
 have HH := hidp h
 have c5 := h.cells.2.2.2.2.2.1
 have HV : Hid (RowV w (v 4) ((s.rd.map fun (i : Nat) => (i : Int)).map (Value.int .i64))) := hidp (rowV_nat6 (h.parts.own.rowAt (by omega) rfl rfl rfl rfl))
 have HR := hidp HR
 have HW := hidp HW
 obtain ⟨mi, hmi⟩ : ∃ mi, missI s = mi := ⟨_, rfl⟩
 have HMI := hidp hmi
 rw [hmi]
 clear h hmi
 go_enter Tryz.func13, Tryz.ntmps13
 go_wp2_with fail
 refine (Ints_same _ _ _ _ HR.out HV.out).mono ?_
 rintro e w1 ⟨rfl, j1, rfl⟩
 obtain ⟨w2, hw2⟩ : ∃ w2, w.drewN j1 = w2 := ⟨_, rfl⟩
 have hb := Bdraw (B0 w) j1
 rw [hw2] at hb ⊢
 have HH2 := hidp (HH.out.keep hb)
 have HW2 := hidp (HW.out.below hb)
 have HB2 := hidp hb
 clear hb HH HW HR HV c5 hw2
 go_wp2_with fail
 refine (RWrites_c h2 _ HH2.out).mono ?_
 rintro e w3 ⟨u3, rfl, ho, hb⟩
 have HP3 := hidp (RowP.of_own ho)
 have HW3 := hidp (HW2.out.below hb)
 have HH3 := hidp (HH2.out.keep hb)
 have HB3 := hidp (Bgo HB2.out hb)
 clear ho hb HH2 HW2 HB2
 go_wp2_with fail
 refine (Pairs_same s.wr _ _ _ HW3.out HP3.out).mono ?_
 rintro e w4 ⟨rfl, j4, rfl⟩
 have c7 : (w3.drewN j4).cell? ⟨b, 7, none⟩ = some (.int .i64 mi) := by
  have := (HH3.out.keep (Bdraw (B0 w3) j4)).cells.2.2.2.2.2.2.2.1
  rwa [HMI.out] at this
 have HB4 := hidp (Bdraw HB3.out j4)
 obtain ⟨w5, hw5⟩ : ∃ w5, w3.drewN j4 = w5 := ⟨_, rfl⟩
 rw [hw5] at c7 HB4 ⊢
 clear hw5
 go_wp2
 go_ret
 exact ⟨rfl, HB4.out⟩
end
end Go.Proofs.YtnmhdlpnimdffaaGreatDoor

namespace Go.Proofs.YtnmhdlpnimdffaaGreatDoor
open Go.ChangeShapes Go.WideShapes Go.ChangeAt Go.RowKit Go.Maps
set_option linter.unusedVariables false
set_option linter.unusedSimpArgs false
set_option maxRecDepth 100000
section
structure Duo (W : World) (O1 O2 : Ob) (A B G : Nat -> Prop) (s1 s2 : Vst) (w : World) : Prop where
 i1 : O1.I w s1 A
 i2 : O2.I w s2 B
 ab : ∀ i, A i -> ¬ B i
 aG : ∀ g, G g -> g < w.heap.size /\ ¬ A g /\ ¬ B g
 lo : ∀ i, A i \/ B i -> W.heap.size <= i
 bel : Below W.heap.size W w
def noOb : Ob where
 I _ _ A := ∀ i, ¬ A i
 lt h i hi := absurd hi (h i)
 turns h _ _ := h

section
variable {W w w' : World} {O1 O2 : Ob} {A B G : Nat -> Prop} {s1 s2 s' : Vst}
theorem Duo.left1 (h : Duo W O1 O2 A B G s1 s2 w) (hl : O1.Left w A s' w') : ∃ A', Duo W O1 O2 A' B G s' s2 w' /\ Stay G w w' := by
 obtain ⟨A', k1, k2, k3⟩ := hl
 have hs := h.bel.size
 refine ⟨A', ⟨k1, O2.turns h.i2 k3 (fun i hi ha => h.ab i ha hi), fun i hi hb => ?_, fun g hg => ⟨Nat.lt_of_lt_of_le (h.aG g hg).1 k3.size, fun x => ?_, (h.aG g hg).2.2⟩, fun i hi => ?_, k3.below h.bel (fun i hi => h.lo i (.inl hi))⟩, ⟨k3.size, fun g hg hl => k3.block g hl (h.aG g hg).2.1⟩⟩
 ·rcases k2 i hi with h1 | h1
  ·exact h.ab i h1 hb
  ·have := O2.lt h.i2 i hb; omega
 ·rcases k2 g x with h1 | h1
  ·exact (h.aG g hg).2.1 h1
  ·have := (h.aG g hg).1; omega
 ·rcases hi with hi | hi
  ·rcases k2 i hi with h1 | h1
   ·exact h.lo i (.inl h1)
   ·omega
  ·exact h.lo i (.inr hi)
theorem Duo.swap (h : Duo W O1 O2 A B G s1 s2 w) : Duo W O2 O1 B A G s2 s1 w := ⟨h.i2, h.i1, fun i hb ha => h.ab i ha hb, fun g hg => ⟨(h.aG g hg).1, (h.aG g hg).2.2, (h.aG g hg).2.1⟩, fun i hi => h.lo i hi.symm, h.bel⟩
theorem Duo.left2 (h : Duo W O1 O2 A B G s1 s2 w) (hl : O2.Left w B s' w') : ∃ B', Duo W O1 O2 A B' G s1 s' w' /\ Stay G w w' := by
 obtain ⟨B', h1, h2⟩ := h.swap.left1 hl
 exact ⟨B', h1.swap, h2⟩
theorem Duo.keep (h : Duo W O1 O2 A B G s1 s2 w) (hb : Below w.heap.size w w') : Duo W O1 O2 A B G s1 s2 w' :=
 ⟨Ob.keep h.i1 hb, Ob.keep h.i2 hb, h.ab, fun g hg => ⟨Nat.lt_of_lt_of_le (h.aG g hg).1 hb.size, (h.aG g hg).2⟩, h.lo, Bgo h.bel hb⟩
theorem Duo.at1 (h : Duo W O1 O2 A B G s1 s2 w) : O1.At w A (fun _ => False) s1 w := Ob.At.start h.i1
theorem Duo.at2 (h : Duo W O1 O2 A B G s1 s2 w) : O2.At w B (fun _ => False) s2 w := Ob.At.start h.i2
theorem duo_made {b n base : Nat} {wh : Bool} {o : VGeo} {K : Nat -> Option Nat} {s : Vst} (hI : IsView w base b n wh o K s) (hb : W.heap.size <= base) (hB : Below W.heap.size W w) (hG : ∀ g, G g -> g < w.heap.size /\ ¬ o.A b g) :
  Duo W (vOb base b n wh K) noOb (o.A b) (fun _ => False) G s freshS w :=
 ⟨⟨o, hI, rfl⟩, fun _ x => x, fun _ _ x => x, fun g hg => ⟨(hG g hg).1, (hG g hg).2, fun x => x⟩, fun i hi => by
  rcases hi with hi | hi
  ·exact Nat.le_trans hb (hI.ge i hi)
  ·exact hi.elim, hB⟩
end
end
section
theorem few14_c (t q s : Int) (w : World) : Calls Tryz.prog 6 #[.agg #[.int .i64 t, .int .i64 q, .int .i64 s]] w fun e w' => e = .returned (.bool (decide (q <= 64))) /\ Below w.heap.size w w' := by
 go_enter Tryz.func6, Tryz.ntmps6
 go_wp2
 go_ret
 exact ⟨rfl, Bnew (B0 _) _⟩
theorem make82 (w : World) : (Instr.makeSlice 24 (.int .i64 82) (.int .i64 82)).run Tryz.prog w = .ok (.slice (some ⟨w.heap.size, 0, none⟩) 82 82) (w.alloc (.cells (Array.replicate 82 (.int .u32 0)) 53)) := by kernel_rfl
def ex14L : List Nat := ((((List.replicate 82 0).set 0 8).set 5 1).set 34 129).set 77 1
def ex14C : Array Value := ((((Array.replicate 82 (Value.int .u32 0)).setIfInBounds 0 (.int .u32 8)).setIfInBounds 5 (.int .u32 1)).setIfInBounds 34 (.int .u32 129)).setIfInBounds 77 (.int .u32 1)
theorem ex14_eq : ex14C.toList = valVs ex14L := by
 unfold ex14C ex14L valVs
 simp only [Array.toList_setIfInBounds, Array.toList_replicate, List.map_set, List.map_replicate]
 rfl
end
end Go.Proofs.YtnmhdlpnimdffaaGreatDoor
