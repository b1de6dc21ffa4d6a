/-
  What the methods of slab.page do: taken, setTaken, isFull, push, pull. Written by slab/gen_prog.py.
-/
import Derived.Test.YtnmhdlpnimdffaaGreatDoorC06
import Derived.Test.YtnmhdlpnimdffaaGreatDoorC03
import Derived.Test.YtnmhdlpnimdffaaGreatDoorC07
import Derived.Test.YtnmhdlpnimdffaaGreatDoorCSpanRelease
import Derived.Lib.Tables
import Derived.Test.YtnmhdlpnimdffaaGreatDoorC02
import Derived.Deep.RegionHeld3
import Derived.Test.YtnmhdlpnimdffaaGreatDoorC08
import Derived.WalkMore
import Derived.Test.YtnmhdlpnimdffaaGreatDoorC04
import Derived.Deep.RegionWith
import Derived.Deep.CutRange
namespace Go.Proofs.YtnmhdlpnimdffaaGreatDoor
open Go.ChangeShapes Go.WideShapes Go.ChangeAt Go.RowKit Go.Maps
set_option linter.unusedVariables false
set_option linter.unusedSimpArgs false
set_option maxRecDepth 100000
section
theorem cell_lt16 {w : World} {g o : Nat} {v : Value} (h : w.cell? ⟨g, o, none⟩ = some v) : g < w.heap.size := by
 rcases Nat.lt_or_ge g w.heap.size with h1 | h1
 ·exact h1
 ·have h2 : w.heap[g]? = none := Array.getElem?_eq_none h1
  unfold World.cell? at h
  rw [h2] at h
  cases h
theorem SlotsLaid.at_ {O : Ob} {w0 w : World} {A G : Nat -> Prop} {st : Vst} (hT : SlotsLaid w0) (hA : ¬ A 0) (h : O.At w0 A G st w) : SlotsLaid w := by
 obtain ⟨A', h1, h2, h3, h4⟩ := h
 intro k hk
 have hc := hT k hk
 have hl : (0 : Nat) < w0.heap.size := cell_lt16 hc
 have hb := h3.block _ hl hA
 rw [<- hc]
 unfold World.cell?
 rw [hb]
section
variable {base b n : Nat} {wh all : Bool} {K : Nat -> Option Nat} {st : Vst} {w w0 : World} {A G : Nat -> Prop} {t q s k : Int}
theorem rack_at {k : Int} (k0 : 0 <= k) (k8 : k <= 8) : nthI 13 9 1 k = 13 + k := by rw [nth_on (by omega) (by omega) (by omega)]; omega

end
end
section
theorem ones_add (v a b : Nat) : HM.onesTo v (a + b) = HM.onesTo v a + HM.onesTo (v / 2 ^ a) b := by
 induction b with
 | zero => rfl
 | succ b ih => rw [<- Nat.add_assoc, HM.onesTo_succ, HM.onesTo_succ, ih, Nat.testBit_div_two_pow, Nat.add_comm b a, Nat.add_assoc]
theorem pop8_all : ∀ x : Fin 256, Lib.pop8 (x.val : Int) = ((HM.onesTo x.val 8 : Nat) : Int) := by decide +kernel
theorem pop8_at (x : Nat) (h : x < 256) : Lib.pop8 (x : Int) = ((HM.onesTo x 8 : Nat) : Int) := pop8_all ⟨x, h⟩
theorem ones_low (v : Nat) : HM.onesTo (v % 256) 8 = HM.onesTo v 8 := by
 unfold HM.onesTo
 congr 1
 apply List.filter_congr
 intro i hi
 rw [show (256 : Nat) = 2 ^ 8 from rfl, Nat.testBit_mod_two_pow, decide_eq_true (by simpa using hi)]
 rfl
theorem ones_four (v : Nat) : HM.onesTo v 32 = HM.onesTo (v / 2 ^ 24 % 256) 8 + HM.onesTo (v / 2 ^ 16 % 256) 8 + HM.onesTo (v / 2 ^ 8 % 256) 8 + HM.onesTo (v % 256) 8 := by
 rw [ones_low, ones_low, ones_low, ones_low, show (32 : Nat) = 24 + 8 from rfl, ones_add v 24 8, show (24 : Nat) = 16 + 8 from rfl, ones_add v 16 8, show (16 : Nat) = 8 + 8 from rfl, ones_add v 8 8]
 omega
theorem u8_sum {x y : Nat} (h : x + y < 256) : IntKind.u8.wrap ((x : Int) + (y : Int)) = ((x + y : Nat) : Int) := by
 simp only [IntKind.wrap, IntKind.bits, IntKind.signed]; simp; omega
theorem and255 {x : Int} {y : Nat} (h : x = (y : Int)) (hy : y < 2 ^ 32) : bits .and .u32 x 255 = ((y % 256 : Nat) : Int) := by
 subst h
 have := u32_and_nat y 255 hy (by omega)
 rw [show (255 : Nat) = 2 ^ 8 - 1 from rfl, Nat.and_two_pow_sub_one_eq_mod] at this
 exact this
set_option maxHeartbeats 3200000 in
theorem bitsOnes_c (v : Nat) (hv : v < 2 ^ 32) (w : World) :
  Calls Tryz.prog 80 #[.int .u32 (v : Int)] w fun e w' => e = .returned (.int .i64 ((HM.onesTo v 32 : Nat) : Int)) /\ Below w.heap.size w w' := by
 obtain ⟨a, ha⟩ : ∃ a, v / 2 ^ 24 % 256 = a := ⟨_, rfl⟩
 obtain ⟨b, hb⟩ : ∃ b, v / 2 ^ 16 % 256 = b := ⟨_, rfl⟩
 obtain ⟨c, hc⟩ : ∃ c, v / 2 ^ 8 % 256 = c := ⟨_, rfl⟩
 obtain ⟨d, hd⟩ : ∃ d, v % 256 = d := ⟨_, rfl⟩
 have e1 : (v : Int) / 16777216 = (a : Int) := by omega
 have e2 : bits .and .u32 ((v : Int) / 65536) 255 = (b : Int) := by rw [and255 (y := v / 2 ^ 16) (by omega) (by omega), hb]
 have e3 : bits .and .u32 ((v : Int) / 256) 255 = (c : Int) := by rw [and255 (y := v / 2 ^ 8) (by omega) (by omega), hc]
 have e4 : bits .and .u32 (v : Int) 255 = (d : Int) := by rw [and255 (y := v) rfl (by omega), hd]
 have a1 : (a : Int) <= 255 := by omega
 have b1 : (b : Int) <= 255 := by omega
 have c1 : (c : Int) <= 255 := by omega
 have d1 : (d : Int) <= 255 := by omega
 have a2 := HM.onesTo_le a 8
 have b2 := HM.onesTo_le b 8
 have c2 := HM.onesTo_le c 8
 have d2 := HM.onesTo_le d 8
 have HF := hidp (ones_four v)
 rw [ha, hb, hc, hd] at HF
 have pa := pop8_at a (by omega)
 have pb := pop8_at b (by omega)
 have pc := pop8_at c (by omega)
 have pd := pop8_at d (by omega)
 generalize HM.onesTo a 8 = x at *
 generalize HM.onesTo b 8 = y at *
 generalize HM.onesTo c 8 = z at *
 generalize HM.onesTo d 8 = u at *
 have s1 : IntKind.u8.wrap ((x : Int) + (y : Int)) = ((x + y : Nat) : Int) := u8_sum (by omega)
 have s2 : IntKind.u8.wrap (((x + y : Nat) : Int) + (z : Int)) = ((x + y + z : Nat) : Int) := u8_sum (by omega)
 have s3 : IntKind.u8.wrap (((x + y + z : Nat) : Int) + (u : Int)) = ((x + y + z + u : Nat) : Int) := u8_sum (by omega)
 have s4 : IntKind.i64.wrap ((x + y + z + u : Nat) : Int) = ((x + y + z + u : Nat) : Int) := i64_same (by omega) (by omega)
 obtain ⟨r, hr⟩ : ∃ r, x + y + z + u = r := ⟨_, rfl⟩
 obtain ⟨r1, hr1⟩ : ∃ r, x + y = r := ⟨_, rfl⟩
 obtain ⟨r2, hr2⟩ : ∃ r, r1 + z = r := ⟨_, rfl⟩
 rw [hr1] at s1 s2 s3 s4 hr
 rw [hr2] at s2 s3 s4 hr
 rw [hr] at s3 s4
 have HV : Hid (HM.onesTo v 32 = r) := hidp (by rw [HF.out, hr1, hr2, hr])
 clear ha hb hc hd HF a2 b2 c2 d2 hr hr1 hr2
 have hB := Bdrew (B0 w)
 rw [HV.out]
 clear HV
 go_enter Tryz.func80, Tryz.ntmps80
 go_wp2_with fail
 refine wp_region_held_drew (S := (fun _ => True)) (by kernel_rfl) ?_ (fun hHeld => ?_)
 ·trivial
 refine tkz 0 ?_
 refine tkz 1 ?_
 refine tkz 2 ?_
 refine tkz 3 ?_
 refine tkz 4 ?_
 refine tkz 5 ?_
 refine tkz 6 ?_
 refine tkz 7 ?_
 refine tkz 8 ?_
 refine tkz 9 ?_
 refine tkz 10 ?_
 refine tkz 11 ?_
 refine tkz 12 ?_
 refine tkz 13 ?_
 refine tkz 14 ?_
 refine tkz 15 ?_
 refine tkz 16 ?_
 refine tkz 17 ?_
 refine tkz 18 ?_
 refine dnz ?_
 go_wp2
 go_ret
 exact ⟨rfl, hB⟩
set_option maxHeartbeats 3200000 in
theorem swFull_c (u : Nat) (k : Int) (c0 : 0 <= k) (c8 : k <= 8) (hu : u < 2 ^ 32) (w : World) (hT : SlotsLaid w) :
  Calls Tryz.prog 35 #[.int .u32 (u : Int), .int .i64 k] w fun e w' => e = .returned (.bool (fullB u k)) /\ Below w.heap.size w w' := by
 obtain ⟨o, ho⟩ : ∃ o, HM.onesTo u 32 = o := ⟨_, rfl⟩
 obtain ⟨m, hm⟩ : ∃ m, slotI k = m := ⟨_, rfl⟩
 have HO := hidp ho
 have HMM := hidp hm
 have HU := hidp hu
 have hb : fullB u k = decide (o = m) := by unfold fullB; rw [ho, hm]
 rw [hb]
 have t0 : ((o : Int) == (m : Int)) = decide (o = m) := by
  rw [Bool.eq_iff_iff]; simp; omega
 have HT := hidp hT
 clear hb ho hm hu hT
 go_enter Tryz.func35, Tryz.ntmps35
 go_wp2_with fail
 refine (bitsOnes_c u HU.out _).mono ?_; rintro e w1 ⟨rfl, hb⟩; rw [HO.out]; replace HT := hidp (HT.out.below hb)
 go_wp2_with fail
 refine (clSlots_c k (by omega) (by omega) _ HT.out).mono ?_; rintro e w2 ⟨rfl, rfl⟩; rw [HMM.out]
 go_wp2
 go_ret
 exact ⟨rfl, hb⟩
set_option maxHeartbeats 3200000 in
theorem swPages_c (t q s : Int) (w : World) :
  Calls Tryz.prog 54 #[.agg #[.int .i64 t, .int .i64 q, .int .i64 s]] w fun e w' => e = .returned (.int .i64 (if lC t q s = 0 then 0 else q)) /\ Below w.heap.size w w' := by
 obtain ⟨x, hx⟩ : ∃ x, lC t q s = x := ⟨_, rfl⟩
 have HX := hidp hx
 rw [hx]
 have hB := Bnew (B0 w) (.cells #[.int .i64 t, .int .i64 q, .int .i64 s] 23)
 have H0 := hidp (Held.new w 23 #[.int .i64 t, .int .i64 q, .int .i64 s])
 clear hx
 obtain ⟨x0, x1, x2⟩ := H0.out.three
 by_cases h : x = 0
 ·rw [if_pos h]
  have t0 : (x == 0) = true := by simp [h]
  go_enter Tryz.func54, Tryz.ntmps54
  go_wp2_with fail
  refine (plCells_c t q s _).mono ?_; rintro e w1 ⟨rfl, hb⟩; rw [HX.out]
  go_wp2
  go_ret
  exact ⟨rfl, Bgo hB hb⟩
 ·rw [if_neg h]
  have t0 : (x == 0) = false := by simp [h]
  go_enter Tryz.func54, Tryz.ntmps54
  go_wp2_with fail
  refine (plCells_c t q s _).mono ?_; rintro e w1 ⟨rfl, hb⟩; rw [HX.out]
  obtain ⟨y0, y1, y2⟩ := (H0.out.keep hb).three
  go_wp2
  go_ret
  exact ⟨rfl, Bgo hB hb⟩
section
variable {n : Nat} {K : Nat -> Option Nat} {st : Vst} {t q s p : Int}
theorem page_off24 {b : Int} (h : pgB q p = false) : pageI t q s p b = -1 := by
 unfold pageI
 rw [nth_off (f := nthI (lA t q s) (lP t q s) 6 p) (.inl ?_)]
 apply nth_off
 unfold pgB at h
 simp at h
 unfold lP
 split <;> omega
theorem page_wrong24 {b : Int} (h : lC t q s = 0) : pageI t q s p b = -1 := by
 unfold pageI
 rw [nth_off (f := nthI (lA t q s) (lP t q s) 6 p) (.inl ?_)]
 apply nth_off
 unfold lC at h
 unfold lP
 split at h
 ·rename_i hr
  have := (rightB_iff t q s).1 hr
  omega
 ·rename_i hr
  rw [if_neg hr]
  omega
theorem get_off24 : getV n K st (-1) = 0 /\ getS n K st (-1) = st := by
 have h : opn n st (-1) = false := by unfold opn; simp
 exact ⟨getV_no h, getS_no h⟩
theorem info_off24 (h : pageI t q s p 0 = -1) : infoOf n K t q s p st = (0, 0, 0, (infoG 0).2.2.2) := by
 unfold infoOf
 rw [h, get_off24.1]
 rfl
theorem sweepI_none {p : Nat} (h : pageI t q s (p : Int) 0 = -1) : sweepI n K t q s p st = (false, st) := by
 unfold sweepI
 rw [info_off24 h, h, get_off24.2]
 rfl
theorem sweepTo_none (h : lC t q s = 0) (m : Nat) : sweepTo n K t q s m st = (0, st) := by
 induction m with
 | zero => rfl
 | succ m ih =>
  unfold sweepTo
  rw [ih, sweepI_none (page_wrong24 h)]
  rfl
end
section
variable {base b n : Nat} {wh : Bool} {K : Nat -> Option Nat} {st : Vst} {w w0 : World} {A G : Nat -> Prop} {t q s : Int}
theorem vAt_ok (h : (vOb base b n wh K).At w0 A G st w) : VOk n st := by
 obtain ⟨B, ⟨o, h1, _⟩, _⟩ := h
 exact h1.ok
theorem infoG_cls' {v : Nat} {k l c : Int} {ok : Bool} (h : infoG v = (k, l, c, ok)) : 0 <= c /\ c <= 8 := by
 have hp : infoP k l c := by
  cases ok
  ·obtain ⟨rfl, rfl, rfl⟩ := infoG_none h
   exact .inl ⟨rfl, rfl, rfl⟩
  ·exact infoB_iff (infoG_back h).1
 rcases hp with ⟨h1, h2, h3⟩ | ⟨h1, h2, h3, h4⟩ | ⟨h1, h2, h3, h4⟩ <;> omega

set_option maxHeartbeats 3200000 in
theorem swPage_kind (hn : n < 2 ^ 40) (hq : q <= 1024) (p : Int) (k l c : Int) (ok : Bool) (hI : infoOf n K t q s p st = (k, l, c, ok)) (hk : k ≠ 3) (h : (vOb base b n wh K).At w0 A G st w) :
  Calls Tryz.prog 11 #[.pointer (some ⟨b, 0, none⟩), .agg #[.int .i64 t, .int .i64 q, .int .i64 s], .int .i64 p] w fun e w' => e = .returned (.bool false) /\ (vOb base b n wh K).At w0 A G ((getS n K st (pageI t q s p 0))) w' /\ Stay G w w' := by
 have W0 := hidp ((WL.start h).new 23 #[.int .i64 t, .int .i64 q, .int .i64 s])
 obtain ⟨v, hv⟩ : ∃ v, getV n K st (pageI t q s p 0) = v := ⟨_, rfl⟩
 have hv32 : v < 2 ^ 32 := by rw [<- hv]; exact vAt_lt h _
 have HI : Hid (infoG v = (k, l, c, ok)) := hidp (by rw [<- hv]; exact hI)
 have HV := hidp hv
 have t3 : (k != 3) = true := by simp [hk]
 clear h hI hk hv
 go_enter Tryz.func11, Tryz.ntmps11
 obtain ⟨x0, x1, x2⟩ := W0.out.h0.three
 go_wp2_with fail
 refine (plInfo_c t q s p _).mono ?_; rintro e w1 ⟨rfl, hb⟩; have W1 := hidp (W0.out.keep hb); clear hb W0
 obtain ⟨x0, x1, x2⟩ := W1.out.h0.three
 go_wp2_with fail
 refine (vGetA hn _ W1.out.at_).mono ?_; rintro e w2 ⟨rfl, h1, h2⟩; have W2 := hidp (W1.out.call h1 h2); clear h1 h2 W1; rw [HV.out]
 obtain ⟨x0, x1, x2⟩ := W2.out.h0.three
 go_wp2_with fail
 refine (inGet_c v k l c ok hv32 HI.out _).mono ?_; rintro e w3 ⟨rfl, hb⟩; have W3 := hidp (W2.out.keep hb); clear hb W2
 generalize hNI : w3.heap.size = NI at *
 replace W3 := hidp (W3.out.new 68 #[.int .i64 k, .int .i64 l, .int .i64 c])
 rw [hNI] at W3
 obtain ⟨i0, i1, i2⟩ := W3.out.h0.three
 obtain ⟨x0, x1, x2⟩ := W3.out.h1.three
 go_wp2
 go_ret
 exact ⟨rfl, W3.out.fin⟩

set_option maxHeartbeats 3200000 in
theorem swPage_same (hn : n < 2 ^ 40) (hq : q <= 1024) (p : Nat) (hp : (p : Int) < q) (k l c : Int) (ok : Bool) (hI : infoOf n K t q s (p : Int) st = (k, l, c, ok)) (hk : k = 3) (a u : Nat) (ha : getV n K (getS n K st (pageI t q s (p : Int) 0)) (pageI t q s (p : Int) 4) = a) (hu : getV n K (getS n K (getS n K st (pageI t q s (p : Int) 0)) (pageI t q s (p : Int) 4)) (pageI t q s (p : Int) 5) = u) (he : a = u) (h : (vOb base b n wh K).At w0 A G st w) :
  Calls Tryz.prog 11 #[.pointer (some ⟨b, 0, none⟩), .agg #[.int .i64 t, .int .i64 q, .int .i64 s], .int .i64 (p : Int)] w fun e w' => e = .returned (.bool false) /\ (vOb base b n wh K).At w0 A G ((getS n K (getS n K (getS n K st (pageI t q s (p : Int) 0)) (pageI t q s (p : Int) 4)) (pageI t q s (p : Int) 5))) w' /\ Stay G w w' := by
 have W0 := hidp ((WL.start h).new 23 #[.int .i64 t, .int .i64 q, .int .i64 s])
 subst hk
 obtain ⟨v, hv⟩ : ∃ v, getV n K st (pageI t q s (p : Int) 0) = v := ⟨_, rfl⟩
 have hv32 : v < 2 ^ 32 := by rw [<- hv]; exact vAt_lt h _
 have HI : Hid (infoG v = (3, l, c, ok)) := hidp (by rw [<- hv]; exact hI)
 have HV := hidp hv
 have t3 : ((3 : Int) != 3) = false := by simp
 have HA := hidp ha
 have HU := hidp hu
 have hq31 : q <= 2 ^ 31 := by omega
 have hp4 : p <= 1024 := by omega
 obtain ⟨c0, c8⟩ := infoG_cls' HI.out
 have t4 : ((a : Int) == (u : Int)) = true := by simp [he]
 have t4n : (a == u) = true := by simp [he]
 clear h hI ha hu he hv
 go_enter Tryz.func11, Tryz.ntmps11
 obtain ⟨x0, x1, x2⟩ := W0.out.h0.three
 go_wp2_with fail
 refine (plInfo_c t q s (p : Int) _).mono ?_; rintro e w1 ⟨rfl, hb⟩; have W1 := hidp (W0.out.keep hb); clear hb W0
 obtain ⟨x0, x1, x2⟩ := W1.out.h0.three
 go_wp2_with fail
 refine (vGetA hn _ W1.out.at_).mono ?_; rintro e w2 ⟨rfl, h1, h2⟩; have W2 := hidp (W1.out.call h1 h2); clear h1 h2 W1; rw [HV.out]
 obtain ⟨x0, x1, x2⟩ := W2.out.h0.three
 go_wp2_with fail
 refine (inGet_c v 3 l c ok hv32 HI.out _).mono ?_; rintro e w3 ⟨rfl, hb⟩; have W3 := hidp (W2.out.keep hb); clear hb W2
 generalize hNI : w3.heap.size = NI at *
 replace W3 := hidp (W3.out.new 68 #[.int .i64 3, .int .i64 l, .int .i64 c])
 rw [hNI] at W3
 obtain ⟨i0, i1, i2⟩ := W3.out.h0.three
 obtain ⟨x0, x1, x2⟩ := W3.out.h1.three
 go_wp2_with fail
 refine (plSlots_c t q s (p : Int) _).mono ?_; rintro e w4 ⟨rfl, hb⟩; have W4 := hidp (W3.out.keep hb); clear hb W3
 obtain ⟨i0, i1, i2⟩ := W4.out.h0.three
 obtain ⟨x0, x1, x2⟩ := W4.out.h1.three
 go_wp2_with fail
 have HA32 : Hid (a < 2 ^ 32) := hidp (by rw [<- HA.out]; exact vWL_lt W4.out _)
 refine (vGetA hn _ W4.out.at_).mono ?_; rintro e w5 ⟨rfl, h1, h2⟩; have W5 := hidp (W4.out.call h1 h2); clear h1 h2 W4; rw [HA.out]
 obtain ⟨i0, i1, i2⟩ := W5.out.h0.three
 obtain ⟨x0, x1, x2⟩ := W5.out.h1.three
 go_wp2_with fail
 refine (plTaken_c t q s (p : Int) _).mono ?_; rintro e w6 ⟨rfl, hb⟩; have W6 := hidp (W5.out.keep hb); clear hb W5
 obtain ⟨i0, i1, i2⟩ := W6.out.h0.three
 obtain ⟨x0, x1, x2⟩ := W6.out.h1.three
 go_wp2_with fail
 have HU32 : Hid (u < 2 ^ 32) := hidp (by rw [<- HU.out]; exact vWL_lt W6.out _)
 refine (vGetA hn _ W6.out.at_).mono ?_; rintro e w7 ⟨rfl, h1, h2⟩; have W7 := hidp (W6.out.call h1 h2); clear h1 h2 W6; rw [HU.out]
 obtain ⟨i0, i1, i2⟩ := W7.out.h0.three
 obtain ⟨x0, x1, x2⟩ := W7.out.h1.three
 go_wp2
 go_ret
 exact ⟨rfl, W7.out.fin⟩

set_option maxHeartbeats 3200000 in
theorem swPage_z_full (hn : n < 2 ^ 40) (hq : q <= 1024) (p : Nat) (hp : (p : Int) < q) (k l c : Int) (ok : Bool) (hI : infoOf n K t q s (p : Int) st = (k, l, c, ok)) (hk : k = 3) (a u : Nat) (ha : getV n K (getS n K st (pageI t q s (p : Int) 0)) (pageI t q s (p : Int) 4) = a) (hu : getV n K (getS n K (getS n K st (pageI t q s (p : Int) 0)) (pageI t q s (p : Int) 4)) (pageI t q s (p : Int) 5) = u) (hT : SlotsLaid w0) (hA : ¬ A 0) (he : a ≠ u) (hz : a = 0) (hf : fullB u c = true) (h : (vOb base b n wh K).At w0 A G st w) :
  Calls Tryz.prog 11 #[.pointer (some ⟨b, 0, none⟩), .agg #[.int .i64 t, .int .i64 q, .int .i64 s], .int .i64 (p : Int)] w fun e w' => e = .returned (.bool true) /\ (vOb base b n wh K).At w0 A G ((releaseS n K t q s p 1 (putS n (getS n K (getS n K (getS n K st (pageI t q s (p : Int) 0)) (pageI t q s (p : Int) 4)) (pageI t q s (p : Int) 5)) (pageI t q s (p : Int) 5) a))) w' /\ Stay G w w' := by
 have W0 := hidp ((WL.start h).new 23 #[.int .i64 t, .int .i64 q, .int .i64 s])
 subst hk
 obtain ⟨v, hv⟩ : ∃ v, getV n K st (pageI t q s (p : Int) 0) = v := ⟨_, rfl⟩
 have hv32 : v < 2 ^ 32 := by rw [<- hv]; exact vAt_lt h _
 have HI : Hid (infoG v = (3, l, c, ok)) := hidp (by rw [<- hv]; exact hI)
 have HV := hidp hv
 have t3 : ((3 : Int) != 3) = false := by simp
 have HA := hidp ha
 have HU := hidp hu
 have hq31 : q <= 2 ^ 31 := by omega
 have hp4 : p <= 1024 := by omega
 obtain ⟨c0, c8⟩ := infoG_cls' HI.out
 have t4 : ((a : Int) == (u : Int)) = false := by simp; omega
 have t4n : (a == u) = false := by simp; omega
 have t5 : ((a : Int) == 0) = true := by simp; omega
 have t5n : (a == 0) = true := by simp; omega
 have HF := hidp hf
 have rk := hidp (rack_at c0 c8)
 have HTL := hidp hT
 clear h hI ha hu he hv hf hz hT
 go_enter Tryz.func11, Tryz.ntmps11
 obtain ⟨x0, x1, x2⟩ := W0.out.h0.three
 go_wp2_with fail
 refine (plInfo_c t q s (p : Int) _).mono ?_; rintro e w1 ⟨rfl, hb⟩; have W1 := hidp (W0.out.keep hb); clear hb W0
 obtain ⟨x0, x1, x2⟩ := W1.out.h0.three
 go_wp2_with fail
 refine (vGetA hn _ W1.out.at_).mono ?_; rintro e w2 ⟨rfl, h1, h2⟩; have W2 := hidp (W1.out.call h1 h2); clear h1 h2 W1; rw [HV.out]
 obtain ⟨x0, x1, x2⟩ := W2.out.h0.three
 go_wp2_with fail
 refine (inGet_c v 3 l c ok hv32 HI.out _).mono ?_; rintro e w3 ⟨rfl, hb⟩; have W3 := hidp (W2.out.keep hb); clear hb W2
 generalize hNI : w3.heap.size = NI at *
 replace W3 := hidp (W3.out.new 68 #[.int .i64 3, .int .i64 l, .int .i64 c])
 rw [hNI] at W3
 obtain ⟨i0, i1, i2⟩ := W3.out.h0.three
 obtain ⟨x0, x1, x2⟩ := W3.out.h1.three
 go_wp2_with fail
 refine (plSlots_c t q s (p : Int) _).mono ?_; rintro e w4 ⟨rfl, hb⟩; have W4 := hidp (W3.out.keep hb); clear hb W3
 obtain ⟨i0, i1, i2⟩ := W4.out.h0.three
 obtain ⟨x0, x1, x2⟩ := W4.out.h1.three
 go_wp2_with fail
 have HA32 : Hid (a < 2 ^ 32) := hidp (by rw [<- HA.out]; exact vWL_lt W4.out _)
 refine (vGetA hn _ W4.out.at_).mono ?_; rintro e w5 ⟨rfl, h1, h2⟩; have W5 := hidp (W4.out.call h1 h2); clear h1 h2 W4; rw [HA.out]
 obtain ⟨i0, i1, i2⟩ := W5.out.h0.three
 obtain ⟨x0, x1, x2⟩ := W5.out.h1.three
 go_wp2_with fail
 refine (plTaken_c t q s (p : Int) _).mono ?_; rintro e w6 ⟨rfl, hb⟩; have W6 := hidp (W5.out.keep hb); clear hb W5
 obtain ⟨i0, i1, i2⟩ := W6.out.h0.three
 obtain ⟨x0, x1, x2⟩ := W6.out.h1.three
 go_wp2_with fail
 have HU32 : Hid (u < 2 ^ 32) := hidp (by rw [<- HU.out]; exact vWL_lt W6.out _)
 refine (vGetA hn _ W6.out.at_).mono ?_; rintro e w7 ⟨rfl, h1, h2⟩; have W7 := hidp (W6.out.call h1 h2); clear h1 h2 W6; rw [HU.out]
 obtain ⟨i0, i1, i2⟩ := W7.out.h0.three
 obtain ⟨x0, x1, x2⟩ := W7.out.h1.three
 go_wp2_with fail
 refine (plTaken_c t q s (p : Int) _).mono ?_; rintro e w8 ⟨rfl, hb⟩; have W8 := hidp (W7.out.keep hb); clear hb W7
 obtain ⟨i0, i1, i2⟩ := W8.out.h0.three
 obtain ⟨x0, x1, x2⟩ := W8.out.h1.three
 go_wp2_with fail
 refine (vPutA hn _ a HA32.out W8.out.at_).mono ?_; rintro e w9 ⟨rfl, h1, h2⟩; have W9 := hidp (W8.out.call h1 h2); clear h1 h2 W8
 obtain ⟨i0, i1, i2⟩ := W9.out.h0.three
 obtain ⟨x0, x1, x2⟩ := W9.out.h1.three
 go_wp2_with fail
 refine wp_region_held_drew (S := (fun w' => w'.cell? ⟨NI, 2, none⟩ = some (.int .i64 c))) (by kernel_rfl) ?_ (fun hHeld => ?_)
 ·(try dsimp only)
  exact W9.out.drew.h0.three.2.2
 refine tkz 0 ?_
 refine tkz 1 ?_
 refine tkz 3 ?_
 refine tkz 4 ?_
 refine tkz 5 ?_
 refine rdz 2 fun K hK => ?_
 go_simp
 refine (plRack_c c _).mono ?_; rintro e w9 ⟨rfl, rfl⟩; rw [rk.out]
 refine hK.out _ _ ?_ (fun hHeld => ?_)
 ·(try dsimp only)
  exact W9.out.drew.h0.three.2.2
 clear hK K
 (try simp only [Act.put, gA, gB, gC, sA, sB, sC])
 refine rdz 6 fun K hK => ?_
 go_simp
 refine (swFull_c u c c0 c8 HU32.out _ (SlotsLaid.at_ HTL.out hA W9.out.drew.at_)).mono ?_; rintro e w10 ⟨rfl, hb⟩; have W10 := hidp (W9.out.drew.keep hb); clear hb W9; rw [HF.out]
 refine hK.out _ _ ?_ (fun hHeld => ?_)
 ·(try dsimp only)
  exact W10.out.h0.three.2.2
 clear hK K
 (try simp only [Act.put, gA, gB, gC, sA, sB, sC])
 refine tkz 7 ?_
 refine tkz 8 ?_
 refine dnz ?_
 obtain ⟨i0, i1, i2⟩ := W10.out.h0.three
 obtain ⟨x0, x1, x2⟩ := W10.out.h1.three
 go_wp2_with fail
 refine (snRelease_c hn hq p 1 hp4 (by omega) W10.out.at_).mono ?_; rintro e w11 ⟨rfl, h1, h2⟩; have W11 := hidp (W10.out.call h1 h2); clear h1 h2 W10
 obtain ⟨i0, i1, i2⟩ := W11.out.h0.three
 obtain ⟨x0, x1, x2⟩ := W11.out.h1.three
 go_wp2
 go_ret
 exact ⟨rfl, W11.out.fin⟩

set_option maxHeartbeats 3200000 in
theorem swPage_z_some (hn : n < 2 ^ 40) (hq : q <= 1024) (p : Nat) (hp : (p : Int) < q) (k l c : Int) (ok : Bool) (hI : infoOf n K t q s (p : Int) st = (k, l, c, ok)) (hk : k = 3) (a u : Nat) (ha : getV n K (getS n K st (pageI t q s (p : Int) 0)) (pageI t q s (p : Int) 4) = a) (hu : getV n K (getS n K (getS n K st (pageI t q s (p : Int) 0)) (pageI t q s (p : Int) 4)) (pageI t q s (p : Int) 5) = u) (hT : SlotsLaid w0) (hA : ¬ A 0) (he : a ≠ u) (hz : a = 0) (hf : fullB u c = false) (h : (vOb base b n wh K).At w0 A G st w) :
  Calls Tryz.prog 11 #[.pointer (some ⟨b, 0, none⟩), .agg #[.int .i64 t, .int .i64 q, .int .i64 s], .int .i64 (p : Int)] w fun e w' => e = .returned (.bool true) /\ (vOb base b n wh K).At w0 A G ((releaseS n K t q s p 1 (pullI n K t q s (13 + c) (p : Int) (putS n (getS n K (getS n K (getS n K st (pageI t q s (p : Int) 0)) (pageI t q s (p : Int) 4)) (pageI t q s (p : Int) 5)) (pageI t q s (p : Int) 5) a)))) w' /\ Stay G w w' := by
 have W0 := hidp ((WL.start h).new 23 #[.int .i64 t, .int .i64 q, .int .i64 s])
 subst hk
 obtain ⟨v, hv⟩ : ∃ v, getV n K st (pageI t q s (p : Int) 0) = v := ⟨_, rfl⟩
 have hv32 : v < 2 ^ 32 := by rw [<- hv]; exact vAt_lt h _
 have HI : Hid (infoG v = (3, l, c, ok)) := hidp (by rw [<- hv]; exact hI)
 have HV := hidp hv
 have t3 : ((3 : Int) != 3) = false := by simp
 have HA := hidp ha
 have HU := hidp hu
 have hq31 : q <= 2 ^ 31 := by omega
 have hp4 : p <= 1024 := by omega
 obtain ⟨c0, c8⟩ := infoG_cls' HI.out
 have t4 : ((a : Int) == (u : Int)) = false := by simp; omega
 have t4n : (a == u) = false := by simp; omega
 have t5 : ((a : Int) == 0) = true := by simp; omega
 have t5n : (a == 0) = true := by simp; omega
 have HF := hidp hf
 have rk := hidp (rack_at c0 c8)
 have HTL := hidp hT
 clear h hI ha hu he hv hf hz hT
 go_enter Tryz.func11, Tryz.ntmps11
 obtain ⟨x0, x1, x2⟩ := W0.out.h0.three
 go_wp2_with fail
 refine (plInfo_c t q s (p : Int) _).mono ?_; rintro e w1 ⟨rfl, hb⟩; have W1 := hidp (W0.out.keep hb); clear hb W0
 obtain ⟨x0, x1, x2⟩ := W1.out.h0.three
 go_wp2_with fail
 refine (vGetA hn _ W1.out.at_).mono ?_; rintro e w2 ⟨rfl, h1, h2⟩; have W2 := hidp (W1.out.call h1 h2); clear h1 h2 W1; rw [HV.out]
 obtain ⟨x0, x1, x2⟩ := W2.out.h0.three
 go_wp2_with fail
 refine (inGet_c v 3 l c ok hv32 HI.out _).mono ?_; rintro e w3 ⟨rfl, hb⟩; have W3 := hidp (W2.out.keep hb); clear hb W2
 generalize hNI : w3.heap.size = NI at *
 replace W3 := hidp (W3.out.new 68 #[.int .i64 3, .int .i64 l, .int .i64 c])
 rw [hNI] at W3
 obtain ⟨i0, i1, i2⟩ := W3.out.h0.three
 obtain ⟨x0, x1, x2⟩ := W3.out.h1.three
 go_wp2_with fail
 refine (plSlots_c t q s (p : Int) _).mono ?_; rintro e w4 ⟨rfl, hb⟩; have W4 := hidp (W3.out.keep hb); clear hb W3
 obtain ⟨i0, i1, i2⟩ := W4.out.h0.three
 obtain ⟨x0, x1, x2⟩ := W4.out.h1.three
 go_wp2_with fail
 have HA32 : Hid (a < 2 ^ 32) := hidp (by rw [<- HA.out]; exact vWL_lt W4.out _)
 refine (vGetA hn _ W4.out.at_).mono ?_; rintro e w5 ⟨rfl, h1, h2⟩; have W5 := hidp (W4.out.call h1 h2); clear h1 h2 W4; rw [HA.out]
 obtain ⟨i0, i1, i2⟩ := W5.out.h0.three
 obtain ⟨x0, x1, x2⟩ := W5.out.h1.three
 go_wp2_with fail
 refine (plTaken_c t q s (p : Int) _).mono ?_; rintro e w6 ⟨rfl, hb⟩; have W6 := hidp (W5.out.keep hb); clear hb W5
 obtain ⟨i0, i1, i2⟩ := W6.out.h0.three
 obtain ⟨x0, x1, x2⟩ := W6.out.h1.three
 go_wp2_with fail
 have HU32 : Hid (u < 2 ^ 32) := hidp (by rw [<- HU.out]; exact vWL_lt W6.out _)
 refine (vGetA hn _ W6.out.at_).mono ?_; rintro e w7 ⟨rfl, h1, h2⟩; have W7 := hidp (W6.out.call h1 h2); clear h1 h2 W6; rw [HU.out]
 obtain ⟨i0, i1, i2⟩ := W7.out.h0.three
 obtain ⟨x0, x1, x2⟩ := W7.out.h1.three
 go_wp2_with fail
 refine (plTaken_c t q s (p : Int) _).mono ?_; rintro e w8 ⟨rfl, hb⟩; have W8 := hidp (W7.out.keep hb); clear hb W7
 obtain ⟨i0, i1, i2⟩ := W8.out.h0.three
 obtain ⟨x0, x1, x2⟩ := W8.out.h1.three
 go_wp2_with fail
 refine (vPutA hn _ a HA32.out W8.out.at_).mono ?_; rintro e w9 ⟨rfl, h1, h2⟩; have W9 := hidp (W8.out.call h1 h2); clear h1 h2 W8
 obtain ⟨i0, i1, i2⟩ := W9.out.h0.three
 obtain ⟨x0, x1, x2⟩ := W9.out.h1.three
 go_wp2_with fail
 refine wp_region_held_drew (S := (fun w' => w'.cell? ⟨NI, 2, none⟩ = some (.int .i64 c))) (by kernel_rfl) ?_ (fun hHeld => ?_)
 ·(try dsimp only)
  exact W9.out.drew.h0.three.2.2
 refine tkz 0 ?_
 refine tkz 1 ?_
 refine tkz 3 ?_
 refine tkz 4 ?_
 refine tkz 5 ?_
 refine rdz 2 fun K hK => ?_
 go_simp
 refine (plRack_c c _).mono ?_; rintro e w9 ⟨rfl, rfl⟩; rw [rk.out]
 refine hK.out _ _ ?_ (fun hHeld => ?_)
 ·(try dsimp only)
  exact W9.out.drew.h0.three.2.2
 clear hK K
 (try simp only [Act.put, gA, gB, gC, sA, sB, sC])
 refine rdz 6 fun K hK => ?_
 go_simp
 refine (swFull_c u c c0 c8 HU32.out _ (SlotsLaid.at_ HTL.out hA W9.out.drew.at_)).mono ?_; rintro e w10 ⟨rfl, hb⟩; have W10 := hidp (W9.out.drew.keep hb); clear hb W9; rw [HF.out]
 refine hK.out _ _ ?_ (fun hHeld => ?_)
 ·(try dsimp only)
  exact W10.out.h0.three.2.2
 clear hK K
 (try simp only [Act.put, gA, gB, gC, sA, sB, sC])
 refine tkz 7 ?_
 refine tkz 8 ?_
 refine dnz ?_
 obtain ⟨i0, i1, i2⟩ := W10.out.h0.three
 obtain ⟨x0, x1, x2⟩ := W10.out.h1.three
 go_wp2_with fail
 refine (lkPull_c hn hq31 (p : Int) W10.out.at_).mono ?_; rintro e w11 ⟨rfl, h1, h2⟩; have W11 := hidp (W10.out.call h1 h2); clear h1 h2 W10
 obtain ⟨i0, i1, i2⟩ := W11.out.h0.three
 obtain ⟨x0, x1, x2⟩ := W11.out.h1.three
 go_wp2_with fail
 refine (snRelease_c hn hq p 1 hp4 (by omega) W11.out.at_).mono ?_; rintro e w12 ⟨rfl, h1, h2⟩; have W12 := hidp (W11.out.call h1 h2); clear h1 h2 W11
 obtain ⟨i0, i1, i2⟩ := W12.out.h0.three
 obtain ⟨x0, x1, x2⟩ := W12.out.h1.three
 go_wp2
 go_ret
 exact ⟨rfl, W12.out.fin⟩

set_option maxHeartbeats 3200000 in
theorem swPage_n_full (hn : n < 2 ^ 40) (hq : q <= 1024) (p : Nat) (hp : (p : Int) < q) (k l c : Int) (ok : Bool) (hI : infoOf n K t q s (p : Int) st = (k, l, c, ok)) (hk : k = 3) (a u : Nat) (ha : getV n K (getS n K st (pageI t q s (p : Int) 0)) (pageI t q s (p : Int) 4) = a) (hu : getV n K (getS n K (getS n K st (pageI t q s (p : Int) 0)) (pageI t q s (p : Int) 4)) (pageI t q s (p : Int) 5) = u) (hT : SlotsLaid w0) (hA : ¬ A 0) (he : a ≠ u) (hz : a ≠ 0) (hf : fullB u c = true) (h : (vOb base b n wh K).At w0 A G st w) :
  Calls Tryz.prog 11 #[.pointer (some ⟨b, 0, none⟩), .agg #[.int .i64 t, .int .i64 q, .int .i64 s], .int .i64 (p : Int)] w fun e w' => e = .returned (.bool true) /\ (vOb base b n wh K).At w0 A G ((pushI n K t q s (13 + c) (p : Int) (putS n (getS n K (getS n K (getS n K st (pageI t q s (p : Int) 0)) (pageI t q s (p : Int) 4)) (pageI t q s (p : Int) 5)) (pageI t q s (p : Int) 5) a))) w' /\ Stay G w w' := by
 have W0 := hidp ((WL.start h).new 23 #[.int .i64 t, .int .i64 q, .int .i64 s])
 subst hk
 obtain ⟨v, hv⟩ : ∃ v, getV n K st (pageI t q s (p : Int) 0) = v := ⟨_, rfl⟩
 have hv32 : v < 2 ^ 32 := by rw [<- hv]; exact vAt_lt h _
 have HI : Hid (infoG v = (3, l, c, ok)) := hidp (by rw [<- hv]; exact hI)
 have HV := hidp hv
 have t3 : ((3 : Int) != 3) = false := by simp
 have HA := hidp ha
 have HU := hidp hu
 have hq31 : q <= 2 ^ 31 := by omega
 have hp4 : p <= 1024 := by omega
 obtain ⟨c0, c8⟩ := infoG_cls' HI.out
 have t4 : ((a : Int) == (u : Int)) = false := by simp; omega
 have t4n : (a == u) = false := by simp; omega
 have t5 : ((a : Int) == 0) = false := by simp; omega
 have t5n : (a == 0) = false := by simp; omega
 have HF := hidp hf
 have rk := hidp (rack_at c0 c8)
 have HTL := hidp hT
 clear h hI ha hu he hv hf hz hT
 go_enter Tryz.func11, Tryz.ntmps11
 obtain ⟨x0, x1, x2⟩ := W0.out.h0.three
 go_wp2_with fail
 refine (plInfo_c t q s (p : Int) _).mono ?_; rintro e w1 ⟨rfl, hb⟩; have W1 := hidp (W0.out.keep hb); clear hb W0
 obtain ⟨x0, x1, x2⟩ := W1.out.h0.three
 go_wp2_with fail
 refine (vGetA hn _ W1.out.at_).mono ?_; rintro e w2 ⟨rfl, h1, h2⟩; have W2 := hidp (W1.out.call h1 h2); clear h1 h2 W1; rw [HV.out]
 obtain ⟨x0, x1, x2⟩ := W2.out.h0.three
 go_wp2_with fail
 refine (inGet_c v 3 l c ok hv32 HI.out _).mono ?_; rintro e w3 ⟨rfl, hb⟩; have W3 := hidp (W2.out.keep hb); clear hb W2
 generalize hNI : w3.heap.size = NI at *
 replace W3 := hidp (W3.out.new 68 #[.int .i64 3, .int .i64 l, .int .i64 c])
 rw [hNI] at W3
 obtain ⟨i0, i1, i2⟩ := W3.out.h0.three
 obtain ⟨x0, x1, x2⟩ := W3.out.h1.three
 go_wp2_with fail
 refine (plSlots_c t q s (p : Int) _).mono ?_; rintro e w4 ⟨rfl, hb⟩; have W4 := hidp (W3.out.keep hb); clear hb W3
 obtain ⟨i0, i1, i2⟩ := W4.out.h0.three
 obtain ⟨x0, x1, x2⟩ := W4.out.h1.three
 go_wp2_with fail
 have HA32 : Hid (a < 2 ^ 32) := hidp (by rw [<- HA.out]; exact vWL_lt W4.out _)
 refine (vGetA hn _ W4.out.at_).mono ?_; rintro e w5 ⟨rfl, h1, h2⟩; have W5 := hidp (W4.out.call h1 h2); clear h1 h2 W4; rw [HA.out]
 obtain ⟨i0, i1, i2⟩ := W5.out.h0.three
 obtain ⟨x0, x1, x2⟩ := W5.out.h1.three
 go_wp2_with fail
 refine (plTaken_c t q s (p : Int) _).mono ?_; rintro e w6 ⟨rfl, hb⟩; have W6 := hidp (W5.out.keep hb); clear hb W5
 obtain ⟨i0, i1, i2⟩ := W6.out.h0.three
 obtain ⟨x0, x1, x2⟩ := W6.out.h1.three
 go_wp2_with fail
 have HU32 : Hid (u < 2 ^ 32) := hidp (by rw [<- HU.out]; exact vWL_lt W6.out _)
 refine (vGetA hn _ W6.out.at_).mono ?_; rintro e w7 ⟨rfl, h1, h2⟩; have W7 := hidp (W6.out.call h1 h2); clear h1 h2 W6; rw [HU.out]
 obtain ⟨i0, i1, i2⟩ := W7.out.h0.three
 obtain ⟨x0, x1, x2⟩ := W7.out.h1.three
 go_wp2_with fail
 refine (plTaken_c t q s (p : Int) _).mono ?_; rintro e w8 ⟨rfl, hb⟩; have W8 := hidp (W7.out.keep hb); clear hb W7
 obtain ⟨i0, i1, i2⟩ := W8.out.h0.three
 obtain ⟨x0, x1, x2⟩ := W8.out.h1.three
 go_wp2_with fail
 refine (vPutA hn _ a HA32.out W8.out.at_).mono ?_; rintro e w9 ⟨rfl, h1, h2⟩; have W9 := hidp (W8.out.call h1 h2); clear h1 h2 W8
 obtain ⟨i0, i1, i2⟩ := W9.out.h0.three
 obtain ⟨x0, x1, x2⟩ := W9.out.h1.three
 go_wp2_with fail
 refine wp_region_held_drew (S := (fun w' => w'.cell? ⟨NI, 2, none⟩ = some (.int .i64 c))) (by kernel_rfl) ?_ (fun hHeld => ?_)
 ·(try dsimp only)
  exact W9.out.drew.h0.three.2.2
 refine tkz 0 ?_
 refine tkz 1 ?_
 refine tkz 3 ?_
 refine tkz 4 ?_
 refine tkz 5 ?_
 refine rdz 2 fun K hK => ?_
 go_simp
 refine (plRack_c c _).mono ?_; rintro e w9 ⟨rfl, rfl⟩; rw [rk.out]
 refine hK.out _ _ ?_ (fun hHeld => ?_)
 ·(try dsimp only)
  exact W9.out.drew.h0.three.2.2
 clear hK K
 (try simp only [Act.put, gA, gB, gC, sA, sB, sC])
 refine rdz 6 fun K hK => ?_
 go_simp
 refine (swFull_c u c c0 c8 HU32.out _ (SlotsLaid.at_ HTL.out hA W9.out.drew.at_)).mono ?_; rintro e w10 ⟨rfl, hb⟩; have W10 := hidp (W9.out.drew.keep hb); clear hb W9; rw [HF.out]
 refine hK.out _ _ ?_ (fun hHeld => ?_)
 ·(try dsimp only)
  exact W10.out.h0.three.2.2
 clear hK K
 (try simp only [Act.put, gA, gB, gC, sA, sB, sC])
 refine tkz 7 ?_
 refine tkz 8 ?_
 refine dnz ?_
 obtain ⟨i0, i1, i2⟩ := W10.out.h0.three
 obtain ⟨x0, x1, x2⟩ := W10.out.h1.three
 go_wp2_with fail
 refine (lkPush_c hn hq31 (p : Int) W10.out.at_).mono ?_; rintro e w11 ⟨rfl, h1, h2⟩; have W11 := hidp (W10.out.call h1 h2); clear h1 h2 W10
 obtain ⟨i0, i1, i2⟩ := W11.out.h0.three
 obtain ⟨x0, x1, x2⟩ := W11.out.h1.three
 go_wp2
 go_ret
 exact ⟨rfl, W11.out.fin⟩

set_option maxHeartbeats 3200000 in
theorem swPage_n_some (hn : n < 2 ^ 40) (hq : q <= 1024) (p : Nat) (hp : (p : Int) < q) (k l c : Int) (ok : Bool) (hI : infoOf n K t q s (p : Int) st = (k, l, c, ok)) (hk : k = 3) (a u : Nat) (ha : getV n K (getS n K st (pageI t q s (p : Int) 0)) (pageI t q s (p : Int) 4) = a) (hu : getV n K (getS n K (getS n K st (pageI t q s (p : Int) 0)) (pageI t q s (p : Int) 4)) (pageI t q s (p : Int) 5) = u) (hT : SlotsLaid w0) (hA : ¬ A 0) (he : a ≠ u) (hz : a ≠ 0) (hf : fullB u c = false) (h : (vOb base b n wh K).At w0 A G st w) :
  Calls Tryz.prog 11 #[.pointer (some ⟨b, 0, none⟩), .agg #[.int .i64 t, .int .i64 q, .int .i64 s], .int .i64 (p : Int)] w fun e w' => e = .returned (.bool true) /\ (vOb base b n wh K).At w0 A G ((putS n (getS n K (getS n K (getS n K st (pageI t q s (p : Int) 0)) (pageI t q s (p : Int) 4)) (pageI t q s (p : Int) 5)) (pageI t q s (p : Int) 5) a)) w' /\ Stay G w w' := by
 have W0 := hidp ((WL.start h).new 23 #[.int .i64 t, .int .i64 q, .int .i64 s])
 subst hk
 obtain ⟨v, hv⟩ : ∃ v, getV n K st (pageI t q s (p : Int) 0) = v := ⟨_, rfl⟩
 have hv32 : v < 2 ^ 32 := by rw [<- hv]; exact vAt_lt h _
 have HI : Hid (infoG v = (3, l, c, ok)) := hidp (by rw [<- hv]; exact hI)
 have HV := hidp hv
 have t3 : ((3 : Int) != 3) = false := by simp
 have HA := hidp ha
 have HU := hidp hu
 have hq31 : q <= 2 ^ 31 := by omega
 have hp4 : p <= 1024 := by omega
 obtain ⟨c0, c8⟩ := infoG_cls' HI.out
 have t4 : ((a : Int) == (u : Int)) = false := by simp; omega
 have t4n : (a == u) = false := by simp; omega
 have t5 : ((a : Int) == 0) = false := by simp; omega
 have t5n : (a == 0) = false := by simp; omega
 have HF := hidp hf
 have rk := hidp (rack_at c0 c8)
 have HTL := hidp hT
 clear h hI ha hu he hv hf hz hT
 go_enter Tryz.func11, Tryz.ntmps11
 obtain ⟨x0, x1, x2⟩ := W0.out.h0.three
 go_wp2_with fail
 refine (plInfo_c t q s (p : Int) _).mono ?_; rintro e w1 ⟨rfl, hb⟩; have W1 := hidp (W0.out.keep hb); clear hb W0
 obtain ⟨x0, x1, x2⟩ := W1.out.h0.three
 go_wp2_with fail
 refine (vGetA hn _ W1.out.at_).mono ?_; rintro e w2 ⟨rfl, h1, h2⟩; have W2 := hidp (W1.out.call h1 h2); clear h1 h2 W1; rw [HV.out]
 obtain ⟨x0, x1, x2⟩ := W2.out.h0.three
 go_wp2_with fail
 refine (inGet_c v 3 l c ok hv32 HI.out _).mono ?_; rintro e w3 ⟨rfl, hb⟩; have W3 := hidp (W2.out.keep hb); clear hb W2
 generalize hNI : w3.heap.size = NI at *
 replace W3 := hidp (W3.out.new 68 #[.int .i64 3, .int .i64 l, .int .i64 c])
 rw [hNI] at W3
 obtain ⟨i0, i1, i2⟩ := W3.out.h0.three
 obtain ⟨x0, x1, x2⟩ := W3.out.h1.three
 go_wp2_with fail
 refine (plSlots_c t q s (p : Int) _).mono ?_; rintro e w4 ⟨rfl, hb⟩; have W4 := hidp (W3.out.keep hb); clear hb W3
 obtain ⟨i0, i1, i2⟩ := W4.out.h0.three
 obtain ⟨x0, x1, x2⟩ := W4.out.h1.three
 go_wp2_with fail
 have HA32 : Hid (a < 2 ^ 32) := hidp (by rw [<- HA.out]; exact vWL_lt W4.out _)
 refine (vGetA hn _ W4.out.at_).mono ?_; rintro e w5 ⟨rfl, h1, h2⟩; have W5 := hidp (W4.out.call h1 h2); clear h1 h2 W4; rw [HA.out]
 obtain ⟨i0, i1, i2⟩ := W5.out.h0.three
 obtain ⟨x0, x1, x2⟩ := W5.out.h1.three
 go_wp2_with fail
 refine (plTaken_c t q s (p : Int) _).mono ?_; rintro e w6 ⟨rfl, hb⟩; have W6 := hidp (W5.out.keep hb); clear hb W5
 obtain ⟨i0, i1, i2⟩ := W6.out.h0.three
 obtain ⟨x0, x1, x2⟩ := W6.out.h1.three
 go_wp2_with fail
 have HU32 : Hid (u < 2 ^ 32) := hidp (by rw [<- HU.out]; exact vWL_lt W6.out _)
 refine (vGetA hn _ W6.out.at_).mono ?_; rintro e w7 ⟨rfl, h1, h2⟩; have W7 := hidp (W6.out.call h1 h2); clear h1 h2 W6; rw [HU.out]
 obtain ⟨i0, i1, i2⟩ := W7.out.h0.three
 obtain ⟨x0, x1, x2⟩ := W7.out.h1.three
 go_wp2_with fail
 refine (plTaken_c t q s (p : Int) _).mono ?_; rintro e w8 ⟨rfl, hb⟩; have W8 := hidp (W7.out.keep hb); clear hb W7
 obtain ⟨i0, i1, i2⟩ := W8.out.h0.three
 obtain ⟨x0, x1, x2⟩ := W8.out.h1.three
 go_wp2_with fail
 refine (vPutA hn _ a HA32.out W8.out.at_).mono ?_; rintro e w9 ⟨rfl, h1, h2⟩; have W9 := hidp (W8.out.call h1 h2); clear h1 h2 W8
 obtain ⟨i0, i1, i2⟩ := W9.out.h0.three
 obtain ⟨x0, x1, x2⟩ := W9.out.h1.three
 go_wp2_with fail
 refine wp_region_held_drew (S := (fun w' => w'.cell? ⟨NI, 2, none⟩ = some (.int .i64 c))) (by kernel_rfl) ?_ (fun hHeld => ?_)
 ·(try dsimp only)
  exact W9.out.drew.h0.three.2.2
 refine tkz 0 ?_
 refine tkz 1 ?_
 refine tkz 3 ?_
 refine tkz 4 ?_
 refine tkz 5 ?_
 refine rdz 2 fun K hK => ?_
 go_simp
 refine (plRack_c c _).mono ?_; rintro e w9 ⟨rfl, rfl⟩; rw [rk.out]
 refine hK.out _ _ ?_ (fun hHeld => ?_)
 ·(try dsimp only)
  exact W9.out.drew.h0.three.2.2
 clear hK K
 (try simp only [Act.put, gA, gB, gC, sA, sB, sC])
 refine rdz 6 fun K hK => ?_
 go_simp
 refine (swFull_c u c c0 c8 HU32.out _ (SlotsLaid.at_ HTL.out hA W9.out.drew.at_)).mono ?_; rintro e w10 ⟨rfl, hb⟩; have W10 := hidp (W9.out.drew.keep hb); clear hb W9; rw [HF.out]
 refine hK.out _ _ ?_ (fun hHeld => ?_)
 ·(try dsimp only)
  exact W10.out.h0.three.2.2
 clear hK K
 (try simp only [Act.put, gA, gB, gC, sA, sB, sC])
 refine tkz 7 ?_
 refine tkz 8 ?_
 refine dnz ?_
 obtain ⟨i0, i1, i2⟩ := W10.out.h0.three
 obtain ⟨x0, x1, x2⟩ := W10.out.h1.three
 go_wp2
 go_ret
 exact ⟨rfl, W10.out.fin⟩

theorem swPage_c (hn : n < 2 ^ 40) (hq : q <= 1024) (p : Int) (hp : -9223372036854775808 <= p /\ p <= 9223372036854775807) (hT : SlotsLaid w0) (hA : ¬ A 0) (h : (vOb base b n wh K).At w0 A G st w) :
  Calls Tryz.prog 11 #[.pointer (some ⟨b, 0, none⟩), .agg #[.int .i64 t, .int .i64 q, .int .i64 s], .int .i64 p] w fun e w' => e = .returned (.bool (sweepP n K t q s p st).1) /\ (vOb base b n wh K).At w0 A G ((sweepP n K t q s p st).2) w' /\ Stay G w w' := by
 obtain ⟨⟨k, l, c, ok⟩, hI⟩ : ∃ x, infoOf n K t q s p st = x := ⟨_, rfl⟩
 unfold sweepP
 cases hpg : pgB q p with
 | false =>
  rw [info_off24 (page_off24 hpg)] at hI
  cases hI
  have := swPage_kind (t := t) (s := s) hn hq p 0 0 0 (infoG 0).2.2.2 (info_off24 (page_off24 hpg)) (by omega) h
  rw [page_off24 hpg, get_off24.2] at this
  exact this
 | true =>
  have hpq : 0 <= p /\ p < q := by unfold pgB at hpg; simp at hpg; exact hpg
  obtain ⟨p, rfl⟩ := Int.eq_ofNat_of_zero_le hpq.1
  simp only [if_true, Int.toNat_natCast]
  unfold sweepI
  rw [hI]
  by_cases hk : k = 3
  ·rw [if_pos hk]
   obtain ⟨a, ha⟩ : ∃ a, getV n K (getS n K st (pageI t q s (p : Int) 0)) (pageI t q s (p : Int) 4) = a := ⟨_, rfl⟩
   obtain ⟨u, hu⟩ : ∃ u, getV n K (getS n K (getS n K st (pageI t q s (p : Int) 0)) (pageI t q s (p : Int) 4)) (pageI t q s (p : Int) 5) = u := ⟨_, rfl⟩
   rw [ha, hu]
   by_cases he : a = u
   ·rw [if_pos he]
    exact swPage_same hn hq p hpq.2 k l c ok hI hk a u ha hu he h
   ·rw [if_neg he]
    unfold sweepAt backS
    dsimp only
    cases hf : fullB u c with
    | true =>
     by_cases hz : a = 0
     ·rw [if_pos hz]
      exact swPage_z_full hn hq p hpq.2 k l c ok hI hk a u ha hu hT hA he hz hf h
     ·rw [if_neg hz]
      exact swPage_n_full hn hq p hpq.2 k l c ok hI hk a u ha hu hT hA he hz hf h
    | false =>
     by_cases hz : a = 0
     ·rw [if_pos hz]
      exact swPage_z_some hn hq p hpq.2 k l c ok hI hk a u ha hu hT hA he hz hf h
     ·rw [if_neg hz]
      exact swPage_n_some hn hq p hpq.2 k l c ok hI hk a u ha hu hT hA he hz hf h
  ·rw [if_neg hk]
   exact swPage_kind hn hq (p : Int) k l c ok hI hk h

set_option maxHeartbeats 3200000 in
theorem swAll_to (hn : n < 2 ^ 40) (P M : Nat) (hq : P <= 1024) (hM : M <= P) (hlm : (if lC t (P : Int) s = 0 then (0 : Int) else (P : Int)) = (M : Int)) (hT : SlotsLaid w0) (hA : ¬ A 0) (h : (vOb base b n wh K).At w0 A G st w) :
  Calls Tryz.prog 17 #[.pointer (some ⟨b, 0, none⟩), .agg #[.int .i64 t, .int .i64 (P : Int), .int .i64 s]] w fun e w' => e = .returned (.int .i64 ((sweepTo n K t (P : Int) s M st).1 : Int)) /\ (vOb base b n wh K).At w0 A G ((sweepTo n K t (P : Int) s M st).2) w' /\ Stay G w w' /\ ∀ j, j <= M -> VOk n (sweepTo n K t (P : Int) s j st).2 := by
 have W0 := hidp ((WL.start h).new 23 #[.int .i64 t, .int .i64 (P : Int), .int .i64 s])
 have HL := hidp hlm
 have HO0 := hidp (vAt_ok h)
 clear h hlm
 go_enter Tryz.func17, Tryz.ntmps17
 obtain ⟨x0, x1, x2⟩ := W0.out.h0.three
 go_wp2_with fail
 refine (swPages_c t (P : Int) s _).mono ?_; rintro e w1 ⟨rfl, hb⟩; replace W0 := hidp (W0.out.keep hb); clear hb; rw [HL.out]
 clear x0 x1 x2
 obtain ⟨x0, x1, x2⟩ := W0.out.h0.three
 go_wp2_with fail
 go_loopw [5, 9] (fun u5 u9 wr => ∃ j : Nat, j <= M /\ u5 = .int .i64 ((sweepTo n K t (P : Int) s j st).1 : Int) /\ u9 = .int .i64 (j : Int) /\ (sweepTo n K t (P : Int) s j st).1 <= j /\ Hid (WL (vOb base b n wh K) w0 A G w [⟨w.heap.size, 23, #[.int .i64 t, .int .i64 (P : Int), .int .i64 s]⟩] (sweepTo n K t (P : Int) s j st).2 wr) /\ Hid (∀ i, i <= j -> VOk n (sweepTo n K t (P : Int) s i st).2)) (fun u5 u9 _ => M - (intOf u9).toNat)
 case atStart => exact ⟨0, by omega, rfl, rfl, Nat.le_refl _, W0, hidp (fun i hi => by
  have hi0 : i = 0 := by omega
  rw [hi0]
  exact HO0.out)⟩
 case round =>
  clear W0 x0 x1 x2
  obtain ⟨j, hj, rfl, rfl, hm, W0, HOK⟩ := hrel
  obtain ⟨x0, x1, x2⟩ := W0.out.h0.three
  obtain ⟨⟨m, sj⟩, hs⟩ : ∃ x, sweepTo n K t (P : Int) s j st = x := ⟨_, rfl⟩
  have hnx : sweepTo n K t (P : Int) s (j + 1) st = (m + (if (sweepI n K t (P : Int) s j sj).1 = true then 1 else 0), (sweepI n K t (P : Int) s j sj).2) := by
   show ((sweepTo n K t (P : Int) s j st).1 + _, _) = _
   rw [hs]
  rw [hs] at W0 hm ⊢
  dsimp only at W0 hm ⊢
  by_cases hlt : j < M
  ·have t1 : decide ((j : Int) < (M : Int)) = true := decide_eq_true (by omega)
   have t1n : decide (j < M) = true := decide_eq_true hlt
   have hpg : sweepP n K t (P : Int) s (j : Int) sj = sweepI n K t (P : Int) s j sj := by
    unfold sweepP pgB
    rw [decide_eq_true (by omega), decide_eq_true (by omega)]
    simp
   obtain ⟨⟨r, sn⟩, hr⟩ : ∃ x, sweepI n K t (P : Int) s j sj = x := ⟨_, rfl⟩
   rw [hr] at hpg hnx
   have HPG := hidp hpg
   have HNX := hidp hnx
   clear hs hpg hnx hr
   go_wp2_with fail
   refine (swPage_c hn (by omega) (j : Int) (by omega) hT hA W0.out.at_).mono ?_; rintro e w1 ⟨rfl, h1, h2⟩
   rw [HPG.out] at h1 ⊢
   dsimp only at h1 ⊢
   have hok1 : VOk n sn := vAt_ok h1
   have W1 := hidp (W0.out.call h1 h2)
   clear h1 h2 W0
   have HOK1 : Hid (∀ i, i <= j + 1 -> VOk n (sweepTo n K t (P : Int) s i st).2) := hidp (fun i hi => by
    rcases Nat.lt_or_ge j i with h | h
    ·obtain rfl : i = j + 1 := by omega
     rw [HNX.out]; exact hok1
    ·exact HOK.out i h)
   clear HOK
   cases r with
   | true =>
    have HE : Hid (sweepTo n K t (P : Int) s (j + 1) st = (m + 1, sn)) := hidp (by rw [HNX.out]; rfl)
    have c1 : IntKind.i64.wrap ((m : Int) + 1) = (m : Int) + 1 := i64_same (by omega) (by omega)
    clear HNX
    go_wp2
    go_roundw
    case rel => exact ⟨j + 1, by omega, by rw [HE.out]; go_num, by go_num, by rw [HE.out]; show m + 1 <= j + 1; omega, by rw [HE.out]; exact W1, HOK1⟩
    case measure => simp [intOf]; omega
   | false =>
    have HE : Hid (sweepTo n K t (P : Int) s (j + 1) st = (m, sn)) := hidp (by rw [HNX.out]; rfl)
    clear HNX
    go_wp2
    go_roundw
    case rel => exact ⟨j + 1, by omega, by rw [HE.out], by go_num, by rw [HE.out]; show m <= j + 1; omega, by rw [HE.out]; exact W1, HOK1⟩
    case measure => simp [intOf]; omega
  ·have t1 : decide ((j : Int) < (M : Int)) = false := decide_eq_false (by omega)
   have t1n : decide (j < M) = false := decide_eq_false hlt
   obtain rfl : j = M := by omega
   have HE := hidp hs
   clear hs hnx
   go_wp2
   go_ret
   rw [HE.out]
   obtain ⟨z1, z2⟩ := W0.out.fin
   exact ⟨rfl, z1, z2, HOK.out⟩
theorem swAll_c (hn : n < 2 ^ 40) (P : Nat) (hq : P <= 1024) (hqq : q = (P : Int)) (hT : SlotsLaid w0) (hA : ¬ A 0) (h : (vOb base b n wh K).At w0 A G st w) :
  Calls Tryz.prog 17 #[.pointer (some ⟨b, 0, none⟩), .agg #[.int .i64 t, .int .i64 q, .int .i64 s]] w fun e w' => e = .returned (.int .i64 ((sweepTo n K t q s P st).1 : Int)) /\ (vOb base b n wh K).At w0 A G ((sweepTo n K t q s P st).2) w' /\ Stay G w w' /\ ∀ j, j <= P -> VOk n (sweepTo n K t q s j st).2 := by
 subst hqq
 by_cases h0 : lC t (P : Int) s = 0
 ·have hok := vAt_ok h
  have := swAll_to hn P 0 hq (Nat.zero_le _) (by rw [if_pos h0]; rfl) hT hA h
  refine this.mono ?_
  rintro e w' ⟨h1, h2, h3, _⟩
  rw [sweepTo_none h0] at h1 h2 ⊢
  exact ⟨h1, h2, h3, fun j _ => by rw [sweepTo_none h0]; exact hok⟩
 ·exact swAll_to hn P P hq (Nat.le_refl _) (by rw [if_neg h0]) hT hA h
end
end
section
structure Duo (W : World) (O1 O2 : Ob) (A B G : Nat -> Prop) (s1 s2 : Vst) (w : World) : Prop where
 i1 : O1.I w s1 A
 i2 : O2.I w s2 B
 ab : ∀ i, A i -> ¬ B i
 aG : ∀ g, G g -> g < w.heap.size /\ ¬ A g /\ ¬ B g
 lo : ∀ i, A i \/ B i -> W.heap.size <= i
 bel : Below W.heap.size W w
def noOb : Ob where
 I _ _ A := ∀ i, ¬ A i
 lt h i hi := absurd hi (h i)
 turns h _ _ := h

section
variable {W w w' : World} {O1 O2 : Ob} {A B G : Nat -> Prop} {s1 s2 s' : Vst}
theorem Duo.left1 (h : Duo W O1 O2 A B G s1 s2 w) (hl : O1.Left w A s' w') : ∃ A', Duo W O1 O2 A' B G s' s2 w' /\ Stay G w w' := by
 obtain ⟨A', k1, k2, k3⟩ := hl
 have hs := h.bel.size
 refine ⟨A', ⟨k1, O2.turns h.i2 k3 (fun i hi ha => h.ab i ha hi), fun i hi hb => ?_, fun g hg => ⟨Nat.lt_of_lt_of_le (h.aG g hg).1 k3.size, fun x => ?_, (h.aG g hg).2.2⟩, fun i hi => ?_, k3.below h.bel (fun i hi => h.lo i (.inl hi))⟩, ⟨k3.size, fun g hg hl => k3.block g hl (h.aG g hg).2.1⟩⟩
 ·rcases k2 i hi with h1 | h1
  ·exact h.ab i h1 hb
  ·have := O2.lt h.i2 i hb; omega
 ·rcases k2 g x with h1 | h1
  ·exact (h.aG g hg).2.1 h1
  ·have := (h.aG g hg).1; omega
 ·rcases hi with hi | hi
  ·rcases k2 i hi with h1 | h1
   ·exact h.lo i (.inl h1)
   ·omega
  ·exact h.lo i (.inr hi)
theorem Duo.swap (h : Duo W O1 O2 A B G s1 s2 w) : Duo W O2 O1 B A G s2 s1 w := ⟨h.i2, h.i1, fun i hb ha => h.ab i ha hb, fun g hg => ⟨(h.aG g hg).1, (h.aG g hg).2.2, (h.aG g hg).2.1⟩, fun i hi => h.lo i hi.symm, h.bel⟩
theorem Duo.left2 (h : Duo W O1 O2 A B G s1 s2 w) (hl : O2.Left w B s' w') : ∃ B', Duo W O1 O2 A B' G s1 s' w' /\ Stay G w w' := by
 obtain ⟨B', h1, h2⟩ := h.swap.left1 hl
 exact ⟨B', h1.swap, h2⟩
theorem Duo.keep (h : Duo W O1 O2 A B G s1 s2 w) (hb : Below w.heap.size w w') : Duo W O1 O2 A B G s1 s2 w' :=
 ⟨Ob.keep h.i1 hb, Ob.keep h.i2 hb, h.ab, fun g hg => ⟨Nat.lt_of_lt_of_le (h.aG g hg).1 hb.size, (h.aG g hg).2⟩, h.lo, Bgo h.bel hb⟩
theorem Duo.at1 (h : Duo W O1 O2 A B G s1 s2 w) : O1.At w A (fun _ => False) s1 w := Ob.At.start h.i1
theorem Duo.at2 (h : Duo W O1 O2 A B G s1 s2 w) : O2.At w B (fun _ => False) s2 w := Ob.At.start h.i2
theorem duo_made {b n base : Nat} {wh : Bool} {o : VGeo} {K : Nat -> Option Nat} {s : Vst} (hI : IsView w base b n wh o K s) (hb : W.heap.size <= base) (hB : Below W.heap.size W w) (hG : ∀ g, G g -> g < w.heap.size /\ ¬ o.A b g) :
  Duo W (vOb base b n wh K) noOb (o.A b) (fun _ => False) G s freshS w :=
 ⟨⟨o, hI, rfl⟩, fun _ x => x, fun _ _ x => x, fun g hg => ⟨(hG g hg).1, (hG g hg).2, fun x => x⟩, fun i hi => by
  rcases hi with hi | hi
  ·exact Nat.le_trans hb (hI.ge i hi)
  ·exact hi.elim, hB⟩
end
end
section
theorem few14_c (t q s : Int) (w : World) : Calls Tryz.prog 6 #[.agg #[.int .i64 t, .int .i64 q, .int .i64 s]] w fun e w' => e = .returned (.bool (decide (q <= 64))) /\ Below w.heap.size w w' := by
 go_enter Tryz.func6, Tryz.ntmps6
 go_wp2
 go_ret
 exact ⟨rfl, Bnew (B0 _) _⟩
theorem make82 (w : World) : (Instr.makeSlice 24 (.int .i64 82) (.int .i64 82)).run Tryz.prog w = .ok (.slice (some ⟨w.heap.size, 0, none⟩) 82 82) (w.alloc (.cells (Array.replicate 82 (.int .u32 0)) 53)) := by kernel_rfl
def ex14L : List Nat := ((((List.replicate 82 0).set 0 8).set 5 1).set 34 129).set 77 1
def ex14C : Array Value := ((((Array.replicate 82 (Value.int .u32 0)).setIfInBounds 0 (.int .u32 8)).setIfInBounds 5 (.int .u32 1)).setIfInBounds 34 (.int .u32 129)).setIfInBounds 77 (.int .u32 1)
theorem ex14_eq : ex14C.toList = valVs ex14L := by
 unfold ex14C ex14L valVs
 simp only [Array.toList_setIfInBounds, Array.toList_replicate, List.map_set, List.map_replicate]
 rfl
end
end Go.Proofs.YtnmhdlpnimdffaaGreatDoor

namespace Go.Proofs.YtnmhdlpnimdffaaGreatDoor
open Go.ChangeShapes Go.WideShapes Go.ChangeAt Go.RowKit Go.Maps
set_option linter.unusedVariables false
set_option linter.unusedSimpArgs false
section
def frB (p : Nat) : Nat := (2 + HM.logI (p : Int)).toNat
def frV (t p : Nat) (i : Nat) : Nat := if i = 0 then p else if i = frB p then 1 else if i = 30 + 4 * t then 1 + 16 * p else if i = 30 + 4 * t + 6 * (p - 1) + 1 then 1 else 0
def frH (t p s : Nat) : AuH := ⟨t, p, s, frV t p⟩
section
variable {t p s : Nat}
theorem frB_at (h1 : 1 <= p) (h2 : p <= 1024) : (frB p : Int) = 2 + HM.logI (p : Int) /\ 2 <= frB p /\ frB p <= 12 := by
 have h := AuH.log_few h1 h2
 unfold frB
 omega
theorem fr_cel (h1 : 1 <= p) (h2 : p <= 1024) {q b : Nat} (hq : q < p) (hb : b < 6) : (frH t p s).cel q b = if q = 0 /\ b = 0 then 1 + 16 * p else if q = p - 1 /\ b = 1 then 1 else 0 := by
 have h := frB_at h1 h2
 show frV t p (30 + 4 * t + 6 * q + b) = _
 unfold frV
 rw [if_neg (by omega), if_neg (by omega)]
 by_cases h3 : q = 0 /\ b = 0
 ·rw [if_pos (by omega), if_pos h3]
 ·rw [if_neg (by omega), if_neg h3]
  by_cases h4 : q = p - 1 /\ b = 1
  ·rw [if_pos (by omega), if_pos h4]
  ·rw [if_neg (by omega), if_neg h4]
theorem fr_info0 (h1 : 1 <= p) (h2 : p <= 1024) : infoG (1 + 16 * p) = (1, (p : Int), 0, true) := by
 have h := infoG_put (k := 1) (l := (p : Int)) (c := 0) (infoB_yes (by unfold infoP; omega))
 rw [infoV_yes (infoB_yes (by unfold infoP; omega))] at h
 rw [show 1 + 16 * p = (1 : Int).toNat + 16 * ((p : Int)).toNat + 65536 * (0 : Int).toNat by simp]
 exact h
theorem fr_K0 (h1 : 1 <= p) (h2 : p <= 1024) : (frH t p s).K 0 = 1 /\ (frH t p s).ln 0 = p := by
 have e : (frH t p s).cel 0 0 = 1 + 16 * p := by rw [fr_cel h1 h2 (by omega) (by omega), if_pos ⟨rfl, rfl⟩]
 unfold AuH.ln AuH.K AuH.L
 rw [e, fr_info0 h1 h2]
 exact ⟨rfl, by simp⟩
theorem fr_K (h1 : 1 <= p) (h2 : p <= 1024) {q : Nat} (hq : q < p) (h0 : q ≠ 0) : (frH t p s).K q = 0 := by
 have e : (frH t p s).cel q 0 = 0 := by rw [fr_cel h1 h2 hq (by omega), if_neg (fun h => h0 h.1), if_neg (fun h => by omega)]
 unfold AuH.K
 rw [e]
 decide
theorem fr_nx (h1 : 1 <= p) (h2 : p <= 1024) : (frH t p s).nx 0 = p /\ (frH t p s).can 0 = true := by
 obtain ⟨e1, e2⟩ := fr_K0 (t := t) (s := s) h1 h2
 unfold AuH.nx AuH.can
 rw [e1, e2]
 exact ⟨by omega, decide_eq_true ⟨by show 0 < p; omega, by decide, by show 0 + p <= p; omega⟩⟩
theorem fr_tgt0 (h1 : 1 <= p) (h2 : p <= 1024) : (frH t p s).tgt 0 = (frB p : Int) := by
 rw [AuH.tgt_free (fr_K0 h1 h2).1, (fr_K0 h1 h2).2]
 exact (frB_at h1 h2).1.symm
theorem fr_tgt (h1 : 1 <= p) (h2 : p <= 1024) {q : Nat} (hq : q < p) (h0 : q ≠ 0) : (frH t p s).tgt q = -1 := AuH.tgt_none (fr_K h1 h2 hq h0)
theorem fr_at (h1 : 1 <= p) (h2 : p <= 1024) {a : Nat} (h : (frH t p s).At a) (ha : a < p) : a = 0 := by
 rcases Nat.eq_zero_or_pos a with h3 | h3
 ·exact h3
 ·have := (AuH.At.next .zero h h3).2
  rw [(fr_nx h1 h2).1] at this
  omega
theorem fr_tiled (h1 : 1 <= p) (h2 : p <= 1024) : (frH t p s).Tiled := by
 have h := AuH.At.step (H := frH t p s) .zero (fr_nx h1 h2).2
 rw [(fr_nx h1 h2).1] at h
 refine ⟨h, fun a ha hc hl q h3 h4 => ?_⟩
 obtain rfl := fr_at h1 h2 ha hl
 rw [(fr_nx h1 h2).1] at h4
 rw [fr_cel h1 h2 h4 (by omega), if_neg (fun h => by omega), if_neg (fun h => by omega)]
theorem fr_sum (f : Nat -> Nat) (h : ∀ q, q ≠ 0 -> q < p -> f q = 0) : ∀ m, m <= p -> AuH.sumTo f m = if m = 0 then 0 else f 0
 | 0, _ => rfl
 | m + 1, hm => by
  show AuH.sumTo f m + f m = _
  rw [fr_sum f h m (by omega), if_neg (Nat.succ_ne_zero m)]
  by_cases h0 : m = 0
  ·subst h0; rw [if_pos rfl, Nat.zero_add]
  ·rw [if_neg h0, h m h0 (by omega), Nat.add_zero]
theorem fr_list (h1 : 1 <= p) (h2 : p <= 1024) (head : Nat) (h3 : 2 <= head) (h4 : head < 22) : (frH t p s).ListOk head := by
 have hb := frB_at h1 h2
 have e : (frH t p s).cnt (head : Int) p = (frH t p s).isF (head : Int) 0 := by
  unfold AuH.cnt
  rw [fr_sum _ (fun q h0 hq => by unfold AuH.isF; rw [fr_tgt h1 h2 hq h0, if_neg (by omega)]) p (Nat.le_refl _), if_neg (by omega)]
 show (frH t p s).chain (head : Int) ((frH t p s).cnt (head : Int) p) (frV t p head) 0
 rw [e]
 unfold AuH.isF
 rw [fr_tgt0 h1 h2]
 by_cases h : head = frB p
 ·subst h
  have ev : frV t p (frB p) = 1 := by unfold frV; rw [if_neg (by omega), if_pos rfl]
  rw [if_pos rfl, ev]
  refine ⟨⟨Nat.le_refl _, h1, fr_tgt0 h1 h2, ?_⟩, ?_⟩
  ·show (frH t p s).cel 0 3 = 0
   rw [fr_cel h1 h2 (by omega) (by omega), if_neg (by omega), if_neg (by omega)]
  ·show (frH t p s).cel 0 2 = 0
   rw [fr_cel h1 h2 (by omega) (by omega), if_neg (by omega), if_neg (by omega)]
 ·rw [if_neg (by omega)]
  show frV t p head = 0
  unfold frV
  rw [if_neg (by omega), if_neg h, if_neg (by omega), if_neg (by omega)]
theorem fr_rules (h1 : 1 <= p) (h2 : p <= 1024) : ∀ i, i < 10 -> (frH t p s).rule i := by
 intro i hi
 have hb := frB_at h1 h2
 have c0 : ∀ q b, q < p -> b < 6 -> b ≠ 0 -> b ≠ 1 -> (frH t p s).cel q b = 0 := fun q b hq h3 h4 h5 => by rw [fr_cel h1 h2 hq h3, if_neg (fun h => h4 h.2), if_neg (fun h => h5 h.2)]
 rcases (by omega : i = 0 \/ i = 1 \/ i = 2 \/ i = 3 \/ i = 4 \/ i = 5 \/ i = 6 \/ i = 7 \/ i = 8 \/ i = 9) with rfl | rfl | rfl | rfl | rfl | rfl | rfl | rfl | rfl | rfl
 ·exact trivial
 ·exact fr_tiled h1 h2
 ·intro q hq hk
  have hq : q < p := hq
  have : q = 0 := Classical.byContradiction (fun h => hk (fr_K h1 h2 hq h))
  subst this
  refine ⟨fun r h3 h4 => ?_, ?_⟩
  ·rw [(fr_K0 h1 h2).2] at h4
   rw [fr_cel h1 h2 (by omega) (by omega), if_neg (by omega), if_neg (by omega)]
  ·rw [(fr_K0 h1 h2).2, fr_cel h1 h2 (by omega) (by omega), if_neg (by omega), if_pos (by omega)]
 ·intro q ha hq hk hn
  obtain rfl := fr_at h1 h2 ha hq
  rw [(fr_nx h1 h2).1] at hn
  exact absurd hn (Nat.lt_irrefl _)
 ·intro q hq
  have hq : q < p := hq
  refine ⟨fun h => ?_, fun _ => ⟨c0 q 5 hq (by omega) (by omega) (by omega), c0 q 4 hq (by omega) (by omega) (by omega)⟩⟩
  rcases Nat.eq_zero_or_pos q with h3 | h3
  ·subst h3; rw [(fr_K0 h1 h2).1] at h; exact absurd h (by decide)
  ·rw [fr_K h1 h2 hq (by omega)] at h; exact absurd h (by decide)
 ·exact fun k hk => fr_list h1 h2 (2 + k) (by omega) (by omega)
 ·exact fun k hk => fr_list h1 h2 (13 + k) (by omega) (by omega)
 ·intro q hq ht
  exact ⟨c0 q 2 hq (by omega) (by omega) (by omega), c0 q 3 hq (by omega) (by omega) (by omega)⟩
 ·have e1 : AuH.sumTo (frH t p s).freeF p = p := by
   rw [fr_sum _ (fun q h0 hq => AuH.freeF_no (fr_K h1 h2 hq h0)) p (Nat.le_refl _), if_neg (by omega)]
   unfold AuH.freeF
   rw [if_pos (fr_K0 h1 h2).1, (fr_K0 h1 h2).2]
  have e2 : AuH.sumTo (frH t p s).liveF p = 0 := by
   rw [fr_sum _ (fun q h0 hq => AuH.liveF_no (fr_K h1 h2 hq h0)) p (Nat.le_refl _), if_neg (by omega)]
   unfold AuH.liveF
   rw [(fr_K0 h1 h2).1, if_neg (by decide), if_neg (by decide)]
  show frV t p 0 = AuH.sumTo (frH t p s).freeF p % 4294967296 /\ frV t p 1 = AuH.sumTo (frH t p s).liveF p % 4294967296
  rw [e1, e2]
  refine ⟨?_, ?_⟩
  ·show p = _
   omega
  ·unfold frV
   rw [if_neg (by omega), if_neg (by omega), if_neg (by omega), if_neg (by omega)]
 ·intro i hi h
  exfalso
  apply h
  show frV t p (22 + i) = 0
  unfold frV
  rw [if_neg (by omega), if_neg (by omega), if_neg (by omega), if_neg (by omega)]
theorem frV_lt (h1 : 1 <= p) (h2 : p <= 1024) (i : Nat) : frV t p i < 2 ^ 32 := by
 unfold frV
 split
 ·omega
 ·split
  ·omega
  ·split
   ·omega
   ·split <;> omega
end
end
end Go.Proofs.YtnmhdlpnimdffaaGreatDoor

namespace Go.Proofs.YtnmhdlpnimdffaaGreatDoor
open Go.ChangeShapes Go.WideShapes Go.ChangeAt Go.RowKit Go.Shelf
set_option linter.unusedVariables false
set_option linter.unusedSimpArgs false
section
set_option maxHeartbeats 1600000 in
theorem xSlots_c {H : AuH} {n c : Nat} (HV : HeapV H n c) (ad : Addr) {q : Nat} (hq : q < H.p) (w : World) (hv : IsVals w ad n H.V) :
  Calls Tryz.prog 110 #[hpV H ad n c, .int .i64 (q : Int)] w fun e w' => e = .returned (.int .u32 (H.cel q 4 : Nat)) /\ Below w.heap.size w w' := by
 obtain ⟨i, hii⟩ : ∃ i, 30 + 4 * H.t + 6 * q + 4 = i := ⟨_, rfl⟩
 have hini : i < n := by have := HV.len; omega
 have HI : Hid (pageI H.t H.p H.s q 4 = (i : Int)) := hidp (by have h := HV.page (b := 4) hq (by omega); rw [hii] at h; exact h)
 have h32i := HV.cel_lt hq (show 4 < 6 by omega)
 have hceli : H.cel q 4 = H.V i := by unfold AuH.cel; rw [hii]
 obtain ⟨v, hvvv⟩ : ∃ v, H.cel q 4 = v := ⟨_, rfl⟩
 have HCv := hidp hvvv
 rw [hvvv] at h32i
 have hci := (hv).2 i hini
 rw [<- hceli, hvvv] at hci
 have hbli : (ad.add i).block < w.heap.size := by rw [block_of_add]; exact (hv).1
 have hn := HV.nums
 have hcx : c <= 9223372036854775807 := hn.2.2.2.2.2.2.2.2
 have hni : n <= 6238 := hn.2.2.2.2.2.2.1
 have hnc := HV.cap
 rw [hvvv]
 have hc := Held.new w 106 #[.int .i64 (H.t : Int), .int .i64 (H.p : Int), .int .i64 (H.s : Int), .slice (some ad) n c]
 have HS : Hid (∀ w', Below w.heap.size w w' -> Held w' w.heap.size 106 #[.int .i64 (H.t : Int), .int .i64 (H.p : Int), .int .i64 (H.s : Int), .slice (some ad) n c] -> (fun w' => w'.cell? ⟨w.heap.size, 0, none⟩ = some (.int .i64 (H.t : Int)) /\ w'.cell? ⟨w.heap.size, 1, none⟩ = some (.int .i64 (H.p : Int)) /\ w'.cell? ⟨w.heap.size, 2, none⟩ = some (.int .i64 (H.s : Int)) /\ w'.cell? ⟨w.heap.size, 3, none⟩ = some (.slice (some ad) n c) /\ w'.cell? (ad.add i) = some (.int .u32 (v : Int))) w') := hidp (fun w' hb hh => ⟨hh.four.1, hh.four.2.1, hh.four.2.2.1, hh.four.2.2.2, (hb.cell hbli).trans hci⟩)
 clear hv hci hbli hceli hvvv hii hn hq HCv h32i
 unfold hpV
 go_enter Tryz.func110, Tryz.ntmps110
 go_wp2_with fail
 refine wp_region_held_drew (S := (fun w' => w'.cell? ⟨w.heap.size, 0, none⟩ = some (.int .i64 (H.t : Int)) /\ w'.cell? ⟨w.heap.size, 1, none⟩ = some (.int .i64 (H.p : Int)) /\ w'.cell? ⟨w.heap.size, 2, none⟩ = some (.int .i64 (H.s : Int)) /\ w'.cell? ⟨w.heap.size, 3, none⟩ = some (.slice (some ad) n c) /\ w'.cell? (ad.add i) = some (.int .u32 (v : Int)))) (by kernel_rfl) ?_ (fun hHeld => ?_)
 ·(try dsimp only)
  first | exact HS.out _ (Bdrew (Bnew (B0 w) _)) hc | exact HS.out _ HB1.out HC1.out | exact hHeld
 refine tkz 0 ?_
 refine tkz 1 ?_
 refine tkz 2 ?_
 refine tkz 3 ?_
 refine tkz 4 ?_
 refine rdz 5 fun K hK => ?_
 go_simp
 (go_at_call 41; refine (r7Slots_c _ _ _ _ _).mono ?_; rintro e w1 ⟨rfl, hb1⟩; rw [HI.out]; have HB1 := hidp (Bgo (Bdrew (Bnew (B0 w) _)) hb1); have HC1 := hidp (hc.drew.keep hb1); clear hb1)
 refine hK.out _ _ ?_ (fun hHeld => ?_)
 ·(try dsimp only)
  first | exact HS.out _ (Bdrew (Bnew (B0 w) _)) hc | exact HS.out _ HB1.out HC1.out | exact hHeld
 clear hK K
 (try simp only [Act.put, gA, gB, gC, sA, sB, sC])
 refine tkz 6 ?_
 refine tkz 7 ?_
 refine tkz 8 ?_
 refine dnz ?_
 go_wp2
 go_ret
 exact ⟨rfl, HB1.out⟩

set_option maxHeartbeats 1600000 in
theorem xTaken_c {H : AuH} {n c : Nat} (HV : HeapV H n c) (ad : Addr) {q : Nat} (hq : q < H.p) (w : World) (hv : IsVals w ad n H.V) :
  Calls Tryz.prog 111 #[hpV H ad n c, .int .i64 (q : Int)] w fun e w' => e = .returned (.int .u32 (H.cel q 5 : Nat)) /\ Below w.heap.size w w' := by
 obtain ⟨i, hii⟩ : ∃ i, 30 + 4 * H.t + 6 * q + 5 = i := ⟨_, rfl⟩
 have hini : i < n := by have := HV.len; omega
 have HI : Hid (pageI H.t H.p H.s q 5 = (i : Int)) := hidp (by have h := HV.page (b := 5) hq (by omega); rw [hii] at h; exact h)
 have h32i := HV.cel_lt hq (show 5 < 6 by omega)
 have hceli : H.cel q 5 = H.V i := by unfold AuH.cel; rw [hii]
 obtain ⟨v, hvvv⟩ : ∃ v, H.cel q 5 = v := ⟨_, rfl⟩
 have HCv := hidp hvvv
 rw [hvvv] at h32i
 have hci := (hv).2 i hini
 rw [<- hceli, hvvv] at hci
 have hbli : (ad.add i).block < w.heap.size := by rw [block_of_add]; exact (hv).1
 have hn := HV.nums
 have hcx : c <= 9223372036854775807 := hn.2.2.2.2.2.2.2.2
 have hni : n <= 6238 := hn.2.2.2.2.2.2.1
 have hnc := HV.cap
 rw [hvvv]
 have hc := Held.new w 106 #[.int .i64 (H.t : Int), .int .i64 (H.p : Int), .int .i64 (H.s : Int), .slice (some ad) n c]
 have HS : Hid (∀ w', Below w.heap.size w w' -> Held w' w.heap.size 106 #[.int .i64 (H.t : Int), .int .i64 (H.p : Int), .int .i64 (H.s : Int), .slice (some ad) n c] -> (fun w' => w'.cell? ⟨w.heap.size, 0, none⟩ = some (.int .i64 (H.t : Int)) /\ w'.cell? ⟨w.heap.size, 1, none⟩ = some (.int .i64 (H.p : Int)) /\ w'.cell? ⟨w.heap.size, 2, none⟩ = some (.int .i64 (H.s : Int)) /\ w'.cell? ⟨w.heap.size, 3, none⟩ = some (.slice (some ad) n c) /\ w'.cell? (ad.add i) = some (.int .u32 (v : Int))) w') := hidp (fun w' hb hh => ⟨hh.four.1, hh.four.2.1, hh.four.2.2.1, hh.four.2.2.2, (hb.cell hbli).trans hci⟩)
 clear hv hci hbli hceli hvvv hii hn hq HCv h32i
 unfold hpV
 go_enter Tryz.func111, Tryz.ntmps111
 go_wp2_with fail
 refine wp_region_held_drew (S := (fun w' => w'.cell? ⟨w.heap.size, 0, none⟩ = some (.int .i64 (H.t : Int)) /\ w'.cell? ⟨w.heap.size, 1, none⟩ = some (.int .i64 (H.p : Int)) /\ w'.cell? ⟨w.heap.size, 2, none⟩ = some (.int .i64 (H.s : Int)) /\ w'.cell? ⟨w.heap.size, 3, none⟩ = some (.slice (some ad) n c) /\ w'.cell? (ad.add i) = some (.int .u32 (v : Int)))) (by kernel_rfl) ?_ (fun hHeld => ?_)
 ·(try dsimp only)
  first | exact HS.out _ (Bdrew (Bnew (B0 w) _)) hc | exact HS.out _ HB1.out HC1.out | exact hHeld
 refine tkz 0 ?_
 refine tkz 1 ?_
 refine tkz 2 ?_
 refine tkz 3 ?_
 refine tkz 4 ?_
 refine rdz 5 fun K hK => ?_
 go_simp
 (go_at_call 42; refine (r7Taken_c _ _ _ _ _).mono ?_; rintro e w1 ⟨rfl, hb1⟩; rw [HI.out]; have HB1 := hidp (Bgo (Bdrew (Bnew (B0 w) _)) hb1); have HC1 := hidp (hc.drew.keep hb1); clear hb1)
 refine hK.out _ _ ?_ (fun hHeld => ?_)
 ·(try dsimp only)
  first | exact HS.out _ (Bdrew (Bnew (B0 w) _)) hc | exact HS.out _ HB1.out HC1.out | exact hHeld
 clear hK K
 (try simp only [Act.put, gA, gB, gC, sA, sB, sC])
 refine tkz 6 ?_
 refine tkz 7 ?_
 refine tkz 8 ?_
 refine dnz ?_
 go_wp2
 go_ret
 exact ⟨rfl, HB1.out⟩

set_option maxHeartbeats 3200000 in
set_option maxRecDepth 100000 in
theorem xInfo_c {H : AuH} {n c : Nat} (HV : HeapV H n c) (ad : Addr) {q : Nat} (hq : q < H.p) (w : World) (hv : IsVals w ad n H.V) :
  Calls Tryz.prog 108 #[hpV H ad n c, .int .i64 (q : Int)] w fun e w' => e = .returned (.agg #[.int .i64 (H.K q), .int .i64 (H.ln q : Int), .int .i64 (H.Cl q)]) /\ Below w.heap.size w w' := by
 obtain ⟨i, hii⟩ : ∃ i, 30 + 4 * H.t + 6 * q + 0 = i := ⟨_, rfl⟩
 have hini : i < n := by have := HV.len; omega
 have HI : Hid (pageI H.t H.p H.s q 0 = (i : Int)) := hidp (by have h := HV.page (b := 0) hq (by omega); rw [hii] at h; exact h)
 have h32i := HV.cel_lt hq (show 0 < 6 by omega)
 have hceli : H.cel q 0 = H.V i := by unfold AuH.cel; rw [hii]
 obtain ⟨v, hvvv⟩ : ∃ v, H.cel q 0 = v := ⟨_, rfl⟩
 have HCv := hidp hvvv
 rw [hvvv] at h32i
 have hci := (hv).2 i hini
 rw [<- hceli, hvvv] at hci
 have hbli : (ad.add i).block < w.heap.size := by rw [block_of_add]; exact (hv).1
 have hn := HV.nums
 have hcx : c <= 9223372036854775807 := hn.2.2.2.2.2.2.2.2
 have hni : n <= 6238 := hn.2.2.2.2.2.2.1
 have hnc := HV.cap
 have hie := H.info_eq q
 rw [H.L_ln, hvvv] at hie
 generalize H.K q = k at *
 generalize H.ln q = m at *
 generalize H.Cl q = cl at *
 generalize H.ok q = okb at *
 have HG := hidp hie
 have hc := (Held.new w 106 #[.int .i64 (H.t : Int), .int .i64 (H.p : Int), .int .i64 (H.s : Int), .slice (some ad) n c]).alloc (.cells #[.int .i64 0, .int .i64 0, .int .i64 0] 68)
 have HR := hidp (Held.new2 w (.cells #[.int .i64 (H.t : Int), .int .i64 (H.p : Int), .int .i64 (H.s : Int), .slice (some ad) n c] 106) 68 #[.int .i64 0, .int .i64 0, .int .i64 0])
 have HBW := hidp (Bnew (Bnew (B0 w) (.cells #[.int .i64 (H.t : Int), .int .i64 (H.p : Int), .int .i64 (H.s : Int), .slice (some ad) n c] 106)) (.cells #[.int .i64 0, .int .i64 0, .int .i64 0] 68))
 have HS : Hid (∀ w', Below ((w.alloc (.cells #[.int .i64 (H.t : Int), .int .i64 (H.p : Int), .int .i64 (H.s : Int), .slice (some ad) n c] 106)).alloc (.cells #[.int .i64 0, .int .i64 0, .int .i64 0] 68)).heap.size ((w.alloc (.cells #[.int .i64 (H.t : Int), .int .i64 (H.p : Int), .int .i64 (H.s : Int), .slice (some ad) n c] 106)).alloc (.cells #[.int .i64 0, .int .i64 0, .int .i64 0] 68)) w' -> (fun w' => w'.cell? ⟨w.heap.size, 0, none⟩ = some (.int .i64 (H.t : Int)) /\ w'.cell? ⟨w.heap.size, 1, none⟩ = some (.int .i64 (H.p : Int)) /\ w'.cell? ⟨w.heap.size, 2, none⟩ = some (.int .i64 (H.s : Int)) /\ w'.cell? ⟨w.heap.size, 3, none⟩ = some (.slice (some ad) n c) /\ w'.cell? (ad.add i) = some (.int .u32 (v : Int))) w') := hidp (fun w' hb => by have hh := hc.keep hb; exact ⟨hh.four.1, hh.four.2.1, hh.four.2.2.1, hh.four.2.2.2, ((Bgo HBW.out hb).cell hbli).trans hci⟩)
 clear hv hci hbli hceli hvvv hii hn hq HCv hie hc
 unfold hpV
 go_enter Tryz.func108, Tryz.ntmps108
 go_upto_region 1 with fail
 go_cut [5, 6] from 7 to 18 (fun u5 u6 wx => ∃ g : Nat, u5 = .pointer (some ⟨g, 0, none⟩) /\ Held wx g 68 #[(.int .i64 k), (.int .i64 (m : Int)), (.int .i64 cl)] /\ Below ((w.alloc (.cells #[.int .i64 (H.t : Int), .int .i64 (H.p : Int), .int .i64 (H.s : Int), .slice (some ad) n c] 106)).alloc (.cells #[.int .i64 0, .int .i64 0, .int .i64 0] 68)).heap.size ((w.alloc (.cells #[.int .i64 (H.t : Int), .int .i64 (H.p : Int), .int .i64 (H.s : Int), .slice (some ad) n c] 106)).alloc (.cells #[.int .i64 0, .int .i64 0, .int .i64 0] 68)) wx /\ ((w.alloc (.cells #[.int .i64 (H.t : Int), .int .i64 (H.p : Int), .int .i64 (H.s : Int), .slice (some ad) n c] 106)).alloc (.cells #[.int .i64 0, .int .i64 0, .int .i64 0] 68)).heap.size <= g)
 case first =>
  have HB := hidp (Bdrew (B0 (((w.alloc (.cells #[.int .i64 (H.t : Int), .int .i64 (H.p : Int), .int .i64 (H.s : Int), .slice (some ad) n c] 106)).alloc (.cells #[.int .i64 0, .int .i64 0, .int .i64 0] 68)))))
  refine wp_region_held_drew (S := (fun w' => w'.cell? ⟨w.heap.size, 0, none⟩ = some (.int .i64 (H.t : Int)) /\ w'.cell? ⟨w.heap.size, 1, none⟩ = some (.int .i64 (H.p : Int)) /\ w'.cell? ⟨w.heap.size, 2, none⟩ = some (.int .i64 (H.s : Int)) /\ w'.cell? ⟨w.heap.size, 3, none⟩ = some (.slice (some ad) n c) /\ w'.cell? (ad.add i) = some (.int .u32 (v : Int)))) (by kernel_rfl) ?_ (fun hHeld => ?_)
  ·(try dsimp only)
   exact HS.out _ HB.out
  generalize hq0 : (((w.alloc (.cells #[.int .i64 (H.t : Int), .int .i64 (H.p : Int), .int .i64 (H.s : Int), .slice (some ad) n c] 106)).alloc (.cells #[.int .i64 0, .int .i64 0, .int .i64 0] 68))).drew = q0 at HB hHeld ⊢
  clear hq0
  refine tkz 0 ?_
  refine tkz 1 ?_
  refine tkz 2 ?_
  refine tkz 3 ?_
  refine tkz 4 ?_
  refine wpAnyH_ready (rs := [5, 12]) (by kernel_rfl) (by simp) ?_
  refine AllReadyH.cons (o := _) rfl (fun K hK => ?_) (AllReadyH.cons (o := _) rfl (fun K hK => ?_) AllReadyH.nil)
  ·skip
   go_simp
   (go_at_call 93; refine (r7Info_c _ _ _ _ _).mono ?_; rintro e q1 ⟨rfl, hb1⟩; rw [HI.out]; have HB := hidp (Bgo HB.out hb1); skip; clear hb1)
   refine hK.out _ _ ?_ (fun hHeld => ?_)
   ·(try dsimp only)
    exact HS.out _ HB.out
   clear hK K
   (try simp only [Act.put, gA, gB, gC, sA, sB, sC])
   refine tkz 6 ?_
   refine tkz 7 ?_
   refine wpAnyH_ready (rs := [8, 12]) (by kernel_rfl) (by simp) ?_
   refine AllReadyH.cons (o := _) rfl (fun K hK => ?_) (AllReadyH.cons (o := _) rfl (fun K hK => ?_) AllReadyH.nil)
   ·skip
    go_simp
    (go_at_call 92; refine (r9Get_c _ _ _ _ _ h32i HG.out _).mono ?_; rintro e q2 ⟨rfl, hb1⟩; have HB := hidp (Bgo HB.out hb1); skip; clear hb1)
    refine hK.out _ _ ?_ (fun hHeld => ?_)
    ·(try dsimp only)
     exact HS.out _ HB.out
    clear hK K
    (try simp only [Act.put, gA, gB, gC, sA, sB, sC])
    refine tkz 9 ?_
    refine tkz 10 ?_
    refine tkz 11 ?_
    refine rdz 12 fun K hK => ?_
    ·skip
     go_simp
     have HLE := hidp HB.out.size
     have HB := hidp (Bnew HB.out (.cells #[.int .i64 0, .int .i64 0, .int .i64 0] 68))
     have HN := hidp (Held.new q2 68 #[.int .i64 0, .int .i64 0, .int .i64 0])
     try simp only [World.heap_drew] at HLE HN
     generalize hq3 : q2.alloc (.cells #[.int .i64 0, .int .i64 0, .int .i64 0] 68) = q3 at HB HN ⊢
     clear hq3
     refine hK.out _ _ ?_ (fun hHeld => ?_)
     ·(try dsimp only)
      exact HS.out _ HB.out
     clear hK K
     (try simp only [Act.put, gA, gB, gC, sA, sB, sC])
     refine rdz 13 fun K hK => ?_
     obtain ⟨z0, z1, z2⟩ := HN.out.three
     have f0 := HN.out.thawed 0
     have f1 := HN.out.thawed 1
     have f2 := HN.out.thawed 2
     go_simp
     have HN := hidp (HN.out.put 0 (.int .i64 k))
     have HN := hidp (HN.out.put 1 (.int .i64 (m : Int)))
     have HN := hidp (HN.out.put 2 (.int .i64 cl))
     have HB := hidp (Bput (p := ⟨_, 2, none⟩) (Bput (p := ⟨_, 1, none⟩) (Bput (p := ⟨_, 0, none⟩) HB.out HLE.out (.int .i64 k)) HLE.out (.int .i64 (m : Int))) HLE.out (.int .i64 cl))
     clear z0 z1 z2 f0 f1 f2
     refine hK.out _ _ ?_ (fun hHeld => ?_)
     ·(try dsimp only)
      exact HS.out _ HB.out
     clear hK K
     (try simp only [Act.put, gA, gB, gC, sA, sB, sC])
     refine tkz 14 ?_
     refine dnz ?_
     go_wp2_with fail
     go_meet
     case rel => exact ⟨_, rfl, HN.out, HB.out, HLE.out⟩
   ·skip
    go_simp
    have HLE := hidp HB.out.size
    have HB := hidp (Bnew HB.out (.cells #[.int .i64 0, .int .i64 0, .int .i64 0] 68))
    have HN := hidp (Held.new q1 68 #[.int .i64 0, .int .i64 0, .int .i64 0])
    try simp only [World.heap_drew] at HLE HN
    generalize hq4 : q1.alloc (.cells #[.int .i64 0, .int .i64 0, .int .i64 0] 68) = q4 at HB HN ⊢
    clear hq4
    refine hK.out _ _ ?_ (fun hHeld => ?_)
    ·(try dsimp only)
     exact HS.out _ HB.out
    clear hK K
    (try simp only [Act.put, gA, gB, gC, sA, sB, sC])
    refine rdz 8 fun K hK => ?_
    ·skip
     go_simp
     (go_at_call 92; refine (r9Get_c _ _ _ _ _ h32i HG.out _).mono ?_; rintro e q5 ⟨rfl, hb1⟩; have HB := hidp (Bgo HB.out hb1); have HN := hidp (HN.out.keep hb1); clear hb1)
     refine hK.out _ _ ?_ (fun hHeld => ?_)
     ·(try dsimp only)
      exact HS.out _ HB.out
     clear hK K
     (try simp only [Act.put, gA, gB, gC, sA, sB, sC])
     refine tkz 9 ?_
     refine tkz 10 ?_
     refine tkz 11 ?_
     refine rdz 13 fun K hK => ?_
     obtain ⟨z0, z1, z2⟩ := HN.out.three
     have f0 := HN.out.thawed 0
     have f1 := HN.out.thawed 1
     have f2 := HN.out.thawed 2
     go_simp
     have HN := hidp (HN.out.put 0 (.int .i64 k))
     have HN := hidp (HN.out.put 1 (.int .i64 (m : Int)))
     have HN := hidp (HN.out.put 2 (.int .i64 cl))
     have HB := hidp (Bput (p := ⟨_, 2, none⟩) (Bput (p := ⟨_, 1, none⟩) (Bput (p := ⟨_, 0, none⟩) HB.out HLE.out (.int .i64 k)) HLE.out (.int .i64 (m : Int))) HLE.out (.int .i64 cl))
     clear z0 z1 z2 f0 f1 f2
     refine hK.out _ _ ?_ (fun hHeld => ?_)
     ·(try dsimp only)
      exact HS.out _ HB.out
     clear hK K
     (try simp only [Act.put, gA, gB, gC, sA, sB, sC])
     refine tkz 14 ?_
     refine dnz ?_
     go_wp2_with fail
     go_meet
     case rel => exact ⟨_, rfl, HN.out, HB.out, HLE.out⟩
  ·skip
   go_simp
   have HLE := hidp HB.out.size
   have HB := hidp (Bnew HB.out (.cells #[.int .i64 0, .int .i64 0, .int .i64 0] 68))
   have HN := hidp (Held.new q0 68 #[.int .i64 0, .int .i64 0, .int .i64 0])
   try simp only [World.heap_drew] at HLE HN
   generalize hq6 : q0.alloc (.cells #[.int .i64 0, .int .i64 0, .int .i64 0] 68) = q6 at HB HN ⊢
   clear hq6
   refine hK.out _ _ ?_ (fun hHeld => ?_)
   ·(try dsimp only)
    exact HS.out _ HB.out
   clear hK K
   (try simp only [Act.put, gA, gB, gC, sA, sB, sC])
   refine rdz 5 fun K hK => ?_
   ·skip
    go_simp
    (go_at_call 93; refine (r7Info_c _ _ _ _ _).mono ?_; rintro e q7 ⟨rfl, hb1⟩; rw [HI.out]; have HB := hidp (Bgo HB.out hb1); have HN := hidp (HN.out.keep hb1); clear hb1)
    refine hK.out _ _ ?_ (fun hHeld => ?_)
    ·(try dsimp only)
     exact HS.out _ HB.out
    clear hK K
    (try simp only [Act.put, gA, gB, gC, sA, sB, sC])
    refine tkz 6 ?_
    refine tkz 7 ?_
    refine rdz 8 fun K hK => ?_
    ·skip
     go_simp
     (go_at_call 92; refine (r9Get_c _ _ _ _ _ h32i HG.out _).mono ?_; rintro e q8 ⟨rfl, hb1⟩; have HB := hidp (Bgo HB.out hb1); have HN := hidp (HN.out.keep hb1); clear hb1)
     refine hK.out _ _ ?_ (fun hHeld => ?_)
     ·(try dsimp only)
      exact HS.out _ HB.out
     clear hK K
     (try simp only [Act.put, gA, gB, gC, sA, sB, sC])
     refine tkz 9 ?_
     refine tkz 10 ?_
     refine tkz 11 ?_
     refine rdz 13 fun K hK => ?_
     obtain ⟨z0, z1, z2⟩ := HN.out.three
     have f0 := HN.out.thawed 0
     have f1 := HN.out.thawed 1
     have f2 := HN.out.thawed 2
     go_simp
     have HN := hidp (HN.out.put 0 (.int .i64 k))
     have HN := hidp (HN.out.put 1 (.int .i64 (m : Int)))
     have HN := hidp (HN.out.put 2 (.int .i64 cl))
     have HB := hidp (Bput (p := ⟨_, 2, none⟩) (Bput (p := ⟨_, 1, none⟩) (Bput (p := ⟨_, 0, none⟩) HB.out HLE.out (.int .i64 k)) HLE.out (.int .i64 (m : Int))) HLE.out (.int .i64 cl))
     clear z0 z1 z2 f0 f1 f2
     refine hK.out _ _ ?_ (fun hHeld => ?_)
     ·(try dsimp only)
      exact HS.out _ HB.out
     clear hK K
     (try simp only [Act.put, gA, gB, gC, sA, sB, sC])
     refine tkz 14 ?_
     refine dnz ?_
     go_wp2_with fail
     go_meet
     case rel => exact ⟨_, rfl, HN.out, HB.out, HLE.out⟩
 case rest =>
  obtain ⟨g, rfl, h1, h2, h3⟩ := hcut
  obtain ⟨x0, x1, x2⟩ := h1.three
  have z := HR.out.keep h2
  obtain ⟨y0, y1, y2⟩ := z.three
  obtain ⟨v0, v1, v2⟩ := (((z.put 0 (.int .i64 k)).put 1 (.int .i64 (m : Int))).put 2 (.int .i64 cl)).three
  have f0 := z.thawed 0
  have f1 := z.thawed 1
  have f2 := z.thawed 2
  go_wp2_with fail
  refine bodyPost_ret (v := .agg #[(.int .i64 k), (.int .i64 (m : Int)), (.int .i64 cl)]) (by simp [results, Tryz.results108, go_sem, v0, v1, v2]) rfl ⟨rfl, ?_⟩
  exact Bput (Bput (Bput (Bgo HBW.out h2) (by simp) _) (by simp) _) (by simp) _
end
end Go.Proofs.YtnmhdlpnimdffaaGreatDoor
