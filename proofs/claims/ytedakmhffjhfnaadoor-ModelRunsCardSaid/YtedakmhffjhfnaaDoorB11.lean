/-
  The program's automaton: which answers may be (model.Allows). Written by model/gen_prog6.py.
-/
import Derived.Test.YtedakmhffjhfnaaDoorB10
import Derived.Test.YtedakmhffjhfnaaDoorB06
import Derived.Test.YtedakmhffjhfnaaDoorB07
namespace Go.Proofs.YtedakmhffjhfnaaDoor
open Go.ChangeShapes Go.WideShapes Go.ChangeAt Go.RowKit Go.Maps
set_option linter.unusedVariables false
set_option linter.unusedSimpArgs false
set_option maxRecDepth 100000
section
section
variable {w : World} {g : Nat} {F : Nat -> Prop} {t p s : Int} {L : List (Int × Int)} {R : Nat -> Int}

set_option maxHeartbeats 3200000 in
theorem all_refa (h : IsMod w g F t p s L R) (k a b err out aux : Int) (hk : -9223372036854775808 <= k /\ k <= 9223372036854775807) (ha : -9223372036854775808 <= a /\ a <= 9223372036854775807) (hb : -9223372036854775808 <= b /\ b <= 9223372036854775807) (hT : SlotsLaid w) (r : Int) (hrf : refI t p s L R k a b = r) (hnzq0 : r ≠ 0) (hne1 : err ≠ r)  : Calls Tryd.prog 10 #[.pointer (some ⟨g, 0, none⟩), .agg #[.int .i64 k, .int .i64 a, .int .i64 b], .agg #[.int .i64 err, .int .i64 out, .int .i64 aux]] w fun e w' => e = .returned (.bool false) /\ Below w.heap.size w w' := by
 have HRF := hidp hrf
 clear hrf
 have q0 : (r != 0) = true := by simp [hnzq0]
 clear hnzq0
 have hb0 := hb
 clear hb
 have e1 : (err == r) = false := by simp [hne1]
 clear hne1
 have HB := hidp (Bnew (Bnew (B0 w) (.cells #[.int .i64 k, .int .i64 a, .int .i64 b] 29)) (.cells #[.int .i64 err, .int .i64 out, .int .i64 aux] 32))
 have HX := hidp ((Held.new w 29 #[.int .i64 k, .int .i64 a, .int .i64 b]).alloc (.cells #[.int .i64 err, .int .i64 out, .int .i64 aux] 32))
 have HY := hidp (Held.new2 w (.cells #[.int .i64 k, .int .i64 a, .int .i64 b] 29) 32 #[.int .i64 err, .int .i64 out, .int .i64 aux])
 have HM := hidp (h.stay HB.out)
 obtain ⟨m, D, hm, hG, hO, hD⟩ := h.ex
 have HD := hidp hD
 have HG := hidp (hG.keep HB.out)
 have HO := hidp (owns_turns hO (Turns.of_below HB.out (fun _ => False)) (fun x => x))
 have HSL := hidp hT
 clear h hm hG hO hD hT
 obtain ⟨x0, x1, x2⟩ := HX.out.three
 obtain ⟨y0, y1, y2⟩ := HY.out.three
 obtain ⟨m0, m1, m2, m3⟩ := mod_cells HG.out
 go_enter Tryd.func10, Tryd.ntmps10
 go_wp2_with fail
 refine (mdMade_c HG.out).mono ?_; rintro e w1 ⟨rfl, hb⟩
 clear x0 x1 x2 y0 y1 y2 m0 m1 m2 m3
 replace HX := hidp (HX.out.keep hb)
 replace HY := hidp (HY.out.keep hb)
 replace HM := hidp (HM.out.stay hb)
 replace HG := hidp (HG.out.keep hb)
 replace HO := hidp (owns_turns HO.out (Turns.of_below hb (fun _ => False)) (fun x => x))
 replace HB := hidp (Bgo HB.out hb)
 clear hb
 obtain ⟨x0, x1, x2⟩ := HX.out.three
 obtain ⟨y0, y1, y2⟩ := HY.out.three
 obtain ⟨m0, m1, m2, m3⟩ := mod_cells HG.out
 go_wp2_with fail
 refine (refusal_c HM.out k a b hk ha hb0 (HSL.out.below HB.out)).mono ?_; rintro e w1 ⟨rfl, hb⟩; rw [HRF.out]
 clear x0 x1 x2 y0 y1 y2 m0 m1 m2 m3
 replace HX := hidp (HX.out.keep hb)
 replace HY := hidp (HY.out.keep hb)
 replace HM := hidp (HM.out.stay hb)
 replace HG := hidp (HG.out.keep hb)
 replace HO := hidp (owns_turns HO.out (Turns.of_below hb (fun _ => False)) (fun x => x))
 replace HB := hidp (Bgo HB.out hb)
 clear hb
 obtain ⟨x0, x1, x2⟩ := HX.out.three
 obtain ⟨y0, y1, y2⟩ := HY.out.three
 obtain ⟨m0, m1, m2, m3⟩ := mod_cells HG.out
 go_wp2_with fail
 go_ret
 exact ⟨by first | rfl | (refine ret_bool ?_; simp; done), HB.out⟩

set_option maxHeartbeats 3200000 in
theorem all_refb (h : IsMod w g F t p s L R) (k a b err out aux : Int) (hk : -9223372036854775808 <= k /\ k <= 9223372036854775807) (ha : -9223372036854775808 <= a /\ a <= 9223372036854775807) (hb : -9223372036854775808 <= b /\ b <= 9223372036854775807) (hT : SlotsLaid w) (r : Int) (hrf : refI t p s L R k a b = r) (hnzq0 : r ≠ 0) (hne1 : err = r) (hne2 : out ≠ 0)  : Calls Tryd.prog 10 #[.pointer (some ⟨g, 0, none⟩), .agg #[.int .i64 k, .int .i64 a, .int .i64 b], .agg #[.int .i64 err, .int .i64 out, .int .i64 aux]] w fun e w' => e = .returned (.bool false) /\ Below w.heap.size w w' := by
 have HRF := hidp hrf
 clear hrf
 have q0 : (r != 0) = true := by simp [hnzq0]
 clear hnzq0
 have hb0 := hb
 clear hb
 have e1 : (err == r) = true := by simp [hne1]
 clear hne1
 have e2 : (out == 0) = false := by simp [hne2]
 clear hne2
 have HB := hidp (Bnew (Bnew (B0 w) (.cells #[.int .i64 k, .int .i64 a, .int .i64 b] 29)) (.cells #[.int .i64 err, .int .i64 out, .int .i64 aux] 32))
 have HX := hidp ((Held.new w 29 #[.int .i64 k, .int .i64 a, .int .i64 b]).alloc (.cells #[.int .i64 err, .int .i64 out, .int .i64 aux] 32))
 have HY := hidp (Held.new2 w (.cells #[.int .i64 k, .int .i64 a, .int .i64 b] 29) 32 #[.int .i64 err, .int .i64 out, .int .i64 aux])
 have HM := hidp (h.stay HB.out)
 obtain ⟨m, D, hm, hG, hO, hD⟩ := h.ex
 have HD := hidp hD
 have HG := hidp (hG.keep HB.out)
 have HO := hidp (owns_turns hO (Turns.of_below HB.out (fun _ => False)) (fun x => x))
 have HSL := hidp hT
 clear h hm hG hO hD hT
 obtain ⟨x0, x1, x2⟩ := HX.out.three
 obtain ⟨y0, y1, y2⟩ := HY.out.three
 obtain ⟨m0, m1, m2, m3⟩ := mod_cells HG.out
 go_enter Tryd.func10, Tryd.ntmps10
 go_wp2_with fail
 refine (mdMade_c HG.out).mono ?_; rintro e w1 ⟨rfl, hb⟩
 clear x0 x1 x2 y0 y1 y2 m0 m1 m2 m3
 replace HX := hidp (HX.out.keep hb)
 replace HY := hidp (HY.out.keep hb)
 replace HM := hidp (HM.out.stay hb)
 replace HG := hidp (HG.out.keep hb)
 replace HO := hidp (owns_turns HO.out (Turns.of_below hb (fun _ => False)) (fun x => x))
 replace HB := hidp (Bgo HB.out hb)
 clear hb
 obtain ⟨x0, x1, x2⟩ := HX.out.three
 obtain ⟨y0, y1, y2⟩ := HY.out.three
 obtain ⟨m0, m1, m2, m3⟩ := mod_cells HG.out
 go_wp2_with fail
 refine (refusal_c HM.out k a b hk ha hb0 (HSL.out.below HB.out)).mono ?_; rintro e w1 ⟨rfl, hb⟩; rw [HRF.out]
 clear x0 x1 x2 y0 y1 y2 m0 m1 m2 m3
 replace HX := hidp (HX.out.keep hb)
 replace HY := hidp (HY.out.keep hb)
 replace HM := hidp (HM.out.stay hb)
 replace HG := hidp (HG.out.keep hb)
 replace HO := hidp (owns_turns HO.out (Turns.of_below hb (fun _ => False)) (fun x => x))
 replace HB := hidp (Bgo HB.out hb)
 clear hb
 obtain ⟨x0, x1, x2⟩ := HX.out.three
 obtain ⟨y0, y1, y2⟩ := HY.out.three
 obtain ⟨m0, m1, m2, m3⟩ := mod_cells HG.out
 go_wp2_with fail
 go_ret
 exact ⟨by first | rfl | (refine ret_bool ?_; simp; done), HB.out⟩

set_option maxHeartbeats 3200000 in
theorem all_refc (h : IsMod w g F t p s L R) (k a b err out aux : Int) (hk : -9223372036854775808 <= k /\ k <= 9223372036854775807) (ha : -9223372036854775808 <= a /\ a <= 9223372036854775807) (hb : -9223372036854775808 <= b /\ b <= 9223372036854775807) (hT : SlotsLaid w) (r : Int) (hrf : refI t p s L R k a b = r) (hnzq0 : r ≠ 0) (hne1 : err = r) (hne2 : out = 0) (hne3 : aux ≠ 0)  : Calls Tryd.prog 10 #[.pointer (some ⟨g, 0, none⟩), .agg #[.int .i64 k, .int .i64 a, .int .i64 b], .agg #[.int .i64 err, .int .i64 out, .int .i64 aux]] w fun e w' => e = .returned (.bool false) /\ Below w.heap.size w w' := by
 have HRF := hidp hrf
 clear hrf
 have q0 : (r != 0) = true := by simp [hnzq0]
 clear hnzq0
 have hb0 := hb
 clear hb
 have e1 : (err == r) = true := by simp [hne1]
 clear hne1
 have e2 : (out == 0) = true := by simp [hne2]
 clear hne2
 have e3 : (aux == 0) = false := by simp [hne3]
 clear hne3
 have HB := hidp (Bnew (Bnew (B0 w) (.cells #[.int .i64 k, .int .i64 a, .int .i64 b] 29)) (.cells #[.int .i64 err, .int .i64 out, .int .i64 aux] 32))
 have HX := hidp ((Held.new w 29 #[.int .i64 k, .int .i64 a, .int .i64 b]).alloc (.cells #[.int .i64 err, .int .i64 out, .int .i64 aux] 32))
 have HY := hidp (Held.new2 w (.cells #[.int .i64 k, .int .i64 a, .int .i64 b] 29) 32 #[.int .i64 err, .int .i64 out, .int .i64 aux])
 have HM := hidp (h.stay HB.out)
 obtain ⟨m, D, hm, hG, hO, hD⟩ := h.ex
 have HD := hidp hD
 have HG := hidp (hG.keep HB.out)
 have HO := hidp (owns_turns hO (Turns.of_below HB.out (fun _ => False)) (fun x => x))
 have HSL := hidp hT
 clear h hm hG hO hD hT
 obtain ⟨x0, x1, x2⟩ := HX.out.three
 obtain ⟨y0, y1, y2⟩ := HY.out.three
 obtain ⟨m0, m1, m2, m3⟩ := mod_cells HG.out
 go_enter Tryd.func10, Tryd.ntmps10
 go_wp2_with fail
 refine (mdMade_c HG.out).mono ?_; rintro e w1 ⟨rfl, hb⟩
 clear x0 x1 x2 y0 y1 y2 m0 m1 m2 m3
 replace HX := hidp (HX.out.keep hb)
 replace HY := hidp (HY.out.keep hb)
 replace HM := hidp (HM.out.stay hb)
 replace HG := hidp (HG.out.keep hb)
 replace HO := hidp (owns_turns HO.out (Turns.of_below hb (fun _ => False)) (fun x => x))
 replace HB := hidp (Bgo HB.out hb)
 clear hb
 obtain ⟨x0, x1, x2⟩ := HX.out.three
 obtain ⟨y0, y1, y2⟩ := HY.out.three
 obtain ⟨m0, m1, m2, m3⟩ := mod_cells HG.out
 go_wp2_with fail
 refine (refusal_c HM.out k a b hk ha hb0 (HSL.out.below HB.out)).mono ?_; rintro e w1 ⟨rfl, hb⟩; rw [HRF.out]
 clear x0 x1 x2 y0 y1 y2 m0 m1 m2 m3
 replace HX := hidp (HX.out.keep hb)
 replace HY := hidp (HY.out.keep hb)
 replace HM := hidp (HM.out.stay hb)
 replace HG := hidp (HG.out.keep hb)
 replace HO := hidp (owns_turns HO.out (Turns.of_below hb (fun _ => False)) (fun x => x))
 replace HB := hidp (Bgo HB.out hb)
 clear hb
 obtain ⟨x0, x1, x2⟩ := HX.out.three
 obtain ⟨y0, y1, y2⟩ := HY.out.three
 obtain ⟨m0, m1, m2, m3⟩ := mod_cells HG.out
 go_wp2_with fail
 go_ret
 exact ⟨by first | rfl | (refine ret_bool ?_; simp; done), HB.out⟩

set_option maxHeartbeats 3200000 in
theorem all_refd (h : IsMod w g F t p s L R) (k a b err out aux : Int) (hk : -9223372036854775808 <= k /\ k <= 9223372036854775807) (ha : -9223372036854775808 <= a /\ a <= 9223372036854775807) (hb : -9223372036854775808 <= b /\ b <= 9223372036854775807) (hT : SlotsLaid w) (r : Int) (hrf : refI t p s L R k a b = r) (hnzq0 : r ≠ 0) (hne1 : err = r) (hne2 : out = 0) (hne3 : aux = 0)  : Calls Tryd.prog 10 #[.pointer (some ⟨g, 0, none⟩), .agg #[.int .i64 k, .int .i64 a, .int .i64 b], .agg #[.int .i64 err, .int .i64 out, .int .i64 aux]] w fun e w' => e = .returned (.bool true) /\ Below w.heap.size w w' := by
 have HRF := hidp hrf
 clear hrf
 have q0 : (r != 0) = true := by simp [hnzq0]
 clear hnzq0
 have hb0 := hb
 clear hb
 have e1 : (err == r) = true := by simp [hne1]
 clear hne1
 have e2 : (out == 0) = true := by simp [hne2]
 clear hne2
 have e3 : (aux == 0) = true := by simp [hne3]
 clear hne3
 have HB := hidp (Bnew (Bnew (B0 w) (.cells #[.int .i64 k, .int .i64 a, .int .i64 b] 29)) (.cells #[.int .i64 err, .int .i64 out, .int .i64 aux] 32))
 have HX := hidp ((Held.new w 29 #[.int .i64 k, .int .i64 a, .int .i64 b]).alloc (.cells #[.int .i64 err, .int .i64 out, .int .i64 aux] 32))
 have HY := hidp (Held.new2 w (.cells #[.int .i64 k, .int .i64 a, .int .i64 b] 29) 32 #[.int .i64 err, .int .i64 out, .int .i64 aux])
 have HM := hidp (h.stay HB.out)
 obtain ⟨m, D, hm, hG, hO, hD⟩ := h.ex
 have HD := hidp hD
 have HG := hidp (hG.keep HB.out)
 have HO := hidp (owns_turns hO (Turns.of_below HB.out (fun _ => False)) (fun x => x))
 have HSL := hidp hT
 clear h hm hG hO hD hT
 obtain ⟨x0, x1, x2⟩ := HX.out.three
 obtain ⟨y0, y1, y2⟩ := HY.out.three
 obtain ⟨m0, m1, m2, m3⟩ := mod_cells HG.out
 go_enter Tryd.func10, Tryd.ntmps10
 go_wp2_with fail
 refine (mdMade_c HG.out).mono ?_; rintro e w1 ⟨rfl, hb⟩
 clear x0 x1 x2 y0 y1 y2 m0 m1 m2 m3
 replace HX := hidp (HX.out.keep hb)
 replace HY := hidp (HY.out.keep hb)
 replace HM := hidp (HM.out.stay hb)
 replace HG := hidp (HG.out.keep hb)
 replace HO := hidp (owns_turns HO.out (Turns.of_below hb (fun _ => False)) (fun x => x))
 replace HB := hidp (Bgo HB.out hb)
 clear hb
 obtain ⟨x0, x1, x2⟩ := HX.out.three
 obtain ⟨y0, y1, y2⟩ := HY.out.three
 obtain ⟨m0, m1, m2, m3⟩ := mod_cells HG.out
 go_wp2_with fail
 refine (refusal_c HM.out k a b hk ha hb0 (HSL.out.below HB.out)).mono ?_; rintro e w1 ⟨rfl, hb⟩; rw [HRF.out]
 clear x0 x1 x2 y0 y1 y2 m0 m1 m2 m3
 replace HX := hidp (HX.out.keep hb)
 replace HY := hidp (HY.out.keep hb)
 replace HM := hidp (HM.out.stay hb)
 replace HG := hidp (HG.out.keep hb)
 replace HO := hidp (owns_turns HO.out (Turns.of_below hb (fun _ => False)) (fun x => x))
 replace HB := hidp (Bgo HB.out hb)
 clear hb
 obtain ⟨x0, x1, x2⟩ := HX.out.three
 obtain ⟨y0, y1, y2⟩ := HY.out.three
 obtain ⟨m0, m1, m2, m3⟩ := mod_cells HG.out
 go_wp2_with fail
 go_ret
 exact ⟨by first | rfl | (refine ret_bool ?_; simp; done), HB.out⟩

set_option maxHeartbeats 3200000 in
theorem all_erra (h : IsMod w g F t p s L R) (k a b err out aux : Int) (hk : -9223372036854775808 <= k /\ k <= 9223372036854775807) (ha : -9223372036854775808 <= a /\ a <= 9223372036854775807) (hb : -9223372036854775808 <= b /\ b <= 9223372036854775807) (hT : SlotsLaid w) (hrf : refI t p s L R k a b = 0) (hnzq0 : err ≠ 0) (htk : takesB k = true) (hne1 : err ≠ 3)  : Calls Tryd.prog 10 #[.pointer (some ⟨g, 0, none⟩), .agg #[.int .i64 k, .int .i64 a, .int .i64 b], .agg #[.int .i64 err, .int .i64 out, .int .i64 aux]] w fun e w' => e = .returned (.bool false) /\ Below w.heap.size w w' := by
 have HRF := hidp hrf
 have HTK := hidp htk
 clear hrf htk
 have q0 : (err != 0) = true := by simp [hnzq0]
 clear hnzq0
 have hb0 := hb
 clear hb
 have e1 : (err == 3) = false := by simp [hne1]
 clear hne1
 have HB := hidp (Bnew (Bnew (B0 w) (.cells #[.int .i64 k, .int .i64 a, .int .i64 b] 29)) (.cells #[.int .i64 err, .int .i64 out, .int .i64 aux] 32))
 have HX := hidp ((Held.new w 29 #[.int .i64 k, .int .i64 a, .int .i64 b]).alloc (.cells #[.int .i64 err, .int .i64 out, .int .i64 aux] 32))
 have HY := hidp (Held.new2 w (.cells #[.int .i64 k, .int .i64 a, .int .i64 b] 29) 32 #[.int .i64 err, .int .i64 out, .int .i64 aux])
 have HM := hidp (h.stay HB.out)
 obtain ⟨m, D, hm, hG, hO, hD⟩ := h.ex
 have HD := hidp hD
 have HG := hidp (hG.keep HB.out)
 have HO := hidp (owns_turns hO (Turns.of_below HB.out (fun _ => False)) (fun x => x))
 have HSL := hidp hT
 clear h hm hG hO hD hT
 obtain ⟨x0, x1, x2⟩ := HX.out.three
 obtain ⟨y0, y1, y2⟩ := HY.out.three
 obtain ⟨m0, m1, m2, m3⟩ := mod_cells HG.out
 go_enter Tryd.func10, Tryd.ntmps10
 go_wp2_with fail
 refine (mdMade_c HG.out).mono ?_; rintro e w1 ⟨rfl, hb⟩
 clear x0 x1 x2 y0 y1 y2 m0 m1 m2 m3
 replace HX := hidp (HX.out.keep hb)
 replace HY := hidp (HY.out.keep hb)
 replace HM := hidp (HM.out.stay hb)
 replace HG := hidp (HG.out.keep hb)
 replace HO := hidp (owns_turns HO.out (Turns.of_below hb (fun _ => False)) (fun x => x))
 replace HB := hidp (Bgo HB.out hb)
 clear hb
 obtain ⟨x0, x1, x2⟩ := HX.out.three
 obtain ⟨y0, y1, y2⟩ := HY.out.three
 obtain ⟨m0, m1, m2, m3⟩ := mod_cells HG.out
 go_wp2_with fail
 refine (refusal_c HM.out k a b hk ha hb0 (HSL.out.below HB.out)).mono ?_; rintro e w1 ⟨rfl, hb⟩; rw [HRF.out]
 clear x0 x1 x2 y0 y1 y2 m0 m1 m2 m3
 replace HX := hidp (HX.out.keep hb)
 replace HY := hidp (HY.out.keep hb)
 replace HM := hidp (HM.out.stay hb)
 replace HG := hidp (HG.out.keep hb)
 replace HO := hidp (owns_turns HO.out (Turns.of_below hb (fun _ => False)) (fun x => x))
 replace HB := hidp (Bgo HB.out hb)
 clear hb
 obtain ⟨x0, x1, x2⟩ := HX.out.three
 obtain ⟨y0, y1, y2⟩ := HY.out.three
 obtain ⟨m0, m1, m2, m3⟩ := mod_cells HG.out
 go_wp2_with fail
 refine (takes_c k a b _).mono ?_; rintro e w1 ⟨rfl, hb⟩; rw [HTK.out]
 clear x0 x1 x2 y0 y1 y2 m0 m1 m2 m3
 replace HX := hidp (HX.out.keep hb)
 replace HY := hidp (HY.out.keep hb)
 replace HM := hidp (HM.out.stay hb)
 replace HG := hidp (HG.out.keep hb)
 replace HO := hidp (owns_turns HO.out (Turns.of_below hb (fun _ => False)) (fun x => x))
 replace HB := hidp (Bgo HB.out hb)
 clear hb
 obtain ⟨x0, x1, x2⟩ := HX.out.three
 obtain ⟨y0, y1, y2⟩ := HY.out.three
 obtain ⟨m0, m1, m2, m3⟩ := mod_cells HG.out
 go_wp2_with fail
 go_ret
 exact ⟨by first | rfl | (refine ret_bool ?_; simp; done), HB.out⟩

set_option maxHeartbeats 3200000 in
theorem all_errb (h : IsMod w g F t p s L R) (k a b err out aux : Int) (hk : -9223372036854775808 <= k /\ k <= 9223372036854775807) (ha : -9223372036854775808 <= a /\ a <= 9223372036854775807) (hb : -9223372036854775808 <= b /\ b <= 9223372036854775807) (hT : SlotsLaid w) (hrf : refI t p s L R k a b = 0) (hnzq0 : err ≠ 0) (htk : takesB k = true) (hne1 : err = 3) (hne2 : out ≠ 0)  : Calls Tryd.prog 10 #[.pointer (some ⟨g, 0, none⟩), .agg #[.int .i64 k, .int .i64 a, .int .i64 b], .agg #[.int .i64 err, .int .i64 out, .int .i64 aux]] w fun e w' => e = .returned (.bool false) /\ Below w.heap.size w w' := by
 have HRF := hidp hrf
 have HTK := hidp htk
 clear hrf htk
 have q0 : (err != 0) = true := by simp [hnzq0]
 clear hnzq0
 have hb0 := hb
 clear hb
 have e1 : (err == 3) = true := by simp [hne1]
 clear hne1
 have e2 : (out == 0) = false := by simp [hne2]
 clear hne2
 have HB := hidp (Bnew (Bnew (B0 w) (.cells #[.int .i64 k, .int .i64 a, .int .i64 b] 29)) (.cells #[.int .i64 err, .int .i64 out, .int .i64 aux] 32))
 have HX := hidp ((Held.new w 29 #[.int .i64 k, .int .i64 a, .int .i64 b]).alloc (.cells #[.int .i64 err, .int .i64 out, .int .i64 aux] 32))
 have HY := hidp (Held.new2 w (.cells #[.int .i64 k, .int .i64 a, .int .i64 b] 29) 32 #[.int .i64 err, .int .i64 out, .int .i64 aux])
 have HM := hidp (h.stay HB.out)
 obtain ⟨m, D, hm, hG, hO, hD⟩ := h.ex
 have HD := hidp hD
 have HG := hidp (hG.keep HB.out)
 have HO := hidp (owns_turns hO (Turns.of_below HB.out (fun _ => False)) (fun x => x))
 have HSL := hidp hT
 clear h hm hG hO hD hT
 obtain ⟨x0, x1, x2⟩ := HX.out.three
 obtain ⟨y0, y1, y2⟩ := HY.out.three
 obtain ⟨m0, m1, m2, m3⟩ := mod_cells HG.out
 go_enter Tryd.func10, Tryd.ntmps10
 go_wp2_with fail
 refine (mdMade_c HG.out).mono ?_; rintro e w1 ⟨rfl, hb⟩
 clear x0 x1 x2 y0 y1 y2 m0 m1 m2 m3
 replace HX := hidp (HX.out.keep hb)
 replace HY := hidp (HY.out.keep hb)
 replace HM := hidp (HM.out.stay hb)
 replace HG := hidp (HG.out.keep hb)
 replace HO := hidp (owns_turns HO.out (Turns.of_below hb (fun _ => False)) (fun x => x))
 replace HB := hidp (Bgo HB.out hb)
 clear hb
 obtain ⟨x0, x1, x2⟩ := HX.out.three
 obtain ⟨y0, y1, y2⟩ := HY.out.three
 obtain ⟨m0, m1, m2, m3⟩ := mod_cells HG.out
 go_wp2_with fail
 refine (refusal_c HM.out k a b hk ha hb0 (HSL.out.below HB.out)).mono ?_; rintro e w1 ⟨rfl, hb⟩; rw [HRF.out]
 clear x0 x1 x2 y0 y1 y2 m0 m1 m2 m3
 replace HX := hidp (HX.out.keep hb)
 replace HY := hidp (HY.out.keep hb)
 replace HM := hidp (HM.out.stay hb)
 replace HG := hidp (HG.out.keep hb)
 replace HO := hidp (owns_turns HO.out (Turns.of_below hb (fun _ => False)) (fun x => x))
 replace HB := hidp (Bgo HB.out hb)
 clear hb
 obtain ⟨x0, x1, x2⟩ := HX.out.three
 obtain ⟨y0, y1, y2⟩ := HY.out.three
 obtain ⟨m0, m1, m2, m3⟩ := mod_cells HG.out
 go_wp2_with fail
 refine (takes_c k a b _).mono ?_; rintro e w1 ⟨rfl, hb⟩; rw [HTK.out]
 clear x0 x1 x2 y0 y1 y2 m0 m1 m2 m3
 replace HX := hidp (HX.out.keep hb)
 replace HY := hidp (HY.out.keep hb)
 replace HM := hidp (HM.out.stay hb)
 replace HG := hidp (HG.out.keep hb)
 replace HO := hidp (owns_turns HO.out (Turns.of_below hb (fun _ => False)) (fun x => x))
 replace HB := hidp (Bgo HB.out hb)
 clear hb
 obtain ⟨x0, x1, x2⟩ := HX.out.three
 obtain ⟨y0, y1, y2⟩ := HY.out.three
 obtain ⟨m0, m1, m2, m3⟩ := mod_cells HG.out
 go_wp2_with fail
 go_ret
 exact ⟨by first | rfl | (refine ret_bool ?_; simp; done), HB.out⟩

set_option maxHeartbeats 3200000 in
theorem all_errc (h : IsMod w g F t p s L R) (k a b err out aux : Int) (hk : -9223372036854775808 <= k /\ k <= 9223372036854775807) (ha : -9223372036854775808 <= a /\ a <= 9223372036854775807) (hb : -9223372036854775808 <= b /\ b <= 9223372036854775807) (hT : SlotsLaid w) (hrf : refI t p s L R k a b = 0) (hnzq0 : err ≠ 0) (htk : takesB k = true) (hne1 : err = 3) (hne2 : out = 0) (hne3 : aux ≠ 0)  : Calls Tryd.prog 10 #[.pointer (some ⟨g, 0, none⟩), .agg #[.int .i64 k, .int .i64 a, .int .i64 b], .agg #[.int .i64 err, .int .i64 out, .int .i64 aux]] w fun e w' => e = .returned (.bool false) /\ Below w.heap.size w w' := by
 have HRF := hidp hrf
 have HTK := hidp htk
 clear hrf htk
 have q0 : (err != 0) = true := by simp [hnzq0]
 clear hnzq0
 have hb0 := hb
 clear hb
 have e1 : (err == 3) = true := by simp [hne1]
 clear hne1
 have e2 : (out == 0) = true := by simp [hne2]
 clear hne2
 have e3 : (aux == 0) = false := by simp [hne3]
 clear hne3
 have HB := hidp (Bnew (Bnew (B0 w) (.cells #[.int .i64 k, .int .i64 a, .int .i64 b] 29)) (.cells #[.int .i64 err, .int .i64 out, .int .i64 aux] 32))
 have HX := hidp ((Held.new w 29 #[.int .i64 k, .int .i64 a, .int .i64 b]).alloc (.cells #[.int .i64 err, .int .i64 out, .int .i64 aux] 32))
 have HY := hidp (Held.new2 w (.cells #[.int .i64 k, .int .i64 a, .int .i64 b] 29) 32 #[.int .i64 err, .int .i64 out, .int .i64 aux])
 have HM := hidp (h.stay HB.out)
 obtain ⟨m, D, hm, hG, hO, hD⟩ := h.ex
 have HD := hidp hD
 have HG := hidp (hG.keep HB.out)
 have HO := hidp (owns_turns hO (Turns.of_below HB.out (fun _ => False)) (fun x => x))
 have HSL := hidp hT
 clear h hm hG hO hD hT
 obtain ⟨x0, x1, x2⟩ := HX.out.three
 obtain ⟨y0, y1, y2⟩ := HY.out.three
 obtain ⟨m0, m1, m2, m3⟩ := mod_cells HG.out
 go_enter Tryd.func10, Tryd.ntmps10
 go_wp2_with fail
 refine (mdMade_c HG.out).mono ?_; rintro e w1 ⟨rfl, hb⟩
 clear x0 x1 x2 y0 y1 y2 m0 m1 m2 m3
 replace HX := hidp (HX.out.keep hb)
 replace HY := hidp (HY.out.keep hb)
 replace HM := hidp (HM.out.stay hb)
 replace HG := hidp (HG.out.keep hb)
 replace HO := hidp (owns_turns HO.out (Turns.of_below hb (fun _ => False)) (fun x => x))
 replace HB := hidp (Bgo HB.out hb)
 clear hb
 obtain ⟨x0, x1, x2⟩ := HX.out.three
 obtain ⟨y0, y1, y2⟩ := HY.out.three
 obtain ⟨m0, m1, m2, m3⟩ := mod_cells HG.out
 go_wp2_with fail
 refine (refusal_c HM.out k a b hk ha hb0 (HSL.out.below HB.out)).mono ?_; rintro e w1 ⟨rfl, hb⟩; rw [HRF.out]
 clear x0 x1 x2 y0 y1 y2 m0 m1 m2 m3
 replace HX := hidp (HX.out.keep hb)
 replace HY := hidp (HY.out.keep hb)
 replace HM := hidp (HM.out.stay hb)
 replace HG := hidp (HG.out.keep hb)
 replace HO := hidp (owns_turns HO.out (Turns.of_below hb (fun _ => False)) (fun x => x))
 replace HB := hidp (Bgo HB.out hb)
 clear hb
 obtain ⟨x0, x1, x2⟩ := HX.out.three
 obtain ⟨y0, y1, y2⟩ := HY.out.three
 obtain ⟨m0, m1, m2, m3⟩ := mod_cells HG.out
 go_wp2_with fail
 refine (takes_c k a b _).mono ?_; rintro e w1 ⟨rfl, hb⟩; rw [HTK.out]
 clear x0 x1 x2 y0 y1 y2 m0 m1 m2 m3
 replace HX := hidp (HX.out.keep hb)
 replace HY := hidp (HY.out.keep hb)
 replace HM := hidp (HM.out.stay hb)
 replace HG := hidp (HG.out.keep hb)
 replace HO := hidp (owns_turns HO.out (Turns.of_below hb (fun _ => False)) (fun x => x))
 replace HB := hidp (Bgo HB.out hb)
 clear hb
 obtain ⟨x0, x1, x2⟩ := HX.out.three
 obtain ⟨y0, y1, y2⟩ := HY.out.three
 obtain ⟨m0, m1, m2, m3⟩ := mod_cells HG.out
 go_wp2_with fail
 go_ret
 exact ⟨by first | rfl | (refine ret_bool ?_; simp; done), HB.out⟩

set_option maxHeartbeats 3200000 in
theorem all_errd (h : IsMod w g F t p s L R) (k a b err out aux : Int) (hk : -9223372036854775808 <= k /\ k <= 9223372036854775807) (ha : -9223372036854775808 <= a /\ a <= 9223372036854775807) (hb : -9223372036854775808 <= b /\ b <= 9223372036854775807) (hT : SlotsLaid w) (hrf : refI t p s L R k a b = 0) (hnzq0 : err ≠ 0) (htk : takesB k = true) (hne1 : err = 3) (hne2 : out = 0) (hne3 : aux = 0)  : Calls Tryd.prog 10 #[.pointer (some ⟨g, 0, none⟩), .agg #[.int .i64 k, .int .i64 a, .int .i64 b], .agg #[.int .i64 err, .int .i64 out, .int .i64 aux]] w fun e w' => e = .returned (.bool true) /\ Below w.heap.size w w' := by
 have HRF := hidp hrf
 have HTK := hidp htk
 clear hrf htk
 have q0 : (err != 0) = true := by simp [hnzq0]
 clear hnzq0
 have hb0 := hb
 clear hb
 have e1 : (err == 3) = true := by simp [hne1]
 clear hne1
 have e2 : (out == 0) = true := by simp [hne2]
 clear hne2
 have e3 : (aux == 0) = true := by simp [hne3]
 clear hne3
 have HB := hidp (Bnew (Bnew (B0 w) (.cells #[.int .i64 k, .int .i64 a, .int .i64 b] 29)) (.cells #[.int .i64 err, .int .i64 out, .int .i64 aux] 32))
 have HX := hidp ((Held.new w 29 #[.int .i64 k, .int .i64 a, .int .i64 b]).alloc (.cells #[.int .i64 err, .int .i64 out, .int .i64 aux] 32))
 have HY := hidp (Held.new2 w (.cells #[.int .i64 k, .int .i64 a, .int .i64 b] 29) 32 #[.int .i64 err, .int .i64 out, .int .i64 aux])
 have HM := hidp (h.stay HB.out)
 obtain ⟨m, D, hm, hG, hO, hD⟩ := h.ex
 have HD := hidp hD
 have HG := hidp (hG.keep HB.out)
 have HO := hidp (owns_turns hO (Turns.of_below HB.out (fun _ => False)) (fun x => x))
 have HSL := hidp hT
 clear h hm hG hO hD hT
 obtain ⟨x0, x1, x2⟩ := HX.out.three
 obtain ⟨y0, y1, y2⟩ := HY.out.three
 obtain ⟨m0, m1, m2, m3⟩ := mod_cells HG.out
 go_enter Tryd.func10, Tryd.ntmps10
 go_wp2_with fail
 refine (mdMade_c HG.out).mono ?_; rintro e w1 ⟨rfl, hb⟩
 clear x0 x1 x2 y0 y1 y2 m0 m1 m2 m3
 replace HX := hidp (HX.out.keep hb)
 replace HY := hidp (HY.out.keep hb)
 replace HM := hidp (HM.out.stay hb)
 replace HG := hidp (HG.out.keep hb)
 replace HO := hidp (owns_turns HO.out (Turns.of_below hb (fun _ => False)) (fun x => x))
 replace HB := hidp (Bgo HB.out hb)
 clear hb
 obtain ⟨x0, x1, x2⟩ := HX.out.three
 obtain ⟨y0, y1, y2⟩ := HY.out.three
 obtain ⟨m0, m1, m2, m3⟩ := mod_cells HG.out
 go_wp2_with fail
 refine (refusal_c HM.out k a b hk ha hb0 (HSL.out.below HB.out)).mono ?_; rintro e w1 ⟨rfl, hb⟩; rw [HRF.out]
 clear x0 x1 x2 y0 y1 y2 m0 m1 m2 m3
 replace HX := hidp (HX.out.keep hb)
 replace HY := hidp (HY.out.keep hb)
 replace HM := hidp (HM.out.stay hb)
 replace HG := hidp (HG.out.keep hb)
 replace HO := hidp (owns_turns HO.out (Turns.of_below hb (fun _ => False)) (fun x => x))
 replace HB := hidp (Bgo HB.out hb)
 clear hb
 obtain ⟨x0, x1, x2⟩ := HX.out.three
 obtain ⟨y0, y1, y2⟩ := HY.out.three
 obtain ⟨m0, m1, m2, m3⟩ := mod_cells HG.out
 go_wp2_with fail
 refine (takes_c k a b _).mono ?_; rintro e w1 ⟨rfl, hb⟩; rw [HTK.out]
 clear x0 x1 x2 y0 y1 y2 m0 m1 m2 m3
 replace HX := hidp (HX.out.keep hb)
 replace HY := hidp (HY.out.keep hb)
 replace HM := hidp (HM.out.stay hb)
 replace HG := hidp (HG.out.keep hb)
 replace HO := hidp (owns_turns HO.out (Turns.of_below hb (fun _ => False)) (fun x => x))
 replace HB := hidp (Bgo HB.out hb)
 clear hb
 obtain ⟨x0, x1, x2⟩ := HX.out.three
 obtain ⟨y0, y1, y2⟩ := HY.out.three
 obtain ⟨m0, m1, m2, m3⟩ := mod_cells HG.out
 go_wp2_with fail
 go_ret
 exact ⟨by first | rfl | (refine ret_bool ?_; simp; done), HB.out⟩

set_option maxHeartbeats 3200000 in
theorem all_errn (h : IsMod w g F t p s L R) (k a b err out aux : Int) (hk : -9223372036854775808 <= k /\ k <= 9223372036854775807) (ha : -9223372036854775808 <= a /\ a <= 9223372036854775807) (hb : -9223372036854775808 <= b /\ b <= 9223372036854775807) (hT : SlotsLaid w) (hrf : refI t p s L R k a b = 0) (hnzq0 : err ≠ 0) (htk : takesB k = false) : Calls Tryd.prog 10 #[.pointer (some ⟨g, 0, none⟩), .agg #[.int .i64 k, .int .i64 a, .int .i64 b], .agg #[.int .i64 err, .int .i64 out, .int .i64 aux]] w fun e w' => e = .returned (.bool false) /\ Below w.heap.size w w' := by
 have HRF := hidp hrf
 have HTK := hidp htk
 clear hrf htk
 have q0 : (err != 0) = true := by simp [hnzq0]
 clear hnzq0
 have hb0 := hb
 clear hb
 have HB := hidp (Bnew (Bnew (B0 w) (.cells #[.int .i64 k, .int .i64 a, .int .i64 b] 29)) (.cells #[.int .i64 err, .int .i64 out, .int .i64 aux] 32))
 have HX := hidp ((Held.new w 29 #[.int .i64 k, .int .i64 a, .int .i64 b]).alloc (.cells #[.int .i64 err, .int .i64 out, .int .i64 aux] 32))
 have HY := hidp (Held.new2 w (.cells #[.int .i64 k, .int .i64 a, .int .i64 b] 29) 32 #[.int .i64 err, .int .i64 out, .int .i64 aux])
 have HM := hidp (h.stay HB.out)
 obtain ⟨m, D, hm, hG, hO, hD⟩ := h.ex
 have HD := hidp hD
 have HG := hidp (hG.keep HB.out)
 have HO := hidp (owns_turns hO (Turns.of_below HB.out (fun _ => False)) (fun x => x))
 have HSL := hidp hT
 clear h hm hG hO hD hT
 obtain ⟨x0, x1, x2⟩ := HX.out.three
 obtain ⟨y0, y1, y2⟩ := HY.out.three
 obtain ⟨m0, m1, m2, m3⟩ := mod_cells HG.out
 go_enter Tryd.func10, Tryd.ntmps10
 go_wp2_with fail
 refine (mdMade_c HG.out).mono ?_; rintro e w1 ⟨rfl, hb⟩
 clear x0 x1 x2 y0 y1 y2 m0 m1 m2 m3
 replace HX := hidp (HX.out.keep hb)
 replace HY := hidp (HY.out.keep hb)
 replace HM := hidp (HM.out.stay hb)
 replace HG := hidp (HG.out.keep hb)
 replace HO := hidp (owns_turns HO.out (Turns.of_below hb (fun _ => False)) (fun x => x))
 replace HB := hidp (Bgo HB.out hb)
 clear hb
 obtain ⟨x0, x1, x2⟩ := HX.out.three
 obtain ⟨y0, y1, y2⟩ := HY.out.three
 obtain ⟨m0, m1, m2, m3⟩ := mod_cells HG.out
 go_wp2_with fail
 refine (refusal_c HM.out k a b hk ha hb0 (HSL.out.below HB.out)).mono ?_; rintro e w1 ⟨rfl, hb⟩; rw [HRF.out]
 clear x0 x1 x2 y0 y1 y2 m0 m1 m2 m3
 replace HX := hidp (HX.out.keep hb)
 replace HY := hidp (HY.out.keep hb)
 replace HM := hidp (HM.out.stay hb)
 replace HG := hidp (HG.out.keep hb)
 replace HO := hidp (owns_turns HO.out (Turns.of_below hb (fun _ => False)) (fun x => x))
 replace HB := hidp (Bgo HB.out hb)
 clear hb
 obtain ⟨x0, x1, x2⟩ := HX.out.three
 obtain ⟨y0, y1, y2⟩ := HY.out.three
 obtain ⟨m0, m1, m2, m3⟩ := mod_cells HG.out
 go_wp2_with fail
 refine (takes_c k a b _).mono ?_; rintro e w1 ⟨rfl, hb⟩; rw [HTK.out]
 clear x0 x1 x2 y0 y1 y2 m0 m1 m2 m3
 replace HX := hidp (HX.out.keep hb)
 replace HY := hidp (HY.out.keep hb)
 replace HM := hidp (HM.out.stay hb)
 replace HG := hidp (HG.out.keep hb)
 replace HO := hidp (owns_turns HO.out (Turns.of_below hb (fun _ => False)) (fun x => x))
 replace HB := hidp (Bgo HB.out hb)
 clear hb
 obtain ⟨x0, x1, x2⟩ := HX.out.three
 obtain ⟨y0, y1, y2⟩ := HY.out.three
 obtain ⟨m0, m1, m2, m3⟩ := mod_cells HG.out
 go_wp2_with fail
 go_ret
 exact ⟨by first | rfl | (refine ret_bool ?_; simp; done), HB.out⟩

set_option maxHeartbeats 3200000 in
theorem all_done (h : IsMod w g F t p s L R) (k a b out aux : Int) (hk : -9223372036854775808 <= k /\ k <= 9223372036854775807) (ha : -9223372036854775808 <= a /\ a <= 9223372036854775807) (hb : -9223372036854775808 <= b /\ b <= 9223372036854775807) (hT : SlotsLaid w) (ho : opB k a b = true) (hrf : refI t p s L R k a b = 0) (c : Bool) (hc : allowM t p s L R k a b 0 out aux = c) : Calls Tryd.prog 10 #[.pointer (some ⟨g, 0, none⟩), .agg #[.int .i64 k, .int .i64 a, .int .i64 b], .agg #[.int .i64 0, .int .i64 out, .int .i64 aux]] w fun e w' => e = .returned (.bool c) /\ Below w.heap.size w w' := by
 have HRF := hidp hrf
 have HOP := hidp ho
 have HC := hidp hc
 clear hrf ho hc
 have hb0 := hb
 clear hb
 have HB := hidp (Bnew (Bnew (B0 w) (.cells #[.int .i64 k, .int .i64 a, .int .i64 b] 29)) (.cells #[.int .i64 0, .int .i64 out, .int .i64 aux] 32))
 have HX := hidp ((Held.new w 29 #[.int .i64 k, .int .i64 a, .int .i64 b]).alloc (.cells #[.int .i64 0, .int .i64 out, .int .i64 aux] 32))
 have HY := hidp (Held.new2 w (.cells #[.int .i64 k, .int .i64 a, .int .i64 b] 29) 32 #[.int .i64 0, .int .i64 out, .int .i64 aux])
 have HM := hidp (h.stay HB.out)
 obtain ⟨m, D, hm, hG, hO, hD⟩ := h.ex
 have HD := hidp hD
 have HG := hidp (hG.keep HB.out)
 have HO := hidp (owns_turns hO (Turns.of_below HB.out (fun _ => False)) (fun x => x))
 have HSL := hidp hT
 clear h hm hG hO hD hT
 obtain ⟨x0, x1, x2⟩ := HX.out.three
 obtain ⟨y0, y1, y2⟩ := HY.out.three
 obtain ⟨m0, m1, m2, m3⟩ := mod_cells HG.out
 go_enter Tryd.func10, Tryd.ntmps10
 go_wp2_with fail
 refine (mdMade_c HG.out).mono ?_; rintro e w1 ⟨rfl, hb⟩
 clear x0 x1 x2 y0 y1 y2 m0 m1 m2 m3
 replace HX := hidp (HX.out.keep hb)
 replace HY := hidp (HY.out.keep hb)
 replace HM := hidp (HM.out.stay hb)
 replace HG := hidp (HG.out.keep hb)
 replace HO := hidp (owns_turns HO.out (Turns.of_below hb (fun _ => False)) (fun x => x))
 replace HB := hidp (Bgo HB.out hb)
 clear hb
 obtain ⟨x0, x1, x2⟩ := HX.out.three
 obtain ⟨y0, y1, y2⟩ := HY.out.three
 obtain ⟨m0, m1, m2, m3⟩ := mod_cells HG.out
 go_wp2_with fail
 refine (refusal_c HM.out k a b hk ha hb0 (HSL.out.below HB.out)).mono ?_; rintro e w1 ⟨rfl, hb⟩; rw [HRF.out]
 clear x0 x1 x2 y0 y1 y2 m0 m1 m2 m3
 replace HX := hidp (HX.out.keep hb)
 replace HY := hidp (HY.out.keep hb)
 replace HM := hidp (HM.out.stay hb)
 replace HG := hidp (HG.out.keep hb)
 replace HO := hidp (owns_turns HO.out (Turns.of_below hb (fun _ => False)) (fun x => x))
 replace HB := hidp (Bgo HB.out hb)
 clear hb
 obtain ⟨x0, x1, x2⟩ := HX.out.three
 obtain ⟨y0, y1, y2⟩ := HY.out.three
 obtain ⟨m0, m1, m2, m3⟩ := mod_cells HG.out
 go_wp2_with fail
 refine (done_c HM.out k a b out aux ha hb0 (HSL.out.below HB.out) HOP.out HRF.out).mono ?_; rintro e w1 ⟨rfl, hb⟩; rw [HC.out]
 clear x0 x1 x2 y0 y1 y2 m0 m1 m2 m3
 replace HX := hidp (HX.out.keep hb)
 replace HY := hidp (HY.out.keep hb)
 replace HM := hidp (HM.out.stay hb)
 replace HG := hidp (HG.out.keep hb)
 replace HO := hidp (owns_turns HO.out (Turns.of_below hb (fun _ => False)) (fun x => x))
 replace HB := hidp (Bgo HB.out hb)
 clear hb
 obtain ⟨x0, x1, x2⟩ := HX.out.three
 obtain ⟨y0, y1, y2⟩ := HY.out.three
 obtain ⟨m0, m1, m2, m3⟩ := mod_cells HG.out
 go_wp2_with fail
 go_ret
 exact ⟨by first | rfl | (refine ret_bool ?_; simp; done), HB.out⟩

theorem just_ways (n err out aux : Int) : (err ≠ n /\ justB n err out aux = false) \/ (err = n /\ out ≠ 0 /\ justB n err out aux = false) \/ (err = n /\ out = 0 /\ aux ≠ 0 /\ justB n err out aux = false) \/ (err = n /\ out = 0 /\ aux = 0 /\ justB n err out aux = true) := by
 unfold justB
 by_cases h1 : err = n
 ·by_cases h2 : out = 0
  ·by_cases h3 : aux = 0
   ·exact .inr (.inr (.inr ⟨h1, h2, h3, decide_eq_true ⟨h1, h2, h3⟩⟩))
   ·exact .inr (.inr (.inl ⟨h1, h2, h3, decide_eq_false (by omega)⟩))
  ·exact .inr (.inl ⟨h1, h2, decide_eq_false (by omega)⟩)
 ·exact .inl ⟨h1, decide_eq_false (by omega)⟩
theorem mdAllows_c (h : IsMod w g F t p s L R) (hn : L.length <= 90000) (k a b err out aux : Int) (hk : -9223372036854775808 <= k /\ k <= 9223372036854775807) (ha : -9223372036854775808 <= a /\ a <= 9223372036854775807) (hb : -9223372036854775808 <= b /\ b <= 9223372036854775807) (hT : SlotsLaid w) : Calls Tryd.prog 10 #[.pointer (some ⟨g, 0, none⟩), .agg #[.int .i64 k, .int .i64 a, .int .i64 b], .agg #[.int .i64 err, .int .i64 out, .int .i64 aux]] w fun e w' => e = .returned (.bool (allowM t p s L R k a b err out aux)) /\ Below w.heap.size w w' := by
 have key : ∀ r : Int, refI t p s L R k a b = r -> r ≠ 0 -> allowM t p s L R k a b err out aux = justB r err out aux := by
  rintro r rfl hr
  cases ho : opB k a b with
  | true => exact allow_ref ho hr
  | false =>
   have e1 : refI t p s L R k a b = 1 := by unfold refI; rw [if_pos ho]
   rw [e1]
   unfold allowM
   rw [if_pos ho]
 by_cases hr : refI t p s L R k a b = 0
 ·have ho : opB k a b = true := by
   cases ho : opB k a b with
   | true => rfl
   | false =>
    unfold refI at hr
    rw [if_pos ho] at hr
    omega
  by_cases he : err = 0
  ·subst he
   exact all_done h k a b out aux hk ha hb hT ho hr _ rfl
  ·rw [allow_err ho hr he]
   cases htk : takesB k with
   | false => exact all_errn h k a b err out aux hk ha hb hT hr he htk
   | true =>
    rw [Bool.true_and]
    rcases just_ways 3 err out aux with ⟨h1, h2⟩ | ⟨h1, h3, h2⟩ | ⟨h1, h3, h4, h2⟩ | ⟨h1, h3, h4, h2⟩
    ·rw [h2]; exact all_erra h k a b err out aux hk ha hb hT hr he htk h1
    ·rw [h2]; exact all_errb h k a b err out aux hk ha hb hT hr he htk h1 h3
    ·rw [h2]; exact all_errc h k a b err out aux hk ha hb hT hr he htk h1 h3 h4
    ·rw [h2]; exact all_errd h k a b err out aux hk ha hb hT hr he htk h1 h3 h4
 ·rw [key _ rfl hr]
  rcases just_ways (refI t p s L R k a b) err out aux with ⟨h1, h2⟩ | ⟨h1, h3, h2⟩ | ⟨h1, h3, h4, h2⟩ | ⟨h1, h3, h4, h2⟩
  ·rw [h2]; exact all_refa h k a b err out aux hk ha hb hT _ rfl hr h1
  ·rw [h2]; exact all_refb h k a b err out aux hk ha hb hT _ rfl hr h1 h3
  ·rw [h2]; exact all_refc h k a b err out aux hk ha hb hT _ rfl hr h1 h3 h4
  ·rw [h2]; exact all_refd h k a b err out aux hk ha hb hT _ rfl hr h1 h3 h4
end
end
section
theorem mdNew_no (t p s : Int) (hr : rightB t p s = false) (w : World) : Calls Tryd.prog 16 #[.agg #[.int .i64 t, .int .i64 p, .int .i64 s]] w fun e w' => e = .returned (.pointer none) /\ Below w.heap.size w w' := by
 have HX := hidp (Held.new w 23 #[.int .i64 t, .int .i64 p, .int .i64 s])
 have HB := hidp (Bnew (B0 w) (.cells #[.int .i64 t, .int .i64 p, .int .i64 s] 23))
 have HC := hidp (check_no hr)
 clear hr
 obtain ⟨x0, x1, x2⟩ := HX.out.three
 go_enter Tryd.func16, Tryd.ntmps16
 go_wp2_with fail
 refine (cfCheck_c t p s _).mono ?_; rintro e w1 ⟨rfl, hb⟩; rw [HC.out]
 replace HB := hidp (Bgo HB.out hb)
 clear hb x0 x1 x2
 go_wp2_with fail
 go_ret
 exact ⟨rfl, HB.out⟩
theorem mdNew_yes (t p s : Int) (hr : rightB t p s = true) (w : World) : Calls Tryd.prog 16 #[.agg #[.int .i64 t, .int .i64 p, .int .i64 s]] w fun e w' => ∃ (g : Nat) (F : Nat -> Prop), e = .returned (.pointer (some ⟨g, 0, none⟩)) /\ (∀ i, F i -> w.heap.size <= i) /\ IsMod w' g F t p s [] (fun _ => 0) /\ Below w.heap.size w w' := by
 have hmm := @run_makeMap Tryd.prog
 have HX := hidp (Held.new w 23 #[.int .i64 t, .int .i64 p, .int .i64 s])
 have HB := hidp (Bnew (B0 w) (.cells #[.int .i64 t, .int .i64 p, .int .i64 s] 23))
 have HC := hidp (check_yes hr)
 have HR := hidp hr
 clear hr
 obtain ⟨x0, x1, x2⟩ := HX.out.three
 go_enter Tryd.func16, Tryd.ntmps16
 go_wp2_with fail
 refine (cfCheck_c t p s _).mono ?_; rintro e w1 ⟨rfl, hb⟩; rw [HC.out]
 replace HX := hidp (HX.out.keep hb)
 replace HB := hidp (Bgo HB.out hb)
 clear hb x0 x1 x2
 obtain ⟨x0, x1, x2⟩ := HX.out.three
 go_wp2_with fail
 have hm := (World.ownsMap_made w1 Tryd.prog 55 (unitElem (H := Unit))).alloc (.cells (mC t p s (.map (some w1.heap.size)) (fun _ => 0)) 62)
 have hX : Held ((w1.alloc (.map #[] 0)).alloc (.cells (mC t p s (.map (some w1.heap.size)) (fun _ => 0)) 62)) (w1.heap.size + 1) 62 (mC t p s (.map (some w1.heap.size)) (fun _ => 0)) := by
  have := Held.new (w1.alloc (.map #[] 0)) 62 (mC t p s (.map (some w1.heap.size)) (fun _ => 0))
  simpa using this
 have hb2 : Below w.heap.size w ((w1.alloc (.map #[] 0)).alloc (.cells (mC t p s (.map (some w1.heap.size)) (fun _ => 0)) 62)) := Bnew (Bnew HB.out _) _
 have hsz := HB.out.size
 go_ret
 refine ⟨w1.heap.size + 1, fun i => i = w1.heap.size \/ i = w1.heap.size + 1, by simp, ?_, ⟨HR.out, fun x hx => (by cases hx), List.Pairwise.nil, ?_, .inr rfl, w1.heap.size, _, .inl rfl, hX, hm, LiveIs.none⟩, hb2⟩
 ·rintro i (rfl | rfl) <;> omega
 ·rintro i (rfl | rfl)
  ·simp; omega
  ·simp
end
section
abbrev stV (A : Option Addr) (n c : Nat) (R : Nat -> Int) : Array Value := #[.slice A n c, .int .i64 (R 0), .int .i64 (R 1), .int .i64 (R 2), .int .i64 (R 3), .int .i64 (R 4), .int .i64 (R 5), .int .i64 (R 6), .int .i64 (R 7)]
theorem st_cells {w : World} {b : Nat} {T : TypeId} {A : Option Addr} {n c : Nat} {R : Nat -> Int} (h : Held w b T (stV A n c R)) : w.cell? ⟨b, 0, none⟩ = some (.slice A n c) /\ w.cell? ⟨b, 1, none⟩ = some (.int .i64 (R 0)) /\ w.cell? ⟨b, 2, none⟩ = some (.int .i64 (R 1)) /\ w.cell? ⟨b, 3, none⟩ = some (.int .i64 (R 2)) /\ w.cell? ⟨b, 4, none⟩ = some (.int .i64 (R 3)) /\ w.cell? ⟨b, 5, none⟩ = some (.int .i64 (R 4)) /\ w.cell? ⟨b, 6, none⟩ = some (.int .i64 (R 5)) /\ w.cell? ⟨b, 7, none⟩ = some (.int .i64 (R 6)) /\ w.cell? ⟨b, 8, none⟩ = some (.int .i64 (R 7)) :=
 ⟨h.cell 0, h.cell 1, h.cell 2, h.cell 3, h.cell 4, h.cell 5, h.cell 6, h.cell 7, h.cell 8⟩
end
section
def setS9 (w : World) (b : Nat) (A : Option Addr) (n c : Nat) (R : Nat -> Int) : World := (((((((((w.setCell ⟨b, 0, none⟩ (.slice A n c)).setCell ⟨b, 1, none⟩ (.int .i64 (R 0))).setCell ⟨b, 2, none⟩ (.int .i64 (R 1))).setCell ⟨b, 3, none⟩ (.int .i64 (R 2))).setCell ⟨b, 4, none⟩ (.int .i64 (R 3))).setCell ⟨b, 5, none⟩ (.int .i64 (R 4))).setCell ⟨b, 6, none⟩ (.int .i64 (R 5))).setCell ⟨b, 7, none⟩ (.int .i64 (R 6))).setCell ⟨b, 8, none⟩ (.int .i64 (R 7)))
theorem st_put {w : World} {b : Nat} {T : TypeId} {A : Option Addr} {n c : Nat} {R : Nat -> Int} (h : Held w b T #[.slice none 0 0, .int .i64 0, .int .i64 0, .int .i64 0, .int .i64 0, .int .i64 0, .int .i64 0, .int .i64 0, .int .i64 0]) : Held (setS9 w b A n c R) b T (stV A n c R) := by
 have h0 : Held (w.setCell ⟨b, 0, none⟩ (.slice A n c)) b T #[.slice A n c, .int .i64 0, .int .i64 0, .int .i64 0, .int .i64 0, .int .i64 0, .int .i64 0, .int .i64 0, .int .i64 0] := h.put 0 (.slice A n c)
 have h1 : Held ((w.setCell ⟨b, 0, none⟩ (.slice A n c)).setCell ⟨b, 1, none⟩ (.int .i64 (R 0))) b T #[.slice A n c, .int .i64 (R 0), .int .i64 0, .int .i64 0, .int .i64 0, .int .i64 0, .int .i64 0, .int .i64 0, .int .i64 0] := h0.put 1 (.int .i64 (R 0))
 have h2 : Held (((w.setCell ⟨b, 0, none⟩ (.slice A n c)).setCell ⟨b, 1, none⟩ (.int .i64 (R 0))).setCell ⟨b, 2, none⟩ (.int .i64 (R 1))) b T #[.slice A n c, .int .i64 (R 0), .int .i64 (R 1), .int .i64 0, .int .i64 0, .int .i64 0, .int .i64 0, .int .i64 0, .int .i64 0] := h1.put 2 (.int .i64 (R 1))
 have h3 : Held ((((w.setCell ⟨b, 0, none⟩ (.slice A n c)).setCell ⟨b, 1, none⟩ (.int .i64 (R 0))).setCell ⟨b, 2, none⟩ (.int .i64 (R 1))).setCell ⟨b, 3, none⟩ (.int .i64 (R 2))) b T #[.slice A n c, .int .i64 (R 0), .int .i64 (R 1), .int .i64 (R 2), .int .i64 0, .int .i64 0, .int .i64 0, .int .i64 0, .int .i64 0] := h2.put 3 (.int .i64 (R 2))
 have h4 : Held (((((w.setCell ⟨b, 0, none⟩ (.slice A n c)).setCell ⟨b, 1, none⟩ (.int .i64 (R 0))).setCell ⟨b, 2, none⟩ (.int .i64 (R 1))).setCell ⟨b, 3, none⟩ (.int .i64 (R 2))).setCell ⟨b, 4, none⟩ (.int .i64 (R 3))) b T #[.slice A n c, .int .i64 (R 0), .int .i64 (R 1), .int .i64 (R 2), .int .i64 (R 3), .int .i64 0, .int .i64 0, .int .i64 0, .int .i64 0] := h3.put 4 (.int .i64 (R 3))
 have h5 : Held ((((((w.setCell ⟨b, 0, none⟩ (.slice A n c)).setCell ⟨b, 1, none⟩ (.int .i64 (R 0))).setCell ⟨b, 2, none⟩ (.int .i64 (R 1))).setCell ⟨b, 3, none⟩ (.int .i64 (R 2))).setCell ⟨b, 4, none⟩ (.int .i64 (R 3))).setCell ⟨b, 5, none⟩ (.int .i64 (R 4))) b T #[.slice A n c, .int .i64 (R 0), .int .i64 (R 1), .int .i64 (R 2), .int .i64 (R 3), .int .i64 (R 4), .int .i64 0, .int .i64 0, .int .i64 0] := h4.put 5 (.int .i64 (R 4))
 have h6 : Held (((((((w.setCell ⟨b, 0, none⟩ (.slice A n c)).setCell ⟨b, 1, none⟩ (.int .i64 (R 0))).setCell ⟨b, 2, none⟩ (.int .i64 (R 1))).setCell ⟨b, 3, none⟩ (.int .i64 (R 2))).setCell ⟨b, 4, none⟩ (.int .i64 (R 3))).setCell ⟨b, 5, none⟩ (.int .i64 (R 4))).setCell ⟨b, 6, none⟩ (.int .i64 (R 5))) b T #[.slice A n c, .int .i64 (R 0), .int .i64 (R 1), .int .i64 (R 2), .int .i64 (R 3), .int .i64 (R 4), .int .i64 (R 5), .int .i64 0, .int .i64 0] := h5.put 6 (.int .i64 (R 5))
 have h7 : Held ((((((((w.setCell ⟨b, 0, none⟩ (.slice A n c)).setCell ⟨b, 1, none⟩ (.int .i64 (R 0))).setCell ⟨b, 2, none⟩ (.int .i64 (R 1))).setCell ⟨b, 3, none⟩ (.int .i64 (R 2))).setCell ⟨b, 4, none⟩ (.int .i64 (R 3))).setCell ⟨b, 5, none⟩ (.int .i64 (R 4))).setCell ⟨b, 6, none⟩ (.int .i64 (R 5))).setCell ⟨b, 7, none⟩ (.int .i64 (R 6))) b T #[.slice A n c, .int .i64 (R 0), .int .i64 (R 1), .int .i64 (R 2), .int .i64 (R 3), .int .i64 (R 4), .int .i64 (R 5), .int .i64 (R 6), .int .i64 0] := h6.put 7 (.int .i64 (R 6))
 have h8 : Held (((((((((w.setCell ⟨b, 0, none⟩ (.slice A n c)).setCell ⟨b, 1, none⟩ (.int .i64 (R 0))).setCell ⟨b, 2, none⟩ (.int .i64 (R 1))).setCell ⟨b, 3, none⟩ (.int .i64 (R 2))).setCell ⟨b, 4, none⟩ (.int .i64 (R 3))).setCell ⟨b, 5, none⟩ (.int .i64 (R 4))).setCell ⟨b, 6, none⟩ (.int .i64 (R 5))).setCell ⟨b, 7, none⟩ (.int .i64 (R 6))).setCell ⟨b, 8, none⟩ (.int .i64 (R 7))) b T #[.slice A n c, .int .i64 (R 0), .int .i64 (R 1), .int .i64 (R 2), .int .i64 (R 3), .int .i64 (R 4), .int .i64 (R 5), .int .i64 (R 6), .int .i64 (R 7)] := h7.put 8 (.int .i64 (R 7))
 exact h8
theorem setS9_below {w w0 : World} {b : Nat} {A : Option Addr} {n c : Nat} {R : Nat -> Int} (h : Below w0.heap.size w0 w) (hb : w0.heap.size <= b) : Below w0.heap.size w0 (setS9 w b A n c R) := by
 have b0 := h.setCell (p := ⟨b, 0, none⟩) hb (.slice A n c)
 have b1 := b0.setCell (p := ⟨b, 1, none⟩) hb (.int .i64 (R 0))
 have b2 := b1.setCell (p := ⟨b, 2, none⟩) hb (.int .i64 (R 1))
 have b3 := b2.setCell (p := ⟨b, 3, none⟩) hb (.int .i64 (R 2))
 have b4 := b3.setCell (p := ⟨b, 4, none⟩) hb (.int .i64 (R 3))
 have b5 := b4.setCell (p := ⟨b, 5, none⟩) hb (.int .i64 (R 4))
 have b6 := b5.setCell (p := ⟨b, 6, none⟩) hb (.int .i64 (R 5))
 have b7 := b6.setCell (p := ⟨b, 7, none⟩) hb (.int .i64 (R 6))
 have b8 := b7.setCell (p := ⟨b, 8, none⟩) hb (.int .i64 (R 7))
 exact b8
theorem setS9_turns {w : World} {b : Nat} {A : Option Addr} {n c : Nat} {R : Nat -> Int} : Turns (fun i => i = b) w (setS9 w b A n c R) := by
 have h := T0 (fun i => i = b) w
 have b0 := h.put (p := ⟨b, 0, none⟩) rfl (.slice A n c)
 have b1 := b0.put (p := ⟨b, 1, none⟩) rfl (.int .i64 (R 0))
 have b2 := b1.put (p := ⟨b, 2, none⟩) rfl (.int .i64 (R 1))
 have b3 := b2.put (p := ⟨b, 3, none⟩) rfl (.int .i64 (R 2))
 have b4 := b3.put (p := ⟨b, 4, none⟩) rfl (.int .i64 (R 3))
 have b5 := b4.put (p := ⟨b, 5, none⟩) rfl (.int .i64 (R 4))
 have b6 := b5.put (p := ⟨b, 6, none⟩) rfl (.int .i64 (R 5))
 have b7 := b6.put (p := ⟨b, 7, none⟩) rfl (.int .i64 (R 6))
 have b8 := b7.put (p := ⟨b, 8, none⟩) rfl (.int .i64 (R 7))
 exact b8
theorem own_slice26 {w : World} {base n sz : Nat} {e : TypeId} {v : Value} {xs : List Value} (h : w.ownsRow base e sz v n xs) : ∃ A c, v = .slice A n c := by
 rcases h.2 with ⟨e1, e2⟩ | ⟨g', cap, cur, e1, _⟩
 ·exact ⟨none, 0, by rw [e1, e2]⟩
 ·exact ⟨_, _, e1⟩
set_option maxHeartbeats 3200000 in
theorem mdState_c {w : World} {g : Nat} {F : Nat -> Prop} {t p s : Int} {L : List (Int × Int)} {R : Nat -> Int} (h : IsMod w g F t p s L R) (hn : L.length <= 90000) :
  Calls Tryd.prog 12 #[.pointer (some ⟨g, 0, none⟩)] w fun e w' => ∃ (A : Option Addr) (c : Nat), e = .returned (.agg #[.slice A L.length c, .int .i64 (R 0), .int .i64 (R 1), .int .i64 (R 2), .int .i64 (R 3), .int .i64 (R 4), .int .i64 (R 5), .int .i64 (R 6), .int .i64 (R 7)]) /\ w'.ownsRow w.heap.size 55 2 (.slice A L.length c) L.length (bkVs L) /\ Below w.heap.size w w' := by
 have HR := hidp (Held.new w 27 #[.slice none 0 0, .int .i64 0, .int .i64 0, .int .i64 0, .int .i64 0, .int .i64 0, .int .i64 0, .int .i64 0, .int .i64 0])
 have HB := hidp (Bnew (B0 w) (.cells #[.slice none 0 0, .int .i64 0, .int .i64 0, .int .i64 0, .int .i64 0, .int .i64 0, .int .i64 0, .int .i64 0, .int .i64 0] 27))
 have HM := hidp (h.stay HB.out)
 have HN := hidp hn
 have HGL := hidp (h.lt g h.fg)
 obtain ⟨m, D, hm, hG, hO, hD⟩ := h.ex
 have HD := hidp hD
 have HG := hidp (hG.keep HB.out)
 have HO := hidp (owns_turns hO (Turns.of_below HB.out (fun _ => False)) (fun x => x))
 clear h hn hG hO hD hm
 go_enter Tryd.func12, Tryd.ntmps12
 go_wp2_with fail
 refine (mdMade_c HG.out).mono ?_; rintro e w1 ⟨rfl, hb⟩
 replace HM := hidp (HM.out.stay hb)
 replace HG := hidp (HG.out.keep hb)
 replace HR := hidp (HR.out.keep hb)
 replace HO := hidp (owns_turns HO.out (Turns.of_below hb (fun _ => False)) (fun x => x))
 replace HB := hidp (Bgo HB.out hb)
 clear hb
 have HR2 : Hid (w.heap.size + 1 <= w1.heap.size) := hidp HR.out.lt
 go_wp2_with fail
 replace HM := hidp (HM.out.stay (Bdrew (B0 _)))
 replace HG := hidp (HG.out.keep (Bdrew (B0 _)))
 replace HR := hidp (HR.out.keep (Bdrew (B0 _)))
 replace HO := hidp (owns_turns HO.out (Turns.of_below (Bdrew (B0 _)) (fun _ => False)) (fun x => x))
 replace HB := hidp (Bgo HB.out (Bdrew (B0 _)))
 refine wp_region_held_drew (S := (fun w' => (w'.cell? ⟨g, 3, none⟩ = some (.map (some m))) /\ (w'.cell? ⟨g, 4, none⟩ = some (.int .i64 (R 0)) /\ w'.cell? ⟨g, 5, none⟩ = some (.int .i64 (R 1)) /\ w'.cell? ⟨g, 6, none⟩ = some (.int .i64 (R 2)) /\ w'.cell? ⟨g, 7, none⟩ = some (.int .i64 (R 3)) /\ w'.cell? ⟨g, 8, none⟩ = some (.int .i64 (R 4)) /\ w'.cell? ⟨g, 9, none⟩ = some (.int .i64 (R 5)) /\ w'.cell? ⟨g, 10, none⟩ = some (.int .i64 (R 6)) /\ w'.cell? ⟨g, 11, none⟩ = some (.int .i64 (R 7))))) (by kernel_rfl) ?_ (fun hHeld => ?_)
 ·(try dsimp only)
  first | exact ⟨HG.out.cell 3, HG.out.cell 4, HG.out.cell 5, HG.out.cell 6, HG.out.cell 7, HG.out.cell 8, HG.out.cell 9, HG.out.cell 10, HG.out.cell 11⟩ | exact hHeld
 refine tkz 0 ?_
 refine tkz 1 ?_
 refine tkz 2 ?_
 refine tkz 3 ?_
 refine tkz 6 ?_
 refine tkz 7 ?_
 refine tkz 8 ?_
 refine tkz 9 ?_
 refine rdz 4 fun K hK => ?_
 go_simp
 (refine (keys_c m _).mono ?_; rintro e w2 ⟨rfl, hw2⟩; have hbx : Held w2 w1.heap.size 60 #[.map (some m)] := (by rw [hw2]; exact Held.new w1.drew _ _); have hb2 : Below w1.drew.heap.size w1.drew w2 := (by rw [hw2]; exact Bnew (B0 _) (.cells #[.map (some m)] 60)); clear hw2; replace HM := hidp (HM.out.stay hb2); replace HG := hidp (HG.out.keep hb2); replace HR := hidp (HR.out.keep hb2); replace HO := hidp (owns_turns HO.out (Turns.of_below hb2 (fun _ => False)) (fun x => x)); replace HB := hidp (Bgo HB.out hb2); have HKA : Hid (KeysAt m w1.heap.size L.length D w2.heap[m]? w2) := hidp ⟨hbx.lt, hbx.cell 0, HO.out, rfl⟩; clear hbx hb2)
 refine hK.out _ _ ?_ (fun hHeld => ?_)
 ·(try dsimp only)
  first | exact ⟨HG.out.cell 3, HG.out.cell 4, HG.out.cell 5, HG.out.cell 6, HG.out.cell 7, HG.out.cell 8, HG.out.cell 9, HG.out.cell 10, HG.out.cell 11⟩ | exact hHeld
 clear hK K
 (try simp only [Act.put, gA, gB, gC, sA, sB, sC])
 refine rdz 5 fun K hK => ?_
 go_simp
 (refine (sortedFunc_c _ (keys_seq m w1.heap.size L.length D w2.heap[m]? L HD.out HM.out.nodup) (enters_of Tryd.func68 (by kernel_rfl) rfl) (by have := HN.out; omega) (fun xs hx => Nat.le_of_eq hx.length_eq) (fun A1 hb => HKA.out.keep hb) (fun A1 B1 h1 h2 => h1.keep h2)).mono ?_; rintro e w3 ⟨v, xs, ys, rfl, hpx, hp, hs, ho, hb3⟩; obtain rfl : L = ys := sort_one (hpx.symm.trans hp.symm) (chain_iff.2 ⟨HM.out.asc, HM.out.ins⟩) hs; obtain ⟨A, c, rfl⟩ : ∃ A c, v = .slice A L.length c := own_slice26 ho; have HW := hidp ho; have HSZ : Hid (w.heap.size + 1 <= w2.heap.size) := hidp HR.out.lt; replace HM := hidp (HM.out.stay hb3); replace HG := hidp (HG.out.keep hb3); replace HR := hidp (HR.out.keep hb3); replace HO := hidp (owns_turns HO.out (Turns.of_below hb3 (fun _ => False)) (fun x => x)); replace HB := hidp (Bgo HB.out hb3); clear hpx hp hs ho hb3; have r0 : w3.cell? ⟨w.heap.size, 0, none⟩ = some (.slice none 0 0) := HR.out.cell 0; have fr0 := HR.out.thawed 0; have r1 : w3.cell? ⟨w.heap.size, 1, none⟩ = some (.int .i64 0) := HR.out.cell 1; have fr1 := HR.out.thawed 1; have r2 : w3.cell? ⟨w.heap.size, 2, none⟩ = some (.int .i64 0) := HR.out.cell 2; have fr2 := HR.out.thawed 2; have r3 : w3.cell? ⟨w.heap.size, 3, none⟩ = some (.int .i64 0) := HR.out.cell 3; have fr3 := HR.out.thawed 3; have r4 : w3.cell? ⟨w.heap.size, 4, none⟩ = some (.int .i64 0) := HR.out.cell 4; have fr4 := HR.out.thawed 4; have r5 : w3.cell? ⟨w.heap.size, 5, none⟩ = some (.int .i64 0) := HR.out.cell 5; have fr5 := HR.out.thawed 5; have r6 : w3.cell? ⟨w.heap.size, 6, none⟩ = some (.int .i64 0) := HR.out.cell 6; have fr6 := HR.out.thawed 6; have r7 : w3.cell? ⟨w.heap.size, 7, none⟩ = some (.int .i64 0) := HR.out.cell 7; have fr7 := HR.out.thawed 7; have r8 : w3.cell? ⟨w.heap.size, 8, none⟩ = some (.int .i64 0) := HR.out.cell 8; have fr8 := HR.out.thawed 8)
 refine hK.out _ _ ?_ (fun hHeld => ?_)
 ·(try dsimp only)
  first | exact ⟨HG.out.cell 3, HG.out.cell 4, HG.out.cell 5, HG.out.cell 6, HG.out.cell 7, HG.out.cell 8, HG.out.cell 9, HG.out.cell 10, HG.out.cell 11⟩ | exact hHeld
 clear hK K
 (try simp only [Act.put, gA, gB, gC, sA, sB, sC])
 refine tkz 10 ?_
 refine rdz 11 fun K hK => ?_
 go_simp
 (obtain ⟨WF, hWF⟩ : ∃ WF, setS9 w3 w.heap.size A L.length c R = WF := ⟨_, rfl⟩; have hT9 : Turns (fun i => i = w.heap.size) w3 WF := (by rw [<- hWF]; exact setS9_turns); have HE9 : Hid (Held WF w.heap.size 27 (stV A L.length c R)) := hidp (by rw [<- hWF]; exact st_put HR.out); have HB9 : Hid (Below w.heap.size w WF) := hidp (by rw [<- hWF]; exact setS9_below HB.out (Nat.le_refl _)); unfold setS9 at hWF; rw [hWF]; have HW9 : Hid (WF.ownsRow w.heap.size 55 2 (.slice A L.length c) L.length (bkVs L)) := hidp (own_kept (own_down HW.out (by have := HSZ.out; omega)) (fun g1 hg1 => hT9.block g1 (HW.out.lt g1 hg1).2 (fun e => by have := (HW.out.lt g1 hg1).1; have := HSZ.out; omega))); replace HG := hidp (hT9.held HG.out (by have := HGL.out; omega)); clear hT9 hWF HR)
 refine hK.out _ _ ?_ (fun hHeld => ?_)
 ·(try dsimp only)
  first | exact ⟨HG.out.cell 3, HG.out.cell 4, HG.out.cell 5, HG.out.cell 6, HG.out.cell 7, HG.out.cell 8, HG.out.cell 9, HG.out.cell 10, HG.out.cell 11⟩ | exact hHeld
 clear hK K
 (try simp only [Act.put, gA, gB, gC, sA, sB, sC])
 refine dnz ?_
 go_wp2_with fail
 obtain ⟨z0, z1, z2, z3, z4, z5, z6, z7, z8⟩ := st_cells HE9.out
 refine bodyPost_ret (v := .agg (stV A L.length c R)) (by simp [results, Tryd.results12, go_sem, z0, z1, z2, z3, z4, z5, z6, z7, z8]) rfl ⟨A, c, rfl, HW9.out, HB9.out⟩
end
section
theorem free_hit26 {g e : Int} {L : List (Int × Int)} {a z own : Int} (h : freeM g e L a z own = true) {j : Nat} {x : Int × Int} (hx : L[j]? = some x) (hj : (j : Int) ≠ own) : hitB x a z = false := by
 cases e1 : hitB x a z with
 | false => rfl
 | true => rw [freeM_hit hx hj e1] at h; cases h
theorem free_none {g e : Int} {L : List (Int × Int)} {a z : Int} (h : freeM g e L a z (-1) = true) : ∀ x ∈ L, hitB x a z = false := fun x hx => by
 obtain ⟨j, hj, hjx⟩ := List.getElem_of_mem hx
 exact free_hit26 h (j := j) (by rw [List.getElem?_eq_getElem hj, hjx]) (by omega)
theorem free_own {g e : Int} {L : List (Int × Int)} {a z own : Int} {i : Nat} (h : freeM g e L a z own = true) (ho : own = -1 \/ own = (i : Int)) : ∀ x ∈ L.eraseIdx i, hitB x a z = false := fun x hx => by
 obtain ⟨j, hj, hne, hjx⟩ := List.mem_eraseIdx_iff_getElem.1 hx
 exact free_hit26 h (j := j) (by rw [List.getElem?_eq_getElem hj, hjx]) (by omega)
structure NewB (g e : Int) (LL : List (Int × Int)) (x : Int × Int) : Prop where
 wf : WfB x
 ni : x ∉ LL
 perm : (addB LL x).Perm (x :: LL)
 asc : AscM (addB LL x)
 ins : InsM g e (addB LL x)
theorem new_block {g e : Int} (hg : 0 <= g) (he : e <= 2147483648) {LL : List (Int × Int)} {a z : Int} (ha : AscM LL) (hi : InsM g e LL) (hin : insB g e a z = true) (hh : ∀ x ∈ LL, hitB x a z = false) : NewB g e LL (a, z) := by
 obtain ⟨h4, X, Y, h5, h6⟩ := chain_add (chain_iff.2 ⟨ha, hi⟩) hin hh
 have hp := ins_parts hin
 refine ⟨⟨bk_wf (by omega) (by omega), bk_wf (by omega) (by omega)⟩, fun hm => ?_, add_perm h5 h6, (chain_iff.1 h4).1, (chain_iff.1 h4).2⟩
 have := hh _ hm
 unfold hitB at this
 simp only at this
 rw [decide_eq_true (p := a < a + z) (by omega)] at this
 cases this
section
variable {w : World} {g : Nat} {F : Nat -> Prop} {t p s : Int} {L : List (Int × Int)} {R : Nat -> Int}

theorem erase_facts {G E : Int} (ha : AscM L) (hi : InsM G E L) {a : Int} (h : 0 <= mAt L a) : ∃ z, blkAt L a = (a, z) /\ (a, z) ∈ L /\ L.Perm ((a, z) :: L.eraseIdx (mAt L a).toNat) /\ (a, z) ∉ L.eraseIdx (mAt L a).toNat /\ AscM (L.eraseIdx (mAt L a).toNat) /\ InsM G E (L.eraseIdx (mAt L a).toNat) := by
 rcases mAt_cases L a with ⟨h1, _⟩ | ⟨i, z, h1, h2, h3⟩
 ·omega
 ·obtain ⟨hi1, hix⟩ := List.getElem?_eq_some_iff.1 h2
  have hm := List.mem_of_getElem? h2
  have hp : L.Perm ((a, z) :: L.eraseIdx i) := by
   have e1 : L = L.take i ++ (a, z) :: L.drop (i + 1) := by rw [<- hix, <- List.drop_eq_getElem_cons hi1, List.take_append_drop]
   have e2 : L.eraseIdx i = L.take i ++ L.drop (i + 1) := List.eraseIdx_eq_take_drop_succ ..
   have h5 : (L.take i ++ (a, z) :: L.drop (i + 1)).Perm ((a, z) :: (L.take i ++ L.drop (i + 1))) := List.perm_middle
   rw [<- e1, <- e2] at h5
   exact h5
  have e : (mAt L a).toNat = i := by omega
  rw [e]
  have hnd := hp.nodup_iff.1 (ha.nodup hi)
  exact ⟨z, (blkAt_mem ha hi hm).2, hm, hp, (List.nodup_cons.1 hnd).1, ha.sublist (List.eraseIdx_sublist ..), hi.erase i⟩
set_option maxHeartbeats 3200000 in
theorem mdDrop_c (h : IsMod w g F t p s L R) (a : Int) (hat : 0 <= mAt L a) : Calls Tryd.prog 51 #[.pointer (some ⟨g, 0, none⟩), .int .i64 a] w fun e w' => e = .returned (.tuple #[]) /\ Turns F w w' /\ IsMod w' g F t p s (L.eraseIdx (mAt L a).toNat) R := by
 obtain ⟨z, hz, hmem, hpm⟩ := erase_facts h.asc h.ins hat
 have hA := mdAt_c h a
 rw [hz, decide_eq_true hat] at hA
 have HA := hidp hA
 have HWF := hidp (h.wf _ hmem)
 have HPM := hidp hpm
 have HM0 := hidp h
 have HFL := hidp h.lt
 clear hz hmem hpm hA h hat
 go_enter Tryd.func51, Tryd.ntmps51
 go_wp2_with fail
 refine HA.out.mono ?_; rintro e w1 ⟨rfl, hb⟩
 have HSW : Hid (w.heap.size <= w1.heap.size) := hidp hb.size
 have HBX := hidp (Held.new w1 55 #[.int .i64 a, .int .i64 z])
 have HM := hidp ((HM0.out.stay hb).stay (Bnew (B0 w1) (.cells #[.int .i64 a, .int .i64 z] 55)))
 have HT : Hid (Turns F w (w1.alloc (.cells #[.int .i64 a, .int .i64 z] 55))) := hidp ((Turns.of_below hb F).alloc _)
 obtain ⟨m, D, hm, hG, hO, hD⟩ := HM.out.ex
 have HMX := hidp (And.intro hm (And.intro hG (And.intro hO hD)))
 have HSM : Hid (w1.heap.size ≠ m /\ g ≠ m) := hidp ⟨fun e => by have := HFL.out m hm; have := HSW.out; omega, held_not_map hG hO⟩
 clear hm hG hO hD hb
 go_wp2_with fail
 replace HBX := hidp (HBX.out.keep (Bdrew (B0 _)))
 replace HM := hidp (HM.out.stay (Bdrew (B0 _)))
 replace HT := hidp (HT.out.trans (Turns.of_below (Bdrew (B0 _)) F))
 replace HMX := hidp (And.intro HMX.out.1 (And.intro (HMX.out.2.1.keep (Bdrew (B0 _))) (And.intro (owns_turns HMX.out.2.2.1 (Turns.of_below (Bdrew (B0 _)) (fun _ => False)) (fun x => x)) HMX.out.2.2.2)))
 refine wp_region_held_drew (S := (fun w' => (w'.cell? ⟨w1.heap.size, 0, none⟩ = some (.int .i64 a) /\ w'.cell? ⟨w1.heap.size, 1, none⟩ = some (.int .i64 z)) /\ (w'.cell? ⟨g, 0, none⟩ = some (.int .i64 t) /\ w'.cell? ⟨g, 1, none⟩ = some (.int .i64 p) /\ w'.cell? ⟨g, 2, none⟩ = some (.int .i64 s) /\ w'.cell? ⟨g, 3, none⟩ = some (.map (some m))))) (by kernel_rfl) ?_ (fun hHeld => ?_)
 ·(try dsimp only)
  first | exact ⟨HBX.out.two, mod_cells HMX.out.2.1⟩ | exact ⟨HBX.out.two, mod_cells HMX.out.2⟩ | exact hHeld
 refine tkz 0 ?_
 refine tkz 1 ?_
 refine tkz 2 ?_
 refine tkz 3 ?_
 refine tkz 4 ?_
 refine rdz 5 fun K hK => ?_
 (refine step_delete rfl _ _ 60 55 rfl 72 bkKey Tryd.underlying60 unitElem m L.length D rfl HMX.out.2.2.1 _ (bkL a z) rfl (bk_key HWF.out.1 HWF.out.2) ?_; intro w3 hown3 hg3; have HM3 : Hid (IsMod w3 g F t p s (L.eraseIdx (mAt L a).toNat) R) := hidp (HM.out.less HMX.out.1 HMX.out.2.1 HMX.out.2.2.1 HMX.out.2.2.2 (x := (a, z)) HPM.out.1 HPM.out.2.1 HPM.out.2.2.1 HPM.out.2.2.2 hown3 hg3); replace HBX : Hid (Held w3 w1.heap.size 55 #[.int .i64 a, .int .i64 z]) := hidp ((hg3.block _ HBX.out.lt (fun e => HSM.out.1 (by injection e))).trans HBX.out); replace HMX : Hid (F m /\ Held w3 g 62 (mC t p s (.map (some m)) R)) := hidp (And.intro HMX.out.1 ((hg3.block _ HMX.out.2.1.lt (fun e => HSM.out.2 (by injection e))).trans HMX.out.2.1)); have HT3 : Hid (Turns F w w3) := hidp (HT.out.trans (Turns.of_grown hg3 HMX.out.1)); clear hown3 hg3)
 refine hK.out _ _ ?_ (fun hHeld => ?_)
 ·(try dsimp only)
  first | exact ⟨HBX.out.two, mod_cells HMX.out.2.1⟩ | exact ⟨HBX.out.two, mod_cells HMX.out.2⟩ | exact hHeld
 clear hK K
 (try simp only [Act.put, gA, gB, gC, sA, sB, sC])
 refine dnz ?_
 go_wp2_with fail
 go_end0
 exact ⟨rfl, HT3.out, HM3.out⟩
def folR26 (R : Nat -> Int) (a b : Int) (i : Nat) : Nat -> Int := fun j => if j < i then (if R j = a then b else R j) else R j
theorem mdFollow_c (h : IsMod w g F t p s L R) (a b : Int) : Calls Tryd.prog 52 #[.pointer (some ⟨g, 0, none⟩), .int .i64 a, .int .i64 b] w fun e w' => e = .returned (.tuple #[]) /\ Turns F w w' /\ IsMod w' g F t p s L (fun j => if R j = a then b else R j) := by
 have HM0 : Hid (IsMod w g F t p s L (folR26 R a b 0)) := hidp (h.congr (fun k hk => by unfold folR26; rw [if_neg (by omega)]))
 have HFG := hidp h.fg
 clear h
 go_enter Tryd.func52, Tryd.ntmps52
 go_wp2_with fail
 go_loopw [7] (fun u wr => ∃ i : Nat, i <= 8 /\ u = .int .i64 (i : Int) /\ Hid (IsMod wr g F t p s L (folR26 R a b i)) /\ Hid (Turns F w wr)) (fun u _ => 8 - (intOf u).toNat)
 case atStart => exact ⟨0, by omega, rfl, HM0, hidp (T0 F w)⟩
 case round =>
  clear HM0
  obtain ⟨i, hi, rfl, HM, HT⟩ := hrel
  by_cases hlt : i < 8
  ·have t0 : decide ((i : Int) < 8) = true := decide_eq_true (by omega)
   obtain ⟨m, D, _, hX, _, _⟩ := HM.out.ex
   have x1 := mod_root hX hlt
   have e1 : folR26 R a b i i = R i := by unfold folR26; rw [if_neg (by omega)]
   rw [e1] at x1
   have fx := hX.thawed (4 + i)
   obtain ⟨r, hr⟩ : ∃ r, R i = r := ⟨_, rfl⟩
   rw [hr] at x1
   have HR := hidp hr
   clear hr hX e1
   by_cases h2 : r = a
   ·have q1 : (r == a) = true := by simpa using h2
    have HN : Hid (IsMod (wr.setCell ⟨g, 4 + i, none⟩ (.int .i64 b)) g F t p s L (folR26 R a b (i + 1))) := hidp ((HM.out.root hlt b).congr (fun k hk => by
     unfold folR26 updF
     dsimp only
     by_cases e : k = i
     ·subst e
      rw [if_pos rfl, if_pos (show k < k + 1 by omega), if_pos (show R k = a by rw [HR.out]; exact h2)]
     ·rw [if_neg e]
      by_cases e2 : k < i
      ·rw [if_pos e2, if_pos (show k < i + 1 by omega)]
      ·rw [if_neg e2, if_neg (show ¬ k < i + 1 by omega)]))
    have HT2 : Hid (Turns F w (wr.setCell ⟨g, 4 + i, none⟩ (.int .i64 b))) := hidp (HT.out.put (p := ⟨g, 4 + i, none⟩) HFG.out _)
    clear h2
    go_wp2_with fail
    go_roundw
    case rel => exact ⟨i + 1, by omega, by go_num, HN, HT2⟩
    case measure => simp [intOf]; omega
   ·have q1 : (r == a) = false := by simpa using h2
    have HN : Hid (IsMod wr g F t p s L (folR26 R a b (i + 1))) := hidp (HM.out.congr (fun k hk => by
     unfold folR26
     by_cases e : k = i
     ·subst e
      rw [if_neg (show ¬ k < k by omega), if_pos (show k < k + 1 by omega), if_neg (show ¬ R k = a by rw [HR.out]; exact h2)]
     ·by_cases e2 : k < i
      ·rw [if_pos e2, if_pos (show k < i + 1 by omega)]
      ·rw [if_neg e2, if_neg (show ¬ k < i + 1 by omega)]))
    clear h2
    go_wp2_with fail
    go_roundw
    case rel => exact ⟨i + 1, by omega, by go_num, HN, HT⟩
    case measure => simp [intOf]; omega
  ·obtain rfl : i = 8 := by omega
   have t0 : decide (((8 : Nat) : Int) < 8) = false := by decide
   have HN : Hid (IsMod wr g F t p s L (fun j => if R j = a then b else R j)) := hidp (HM.out.congr (fun k hk => by unfold folR26; rw [if_pos hk]))
   go_wp2_with fail
   go_end0
   exact ⟨rfl, HT.out, HN.out⟩
end
end
end Go.Proofs.YtedakmhffjhfnaaDoor
