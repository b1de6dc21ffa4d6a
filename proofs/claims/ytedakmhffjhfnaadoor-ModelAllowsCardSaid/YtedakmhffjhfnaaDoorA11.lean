/-
  The program's automaton: which answers may be (model.Allows). Written by model/gen_prog6.py.
-/
import Derived.Test.YtedakmhffjhfnaaDoorA10
import Derived.Test.YtedakmhffjhfnaaDoorA05
import Derived.Test.YtedakmhffjhfnaaDoorA06
namespace Go.Proofs.YtedakmhffjhfnaaDoor
open Go.ChangeShapes Go.WideShapes Go.ChangeAt Go.RowKit Go.Maps
set_option linter.unusedVariables false
set_option linter.unusedSimpArgs false
set_option maxRecDepth 100000
section
theorem mdAllows_nil (k a b err out aux : Int) (w : World) : Calls Tryd.prog 10 #[.pointer none, .agg #[.int .i64 k, .int .i64 a, .int .i64 b], .agg #[.int .i64 err, .int .i64 out, .int .i64 aux]] w fun e w' => e = .returned (.bool false) /\ Below w.heap.size w w' := by
 have HB := hidp (Bnew (Bnew (B0 w) (.cells #[.int .i64 k, .int .i64 a, .int .i64 b] 29)) (.cells #[.int .i64 err, .int .i64 out, .int .i64 aux] 32))
 go_enter Tryd.func10, Tryd.ntmps10
 go_wp2_with fail
 refine (mdMade_nil _).mono ?_; rintro e w1 ⟨rfl, hb⟩
 replace HB := hidp (Bgo HB.out hb)
 clear hb
 go_wp2_with fail
 go_ret
 exact ⟨rfl, HB.out⟩
section
variable {w : World} {g : Nat} {F : Nat -> Prop} {t p s : Int} {L : List (Int × Int)} {R : Nat -> Int}

set_option maxHeartbeats 3200000 in
theorem all_refa (h : IsMod w g F t p s L R) (k a b err out aux : Int) (hk : -9223372036854775808 <= k /\ k <= 9223372036854775807) (ha : -9223372036854775808 <= a /\ a <= 9223372036854775807) (hb : -9223372036854775808 <= b /\ b <= 9223372036854775807) (hT : SlotsLaid w) (r : Int) (hrf : refI t p s L R k a b = r) (hnzq0 : r ≠ 0) (hne1 : err ≠ r)  : Calls Tryd.prog 10 #[.pointer (some ⟨g, 0, none⟩), .agg #[.int .i64 k, .int .i64 a, .int .i64 b], .agg #[.int .i64 err, .int .i64 out, .int .i64 aux]] w fun e w' => e = .returned (.bool false) /\ Below w.heap.size w w' := by
 have HRF := hidp hrf
 clear hrf
 have q0 : (r != 0) = true := by simp [hnzq0]
 clear hnzq0
 have hb0 := hb
 clear hb
 have e1 : (err == r) = false := by simp [hne1]
 clear hne1
 have HB := hidp (Bnew (Bnew (B0 w) (.cells #[.int .i64 k, .int .i64 a, .int .i64 b] 29)) (.cells #[.int .i64 err, .int .i64 out, .int .i64 aux] 32))
 have HX := hidp ((Held.new w 29 #[.int .i64 k, .int .i64 a, .int .i64 b]).alloc (.cells #[.int .i64 err, .int .i64 out, .int .i64 aux] 32))
 have HY := hidp (Held.new2 w (.cells #[.int .i64 k, .int .i64 a, .int .i64 b] 29) 32 #[.int .i64 err, .int .i64 out, .int .i64 aux])
 have HM := hidp (h.stay HB.out)
 obtain ⟨m, D, hm, hG, hO, hD⟩ := h.ex
 have HD := hidp hD
 have HG := hidp (hG.keep HB.out)
 have HO := hidp (owns_turns hO (Turns.of_below HB.out (fun _ => False)) (fun x => x))
 have HSL := hidp hT
 clear h hm hG hO hD hT
 obtain ⟨x0, x1, x2⟩ := HX.out.three
 obtain ⟨y0, y1, y2⟩ := HY.out.three
 obtain ⟨m0, m1, m2, m3⟩ := mod_cells HG.out
 go_enter Tryd.func10, Tryd.ntmps10
 go_wp2_with fail
 refine (mdMade_c HG.out).mono ?_; rintro e w1 ⟨rfl, hb⟩
 clear x0 x1 x2 y0 y1 y2 m0 m1 m2 m3
 replace HX := hidp (HX.out.keep hb)
 replace HY := hidp (HY.out.keep hb)
 replace HM := hidp (HM.out.stay hb)
 replace HG := hidp (HG.out.keep hb)
 replace HO := hidp (owns_turns HO.out (Turns.of_below hb (fun _ => False)) (fun x => x))
 replace HB := hidp (Bgo HB.out hb)
 clear hb
 obtain ⟨x0, x1, x2⟩ := HX.out.three
 obtain ⟨y0, y1, y2⟩ := HY.out.three
 obtain ⟨m0, m1, m2, m3⟩ := mod_cells HG.out
 go_wp2_with fail
 refine (refusal_c HM.out k a b hk ha hb0 (HSL.out.below HB.out)).mono ?_; rintro e w1 ⟨rfl, hb⟩; rw [HRF.out]
 clear x0 x1 x2 y0 y1 y2 m0 m1 m2 m3
 replace HX := hidp (HX.out.keep hb)
 replace HY := hidp (HY.out.keep hb)
 replace HM := hidp (HM.out.stay hb)
 replace HG := hidp (HG.out.keep hb)
 replace HO := hidp (owns_turns HO.out (Turns.of_below hb (fun _ => False)) (fun x => x))
 replace HB := hidp (Bgo HB.out hb)
 clear hb
 obtain ⟨x0, x1, x2⟩ := HX.out.three
 obtain ⟨y0, y1, y2⟩ := HY.out.three
 obtain ⟨m0, m1, m2, m3⟩ := mod_cells HG.out
 go_wp2_with fail
 go_ret
 exact ⟨by first | rfl | (refine ret_bool ?_; simp; done), HB.out⟩

set_option maxHeartbeats 3200000 in
theorem all_refb (h : IsMod w g F t p s L R) (k a b err out aux : Int) (hk : -9223372036854775808 <= k /\ k <= 9223372036854775807) (ha : -9223372036854775808 <= a /\ a <= 9223372036854775807) (hb : -9223372036854775808 <= b /\ b <= 9223372036854775807) (hT : SlotsLaid w) (r : Int) (hrf : refI t p s L R k a b = r) (hnzq0 : r ≠ 0) (hne1 : err = r) (hne2 : out ≠ 0)  : Calls Tryd.prog 10 #[.pointer (some ⟨g, 0, none⟩), .agg #[.int .i64 k, .int .i64 a, .int .i64 b], .agg #[.int .i64 err, .int .i64 out, .int .i64 aux]] w fun e w' => e = .returned (.bool false) /\ Below w.heap.size w w' := by
 have HRF := hidp hrf
 clear hrf
 have q0 : (r != 0) = true := by simp [hnzq0]
 clear hnzq0
 have hb0 := hb
 clear hb
 have e1 : (err == r) = true := by simp [hne1]
 clear hne1
 have e2 : (out == 0) = false := by simp [hne2]
 clear hne2
 have HB := hidp (Bnew (Bnew (B0 w) (.cells #[.int .i64 k, .int .i64 a, .int .i64 b] 29)) (.cells #[.int .i64 err, .int .i64 out, .int .i64 aux] 32))
 have HX := hidp ((Held.new w 29 #[.int .i64 k, .int .i64 a, .int .i64 b]).alloc (.cells #[.int .i64 err, .int .i64 out, .int .i64 aux] 32))
 have HY := hidp (Held.new2 w (.cells #[.int .i64 k, .int .i64 a, .int .i64 b] 29) 32 #[.int .i64 err, .int .i64 out, .int .i64 aux])
 have HM := hidp (h.stay HB.out)
 obtain ⟨m, D, hm, hG, hO, hD⟩ := h.ex
 have HD := hidp hD
 have HG := hidp (hG.keep HB.out)
 have HO := hidp (owns_turns hO (Turns.of_below HB.out (fun _ => False)) (fun x => x))
 have HSL := hidp hT
 clear h hm hG hO hD hT
 obtain ⟨x0, x1, x2⟩ := HX.out.three
 obtain ⟨y0, y1, y2⟩ := HY.out.three
 obtain ⟨m0, m1, m2, m3⟩ := mod_cells HG.out
 go_enter Tryd.func10, Tryd.ntmps10
 go_wp2_with fail
 refine (mdMade_c HG.out).mono ?_; rintro e w1 ⟨rfl, hb⟩
 clear x0 x1 x2 y0 y1 y2 m0 m1 m2 m3
 replace HX := hidp (HX.out.keep hb)
 replace HY := hidp (HY.out.keep hb)
 replace HM := hidp (HM.out.stay hb)
 replace HG := hidp (HG.out.keep hb)
 replace HO := hidp (owns_turns HO.out (Turns.of_below hb (fun _ => False)) (fun x => x))
 replace HB := hidp (Bgo HB.out hb)
 clear hb
 obtain ⟨x0, x1, x2⟩ := HX.out.three
 obtain ⟨y0, y1, y2⟩ := HY.out.three
 obtain ⟨m0, m1, m2, m3⟩ := mod_cells HG.out
 go_wp2_with fail
 refine (refusal_c HM.out k a b hk ha hb0 (HSL.out.below HB.out)).mono ?_; rintro e w1 ⟨rfl, hb⟩; rw [HRF.out]
 clear x0 x1 x2 y0 y1 y2 m0 m1 m2 m3
 replace HX := hidp (HX.out.keep hb)
 replace HY := hidp (HY.out.keep hb)
 replace HM := hidp (HM.out.stay hb)
 replace HG := hidp (HG.out.keep hb)
 replace HO := hidp (owns_turns HO.out (Turns.of_below hb (fun _ => False)) (fun x => x))
 replace HB := hidp (Bgo HB.out hb)
 clear hb
 obtain ⟨x0, x1, x2⟩ := HX.out.three
 obtain ⟨y0, y1, y2⟩ := HY.out.three
 obtain ⟨m0, m1, m2, m3⟩ := mod_cells HG.out
 go_wp2_with fail
 go_ret
 exact ⟨by first | rfl | (refine ret_bool ?_; simp; done), HB.out⟩

set_option maxHeartbeats 3200000 in
theorem all_refc (h : IsMod w g F t p s L R) (k a b err out aux : Int) (hk : -9223372036854775808 <= k /\ k <= 9223372036854775807) (ha : -9223372036854775808 <= a /\ a <= 9223372036854775807) (hb : -9223372036854775808 <= b /\ b <= 9223372036854775807) (hT : SlotsLaid w) (r : Int) (hrf : refI t p s L R k a b = r) (hnzq0 : r ≠ 0) (hne1 : err = r) (hne2 : out = 0) (hne3 : aux ≠ 0)  : Calls Tryd.prog 10 #[.pointer (some ⟨g, 0, none⟩), .agg #[.int .i64 k, .int .i64 a, .int .i64 b], .agg #[.int .i64 err, .int .i64 out, .int .i64 aux]] w fun e w' => e = .returned (.bool false) /\ Below w.heap.size w w' := by
 have HRF := hidp hrf
 clear hrf
 have q0 : (r != 0) = true := by simp [hnzq0]
 clear hnzq0
 have hb0 := hb
 clear hb
 have e1 : (err == r) = true := by simp [hne1]
 clear hne1
 have e2 : (out == 0) = true := by simp [hne2]
 clear hne2
 have e3 : (aux == 0) = false := by simp [hne3]
 clear hne3
 have HB := hidp (Bnew (Bnew (B0 w) (.cells #[.int .i64 k, .int .i64 a, .int .i64 b] 29)) (.cells #[.int .i64 err, .int .i64 out, .int .i64 aux] 32))
 have HX := hidp ((Held.new w 29 #[.int .i64 k, .int .i64 a, .int .i64 b]).alloc (.cells #[.int .i64 err, .int .i64 out, .int .i64 aux] 32))
 have HY := hidp (Held.new2 w (.cells #[.int .i64 k, .int .i64 a, .int .i64 b] 29) 32 #[.int .i64 err, .int .i64 out, .int .i64 aux])
 have HM := hidp (h.stay HB.out)
 obtain ⟨m, D, hm, hG, hO, hD⟩ := h.ex
 have HD := hidp hD
 have HG := hidp (hG.keep HB.out)
 have HO := hidp (owns_turns hO (Turns.of_below HB.out (fun _ => False)) (fun x => x))
 have HSL := hidp hT
 clear h hm hG hO hD hT
 obtain ⟨x0, x1, x2⟩ := HX.out.three
 obtain ⟨y0, y1, y2⟩ := HY.out.three
 obtain ⟨m0, m1, m2, m3⟩ := mod_cells HG.out
 go_enter Tryd.func10, Tryd.ntmps10
 go_wp2_with fail
 refine (mdMade_c HG.out).mono ?_; rintro e w1 ⟨rfl, hb⟩
 clear x0 x1 x2 y0 y1 y2 m0 m1 m2 m3
 replace HX := hidp (HX.out.keep hb)
 replace HY := hidp (HY.out.keep hb)
 replace HM := hidp (HM.out.stay hb)
 replace HG := hidp (HG.out.keep hb)
 replace HO := hidp (owns_turns HO.out (Turns.of_below hb (fun _ => False)) (fun x => x))
 replace HB := hidp (Bgo HB.out hb)
 clear hb
 obtain ⟨x0, x1, x2⟩ := HX.out.three
 obtain ⟨y0, y1, y2⟩ := HY.out.three
 obtain ⟨m0, m1, m2, m3⟩ := mod_cells HG.out
 go_wp2_with fail
 refine (refusal_c HM.out k a b hk ha hb0 (HSL.out.below HB.out)).mono ?_; rintro e w1 ⟨rfl, hb⟩; rw [HRF.out]
 clear x0 x1 x2 y0 y1 y2 m0 m1 m2 m3
 replace HX := hidp (HX.out.keep hb)
 replace HY := hidp (HY.out.keep hb)
 replace HM := hidp (HM.out.stay hb)
 replace HG := hidp (HG.out.keep hb)
 replace HO := hidp (owns_turns HO.out (Turns.of_below hb (fun _ => False)) (fun x => x))
 replace HB := hidp (Bgo HB.out hb)
 clear hb
 obtain ⟨x0, x1, x2⟩ := HX.out.three
 obtain ⟨y0, y1, y2⟩ := HY.out.three
 obtain ⟨m0, m1, m2, m3⟩ := mod_cells HG.out
 go_wp2_with fail
 go_ret
 exact ⟨by first | rfl | (refine ret_bool ?_; simp; done), HB.out⟩

set_option maxHeartbeats 3200000 in
theorem all_refd (h : IsMod w g F t p s L R) (k a b err out aux : Int) (hk : -9223372036854775808 <= k /\ k <= 9223372036854775807) (ha : -9223372036854775808 <= a /\ a <= 9223372036854775807) (hb : -9223372036854775808 <= b /\ b <= 9223372036854775807) (hT : SlotsLaid w) (r : Int) (hrf : refI t p s L R k a b = r) (hnzq0 : r ≠ 0) (hne1 : err = r) (hne2 : out = 0) (hne3 : aux = 0)  : Calls Tryd.prog 10 #[.pointer (some ⟨g, 0, none⟩), .agg #[.int .i64 k, .int .i64 a, .int .i64 b], .agg #[.int .i64 err, .int .i64 out, .int .i64 aux]] w fun e w' => e = .returned (.bool true) /\ Below w.heap.size w w' := by
 have HRF := hidp hrf
 clear hrf
 have q0 : (r != 0) = true := by simp [hnzq0]
 clear hnzq0
 have hb0 := hb
 clear hb
 have e1 : (err == r) = true := by simp [hne1]
 clear hne1
 have e2 : (out == 0) = true := by simp [hne2]
 clear hne2
 have e3 : (aux == 0) = true := by simp [hne3]
 clear hne3
 have HB := hidp (Bnew (Bnew (B0 w) (.cells #[.int .i64 k, .int .i64 a, .int .i64 b] 29)) (.cells #[.int .i64 err, .int .i64 out, .int .i64 aux] 32))
 have HX := hidp ((Held.new w 29 #[.int .i64 k, .int .i64 a, .int .i64 b]).alloc (.cells #[.int .i64 err, .int .i64 out, .int .i64 aux] 32))
 have HY := hidp (Held.new2 w (.cells #[.int .i64 k, .int .i64 a, .int .i64 b] 29) 32 #[.int .i64 err, .int .i64 out, .int .i64 aux])
 have HM := hidp (h.stay HB.out)
 obtain ⟨m, D, hm, hG, hO, hD⟩ := h.ex
 have HD := hidp hD
 have HG := hidp (hG.keep HB.out)
 have HO := hidp (owns_turns hO (Turns.of_below HB.out (fun _ => False)) (fun x => x))
 have HSL := hidp hT
 clear h hm hG hO hD hT
 obtain ⟨x0, x1, x2⟩ := HX.out.three
 obtain ⟨y0, y1, y2⟩ := HY.out.three
 obtain ⟨m0, m1, m2, m3⟩ := mod_cells HG.out
 go_enter Tryd.func10, Tryd.ntmps10
 go_wp2_with fail
 refine (mdMade_c HG.out).mono ?_; rintro e w1 ⟨rfl, hb⟩
 clear x0 x1 x2 y0 y1 y2 m0 m1 m2 m3
 replace HX := hidp (HX.out.keep hb)
 replace HY := hidp (HY.out.keep hb)
 replace HM := hidp (HM.out.stay hb)
 replace HG := hidp (HG.out.keep hb)
 replace HO := hidp (owns_turns HO.out (Turns.of_below hb (fun _ => False)) (fun x => x))
 replace HB := hidp (Bgo HB.out hb)
 clear hb
 obtain ⟨x0, x1, x2⟩ := HX.out.three
 obtain ⟨y0, y1, y2⟩ := HY.out.three
 obtain ⟨m0, m1, m2, m3⟩ := mod_cells HG.out
 go_wp2_with fail
 refine (refusal_c HM.out k a b hk ha hb0 (HSL.out.below HB.out)).mono ?_; rintro e w1 ⟨rfl, hb⟩; rw [HRF.out]
 clear x0 x1 x2 y0 y1 y2 m0 m1 m2 m3
 replace HX := hidp (HX.out.keep hb)
 replace HY := hidp (HY.out.keep hb)
 replace HM := hidp (HM.out.stay hb)
 replace HG := hidp (HG.out.keep hb)
 replace HO := hidp (owns_turns HO.out (Turns.of_below hb (fun _ => False)) (fun x => x))
 replace HB := hidp (Bgo HB.out hb)
 clear hb
 obtain ⟨x0, x1, x2⟩ := HX.out.three
 obtain ⟨y0, y1, y2⟩ := HY.out.three
 obtain ⟨m0, m1, m2, m3⟩ := mod_cells HG.out
 go_wp2_with fail
 go_ret
 exact ⟨by first | rfl | (refine ret_bool ?_; simp; done), HB.out⟩

set_option maxHeartbeats 3200000 in
theorem all_erra (h : IsMod w g F t p s L R) (k a b err out aux : Int) (hk : -9223372036854775808 <= k /\ k <= 9223372036854775807) (ha : -9223372036854775808 <= a /\ a <= 9223372036854775807) (hb : -9223372036854775808 <= b /\ b <= 9223372036854775807) (hT : SlotsLaid w) (hrf : refI t p s L R k a b = 0) (hnzq0 : err ≠ 0) (htk : takesB k = true) (hne1 : err ≠ 3)  : Calls Tryd.prog 10 #[.pointer (some ⟨g, 0, none⟩), .agg #[.int .i64 k, .int .i64 a, .int .i64 b], .agg #[.int .i64 err, .int .i64 out, .int .i64 aux]] w fun e w' => e = .returned (.bool false) /\ Below w.heap.size w w' := by
 have HRF := hidp hrf
 have HTK := hidp htk
 clear hrf htk
 have q0 : (err != 0) = true := by simp [hnzq0]
 clear hnzq0
 have hb0 := hb
 clear hb
 have e1 : (err == 3) = false := by simp [hne1]
 clear hne1
 have HB := hidp (Bnew (Bnew (B0 w) (.cells #[.int .i64 k, .int .i64 a, .int .i64 b] 29)) (.cells #[.int .i64 err, .int .i64 out, .int .i64 aux] 32))
 have HX := hidp ((Held.new w 29 #[.int .i64 k, .int .i64 a, .int .i64 b]).alloc (.cells #[.int .i64 err, .int .i64 out, .int .i64 aux] 32))
 have HY := hidp (Held.new2 w (.cells #[.int .i64 k, .int .i64 a, .int .i64 b] 29) 32 #[.int .i64 err, .int .i64 out, .int .i64 aux])
 have HM := hidp (h.stay HB.out)
 obtain ⟨m, D, hm, hG, hO, hD⟩ := h.ex
 have HD := hidp hD
 have HG := hidp (hG.keep HB.out)
 have HO := hidp (owns_turns hO (Turns.of_below HB.out (fun _ => False)) (fun x => x))
 have HSL := hidp hT
 clear h hm hG hO hD hT
 obtain ⟨x0, x1, x2⟩ := HX.out.three
 obtain ⟨y0, y1, y2⟩ := HY.out.three
 obtain ⟨m0, m1, m2, m3⟩ := mod_cells HG.out
 go_enter Tryd.func10, Tryd.ntmps10
 go_wp2_with fail
 refine (mdMade_c HG.out).mono ?_; rintro e w1 ⟨rfl, hb⟩
 clear x0 x1 x2 y0 y1 y2 m0 m1 m2 m3
 replace HX := hidp (HX.out.keep hb)
 replace HY := hidp (HY.out.keep hb)
 replace HM := hidp (HM.out.stay hb)
 replace HG := hidp (HG.out.keep hb)
 replace HO := hidp (owns_turns HO.out (Turns.of_below hb (fun _ => False)) (fun x => x))
 replace HB := hidp (Bgo HB.out hb)
 clear hb
 obtain ⟨x0, x1, x2⟩ := HX.out.three
 obtain ⟨y0, y1, y2⟩ := HY.out.three
 obtain ⟨m0, m1, m2, m3⟩ := mod_cells HG.out
 go_wp2_with fail
 refine (refusal_c HM.out k a b hk ha hb0 (HSL.out.below HB.out)).mono ?_; rintro e w1 ⟨rfl, hb⟩; rw [HRF.out]
 clear x0 x1 x2 y0 y1 y2 m0 m1 m2 m3
 replace HX := hidp (HX.out.keep hb)
 replace HY := hidp (HY.out.keep hb)
 replace HM := hidp (HM.out.stay hb)
 replace HG := hidp (HG.out.keep hb)
 replace HO := hidp (owns_turns HO.out (Turns.of_below hb (fun _ => False)) (fun x => x))
 replace HB := hidp (Bgo HB.out hb)
 clear hb
 obtain ⟨x0, x1, x2⟩ := HX.out.three
 obtain ⟨y0, y1, y2⟩ := HY.out.three
 obtain ⟨m0, m1, m2, m3⟩ := mod_cells HG.out
 go_wp2_with fail
 refine (takes_c k a b _).mono ?_; rintro e w1 ⟨rfl, hb⟩; rw [HTK.out]
 clear x0 x1 x2 y0 y1 y2 m0 m1 m2 m3
 replace HX := hidp (HX.out.keep hb)
 replace HY := hidp (HY.out.keep hb)
 replace HM := hidp (HM.out.stay hb)
 replace HG := hidp (HG.out.keep hb)
 replace HO := hidp (owns_turns HO.out (Turns.of_below hb (fun _ => False)) (fun x => x))
 replace HB := hidp (Bgo HB.out hb)
 clear hb
 obtain ⟨x0, x1, x2⟩ := HX.out.three
 obtain ⟨y0, y1, y2⟩ := HY.out.three
 obtain ⟨m0, m1, m2, m3⟩ := mod_cells HG.out
 go_wp2_with fail
 go_ret
 exact ⟨by first | rfl | (refine ret_bool ?_; simp; done), HB.out⟩

set_option maxHeartbeats 3200000 in
theorem all_errb (h : IsMod w g F t p s L R) (k a b err out aux : Int) (hk : -9223372036854775808 <= k /\ k <= 9223372036854775807) (ha : -9223372036854775808 <= a /\ a <= 9223372036854775807) (hb : -9223372036854775808 <= b /\ b <= 9223372036854775807) (hT : SlotsLaid w) (hrf : refI t p s L R k a b = 0) (hnzq0 : err ≠ 0) (htk : takesB k = true) (hne1 : err = 3) (hne2 : out ≠ 0)  : Calls Tryd.prog 10 #[.pointer (some ⟨g, 0, none⟩), .agg #[.int .i64 k, .int .i64 a, .int .i64 b], .agg #[.int .i64 err, .int .i64 out, .int .i64 aux]] w fun e w' => e = .returned (.bool false) /\ Below w.heap.size w w' := by
 have HRF := hidp hrf
 have HTK := hidp htk
 clear hrf htk
 have q0 : (err != 0) = true := by simp [hnzq0]
 clear hnzq0
 have hb0 := hb
 clear hb
 have e1 : (err == 3) = true := by simp [hne1]
 clear hne1
 have e2 : (out == 0) = false := by simp [hne2]
 clear hne2
 have HB := hidp (Bnew (Bnew (B0 w) (.cells #[.int .i64 k, .int .i64 a, .int .i64 b] 29)) (.cells #[.int .i64 err, .int .i64 out, .int .i64 aux] 32))
 have HX := hidp ((Held.new w 29 #[.int .i64 k, .int .i64 a, .int .i64 b]).alloc (.cells #[.int .i64 err, .int .i64 out, .int .i64 aux] 32))
 have HY := hidp (Held.new2 w (.cells #[.int .i64 k, .int .i64 a, .int .i64 b] 29) 32 #[.int .i64 err, .int .i64 out, .int .i64 aux])
 have HM := hidp (h.stay HB.out)
 obtain ⟨m, D, hm, hG, hO, hD⟩ := h.ex
 have HD := hidp hD
 have HG := hidp (hG.keep HB.out)
 have HO := hidp (owns_turns hO (Turns.of_below HB.out (fun _ => False)) (fun x => x))
 have HSL := hidp hT
 clear h hm hG hO hD hT
 obtain ⟨x0, x1, x2⟩ := HX.out.three
 obtain ⟨y0, y1, y2⟩ := HY.out.three
 obtain ⟨m0, m1, m2, m3⟩ := mod_cells HG.out
 go_enter Tryd.func10, Tryd.ntmps10
 go_wp2_with fail
 refine (mdMade_c HG.out).mono ?_; rintro e w1 ⟨rfl, hb⟩
 clear x0 x1 x2 y0 y1 y2 m0 m1 m2 m3
 replace HX := hidp (HX.out.keep hb)
 replace HY := hidp (HY.out.keep hb)
 replace HM := hidp (HM.out.stay hb)
 replace HG := hidp (HG.out.keep hb)
 replace HO := hidp (owns_turns HO.out (Turns.of_below hb (fun _ => False)) (fun x => x))
 replace HB := hidp (Bgo HB.out hb)
 clear hb
 obtain ⟨x0, x1, x2⟩ := HX.out.three
 obtain ⟨y0, y1, y2⟩ := HY.out.three
 obtain ⟨m0, m1, m2, m3⟩ := mod_cells HG.out
 go_wp2_with fail
 refine (refusal_c HM.out k a b hk ha hb0 (HSL.out.below HB.out)).mono ?_; rintro e w1 ⟨rfl, hb⟩; rw [HRF.out]
 clear x0 x1 x2 y0 y1 y2 m0 m1 m2 m3
 replace HX := hidp (HX.out.keep hb)
 replace HY := hidp (HY.out.keep hb)
 replace HM := hidp (HM.out.stay hb)
 replace HG := hidp (HG.out.keep hb)
 replace HO := hidp (owns_turns HO.out (Turns.of_below hb (fun _ => False)) (fun x => x))
 replace HB := hidp (Bgo HB.out hb)
 clear hb
 obtain ⟨x0, x1, x2⟩ := HX.out.three
 obtain ⟨y0, y1, y2⟩ := HY.out.three
 obtain ⟨m0, m1, m2, m3⟩ := mod_cells HG.out
 go_wp2_with fail
 refine (takes_c k a b _).mono ?_; rintro e w1 ⟨rfl, hb⟩; rw [HTK.out]
 clear x0 x1 x2 y0 y1 y2 m0 m1 m2 m3
 replace HX := hidp (HX.out.keep hb)
 replace HY := hidp (HY.out.keep hb)
 replace HM := hidp (HM.out.stay hb)
 replace HG := hidp (HG.out.keep hb)
 replace HO := hidp (owns_turns HO.out (Turns.of_below hb (fun _ => False)) (fun x => x))
 replace HB := hidp (Bgo HB.out hb)
 clear hb
 obtain ⟨x0, x1, x2⟩ := HX.out.three
 obtain ⟨y0, y1, y2⟩ := HY.out.three
 obtain ⟨m0, m1, m2, m3⟩ := mod_cells HG.out
 go_wp2_with fail
 go_ret
 exact ⟨by first | rfl | (refine ret_bool ?_; simp; done), HB.out⟩

set_option maxHeartbeats 3200000 in
theorem all_errc (h : IsMod w g F t p s L R) (k a b err out aux : Int) (hk : -9223372036854775808 <= k /\ k <= 9223372036854775807) (ha : -9223372036854775808 <= a /\ a <= 9223372036854775807) (hb : -9223372036854775808 <= b /\ b <= 9223372036854775807) (hT : SlotsLaid w) (hrf : refI t p s L R k a b = 0) (hnzq0 : err ≠ 0) (htk : takesB k = true) (hne1 : err = 3) (hne2 : out = 0) (hne3 : aux ≠ 0)  : Calls Tryd.prog 10 #[.pointer (some ⟨g, 0, none⟩), .agg #[.int .i64 k, .int .i64 a, .int .i64 b], .agg #[.int .i64 err, .int .i64 out, .int .i64 aux]] w fun e w' => e = .returned (.bool false) /\ Below w.heap.size w w' := by
 have HRF := hidp hrf
 have HTK := hidp htk
 clear hrf htk
 have q0 : (err != 0) = true := by simp [hnzq0]
 clear hnzq0
 have hb0 := hb
 clear hb
 have e1 : (err == 3) = true := by simp [hne1]
 clear hne1
 have e2 : (out == 0) = true := by simp [hne2]
 clear hne2
 have e3 : (aux == 0) = false := by simp [hne3]
 clear hne3
 have HB := hidp (Bnew (Bnew (B0 w) (.cells #[.int .i64 k, .int .i64 a, .int .i64 b] 29)) (.cells #[.int .i64 err, .int .i64 out, .int .i64 aux] 32))
 have HX := hidp ((Held.new w 29 #[.int .i64 k, .int .i64 a, .int .i64 b]).alloc (.cells #[.int .i64 err, .int .i64 out, .int .i64 aux] 32))
 have HY := hidp (Held.new2 w (.cells #[.int .i64 k, .int .i64 a, .int .i64 b] 29) 32 #[.int .i64 err, .int .i64 out, .int .i64 aux])
 have HM := hidp (h.stay HB.out)
 obtain ⟨m, D, hm, hG, hO, hD⟩ := h.ex
 have HD := hidp hD
 have HG := hidp (hG.keep HB.out)
 have HO := hidp (owns_turns hO (Turns.of_below HB.out (fun _ => False)) (fun x => x))
 have HSL := hidp hT
 clear h hm hG hO hD hT
 obtain ⟨x0, x1, x2⟩ := HX.out.three
 obtain ⟨y0, y1, y2⟩ := HY.out.three
 obtain ⟨m0, m1, m2, m3⟩ := mod_cells HG.out
 go_enter Tryd.func10, Tryd.ntmps10
 go_wp2_with fail
 refine (mdMade_c HG.out).mono ?_; rintro e w1 ⟨rfl, hb⟩
 clear x0 x1 x2 y0 y1 y2 m0 m1 m2 m3
 replace HX := hidp (HX.out.keep hb)
 replace HY := hidp (HY.out.keep hb)
 replace HM := hidp (HM.out.stay hb)
 replace HG := hidp (HG.out.keep hb)
 replace HO := hidp (owns_turns HO.out (Turns.of_below hb (fun _ => False)) (fun x => x))
 replace HB := hidp (Bgo HB.out hb)
 clear hb
 obtain ⟨x0, x1, x2⟩ := HX.out.three
 obtain ⟨y0, y1, y2⟩ := HY.out.three
 obtain ⟨m0, m1, m2, m3⟩ := mod_cells HG.out
 go_wp2_with fail
 refine (refusal_c HM.out k a b hk ha hb0 (HSL.out.below HB.out)).mono ?_; rintro e w1 ⟨rfl, hb⟩; rw [HRF.out]
 clear x0 x1 x2 y0 y1 y2 m0 m1 m2 m3
 replace HX := hidp (HX.out.keep hb)
 replace HY := hidp (HY.out.keep hb)
 replace HM := hidp (HM.out.stay hb)
 replace HG := hidp (HG.out.keep hb)
 replace HO := hidp (owns_turns HO.out (Turns.of_below hb (fun _ => False)) (fun x => x))
 replace HB := hidp (Bgo HB.out hb)
 clear hb
 obtain ⟨x0, x1, x2⟩ := HX.out.three
 obtain ⟨y0, y1, y2⟩ := HY.out.three
 obtain ⟨m0, m1, m2, m3⟩ := mod_cells HG.out
 go_wp2_with fail
 refine (takes_c k a b _).mono ?_; rintro e w1 ⟨rfl, hb⟩; rw [HTK.out]
 clear x0 x1 x2 y0 y1 y2 m0 m1 m2 m3
 replace HX := hidp (HX.out.keep hb)
 replace HY := hidp (HY.out.keep hb)
 replace HM := hidp (HM.out.stay hb)
 replace HG := hidp (HG.out.keep hb)
 replace HO := hidp (owns_turns HO.out (Turns.of_below hb (fun _ => False)) (fun x => x))
 replace HB := hidp (Bgo HB.out hb)
 clear hb
 obtain ⟨x0, x1, x2⟩ := HX.out.three
 obtain ⟨y0, y1, y2⟩ := HY.out.three
 obtain ⟨m0, m1, m2, m3⟩ := mod_cells HG.out
 go_wp2_with fail
 go_ret
 exact ⟨by first | rfl | (refine ret_bool ?_; simp; done), HB.out⟩

set_option maxHeartbeats 3200000 in
theorem all_errd (h : IsMod w g F t p s L R) (k a b err out aux : Int) (hk : -9223372036854775808 <= k /\ k <= 9223372036854775807) (ha : -9223372036854775808 <= a /\ a <= 9223372036854775807) (hb : -9223372036854775808 <= b /\ b <= 9223372036854775807) (hT : SlotsLaid w) (hrf : refI t p s L R k a b = 0) (hnzq0 : err ≠ 0) (htk : takesB k = true) (hne1 : err = 3) (hne2 : out = 0) (hne3 : aux = 0)  : Calls Tryd.prog 10 #[.pointer (some ⟨g, 0, none⟩), .agg #[.int .i64 k, .int .i64 a, .int .i64 b], .agg #[.int .i64 err, .int .i64 out, .int .i64 aux]] w fun e w' => e = .returned (.bool true) /\ Below w.heap.size w w' := by
 have HRF := hidp hrf
 have HTK := hidp htk
 clear hrf htk
 have q0 : (err != 0) = true := by simp [hnzq0]
 clear hnzq0
 have hb0 := hb
 clear hb
 have e1 : (err == 3) = true := by simp [hne1]
 clear hne1
 have e2 : (out == 0) = true := by simp [hne2]
 clear hne2
 have e3 : (aux == 0) = true := by simp [hne3]
 clear hne3
 have HB := hidp (Bnew (Bnew (B0 w) (.cells #[.int .i64 k, .int .i64 a, .int .i64 b] 29)) (.cells #[.int .i64 err, .int .i64 out, .int .i64 aux] 32))
 have HX := hidp ((Held.new w 29 #[.int .i64 k, .int .i64 a, .int .i64 b]).alloc (.cells #[.int .i64 err, .int .i64 out, .int .i64 aux] 32))
 have HY := hidp (Held.new2 w (.cells #[.int .i64 k, .int .i64 a, .int .i64 b] 29) 32 #[.int .i64 err, .int .i64 out, .int .i64 aux])
 have HM := hidp (h.stay HB.out)
 obtain ⟨m, D, hm, hG, hO, hD⟩ := h.ex
 have HD := hidp hD
 have HG := hidp (hG.keep HB.out)
 have HO := hidp (owns_turns hO (Turns.of_below HB.out (fun _ => False)) (fun x => x))
 have HSL := hidp hT
 clear h hm hG hO hD hT
 obtain ⟨x0, x1, x2⟩ := HX.out.three
 obtain ⟨y0, y1, y2⟩ := HY.out.three
 obtain ⟨m0, m1, m2, m3⟩ := mod_cells HG.out
 go_enter Tryd.func10, Tryd.ntmps10
 go_wp2_with fail
 refine (mdMade_c HG.out).mono ?_; rintro e w1 ⟨rfl, hb⟩
 clear x0 x1 x2 y0 y1 y2 m0 m1 m2 m3
 replace HX := hidp (HX.out.keep hb)
 replace HY := hidp (HY.out.keep hb)
 replace HM := hidp (HM.out.stay hb)
 replace HG := hidp (HG.out.keep hb)
 replace HO := hidp (owns_turns HO.out (Turns.of_below hb (fun _ => False)) (fun x => x))
 replace HB := hidp (Bgo HB.out hb)
 clear hb
 obtain ⟨x0, x1, x2⟩ := HX.out.three
 obtain ⟨y0, y1, y2⟩ := HY.out.three
 obtain ⟨m0, m1, m2, m3⟩ := mod_cells HG.out
 go_wp2_with fail
 refine (refusal_c HM.out k a b hk ha hb0 (HSL.out.below HB.out)).mono ?_; rintro e w1 ⟨rfl, hb⟩; rw [HRF.out]
 clear x0 x1 x2 y0 y1 y2 m0 m1 m2 m3
 replace HX := hidp (HX.out.keep hb)
 replace HY := hidp (HY.out.keep hb)
 replace HM := hidp (HM.out.stay hb)
 replace HG := hidp (HG.out.keep hb)
 replace HO := hidp (owns_turns HO.out (Turns.of_below hb (fun _ => False)) (fun x => x))
 replace HB := hidp (Bgo HB.out hb)
 clear hb
 obtain ⟨x0, x1, x2⟩ := HX.out.three
 obtain ⟨y0, y1, y2⟩ := HY.out.three
 obtain ⟨m0, m1, m2, m3⟩ := mod_cells HG.out
 go_wp2_with fail
 refine (takes_c k a b _).mono ?_; rintro e w1 ⟨rfl, hb⟩; rw [HTK.out]
 clear x0 x1 x2 y0 y1 y2 m0 m1 m2 m3
 replace HX := hidp (HX.out.keep hb)
 replace HY := hidp (HY.out.keep hb)
 replace HM := hidp (HM.out.stay hb)
 replace HG := hidp (HG.out.keep hb)
 replace HO := hidp (owns_turns HO.out (Turns.of_below hb (fun _ => False)) (fun x => x))
 replace HB := hidp (Bgo HB.out hb)
 clear hb
 obtain ⟨x0, x1, x2⟩ := HX.out.three
 obtain ⟨y0, y1, y2⟩ := HY.out.three
 obtain ⟨m0, m1, m2, m3⟩ := mod_cells HG.out
 go_wp2_with fail
 go_ret
 exact ⟨by first | rfl | (refine ret_bool ?_; simp; done), HB.out⟩

set_option maxHeartbeats 3200000 in
theorem all_errn (h : IsMod w g F t p s L R) (k a b err out aux : Int) (hk : -9223372036854775808 <= k /\ k <= 9223372036854775807) (ha : -9223372036854775808 <= a /\ a <= 9223372036854775807) (hb : -9223372036854775808 <= b /\ b <= 9223372036854775807) (hT : SlotsLaid w) (hrf : refI t p s L R k a b = 0) (hnzq0 : err ≠ 0) (htk : takesB k = false) : Calls Tryd.prog 10 #[.pointer (some ⟨g, 0, none⟩), .agg #[.int .i64 k, .int .i64 a, .int .i64 b], .agg #[.int .i64 err, .int .i64 out, .int .i64 aux]] w fun e w' => e = .returned (.bool false) /\ Below w.heap.size w w' := by
 have HRF := hidp hrf
 have HTK := hidp htk
 clear hrf htk
 have q0 : (err != 0) = true := by simp [hnzq0]
 clear hnzq0
 have hb0 := hb
 clear hb
 have HB := hidp (Bnew (Bnew (B0 w) (.cells #[.int .i64 k, .int .i64 a, .int .i64 b] 29)) (.cells #[.int .i64 err, .int .i64 out, .int .i64 aux] 32))
 have HX := hidp ((Held.new w 29 #[.int .i64 k, .int .i64 a, .int .i64 b]).alloc (.cells #[.int .i64 err, .int .i64 out, .int .i64 aux] 32))
 have HY := hidp (Held.new2 w (.cells #[.int .i64 k, .int .i64 a, .int .i64 b] 29) 32 #[.int .i64 err, .int .i64 out, .int .i64 aux])
 have HM := hidp (h.stay HB.out)
 obtain ⟨m, D, hm, hG, hO, hD⟩ := h.ex
 have HD := hidp hD
 have HG := hidp (hG.keep HB.out)
 have HO := hidp (owns_turns hO (Turns.of_below HB.out (fun _ => False)) (fun x => x))
 have HSL := hidp hT
 clear h hm hG hO hD hT
 obtain ⟨x0, x1, x2⟩ := HX.out.three
 obtain ⟨y0, y1, y2⟩ := HY.out.three
 obtain ⟨m0, m1, m2, m3⟩ := mod_cells HG.out
 go_enter Tryd.func10, Tryd.ntmps10
 go_wp2_with fail
 refine (mdMade_c HG.out).mono ?_; rintro e w1 ⟨rfl, hb⟩
 clear x0 x1 x2 y0 y1 y2 m0 m1 m2 m3
 replace HX := hidp (HX.out.keep hb)
 replace HY := hidp (HY.out.keep hb)
 replace HM := hidp (HM.out.stay hb)
 replace HG := hidp (HG.out.keep hb)
 replace HO := hidp (owns_turns HO.out (Turns.of_below hb (fun _ => False)) (fun x => x))
 replace HB := hidp (Bgo HB.out hb)
 clear hb
 obtain ⟨x0, x1, x2⟩ := HX.out.three
 obtain ⟨y0, y1, y2⟩ := HY.out.three
 obtain ⟨m0, m1, m2, m3⟩ := mod_cells HG.out
 go_wp2_with fail
 refine (refusal_c HM.out k a b hk ha hb0 (HSL.out.below HB.out)).mono ?_; rintro e w1 ⟨rfl, hb⟩; rw [HRF.out]
 clear x0 x1 x2 y0 y1 y2 m0 m1 m2 m3
 replace HX := hidp (HX.out.keep hb)
 replace HY := hidp (HY.out.keep hb)
 replace HM := hidp (HM.out.stay hb)
 replace HG := hidp (HG.out.keep hb)
 replace HO := hidp (owns_turns HO.out (Turns.of_below hb (fun _ => False)) (fun x => x))
 replace HB := hidp (Bgo HB.out hb)
 clear hb
 obtain ⟨x0, x1, x2⟩ := HX.out.three
 obtain ⟨y0, y1, y2⟩ := HY.out.three
 obtain ⟨m0, m1, m2, m3⟩ := mod_cells HG.out
 go_wp2_with fail
 refine (takes_c k a b _).mono ?_; rintro e w1 ⟨rfl, hb⟩; rw [HTK.out]
 clear x0 x1 x2 y0 y1 y2 m0 m1 m2 m3
 replace HX := hidp (HX.out.keep hb)
 replace HY := hidp (HY.out.keep hb)
 replace HM := hidp (HM.out.stay hb)
 replace HG := hidp (HG.out.keep hb)
 replace HO := hidp (owns_turns HO.out (Turns.of_below hb (fun _ => False)) (fun x => x))
 replace HB := hidp (Bgo HB.out hb)
 clear hb
 obtain ⟨x0, x1, x2⟩ := HX.out.three
 obtain ⟨y0, y1, y2⟩ := HY.out.three
 obtain ⟨m0, m1, m2, m3⟩ := mod_cells HG.out
 go_wp2_with fail
 go_ret
 exact ⟨by first | rfl | (refine ret_bool ?_; simp; done), HB.out⟩

set_option maxHeartbeats 3200000 in
theorem all_done (h : IsMod w g F t p s L R) (k a b out aux : Int) (hk : -9223372036854775808 <= k /\ k <= 9223372036854775807) (ha : -9223372036854775808 <= a /\ a <= 9223372036854775807) (hb : -9223372036854775808 <= b /\ b <= 9223372036854775807) (hT : SlotsLaid w) (ho : opB k a b = true) (hrf : refI t p s L R k a b = 0) (c : Bool) (hc : allowM t p s L R k a b 0 out aux = c) : Calls Tryd.prog 10 #[.pointer (some ⟨g, 0, none⟩), .agg #[.int .i64 k, .int .i64 a, .int .i64 b], .agg #[.int .i64 0, .int .i64 out, .int .i64 aux]] w fun e w' => e = .returned (.bool c) /\ Below w.heap.size w w' := by
 have HRF := hidp hrf
 have HOP := hidp ho
 have HC := hidp hc
 clear hrf ho hc
 have hb0 := hb
 clear hb
 have HB := hidp (Bnew (Bnew (B0 w) (.cells #[.int .i64 k, .int .i64 a, .int .i64 b] 29)) (.cells #[.int .i64 0, .int .i64 out, .int .i64 aux] 32))
 have HX := hidp ((Held.new w 29 #[.int .i64 k, .int .i64 a, .int .i64 b]).alloc (.cells #[.int .i64 0, .int .i64 out, .int .i64 aux] 32))
 have HY := hidp (Held.new2 w (.cells #[.int .i64 k, .int .i64 a, .int .i64 b] 29) 32 #[.int .i64 0, .int .i64 out, .int .i64 aux])
 have HM := hidp (h.stay HB.out)
 obtain ⟨m, D, hm, hG, hO, hD⟩ := h.ex
 have HD := hidp hD
 have HG := hidp (hG.keep HB.out)
 have HO := hidp (owns_turns hO (Turns.of_below HB.out (fun _ => False)) (fun x => x))
 have HSL := hidp hT
 clear h hm hG hO hD hT
 obtain ⟨x0, x1, x2⟩ := HX.out.three
 obtain ⟨y0, y1, y2⟩ := HY.out.three
 obtain ⟨m0, m1, m2, m3⟩ := mod_cells HG.out
 go_enter Tryd.func10, Tryd.ntmps10
 go_wp2_with fail
 refine (mdMade_c HG.out).mono ?_; rintro e w1 ⟨rfl, hb⟩
 clear x0 x1 x2 y0 y1 y2 m0 m1 m2 m3
 replace HX := hidp (HX.out.keep hb)
 replace HY := hidp (HY.out.keep hb)
 replace HM := hidp (HM.out.stay hb)
 replace HG := hidp (HG.out.keep hb)
 replace HO := hidp (owns_turns HO.out (Turns.of_below hb (fun _ => False)) (fun x => x))
 replace HB := hidp (Bgo HB.out hb)
 clear hb
 obtain ⟨x0, x1, x2⟩ := HX.out.three
 obtain ⟨y0, y1, y2⟩ := HY.out.three
 obtain ⟨m0, m1, m2, m3⟩ := mod_cells HG.out
 go_wp2_with fail
 refine (refusal_c HM.out k a b hk ha hb0 (HSL.out.below HB.out)).mono ?_; rintro e w1 ⟨rfl, hb⟩; rw [HRF.out]
 clear x0 x1 x2 y0 y1 y2 m0 m1 m2 m3
 replace HX := hidp (HX.out.keep hb)
 replace HY := hidp (HY.out.keep hb)
 replace HM := hidp (HM.out.stay hb)
 replace HG := hidp (HG.out.keep hb)
 replace HO := hidp (owns_turns HO.out (Turns.of_below hb (fun _ => False)) (fun x => x))
 replace HB := hidp (Bgo HB.out hb)
 clear hb
 obtain ⟨x0, x1, x2⟩ := HX.out.three
 obtain ⟨y0, y1, y2⟩ := HY.out.three
 obtain ⟨m0, m1, m2, m3⟩ := mod_cells HG.out
 go_wp2_with fail
 refine (done_c HM.out k a b out aux ha hb0 (HSL.out.below HB.out) HOP.out HRF.out).mono ?_; rintro e w1 ⟨rfl, hb⟩; rw [HC.out]
 clear x0 x1 x2 y0 y1 y2 m0 m1 m2 m3
 replace HX := hidp (HX.out.keep hb)
 replace HY := hidp (HY.out.keep hb)
 replace HM := hidp (HM.out.stay hb)
 replace HG := hidp (HG.out.keep hb)
 replace HO := hidp (owns_turns HO.out (Turns.of_below hb (fun _ => False)) (fun x => x))
 replace HB := hidp (Bgo HB.out hb)
 clear hb
 obtain ⟨x0, x1, x2⟩ := HX.out.three
 obtain ⟨y0, y1, y2⟩ := HY.out.three
 obtain ⟨m0, m1, m2, m3⟩ := mod_cells HG.out
 go_wp2_with fail
 go_ret
 exact ⟨by first | rfl | (refine ret_bool ?_; simp; done), HB.out⟩

theorem just_ways (n err out aux : Int) : (err ≠ n /\ justB n err out aux = false) \/ (err = n /\ out ≠ 0 /\ justB n err out aux = false) \/ (err = n /\ out = 0 /\ aux ≠ 0 /\ justB n err out aux = false) \/ (err = n /\ out = 0 /\ aux = 0 /\ justB n err out aux = true) := by
 unfold justB
 by_cases h1 : err = n
 ·by_cases h2 : out = 0
  ·by_cases h3 : aux = 0
   ·exact .inr (.inr (.inr ⟨h1, h2, h3, decide_eq_true ⟨h1, h2, h3⟩⟩))
   ·exact .inr (.inr (.inl ⟨h1, h2, h3, decide_eq_false (by omega)⟩))
  ·exact .inr (.inl ⟨h1, h2, decide_eq_false (by omega)⟩)
 ·exact .inl ⟨h1, decide_eq_false (by omega)⟩
theorem mdAllows_c (h : IsMod w g F t p s L R) (hn : L.length <= 90000) (k a b err out aux : Int) (hk : -9223372036854775808 <= k /\ k <= 9223372036854775807) (ha : -9223372036854775808 <= a /\ a <= 9223372036854775807) (hb : -9223372036854775808 <= b /\ b <= 9223372036854775807) (hT : SlotsLaid w) : Calls Tryd.prog 10 #[.pointer (some ⟨g, 0, none⟩), .agg #[.int .i64 k, .int .i64 a, .int .i64 b], .agg #[.int .i64 err, .int .i64 out, .int .i64 aux]] w fun e w' => e = .returned (.bool (allowM t p s L R k a b err out aux)) /\ Below w.heap.size w w' := by
 have key : ∀ r : Int, refI t p s L R k a b = r -> r ≠ 0 -> allowM t p s L R k a b err out aux = justB r err out aux := by
  rintro r rfl hr
  cases ho : opB k a b with
  | true => exact allow_ref ho hr
  | false =>
   have e1 : refI t p s L R k a b = 1 := by unfold refI; rw [if_pos ho]
   rw [e1]
   unfold allowM
   rw [if_pos ho]
 by_cases hr : refI t p s L R k a b = 0
 ·have ho : opB k a b = true := by
   cases ho : opB k a b with
   | true => rfl
   | false =>
    unfold refI at hr
    rw [if_pos ho] at hr
    omega
  by_cases he : err = 0
  ·subst he
   exact all_done h k a b out aux hk ha hb hT ho hr _ rfl
  ·rw [allow_err ho hr he]
   cases htk : takesB k with
   | false => exact all_errn h k a b err out aux hk ha hb hT hr he htk
   | true =>
    rw [Bool.true_and]
    rcases just_ways 3 err out aux with ⟨h1, h2⟩ | ⟨h1, h3, h2⟩ | ⟨h1, h3, h4, h2⟩ | ⟨h1, h3, h4, h2⟩
    ·rw [h2]; exact all_erra h k a b err out aux hk ha hb hT hr he htk h1
    ·rw [h2]; exact all_errb h k a b err out aux hk ha hb hT hr he htk h1 h3
    ·rw [h2]; exact all_errc h k a b err out aux hk ha hb hT hr he htk h1 h3 h4
    ·rw [h2]; exact all_errd h k a b err out aux hk ha hb hT hr he htk h1 h3 h4
 ·rw [key _ rfl hr]
  rcases just_ways (refI t p s L R k a b) err out aux with ⟨h1, h2⟩ | ⟨h1, h3, h2⟩ | ⟨h1, h3, h4, h2⟩ | ⟨h1, h3, h4, h2⟩
  ·rw [h2]; exact all_refa h k a b err out aux hk ha hb hT _ rfl hr h1
  ·rw [h2]; exact all_refb h k a b err out aux hk ha hb hT _ rfl hr h1 h3
  ·rw [h2]; exact all_refc h k a b err out aux hk ha hb hT _ rfl hr h1 h3 h4
  ·rw [h2]; exact all_refd h k a b err out aux hk ha hb hT _ rfl hr h1 h3 h4
end
end
section
theorem mdNew_no (t p s : Int) (hr : rightB t p s = false) (w : World) : Calls Tryd.prog 16 #[.agg #[.int .i64 t, .int .i64 p, .int .i64 s]] w fun e w' => e = .returned (.pointer none) /\ Below w.heap.size w w' := by
 have HX := hidp (Held.new w 23 #[.int .i64 t, .int .i64 p, .int .i64 s])
 have HB := hidp (Bnew (B0 w) (.cells #[.int .i64 t, .int .i64 p, .int .i64 s] 23))
 have HC := hidp (check_no hr)
 clear hr
 obtain ⟨x0, x1, x2⟩ := HX.out.three
 go_enter Tryd.func16, Tryd.ntmps16
 go_wp2_with fail
 refine (cfCheck_c t p s _).mono ?_; rintro e w1 ⟨rfl, hb⟩; rw [HC.out]
 replace HB := hidp (Bgo HB.out hb)
 clear hb x0 x1 x2
 go_wp2_with fail
 go_ret
 exact ⟨rfl, HB.out⟩
theorem mdNew_yes (t p s : Int) (hr : rightB t p s = true) (w : World) : Calls Tryd.prog 16 #[.agg #[.int .i64 t, .int .i64 p, .int .i64 s]] w fun e w' => ∃ (g : Nat) (F : Nat -> Prop), e = .returned (.pointer (some ⟨g, 0, none⟩)) /\ (∀ i, F i -> w.heap.size <= i) /\ IsMod w' g F t p s [] (fun _ => 0) /\ Below w.heap.size w w' := by
 have hmm := @run_makeMap Tryd.prog
 have HX := hidp (Held.new w 23 #[.int .i64 t, .int .i64 p, .int .i64 s])
 have HB := hidp (Bnew (B0 w) (.cells #[.int .i64 t, .int .i64 p, .int .i64 s] 23))
 have HC := hidp (check_yes hr)
 have HR := hidp hr
 clear hr
 obtain ⟨x0, x1, x2⟩ := HX.out.three
 go_enter Tryd.func16, Tryd.ntmps16
 go_wp2_with fail
 refine (cfCheck_c t p s _).mono ?_; rintro e w1 ⟨rfl, hb⟩; rw [HC.out]
 replace HX := hidp (HX.out.keep hb)
 replace HB := hidp (Bgo HB.out hb)
 clear hb x0 x1 x2
 obtain ⟨x0, x1, x2⟩ := HX.out.three
 go_wp2_with fail
 have hm := (World.ownsMap_made w1 Tryd.prog 55 (unitElem (H := Unit))).alloc (.cells (mC t p s (.map (some w1.heap.size)) (fun _ => 0)) 62)
 have hX : Held ((w1.alloc (.map #[] 0)).alloc (.cells (mC t p s (.map (some w1.heap.size)) (fun _ => 0)) 62)) (w1.heap.size + 1) 62 (mC t p s (.map (some w1.heap.size)) (fun _ => 0)) := by
  have := Held.new (w1.alloc (.map #[] 0)) 62 (mC t p s (.map (some w1.heap.size)) (fun _ => 0))
  simpa using this
 have hb2 : Below w.heap.size w ((w1.alloc (.map #[] 0)).alloc (.cells (mC t p s (.map (some w1.heap.size)) (fun _ => 0)) 62)) := Bnew (Bnew HB.out _) _
 have hsz := HB.out.size
 go_ret
 refine ⟨w1.heap.size + 1, fun i => i = w1.heap.size \/ i = w1.heap.size + 1, by simp, ?_, ⟨HR.out, fun x hx => (by cases hx), List.Pairwise.nil, ?_, .inr rfl, w1.heap.size, _, .inl rfl, hX, hm, LiveIs.none⟩, hb2⟩
 ·rintro i (rfl | rfl) <;> omega
 ·rintro i (rfl | rfl)
  ·simp; omega
  ·simp

section
variable {w : World} {g : Nat} {F : Nat -> Prop} {t p s : Int} {R : Nat -> Int}
set_option maxHeartbeats 3200000 in
theorem mdFill_c (h : IsMod w g F t p s [] R) (A : Option Addr) (n c : Nat) (l : List (Int × Int)) (hl : l.length = n) (hn : n <= 80000) (hcn : n <= c /\ c <= maxLen) (hin : BkIn w A l) (hwf : ∀ x ∈ l, WfB x) :
  Calls Tryd.prog 21 #[.pointer (some ⟨g, 0, none⟩), .slice A n c] w fun e w' => ∃ ys : List (Int × Int), ys.Perm l /\ ys.Pairwise (fun x y => x.1 <= y.1) /\ e = .returned (.bool (fillB (pageN t p s : Int) (endI t p s) 0 ys)) /\ Turns F w w' /\ (fillB (pageN t p s : Int) (endI t p s) 0 ys = true -> IsMod w' g F t p s ys R) := by
 obtain ⟨b1, b2⟩ := end_le h.right
 obtain ⟨G, hG⟩ : ∃ G : Int, (pageN t p s : Int) = G := ⟨_, rfl⟩
 obtain ⟨E, hE⟩ : ∃ E : Int, endI t p s = E := ⟨_, rfl⟩
 have HGE : Hid ((pageN t p s : Int) = G /\ endI t p s = E) := hidp ⟨hG, hE⟩
 rw [hG, hE] at b2 ⊢
 have HL := hidp hl
 have HN := hidp hn
 have HWF := hidp hwf
 have HV : Hid (ValsAt A n c l w.heap.size (w.alloc (.cells #[.slice A n c] 24))) := hidp ⟨by simp, (Held.new w 24 #[.slice A n c]).cell 0, hin.below (Bnew (B0 w) _)⟩
 have HM := hidp h
 have HFL := hidp h.lt
 have HS0 : Hid (w.heap.size < (w.alloc (.cells #[.slice A n c] 24)).heap.size) := hidp (by simp)
 have HB := hidp (Bnew (B0 w) (.cells #[.slice A n c] 24))
 have HSF := hidp (sortedFunc_c (w.alloc (.cells #[.slice A n c] 24)) (values_seq A n c l hl hcn.1 hcn.2 w.heap.size) (enters_of Tryd.func81 (by kernel_rfl) rfl) (by omega) (fun xs hx => by rw [hx, hl]; exact Nat.le_refl _) (fun A' hb => HV.out.keep hb) (fun A' B' h1 h2 => h1.keep h2))
 clear h hG hE hl hwf hin b1
 go_enter Tryd.func21, Tryd.ntmps21
 go_wp2_with fail
 refine (values_c A n c _).mono ?_; rintro e w1 ⟨rfl, rfl⟩
 go_wp2_with fail
 refine HSF.out.mono ?_; rintro e w1 ⟨v, xs, ys, rfl, rfl, hp, hs, ho, hb⟩
 obtain ⟨A2, c2, rfl⟩ : ∃ A2 c2, v = .slice A2 ys.length c2 := by
  rcases ho.2 with ⟨e1, e2⟩ | ⟨g', cap, cur, e1, _⟩
  ·exact ⟨none, 0, by rw [e1, e2]⟩
  ·exact ⟨_, _, e1⟩
 have HO := hidp (own_down ho (base' := w.heap.size) (by simp))
 have HP := hidp hp
 have HS := hidp hs
 have HMW : Hid (IsMod w1 g F t p s [] R) := hidp ((HM.out.stay HB.out).stay hb)
 have HTW : Hid (Turns F w w1) := hidp (Turns.of_below (Bgo HB.out hb) F)
 obtain ⟨nl, hnl⟩ : ∃ n, ys.length = n := ⟨_, rfl⟩
 have HNL := hidp hnl
 have hnl2 : nl <= 80000 := by have := hp.length_eq; have := HL.out; have := HN.out; omega
 rw [hnl] at HO
 have hcv := own_caps3 HO.out
 rw [hnl]
 clear ho hp hs hb hnl HM HV HSF HB
 go_wp2_with fail
 go_loopw [5, 12] (fun u5 u12 wr => ∃ (i : Nat) (en : Int), i <= nl /\ u12 = .int .i64 (i : Int) /\ u5 = .int .i64 en /\ (0 <= en /\ en <= 4294967296) /\ Hid (IsMod wr g F t p s (ys.take i) R) /\ Hid (wr.ownsRow w.heap.size 55 2 (.slice A2 nl c2) nl (bkVs ys)) /\ Hid (Turns F w wr) /\ Hid (fillB G E 0 ys = fillB G E en (ys.drop i)) /\ Hid (∀ x ∈ ys.take i, x.1 + x.2 <= en)) (fun _ u12 _ => nl - (intOf u12).toNat)
 case atStart => exact ⟨0, 0, by omega, rfl, rfl, by omega, HMW, HO, HTW, hidp rfl, hidp (fun x hx => by simp at hx)⟩
 case round =>
  clear HMW HO HTW
  obtain ⟨i, en, hi, rfl, rfl, hen, HM, HO, HT, HF, HLE⟩ := hrel
  by_cases hlt : i < nl
  ·obtain ⟨x, hx⟩ : ∃ x, ys[i]? = some x := ⟨_, List.getElem?_eq_getElem (by have := HNL.out; omega)⟩
   obtain ⟨gv, cv', hvv, hbv, hlv⟩ := HO.out.form (by omega)
   injection hvv with hvv hn0 hcc
   subst hvv
   subst hcc
   obtain ⟨p0, p1⟩ := own_block0 HO.out HNL.out hx
   have HXX := hidp hx
   have HDR : Hid (ys.drop i = x :: ys.drop (i + 1)) := hidp (by
    have h1 : i < ys.length := by have := HNL.out; omega
    rw [List.drop_eq_getElem_cons h1]
    congr 1
    have := List.getElem?_eq_getElem h1
    rw [hx] at this
    injection this with this
    exact this.symm)
   have HTK : Hid (ys.take (i + 1) = ys.take i ++ [x]) := hidp (by rw [List.take_add_one, hx]; rfl)
   have HW := hidp (HWF.out x (HP.out.mem_iff.1 (List.mem_of_getElem? hx)))
   obtain ⟨a, z⟩ := x
   have t0 : decide ((i : Int) < nl) = true := decide_eq_true (by omega)
   clear hn0 hx
   simp only at p0 p1
   have hz : -9223372036854775808 <= z /\ z <= 9223372036854775807 := by
    have := HW.out.2
    simp only [Lit.wf, Bool.and_eq_true, IntKind.min, IntKind.max, IntKind.signed, IntKind.bits] at this
    simp at this
    omega
   have HBX := hidp (Held.new wr 55 #[.int .i64 a, .int .i64 z])
   have HM1 := hidp (HM.out.stay (Bnew (B0 wr) (.cells #[.int .i64 a, .int .i64 z] 55)))
   have HO1 := hidp (own_below HO.out (Bnew (B0 wr) (.cells #[.int .i64 a, .int .i64 z] 55)))
   have HT1 : Hid (Turns F w (wr.alloc (.cells #[.int .i64 a, .int .i64 z] 55))) := hidp (HT.out.alloc _)
   have hX1 : ∃ u, Held (wr.alloc (.cells #[.int .i64 a, .int .i64 z] 55)) g 62 (mC t p s u R) := by
    obtain ⟨m, D, _, h1, _⟩ := HM1.out.ex
    exact ⟨_, h1⟩
   obtain ⟨um, hX1⟩ := hX1
   have hI := mdIn_h HM1.out.right hX1 a z hz
   rw [HGE.out.1, HGE.out.2] at hI
   have HI := hidp hI
   have HSR : Hid (w.heap.size <= wr.heap.size) := hidp HT.out.size
   obtain ⟨y0, y1⟩ := HBX.out.two
   clear hX1 hI hz
   cases hin : insB G E a z with
   | false =>
    have HF2 : Hid (fillB G E 0 ys = false) := hidp (by rw [HF.out, HDR.out]; unfold fillB; rw [hin]; rfl)
    have HIN := hidp hin
    clear hin
    go_wp2_with fail
    refine HI.out.mono ?_; rintro e w2 ⟨rfl, hb⟩; rw [HIN.out]
    have HT2 := hidp (HT1.out.trans (Turns.of_below hb F))
    clear hb p0 p1 y0 y1
    go_wp2_with fail
    go_ret
    exact ⟨ys, HP.out, HS.out, by rw [HF2.out]; rfl, HT2.out, fun h => by rw [HF2.out] at h; cases h⟩
   | true =>
    have HIN := hidp hin
    have hib := ins_parts hin
    clear hin
    by_cases hae : a < en
    ·have t1 : decide (a < en) = true := decide_eq_true hae
     have HF2 : Hid (fillB G E 0 ys = false) := hidp (by rw [HF.out, HDR.out]; unfold fillB; rw [decide_eq_false (p := en <= (a, z).1) (by show ¬ en <= a; omega), Bool.and_false, Bool.false_and])
     clear hae
     go_wp2_with fail
     refine HI.out.mono ?_; rintro e w2 ⟨rfl, hb⟩; rw [HIN.out]
     have HT2 := hidp (HT1.out.trans (Turns.of_below hb F))
     replace HBX := hidp (HBX.out.keep hb)
     clear hb p0 p1 y0 y1
     obtain ⟨y0, y1⟩ := HBX.out.two
     go_wp2_with fail
     go_ret
     exact ⟨ys, HP.out, HS.out, by rw [HF2.out]; rfl, HT2.out, fun h => by rw [HF2.out] at h; cases h⟩
    ·have t1 : decide (a < en) = false := decide_eq_false hae
     have HAE : Hid (en <= a) := hidp (by omega)
     have HF2 : Hid (fillB G E 0 ys = fillB G E (a + z) (ys.drop (i + 1))) := hidp (by rw [HF.out, HDR.out, fillB]; show (insB G E a z && decide (en <= a) && fillB G E (a + z) (ys.drop (i + 1))) = _; rw [HIN.out, decide_eq_true HAE.out]; rfl)
     have hwr : IntKind.i64.wrap (a + z) = a + z := i64_same (by omega) (by omega)
     have hen2 : 0 <= a + z /\ a + z <= 4294967296 := by omega
     have HNI : Hid ((a, z) ∉ ys.take i) := hidp (fun hm => by have := HLE.out _ hm; simp only at this; have := HAE.out; omega)
     clear hae
     go_wp2_with fail
     refine HI.out.mono ?_; rintro e w2 ⟨rfl, hb⟩; rw [HIN.out]
     have HT2 := hidp (HT1.out.trans (Turns.of_below hb F))
     replace HBX := hidp (HBX.out.keep hb)
     have HM2 := hidp (HM1.out.stay hb)
     have HO2 := hidp (own_below HO1.out hb)
     clear hb p0 p1 y0 y1
     obtain ⟨m, D, hm, hX, hO, hD⟩ := HM2.out.ex
     have HMX := hidp (And.intro hm (And.intro hX (And.intro hO hD)))
     have HSM : Hid (wr.heap.size ≠ m /\ g ≠ m /\ m < w.heap.size) := hidp ⟨fun e => by have := HFL.out m hm; have := HSR.out; omega, held_not_map hX hO, HFL.out m hm⟩
     obtain ⟨y0, y1⟩ := HBX.out.two
     obtain ⟨m0, m1, m2, m3⟩ := mod_cells hX
     clear hX hO hD hm
     go_wp2_with fail
     -- REGION
     have HLT : Hid ((ys.take i).length <= i /\ i <= 80000) := hidp ⟨by simp; omega, by omega⟩
     have HPR : Hid ((ys.take (i + 1)).Perm ((a, z) :: ys.take i)) := hidp (by rw [HTK.out]; exact List.perm_append_comm (l₁ := ys.take i) (l₂ := [(a, z)]))
     have HAS : Hid (AscM (ys.take (i + 1))) := hidp (by
      rw [HTK.out]
      refine List.pairwise_append.2 ⟨HM2.out.asc, List.pairwise_singleton _ _, fun x hx y hy => ?_⟩
      simp only [List.mem_singleton] at hy
      subst hy
      have := HLE.out x hx
      have := HAE.out
      show x.1 + x.2 <= a
      omega)
     have HIS : Hid (InsM (pageN t p s : Int) (endI t p s) (ys.take (i + 1))) := hidp (fun x hx => by
      rw [HTK.out] at hx
      rcases List.mem_append.1 hx with h1 | h1
      ·exact HM2.out.ins x h1
      ·simp only [List.mem_singleton] at h1
       subst h1
       rw [HGE.out.1, HGE.out.2]
       exact HIN.out)
     clear y0 y1 m0 m1 m2 m3
     replace HBX := hidp (HBX.out.keep (Bdrew (B0 _)))
     replace HM2 := hidp (HM2.out.stay (Bdrew (B0 _)))
     replace HO2 := hidp (own_below HO2.out (Bdrew (B0 _)))
     replace HT2 := hidp (HT2.out.trans (Turns.of_below (Bdrew (B0 _)) F))
     replace HMX := hidp (And.intro HMX.out.1 (And.intro (HMX.out.2.1.keep (Bdrew (B0 _))) (And.intro (owns_turns HMX.out.2.2.1 (Turns.of_below (Bdrew (B0 _)) (fun _ => False)) (fun x => x)) HMX.out.2.2.2)))
     refine wp_region_held_drew (S := (fun w' => (w'.cell? ⟨wr.heap.size, 0, none⟩ = some (.int .i64 a) /\ w'.cell? ⟨wr.heap.size, 1, none⟩ = some (.int .i64 z)) /\ (w'.cell? ⟨g, 0, none⟩ = some (.int .i64 t) /\ w'.cell? ⟨g, 1, none⟩ = some (.int .i64 p) /\ w'.cell? ⟨g, 2, none⟩ = some (.int .i64 s) /\ w'.cell? ⟨g, 3, none⟩ = some (.map (some m))))) (by kernel_rfl) ?_ (fun hHeld => ?_)
     ·(try dsimp only)
      first | exact ⟨HBX.out.two, mod_cells HMX.out.2.1⟩ | exact ⟨HBX.out.two, mod_cells HMX.out.2⟩ | exact hHeld
     refine tkz 0 ?_
     refine tkz 1 ?_
     refine tkz 2 ?_
     refine tkz 3 ?_
     refine tkz 4 ?_
     refine tkz 5 ?_
     refine rdz 6 fun K hK => ?_
     (refine step_mapUpdate rfl _ _ _ 60 rfl 55 72 bkKey Tryd.underlying60 unitElem m (ys.take i).length D rfl HMX.out.2.2.1 (by have := HLT.out; unfold maxLen; omega) _ _ (bkL a z) rfl rfl (bk_key HW.out.1 HW.out.2) _ [] unitElem_mk ?_; intro w3 hown3 hg3; have HM3 : Hid (IsMod w3 g F t p s (ys.take (i + 1)) R) := hidp (HM2.out.more HMX.out.1 HMX.out.2.1 HMX.out.2.2.1 HMX.out.2.2.2 (x := (a, z)) HW.out HNI.out HPR.out HAS.out HIS.out hown3 hg3); replace HBX : Hid (Held w3 wr.heap.size 55 #[.int .i64 a, .int .i64 z]) := hidp ((hg3.block _ HBX.out.lt (fun e => HSM.out.1 (by injection e))).trans HBX.out); replace HMX : Hid (F m /\ Held w3 g 62 (mC t p s (.map (some m)) R)) := hidp (And.intro HMX.out.1 ((hg3.block _ HMX.out.2.1.lt (fun e => HSM.out.2.1 (by injection e))).trans HMX.out.2.1)); have HO3 := hidp (own_kept HO2.out (fun g' hg' => hg3.block g' (HO2.out.lt g' hg').2 (fun e => by injection e with e; have := (HO2.out.lt g' hg').1; have := HSM.out.2.2; omega))); have HT3 : Hid (Turns F w w3) := hidp (HT2.out.trans (Turns.of_grown hg3 HMX.out.1)); clear hown3 hg3)
     refine hK.out _ _ ?_ (fun hHeld => ?_)
     ·(try dsimp only)
      first | exact ⟨HBX.out.two, mod_cells HMX.out.2.1⟩ | exact ⟨HBX.out.two, mod_cells HMX.out.2⟩ | exact hHeld
     clear hK K
     (try simp only [Act.put, gA, gB, gC, sA, sB, sC])
     refine dnz ?_
     have HLE3 : Hid (∀ x ∈ ys.take (i + 1), x.1 + x.2 <= a + z) := hidp (fun x hx => by
      rw [HTK.out] at hx
      rcases List.mem_append.1 hx with h1 | h1
      ·have := HLE.out x h1
       have := HAE.out
       have := ins_parts HIN.out
       omega
      ·simp only [List.mem_singleton] at h1
       subst h1
       exact Int.le_refl _)
     obtain ⟨y0, y1⟩ := HBX.out.two
     go_wp2_with fail
     go_roundw
     case rel => exact ⟨i + 1, a + z, by omega, by go_num, rfl, hen2, HM3, HO3, HT3, HF2, HLE3⟩
     case measure => simp [intOf]; omega
     -- END
  ·obtain rfl : i = nl := by omega
   have t0 : decide ((i : Int) < i) = false := decide_eq_false (by omega)
   have HTK : Hid (ys.take i = ys) := hidp (List.take_of_length_le (by rw [HNL.out]; exact Nat.le_refl _))
   have HF2 : Hid (fillB G E 0 ys = true) := hidp (by rw [HF.out, List.drop_of_length_le (by rw [HNL.out]; exact Nat.le_refl _)]; rfl)
   go_wp2_with fail
   go_ret
   exact ⟨ys, HP.out, HS.out, by rw [HF2.out]; rfl, HT.out, fun _ => by have := HM.out; rw [HTK.out] at this; exact this⟩
end
end
section
theorem idx8R (R : Nat -> Int) (k : Nat) (hk : k < 8) (w : World) : (Instr.index 25 (.agg #[.int .i64 (R 0), .int .i64 (R 1), .int .i64 (R 2), .int .i64 (R 3), .int .i64 (R 4), .int .i64 (R 5), .int .i64 (R 6), .int .i64 (R 7)]) (.int .i64 (k : Int))).run Tryd.prog w = .ok (.int .i64 (R k)) w := by
 rcases (by omega : k = 0 \/ k = 1 \/ k = 2 \/ k = 3 \/ k = 4 \/ k = 5 \/ k = 6 \/ k = 7) with rfl | rfl | rfl | rfl | rfl | rfl | rfl | rfl <;> kernel_rfl
abbrev stV (A : Option Addr) (n c : Nat) (R : Nat -> Int) : Array Value := #[.slice A n c, .int .i64 (R 0), .int .i64 (R 1), .int .i64 (R 2), .int .i64 (R 3), .int .i64 (R 4), .int .i64 (R 5), .int .i64 (R 6), .int .i64 (R 7)]
theorem st_cells {w : World} {b : Nat} {T : TypeId} {A : Option Addr} {n c : Nat} {R : Nat -> Int} (h : Held w b T (stV A n c R)) : w.cell? ⟨b, 0, none⟩ = some (.slice A n c) /\ w.cell? ⟨b, 1, none⟩ = some (.int .i64 (R 0)) /\ w.cell? ⟨b, 2, none⟩ = some (.int .i64 (R 1)) /\ w.cell? ⟨b, 3, none⟩ = some (.int .i64 (R 2)) /\ w.cell? ⟨b, 4, none⟩ = some (.int .i64 (R 3)) /\ w.cell? ⟨b, 5, none⟩ = some (.int .i64 (R 4)) /\ w.cell? ⟨b, 6, none⟩ = some (.int .i64 (R 5)) /\ w.cell? ⟨b, 7, none⟩ = some (.int .i64 (R 6)) /\ w.cell? ⟨b, 8, none⟩ = some (.int .i64 (R 7)) :=
 ⟨h.cell 0, h.cell 1, h.cell 2, h.cell 3, h.cell 4, h.cell 5, h.cell 6, h.cell 7, h.cell 8⟩
def setR8 (w : World) (g : Nat) (R : Nat -> Int) : World := (((((((w.setCell ⟨g, 4, none⟩ (.int .i64 (R 0))).setCell ⟨g, 5, none⟩ (.int .i64 (R 1))).setCell ⟨g, 6, none⟩ (.int .i64 (R 2))).setCell ⟨g, 7, none⟩ (.int .i64 (R 3))).setCell ⟨g, 8, none⟩ (.int .i64 (R 4))).setCell ⟨g, 9, none⟩ (.int .i64 (R 5))).setCell ⟨g, 10, none⟩ (.int .i64 (R 6))).setCell ⟨g, 11, none⟩ (.int .i64 (R 7))
section
variable {w : World} {g : Nat} {F : Nat -> Prop} {t p s : Int} {L : List (Int × Int)}
theorem IsMod.root_at {R0 : Nat -> Int} (h : IsMod w g F t p s L R0) (k : Nat) {j : Nat} (hk : k < 8) (hj : 4 + k = j) (x : Int) : IsMod (w.setCell ⟨g, j, none⟩ (.int .i64 x)) g F t p s L (updF R0 k x) := by
 subst hj
 exact h.root hk x
theorem upd8 (R0 R : Nat -> Int) {k : Nat} (hk : k < 8) : updF (updF (updF (updF (updF (updF (updF (updF R0 0 (R 0)) 1 (R 1)) 2 (R 2)) 3 (R 3)) 4 (R 4)) 5 (R 5)) 6 (R 6)) 7 (R 7) k = R k := by
 rcases (by omega : k = 0 \/ k = 1 \/ k = 2 \/ k = 3 \/ k = 4 \/ k = 5 \/ k = 6 \/ k = 7) with rfl | rfl | rfl | rfl | rfl | rfl | rfl | rfl <;> simp [updF]
theorem IsMod.roots {R0 : Nat -> Int} (h : IsMod w g F t p s L R0) (R : Nat -> Int) : IsMod (setR8 w g R) g F t p s L R := by
 unfold setR8
 have h1 := h.root_at 0 (j := 4) (by omega) rfl (R 0)
 have h2 := h1.root_at 1 (j := 5) (by omega) rfl (R 1)
 have h3 := h2.root_at 2 (j := 6) (by omega) rfl (R 2)
 have h4 := h3.root_at 3 (j := 7) (by omega) rfl (R 3)
 have h5 := h4.root_at 4 (j := 8) (by omega) rfl (R 4)
 have h6 := h5.root_at 5 (j := 9) (by omega) rfl (R 5)
 have h7 := h6.root_at 6 (j := 10) (by omega) rfl (R 6)
 have h8 := h7.root_at 7 (j := 11) (by omega) rfl (R 7)
 exact h8.congr (fun k hk => upd8 R0 R hk)
theorem setR8_below {w0 : World} (R : Nat -> Int) (h : Below w0.heap.size w0 w) (hg : w0.heap.size <= g) : Below w0.heap.size w0 (setR8 w g R) := by
 unfold setR8
 have b0 := h.setCell (p := ⟨g, 4, none⟩) hg (.int .i64 (R 0))
 have b1 := b0.setCell (p := ⟨g, 5, none⟩) hg (.int .i64 (R 1))
 have b2 := b1.setCell (p := ⟨g, 6, none⟩) hg (.int .i64 (R 2))
 have b3 := b2.setCell (p := ⟨g, 7, none⟩) hg (.int .i64 (R 3))
 have b4 := b3.setCell (p := ⟨g, 8, none⟩) hg (.int .i64 (R 4))
 have b5 := b4.setCell (p := ⟨g, 9, none⟩) hg (.int .i64 (R 5))
 have b6 := b5.setCell (p := ⟨g, 10, none⟩) hg (.int .i64 (R 6))
 have b7 := b6.setCell (p := ⟨g, 11, none⟩) hg (.int .i64 (R 7))
 exact b7
end
theorem of_nil (t p s : Int) (R : Nat -> Int) (A : Option Addr) (n c : Nat) (hr : rightB t p s = false) (w : World) : Calls Tryd.prog 8 #[.agg #[.int .i64 t, .int .i64 p, .int .i64 s], .agg (stV A n c R)] w fun e w' => e = .returned (.pointer none) /\ Below w.heap.size w w' := by
 have HX := hidp ((Held.new w 23 #[.int .i64 t, .int .i64 p, .int .i64 s]).alloc (.cells (stV A n c R) 27))
 have HB := hidp (Bnew (Bnew (B0 w) (.cells #[.int .i64 t, .int .i64 p, .int .i64 s] 23)) (.cells (stV A n c R) 27))
 obtain ⟨x0, x1, x2⟩ := HX.out.three
 have HR := hidp hr
 clear hr
 go_enter Tryd.func8, Tryd.ntmps8
 go_wp2_with fail
 refine (mdNew_no t p s HR.out _).mono ?_; rintro e w1 ⟨rfl, hb⟩
 replace HB := hidp (Bgo HB.out hb)
 clear hb x0 x1 x2
 go_wp2_with fail
 go_ret
 exact ⟨rfl, HB.out⟩
set_option maxHeartbeats 6400000 in
theorem of_go (t p s : Int) (R : Nat -> Int) (A : Option Addr) (n c : Nat) (l : List (Int × Int)) (hr : rightB t p s = true) (hl : l.length = n) (hn : n <= 80000) (hcn : n <= c /\ c <= maxLen) (w : World) (hin : BkIn w A l) (hwf : ∀ x ∈ l, WfB x) :
  Calls Tryd.prog 8 #[.agg #[.int .i64 t, .int .i64 p, .int .i64 s], .agg (stV A n c R)] w fun e w' => ∃ ys : List (Int × Int), ys.Perm l /\ ys.Pairwise (fun x y => x.1 <= y.1) /\ Below w.heap.size w w' /\ (if (fillB (pageN t p s : Int) (endI t p s) 0 ys && namedM ys R) = true then ∃ (g : Nat) (F : Nat -> Prop), e = .returned (.pointer (some ⟨g, 0, none⟩)) /\ (∀ i, F i -> w.heap.size <= i) /\ IsMod w' g F t p s ys R else e = .returned (.pointer none)) := by
 have HB := hidp (Bnew (Bnew (B0 w) (.cells #[.int .i64 t, .int .i64 p, .int .i64 s] 23)) (.cells (stV A n c R) 27))
 have HX := hidp ((Held.new w 23 #[.int .i64 t, .int .i64 p, .int .i64 s]).alloc (.cells (stV A n c R) 27))
 have HS := hidp (Held.new2 w (.cells #[.int .i64 t, .int .i64 p, .int .i64 s] 23) 27 (stV A n c R))
 have HR := hidp hr
 have HIN := hidp (hin.below HB.out)
 have HWF := hidp hwf
 obtain ⟨x0, x1, x2⟩ := HX.out.three
 have hix := idx8R R
 clear hr hin hwf
 go_enter Tryd.func8, Tryd.ntmps8
 go_wp2_with fail
 refine (mdNew_yes t p s HR.out _).mono ?_; rintro e w1 ⟨g, F, rfl, hF, hM, hb⟩
 have HF : Hid (∀ i, F i -> w.heap.size + 2 <= i) := hidp (fun i hi => by have := hF i hi; simp at this; omega)
 have HM := hidp hM
 replace HB := hidp (Bgo HB.out hb)
 replace HS := hidp (HS.out.keep hb)
 replace HIN := hidp (HIN.out.below hb)
 clear hb hM hF x0 x1 x2 HX
 obtain ⟨s0, _⟩ := st_cells HS.out
 go_wp2_with fail
 refine (mdFill_c HM.out A n c l hl hn hcn HIN.out HWF.out).mono ?_; rintro e w2 ⟨ys, hp, hs, rfl, hT, hM⟩
 have HP := hidp (And.intro hp hs)
 have HB2 : Hid (Below w.heap.size w w2) := hidp (hT.below HB.out (fun i hi => by have := HF.out i hi; omega))
 have HS2 := hidp (hT.held HS.out (fun h => by have := HF.out _ h; omega))
 have HM2 := hidp hM
 clear hp hs hT hM s0
 cases hf : fillB (pageN t p s : Int) (endI t p s) 0 ys with
 | false =>
  have HFF := hidp hf
  clear hf
  go_wp2_with fail
  go_ret
  exact ⟨ys, HP.out.1, HP.out.2, HB2.out, by rw [HFF.out, if_neg (by simp)]; rfl⟩
 | true =>
  have HM3 := hidp (HM2.out hf)
  have HFF := hidp hf
  clear hf
  obtain ⟨s0, s1, s2, s3, s4, s5, s6, s7, s8⟩ := st_cells HS2.out
  go_wp2_with fail
  go_loopw [23] (fun u23 wr => ∃ i : Nat, i <= 8 /\ u23 = .int .i64 (i : Int) /\ Hid (IsMod wr g F t p s ys (fun _ => 0)) /\ Hid (Held wr (w.heap.size + 1) 27 (stV A n c R)) /\ Hid (Below w.heap.size w wr) /\ Hid (∀ k, k < i -> R k = 0 \/ 0 <= mAt ys (R k))) (fun u23 _ => 8 - (intOf u23).toNat)
  case atStart => exact ⟨0, by omega, rfl, HM3, HS2, HB2, hidp (fun k hk => by omega)⟩
  case round =>
   clear HM3 HS2 HB2 HM2 HM HS HB s0 s1 s2 s3 s4 s5 s6 s7 s8 HIN
   obtain ⟨i, hi, rfl, HM, HS, HB, HK⟩ := hrel
   by_cases hlt : i < 8
   ·have t0 : decide ((i : Int) < 8) = true := decide_eq_true (by omega)
    have hix1 := hix i hlt
    obtain ⟨r, hri⟩ : ∃ r, R i = r := ⟨_, rfl⟩
    rw [hri] at hix1
    obtain ⟨q, hq⟩ : ∃ q, decide (0 <= mAt ys r) = q := ⟨_, rfl⟩
    obtain ⟨z, hz⟩ : ∃ z, blkAt ys r = z := ⟨_, rfl⟩
    obtain ⟨z1, z2⟩ := z
    have HAT : Hid (decide (0 <= mAt ys r) = q /\ blkAt ys r = (z1, z2)) := hidp ⟨hq, hz⟩
    have HRI := hidp hri
    clear hq hz hri hix
    go_wp2_with fail
    refine (mdAt_c HM.out r).mono ?_; rintro e w3 ⟨rfl, hb⟩; rw [HAT.out.1, HAT.out.2]
    replace HM := hidp (HM.out.stay hb)
    replace HS := hidp (HS.out.keep hb)
    replace HB := hidp (Bgo HB.out hb)
    clear hb
    by_cases h0 : r = 0
    ·have e0 : (r != 0) = false := by simp [h0]
     have HK2 : Hid (∀ k, k < i + 1 -> R k = 0 \/ 0 <= mAt ys (R k)) := hidp (fun k hk => by
      by_cases e : k = i
      ·rw [e, HRI.out]; exact .inl h0
      ·exact HK.out k (by omega))
     clear h0
     go_wp2_with fail
     go_roundw
     case rel => exact ⟨i + 1, by omega, by go_num, hidp (HM.out.stay (Bnew (B0 w3) _)), hidp (HS.out.alloc _), hidp (Bnew HB.out _), HK2⟩
     case measure => simp [intOf]; omega
    ·have e0 : (r != 0) = true := by simp [h0]
     cases q with
     | true =>
      have HK2 : Hid (∀ k, k < i + 1 -> R k = 0 \/ 0 <= mAt ys (R k)) := hidp (fun k hk => by
       by_cases e : k = i
       ·rw [e, HRI.out]; exact .inr (of_decide_eq_true HAT.out.1)
       ·exact HK.out k (by omega))
      clear h0
      go_wp2_with fail
      go_roundw
      case rel => exact ⟨i + 1, by omega, by go_num, hidp (HM.out.stay (Bnew (B0 w3) _)), hidp (HS.out.alloc _), hidp (Bnew HB.out _), HK2⟩
      case measure => simp [intOf]; omega
     | false =>
      have HNM : Hid (namedM ys R = false) := hidp (namedM_no hlt (by rw [HRI.out]; exact h0) (by rw [HRI.out]; have := of_decide_eq_false HAT.out.1; omega))
      clear h0
      go_wp2_with fail
      go_ret
      exact ⟨ys, HP.out.1, HP.out.2, Bnew HB.out _, by rw [HNM.out, Bool.and_false, if_neg (by simp)]; rfl⟩
   ·obtain rfl : i = 8 := by omega
    have t0 : decide (((8 : Nat) : Int) < 8) = false := by decide
    have HNM : Hid (namedM ys R = true) := hidp (namedM_yes (fun k hk => HK.out k hk))
    obtain ⟨s0, s1, s2, s3, s4, s5, s6, s7, s8⟩ := st_cells HS.out
    obtain ⟨m, D, _, hX, _, _⟩ := HM.out.ex
    have f0 := hX.thawed 4
    have f1 := hX.thawed 5
    have f2 := hX.thawed 6
    have f3 := hX.thawed 7
    have f4 := hX.thawed 8
    have f5 := hX.thawed 9
    have f6 := hX.thawed 10
    have f7 := hX.thawed 11
    have c0 : wr.cell? ⟨g, 4, none⟩ = some (.int .i64 0) := hX.cell 4
    have c1 : wr.cell? ⟨g, 5, none⟩ = some (.int .i64 0) := hX.cell 5
    have c2 : wr.cell? ⟨g, 6, none⟩ = some (.int .i64 0) := hX.cell 6
    have c3 : wr.cell? ⟨g, 7, none⟩ = some (.int .i64 0) := hX.cell 7
    have c4 : wr.cell? ⟨g, 8, none⟩ = some (.int .i64 0) := hX.cell 8
    have c5 : wr.cell? ⟨g, 9, none⟩ = some (.int .i64 0) := hX.cell 9
    have c6 : wr.cell? ⟨g, 10, none⟩ = some (.int .i64 0) := hX.cell 10
    have c7 : wr.cell? ⟨g, 11, none⟩ = some (.int .i64 0) := hX.cell 11
    have HEND := hidp (HM.out.roots R)
    have HEB := hidp (setR8_below R HB.out (by have := HF.out g HM.out.fg; omega : w.heap.size <= g))
    clear hX
    go_wp2_with fail
    go_ret
    refine ⟨ys, HP.out.1, HP.out.2, HEB.out, ?_⟩
    rw [HFF.out, HNM.out, Bool.and_self, if_pos rfl]
    exact ⟨g, F, rfl, fun i hi => by have := HF.out i hi; omega, HEND.out⟩
end
end Go.Proofs.YtedakmhffjhfnaaDoor
