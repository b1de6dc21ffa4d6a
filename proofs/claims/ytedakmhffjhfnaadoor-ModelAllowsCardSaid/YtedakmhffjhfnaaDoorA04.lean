/-
  What the document's automaton allows (nacreref26.Allows). Written by model/gen_top.py.
-/
import Derived.Test.YtedakmhffjhfnaaDoorA03
namespace Go.Proofs.YtedakmhffjhfnaaDoor
open Go.ChangeShapes Go.WideShapes Go.ChangeAt Go.RowKit Go.Maps
set_option linter.unusedVariables false
set_option linter.unusedSimpArgs false
set_option maxRecDepth 100000
section
set_option maxHeartbeats 6400000 in
theorem r26Allow_wrong {w : World} {g base : Nat} {Z : Nat -> Prop} {t p s : Int} {L : List (Int × Int)} {R : Nat -> Int} (h : RMod w g base Z t p s L R) (hn : L.length <= 90000) (k a b err out aux : Int) (ha : -9223372036854775808 <= a /\ a <= 9223372036854775807) (hb : -9223372036854775808 <= b /\ b <= 9223372036854775807) (hk : -9223372036854775808 <= k /\ k <= 9223372036854775807) (ho : opB k a b = false) (jb : Bool) (hj : justB 1 err out aux = jb) : Calls Tryd.prog 15 #[.pointer (some ⟨g, 0, none⟩), .agg #[.int .i64 k, .int .i64 a, .int .i64 b], .agg #[.int .i64 err, .int .i64 out, .int .i64 aux]] w fun e w' => e = .returned (.bool (jb)) /\ Below w.heap.size w w' := by
 have HKL := hidp hk
 clear hk
 have HAL := hidp ha
 have HBL := hidp hb
 clear ha hb
 have HRT := hidp ho
 have HJ := hidp hj
 clear ho hj
 have HB := hidp (Bnew (Bnew (B0 w) (.cells #[.int .i64 k, .int .i64 a, .int .i64 b] 29)) (.cells #[.int .i64 err, .int .i64 out, .int .i64 aux] 32))
 have HM := hidp (h.keep HB.out)
 have HX := hidp ((Held.new w 29 #[.int .i64 k, .int .i64 a, .int .i64 b]).alloc (.cells #[.int .i64 err, .int .i64 out, .int .i64 aux] 32))
 have HY := hidp (Held.new2 w (.cells #[.int .i64 k, .int .i64 a, .int .i64 b] 29) 32 #[.int .i64 err, .int .i64 out, .int .i64 aux])
 have HN := hidp hn
 obtain ⟨A, c, hx, ho⟩ := h.ex
 have HG := hidp (hx.keep HB.out)
 have HO := hidp (own_below ho HB.out)
 have hcv := own_caps3 ho
 clear hx ho h hn
 obtain ⟨x0, x1, x2⟩ := HX.out.three
 obtain ⟨y0, y1, y2⟩ := HY.out.three
 obtain ⟨m0, m1, m2, m3⟩ := mod_cells HG.out
 go_enter Tryd.func15, Tryd.ntmps15
 go_wp2_with fail
 refine (r22Right_c k a b HKL.out HAL.out HBL.out _).mono ?_; rintro e w1 ⟨rfl, hb⟩; rw [HRT.out]
 clear x0 x1 x2 y0 y1 y2 m0 m1 m2 m3
 replace HX := hidp (HX.out.keep hb)
 replace HY := hidp (HY.out.keep hb)
 replace HG := hidp (HG.out.keep hb)
 replace HO := hidp (own_below HO.out hb)
 replace HM := hidp (HM.out.keep hb)
 replace HB := hidp (Bgo HB.out hb)
 clear hb
 obtain ⟨x0, x1, x2⟩ := HX.out.three
 obtain ⟨y0, y1, y2⟩ := HY.out.three
 obtain ⟨m0, m1, m2, m3⟩ := mod_cells HG.out
 go_wp2_with fail
 refine (r26Just_c 1 err out aux _).mono ?_; rintro e w1 ⟨rfl, hb⟩; rw [HJ.out]
 clear x0 x1 x2 y0 y1 y2 m0 m1 m2 m3
 replace HX := hidp (HX.out.keep hb)
 replace HY := hidp (HY.out.keep hb)
 replace HG := hidp (HG.out.keep hb)
 replace HO := hidp (own_below HO.out hb)
 replace HM := hidp (HM.out.keep hb)
 replace HB := hidp (Bgo HB.out hb)
 clear hb
 obtain ⟨x0, x1, x2⟩ := HX.out.three
 obtain ⟨y0, y1, y2⟩ := HY.out.three
 obtain ⟨m0, m1, m2, m3⟩ := mod_cells HG.out
 go_wp2_with fail
 go_ret
 exact ⟨by first | rfl | (rw [HV.out]; rfl), HB.out⟩

set_option maxHeartbeats 6400000 in
theorem r26Allow_none2 {w : World} {g base : Nat} {Z : Nat -> Prop} {t p s : Int} {L : List (Int × Int)} {R : Nat -> Int} (h : RMod w g base Z t p s L R) (hn : L.length <= 90000) (a b err out aux : Int) (ha : -9223372036854775808 <= a /\ a <= 9223372036854775807) (hb : -9223372036854775808 <= b /\ b <= 9223372036854775807) (ho : opB 2 a b = true) (hi : mAt L a = -1) (jb : Bool) (hj : justB 4 err out aux = jb) : Calls Tryd.prog 15 #[.pointer (some ⟨g, 0, none⟩), .agg #[.int .i64 2, .int .i64 a, .int .i64 b], .agg #[.int .i64 err, .int .i64 out, .int .i64 aux]] w fun e w' => e = .returned (.bool (jb)) /\ Below w.heap.size w w' := by
 have HKL : Hid (-9223372036854775808 <= (2 : Int) /\ (2 : Int) <= 9223372036854775807) := hidp (by omega)
 have HAL := hidp ha
 have HBL := hidp hb
 clear ha hb
 have HRT := hidp ho
 clear ho
 have HI := hidp hi
 have HJ := hidp hj
 clear hi hj
 have HB := hidp (Bnew (Bnew (B0 w) (.cells #[.int .i64 2, .int .i64 a, .int .i64 b] 29)) (.cells #[.int .i64 err, .int .i64 out, .int .i64 aux] 32))
 have HM := hidp (h.keep HB.out)
 have HX := hidp ((Held.new w 29 #[.int .i64 2, .int .i64 a, .int .i64 b]).alloc (.cells #[.int .i64 err, .int .i64 out, .int .i64 aux] 32))
 have HY := hidp (Held.new2 w (.cells #[.int .i64 2, .int .i64 a, .int .i64 b] 29) 32 #[.int .i64 err, .int .i64 out, .int .i64 aux])
 have HN := hidp hn
 obtain ⟨A, c, hx, ho⟩ := h.ex
 have HG := hidp (hx.keep HB.out)
 have HO := hidp (own_below ho HB.out)
 have hcv := own_caps3 ho
 clear hx ho h hn
 obtain ⟨x0, x1, x2⟩ := HX.out.three
 obtain ⟨y0, y1, y2⟩ := HY.out.three
 obtain ⟨m0, m1, m2, m3⟩ := mod_cells HG.out
 go_enter Tryd.func15, Tryd.ntmps15
 go_wp2_with fail
 refine (r22Right_c 2 a b HKL.out HAL.out HBL.out _).mono ?_; rintro e w1 ⟨rfl, hb⟩; rw [HRT.out]
 clear x0 x1 x2 y0 y1 y2 m0 m1 m2 m3
 replace HX := hidp (HX.out.keep hb)
 replace HY := hidp (HY.out.keep hb)
 replace HG := hidp (HG.out.keep hb)
 replace HO := hidp (own_below HO.out hb)
 replace HM := hidp (HM.out.keep hb)
 replace HB := hidp (Bgo HB.out hb)
 clear hb
 obtain ⟨x0, x1, x2⟩ := HX.out.three
 obtain ⟨y0, y1, y2⟩ := HY.out.three
 obtain ⟨m0, m1, m2, m3⟩ := mod_cells HG.out
 go_wp2_with fail
 refine (r26At_c HM.out HN.out a).mono ?_; rintro e w1 ⟨rfl, rfl⟩; rw [HI.out]
 go_wp2_with fail
 refine (r26Just_c 4 err out aux _).mono ?_; rintro e w1 ⟨rfl, hb⟩; rw [HJ.out]
 clear x0 x1 x2 y0 y1 y2 m0 m1 m2 m3
 replace HX := hidp (HX.out.keep hb)
 replace HY := hidp (HY.out.keep hb)
 replace HG := hidp (HG.out.keep hb)
 replace HO := hidp (own_below HO.out hb)
 replace HM := hidp (HM.out.keep hb)
 replace HB := hidp (Bgo HB.out hb)
 clear hb
 obtain ⟨x0, x1, x2⟩ := HX.out.three
 obtain ⟨y0, y1, y2⟩ := HY.out.three
 obtain ⟨m0, m1, m2, m3⟩ := mod_cells HG.out
 go_wp2_with fail
 go_ret
 exact ⟨by first | rfl | (rw [HV.out]; rfl), HB.out⟩

set_option maxHeartbeats 6400000 in
theorem r26Allow_none3 {w : World} {g base : Nat} {Z : Nat -> Prop} {t p s : Int} {L : List (Int × Int)} {R : Nat -> Int} (h : RMod w g base Z t p s L R) (hn : L.length <= 90000) (a b err out aux : Int) (ha : -9223372036854775808 <= a /\ a <= 9223372036854775807) (hb : -9223372036854775808 <= b /\ b <= 9223372036854775807) (ho : opB 3 a b = true) (hi : mAt L a = -1) (jb : Bool) (hj : justB 4 err out aux = jb) : Calls Tryd.prog 15 #[.pointer (some ⟨g, 0, none⟩), .agg #[.int .i64 3, .int .i64 a, .int .i64 b], .agg #[.int .i64 err, .int .i64 out, .int .i64 aux]] w fun e w' => e = .returned (.bool (jb)) /\ Below w.heap.size w w' := by
 have HKL : Hid (-9223372036854775808 <= (3 : Int) /\ (3 : Int) <= 9223372036854775807) := hidp (by omega)
 have HAL := hidp ha
 have HBL := hidp hb
 clear ha hb
 have HRT := hidp ho
 clear ho
 have HI := hidp hi
 have HJ := hidp hj
 clear hi hj
 have HB := hidp (Bnew (Bnew (B0 w) (.cells #[.int .i64 3, .int .i64 a, .int .i64 b] 29)) (.cells #[.int .i64 err, .int .i64 out, .int .i64 aux] 32))
 have HM := hidp (h.keep HB.out)
 have HX := hidp ((Held.new w 29 #[.int .i64 3, .int .i64 a, .int .i64 b]).alloc (.cells #[.int .i64 err, .int .i64 out, .int .i64 aux] 32))
 have HY := hidp (Held.new2 w (.cells #[.int .i64 3, .int .i64 a, .int .i64 b] 29) 32 #[.int .i64 err, .int .i64 out, .int .i64 aux])
 have HN := hidp hn
 obtain ⟨A, c, hx, ho⟩ := h.ex
 have HG := hidp (hx.keep HB.out)
 have HO := hidp (own_below ho HB.out)
 have hcv := own_caps3 ho
 clear hx ho h hn
 obtain ⟨x0, x1, x2⟩ := HX.out.three
 obtain ⟨y0, y1, y2⟩ := HY.out.three
 obtain ⟨m0, m1, m2, m3⟩ := mod_cells HG.out
 go_enter Tryd.func15, Tryd.ntmps15
 go_wp2_with fail
 refine (r22Right_c 3 a b HKL.out HAL.out HBL.out _).mono ?_; rintro e w1 ⟨rfl, hb⟩; rw [HRT.out]
 clear x0 x1 x2 y0 y1 y2 m0 m1 m2 m3
 replace HX := hidp (HX.out.keep hb)
 replace HY := hidp (HY.out.keep hb)
 replace HG := hidp (HG.out.keep hb)
 replace HO := hidp (own_below HO.out hb)
 replace HM := hidp (HM.out.keep hb)
 replace HB := hidp (Bgo HB.out hb)
 clear hb
 obtain ⟨x0, x1, x2⟩ := HX.out.three
 obtain ⟨y0, y1, y2⟩ := HY.out.three
 obtain ⟨m0, m1, m2, m3⟩ := mod_cells HG.out
 go_wp2_with fail
 refine (r26At_c HM.out HN.out a).mono ?_; rintro e w1 ⟨rfl, rfl⟩; rw [HI.out]
 go_wp2_with fail
 refine (r26Just_c 4 err out aux _).mono ?_; rintro e w1 ⟨rfl, hb⟩; rw [HJ.out]
 clear x0 x1 x2 y0 y1 y2 m0 m1 m2 m3
 replace HX := hidp (HX.out.keep hb)
 replace HY := hidp (HY.out.keep hb)
 replace HG := hidp (HG.out.keep hb)
 replace HO := hidp (own_below HO.out hb)
 replace HM := hidp (HM.out.keep hb)
 replace HB := hidp (Bgo HB.out hb)
 clear hb
 obtain ⟨x0, x1, x2⟩ := HX.out.three
 obtain ⟨y0, y1, y2⟩ := HY.out.three
 obtain ⟨m0, m1, m2, m3⟩ := mod_cells HG.out
 go_wp2_with fail
 go_ret
 exact ⟨by first | rfl | (rw [HV.out]; rfl), HB.out⟩

set_option maxHeartbeats 6400000 in
theorem r26Allow_none7 {w : World} {g base : Nat} {Z : Nat -> Prop} {t p s : Int} {L : List (Int × Int)} {R : Nat -> Int} (h : RMod w g base Z t p s L R) (hn : L.length <= 90000) (a b err out aux : Int) (ha : -9223372036854775808 <= a /\ a <= 9223372036854775807) (hb : -9223372036854775808 <= b /\ b <= 9223372036854775807) (ho : opB 7 a b = true) (hi : mAt L a = -1) (jb : Bool) (hj : justB 4 err out aux = jb) : Calls Tryd.prog 15 #[.pointer (some ⟨g, 0, none⟩), .agg #[.int .i64 7, .int .i64 a, .int .i64 b], .agg #[.int .i64 err, .int .i64 out, .int .i64 aux]] w fun e w' => e = .returned (.bool (jb)) /\ Below w.heap.size w w' := by
 have HKL : Hid (-9223372036854775808 <= (7 : Int) /\ (7 : Int) <= 9223372036854775807) := hidp (by omega)
 have HAL := hidp ha
 have HBL := hidp hb
 clear ha hb
 have HRT := hidp ho
 clear ho
 have HI := hidp hi
 have HJ := hidp hj
 clear hi hj
 have HB := hidp (Bnew (Bnew (B0 w) (.cells #[.int .i64 7, .int .i64 a, .int .i64 b] 29)) (.cells #[.int .i64 err, .int .i64 out, .int .i64 aux] 32))
 have HM := hidp (h.keep HB.out)
 have HX := hidp ((Held.new w 29 #[.int .i64 7, .int .i64 a, .int .i64 b]).alloc (.cells #[.int .i64 err, .int .i64 out, .int .i64 aux] 32))
 have HY := hidp (Held.new2 w (.cells #[.int .i64 7, .int .i64 a, .int .i64 b] 29) 32 #[.int .i64 err, .int .i64 out, .int .i64 aux])
 have HN := hidp hn
 obtain ⟨A, c, hx, ho⟩ := h.ex
 have HG := hidp (hx.keep HB.out)
 have HO := hidp (own_below ho HB.out)
 have hcv := own_caps3 ho
 clear hx ho h hn
 obtain ⟨x0, x1, x2⟩ := HX.out.three
 obtain ⟨y0, y1, y2⟩ := HY.out.three
 obtain ⟨m0, m1, m2, m3⟩ := mod_cells HG.out
 go_enter Tryd.func15, Tryd.ntmps15
 go_wp2_with fail
 refine (r22Right_c 7 a b HKL.out HAL.out HBL.out _).mono ?_; rintro e w1 ⟨rfl, hb⟩; rw [HRT.out]
 clear x0 x1 x2 y0 y1 y2 m0 m1 m2 m3
 replace HX := hidp (HX.out.keep hb)
 replace HY := hidp (HY.out.keep hb)
 replace HG := hidp (HG.out.keep hb)
 replace HO := hidp (own_below HO.out hb)
 replace HM := hidp (HM.out.keep hb)
 replace HB := hidp (Bgo HB.out hb)
 clear hb
 obtain ⟨x0, x1, x2⟩ := HX.out.three
 obtain ⟨y0, y1, y2⟩ := HY.out.three
 obtain ⟨m0, m1, m2, m3⟩ := mod_cells HG.out
 go_wp2_with fail
 refine (r26At_c HM.out HN.out a).mono ?_; rintro e w1 ⟨rfl, rfl⟩; rw [HI.out]
 go_wp2_with fail
 refine (r26Just_c 4 err out aux _).mono ?_; rintro e w1 ⟨rfl, hb⟩; rw [HJ.out]
 clear x0 x1 x2 y0 y1 y2 m0 m1 m2 m3
 replace HX := hidp (HX.out.keep hb)
 replace HY := hidp (HY.out.keep hb)
 replace HG := hidp (HG.out.keep hb)
 replace HO := hidp (own_below HO.out hb)
 replace HM := hidp (HM.out.keep hb)
 replace HB := hidp (Bgo HB.out hb)
 clear hb
 obtain ⟨x0, x1, x2⟩ := HX.out.three
 obtain ⟨y0, y1, y2⟩ := HY.out.three
 obtain ⟨m0, m1, m2, m3⟩ := mod_cells HG.out
 go_wp2_with fail
 go_ret
 exact ⟨by first | rfl | (rw [HV.out]; rfl), HB.out⟩

set_option maxHeartbeats 6400000 in
theorem r26Allow_alloc {w : World} {g base : Nat} {Z : Nat -> Prop} {t p s : Int} {L : List (Int × Int)} {R : Nat -> Int} (h : RMod w g base Z t p s L R) (hn : L.length <= 90000) (a b err out aux : Int) (ha : -9223372036854775808 <= a /\ a <= 9223372036854775807) (hb : -9223372036854775808 <= b /\ b <= 9223372036854775807) (ho : opB 1 a b = true) (i : Int) (hi : mAt L a = i) (u : Int) (nb : Bool) (hu : rdI t p s a = u) (hnb : needB t p s a = nb) (xb : Bool) (hm : madeM t p s L a err out aux (-1) = true) (hx : auxB err aux u = xb) : Calls Tryd.prog 15 #[.pointer (some ⟨g, 0, none⟩), .agg #[.int .i64 1, .int .i64 a, .int .i64 b], .agg #[.int .i64 err, .int .i64 out, .int .i64 aux]] w fun e w' => e = .returned (.bool (xb)) /\ Below w.heap.size w w' := by
 have HKL : Hid (-9223372036854775808 <= (1 : Int) /\ (1 : Int) <= 9223372036854775807) := hidp (by omega)
 have HAL := hidp ha
 have HBL := hidp hb
 clear ha hb
 have HRT := hidp ho
 clear ho
 have HI := hidp hi
 have HU : Hid (rdI t p s a = u /\ needB t p s a = nb) := hidp ⟨hu, hnb⟩
 clear hu hnb
 have HMB := hidp hm
 have HXB := hidp hx
 clear hi hm hx
 have HB := hidp (Bnew (Bnew (B0 w) (.cells #[.int .i64 1, .int .i64 a, .int .i64 b] 29)) (.cells #[.int .i64 err, .int .i64 out, .int .i64 aux] 32))
 have HM := hidp (h.keep HB.out)
 have HX := hidp ((Held.new w 29 #[.int .i64 1, .int .i64 a, .int .i64 b]).alloc (.cells #[.int .i64 err, .int .i64 out, .int .i64 aux] 32))
 have HY := hidp (Held.new2 w (.cells #[.int .i64 1, .int .i64 a, .int .i64 b] 29) 32 #[.int .i64 err, .int .i64 out, .int .i64 aux])
 have HN := hidp hn
 obtain ⟨A, c, hx, ho⟩ := h.ex
 have HG := hidp (hx.keep HB.out)
 have HO := hidp (own_below ho HB.out)
 have hcv := own_caps3 ho
 clear hx ho h hn
 obtain ⟨x0, x1, x2⟩ := HX.out.three
 obtain ⟨y0, y1, y2⟩ := HY.out.three
 obtain ⟨m0, m1, m2, m3⟩ := mod_cells HG.out
 go_enter Tryd.func15, Tryd.ntmps15
 go_wp2_with fail
 refine (r22Right_c 1 a b HKL.out HAL.out HBL.out _).mono ?_; rintro e w1 ⟨rfl, hb⟩; rw [HRT.out]
 clear x0 x1 x2 y0 y1 y2 m0 m1 m2 m3
 replace HX := hidp (HX.out.keep hb)
 replace HY := hidp (HY.out.keep hb)
 replace HG := hidp (HG.out.keep hb)
 replace HO := hidp (own_below HO.out hb)
 replace HM := hidp (HM.out.keep hb)
 replace HB := hidp (Bgo HB.out hb)
 clear hb
 obtain ⟨x0, x1, x2⟩ := HX.out.three
 obtain ⟨y0, y1, y2⟩ := HY.out.three
 obtain ⟨m0, m1, m2, m3⟩ := mod_cells HG.out
 go_wp2_with fail
 refine (r26At_c HM.out HN.out a).mono ?_; rintro e w1 ⟨rfl, rfl⟩; rw [HI.out]
 go_wp2_with fail
 clear x0 x1 x2 y0 y1 y2 m0 m1 m2 m3
 replace HX := hidp (HX.out.keep (Bdrew (B0 _)))
 replace HY := hidp (HY.out.keep (Bdrew (B0 _)))
 replace HG := hidp (HG.out.keep (Bdrew (B0 _)))
 replace HO := hidp (own_below HO.out (Bdrew (B0 _)))
 replace HM := hidp (HM.out.keep (Bdrew (B0 _)))
 replace HB := hidp (Bgo HB.out (Bdrew (B0 _)))
 refine wp_region_held_drew (S := (fun w' => (w'.cell? ⟨w.heap.size, 0, none⟩ = some (.int .i64 1) /\ w'.cell? ⟨w.heap.size, 1, none⟩ = some (.int .i64 a) /\ w'.cell? ⟨w.heap.size, 2, none⟩ = some (.int .i64 b)) /\ (w'.cell? ⟨w.heap.size + 1, 0, none⟩ = some (.int .i64 err) /\ w'.cell? ⟨w.heap.size + 1, 1, none⟩ = some (.int .i64 out) /\ w'.cell? ⟨w.heap.size + 1, 2, none⟩ = some (.int .i64 aux)) /\ (w'.cell? ⟨g, 0, none⟩ = some (.int .i64 t) /\ w'.cell? ⟨g, 1, none⟩ = some (.int .i64 p) /\ w'.cell? ⟨g, 2, none⟩ = some (.int .i64 s) /\ w'.cell? ⟨g, 3, none⟩ = some (.slice A L.length c)))) (by kernel_rfl) ?_ (fun hHeld => ?_)
 ·(try dsimp only)
  first | exact ⟨HX.out.three, HY.out.three, mod_cells HG.out⟩ | exact hHeld
 refine tkz 0 ?_
 refine tkz 1 ?_
 refine tkz 2 ?_
 refine tkz 3 ?_
 refine tkz 4 ?_
 refine tkz 5 ?_
 refine rdz 6 fun K hK => ?_
 go_simp
 (refine (r26Round_c t p s a HAL.out _).mono ?_; rintro e w1 ⟨rfl, hb⟩; rw [HU.out.1, HU.out.2]; replace HX := hidp (HX.out.keep hb); replace HY := hidp (HY.out.keep hb); replace HG := hidp (HG.out.keep hb); replace HO := hidp (own_below HO.out hb); replace HM := hidp (HM.out.keep hb); replace HB := hidp (Bgo HB.out hb); clear hb)
 refine hK.out _ _ ?_ (fun hHeld => ?_)
 ·(try dsimp only)
  first | exact ⟨HX.out.three, HY.out.three, mod_cells HG.out⟩ | exact hHeld
 clear hK K
 (try simp only [Act.put, gA, gB, gC, sA, sB, sC])
 refine tkz 7 ?_
 refine tkz 8 ?_
 refine tkz 9 ?_
 refine tkz 10 ?_
 refine tkz 11 ?_
 refine dnz ?_
 obtain ⟨x0, x1, x2⟩ := HX.out.three
 obtain ⟨y0, y1, y2⟩ := HY.out.three
 obtain ⟨m0, m1, m2, m3⟩ := mod_cells HG.out
 go_wp2_with fail
 refine (r26Made_c HM.out HN.out a err out aux (-1) HAL.out).mono ?_; rintro e w1 ⟨rfl, hb⟩; rw [HMB.out]
 clear x0 x1 x2 y0 y1 y2 m0 m1 m2 m3
 replace HX := hidp (HX.out.keep hb)
 replace HY := hidp (HY.out.keep hb)
 replace HG := hidp (HG.out.keep hb)
 replace HO := hidp (own_below HO.out hb)
 replace HM := hidp (HM.out.keep hb)
 replace HB := hidp (Bgo HB.out hb)
 clear hb
 obtain ⟨x0, x1, x2⟩ := HX.out.three
 obtain ⟨y0, y1, y2⟩ := HY.out.three
 obtain ⟨m0, m1, m2, m3⟩ := mod_cells HG.out
 go_wp2_with fail
 refine (r26Aux_c err out aux u _).mono ?_; rintro e w1 ⟨rfl, hb⟩; rw [HXB.out]
 clear x0 x1 x2 y0 y1 y2 m0 m1 m2 m3
 replace HX := hidp (HX.out.keep hb)
 replace HY := hidp (HY.out.keep hb)
 replace HG := hidp (HG.out.keep hb)
 replace HO := hidp (own_below HO.out hb)
 replace HM := hidp (HM.out.keep hb)
 replace HB := hidp (Bgo HB.out hb)
 clear hb
 obtain ⟨x0, x1, x2⟩ := HX.out.three
 obtain ⟨y0, y1, y2⟩ := HY.out.three
 obtain ⟨m0, m1, m2, m3⟩ := mod_cells HG.out
 go_wp2_with fail
 go_ret
 exact ⟨by first | rfl | (rw [HV.out]; rfl), HB.out⟩

set_option maxHeartbeats 6400000 in
theorem r26Allow_noalloc {w : World} {g base : Nat} {Z : Nat -> Prop} {t p s : Int} {L : List (Int × Int)} {R : Nat -> Int} (h : RMod w g base Z t p s L R) (hn : L.length <= 90000) (a b err out aux : Int) (ha : -9223372036854775808 <= a /\ a <= 9223372036854775807) (hb : -9223372036854775808 <= b /\ b <= 9223372036854775807) (ho : opB 1 a b = true) (i : Int) (hi : mAt L a = i) (u : Int) (nb : Bool) (hu : rdI t p s a = u) (hnb : needB t p s a = nb) (hm : madeM t p s L a err out aux (-1) = false) : Calls Tryd.prog 15 #[.pointer (some ⟨g, 0, none⟩), .agg #[.int .i64 1, .int .i64 a, .int .i64 b], .agg #[.int .i64 err, .int .i64 out, .int .i64 aux]] w fun e w' => e = .returned (.bool (false)) /\ Below w.heap.size w w' := by
 have HKL : Hid (-9223372036854775808 <= (1 : Int) /\ (1 : Int) <= 9223372036854775807) := hidp (by omega)
 have HAL := hidp ha
 have HBL := hidp hb
 clear ha hb
 have HRT := hidp ho
 clear ho
 have HI := hidp hi
 have HU : Hid (rdI t p s a = u /\ needB t p s a = nb) := hidp ⟨hu, hnb⟩
 clear hu hnb
 have HMB := hidp hm
 clear hi hm
 have HB := hidp (Bnew (Bnew (B0 w) (.cells #[.int .i64 1, .int .i64 a, .int .i64 b] 29)) (.cells #[.int .i64 err, .int .i64 out, .int .i64 aux] 32))
 have HM := hidp (h.keep HB.out)
 have HX := hidp ((Held.new w 29 #[.int .i64 1, .int .i64 a, .int .i64 b]).alloc (.cells #[.int .i64 err, .int .i64 out, .int .i64 aux] 32))
 have HY := hidp (Held.new2 w (.cells #[.int .i64 1, .int .i64 a, .int .i64 b] 29) 32 #[.int .i64 err, .int .i64 out, .int .i64 aux])
 have HN := hidp hn
 obtain ⟨A, c, hx, ho⟩ := h.ex
 have HG := hidp (hx.keep HB.out)
 have HO := hidp (own_below ho HB.out)
 have hcv := own_caps3 ho
 clear hx ho h hn
 obtain ⟨x0, x1, x2⟩ := HX.out.three
 obtain ⟨y0, y1, y2⟩ := HY.out.three
 obtain ⟨m0, m1, m2, m3⟩ := mod_cells HG.out
 go_enter Tryd.func15, Tryd.ntmps15
 go_wp2_with fail
 refine (r22Right_c 1 a b HKL.out HAL.out HBL.out _).mono ?_; rintro e w1 ⟨rfl, hb⟩; rw [HRT.out]
 clear x0 x1 x2 y0 y1 y2 m0 m1 m2 m3
 replace HX := hidp (HX.out.keep hb)
 replace HY := hidp (HY.out.keep hb)
 replace HG := hidp (HG.out.keep hb)
 replace HO := hidp (own_below HO.out hb)
 replace HM := hidp (HM.out.keep hb)
 replace HB := hidp (Bgo HB.out hb)
 clear hb
 obtain ⟨x0, x1, x2⟩ := HX.out.three
 obtain ⟨y0, y1, y2⟩ := HY.out.three
 obtain ⟨m0, m1, m2, m3⟩ := mod_cells HG.out
 go_wp2_with fail
 refine (r26At_c HM.out HN.out a).mono ?_; rintro e w1 ⟨rfl, rfl⟩; rw [HI.out]
 go_wp2_with fail
 clear x0 x1 x2 y0 y1 y2 m0 m1 m2 m3
 replace HX := hidp (HX.out.keep (Bdrew (B0 _)))
 replace HY := hidp (HY.out.keep (Bdrew (B0 _)))
 replace HG := hidp (HG.out.keep (Bdrew (B0 _)))
 replace HO := hidp (own_below HO.out (Bdrew (B0 _)))
 replace HM := hidp (HM.out.keep (Bdrew (B0 _)))
 replace HB := hidp (Bgo HB.out (Bdrew (B0 _)))
 refine wp_region_held_drew (S := (fun w' => (w'.cell? ⟨w.heap.size, 0, none⟩ = some (.int .i64 1) /\ w'.cell? ⟨w.heap.size, 1, none⟩ = some (.int .i64 a) /\ w'.cell? ⟨w.heap.size, 2, none⟩ = some (.int .i64 b)) /\ (w'.cell? ⟨w.heap.size + 1, 0, none⟩ = some (.int .i64 err) /\ w'.cell? ⟨w.heap.size + 1, 1, none⟩ = some (.int .i64 out) /\ w'.cell? ⟨w.heap.size + 1, 2, none⟩ = some (.int .i64 aux)) /\ (w'.cell? ⟨g, 0, none⟩ = some (.int .i64 t) /\ w'.cell? ⟨g, 1, none⟩ = some (.int .i64 p) /\ w'.cell? ⟨g, 2, none⟩ = some (.int .i64 s) /\ w'.cell? ⟨g, 3, none⟩ = some (.slice A L.length c)))) (by kernel_rfl) ?_ (fun hHeld => ?_)
 ·(try dsimp only)
  first | exact ⟨HX.out.three, HY.out.three, mod_cells HG.out⟩ | exact hHeld
 refine tkz 0 ?_
 refine tkz 1 ?_
 refine tkz 2 ?_
 refine tkz 3 ?_
 refine tkz 4 ?_
 refine tkz 5 ?_
 refine rdz 6 fun K hK => ?_
 go_simp
 (refine (r26Round_c t p s a HAL.out _).mono ?_; rintro e w1 ⟨rfl, hb⟩; rw [HU.out.1, HU.out.2]; replace HX := hidp (HX.out.keep hb); replace HY := hidp (HY.out.keep hb); replace HG := hidp (HG.out.keep hb); replace HO := hidp (own_below HO.out hb); replace HM := hidp (HM.out.keep hb); replace HB := hidp (Bgo HB.out hb); clear hb)
 refine hK.out _ _ ?_ (fun hHeld => ?_)
 ·(try dsimp only)
  first | exact ⟨HX.out.three, HY.out.three, mod_cells HG.out⟩ | exact hHeld
 clear hK K
 (try simp only [Act.put, gA, gB, gC, sA, sB, sC])
 refine tkz 7 ?_
 refine tkz 8 ?_
 refine tkz 9 ?_
 refine tkz 10 ?_
 refine tkz 11 ?_
 refine dnz ?_
 obtain ⟨x0, x1, x2⟩ := HX.out.three
 obtain ⟨y0, y1, y2⟩ := HY.out.three
 obtain ⟨m0, m1, m2, m3⟩ := mod_cells HG.out
 go_wp2_with fail
 refine (r26Made_c HM.out HN.out a err out aux (-1) HAL.out).mono ?_; rintro e w1 ⟨rfl, hb⟩; rw [HMB.out]
 clear x0 x1 x2 y0 y1 y2 m0 m1 m2 m3
 replace HX := hidp (HX.out.keep hb)
 replace HY := hidp (HY.out.keep hb)
 replace HG := hidp (HG.out.keep hb)
 replace HO := hidp (own_below HO.out hb)
 replace HM := hidp (HM.out.keep hb)
 replace HB := hidp (Bgo HB.out hb)
 clear hb
 obtain ⟨x0, x1, x2⟩ := HX.out.three
 obtain ⟨y0, y1, y2⟩ := HY.out.three
 obtain ⟨m0, m1, m2, m3⟩ := mod_cells HG.out
 go_wp2_with fail
 go_ret
 exact ⟨by first | rfl | (rw [HV.out]; rfl), HB.out⟩

set_option maxHeartbeats 6400000 in
theorem r26Allow_held {w : World} {g base : Nat} {Z : Nat -> Prop} {t p s : Int} {L : List (Int × Int)} {R : Nat -> Int} (h : RMod w g base Z t p s L R) (hn : L.length <= 90000) (a b err out aux : Int) (ha : -9223372036854775808 <= a /\ a <= 9223372036854775807) (hb : -9223372036854775808 <= b /\ b <= 9223372036854775807) (ho : opB 2 a b = true) (i : Nat) (z : Int) (hi : mAt L a = (i : Int)) (hl : L[i]? = some (a, z)) (hil : i < L.length) (hh : heldM R a = true) (jb : Bool) (hj : justB 6 err out aux = jb) : Calls Tryd.prog 15 #[.pointer (some ⟨g, 0, none⟩), .agg #[.int .i64 2, .int .i64 a, .int .i64 b], .agg #[.int .i64 err, .int .i64 out, .int .i64 aux]] w fun e w' => e = .returned (.bool (jb)) /\ Below w.heap.size w w' := by
 have HKL : Hid (-9223372036854775808 <= (2 : Int) /\ (2 : Int) <= 9223372036854775807) := hidp (by omega)
 have HAL := hidp ha
 have HBL := hidp hb
 clear ha hb
 have HRT := hidp ho
 clear ho
 have HI := hidp hi
 have HL := hidp hl
 have t0 : decide ((i : Int) < 0) = false := decide_eq_false (by omega)
 have t3 : (i : Int) < (L.length : Int) := by omega
 clear hi hl
 have HH := hidp hh
 have HJ := hidp hj
 clear hh hj
 have HB := hidp (Bnew (Bnew (B0 w) (.cells #[.int .i64 2, .int .i64 a, .int .i64 b] 29)) (.cells #[.int .i64 err, .int .i64 out, .int .i64 aux] 32))
 have HM := hidp (h.keep HB.out)
 have HX := hidp ((Held.new w 29 #[.int .i64 2, .int .i64 a, .int .i64 b]).alloc (.cells #[.int .i64 err, .int .i64 out, .int .i64 aux] 32))
 have HY := hidp (Held.new2 w (.cells #[.int .i64 2, .int .i64 a, .int .i64 b] 29) 32 #[.int .i64 err, .int .i64 out, .int .i64 aux])
 have HN := hidp hn
 obtain ⟨A, c, hx, ho⟩ := h.ex
 have HG := hidp (hx.keep HB.out)
 have HO := hidp (own_below ho HB.out)
 have hcv := own_caps3 ho
 clear hx ho h hn
 obtain ⟨x0, x1, x2⟩ := HX.out.three
 obtain ⟨y0, y1, y2⟩ := HY.out.three
 obtain ⟨m0, m1, m2, m3⟩ := mod_cells HG.out
 go_enter Tryd.func15, Tryd.ntmps15
 go_wp2_with fail
 refine (r22Right_c 2 a b HKL.out HAL.out HBL.out _).mono ?_; rintro e w1 ⟨rfl, hb⟩; rw [HRT.out]
 clear x0 x1 x2 y0 y1 y2 m0 m1 m2 m3
 replace HX := hidp (HX.out.keep hb)
 replace HY := hidp (HY.out.keep hb)
 replace HG := hidp (HG.out.keep hb)
 replace HO := hidp (own_below HO.out hb)
 replace HM := hidp (HM.out.keep hb)
 replace HB := hidp (Bgo HB.out hb)
 clear hb
 obtain ⟨x0, x1, x2⟩ := HX.out.three
 obtain ⟨y0, y1, y2⟩ := HY.out.three
 obtain ⟨m0, m1, m2, m3⟩ := mod_cells HG.out
 go_wp2_with fail
 refine (r26At_c HM.out HN.out a).mono ?_; rintro e w1 ⟨rfl, rfl⟩; rw [HI.out]
 go_wp2_with fail
 refine (r26Held_c HM.out a).mono ?_; rintro e w1 ⟨rfl, rfl⟩; rw [HH.out]
 go_wp2_with fail
 refine (r26Just_c 6 err out aux _).mono ?_; rintro e w1 ⟨rfl, hb⟩; rw [HJ.out]
 clear x0 x1 x2 y0 y1 y2 m0 m1 m2 m3
 replace HX := hidp (HX.out.keep hb)
 replace HY := hidp (HY.out.keep hb)
 replace HG := hidp (HG.out.keep hb)
 replace HO := hidp (own_below HO.out hb)
 replace HM := hidp (HM.out.keep hb)
 replace HB := hidp (Bgo HB.out hb)
 clear hb
 obtain ⟨x0, x1, x2⟩ := HX.out.three
 obtain ⟨y0, y1, y2⟩ := HY.out.three
 obtain ⟨m0, m1, m2, m3⟩ := mod_cells HG.out
 go_wp2_with fail
 go_ret
 exact ⟨by first | rfl | (rw [HV.out]; rfl), HB.out⟩

set_option maxHeartbeats 6400000 in
theorem r26Allow_free {w : World} {g base : Nat} {Z : Nat -> Prop} {t p s : Int} {L : List (Int × Int)} {R : Nat -> Int} (h : RMod w g base Z t p s L R) (hn : L.length <= 90000) (a b err out aux : Int) (ha : -9223372036854775808 <= a /\ a <= 9223372036854775807) (hb : -9223372036854775808 <= b /\ b <= 9223372036854775807) (ho : opB 2 a b = true) (i : Nat) (z : Int) (hi : mAt L a = (i : Int)) (hl : L[i]? = some (a, z)) (hil : i < L.length) (hh : heldM R a = false) (gb : Bool) (hg : givesB err out aux z 0 = gb) : Calls Tryd.prog 15 #[.pointer (some ⟨g, 0, none⟩), .agg #[.int .i64 2, .int .i64 a, .int .i64 b], .agg #[.int .i64 err, .int .i64 out, .int .i64 aux]] w fun e w' => e = .returned (.bool (gb)) /\ Below w.heap.size w w' := by
 have HKL : Hid (-9223372036854775808 <= (2 : Int) /\ (2 : Int) <= 9223372036854775807) := hidp (by omega)
 have HAL := hidp ha
 have HBL := hidp hb
 clear ha hb
 have HRT := hidp ho
 clear ho
 have HI := hidp hi
 have HL := hidp hl
 have t0 : decide ((i : Int) < 0) = false := decide_eq_false (by omega)
 have t3 : (i : Int) < (L.length : Int) := by omega
 clear hi hl
 have HH := hidp hh
 have HGB := hidp hg
 clear hh hg
 have HB := hidp (Bnew (Bnew (B0 w) (.cells #[.int .i64 2, .int .i64 a, .int .i64 b] 29)) (.cells #[.int .i64 err, .int .i64 out, .int .i64 aux] 32))
 have HM := hidp (h.keep HB.out)
 have HX := hidp ((Held.new w 29 #[.int .i64 2, .int .i64 a, .int .i64 b]).alloc (.cells #[.int .i64 err, .int .i64 out, .int .i64 aux] 32))
 have HY := hidp (Held.new2 w (.cells #[.int .i64 2, .int .i64 a, .int .i64 b] 29) 32 #[.int .i64 err, .int .i64 out, .int .i64 aux])
 have HN := hidp hn
 obtain ⟨A, c, hx, ho⟩ := h.ex
 have HG := hidp (hx.keep HB.out)
 have HO := hidp (own_below ho HB.out)
 have hcv := own_caps3 ho
 clear hx ho h hn
 obtain ⟨x0, x1, x2⟩ := HX.out.three
 obtain ⟨y0, y1, y2⟩ := HY.out.three
 obtain ⟨m0, m1, m2, m3⟩ := mod_cells HG.out
 go_enter Tryd.func15, Tryd.ntmps15
 go_wp2_with fail
 refine (r22Right_c 2 a b HKL.out HAL.out HBL.out _).mono ?_; rintro e w1 ⟨rfl, hb⟩; rw [HRT.out]
 clear x0 x1 x2 y0 y1 y2 m0 m1 m2 m3
 replace HX := hidp (HX.out.keep hb)
 replace HY := hidp (HY.out.keep hb)
 replace HG := hidp (HG.out.keep hb)
 replace HO := hidp (own_below HO.out hb)
 replace HM := hidp (HM.out.keep hb)
 replace HB := hidp (Bgo HB.out hb)
 clear hb
 obtain ⟨x0, x1, x2⟩ := HX.out.three
 obtain ⟨y0, y1, y2⟩ := HY.out.three
 obtain ⟨m0, m1, m2, m3⟩ := mod_cells HG.out
 go_wp2_with fail
 refine (r26At_c HM.out HN.out a).mono ?_; rintro e w1 ⟨rfl, rfl⟩; rw [HI.out]
 go_wp2_with fail
 refine (r26Held_c HM.out a).mono ?_; rintro e w1 ⟨rfl, rfl⟩; rw [HH.out]
 obtain ⟨gv, cv', hvv, hbv, hlv⟩ := HO.out.form (by omega)
 injection hvv with hvv hn0 hcc
 subst hvv
 subst hcc
 clear hn0
 go_wp2_with fail
 clear x0 x1 x2 y0 y1 y2 m0 m1 m2 m3
 replace HX := hidp (HX.out.keep (Bdrew (B0 _)))
 replace HY := hidp (HY.out.keep (Bdrew (B0 _)))
 replace HG := hidp (HG.out.keep (Bdrew (B0 _)))
 replace HO := hidp (own_below HO.out (Bdrew (B0 _)))
 replace HM := hidp (HM.out.keep (Bdrew (B0 _)))
 replace HB := hidp (Bgo HB.out (Bdrew (B0 _)))
 refine wp_region_held_drew (S := (fun w' => (w'.cell? ⟨w.heap.size, 0, none⟩ = some (.int .i64 2) /\ w'.cell? ⟨w.heap.size, 1, none⟩ = some (.int .i64 a) /\ w'.cell? ⟨w.heap.size, 2, none⟩ = some (.int .i64 b)) /\ (w'.cell? ⟨w.heap.size + 1, 0, none⟩ = some (.int .i64 err) /\ w'.cell? ⟨w.heap.size + 1, 1, none⟩ = some (.int .i64 out) /\ w'.cell? ⟨w.heap.size + 1, 2, none⟩ = some (.int .i64 aux)) /\ (w'.cell? ⟨g, 0, none⟩ = some (.int .i64 t) /\ w'.cell? ⟨g, 1, none⟩ = some (.int .i64 p) /\ w'.cell? ⟨g, 2, none⟩ = some (.int .i64 s) /\ w'.cell? ⟨g, 3, none⟩ = some (.slice (some ⟨gv, 0, none⟩) L.length c)) /\ w'.cell? ⟨gv, i * 2 + 1, none⟩ = some (.int .i64 z))) (by kernel_rfl) ?_ (fun hHeld => ?_)
 ·(try dsimp only)
  first | exact ⟨HX.out.three, HY.out.three, mod_cells HG.out, (own_block0 HO.out rfl HL.out).2⟩ | exact hHeld
 refine tkz 0 ?_
 refine tkz 1 ?_
 refine tkz 2 ?_
 refine tkz 3 ?_
 refine tkz 4 ?_
 refine tkz 5 ?_
 refine tkz 6 ?_
 refine tkz 7 ?_
 refine tkz 8 ?_
 refine tkz 9 ?_
 refine rdz 10 fun K hK => ?_
 go_simp
 (refine (r26Gives_c err out aux z 0 _).mono ?_; rintro e w1 ⟨rfl, hb⟩; rw [HGB.out]; replace HX := hidp (HX.out.keep hb); replace HY := hidp (HY.out.keep hb); replace HG := hidp (HG.out.keep hb); replace HO := hidp (own_below HO.out hb); replace HM := hidp (HM.out.keep hb); replace HB := hidp (Bgo HB.out hb); clear hb)
 refine hK.out _ _ ?_ (fun hHeld => ?_)
 ·(try dsimp only)
  first | exact ⟨HX.out.three, HY.out.three, mod_cells HG.out, (own_block0 HO.out rfl HL.out).2⟩ | exact hHeld
 clear hK K
 (try simp only [Act.put, gA, gB, gC, sA, sB, sC])
 refine tkz 11 ?_
 refine dnz ?_
 obtain ⟨x0, x1, x2⟩ := HX.out.three
 obtain ⟨y0, y1, y2⟩ := HY.out.three
 obtain ⟨m0, m1, m2, m3⟩ := mod_cells HG.out
 go_wp2_with fail
 go_ret
 exact ⟨by first | rfl | (rw [HV.out]; rfl), HB.out⟩

set_option maxHeartbeats 6400000 in
theorem r26Allow_usable {w : World} {g base : Nat} {Z : Nat -> Prop} {t p s : Int} {L : List (Int × Int)} {R : Nat -> Int} (h : RMod w g base Z t p s L R) (hn : L.length <= 90000) (a b err out aux : Int) (ha : -9223372036854775808 <= a /\ a <= 9223372036854775807) (hb : -9223372036854775808 <= b /\ b <= 9223372036854775807) (ho : opB 7 a b = true) (i : Nat) (z : Int) (hi : mAt L a = (i : Int)) (hl : L[i]? = some (a, z)) (hil : i < L.length) (gb : Bool) (hg : givesB err out aux z 0 = gb) : Calls Tryd.prog 15 #[.pointer (some ⟨g, 0, none⟩), .agg #[.int .i64 7, .int .i64 a, .int .i64 b], .agg #[.int .i64 err, .int .i64 out, .int .i64 aux]] w fun e w' => e = .returned (.bool (gb)) /\ Below w.heap.size w w' := by
 have HKL : Hid (-9223372036854775808 <= (7 : Int) /\ (7 : Int) <= 9223372036854775807) := hidp (by omega)
 have HAL := hidp ha
 have HBL := hidp hb
 clear ha hb
 have HRT := hidp ho
 clear ho
 have HI := hidp hi
 have HL := hidp hl
 have t0 : decide ((i : Int) < 0) = false := decide_eq_false (by omega)
 have t3 : (i : Int) < (L.length : Int) := by omega
 clear hi hl
 have HGB := hidp hg
 clear hg
 have HB := hidp (Bnew (Bnew (B0 w) (.cells #[.int .i64 7, .int .i64 a, .int .i64 b] 29)) (.cells #[.int .i64 err, .int .i64 out, .int .i64 aux] 32))
 have HM := hidp (h.keep HB.out)
 have HX := hidp ((Held.new w 29 #[.int .i64 7, .int .i64 a, .int .i64 b]).alloc (.cells #[.int .i64 err, .int .i64 out, .int .i64 aux] 32))
 have HY := hidp (Held.new2 w (.cells #[.int .i64 7, .int .i64 a, .int .i64 b] 29) 32 #[.int .i64 err, .int .i64 out, .int .i64 aux])
 have HN := hidp hn
 obtain ⟨A, c, hx, ho⟩ := h.ex
 have HG := hidp (hx.keep HB.out)
 have HO := hidp (own_below ho HB.out)
 have hcv := own_caps3 ho
 clear hx ho h hn
 obtain ⟨x0, x1, x2⟩ := HX.out.three
 obtain ⟨y0, y1, y2⟩ := HY.out.three
 obtain ⟨m0, m1, m2, m3⟩ := mod_cells HG.out
 go_enter Tryd.func15, Tryd.ntmps15
 go_wp2_with fail
 refine (r22Right_c 7 a b HKL.out HAL.out HBL.out _).mono ?_; rintro e w1 ⟨rfl, hb⟩; rw [HRT.out]
 clear x0 x1 x2 y0 y1 y2 m0 m1 m2 m3
 replace HX := hidp (HX.out.keep hb)
 replace HY := hidp (HY.out.keep hb)
 replace HG := hidp (HG.out.keep hb)
 replace HO := hidp (own_below HO.out hb)
 replace HM := hidp (HM.out.keep hb)
 replace HB := hidp (Bgo HB.out hb)
 clear hb
 obtain ⟨x0, x1, x2⟩ := HX.out.three
 obtain ⟨y0, y1, y2⟩ := HY.out.three
 obtain ⟨m0, m1, m2, m3⟩ := mod_cells HG.out
 go_wp2_with fail
 refine (r26At_c HM.out HN.out a).mono ?_; rintro e w1 ⟨rfl, rfl⟩; rw [HI.out]
 obtain ⟨gv, cv', hvv, hbv, hlv⟩ := HO.out.form (by omega)
 injection hvv with hvv hn0 hcc
 subst hvv
 subst hcc
 clear hn0
 go_wp2_with fail
 clear x0 x1 x2 y0 y1 y2 m0 m1 m2 m3
 replace HX := hidp (HX.out.keep (Bdrew (B0 _)))
 replace HY := hidp (HY.out.keep (Bdrew (B0 _)))
 replace HG := hidp (HG.out.keep (Bdrew (B0 _)))
 replace HO := hidp (own_below HO.out (Bdrew (B0 _)))
 replace HM := hidp (HM.out.keep (Bdrew (B0 _)))
 replace HB := hidp (Bgo HB.out (Bdrew (B0 _)))
 refine wp_region_held_drew (S := (fun w' => (w'.cell? ⟨w.heap.size, 0, none⟩ = some (.int .i64 7) /\ w'.cell? ⟨w.heap.size, 1, none⟩ = some (.int .i64 a) /\ w'.cell? ⟨w.heap.size, 2, none⟩ = some (.int .i64 b)) /\ (w'.cell? ⟨w.heap.size + 1, 0, none⟩ = some (.int .i64 err) /\ w'.cell? ⟨w.heap.size + 1, 1, none⟩ = some (.int .i64 out) /\ w'.cell? ⟨w.heap.size + 1, 2, none⟩ = some (.int .i64 aux)) /\ (w'.cell? ⟨g, 0, none⟩ = some (.int .i64 t) /\ w'.cell? ⟨g, 1, none⟩ = some (.int .i64 p) /\ w'.cell? ⟨g, 2, none⟩ = some (.int .i64 s) /\ w'.cell? ⟨g, 3, none⟩ = some (.slice (some ⟨gv, 0, none⟩) L.length c)) /\ w'.cell? ⟨gv, i * 2 + 1, none⟩ = some (.int .i64 z))) (by kernel_rfl) ?_ (fun hHeld => ?_)
 ·(try dsimp only)
  first | exact ⟨HX.out.three, HY.out.three, mod_cells HG.out, (own_block0 HO.out rfl HL.out).2⟩ | exact hHeld
 refine tkz 0 ?_
 refine tkz 1 ?_
 refine tkz 2 ?_
 refine tkz 3 ?_
 refine tkz 4 ?_
 refine tkz 5 ?_
 refine tkz 6 ?_
 refine tkz 7 ?_
 refine tkz 8 ?_
 refine tkz 9 ?_
 refine rdz 10 fun K hK => ?_
 go_simp
 (refine (r26Gives_c err out aux z 0 _).mono ?_; rintro e w1 ⟨rfl, hb⟩; rw [HGB.out]; replace HX := hidp (HX.out.keep hb); replace HY := hidp (HY.out.keep hb); replace HG := hidp (HG.out.keep hb); replace HO := hidp (own_below HO.out hb); replace HM := hidp (HM.out.keep hb); replace HB := hidp (Bgo HB.out hb); clear hb)
 refine hK.out _ _ ?_ (fun hHeld => ?_)
 ·(try dsimp only)
  first | exact ⟨HX.out.three, HY.out.three, mod_cells HG.out, (own_block0 HO.out rfl HL.out).2⟩ | exact hHeld
 clear hK K
 (try simp only [Act.put, gA, gB, gC, sA, sB, sC])
 refine tkz 11 ?_
 refine dnz ?_
 obtain ⟨x0, x1, x2⟩ := HX.out.three
 obtain ⟨y0, y1, y2⟩ := HY.out.three
 obtain ⟨m0, m1, m2, m3⟩ := mod_cells HG.out
 go_wp2_with fail
 go_ret
 exact ⟨by first | rfl | (rw [HV.out]; rfl), HB.out⟩

set_option maxHeartbeats 6400000 in
theorem r26Allow_reown {w : World} {g base : Nat} {Z : Nat -> Prop} {t p s : Int} {L : List (Int × Int)} {R : Nat -> Int} (h : RMod w g base Z t p s L R) (hn : L.length <= 90000) (a b err out aux : Int) (ha : -9223372036854775808 <= a /\ a <= 9223372036854775807) (hb : -9223372036854775808 <= b /\ b <= 9223372036854775807) (ho : opB 3 a b = true) (i : Nat) (z : Int) (hi : mAt L a = (i : Int)) (hl : L[i]? = some (a, z)) (hil : i < L.length) (hoa : out = a) (u : Int) (nb : Bool) (hu : rdI t p s b = u) (hnb : needB t p s b = nb) (xb : Bool) (hm : madeM t p s L b err out aux (i : Int) = true) (hx : auxB err aux u = xb) : Calls Tryd.prog 15 #[.pointer (some ⟨g, 0, none⟩), .agg #[.int .i64 3, .int .i64 a, .int .i64 b], .agg #[.int .i64 err, .int .i64 out, .int .i64 aux]] w fun e w' => e = .returned (.bool (xb)) /\ Below w.heap.size w w' := by
 have HKL : Hid (-9223372036854775808 <= (3 : Int) /\ (3 : Int) <= 9223372036854775807) := hidp (by omega)
 have HAL := hidp ha
 have HBL := hidp hb
 clear ha hb
 have HRT := hidp ho
 clear ho
 have HI := hidp hi
 have HL := hidp hl
 have t0 : decide ((i : Int) < 0) = false := decide_eq_false (by omega)
 have t3 : (i : Int) < (L.length : Int) := by omega
 clear hi hl
 have q5 : (out == a) = true := by simpa using hoa
 clear hoa
 have HU : Hid (rdI t p s b = u /\ needB t p s b = nb) := hidp ⟨hu, hnb⟩
 clear hu hnb
 have HMB := hidp hm
 have HXB := hidp hx
 clear hm hx
 have HB := hidp (Bnew (Bnew (B0 w) (.cells #[.int .i64 3, .int .i64 a, .int .i64 b] 29)) (.cells #[.int .i64 err, .int .i64 out, .int .i64 aux] 32))
 have HM := hidp (h.keep HB.out)
 have HX := hidp ((Held.new w 29 #[.int .i64 3, .int .i64 a, .int .i64 b]).alloc (.cells #[.int .i64 err, .int .i64 out, .int .i64 aux] 32))
 have HY := hidp (Held.new2 w (.cells #[.int .i64 3, .int .i64 a, .int .i64 b] 29) 32 #[.int .i64 err, .int .i64 out, .int .i64 aux])
 have HN := hidp hn
 obtain ⟨A, c, hx, ho⟩ := h.ex
 have HG := hidp (hx.keep HB.out)
 have HO := hidp (own_below ho HB.out)
 have hcv := own_caps3 ho
 clear hx ho h hn
 obtain ⟨x0, x1, x2⟩ := HX.out.three
 obtain ⟨y0, y1, y2⟩ := HY.out.three
 obtain ⟨m0, m1, m2, m3⟩ := mod_cells HG.out
 go_enter Tryd.func15, Tryd.ntmps15
 go_wp2_with fail
 refine (r22Right_c 3 a b HKL.out HAL.out HBL.out _).mono ?_; rintro e w1 ⟨rfl, hb⟩; rw [HRT.out]
 clear x0 x1 x2 y0 y1 y2 m0 m1 m2 m3
 replace HX := hidp (HX.out.keep hb)
 replace HY := hidp (HY.out.keep hb)
 replace HG := hidp (HG.out.keep hb)
 replace HO := hidp (own_below HO.out hb)
 replace HM := hidp (HM.out.keep hb)
 replace HB := hidp (Bgo HB.out hb)
 clear hb
 obtain ⟨x0, x1, x2⟩ := HX.out.three
 obtain ⟨y0, y1, y2⟩ := HY.out.three
 obtain ⟨m0, m1, m2, m3⟩ := mod_cells HG.out
 go_wp2_with fail
 refine (r26At_c HM.out HN.out a).mono ?_; rintro e w1 ⟨rfl, rfl⟩; rw [HI.out]
 go_wp2_with fail
 clear x0 x1 x2 y0 y1 y2 m0 m1 m2 m3
 replace HX := hidp (HX.out.keep (Bdrew (B0 _)))
 replace HY := hidp (HY.out.keep (Bdrew (B0 _)))
 replace HG := hidp (HG.out.keep (Bdrew (B0 _)))
 replace HO := hidp (own_below HO.out (Bdrew (B0 _)))
 replace HM := hidp (HM.out.keep (Bdrew (B0 _)))
 replace HB := hidp (Bgo HB.out (Bdrew (B0 _)))
 refine wp_region_held_drew (S := (fun w' => (w'.cell? ⟨w.heap.size, 0, none⟩ = some (.int .i64 3) /\ w'.cell? ⟨w.heap.size, 1, none⟩ = some (.int .i64 a) /\ w'.cell? ⟨w.heap.size, 2, none⟩ = some (.int .i64 b)) /\ (w'.cell? ⟨w.heap.size + 1, 0, none⟩ = some (.int .i64 err) /\ w'.cell? ⟨w.heap.size + 1, 1, none⟩ = some (.int .i64 out) /\ w'.cell? ⟨w.heap.size + 1, 2, none⟩ = some (.int .i64 aux)) /\ (w'.cell? ⟨g, 0, none⟩ = some (.int .i64 t) /\ w'.cell? ⟨g, 1, none⟩ = some (.int .i64 p) /\ w'.cell? ⟨g, 2, none⟩ = some (.int .i64 s) /\ w'.cell? ⟨g, 3, none⟩ = some (.slice A L.length c)))) (by kernel_rfl) ?_ (fun hHeld => ?_)
 ·(try dsimp only)
  first | exact ⟨HX.out.three, HY.out.three, mod_cells HG.out⟩ | exact hHeld
 refine tkz 0 ?_
 refine tkz 1 ?_
 refine tkz 2 ?_
 refine tkz 3 ?_
 refine tkz 4 ?_
 refine tkz 5 ?_
 refine rdz 6 fun K hK => ?_
 go_simp
 (refine (r26Round_c t p s b HBL.out _).mono ?_; rintro e w1 ⟨rfl, hb⟩; rw [HU.out.1, HU.out.2]; replace HX := hidp (HX.out.keep hb); replace HY := hidp (HY.out.keep hb); replace HG := hidp (HG.out.keep hb); replace HO := hidp (own_below HO.out hb); replace HM := hidp (HM.out.keep hb); replace HB := hidp (Bgo HB.out hb); clear hb)
 refine hK.out _ _ ?_ (fun hHeld => ?_)
 ·(try dsimp only)
  first | exact ⟨HX.out.three, HY.out.three, mod_cells HG.out⟩ | exact hHeld
 clear hK K
 (try simp only [Act.put, gA, gB, gC, sA, sB, sC])
 refine tkz 7 ?_
 refine tkz 8 ?_
 refine tkz 9 ?_
 refine tkz 10 ?_
 refine tkz 11 ?_
 refine dnz ?_
 obtain ⟨x0, x1, x2⟩ := HX.out.three
 obtain ⟨y0, y1, y2⟩ := HY.out.three
 obtain ⟨m0, m1, m2, m3⟩ := mod_cells HG.out
 go_wp2_with fail
 refine (r26Made_c HM.out HN.out b err out aux (i : Int) HBL.out).mono ?_; rintro e w1 ⟨rfl, hb⟩; rw [HMB.out]
 clear x0 x1 x2 y0 y1 y2 m0 m1 m2 m3
 replace HX := hidp (HX.out.keep hb)
 replace HY := hidp (HY.out.keep hb)
 replace HG := hidp (HG.out.keep hb)
 replace HO := hidp (own_below HO.out hb)
 replace HM := hidp (HM.out.keep hb)
 replace HB := hidp (Bgo HB.out hb)
 clear hb
 obtain ⟨x0, x1, x2⟩ := HX.out.three
 obtain ⟨y0, y1, y2⟩ := HY.out.three
 obtain ⟨m0, m1, m2, m3⟩ := mod_cells HG.out
 go_wp2_with fail
 refine (r26Aux_c err out aux u _).mono ?_; rintro e w1 ⟨rfl, hb⟩; rw [HXB.out]
 clear x0 x1 x2 y0 y1 y2 m0 m1 m2 m3
 replace HX := hidp (HX.out.keep hb)
 replace HY := hidp (HY.out.keep hb)
 replace HG := hidp (HG.out.keep hb)
 replace HO := hidp (own_below HO.out hb)
 replace HM := hidp (HM.out.keep hb)
 replace HB := hidp (Bgo HB.out hb)
 clear hb
 obtain ⟨x0, x1, x2⟩ := HX.out.three
 obtain ⟨y0, y1, y2⟩ := HY.out.three
 obtain ⟨m0, m1, m2, m3⟩ := mod_cells HG.out
 go_wp2_with fail
 go_ret
 exact ⟨by first | rfl | (rw [HV.out]; rfl), HB.out⟩

set_option maxHeartbeats 6400000 in
theorem r26Allow_noreown {w : World} {g base : Nat} {Z : Nat -> Prop} {t p s : Int} {L : List (Int × Int)} {R : Nat -> Int} (h : RMod w g base Z t p s L R) (hn : L.length <= 90000) (a b err out aux : Int) (ha : -9223372036854775808 <= a /\ a <= 9223372036854775807) (hb : -9223372036854775808 <= b /\ b <= 9223372036854775807) (ho : opB 3 a b = true) (i : Nat) (z : Int) (hi : mAt L a = (i : Int)) (hl : L[i]? = some (a, z)) (hil : i < L.length) (hoa : out = a) (u : Int) (nb : Bool) (hu : rdI t p s b = u) (hnb : needB t p s b = nb) (hm : madeM t p s L b err out aux (i : Int) = false) : Calls Tryd.prog 15 #[.pointer (some ⟨g, 0, none⟩), .agg #[.int .i64 3, .int .i64 a, .int .i64 b], .agg #[.int .i64 err, .int .i64 out, .int .i64 aux]] w fun e w' => e = .returned (.bool (false)) /\ Below w.heap.size w w' := by
 have HKL : Hid (-9223372036854775808 <= (3 : Int) /\ (3 : Int) <= 9223372036854775807) := hidp (by omega)
 have HAL := hidp ha
 have HBL := hidp hb
 clear ha hb
 have HRT := hidp ho
 clear ho
 have HI := hidp hi
 have HL := hidp hl
 have t0 : decide ((i : Int) < 0) = false := decide_eq_false (by omega)
 have t3 : (i : Int) < (L.length : Int) := by omega
 clear hi hl
 have q5 : (out == a) = true := by simpa using hoa
 clear hoa
 have HU : Hid (rdI t p s b = u /\ needB t p s b = nb) := hidp ⟨hu, hnb⟩
 clear hu hnb
 have HMB := hidp hm
 clear hm
 have HB := hidp (Bnew (Bnew (B0 w) (.cells #[.int .i64 3, .int .i64 a, .int .i64 b] 29)) (.cells #[.int .i64 err, .int .i64 out, .int .i64 aux] 32))
 have HM := hidp (h.keep HB.out)
 have HX := hidp ((Held.new w 29 #[.int .i64 3, .int .i64 a, .int .i64 b]).alloc (.cells #[.int .i64 err, .int .i64 out, .int .i64 aux] 32))
 have HY := hidp (Held.new2 w (.cells #[.int .i64 3, .int .i64 a, .int .i64 b] 29) 32 #[.int .i64 err, .int .i64 out, .int .i64 aux])
 have HN := hidp hn
 obtain ⟨A, c, hx, ho⟩ := h.ex
 have HG := hidp (hx.keep HB.out)
 have HO := hidp (own_below ho HB.out)
 have hcv := own_caps3 ho
 clear hx ho h hn
 obtain ⟨x0, x1, x2⟩ := HX.out.three
 obtain ⟨y0, y1, y2⟩ := HY.out.three
 obtain ⟨m0, m1, m2, m3⟩ := mod_cells HG.out
 go_enter Tryd.func15, Tryd.ntmps15
 go_wp2_with fail
 refine (r22Right_c 3 a b HKL.out HAL.out HBL.out _).mono ?_; rintro e w1 ⟨rfl, hb⟩; rw [HRT.out]
 clear x0 x1 x2 y0 y1 y2 m0 m1 m2 m3
 replace HX := hidp (HX.out.keep hb)
 replace HY := hidp (HY.out.keep hb)
 replace HG := hidp (HG.out.keep hb)
 replace HO := hidp (own_below HO.out hb)
 replace HM := hidp (HM.out.keep hb)
 replace HB := hidp (Bgo HB.out hb)
 clear hb
 obtain ⟨x0, x1, x2⟩ := HX.out.three
 obtain ⟨y0, y1, y2⟩ := HY.out.three
 obtain ⟨m0, m1, m2, m3⟩ := mod_cells HG.out
 go_wp2_with fail
 refine (r26At_c HM.out HN.out a).mono ?_; rintro e w1 ⟨rfl, rfl⟩; rw [HI.out]
 go_wp2_with fail
 clear x0 x1 x2 y0 y1 y2 m0 m1 m2 m3
 replace HX := hidp (HX.out.keep (Bdrew (B0 _)))
 replace HY := hidp (HY.out.keep (Bdrew (B0 _)))
 replace HG := hidp (HG.out.keep (Bdrew (B0 _)))
 replace HO := hidp (own_below HO.out (Bdrew (B0 _)))
 replace HM := hidp (HM.out.keep (Bdrew (B0 _)))
 replace HB := hidp (Bgo HB.out (Bdrew (B0 _)))
 refine wp_region_held_drew (S := (fun w' => (w'.cell? ⟨w.heap.size, 0, none⟩ = some (.int .i64 3) /\ w'.cell? ⟨w.heap.size, 1, none⟩ = some (.int .i64 a) /\ w'.cell? ⟨w.heap.size, 2, none⟩ = some (.int .i64 b)) /\ (w'.cell? ⟨w.heap.size + 1, 0, none⟩ = some (.int .i64 err) /\ w'.cell? ⟨w.heap.size + 1, 1, none⟩ = some (.int .i64 out) /\ w'.cell? ⟨w.heap.size + 1, 2, none⟩ = some (.int .i64 aux)) /\ (w'.cell? ⟨g, 0, none⟩ = some (.int .i64 t) /\ w'.cell? ⟨g, 1, none⟩ = some (.int .i64 p) /\ w'.cell? ⟨g, 2, none⟩ = some (.int .i64 s) /\ w'.cell? ⟨g, 3, none⟩ = some (.slice A L.length c)))) (by kernel_rfl) ?_ (fun hHeld => ?_)
 ·(try dsimp only)
  first | exact ⟨HX.out.three, HY.out.three, mod_cells HG.out⟩ | exact hHeld
 refine tkz 0 ?_
 refine tkz 1 ?_
 refine tkz 2 ?_
 refine tkz 3 ?_
 refine tkz 4 ?_
 refine tkz 5 ?_
 refine rdz 6 fun K hK => ?_
 go_simp
 (refine (r26Round_c t p s b HBL.out _).mono ?_; rintro e w1 ⟨rfl, hb⟩; rw [HU.out.1, HU.out.2]; replace HX := hidp (HX.out.keep hb); replace HY := hidp (HY.out.keep hb); replace HG := hidp (HG.out.keep hb); replace HO := hidp (own_below HO.out hb); replace HM := hidp (HM.out.keep hb); replace HB := hidp (Bgo HB.out hb); clear hb)
 refine hK.out _ _ ?_ (fun hHeld => ?_)
 ·(try dsimp only)
  first | exact ⟨HX.out.three, HY.out.three, mod_cells HG.out⟩ | exact hHeld
 clear hK K
 (try simp only [Act.put, gA, gB, gC, sA, sB, sC])
 refine tkz 7 ?_
 refine tkz 8 ?_
 refine tkz 9 ?_
 refine tkz 10 ?_
 refine tkz 11 ?_
 refine dnz ?_
 obtain ⟨x0, x1, x2⟩ := HX.out.three
 obtain ⟨y0, y1, y2⟩ := HY.out.three
 obtain ⟨m0, m1, m2, m3⟩ := mod_cells HG.out
 go_wp2_with fail
 refine (r26Made_c HM.out HN.out b err out aux (i : Int) HBL.out).mono ?_; rintro e w1 ⟨rfl, hb⟩; rw [HMB.out]
 clear x0 x1 x2 y0 y1 y2 m0 m1 m2 m3
 replace HX := hidp (HX.out.keep hb)
 replace HY := hidp (HY.out.keep hb)
 replace HG := hidp (HG.out.keep hb)
 replace HO := hidp (own_below HO.out hb)
 replace HM := hidp (HM.out.keep hb)
 replace HB := hidp (Bgo HB.out hb)
 clear hb
 obtain ⟨x0, x1, x2⟩ := HX.out.three
 obtain ⟨y0, y1, y2⟩ := HY.out.three
 obtain ⟨m0, m1, m2, m3⟩ := mod_cells HG.out
 go_wp2_with fail
 go_ret
 exact ⟨by first | rfl | (rw [HV.out]; rfl), HB.out⟩

set_option maxHeartbeats 6400000 in
theorem r26Allow_renew {w : World} {g base : Nat} {Z : Nat -> Prop} {t p s : Int} {L : List (Int × Int)} {R : Nat -> Int} (h : RMod w g base Z t p s L R) (hn : L.length <= 90000) (a b err out aux : Int) (ha : -9223372036854775808 <= a /\ a <= 9223372036854775807) (hb : -9223372036854775808 <= b /\ b <= 9223372036854775807) (ho : opB 3 a b = true) (i : Nat) (z : Int) (hi : mAt L a = (i : Int)) (hl : L[i]? = some (a, z)) (hil : i < L.length) (hoa : out ≠ a) (u : Int) (nb : Bool) (hu : rdI t p s b = u) (hnb : needB t p s b = nb) (xb : Bool) (hm : madeM t p s L b err out aux (-1) = true) (hx : auxB err aux u = xb) : Calls Tryd.prog 15 #[.pointer (some ⟨g, 0, none⟩), .agg #[.int .i64 3, .int .i64 a, .int .i64 b], .agg #[.int .i64 err, .int .i64 out, .int .i64 aux]] w fun e w' => e = .returned (.bool (xb)) /\ Below w.heap.size w w' := by
 have HKL : Hid (-9223372036854775808 <= (3 : Int) /\ (3 : Int) <= 9223372036854775807) := hidp (by omega)
 have HAL := hidp ha
 have HBL := hidp hb
 clear ha hb
 have HRT := hidp ho
 clear ho
 have HI := hidp hi
 have HL := hidp hl
 have t0 : decide ((i : Int) < 0) = false := decide_eq_false (by omega)
 have t3 : (i : Int) < (L.length : Int) := by omega
 clear hi hl
 have q5 : (out == a) = false := by simpa using hoa
 clear hoa
 have HU : Hid (rdI t p s b = u /\ needB t p s b = nb) := hidp ⟨hu, hnb⟩
 clear hu hnb
 have HMB := hidp hm
 have HXB := hidp hx
 clear hm hx
 have HB := hidp (Bnew (Bnew (B0 w) (.cells #[.int .i64 3, .int .i64 a, .int .i64 b] 29)) (.cells #[.int .i64 err, .int .i64 out, .int .i64 aux] 32))
 have HM := hidp (h.keep HB.out)
 have HX := hidp ((Held.new w 29 #[.int .i64 3, .int .i64 a, .int .i64 b]).alloc (.cells #[.int .i64 err, .int .i64 out, .int .i64 aux] 32))
 have HY := hidp (Held.new2 w (.cells #[.int .i64 3, .int .i64 a, .int .i64 b] 29) 32 #[.int .i64 err, .int .i64 out, .int .i64 aux])
 have HN := hidp hn
 obtain ⟨A, c, hx, ho⟩ := h.ex
 have HG := hidp (hx.keep HB.out)
 have HO := hidp (own_below ho HB.out)
 have hcv := own_caps3 ho
 clear hx ho h hn
 obtain ⟨x0, x1, x2⟩ := HX.out.three
 obtain ⟨y0, y1, y2⟩ := HY.out.three
 obtain ⟨m0, m1, m2, m3⟩ := mod_cells HG.out
 go_enter Tryd.func15, Tryd.ntmps15
 go_wp2_with fail
 refine (r22Right_c 3 a b HKL.out HAL.out HBL.out _).mono ?_; rintro e w1 ⟨rfl, hb⟩; rw [HRT.out]
 clear x0 x1 x2 y0 y1 y2 m0 m1 m2 m3
 replace HX := hidp (HX.out.keep hb)
 replace HY := hidp (HY.out.keep hb)
 replace HG := hidp (HG.out.keep hb)
 replace HO := hidp (own_below HO.out hb)
 replace HM := hidp (HM.out.keep hb)
 replace HB := hidp (Bgo HB.out hb)
 clear hb
 obtain ⟨x0, x1, x2⟩ := HX.out.three
 obtain ⟨y0, y1, y2⟩ := HY.out.three
 obtain ⟨m0, m1, m2, m3⟩ := mod_cells HG.out
 go_wp2_with fail
 refine (r26At_c HM.out HN.out a).mono ?_; rintro e w1 ⟨rfl, rfl⟩; rw [HI.out]
 go_wp2_with fail
 clear x0 x1 x2 y0 y1 y2 m0 m1 m2 m3
 replace HX := hidp (HX.out.keep (Bdrew (B0 _)))
 replace HY := hidp (HY.out.keep (Bdrew (B0 _)))
 replace HG := hidp (HG.out.keep (Bdrew (B0 _)))
 replace HO := hidp (own_below HO.out (Bdrew (B0 _)))
 replace HM := hidp (HM.out.keep (Bdrew (B0 _)))
 replace HB := hidp (Bgo HB.out (Bdrew (B0 _)))
 refine wp_region_held_drew (S := (fun w' => (w'.cell? ⟨w.heap.size, 0, none⟩ = some (.int .i64 3) /\ w'.cell? ⟨w.heap.size, 1, none⟩ = some (.int .i64 a) /\ w'.cell? ⟨w.heap.size, 2, none⟩ = some (.int .i64 b)) /\ (w'.cell? ⟨w.heap.size + 1, 0, none⟩ = some (.int .i64 err) /\ w'.cell? ⟨w.heap.size + 1, 1, none⟩ = some (.int .i64 out) /\ w'.cell? ⟨w.heap.size + 1, 2, none⟩ = some (.int .i64 aux)) /\ (w'.cell? ⟨g, 0, none⟩ = some (.int .i64 t) /\ w'.cell? ⟨g, 1, none⟩ = some (.int .i64 p) /\ w'.cell? ⟨g, 2, none⟩ = some (.int .i64 s) /\ w'.cell? ⟨g, 3, none⟩ = some (.slice A L.length c)))) (by kernel_rfl) ?_ (fun hHeld => ?_)
 ·(try dsimp only)
  first | exact ⟨HX.out.three, HY.out.three, mod_cells HG.out⟩ | exact hHeld
 refine tkz 0 ?_
 refine tkz 1 ?_
 refine tkz 2 ?_
 refine tkz 3 ?_
 refine tkz 4 ?_
 refine tkz 5 ?_
 refine rdz 6 fun K hK => ?_
 go_simp
 (refine (r26Round_c t p s b HBL.out _).mono ?_; rintro e w1 ⟨rfl, hb⟩; rw [HU.out.1, HU.out.2]; replace HX := hidp (HX.out.keep hb); replace HY := hidp (HY.out.keep hb); replace HG := hidp (HG.out.keep hb); replace HO := hidp (own_below HO.out hb); replace HM := hidp (HM.out.keep hb); replace HB := hidp (Bgo HB.out hb); clear hb)
 refine hK.out _ _ ?_ (fun hHeld => ?_)
 ·(try dsimp only)
  first | exact ⟨HX.out.three, HY.out.three, mod_cells HG.out⟩ | exact hHeld
 clear hK K
 (try simp only [Act.put, gA, gB, gC, sA, sB, sC])
 refine tkz 7 ?_
 refine tkz 8 ?_
 refine tkz 9 ?_
 refine tkz 10 ?_
 refine tkz 11 ?_
 refine dnz ?_
 obtain ⟨x0, x1, x2⟩ := HX.out.three
 obtain ⟨y0, y1, y2⟩ := HY.out.three
 obtain ⟨m0, m1, m2, m3⟩ := mod_cells HG.out
 go_wp2_with fail
 refine (r26Made_c HM.out HN.out b err out aux (-1) HBL.out).mono ?_; rintro e w1 ⟨rfl, hb⟩; rw [HMB.out]
 clear x0 x1 x2 y0 y1 y2 m0 m1 m2 m3
 replace HX := hidp (HX.out.keep hb)
 replace HY := hidp (HY.out.keep hb)
 replace HG := hidp (HG.out.keep hb)
 replace HO := hidp (own_below HO.out hb)
 replace HM := hidp (HM.out.keep hb)
 replace HB := hidp (Bgo HB.out hb)
 clear hb
 obtain ⟨x0, x1, x2⟩ := HX.out.three
 obtain ⟨y0, y1, y2⟩ := HY.out.three
 obtain ⟨m0, m1, m2, m3⟩ := mod_cells HG.out
 go_wp2_with fail
 refine (r26Aux_c err out aux u _).mono ?_; rintro e w1 ⟨rfl, hb⟩; rw [HXB.out]
 clear x0 x1 x2 y0 y1 y2 m0 m1 m2 m3
 replace HX := hidp (HX.out.keep hb)
 replace HY := hidp (HY.out.keep hb)
 replace HG := hidp (HG.out.keep hb)
 replace HO := hidp (own_below HO.out hb)
 replace HM := hidp (HM.out.keep hb)
 replace HB := hidp (Bgo HB.out hb)
 clear hb
 obtain ⟨x0, x1, x2⟩ := HX.out.three
 obtain ⟨y0, y1, y2⟩ := HY.out.three
 obtain ⟨m0, m1, m2, m3⟩ := mod_cells HG.out
 go_wp2_with fail
 go_ret
 exact ⟨by first | rfl | (rw [HV.out]; rfl), HB.out⟩

set_option maxHeartbeats 6400000 in
theorem r26Allow_norenew {w : World} {g base : Nat} {Z : Nat -> Prop} {t p s : Int} {L : List (Int × Int)} {R : Nat -> Int} (h : RMod w g base Z t p s L R) (hn : L.length <= 90000) (a b err out aux : Int) (ha : -9223372036854775808 <= a /\ a <= 9223372036854775807) (hb : -9223372036854775808 <= b /\ b <= 9223372036854775807) (ho : opB 3 a b = true) (i : Nat) (z : Int) (hi : mAt L a = (i : Int)) (hl : L[i]? = some (a, z)) (hil : i < L.length) (hoa : out ≠ a) (u : Int) (nb : Bool) (hu : rdI t p s b = u) (hnb : needB t p s b = nb) (hm : madeM t p s L b err out aux (-1) = false) : Calls Tryd.prog 15 #[.pointer (some ⟨g, 0, none⟩), .agg #[.int .i64 3, .int .i64 a, .int .i64 b], .agg #[.int .i64 err, .int .i64 out, .int .i64 aux]] w fun e w' => e = .returned (.bool (false)) /\ Below w.heap.size w w' := by
 have HKL : Hid (-9223372036854775808 <= (3 : Int) /\ (3 : Int) <= 9223372036854775807) := hidp (by omega)
 have HAL := hidp ha
 have HBL := hidp hb
 clear ha hb
 have HRT := hidp ho
 clear ho
 have HI := hidp hi
 have HL := hidp hl
 have t0 : decide ((i : Int) < 0) = false := decide_eq_false (by omega)
 have t3 : (i : Int) < (L.length : Int) := by omega
 clear hi hl
 have q5 : (out == a) = false := by simpa using hoa
 clear hoa
 have HU : Hid (rdI t p s b = u /\ needB t p s b = nb) := hidp ⟨hu, hnb⟩
 clear hu hnb
 have HMB := hidp hm
 clear hm
 have HB := hidp (Bnew (Bnew (B0 w) (.cells #[.int .i64 3, .int .i64 a, .int .i64 b] 29)) (.cells #[.int .i64 err, .int .i64 out, .int .i64 aux] 32))
 have HM := hidp (h.keep HB.out)
 have HX := hidp ((Held.new w 29 #[.int .i64 3, .int .i64 a, .int .i64 b]).alloc (.cells #[.int .i64 err, .int .i64 out, .int .i64 aux] 32))
 have HY := hidp (Held.new2 w (.cells #[.int .i64 3, .int .i64 a, .int .i64 b] 29) 32 #[.int .i64 err, .int .i64 out, .int .i64 aux])
 have HN := hidp hn
 obtain ⟨A, c, hx, ho⟩ := h.ex
 have HG := hidp (hx.keep HB.out)
 have HO := hidp (own_below ho HB.out)
 have hcv := own_caps3 ho
 clear hx ho h hn
 obtain ⟨x0, x1, x2⟩ := HX.out.three
 obtain ⟨y0, y1, y2⟩ := HY.out.three
 obtain ⟨m0, m1, m2, m3⟩ := mod_cells HG.out
 go_enter Tryd.func15, Tryd.ntmps15
 go_wp2_with fail
 refine (r22Right_c 3 a b HKL.out HAL.out HBL.out _).mono ?_; rintro e w1 ⟨rfl, hb⟩; rw [HRT.out]
 clear x0 x1 x2 y0 y1 y2 m0 m1 m2 m3
 replace HX := hidp (HX.out.keep hb)
 replace HY := hidp (HY.out.keep hb)
 replace HG := hidp (HG.out.keep hb)
 replace HO := hidp (own_below HO.out hb)
 replace HM := hidp (HM.out.keep hb)
 replace HB := hidp (Bgo HB.out hb)
 clear hb
 obtain ⟨x0, x1, x2⟩ := HX.out.three
 obtain ⟨y0, y1, y2⟩ := HY.out.three
 obtain ⟨m0, m1, m2, m3⟩ := mod_cells HG.out
 go_wp2_with fail
 refine (r26At_c HM.out HN.out a).mono ?_; rintro e w1 ⟨rfl, rfl⟩; rw [HI.out]
 go_wp2_with fail
 clear x0 x1 x2 y0 y1 y2 m0 m1 m2 m3
 replace HX := hidp (HX.out.keep (Bdrew (B0 _)))
 replace HY := hidp (HY.out.keep (Bdrew (B0 _)))
 replace HG := hidp (HG.out.keep (Bdrew (B0 _)))
 replace HO := hidp (own_below HO.out (Bdrew (B0 _)))
 replace HM := hidp (HM.out.keep (Bdrew (B0 _)))
 replace HB := hidp (Bgo HB.out (Bdrew (B0 _)))
 refine wp_region_held_drew (S := (fun w' => (w'.cell? ⟨w.heap.size, 0, none⟩ = some (.int .i64 3) /\ w'.cell? ⟨w.heap.size, 1, none⟩ = some (.int .i64 a) /\ w'.cell? ⟨w.heap.size, 2, none⟩ = some (.int .i64 b)) /\ (w'.cell? ⟨w.heap.size + 1, 0, none⟩ = some (.int .i64 err) /\ w'.cell? ⟨w.heap.size + 1, 1, none⟩ = some (.int .i64 out) /\ w'.cell? ⟨w.heap.size + 1, 2, none⟩ = some (.int .i64 aux)) /\ (w'.cell? ⟨g, 0, none⟩ = some (.int .i64 t) /\ w'.cell? ⟨g, 1, none⟩ = some (.int .i64 p) /\ w'.cell? ⟨g, 2, none⟩ = some (.int .i64 s) /\ w'.cell? ⟨g, 3, none⟩ = some (.slice A L.length c)))) (by kernel_rfl) ?_ (fun hHeld => ?_)
 ·(try dsimp only)
  first | exact ⟨HX.out.three, HY.out.three, mod_cells HG.out⟩ | exact hHeld
 refine tkz 0 ?_
 refine tkz 1 ?_
 refine tkz 2 ?_
 refine tkz 3 ?_
 refine tkz 4 ?_
 refine tkz 5 ?_
 refine rdz 6 fun K hK => ?_
 go_simp
 (refine (r26Round_c t p s b HBL.out _).mono ?_; rintro e w1 ⟨rfl, hb⟩; rw [HU.out.1, HU.out.2]; replace HX := hidp (HX.out.keep hb); replace HY := hidp (HY.out.keep hb); replace HG := hidp (HG.out.keep hb); replace HO := hidp (own_below HO.out hb); replace HM := hidp (HM.out.keep hb); replace HB := hidp (Bgo HB.out hb); clear hb)
 refine hK.out _ _ ?_ (fun hHeld => ?_)
 ·(try dsimp only)
  first | exact ⟨HX.out.three, HY.out.three, mod_cells HG.out⟩ | exact hHeld
 clear hK K
 (try simp only [Act.put, gA, gB, gC, sA, sB, sC])
 refine tkz 7 ?_
 refine tkz 8 ?_
 refine tkz 9 ?_
 refine tkz 10 ?_
 refine tkz 11 ?_
 refine dnz ?_
 obtain ⟨x0, x1, x2⟩ := HX.out.three
 obtain ⟨y0, y1, y2⟩ := HY.out.three
 obtain ⟨m0, m1, m2, m3⟩ := mod_cells HG.out
 go_wp2_with fail
 refine (r26Made_c HM.out HN.out b err out aux (-1) HBL.out).mono ?_; rintro e w1 ⟨rfl, hb⟩; rw [HMB.out]
 clear x0 x1 x2 y0 y1 y2 m0 m1 m2 m3
 replace HX := hidp (HX.out.keep hb)
 replace HY := hidp (HY.out.keep hb)
 replace HG := hidp (HG.out.keep hb)
 replace HO := hidp (own_below HO.out hb)
 replace HM := hidp (HM.out.keep hb)
 replace HB := hidp (Bgo HB.out hb)
 clear hb
 obtain ⟨x0, x1, x2⟩ := HX.out.three
 obtain ⟨y0, y1, y2⟩ := HY.out.three
 obtain ⟨m0, m1, m2, m3⟩ := mod_cells HG.out
 go_wp2_with fail
 go_ret
 exact ⟨by first | rfl | (rw [HV.out]; rfl), HB.out⟩

set_option maxHeartbeats 6400000 in
theorem r26Allow_stats_a {w : World} {g base : Nat} {Z : Nat -> Prop} {t p s : Int} {L : List (Int × Int)} {R : Nat -> Int} (h : RMod w g base Z t p s L R) (hn : L.length <= 90000) (a b err out aux : Int) (ha : -9223372036854775808 <= a /\ a <= 9223372036854775807) (hb : -9223372036854775808 <= b /\ b <= 9223372036854775807) (ho : opB 8 a b = true) (i : Int) (hi : mAt L a = i) (he : err ≠ 0) : Calls Tryd.prog 15 #[.pointer (some ⟨g, 0, none⟩), .agg #[.int .i64 8, .int .i64 a, .int .i64 b], .agg #[.int .i64 err, .int .i64 out, .int .i64 aux]] w fun e w' => e = .returned (.bool (false)) /\ Below w.heap.size w w' := by
 have HKL : Hid (-9223372036854775808 <= (8 : Int) /\ (8 : Int) <= 9223372036854775807) := hidp (by omega)
 have HAL := hidp ha
 have HBL := hidp hb
 clear ha hb
 have HRT := hidp ho
 clear ho
 have HI := hidp hi
 clear hi
 have q1 : (err == 0) = false := by simpa using he
 clear he
 have HB := hidp (Bnew (Bnew (B0 w) (.cells #[.int .i64 8, .int .i64 a, .int .i64 b] 29)) (.cells #[.int .i64 err, .int .i64 out, .int .i64 aux] 32))
 have HM := hidp (h.keep HB.out)
 have HX := hidp ((Held.new w 29 #[.int .i64 8, .int .i64 a, .int .i64 b]).alloc (.cells #[.int .i64 err, .int .i64 out, .int .i64 aux] 32))
 have HY := hidp (Held.new2 w (.cells #[.int .i64 8, .int .i64 a, .int .i64 b] 29) 32 #[.int .i64 err, .int .i64 out, .int .i64 aux])
 have HN := hidp hn
 obtain ⟨A, c, hx, ho⟩ := h.ex
 have HG := hidp (hx.keep HB.out)
 have HO := hidp (own_below ho HB.out)
 have hcv := own_caps3 ho
 clear hx ho h hn
 obtain ⟨x0, x1, x2⟩ := HX.out.three
 obtain ⟨y0, y1, y2⟩ := HY.out.three
 obtain ⟨m0, m1, m2, m3⟩ := mod_cells HG.out
 go_enter Tryd.func15, Tryd.ntmps15
 go_wp2_with fail
 refine (r22Right_c 8 a b HKL.out HAL.out HBL.out _).mono ?_; rintro e w1 ⟨rfl, hb⟩; rw [HRT.out]
 clear x0 x1 x2 y0 y1 y2 m0 m1 m2 m3
 replace HX := hidp (HX.out.keep hb)
 replace HY := hidp (HY.out.keep hb)
 replace HG := hidp (HG.out.keep hb)
 replace HO := hidp (own_below HO.out hb)
 replace HM := hidp (HM.out.keep hb)
 replace HB := hidp (Bgo HB.out hb)
 clear hb
 obtain ⟨x0, x1, x2⟩ := HX.out.three
 obtain ⟨y0, y1, y2⟩ := HY.out.three
 obtain ⟨m0, m1, m2, m3⟩ := mod_cells HG.out
 go_wp2_with fail
 refine (r26At_c HM.out HN.out a).mono ?_; rintro e w1 ⟨rfl, rfl⟩; rw [HI.out]
 go_wp2_with fail
 clear x0 x1 x2 y0 y1 y2 m0 m1 m2 m3
 replace HX := hidp (HX.out.keep (Bdrew (B0 _)))
 replace HY := hidp (HY.out.keep (Bdrew (B0 _)))
 replace HG := hidp (HG.out.keep (Bdrew (B0 _)))
 replace HO := hidp (own_below HO.out (Bdrew (B0 _)))
 replace HM := hidp (HM.out.keep (Bdrew (B0 _)))
 replace HB := hidp (Bgo HB.out (Bdrew (B0 _)))
 refine wp_region_held_drew (S := (fun w' => (w'.cell? ⟨w.heap.size, 0, none⟩ = some (.int .i64 8) /\ w'.cell? ⟨w.heap.size, 1, none⟩ = some (.int .i64 a) /\ w'.cell? ⟨w.heap.size, 2, none⟩ = some (.int .i64 b)) /\ (w'.cell? ⟨w.heap.size + 1, 0, none⟩ = some (.int .i64 err) /\ w'.cell? ⟨w.heap.size + 1, 1, none⟩ = some (.int .i64 out) /\ w'.cell? ⟨w.heap.size + 1, 2, none⟩ = some (.int .i64 aux)) /\ (w'.cell? ⟨g, 0, none⟩ = some (.int .i64 t) /\ w'.cell? ⟨g, 1, none⟩ = some (.int .i64 p) /\ w'.cell? ⟨g, 2, none⟩ = some (.int .i64 s) /\ w'.cell? ⟨g, 3, none⟩ = some (.slice A L.length c)))) (by kernel_rfl) ?_ (fun hHeld => ?_)
 ·(try dsimp only)
  first | exact ⟨HX.out.three, HY.out.three, mod_cells HG.out⟩ | exact hHeld
 refine tkz 0 ?_
 refine tkz 1 ?_
 refine tkz 2 ?_
 refine tkz 3 ?_
 refine skz 4 ?_
 refine skz 5 ?_
 refine skz 6 ?_
 refine tkz 7 ?_
 refine tkz 8 ?_
 refine skz 9 ?_
 refine skz 10 ?_
 refine skz 11 ?_
 refine skz 12 ?_
 refine skz 13 ?_
 refine skz 14 ?_
 refine skz 15 ?_
 refine skz 16 ?_
 refine tkz 17 ?_
 refine tkz 18 ?_
 refine skz 19 ?_
 refine skz 20 ?_
 refine skz 21 ?_
 refine skz 22 ?_
 refine skz 23 ?_
 refine skz 24 ?_
 refine skz 25 ?_
 refine skz 26 ?_
 refine skz 27 ?_
 refine tkz 28 ?_
 refine tkz 29 ?_
 refine dnz ?_
 obtain ⟨x0, x1, x2⟩ := HX.out.three
 obtain ⟨y0, y1, y2⟩ := HY.out.three
 obtain ⟨m0, m1, m2, m3⟩ := mod_cells HG.out
 go_wp2_with fail
 go_ret
 exact ⟨by first | rfl | (rw [HV.out]; rfl), HB.out⟩

set_option maxHeartbeats 6400000 in
theorem r26Allow_stats_b {w : World} {g base : Nat} {Z : Nat -> Prop} {t p s : Int} {L : List (Int × Int)} {R : Nat -> Int} (h : RMod w g base Z t p s L R) (hn : L.length <= 90000) (a b err out aux : Int) (ha : -9223372036854775808 <= a /\ a <= 9223372036854775807) (hb : -9223372036854775808 <= b /\ b <= 9223372036854775807) (ho : opB 8 a b = true) (i : Int) (hi : mAt L a = i) (he : err = 0) (h1 : out < 0) : Calls Tryd.prog 15 #[.pointer (some ⟨g, 0, none⟩), .agg #[.int .i64 8, .int .i64 a, .int .i64 b], .agg #[.int .i64 err, .int .i64 out, .int .i64 aux]] w fun e w' => e = .returned (.bool (false)) /\ Below w.heap.size w w' := by
 have HKL : Hid (-9223372036854775808 <= (8 : Int) /\ (8 : Int) <= 9223372036854775807) := hidp (by omega)
 have HAL := hidp ha
 have HBL := hidp hb
 clear ha hb
 have HRT := hidp ho
 clear ho
 have HI := hidp hi
 clear hi
 have q1 : (err == 0) = true := by simpa using he
 clear he
 have t1 : decide (0 <= out) = false := decide_eq_false (by omega)
 have HB := hidp (Bnew (Bnew (B0 w) (.cells #[.int .i64 8, .int .i64 a, .int .i64 b] 29)) (.cells #[.int .i64 err, .int .i64 out, .int .i64 aux] 32))
 have HM := hidp (h.keep HB.out)
 have HX := hidp ((Held.new w 29 #[.int .i64 8, .int .i64 a, .int .i64 b]).alloc (.cells #[.int .i64 err, .int .i64 out, .int .i64 aux] 32))
 have HY := hidp (Held.new2 w (.cells #[.int .i64 8, .int .i64 a, .int .i64 b] 29) 32 #[.int .i64 err, .int .i64 out, .int .i64 aux])
 have HN := hidp hn
 obtain ⟨A, c, hx, ho⟩ := h.ex
 have HG := hidp (hx.keep HB.out)
 have HO := hidp (own_below ho HB.out)
 have hcv := own_caps3 ho
 clear hx ho h hn
 obtain ⟨x0, x1, x2⟩ := HX.out.three
 obtain ⟨y0, y1, y2⟩ := HY.out.three
 obtain ⟨m0, m1, m2, m3⟩ := mod_cells HG.out
 go_enter Tryd.func15, Tryd.ntmps15
 go_wp2_with fail
 refine (r22Right_c 8 a b HKL.out HAL.out HBL.out _).mono ?_; rintro e w1 ⟨rfl, hb⟩; rw [HRT.out]
 clear x0 x1 x2 y0 y1 y2 m0 m1 m2 m3
 replace HX := hidp (HX.out.keep hb)
 replace HY := hidp (HY.out.keep hb)
 replace HG := hidp (HG.out.keep hb)
 replace HO := hidp (own_below HO.out hb)
 replace HM := hidp (HM.out.keep hb)
 replace HB := hidp (Bgo HB.out hb)
 clear hb
 obtain ⟨x0, x1, x2⟩ := HX.out.three
 obtain ⟨y0, y1, y2⟩ := HY.out.three
 obtain ⟨m0, m1, m2, m3⟩ := mod_cells HG.out
 go_wp2_with fail
 refine (r26At_c HM.out HN.out a).mono ?_; rintro e w1 ⟨rfl, rfl⟩; rw [HI.out]
 go_wp2_with fail
 clear x0 x1 x2 y0 y1 y2 m0 m1 m2 m3
 replace HX := hidp (HX.out.keep (Bdrew (B0 _)))
 replace HY := hidp (HY.out.keep (Bdrew (B0 _)))
 replace HG := hidp (HG.out.keep (Bdrew (B0 _)))
 replace HO := hidp (own_below HO.out (Bdrew (B0 _)))
 replace HM := hidp (HM.out.keep (Bdrew (B0 _)))
 replace HB := hidp (Bgo HB.out (Bdrew (B0 _)))
 refine wp_region_held_drew (S := (fun w' => (w'.cell? ⟨w.heap.size, 0, none⟩ = some (.int .i64 8) /\ w'.cell? ⟨w.heap.size, 1, none⟩ = some (.int .i64 a) /\ w'.cell? ⟨w.heap.size, 2, none⟩ = some (.int .i64 b)) /\ (w'.cell? ⟨w.heap.size + 1, 0, none⟩ = some (.int .i64 err) /\ w'.cell? ⟨w.heap.size + 1, 1, none⟩ = some (.int .i64 out) /\ w'.cell? ⟨w.heap.size + 1, 2, none⟩ = some (.int .i64 aux)) /\ (w'.cell? ⟨g, 0, none⟩ = some (.int .i64 t) /\ w'.cell? ⟨g, 1, none⟩ = some (.int .i64 p) /\ w'.cell? ⟨g, 2, none⟩ = some (.int .i64 s) /\ w'.cell? ⟨g, 3, none⟩ = some (.slice A L.length c)))) (by kernel_rfl) ?_ (fun hHeld => ?_)
 ·(try dsimp only)
  first | exact ⟨HX.out.three, HY.out.three, mod_cells HG.out⟩ | exact hHeld
 refine tkz 0 ?_
 refine tkz 1 ?_
 refine tkz 2 ?_
 refine tkz 3 ?_
 refine tkz 4 ?_
 refine tkz 5 ?_
 refine tkz 6 ?_
 refine tkz 7 ?_
 refine tkz 8 ?_
 refine skz 9 ?_
 refine skz 10 ?_
 refine skz 11 ?_
 refine skz 12 ?_
 refine skz 13 ?_
 refine skz 14 ?_
 refine skz 15 ?_
 refine skz 16 ?_
 refine tkz 17 ?_
 refine tkz 18 ?_
 refine skz 19 ?_
 refine skz 20 ?_
 refine skz 21 ?_
 refine skz 22 ?_
 refine skz 23 ?_
 refine skz 24 ?_
 refine skz 25 ?_
 refine skz 26 ?_
 refine skz 27 ?_
 refine tkz 28 ?_
 refine tkz 29 ?_
 refine dnz ?_
 obtain ⟨x0, x1, x2⟩ := HX.out.three
 obtain ⟨y0, y1, y2⟩ := HY.out.three
 obtain ⟨m0, m1, m2, m3⟩ := mod_cells HG.out
 go_wp2_with fail
 go_ret
 exact ⟨by first | rfl | (rw [HV.out]; rfl), HB.out⟩

set_option maxHeartbeats 6400000 in
theorem r26Allow_stats_c {w : World} {g base : Nat} {Z : Nat -> Prop} {t p s : Int} {L : List (Int × Int)} {R : Nat -> Int} (h : RMod w g base Z t p s L R) (hn : L.length <= 90000) (a b err out aux : Int) (ha : -9223372036854775808 <= a /\ a <= 9223372036854775807) (hb : -9223372036854775808 <= b /\ b <= 9223372036854775807) (ho : opB 8 a b = true) (i : Int) (hi : mAt L a = i) (he : err = 0) (h1 : 0 <= out) (h2 : p < out) : Calls Tryd.prog 15 #[.pointer (some ⟨g, 0, none⟩), .agg #[.int .i64 8, .int .i64 a, .int .i64 b], .agg #[.int .i64 err, .int .i64 out, .int .i64 aux]] w fun e w' => e = .returned (.bool (false)) /\ Below w.heap.size w w' := by
 have HKL : Hid (-9223372036854775808 <= (8 : Int) /\ (8 : Int) <= 9223372036854775807) := hidp (by omega)
 have HAL := hidp ha
 have HBL := hidp hb
 clear ha hb
 have HRT := hidp ho
 clear ho
 have HI := hidp hi
 clear hi
 have q1 : (err == 0) = true := by simpa using he
 clear he
 have t1 : decide (0 <= out) = true := decide_eq_true (by omega)
 have t2 : decide (out <= p) = false := decide_eq_false (by omega)
 have HB := hidp (Bnew (Bnew (B0 w) (.cells #[.int .i64 8, .int .i64 a, .int .i64 b] 29)) (.cells #[.int .i64 err, .int .i64 out, .int .i64 aux] 32))
 have HM := hidp (h.keep HB.out)
 have HX := hidp ((Held.new w 29 #[.int .i64 8, .int .i64 a, .int .i64 b]).alloc (.cells #[.int .i64 err, .int .i64 out, .int .i64 aux] 32))
 have HY := hidp (Held.new2 w (.cells #[.int .i64 8, .int .i64 a, .int .i64 b] 29) 32 #[.int .i64 err, .int .i64 out, .int .i64 aux])
 have HN := hidp hn
 obtain ⟨A, c, hx, ho⟩ := h.ex
 have HG := hidp (hx.keep HB.out)
 have HO := hidp (own_below ho HB.out)
 have hcv := own_caps3 ho
 clear hx ho h hn
 obtain ⟨x0, x1, x2⟩ := HX.out.three
 obtain ⟨y0, y1, y2⟩ := HY.out.three
 obtain ⟨m0, m1, m2, m3⟩ := mod_cells HG.out
 go_enter Tryd.func15, Tryd.ntmps15
 go_wp2_with fail
 refine (r22Right_c 8 a b HKL.out HAL.out HBL.out _).mono ?_; rintro e w1 ⟨rfl, hb⟩; rw [HRT.out]
 clear x0 x1 x2 y0 y1 y2 m0 m1 m2 m3
 replace HX := hidp (HX.out.keep hb)
 replace HY := hidp (HY.out.keep hb)
 replace HG := hidp (HG.out.keep hb)
 replace HO := hidp (own_below HO.out hb)
 replace HM := hidp (HM.out.keep hb)
 replace HB := hidp (Bgo HB.out hb)
 clear hb
 obtain ⟨x0, x1, x2⟩ := HX.out.three
 obtain ⟨y0, y1, y2⟩ := HY.out.three
 obtain ⟨m0, m1, m2, m3⟩ := mod_cells HG.out
 go_wp2_with fail
 refine (r26At_c HM.out HN.out a).mono ?_; rintro e w1 ⟨rfl, rfl⟩; rw [HI.out]
 go_wp2_with fail
 clear x0 x1 x2 y0 y1 y2 m0 m1 m2 m3
 replace HX := hidp (HX.out.keep (Bdrew (B0 _)))
 replace HY := hidp (HY.out.keep (Bdrew (B0 _)))
 replace HG := hidp (HG.out.keep (Bdrew (B0 _)))
 replace HO := hidp (own_below HO.out (Bdrew (B0 _)))
 replace HM := hidp (HM.out.keep (Bdrew (B0 _)))
 replace HB := hidp (Bgo HB.out (Bdrew (B0 _)))
 refine wp_region_held_drew (S := (fun w' => (w'.cell? ⟨w.heap.size, 0, none⟩ = some (.int .i64 8) /\ w'.cell? ⟨w.heap.size, 1, none⟩ = some (.int .i64 a) /\ w'.cell? ⟨w.heap.size, 2, none⟩ = some (.int .i64 b)) /\ (w'.cell? ⟨w.heap.size + 1, 0, none⟩ = some (.int .i64 err) /\ w'.cell? ⟨w.heap.size + 1, 1, none⟩ = some (.int .i64 out) /\ w'.cell? ⟨w.heap.size + 1, 2, none⟩ = some (.int .i64 aux)) /\ (w'.cell? ⟨g, 0, none⟩ = some (.int .i64 t) /\ w'.cell? ⟨g, 1, none⟩ = some (.int .i64 p) /\ w'.cell? ⟨g, 2, none⟩ = some (.int .i64 s) /\ w'.cell? ⟨g, 3, none⟩ = some (.slice A L.length c)))) (by kernel_rfl) ?_ (fun hHeld => ?_)
 ·(try dsimp only)
  first | exact ⟨HX.out.three, HY.out.three, mod_cells HG.out⟩ | exact hHeld
 refine tkz 0 ?_
 refine tkz 1 ?_
 refine tkz 2 ?_
 refine tkz 3 ?_
 refine tkz 4 ?_
 refine tkz 5 ?_
 refine tkz 6 ?_
 refine tkz 7 ?_
 refine tkz 8 ?_
 refine tkz 9 ?_
 refine tkz 10 ?_
 refine tkz 11 ?_
 refine tkz 12 ?_
 refine tkz 13 ?_
 refine tkz 14 ?_
 refine tkz 15 ?_
 refine tkz 16 ?_
 refine tkz 17 ?_
 refine tkz 18 ?_
 refine skz 19 ?_
 refine skz 20 ?_
 refine skz 21 ?_
 refine skz 22 ?_
 refine skz 23 ?_
 refine skz 24 ?_
 refine skz 25 ?_
 refine skz 26 ?_
 refine skz 27 ?_
 refine tkz 28 ?_
 refine tkz 29 ?_
 refine dnz ?_
 obtain ⟨x0, x1, x2⟩ := HX.out.three
 obtain ⟨y0, y1, y2⟩ := HY.out.three
 obtain ⟨m0, m1, m2, m3⟩ := mod_cells HG.out
 go_wp2_with fail
 go_ret
 exact ⟨by first | rfl | (rw [HV.out]; rfl), HB.out⟩

set_option maxHeartbeats 6400000 in
theorem r26Allow_stats_d {w : World} {g base : Nat} {Z : Nat -> Prop} {t p s : Int} {L : List (Int × Int)} {R : Nat -> Int} (h : RMod w g base Z t p s L R) (hn : L.length <= 90000) (a b err out aux : Int) (ha : -9223372036854775808 <= a /\ a <= 9223372036854775807) (hb : -9223372036854775808 <= b /\ b <= 9223372036854775807) (ho : opB 8 a b = true) (i : Int) (hi : mAt L a = i) (he : err = 0) (h1 : 0 <= out) (h2 : out <= p) (h3 : aux ≠ (L.length : Int)) : Calls Tryd.prog 15 #[.pointer (some ⟨g, 0, none⟩), .agg #[.int .i64 8, .int .i64 a, .int .i64 b], .agg #[.int .i64 err, .int .i64 out, .int .i64 aux]] w fun e w' => e = .returned (.bool (false)) /\ Below w.heap.size w w' := by
 have HKL : Hid (-9223372036854775808 <= (8 : Int) /\ (8 : Int) <= 9223372036854775807) := hidp (by omega)
 have HAL := hidp ha
 have HBL := hidp hb
 clear ha hb
 have HRT := hidp ho
 clear ho
 have HI := hidp hi
 clear hi
 have q1 : (err == 0) = true := by simpa using he
 clear he
 have t1 : decide (0 <= out) = true := decide_eq_true (by omega)
 have t2 : decide (out <= p) = true := decide_eq_true (by omega)
 have q3 : (aux == (L.length : Int)) = false := by simpa using h3
 have HB := hidp (Bnew (Bnew (B0 w) (.cells #[.int .i64 8, .int .i64 a, .int .i64 b] 29)) (.cells #[.int .i64 err, .int .i64 out, .int .i64 aux] 32))
 have HM := hidp (h.keep HB.out)
 have HX := hidp ((Held.new w 29 #[.int .i64 8, .int .i64 a, .int .i64 b]).alloc (.cells #[.int .i64 err, .int .i64 out, .int .i64 aux] 32))
 have HY := hidp (Held.new2 w (.cells #[.int .i64 8, .int .i64 a, .int .i64 b] 29) 32 #[.int .i64 err, .int .i64 out, .int .i64 aux])
 have HN := hidp hn
 obtain ⟨A, c, hx, ho⟩ := h.ex
 have HG := hidp (hx.keep HB.out)
 have HO := hidp (own_below ho HB.out)
 have hcv := own_caps3 ho
 clear hx ho h hn
 obtain ⟨x0, x1, x2⟩ := HX.out.three
 obtain ⟨y0, y1, y2⟩ := HY.out.three
 obtain ⟨m0, m1, m2, m3⟩ := mod_cells HG.out
 go_enter Tryd.func15, Tryd.ntmps15
 go_wp2_with fail
 refine (r22Right_c 8 a b HKL.out HAL.out HBL.out _).mono ?_; rintro e w1 ⟨rfl, hb⟩; rw [HRT.out]
 clear x0 x1 x2 y0 y1 y2 m0 m1 m2 m3
 replace HX := hidp (HX.out.keep hb)
 replace HY := hidp (HY.out.keep hb)
 replace HG := hidp (HG.out.keep hb)
 replace HO := hidp (own_below HO.out hb)
 replace HM := hidp (HM.out.keep hb)
 replace HB := hidp (Bgo HB.out hb)
 clear hb
 obtain ⟨x0, x1, x2⟩ := HX.out.three
 obtain ⟨y0, y1, y2⟩ := HY.out.three
 obtain ⟨m0, m1, m2, m3⟩ := mod_cells HG.out
 go_wp2_with fail
 refine (r26At_c HM.out HN.out a).mono ?_; rintro e w1 ⟨rfl, rfl⟩; rw [HI.out]
 go_wp2_with fail
 clear x0 x1 x2 y0 y1 y2 m0 m1 m2 m3
 replace HX := hidp (HX.out.keep (Bdrew (B0 _)))
 replace HY := hidp (HY.out.keep (Bdrew (B0 _)))
 replace HG := hidp (HG.out.keep (Bdrew (B0 _)))
 replace HO := hidp (own_below HO.out (Bdrew (B0 _)))
 replace HM := hidp (HM.out.keep (Bdrew (B0 _)))
 replace HB := hidp (Bgo HB.out (Bdrew (B0 _)))
 refine wp_region_held_drew (S := (fun w' => (w'.cell? ⟨w.heap.size, 0, none⟩ = some (.int .i64 8) /\ w'.cell? ⟨w.heap.size, 1, none⟩ = some (.int .i64 a) /\ w'.cell? ⟨w.heap.size, 2, none⟩ = some (.int .i64 b)) /\ (w'.cell? ⟨w.heap.size + 1, 0, none⟩ = some (.int .i64 err) /\ w'.cell? ⟨w.heap.size + 1, 1, none⟩ = some (.int .i64 out) /\ w'.cell? ⟨w.heap.size + 1, 2, none⟩ = some (.int .i64 aux)) /\ (w'.cell? ⟨g, 0, none⟩ = some (.int .i64 t) /\ w'.cell? ⟨g, 1, none⟩ = some (.int .i64 p) /\ w'.cell? ⟨g, 2, none⟩ = some (.int .i64 s) /\ w'.cell? ⟨g, 3, none⟩ = some (.slice A L.length c)))) (by kernel_rfl) ?_ (fun hHeld => ?_)
 ·(try dsimp only)
  first | exact ⟨HX.out.three, HY.out.three, mod_cells HG.out⟩ | exact hHeld
 refine tkz 0 ?_
 refine tkz 1 ?_
 refine tkz 2 ?_
 refine tkz 3 ?_
 refine tkz 4 ?_
 refine tkz 5 ?_
 refine tkz 6 ?_
 refine tkz 7 ?_
 refine tkz 8 ?_
 refine tkz 9 ?_
 refine tkz 10 ?_
 refine tkz 11 ?_
 refine tkz 12 ?_
 refine tkz 13 ?_
 refine tkz 14 ?_
 refine tkz 15 ?_
 refine tkz 16 ?_
 refine tkz 17 ?_
 refine tkz 18 ?_
 refine tkz 19 ?_
 refine tkz 20 ?_
 refine tkz 21 ?_
 refine tkz 22 ?_
 refine tkz 23 ?_
 refine tkz 24 ?_
 refine tkz 25 ?_
 refine tkz 26 ?_
 refine tkz 27 ?_
 refine tkz 28 ?_
 refine tkz 29 ?_
 refine dnz ?_
 obtain ⟨x0, x1, x2⟩ := HX.out.three
 obtain ⟨y0, y1, y2⟩ := HY.out.three
 obtain ⟨m0, m1, m2, m3⟩ := mod_cells HG.out
 go_wp2_with fail
 go_ret
 exact ⟨by first | rfl | (rw [HV.out]; rfl), HB.out⟩

set_option maxHeartbeats 6400000 in
theorem r26Allow_stats_e {w : World} {g base : Nat} {Z : Nat -> Prop} {t p s : Int} {L : List (Int × Int)} {R : Nat -> Int} (h : RMod w g base Z t p s L R) (hn : L.length <= 90000) (a b err out aux : Int) (ha : -9223372036854775808 <= a /\ a <= 9223372036854775807) (hb : -9223372036854775808 <= b /\ b <= 9223372036854775807) (ho : opB 8 a b = true) (i : Int) (hi : mAt L a = i) (he : err = 0) (h1 : 0 <= out) (h2 : out <= p) (h3 : aux = (L.length : Int)) : Calls Tryd.prog 15 #[.pointer (some ⟨g, 0, none⟩), .agg #[.int .i64 8, .int .i64 a, .int .i64 b], .agg #[.int .i64 err, .int .i64 out, .int .i64 aux]] w fun e w' => e = .returned (.bool (true)) /\ Below w.heap.size w w' := by
 have HKL : Hid (-9223372036854775808 <= (8 : Int) /\ (8 : Int) <= 9223372036854775807) := hidp (by omega)
 have HAL := hidp ha
 have HBL := hidp hb
 clear ha hb
 have HRT := hidp ho
 clear ho
 have HI := hidp hi
 clear hi
 have q1 : (err == 0) = true := by simpa using he
 clear he
 have t1 : decide (0 <= out) = true := decide_eq_true (by omega)
 have t2 : decide (out <= p) = true := decide_eq_true (by omega)
 have q3 : (aux == (L.length : Int)) = true := by simpa using h3
 clear h3
 have HB := hidp (Bnew (Bnew (B0 w) (.cells #[.int .i64 8, .int .i64 a, .int .i64 b] 29)) (.cells #[.int .i64 err, .int .i64 out, .int .i64 aux] 32))
 have HM := hidp (h.keep HB.out)
 have HX := hidp ((Held.new w 29 #[.int .i64 8, .int .i64 a, .int .i64 b]).alloc (.cells #[.int .i64 err, .int .i64 out, .int .i64 aux] 32))
 have HY := hidp (Held.new2 w (.cells #[.int .i64 8, .int .i64 a, .int .i64 b] 29) 32 #[.int .i64 err, .int .i64 out, .int .i64 aux])
 have HN := hidp hn
 obtain ⟨A, c, hx, ho⟩ := h.ex
 have HG := hidp (hx.keep HB.out)
 have HO := hidp (own_below ho HB.out)
 have hcv := own_caps3 ho
 clear hx ho h hn
 obtain ⟨x0, x1, x2⟩ := HX.out.three
 obtain ⟨y0, y1, y2⟩ := HY.out.three
 obtain ⟨m0, m1, m2, m3⟩ := mod_cells HG.out
 go_enter Tryd.func15, Tryd.ntmps15
 go_wp2_with fail
 refine (r22Right_c 8 a b HKL.out HAL.out HBL.out _).mono ?_; rintro e w1 ⟨rfl, hb⟩; rw [HRT.out]
 clear x0 x1 x2 y0 y1 y2 m0 m1 m2 m3
 replace HX := hidp (HX.out.keep hb)
 replace HY := hidp (HY.out.keep hb)
 replace HG := hidp (HG.out.keep hb)
 replace HO := hidp (own_below HO.out hb)
 replace HM := hidp (HM.out.keep hb)
 replace HB := hidp (Bgo HB.out hb)
 clear hb
 obtain ⟨x0, x1, x2⟩ := HX.out.three
 obtain ⟨y0, y1, y2⟩ := HY.out.three
 obtain ⟨m0, m1, m2, m3⟩ := mod_cells HG.out
 go_wp2_with fail
 refine (r26At_c HM.out HN.out a).mono ?_; rintro e w1 ⟨rfl, rfl⟩; rw [HI.out]
 go_wp2_with fail
 clear x0 x1 x2 y0 y1 y2 m0 m1 m2 m3
 replace HX := hidp (HX.out.keep (Bdrew (B0 _)))
 replace HY := hidp (HY.out.keep (Bdrew (B0 _)))
 replace HG := hidp (HG.out.keep (Bdrew (B0 _)))
 replace HO := hidp (own_below HO.out (Bdrew (B0 _)))
 replace HM := hidp (HM.out.keep (Bdrew (B0 _)))
 replace HB := hidp (Bgo HB.out (Bdrew (B0 _)))
 refine wp_region_held_drew (S := (fun w' => (w'.cell? ⟨w.heap.size, 0, none⟩ = some (.int .i64 8) /\ w'.cell? ⟨w.heap.size, 1, none⟩ = some (.int .i64 a) /\ w'.cell? ⟨w.heap.size, 2, none⟩ = some (.int .i64 b)) /\ (w'.cell? ⟨w.heap.size + 1, 0, none⟩ = some (.int .i64 err) /\ w'.cell? ⟨w.heap.size + 1, 1, none⟩ = some (.int .i64 out) /\ w'.cell? ⟨w.heap.size + 1, 2, none⟩ = some (.int .i64 aux)) /\ (w'.cell? ⟨g, 0, none⟩ = some (.int .i64 t) /\ w'.cell? ⟨g, 1, none⟩ = some (.int .i64 p) /\ w'.cell? ⟨g, 2, none⟩ = some (.int .i64 s) /\ w'.cell? ⟨g, 3, none⟩ = some (.slice A L.length c)))) (by kernel_rfl) ?_ (fun hHeld => ?_)
 ·(try dsimp only)
  first | exact ⟨HX.out.three, HY.out.three, mod_cells HG.out⟩ | exact hHeld
 refine tkz 0 ?_
 refine tkz 1 ?_
 refine tkz 2 ?_
 refine tkz 3 ?_
 refine tkz 4 ?_
 refine tkz 5 ?_
 refine tkz 6 ?_
 refine tkz 7 ?_
 refine tkz 8 ?_
 refine tkz 9 ?_
 refine tkz 10 ?_
 refine tkz 11 ?_
 refine tkz 12 ?_
 refine tkz 13 ?_
 refine tkz 14 ?_
 refine tkz 15 ?_
 refine tkz 16 ?_
 refine tkz 17 ?_
 refine tkz 18 ?_
 refine tkz 19 ?_
 refine tkz 20 ?_
 refine tkz 21 ?_
 refine tkz 22 ?_
 refine tkz 23 ?_
 refine tkz 24 ?_
 refine tkz 25 ?_
 refine tkz 26 ?_
 refine tkz 27 ?_
 refine tkz 28 ?_
 refine tkz 29 ?_
 refine dnz ?_
 obtain ⟨x0, x1, x2⟩ := HX.out.three
 obtain ⟨y0, y1, y2⟩ := HY.out.three
 obtain ⟨m0, m1, m2, m3⟩ := mod_cells HG.out
 go_wp2_with fail
 go_ret
 exact ⟨by first | rfl | (rw [HV.out]; rfl), HB.out⟩

set_option maxHeartbeats 6400000 in
theorem r26Allow_flush_lo {w : World} {g base : Nat} {Z : Nat -> Prop} {t p s : Int} {L : List (Int × Int)} {R : Nat -> Int} (h : RMod w g base Z t p s L R) (hn : L.length <= 90000) (a b err out aux : Int) (ha : -9223372036854775808 <= a /\ a <= 9223372036854775807) (hb : -9223372036854775808 <= b /\ b <= 9223372036854775807) (ho : opB 9 a b = true) (i : Int) (hi : mAt L a = i) (h1 : a < 0) (v : Bool) (hj : justB 7 err out aux = v) : Calls Tryd.prog 15 #[.pointer (some ⟨g, 0, none⟩), .agg #[.int .i64 9, .int .i64 a, .int .i64 b], .agg #[.int .i64 err, .int .i64 out, .int .i64 aux]] w fun e w' => e = .returned (.bool (v)) /\ Below w.heap.size w w' := by
 have HKL : Hid (-9223372036854775808 <= (9 : Int) /\ (9 : Int) <= 9223372036854775807) := hidp (by omega)
 have HAL := hidp ha
 have HBL := hidp hb
 clear ha hb
 have HRT := hidp ho
 clear ho
 have HI := hidp hi
 clear hi
 have t1 : decide (a < 0) = true := decide_eq_true (by omega)
 have HJ := hidp hj
 clear hj h1
 have HB := hidp (Bnew (Bnew (B0 w) (.cells #[.int .i64 9, .int .i64 a, .int .i64 b] 29)) (.cells #[.int .i64 err, .int .i64 out, .int .i64 aux] 32))
 have HM := hidp (h.keep HB.out)
 have HX := hidp ((Held.new w 29 #[.int .i64 9, .int .i64 a, .int .i64 b]).alloc (.cells #[.int .i64 err, .int .i64 out, .int .i64 aux] 32))
 have HY := hidp (Held.new2 w (.cells #[.int .i64 9, .int .i64 a, .int .i64 b] 29) 32 #[.int .i64 err, .int .i64 out, .int .i64 aux])
 have HN := hidp hn
 obtain ⟨A, c, hx, ho⟩ := h.ex
 have HG := hidp (hx.keep HB.out)
 have HO := hidp (own_below ho HB.out)
 have hcv := own_caps3 ho
 clear hx ho h hn
 obtain ⟨x0, x1, x2⟩ := HX.out.three
 obtain ⟨y0, y1, y2⟩ := HY.out.three
 obtain ⟨m0, m1, m2, m3⟩ := mod_cells HG.out
 go_enter Tryd.func15, Tryd.ntmps15
 go_wp2_with fail
 refine (r22Right_c 9 a b HKL.out HAL.out HBL.out _).mono ?_; rintro e w1 ⟨rfl, hb⟩; rw [HRT.out]
 clear x0 x1 x2 y0 y1 y2 m0 m1 m2 m3
 replace HX := hidp (HX.out.keep hb)
 replace HY := hidp (HY.out.keep hb)
 replace HG := hidp (HG.out.keep hb)
 replace HO := hidp (own_below HO.out hb)
 replace HM := hidp (HM.out.keep hb)
 replace HB := hidp (Bgo HB.out hb)
 clear hb
 obtain ⟨x0, x1, x2⟩ := HX.out.three
 obtain ⟨y0, y1, y2⟩ := HY.out.three
 obtain ⟨m0, m1, m2, m3⟩ := mod_cells HG.out
 go_wp2_with fail
 refine (r26At_c HM.out HN.out a).mono ?_; rintro e w1 ⟨rfl, rfl⟩; rw [HI.out]
 go_wp2_with fail
 refine (r26Just_c 7 err out aux _).mono ?_; rintro e w1 ⟨rfl, hb⟩; rw [HJ.out]
 clear x0 x1 x2 y0 y1 y2 m0 m1 m2 m3
 replace HX := hidp (HX.out.keep hb)
 replace HY := hidp (HY.out.keep hb)
 replace HG := hidp (HG.out.keep hb)
 replace HO := hidp (own_below HO.out hb)
 replace HM := hidp (HM.out.keep hb)
 replace HB := hidp (Bgo HB.out hb)
 clear hb
 obtain ⟨x0, x1, x2⟩ := HX.out.three
 obtain ⟨y0, y1, y2⟩ := HY.out.three
 obtain ⟨m0, m1, m2, m3⟩ := mod_cells HG.out
 go_wp2_with fail
 go_ret
 exact ⟨by first | rfl | (rw [HV.out]; rfl), HB.out⟩

set_option maxHeartbeats 6400000 in
theorem r26Allow_flush_hi {w : World} {g base : Nat} {Z : Nat -> Prop} {t p s : Int} {L : List (Int × Int)} {R : Nat -> Int} (h : RMod w g base Z t p s L R) (hn : L.length <= 90000) (a b err out aux : Int) (ha : -9223372036854775808 <= a /\ a <= 9223372036854775807) (hb : -9223372036854775808 <= b /\ b <= 9223372036854775807) (ho : opB 9 a b = true) (i : Int) (hi : mAt L a = i) (h1 : 8 < a) (v : Bool) (hj : justB 7 err out aux = v) : Calls Tryd.prog 15 #[.pointer (some ⟨g, 0, none⟩), .agg #[.int .i64 9, .int .i64 a, .int .i64 b], .agg #[.int .i64 err, .int .i64 out, .int .i64 aux]] w fun e w' => e = .returned (.bool (v)) /\ Below w.heap.size w w' := by
 have HKL : Hid (-9223372036854775808 <= (9 : Int) /\ (9 : Int) <= 9223372036854775807) := hidp (by omega)
 have HAL := hidp ha
 have HBL := hidp hb
 clear ha hb
 have HRT := hidp ho
 clear ho
 have HI := hidp hi
 clear hi
 have t1 : decide (a < 0) = false := decide_eq_false (by omega)
 have t2 : decide (8 < a) = true := decide_eq_true (by omega)
 have HJ := hidp hj
 clear hj h1
 have HB := hidp (Bnew (Bnew (B0 w) (.cells #[.int .i64 9, .int .i64 a, .int .i64 b] 29)) (.cells #[.int .i64 err, .int .i64 out, .int .i64 aux] 32))
 have HM := hidp (h.keep HB.out)
 have HX := hidp ((Held.new w 29 #[.int .i64 9, .int .i64 a, .int .i64 b]).alloc (.cells #[.int .i64 err, .int .i64 out, .int .i64 aux] 32))
 have HY := hidp (Held.new2 w (.cells #[.int .i64 9, .int .i64 a, .int .i64 b] 29) 32 #[.int .i64 err, .int .i64 out, .int .i64 aux])
 have HN := hidp hn
 obtain ⟨A, c, hx, ho⟩ := h.ex
 have HG := hidp (hx.keep HB.out)
 have HO := hidp (own_below ho HB.out)
 have hcv := own_caps3 ho
 clear hx ho h hn
 obtain ⟨x0, x1, x2⟩ := HX.out.three
 obtain ⟨y0, y1, y2⟩ := HY.out.three
 obtain ⟨m0, m1, m2, m3⟩ := mod_cells HG.out
 go_enter Tryd.func15, Tryd.ntmps15
 go_wp2_with fail
 refine (r22Right_c 9 a b HKL.out HAL.out HBL.out _).mono ?_; rintro e w1 ⟨rfl, hb⟩; rw [HRT.out]
 clear x0 x1 x2 y0 y1 y2 m0 m1 m2 m3
 replace HX := hidp (HX.out.keep hb)
 replace HY := hidp (HY.out.keep hb)
 replace HG := hidp (HG.out.keep hb)
 replace HO := hidp (own_below HO.out hb)
 replace HM := hidp (HM.out.keep hb)
 replace HB := hidp (Bgo HB.out hb)
 clear hb
 obtain ⟨x0, x1, x2⟩ := HX.out.three
 obtain ⟨y0, y1, y2⟩ := HY.out.three
 obtain ⟨m0, m1, m2, m3⟩ := mod_cells HG.out
 go_wp2_with fail
 refine (r26At_c HM.out HN.out a).mono ?_; rintro e w1 ⟨rfl, rfl⟩; rw [HI.out]
 go_wp2_with fail
 refine (r26Just_c 7 err out aux _).mono ?_; rintro e w1 ⟨rfl, hb⟩; rw [HJ.out]
 clear x0 x1 x2 y0 y1 y2 m0 m1 m2 m3
 replace HX := hidp (HX.out.keep hb)
 replace HY := hidp (HY.out.keep hb)
 replace HG := hidp (HG.out.keep hb)
 replace HO := hidp (own_below HO.out hb)
 replace HM := hidp (HM.out.keep hb)
 replace HB := hidp (Bgo HB.out hb)
 clear hb
 obtain ⟨x0, x1, x2⟩ := HX.out.three
 obtain ⟨y0, y1, y2⟩ := HY.out.three
 obtain ⟨m0, m1, m2, m3⟩ := mod_cells HG.out
 go_wp2_with fail
 go_ret
 exact ⟨by first | rfl | (rw [HV.out]; rfl), HB.out⟩

set_option maxHeartbeats 6400000 in
theorem r26Allow_flush_a {w : World} {g base : Nat} {Z : Nat -> Prop} {t p s : Int} {L : List (Int × Int)} {R : Nat -> Int} (h : RMod w g base Z t p s L R) (hn : L.length <= 90000) (a b err out aux : Int) (ha : -9223372036854775808 <= a /\ a <= 9223372036854775807) (hb : -9223372036854775808 <= b /\ b <= 9223372036854775807) (ho : opB 9 a b = true) (i : Int) (hi : mAt L a = i) (h0 : 0 <= a) (h8 : a <= 8) (he : err ≠ 0) : Calls Tryd.prog 15 #[.pointer (some ⟨g, 0, none⟩), .agg #[.int .i64 9, .int .i64 a, .int .i64 b], .agg #[.int .i64 err, .int .i64 out, .int .i64 aux]] w fun e w' => e = .returned (.bool (false)) /\ Below w.heap.size w w' := by
 have HKL : Hid (-9223372036854775808 <= (9 : Int) /\ (9 : Int) <= 9223372036854775807) := hidp (by omega)
 have HAL := hidp ha
 have HBL := hidp hb
 clear ha hb
 have HRT := hidp ho
 clear ho
 have HI := hidp hi
 clear hi
 have t1 : decide (a < 0) = false := decide_eq_false (by omega)
 have t2 : decide (8 < a) = false := decide_eq_false (by omega)
 have q1 : (err == 0) = false := by simpa using he
 clear he
 have HB := hidp (Bnew (Bnew (B0 w) (.cells #[.int .i64 9, .int .i64 a, .int .i64 b] 29)) (.cells #[.int .i64 err, .int .i64 out, .int .i64 aux] 32))
 have HM := hidp (h.keep HB.out)
 have HX := hidp ((Held.new w 29 #[.int .i64 9, .int .i64 a, .int .i64 b]).alloc (.cells #[.int .i64 err, .int .i64 out, .int .i64 aux] 32))
 have HY := hidp (Held.new2 w (.cells #[.int .i64 9, .int .i64 a, .int .i64 b] 29) 32 #[.int .i64 err, .int .i64 out, .int .i64 aux])
 have HN := hidp hn
 obtain ⟨A, c, hx, ho⟩ := h.ex
 have HG := hidp (hx.keep HB.out)
 have HO := hidp (own_below ho HB.out)
 have hcv := own_caps3 ho
 clear hx ho h hn
 obtain ⟨x0, x1, x2⟩ := HX.out.three
 obtain ⟨y0, y1, y2⟩ := HY.out.three
 obtain ⟨m0, m1, m2, m3⟩ := mod_cells HG.out
 go_enter Tryd.func15, Tryd.ntmps15
 go_wp2_with fail
 refine (r22Right_c 9 a b HKL.out HAL.out HBL.out _).mono ?_; rintro e w1 ⟨rfl, hb⟩; rw [HRT.out]
 clear x0 x1 x2 y0 y1 y2 m0 m1 m2 m3
 replace HX := hidp (HX.out.keep hb)
 replace HY := hidp (HY.out.keep hb)
 replace HG := hidp (HG.out.keep hb)
 replace HO := hidp (own_below HO.out hb)
 replace HM := hidp (HM.out.keep hb)
 replace HB := hidp (Bgo HB.out hb)
 clear hb
 obtain ⟨x0, x1, x2⟩ := HX.out.three
 obtain ⟨y0, y1, y2⟩ := HY.out.three
 obtain ⟨m0, m1, m2, m3⟩ := mod_cells HG.out
 go_wp2_with fail
 refine (r26At_c HM.out HN.out a).mono ?_; rintro e w1 ⟨rfl, rfl⟩; rw [HI.out]
 go_wp2_with fail
 go_ret
 exact ⟨by first | rfl | (rw [HV.out]; rfl), HB.out⟩

set_option maxHeartbeats 6400000 in
theorem r26Allow_flush_b {w : World} {g base : Nat} {Z : Nat -> Prop} {t p s : Int} {L : List (Int × Int)} {R : Nat -> Int} (h : RMod w g base Z t p s L R) (hn : L.length <= 90000) (a b err out aux : Int) (ha : -9223372036854775808 <= a /\ a <= 9223372036854775807) (hb : -9223372036854775808 <= b /\ b <= 9223372036854775807) (ho : opB 9 a b = true) (i : Int) (hi : mAt L a = i) (h0 : 0 <= a) (h8 : a <= 8) (he : err = 0) (h1 : out < 0) : Calls Tryd.prog 15 #[.pointer (some ⟨g, 0, none⟩), .agg #[.int .i64 9, .int .i64 a, .int .i64 b], .agg #[.int .i64 err, .int .i64 out, .int .i64 aux]] w fun e w' => e = .returned (.bool (false)) /\ Below w.heap.size w w' := by
 have HKL : Hid (-9223372036854775808 <= (9 : Int) /\ (9 : Int) <= 9223372036854775807) := hidp (by omega)
 have HAL := hidp ha
 have HBL := hidp hb
 clear ha hb
 have HRT := hidp ho
 clear ho
 have HI := hidp hi
 clear hi
 have t1 : decide (a < 0) = false := decide_eq_false (by omega)
 have t2 : decide (8 < a) = false := decide_eq_false (by omega)
 have q1 : (err == 0) = true := by simpa using he
 clear he
 have t3 : decide (0 <= out) = false := decide_eq_false (by omega)
 have HB := hidp (Bnew (Bnew (B0 w) (.cells #[.int .i64 9, .int .i64 a, .int .i64 b] 29)) (.cells #[.int .i64 err, .int .i64 out, .int .i64 aux] 32))
 have HM := hidp (h.keep HB.out)
 have HX := hidp ((Held.new w 29 #[.int .i64 9, .int .i64 a, .int .i64 b]).alloc (.cells #[.int .i64 err, .int .i64 out, .int .i64 aux] 32))
 have HY := hidp (Held.new2 w (.cells #[.int .i64 9, .int .i64 a, .int .i64 b] 29) 32 #[.int .i64 err, .int .i64 out, .int .i64 aux])
 have HN := hidp hn
 obtain ⟨A, c, hx, ho⟩ := h.ex
 have HG := hidp (hx.keep HB.out)
 have HO := hidp (own_below ho HB.out)
 have hcv := own_caps3 ho
 clear hx ho h hn
 obtain ⟨x0, x1, x2⟩ := HX.out.three
 obtain ⟨y0, y1, y2⟩ := HY.out.three
 obtain ⟨m0, m1, m2, m3⟩ := mod_cells HG.out
 go_enter Tryd.func15, Tryd.ntmps15
 go_wp2_with fail
 refine (r22Right_c 9 a b HKL.out HAL.out HBL.out _).mono ?_; rintro e w1 ⟨rfl, hb⟩; rw [HRT.out]
 clear x0 x1 x2 y0 y1 y2 m0 m1 m2 m3
 replace HX := hidp (HX.out.keep hb)
 replace HY := hidp (HY.out.keep hb)
 replace HG := hidp (HG.out.keep hb)
 replace HO := hidp (own_below HO.out hb)
 replace HM := hidp (HM.out.keep hb)
 replace HB := hidp (Bgo HB.out hb)
 clear hb
 obtain ⟨x0, x1, x2⟩ := HX.out.three
 obtain ⟨y0, y1, y2⟩ := HY.out.three
 obtain ⟨m0, m1, m2, m3⟩ := mod_cells HG.out
 go_wp2_with fail
 refine (r26At_c HM.out HN.out a).mono ?_; rintro e w1 ⟨rfl, rfl⟩; rw [HI.out]
 go_wp2_with fail
 go_ret
 exact ⟨by first | rfl | (rw [HV.out]; rfl), HB.out⟩

set_option maxHeartbeats 6400000 in
theorem r26Allow_flush_c {w : World} {g base : Nat} {Z : Nat -> Prop} {t p s : Int} {L : List (Int × Int)} {R : Nat -> Int} (h : RMod w g base Z t p s L R) (hn : L.length <= 90000) (a b err out aux : Int) (ha : -9223372036854775808 <= a /\ a <= 9223372036854775807) (hb : -9223372036854775808 <= b /\ b <= 9223372036854775807) (ho : opB 9 a b = true) (i : Int) (hi : mAt L a = i) (h0 : 0 <= a) (h8 : a <= 8) (he : err = 0) (h1 : 0 <= out) (h2 : 4 < out) : Calls Tryd.prog 15 #[.pointer (some ⟨g, 0, none⟩), .agg #[.int .i64 9, .int .i64 a, .int .i64 b], .agg #[.int .i64 err, .int .i64 out, .int .i64 aux]] w fun e w' => e = .returned (.bool (false)) /\ Below w.heap.size w w' := by
 have HKL : Hid (-9223372036854775808 <= (9 : Int) /\ (9 : Int) <= 9223372036854775807) := hidp (by omega)
 have HAL := hidp ha
 have HBL := hidp hb
 clear ha hb
 have HRT := hidp ho
 clear ho
 have HI := hidp hi
 clear hi
 have t1 : decide (a < 0) = false := decide_eq_false (by omega)
 have t2 : decide (8 < a) = false := decide_eq_false (by omega)
 have q1 : (err == 0) = true := by simpa using he
 clear he
 have t3 : decide (0 <= out) = true := decide_eq_true (by omega)
 have t4 : decide (out <= 4) = false := decide_eq_false (by omega)
 have HB := hidp (Bnew (Bnew (B0 w) (.cells #[.int .i64 9, .int .i64 a, .int .i64 b] 29)) (.cells #[.int .i64 err, .int .i64 out, .int .i64 aux] 32))
 have HM := hidp (h.keep HB.out)
 have HX := hidp ((Held.new w 29 #[.int .i64 9, .int .i64 a, .int .i64 b]).alloc (.cells #[.int .i64 err, .int .i64 out, .int .i64 aux] 32))
 have HY := hidp (Held.new2 w (.cells #[.int .i64 9, .int .i64 a, .int .i64 b] 29) 32 #[.int .i64 err, .int .i64 out, .int .i64 aux])
 have HN := hidp hn
 obtain ⟨A, c, hx, ho⟩ := h.ex
 have HG := hidp (hx.keep HB.out)
 have HO := hidp (own_below ho HB.out)
 have hcv := own_caps3 ho
 clear hx ho h hn
 obtain ⟨x0, x1, x2⟩ := HX.out.three
 obtain ⟨y0, y1, y2⟩ := HY.out.three
 obtain ⟨m0, m1, m2, m3⟩ := mod_cells HG.out
 go_enter Tryd.func15, Tryd.ntmps15
 go_wp2_with fail
 refine (r22Right_c 9 a b HKL.out HAL.out HBL.out _).mono ?_; rintro e w1 ⟨rfl, hb⟩; rw [HRT.out]
 clear x0 x1 x2 y0 y1 y2 m0 m1 m2 m3
 replace HX := hidp (HX.out.keep hb)
 replace HY := hidp (HY.out.keep hb)
 replace HG := hidp (HG.out.keep hb)
 replace HO := hidp (own_below HO.out hb)
 replace HM := hidp (HM.out.keep hb)
 replace HB := hidp (Bgo HB.out hb)
 clear hb
 obtain ⟨x0, x1, x2⟩ := HX.out.three
 obtain ⟨y0, y1, y2⟩ := HY.out.three
 obtain ⟨m0, m1, m2, m3⟩ := mod_cells HG.out
 go_wp2_with fail
 refine (r26At_c HM.out HN.out a).mono ?_; rintro e w1 ⟨rfl, rfl⟩; rw [HI.out]
 go_wp2_with fail
 go_ret
 exact ⟨by first | rfl | (rw [HV.out]; rfl), HB.out⟩

set_option maxHeartbeats 6400000 in
theorem r26Allow_flush_d {w : World} {g base : Nat} {Z : Nat -> Prop} {t p s : Int} {L : List (Int × Int)} {R : Nat -> Int} (h : RMod w g base Z t p s L R) (hn : L.length <= 90000) (a b err out aux : Int) (ha : -9223372036854775808 <= a /\ a <= 9223372036854775807) (hb : -9223372036854775808 <= b /\ b <= 9223372036854775807) (ho : opB 9 a b = true) (i : Int) (hi : mAt L a = i) (h0 : 0 <= a) (h8 : a <= 8) (he : err = 0) (h1 : 0 <= out) (h2 : out <= 4) (h3 : aux ≠ 0) : Calls Tryd.prog 15 #[.pointer (some ⟨g, 0, none⟩), .agg #[.int .i64 9, .int .i64 a, .int .i64 b], .agg #[.int .i64 err, .int .i64 out, .int .i64 aux]] w fun e w' => e = .returned (.bool (false)) /\ Below w.heap.size w w' := by
 have HKL : Hid (-9223372036854775808 <= (9 : Int) /\ (9 : Int) <= 9223372036854775807) := hidp (by omega)
 have HAL := hidp ha
 have HBL := hidp hb
 clear ha hb
 have HRT := hidp ho
 clear ho
 have HI := hidp hi
 clear hi
 have t1 : decide (a < 0) = false := decide_eq_false (by omega)
 have t2 : decide (8 < a) = false := decide_eq_false (by omega)
 have q1 : (err == 0) = true := by simpa using he
 clear he
 have t3 : decide (0 <= out) = true := decide_eq_true (by omega)
 have t4 : decide (out <= 4) = true := decide_eq_true (by omega)
 have q3 : (aux == 0) = false := by simpa using h3
 have HB := hidp (Bnew (Bnew (B0 w) (.cells #[.int .i64 9, .int .i64 a, .int .i64 b] 29)) (.cells #[.int .i64 err, .int .i64 out, .int .i64 aux] 32))
 have HM := hidp (h.keep HB.out)
 have HX := hidp ((Held.new w 29 #[.int .i64 9, .int .i64 a, .int .i64 b]).alloc (.cells #[.int .i64 err, .int .i64 out, .int .i64 aux] 32))
 have HY := hidp (Held.new2 w (.cells #[.int .i64 9, .int .i64 a, .int .i64 b] 29) 32 #[.int .i64 err, .int .i64 out, .int .i64 aux])
 have HN := hidp hn
 obtain ⟨A, c, hx, ho⟩ := h.ex
 have HG := hidp (hx.keep HB.out)
 have HO := hidp (own_below ho HB.out)
 have hcv := own_caps3 ho
 clear hx ho h hn
 obtain ⟨x0, x1, x2⟩ := HX.out.three
 obtain ⟨y0, y1, y2⟩ := HY.out.three
 obtain ⟨m0, m1, m2, m3⟩ := mod_cells HG.out
 go_enter Tryd.func15, Tryd.ntmps15
 go_wp2_with fail
 refine (r22Right_c 9 a b HKL.out HAL.out HBL.out _).mono ?_; rintro e w1 ⟨rfl, hb⟩; rw [HRT.out]
 clear x0 x1 x2 y0 y1 y2 m0 m1 m2 m3
 replace HX := hidp (HX.out.keep hb)
 replace HY := hidp (HY.out.keep hb)
 replace HG := hidp (HG.out.keep hb)
 replace HO := hidp (own_below HO.out hb)
 replace HM := hidp (HM.out.keep hb)
 replace HB := hidp (Bgo HB.out hb)
 clear hb
 obtain ⟨x0, x1, x2⟩ := HX.out.three
 obtain ⟨y0, y1, y2⟩ := HY.out.three
 obtain ⟨m0, m1, m2, m3⟩ := mod_cells HG.out
 go_wp2_with fail
 refine (r26At_c HM.out HN.out a).mono ?_; rintro e w1 ⟨rfl, rfl⟩; rw [HI.out]
 go_wp2_with fail
 go_ret
 exact ⟨by first | rfl | (rw [HV.out]; rfl), HB.out⟩

set_option maxHeartbeats 6400000 in
theorem r26Allow_flush_e {w : World} {g base : Nat} {Z : Nat -> Prop} {t p s : Int} {L : List (Int × Int)} {R : Nat -> Int} (h : RMod w g base Z t p s L R) (hn : L.length <= 90000) (a b err out aux : Int) (ha : -9223372036854775808 <= a /\ a <= 9223372036854775807) (hb : -9223372036854775808 <= b /\ b <= 9223372036854775807) (ho : opB 9 a b = true) (i : Int) (hi : mAt L a = i) (h0 : 0 <= a) (h8 : a <= 8) (he : err = 0) (h1 : 0 <= out) (h2 : out <= 4) (h3 : aux = 0) : Calls Tryd.prog 15 #[.pointer (some ⟨g, 0, none⟩), .agg #[.int .i64 9, .int .i64 a, .int .i64 b], .agg #[.int .i64 err, .int .i64 out, .int .i64 aux]] w fun e w' => e = .returned (.bool (true)) /\ Below w.heap.size w w' := by
 have HKL : Hid (-9223372036854775808 <= (9 : Int) /\ (9 : Int) <= 9223372036854775807) := hidp (by omega)
 have HAL := hidp ha
 have HBL := hidp hb
 clear ha hb
 have HRT := hidp ho
 clear ho
 have HI := hidp hi
 clear hi
 have t1 : decide (a < 0) = false := decide_eq_false (by omega)
 have t2 : decide (8 < a) = false := decide_eq_false (by omega)
 have q1 : (err == 0) = true := by simpa using he
 clear he
 have t3 : decide (0 <= out) = true := decide_eq_true (by omega)
 have t4 : decide (out <= 4) = true := decide_eq_true (by omega)
 have q3 : (aux == 0) = true := by simpa using h3
 clear h3
 have HB := hidp (Bnew (Bnew (B0 w) (.cells #[.int .i64 9, .int .i64 a, .int .i64 b] 29)) (.cells #[.int .i64 err, .int .i64 out, .int .i64 aux] 32))
 have HM := hidp (h.keep HB.out)
 have HX := hidp ((Held.new w 29 #[.int .i64 9, .int .i64 a, .int .i64 b]).alloc (.cells #[.int .i64 err, .int .i64 out, .int .i64 aux] 32))
 have HY := hidp (Held.new2 w (.cells #[.int .i64 9, .int .i64 a, .int .i64 b] 29) 32 #[.int .i64 err, .int .i64 out, .int .i64 aux])
 have HN := hidp hn
 obtain ⟨A, c, hx, ho⟩ := h.ex
 have HG := hidp (hx.keep HB.out)
 have HO := hidp (own_below ho HB.out)
 have hcv := own_caps3 ho
 clear hx ho h hn
 obtain ⟨x0, x1, x2⟩ := HX.out.three
 obtain ⟨y0, y1, y2⟩ := HY.out.three
 obtain ⟨m0, m1, m2, m3⟩ := mod_cells HG.out
 go_enter Tryd.func15, Tryd.ntmps15
 go_wp2_with fail
 refine (r22Right_c 9 a b HKL.out HAL.out HBL.out _).mono ?_; rintro e w1 ⟨rfl, hb⟩; rw [HRT.out]
 clear x0 x1 x2 y0 y1 y2 m0 m1 m2 m3
 replace HX := hidp (HX.out.keep hb)
 replace HY := hidp (HY.out.keep hb)
 replace HG := hidp (HG.out.keep hb)
 replace HO := hidp (own_below HO.out hb)
 replace HM := hidp (HM.out.keep hb)
 replace HB := hidp (Bgo HB.out hb)
 clear hb
 obtain ⟨x0, x1, x2⟩ := HX.out.three
 obtain ⟨y0, y1, y2⟩ := HY.out.three
 obtain ⟨m0, m1, m2, m3⟩ := mod_cells HG.out
 go_wp2_with fail
 refine (r26At_c HM.out HN.out a).mono ?_; rintro e w1 ⟨rfl, rfl⟩; rw [HI.out]
 go_wp2_with fail
 go_ret
 exact ⟨by first | rfl | (rw [HV.out]; rfl), HB.out⟩

set_option maxHeartbeats 6400000 in
theorem r26Allow_root4 {w : World} {g base : Nat} {Z : Nat -> Prop} {t p s : Int} {L : List (Int × Int)} {R : Nat -> Int} (h : RMod w g base Z t p s L R) (hn : L.length <= 90000) (a b err out aux : Int) (ha : -9223372036854775808 <= a /\ a <= 9223372036854775807) (hb : -9223372036854775808 <= b /\ b <= 9223372036854775807) (ho : opB 4 a b = true) (i : Int) (hi : mAt L a = i) (rb : Bool) (hr : rootM t p s L R 4 a b err out aux = rb) : Calls Tryd.prog 15 #[.pointer (some ⟨g, 0, none⟩), .agg #[.int .i64 4, .int .i64 a, .int .i64 b], .agg #[.int .i64 err, .int .i64 out, .int .i64 aux]] w fun e w' => e = .returned (.bool (rb)) /\ Below w.heap.size w w' := by
 have HKL : Hid (-9223372036854775808 <= (4 : Int) /\ (4 : Int) <= 9223372036854775807) := hidp (by omega)
 have HAL := hidp ha
 have HBL := hidp hb
 clear ha hb
 have HRT := hidp ho
 clear ho
 have HI := hidp hi
 have HRB := hidp hr
 clear hi hr
 have HB := hidp (Bnew (Bnew (B0 w) (.cells #[.int .i64 4, .int .i64 a, .int .i64 b] 29)) (.cells #[.int .i64 err, .int .i64 out, .int .i64 aux] 32))
 have HM := hidp (h.keep HB.out)
 have HX := hidp ((Held.new w 29 #[.int .i64 4, .int .i64 a, .int .i64 b]).alloc (.cells #[.int .i64 err, .int .i64 out, .int .i64 aux] 32))
 have HY := hidp (Held.new2 w (.cells #[.int .i64 4, .int .i64 a, .int .i64 b] 29) 32 #[.int .i64 err, .int .i64 out, .int .i64 aux])
 have HN := hidp hn
 obtain ⟨A, c, hx, ho⟩ := h.ex
 have HG := hidp (hx.keep HB.out)
 have HO := hidp (own_below ho HB.out)
 have hcv := own_caps3 ho
 clear hx ho h hn
 obtain ⟨x0, x1, x2⟩ := HX.out.three
 obtain ⟨y0, y1, y2⟩ := HY.out.three
 obtain ⟨m0, m1, m2, m3⟩ := mod_cells HG.out
 go_enter Tryd.func15, Tryd.ntmps15
 go_wp2_with fail
 refine (r22Right_c 4 a b HKL.out HAL.out HBL.out _).mono ?_; rintro e w1 ⟨rfl, hb⟩; rw [HRT.out]
 clear x0 x1 x2 y0 y1 y2 m0 m1 m2 m3
 replace HX := hidp (HX.out.keep hb)
 replace HY := hidp (HY.out.keep hb)
 replace HG := hidp (HG.out.keep hb)
 replace HO := hidp (own_below HO.out hb)
 replace HM := hidp (HM.out.keep hb)
 replace HB := hidp (Bgo HB.out hb)
 clear hb
 obtain ⟨x0, x1, x2⟩ := HX.out.three
 obtain ⟨y0, y1, y2⟩ := HY.out.three
 obtain ⟨m0, m1, m2, m3⟩ := mod_cells HG.out
 go_wp2_with fail
 refine (r26At_c HM.out HN.out a).mono ?_; rintro e w1 ⟨rfl, rfl⟩; rw [HI.out]
 go_wp2_with fail
 refine (r26Root_c HM.out HN.out 4 a b err out aux HAL.out HBL.out (by omega)).mono ?_; rintro e w1 ⟨rfl, hb⟩; rw [HRB.out]
 clear x0 x1 x2 y0 y1 y2 m0 m1 m2 m3
 replace HX := hidp (HX.out.keep hb)
 replace HY := hidp (HY.out.keep hb)
 replace HG := hidp (HG.out.keep hb)
 replace HO := hidp (own_below HO.out hb)
 replace HM := hidp (HM.out.keep hb)
 replace HB := hidp (Bgo HB.out hb)
 clear hb
 obtain ⟨x0, x1, x2⟩ := HX.out.three
 obtain ⟨y0, y1, y2⟩ := HY.out.three
 obtain ⟨m0, m1, m2, m3⟩ := mod_cells HG.out
 go_wp2_with fail
 go_ret
 exact ⟨by first | rfl | (rw [HV.out]; rfl), HB.out⟩

set_option maxHeartbeats 6400000 in
theorem r26Allow_root5 {w : World} {g base : Nat} {Z : Nat -> Prop} {t p s : Int} {L : List (Int × Int)} {R : Nat -> Int} (h : RMod w g base Z t p s L R) (hn : L.length <= 90000) (a b err out aux : Int) (ha : -9223372036854775808 <= a /\ a <= 9223372036854775807) (hb : -9223372036854775808 <= b /\ b <= 9223372036854775807) (ho : opB 5 a b = true) (i : Int) (hi : mAt L a = i) (rb : Bool) (hr : rootM t p s L R 5 a b err out aux = rb) : Calls Tryd.prog 15 #[.pointer (some ⟨g, 0, none⟩), .agg #[.int .i64 5, .int .i64 a, .int .i64 b], .agg #[.int .i64 err, .int .i64 out, .int .i64 aux]] w fun e w' => e = .returned (.bool (rb)) /\ Below w.heap.size w w' := by
 have HKL : Hid (-9223372036854775808 <= (5 : Int) /\ (5 : Int) <= 9223372036854775807) := hidp (by omega)
 have HAL := hidp ha
 have HBL := hidp hb
 clear ha hb
 have HRT := hidp ho
 clear ho
 have HI := hidp hi
 have HRB := hidp hr
 clear hi hr
 have HB := hidp (Bnew (Bnew (B0 w) (.cells #[.int .i64 5, .int .i64 a, .int .i64 b] 29)) (.cells #[.int .i64 err, .int .i64 out, .int .i64 aux] 32))
 have HM := hidp (h.keep HB.out)
 have HX := hidp ((Held.new w 29 #[.int .i64 5, .int .i64 a, .int .i64 b]).alloc (.cells #[.int .i64 err, .int .i64 out, .int .i64 aux] 32))
 have HY := hidp (Held.new2 w (.cells #[.int .i64 5, .int .i64 a, .int .i64 b] 29) 32 #[.int .i64 err, .int .i64 out, .int .i64 aux])
 have HN := hidp hn
 obtain ⟨A, c, hx, ho⟩ := h.ex
 have HG := hidp (hx.keep HB.out)
 have HO := hidp (own_below ho HB.out)
 have hcv := own_caps3 ho
 clear hx ho h hn
 obtain ⟨x0, x1, x2⟩ := HX.out.three
 obtain ⟨y0, y1, y2⟩ := HY.out.three
 obtain ⟨m0, m1, m2, m3⟩ := mod_cells HG.out
 go_enter Tryd.func15, Tryd.ntmps15
 go_wp2_with fail
 refine (r22Right_c 5 a b HKL.out HAL.out HBL.out _).mono ?_; rintro e w1 ⟨rfl, hb⟩; rw [HRT.out]
 clear x0 x1 x2 y0 y1 y2 m0 m1 m2 m3
 replace HX := hidp (HX.out.keep hb)
 replace HY := hidp (HY.out.keep hb)
 replace HG := hidp (HG.out.keep hb)
 replace HO := hidp (own_below HO.out hb)
 replace HM := hidp (HM.out.keep hb)
 replace HB := hidp (Bgo HB.out hb)
 clear hb
 obtain ⟨x0, x1, x2⟩ := HX.out.three
 obtain ⟨y0, y1, y2⟩ := HY.out.three
 obtain ⟨m0, m1, m2, m3⟩ := mod_cells HG.out
 go_wp2_with fail
 refine (r26At_c HM.out HN.out a).mono ?_; rintro e w1 ⟨rfl, rfl⟩; rw [HI.out]
 go_wp2_with fail
 refine (r26Root_c HM.out HN.out 5 a b err out aux HAL.out HBL.out (by omega)).mono ?_; rintro e w1 ⟨rfl, hb⟩; rw [HRB.out]
 clear x0 x1 x2 y0 y1 y2 m0 m1 m2 m3
 replace HX := hidp (HX.out.keep hb)
 replace HY := hidp (HY.out.keep hb)
 replace HG := hidp (HG.out.keep hb)
 replace HO := hidp (own_below HO.out hb)
 replace HM := hidp (HM.out.keep hb)
 replace HB := hidp (Bgo HB.out hb)
 clear hb
 obtain ⟨x0, x1, x2⟩ := HX.out.three
 obtain ⟨y0, y1, y2⟩ := HY.out.three
 obtain ⟨m0, m1, m2, m3⟩ := mod_cells HG.out
 go_wp2_with fail
 go_ret
 exact ⟨by first | rfl | (rw [HV.out]; rfl), HB.out⟩

set_option maxHeartbeats 6400000 in
theorem r26Allow_root6 {w : World} {g base : Nat} {Z : Nat -> Prop} {t p s : Int} {L : List (Int × Int)} {R : Nat -> Int} (h : RMod w g base Z t p s L R) (hn : L.length <= 90000) (a b err out aux : Int) (ha : -9223372036854775808 <= a /\ a <= 9223372036854775807) (hb : -9223372036854775808 <= b /\ b <= 9223372036854775807) (ho : opB 6 a b = true) (i : Int) (hi : mAt L a = i) (rb : Bool) (hr : rootM t p s L R 6 a b err out aux = rb) : Calls Tryd.prog 15 #[.pointer (some ⟨g, 0, none⟩), .agg #[.int .i64 6, .int .i64 a, .int .i64 b], .agg #[.int .i64 err, .int .i64 out, .int .i64 aux]] w fun e w' => e = .returned (.bool (rb)) /\ Below w.heap.size w w' := by
 have HKL : Hid (-9223372036854775808 <= (6 : Int) /\ (6 : Int) <= 9223372036854775807) := hidp (by omega)
 have HAL := hidp ha
 have HBL := hidp hb
 clear ha hb
 have HRT := hidp ho
 clear ho
 have HI := hidp hi
 have HRB := hidp hr
 clear hi hr
 have HB := hidp (Bnew (Bnew (B0 w) (.cells #[.int .i64 6, .int .i64 a, .int .i64 b] 29)) (.cells #[.int .i64 err, .int .i64 out, .int .i64 aux] 32))
 have HM := hidp (h.keep HB.out)
 have HX := hidp ((Held.new w 29 #[.int .i64 6, .int .i64 a, .int .i64 b]).alloc (.cells #[.int .i64 err, .int .i64 out, .int .i64 aux] 32))
 have HY := hidp (Held.new2 w (.cells #[.int .i64 6, .int .i64 a, .int .i64 b] 29) 32 #[.int .i64 err, .int .i64 out, .int .i64 aux])
 have HN := hidp hn
 obtain ⟨A, c, hx, ho⟩ := h.ex
 have HG := hidp (hx.keep HB.out)
 have HO := hidp (own_below ho HB.out)
 have hcv := own_caps3 ho
 clear hx ho h hn
 obtain ⟨x0, x1, x2⟩ := HX.out.three
 obtain ⟨y0, y1, y2⟩ := HY.out.three
 obtain ⟨m0, m1, m2, m3⟩ := mod_cells HG.out
 go_enter Tryd.func15, Tryd.ntmps15
 go_wp2_with fail
 refine (r22Right_c 6 a b HKL.out HAL.out HBL.out _).mono ?_; rintro e w1 ⟨rfl, hb⟩; rw [HRT.out]
 clear x0 x1 x2 y0 y1 y2 m0 m1 m2 m3
 replace HX := hidp (HX.out.keep hb)
 replace HY := hidp (HY.out.keep hb)
 replace HG := hidp (HG.out.keep hb)
 replace HO := hidp (own_below HO.out hb)
 replace HM := hidp (HM.out.keep hb)
 replace HB := hidp (Bgo HB.out hb)
 clear hb
 obtain ⟨x0, x1, x2⟩ := HX.out.three
 obtain ⟨y0, y1, y2⟩ := HY.out.three
 obtain ⟨m0, m1, m2, m3⟩ := mod_cells HG.out
 go_wp2_with fail
 refine (r26At_c HM.out HN.out a).mono ?_; rintro e w1 ⟨rfl, rfl⟩; rw [HI.out]
 go_wp2_with fail
 refine (r26Root_c HM.out HN.out 6 a b err out aux HAL.out HBL.out (by omega)).mono ?_; rintro e w1 ⟨rfl, hb⟩; rw [HRB.out]
 clear x0 x1 x2 y0 y1 y2 m0 m1 m2 m3
 replace HX := hidp (HX.out.keep hb)
 replace HY := hidp (HY.out.keep hb)
 replace HG := hidp (HG.out.keep hb)
 replace HO := hidp (own_below HO.out hb)
 replace HM := hidp (HM.out.keep hb)
 replace HB := hidp (Bgo HB.out hb)
 clear hb
 obtain ⟨x0, x1, x2⟩ := HX.out.three
 obtain ⟨y0, y1, y2⟩ := HY.out.three
 obtain ⟨m0, m1, m2, m3⟩ := mod_cells HG.out
 go_wp2_with fail
 go_ret
 exact ⟨by first | rfl | (rw [HV.out]; rfl), HB.out⟩
end
end Go.Proofs.YtedakmhffjhfnaaDoor
