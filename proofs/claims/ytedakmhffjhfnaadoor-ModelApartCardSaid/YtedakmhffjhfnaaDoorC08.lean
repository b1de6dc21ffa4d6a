/-
  The program's automaton: Apply. Written by model/gen_apply3.py.
-/
import Derived.Test.YtedakmhffjhfnaaDoorC07
import Derived.Test.YtedakmhffjhfnaaDoorC01
import Derived.Test.YtedakmhffjhfnaaDoorC02
import Derived.Lib.SmallJoins
import Derived.OpenShut
import Derived.Deep.Slices
import Derived.Test.YtedakmhffjhfnaaDoorCKit
import Derived.Below
import Derived.WalkKit
import Derived.ProofKit
import Derived.BigQuiet
import Derived.Outline
import Derived.Deep.QuietTactic
import Derived.Deep.RegionHeld3
import Derived.IntWalk
import Derived.KernelRfl
import Derived.Laws.BitsAllLaws
import Derived.Deep.DeepFit
import Derived.Laws.CopyOwn
import Derived.Laws.MakeOwn
import Derived.Deep.RegionLaw
import Derived.Deep.RegionWith
import Derived.Deep.CutRange
namespace Go.Proofs.YtedakmhffjhfnaaDoor
open Go.ChangeShapes Go.WideShapes Go.ChangeAt Go.RowKit Go.Maps
set_option linter.unusedVariables false
set_option linter.unusedSimpArgs false
set_option maxRecDepth 100000
section
theorem mdApply_nil (k a b err out aux : Int) (w : World) : Calls Tryd.prog 18 #[.pointer none, .agg #[.int .i64 k, .int .i64 a, .int .i64 b], .agg #[.int .i64 err, .int .i64 out, .int .i64 aux]] w fun e w' => e = .returned (.bool false) /\ Below w.heap.size w w' := by
 have HB := hidp (Bnew (Bnew (B0 w) (.cells #[.int .i64 k, .int .i64 a, .int .i64 b] 29)) (.cells #[.int .i64 err, .int .i64 out, .int .i64 aux] 32))
 have HX := hidp ((Held.new w 29 #[.int .i64 k, .int .i64 a, .int .i64 b]).alloc (.cells #[.int .i64 err, .int .i64 out, .int .i64 aux] 32))
 have HY := hidp (Held.new2 w (.cells #[.int .i64 k, .int .i64 a, .int .i64 b] 29) 32 #[.int .i64 err, .int .i64 out, .int .i64 aux])
 obtain ⟨x0, x1, x2⟩ := HX.out.three
 obtain ⟨y0, y1, y2⟩ := HY.out.three
 go_enter Tryd.func18, Tryd.ntmps18
 go_wp2_with fail
 refine (mdAllows_nil k a b err out aux _).mono ?_; rintro e w1 ⟨rfl, hb⟩
 replace HB := hidp (Bgo HB.out hb)
 clear hb x0 x1 x2 y0 y1 y2
 go_wp2_with fail
 go_ret
 exact ⟨rfl, HB.out⟩
section
variable {w : World} {g : Nat} {F : Nat -> Prop} {t p s : Int} {L : List (Int × Int)} {R : Nat -> Int}

set_option maxHeartbeats 3200000 in
theorem app_no (h : IsMod w g F t p s L R) (hn : L.length <= 90000) (k a b err out aux : Int) (hk : -9223372036854775808 <= k /\ k <= 9223372036854775807) (ha : -9223372036854775808 <= a /\ a <= 9223372036854775807) (hb : -9223372036854775808 <= b /\ b <= 9223372036854775807) (hT : SlotsLaid w) (hal : allowM t p s L R k a b err out aux = false) : Calls Tryd.prog 18 #[.pointer (some ⟨g, 0, none⟩), .agg #[.int .i64 k, .int .i64 a, .int .i64 b], .agg #[.int .i64 err, .int .i64 out, .int .i64 aux]] w fun e w' => e = .returned (.bool false) /\ IsMod w' g F t p s L R /\ Turns F w w' := by
 have hb0 := hb
 clear hb
 have HAL := hidp hal
 clear hal
 have HT := hidp (Turns.of_below (Bnew (Bnew (B0 w) (.cells #[.int .i64 k, .int .i64 a, .int .i64 b] 29)) (.cells #[.int .i64 err, .int .i64 out, .int .i64 aux] 32)) F)
 have HX := hidp ((Held.new w 29 #[.int .i64 k, .int .i64 a, .int .i64 b]).alloc (.cells #[.int .i64 err, .int .i64 out, .int .i64 aux] 32))
 have HY := hidp (Held.new2 w (.cells #[.int .i64 k, .int .i64 a, .int .i64 b] 29) 32 #[.int .i64 err, .int .i64 out, .int .i64 aux])
 have HM := hidp (h.stay (Bnew (Bnew (B0 w) (.cells #[.int .i64 k, .int .i64 a, .int .i64 b] 29)) (.cells #[.int .i64 err, .int .i64 out, .int .i64 aux] 32)))
 have HFL := hidp h.lt
 have HFG := hidp h.fg
 have HNL := hidp hn
 have HSL := hidp ((hT.alloc (.cells #[.int .i64 k, .int .i64 a, .int .i64 b] 29)).alloc (.cells #[.int .i64 err, .int .i64 out, .int .i64 aux] 32))
 clear h hT hn
 obtain ⟨x0, x1, x2⟩ := HX.out.three
 obtain ⟨y0, y1, y2⟩ := HY.out.three
 go_enter Tryd.func18, Tryd.ntmps18
 go_wp2_with fail
 refine (mdAllows_c HM.out (by have := HNL.out; omega) k a b err out aux hk ha hb0 HSL.out).mono ?_; rintro e w1 ⟨rfl, hb⟩; rw [HAL.out]
 clear x0 x1 x2 y0 y1 y2
 replace HX := hidp (HX.out.keep hb)
 replace HY := hidp (HY.out.keep hb)
 replace HM := hidp (HM.out.stay hb)
 replace HT := hidp (HT.out.trans (Turns.of_below hb F))
 (try replace HSL := hidp (HSL.out.below hb))
 clear hb
 obtain ⟨x0, x1, x2⟩ := HX.out.three
 obtain ⟨y0, y1, y2⟩ := HY.out.three
 go_wp2_with fail
 go_ret
 exact ⟨rfl, HM.out, HT.out⟩

set_option maxHeartbeats 3200000 in
theorem app_err (h : IsMod w g F t p s L R) (hn : L.length <= 90000) (k a b err out aux : Int) (hk : -9223372036854775808 <= k /\ k <= 9223372036854775807) (ha : -9223372036854775808 <= a /\ a <= 9223372036854775807) (hb : -9223372036854775808 <= b /\ b <= 9223372036854775807) (hT : SlotsLaid w) (hal : allowM t p s L R k a b err out aux = true) (he : err ≠ 0) : Calls Tryd.prog 18 #[.pointer (some ⟨g, 0, none⟩), .agg #[.int .i64 k, .int .i64 a, .int .i64 b], .agg #[.int .i64 err, .int .i64 out, .int .i64 aux]] w fun e w' => e = .returned (.bool true) /\ IsMod w' g F t p s L R /\ Turns F w w' := by
 have hb0 := hb
 clear hb
 have HAL := hidp hal
 clear hal
 have e0 : (err != 0) = true := by simp [he]
 clear he
 have HT := hidp (Turns.of_below (Bnew (Bnew (B0 w) (.cells #[.int .i64 k, .int .i64 a, .int .i64 b] 29)) (.cells #[.int .i64 err, .int .i64 out, .int .i64 aux] 32)) F)
 have HX := hidp ((Held.new w 29 #[.int .i64 k, .int .i64 a, .int .i64 b]).alloc (.cells #[.int .i64 err, .int .i64 out, .int .i64 aux] 32))
 have HY := hidp (Held.new2 w (.cells #[.int .i64 k, .int .i64 a, .int .i64 b] 29) 32 #[.int .i64 err, .int .i64 out, .int .i64 aux])
 have HM := hidp (h.stay (Bnew (Bnew (B0 w) (.cells #[.int .i64 k, .int .i64 a, .int .i64 b] 29)) (.cells #[.int .i64 err, .int .i64 out, .int .i64 aux] 32)))
 have HFL := hidp h.lt
 have HFG := hidp h.fg
 have HNL := hidp hn
 have HSL := hidp ((hT.alloc (.cells #[.int .i64 k, .int .i64 a, .int .i64 b] 29)).alloc (.cells #[.int .i64 err, .int .i64 out, .int .i64 aux] 32))
 clear h hT hn
 obtain ⟨x0, x1, x2⟩ := HX.out.three
 obtain ⟨y0, y1, y2⟩ := HY.out.three
 go_enter Tryd.func18, Tryd.ntmps18
 go_wp2_with fail
 refine (mdAllows_c HM.out (by have := HNL.out; omega) k a b err out aux hk ha hb0 HSL.out).mono ?_; rintro e w1 ⟨rfl, hb⟩; rw [HAL.out]
 clear x0 x1 x2 y0 y1 y2
 replace HX := hidp (HX.out.keep hb)
 replace HY := hidp (HY.out.keep hb)
 replace HM := hidp (HM.out.stay hb)
 replace HT := hidp (HT.out.trans (Turns.of_below hb F))
 (try replace HSL := hidp (HSL.out.below hb))
 clear hb
 obtain ⟨x0, x1, x2⟩ := HX.out.three
 obtain ⟨y0, y1, y2⟩ := HY.out.three
 go_wp2_with fail
 go_ret
 exact ⟨rfl, HM.out, HT.out⟩

set_option maxHeartbeats 3200000 in
theorem app_6 (h : IsMod w g F t p s L R) (hn : L.length <= 90000) (a b out aux : Int) (ha : -9223372036854775808 <= a /\ a <= 9223372036854775807) (hb : -9223372036854775808 <= b /\ b <= 9223372036854775807) (hT : SlotsLaid w) (hal : allowM t p s L R 6 a b 0 out aux = true) : Calls Tryd.prog 18 #[.pointer (some ⟨g, 0, none⟩), .agg #[.int .i64 6, .int .i64 a, .int .i64 b], .agg #[.int .i64 0, .int .i64 out, .int .i64 aux]] w fun e w' => e = .returned (.bool true) /\ IsMod w' g F t p s L R /\ Turns F w w' := by
 have hb0 := hb
 clear hb
 have HAL := hidp hal
 clear hal
 have HT := hidp (Turns.of_below (Bnew (Bnew (B0 w) (.cells #[.int .i64 6, .int .i64 a, .int .i64 b] 29)) (.cells #[.int .i64 0, .int .i64 out, .int .i64 aux] 32)) F)
 have HX := hidp ((Held.new w 29 #[.int .i64 6, .int .i64 a, .int .i64 b]).alloc (.cells #[.int .i64 0, .int .i64 out, .int .i64 aux] 32))
 have HY := hidp (Held.new2 w (.cells #[.int .i64 6, .int .i64 a, .int .i64 b] 29) 32 #[.int .i64 0, .int .i64 out, .int .i64 aux])
 have HM := hidp (h.stay (Bnew (Bnew (B0 w) (.cells #[.int .i64 6, .int .i64 a, .int .i64 b] 29)) (.cells #[.int .i64 0, .int .i64 out, .int .i64 aux] 32)))
 have HFL := hidp h.lt
 have HFG := hidp h.fg
 have HNL := hidp hn
 have HSL := hidp ((hT.alloc (.cells #[.int .i64 6, .int .i64 a, .int .i64 b] 29)).alloc (.cells #[.int .i64 0, .int .i64 out, .int .i64 aux] 32))
 clear h hT hn
 obtain ⟨x0, x1, x2⟩ := HX.out.three
 obtain ⟨y0, y1, y2⟩ := HY.out.three
 go_enter Tryd.func18, Tryd.ntmps18
 go_wp2_with fail
 refine (mdAllows_c HM.out (by have := HNL.out; omega) 6 a b 0 out aux ⟨by omega, by omega⟩ ha hb0 HSL.out).mono ?_; rintro e w1 ⟨rfl, hb⟩; rw [HAL.out]
 clear x0 x1 x2 y0 y1 y2
 replace HX := hidp (HX.out.keep hb)
 replace HY := hidp (HY.out.keep hb)
 replace HM := hidp (HM.out.stay hb)
 replace HT := hidp (HT.out.trans (Turns.of_below hb F))
 (try replace HSL := hidp (HSL.out.below hb))
 clear hb
 obtain ⟨x0, x1, x2⟩ := HX.out.three
 obtain ⟨y0, y1, y2⟩ := HY.out.three
 go_wp2_with fail
 go_ret
 exact ⟨rfl, HM.out, HT.out⟩

set_option maxHeartbeats 3200000 in
theorem app_7 (h : IsMod w g F t p s L R) (hn : L.length <= 90000) (a b out aux : Int) (ha : -9223372036854775808 <= a /\ a <= 9223372036854775807) (hb : -9223372036854775808 <= b /\ b <= 9223372036854775807) (hT : SlotsLaid w) (hal : allowM t p s L R 7 a b 0 out aux = true) : Calls Tryd.prog 18 #[.pointer (some ⟨g, 0, none⟩), .agg #[.int .i64 7, .int .i64 a, .int .i64 b], .agg #[.int .i64 0, .int .i64 out, .int .i64 aux]] w fun e w' => e = .returned (.bool true) /\ IsMod w' g F t p s L R /\ Turns F w w' := by
 have hb0 := hb
 clear hb
 have HAL := hidp hal
 clear hal
 have HT := hidp (Turns.of_below (Bnew (Bnew (B0 w) (.cells #[.int .i64 7, .int .i64 a, .int .i64 b] 29)) (.cells #[.int .i64 0, .int .i64 out, .int .i64 aux] 32)) F)
 have HX := hidp ((Held.new w 29 #[.int .i64 7, .int .i64 a, .int .i64 b]).alloc (.cells #[.int .i64 0, .int .i64 out, .int .i64 aux] 32))
 have HY := hidp (Held.new2 w (.cells #[.int .i64 7, .int .i64 a, .int .i64 b] 29) 32 #[.int .i64 0, .int .i64 out, .int .i64 aux])
 have HM := hidp (h.stay (Bnew (Bnew (B0 w) (.cells #[.int .i64 7, .int .i64 a, .int .i64 b] 29)) (.cells #[.int .i64 0, .int .i64 out, .int .i64 aux] 32)))
 have HFL := hidp h.lt
 have HFG := hidp h.fg
 have HNL := hidp hn
 have HSL := hidp ((hT.alloc (.cells #[.int .i64 7, .int .i64 a, .int .i64 b] 29)).alloc (.cells #[.int .i64 0, .int .i64 out, .int .i64 aux] 32))
 clear h hT hn
 obtain ⟨x0, x1, x2⟩ := HX.out.three
 obtain ⟨y0, y1, y2⟩ := HY.out.three
 go_enter Tryd.func18, Tryd.ntmps18
 go_wp2_with fail
 refine (mdAllows_c HM.out (by have := HNL.out; omega) 7 a b 0 out aux ⟨by omega, by omega⟩ ha hb0 HSL.out).mono ?_; rintro e w1 ⟨rfl, hb⟩; rw [HAL.out]
 clear x0 x1 x2 y0 y1 y2
 replace HX := hidp (HX.out.keep hb)
 replace HY := hidp (HY.out.keep hb)
 replace HM := hidp (HM.out.stay hb)
 replace HT := hidp (HT.out.trans (Turns.of_below hb F))
 (try replace HSL := hidp (HSL.out.below hb))
 clear hb
 obtain ⟨x0, x1, x2⟩ := HX.out.three
 obtain ⟨y0, y1, y2⟩ := HY.out.three
 go_wp2_with fail
 go_ret
 exact ⟨rfl, HM.out, HT.out⟩

set_option maxHeartbeats 3200000 in
theorem app_8 (h : IsMod w g F t p s L R) (hn : L.length <= 90000) (a b out aux : Int) (ha : -9223372036854775808 <= a /\ a <= 9223372036854775807) (hb : -9223372036854775808 <= b /\ b <= 9223372036854775807) (hT : SlotsLaid w) (hal : allowM t p s L R 8 a b 0 out aux = true) : Calls Tryd.prog 18 #[.pointer (some ⟨g, 0, none⟩), .agg #[.int .i64 8, .int .i64 a, .int .i64 b], .agg #[.int .i64 0, .int .i64 out, .int .i64 aux]] w fun e w' => e = .returned (.bool true) /\ IsMod w' g F t p s L R /\ Turns F w w' := by
 have hb0 := hb
 clear hb
 have HAL := hidp hal
 clear hal
 have HT := hidp (Turns.of_below (Bnew (Bnew (B0 w) (.cells #[.int .i64 8, .int .i64 a, .int .i64 b] 29)) (.cells #[.int .i64 0, .int .i64 out, .int .i64 aux] 32)) F)
 have HX := hidp ((Held.new w 29 #[.int .i64 8, .int .i64 a, .int .i64 b]).alloc (.cells #[.int .i64 0, .int .i64 out, .int .i64 aux] 32))
 have HY := hidp (Held.new2 w (.cells #[.int .i64 8, .int .i64 a, .int .i64 b] 29) 32 #[.int .i64 0, .int .i64 out, .int .i64 aux])
 have HM := hidp (h.stay (Bnew (Bnew (B0 w) (.cells #[.int .i64 8, .int .i64 a, .int .i64 b] 29)) (.cells #[.int .i64 0, .int .i64 out, .int .i64 aux] 32)))
 have HFL := hidp h.lt
 have HFG := hidp h.fg
 have HNL := hidp hn
 have HSL := hidp ((hT.alloc (.cells #[.int .i64 8, .int .i64 a, .int .i64 b] 29)).alloc (.cells #[.int .i64 0, .int .i64 out, .int .i64 aux] 32))
 clear h hT hn
 obtain ⟨x0, x1, x2⟩ := HX.out.three
 obtain ⟨y0, y1, y2⟩ := HY.out.three
 go_enter Tryd.func18, Tryd.ntmps18
 go_wp2_with fail
 refine (mdAllows_c HM.out (by have := HNL.out; omega) 8 a b 0 out aux ⟨by omega, by omega⟩ ha hb0 HSL.out).mono ?_; rintro e w1 ⟨rfl, hb⟩; rw [HAL.out]
 clear x0 x1 x2 y0 y1 y2
 replace HX := hidp (HX.out.keep hb)
 replace HY := hidp (HY.out.keep hb)
 replace HM := hidp (HM.out.stay hb)
 replace HT := hidp (HT.out.trans (Turns.of_below hb F))
 (try replace HSL := hidp (HSL.out.below hb))
 clear hb
 obtain ⟨x0, x1, x2⟩ := HX.out.three
 obtain ⟨y0, y1, y2⟩ := HY.out.three
 go_wp2_with fail
 go_ret
 exact ⟨rfl, HM.out, HT.out⟩

set_option maxHeartbeats 3200000 in
theorem app_9 (h : IsMod w g F t p s L R) (hn : L.length <= 90000) (a b out aux : Int) (ha : -9223372036854775808 <= a /\ a <= 9223372036854775807) (hb : -9223372036854775808 <= b /\ b <= 9223372036854775807) (hT : SlotsLaid w) (hal : allowM t p s L R 9 a b 0 out aux = true) : Calls Tryd.prog 18 #[.pointer (some ⟨g, 0, none⟩), .agg #[.int .i64 9, .int .i64 a, .int .i64 b], .agg #[.int .i64 0, .int .i64 out, .int .i64 aux]] w fun e w' => e = .returned (.bool true) /\ IsMod w' g F t p s L R /\ Turns F w w' := by
 have hb0 := hb
 clear hb
 have HAL := hidp hal
 clear hal
 have HT := hidp (Turns.of_below (Bnew (Bnew (B0 w) (.cells #[.int .i64 9, .int .i64 a, .int .i64 b] 29)) (.cells #[.int .i64 0, .int .i64 out, .int .i64 aux] 32)) F)
 have HX := hidp ((Held.new w 29 #[.int .i64 9, .int .i64 a, .int .i64 b]).alloc (.cells #[.int .i64 0, .int .i64 out, .int .i64 aux] 32))
 have HY := hidp (Held.new2 w (.cells #[.int .i64 9, .int .i64 a, .int .i64 b] 29) 32 #[.int .i64 0, .int .i64 out, .int .i64 aux])
 have HM := hidp (h.stay (Bnew (Bnew (B0 w) (.cells #[.int .i64 9, .int .i64 a, .int .i64 b] 29)) (.cells #[.int .i64 0, .int .i64 out, .int .i64 aux] 32)))
 have HFL := hidp h.lt
 have HFG := hidp h.fg
 have HNL := hidp hn
 have HSL := hidp ((hT.alloc (.cells #[.int .i64 9, .int .i64 a, .int .i64 b] 29)).alloc (.cells #[.int .i64 0, .int .i64 out, .int .i64 aux] 32))
 clear h hT hn
 obtain ⟨x0, x1, x2⟩ := HX.out.three
 obtain ⟨y0, y1, y2⟩ := HY.out.three
 go_enter Tryd.func18, Tryd.ntmps18
 go_wp2_with fail
 refine (mdAllows_c HM.out (by have := HNL.out; omega) 9 a b 0 out aux ⟨by omega, by omega⟩ ha hb0 HSL.out).mono ?_; rintro e w1 ⟨rfl, hb⟩; rw [HAL.out]
 clear x0 x1 x2 y0 y1 y2
 replace HX := hidp (HX.out.keep hb)
 replace HY := hidp (HY.out.keep hb)
 replace HM := hidp (HM.out.stay hb)
 replace HT := hidp (HT.out.trans (Turns.of_below hb F))
 (try replace HSL := hidp (HSL.out.below hb))
 clear hb
 obtain ⟨x0, x1, x2⟩ := HX.out.three
 obtain ⟨y0, y1, y2⟩ := HY.out.three
 go_wp2_with fail
 go_ret
 exact ⟨rfl, HM.out, HT.out⟩

set_option maxHeartbeats 3200000 in
theorem app_1 (h : IsMod w g F t p s L R) (hn : L.length <= 90000) (a b out aux : Int) (ha : -9223372036854775808 <= a /\ a <= 9223372036854775807) (hb : -9223372036854775808 <= b /\ b <= 9223372036854775807) (hT : SlotsLaid w) (hal : allowM t p s L R 1 a b 0 out aux = true) (hnb : NewB (pageN t p s : Int) (endI t p s) L (out, aux)) : Calls Tryd.prog 18 #[.pointer (some ⟨g, 0, none⟩), .agg #[.int .i64 1, .int .i64 a, .int .i64 b], .agg #[.int .i64 0, .int .i64 out, .int .i64 aux]] w fun e w' => e = .returned (.bool true) /\ IsMod w' g F t p s (addB L (out, aux)) R /\ Turns F w w' := by
 have hb0 := hb
 clear hb
 have HAL := hidp hal
 clear hal
 have HN := hidp hnb
 clear hnb
 have HT := hidp (Turns.of_below (Bnew (Bnew (B0 w) (.cells #[.int .i64 1, .int .i64 a, .int .i64 b] 29)) (.cells #[.int .i64 0, .int .i64 out, .int .i64 aux] 32)) F)
 have HX := hidp ((Held.new w 29 #[.int .i64 1, .int .i64 a, .int .i64 b]).alloc (.cells #[.int .i64 0, .int .i64 out, .int .i64 aux] 32))
 have HY := hidp (Held.new2 w (.cells #[.int .i64 1, .int .i64 a, .int .i64 b] 29) 32 #[.int .i64 0, .int .i64 out, .int .i64 aux])
 have HM := hidp (h.stay (Bnew (Bnew (B0 w) (.cells #[.int .i64 1, .int .i64 a, .int .i64 b] 29)) (.cells #[.int .i64 0, .int .i64 out, .int .i64 aux] 32)))
 have HFL := hidp h.lt
 have HFG := hidp h.fg
 have HNL := hidp hn
 have HSL := hidp ((hT.alloc (.cells #[.int .i64 1, .int .i64 a, .int .i64 b] 29)).alloc (.cells #[.int .i64 0, .int .i64 out, .int .i64 aux] 32))
 clear h hT hn
 obtain ⟨x0, x1, x2⟩ := HX.out.three
 obtain ⟨y0, y1, y2⟩ := HY.out.three
 go_enter Tryd.func18, Tryd.ntmps18
 go_wp2_with fail
 refine (mdAllows_c HM.out (by have := HNL.out; omega) 1 a b 0 out aux ⟨by omega, by omega⟩ ha hb0 HSL.out).mono ?_; rintro e w1 ⟨rfl, hb⟩; rw [HAL.out]
 clear x0 x1 x2 y0 y1 y2
 replace HX := hidp (HX.out.keep hb)
 replace HY := hidp (HY.out.keep hb)
 replace HM := hidp (HM.out.stay hb)
 replace HT := hidp (HT.out.trans (Turns.of_below hb F))
 (try replace HSL := hidp (HSL.out.below hb))
 clear hb
 obtain ⟨x0, x1, x2⟩ := HX.out.three
 obtain ⟨y0, y1, y2⟩ := HY.out.three
 obtain ⟨m, D, hm, hG, hO, hD⟩ := HM.out.ex
 have HMX := hidp (And.intro hm (And.intro hG (And.intro hO hD)))
 have HSM : Hid (w.heap.size ≠ m /\ w.heap.size + 1 ≠ m /\ g ≠ m) := hidp ⟨fun e => by have := HFL.out m hm; omega, fun e => by have := HFL.out m hm; omega, held_not_map hG hO⟩
 clear hm hG hO hD
 go_wp2_with fail
 clear x0 x1 x2 y0 y1 y2
 replace HX := hidp (HX.out.keep (Bdrew (B0 _)))
 replace HY := hidp (HY.out.keep (Bdrew (B0 _)))
 replace HM := hidp (HM.out.stay (Bdrew (B0 _)))
 replace HT := hidp (HT.out.trans (Turns.of_below (Bdrew (B0 _)) F))
 (try replace HSL := hidp (HSL.out.below (Bdrew (B0 _))))
 replace HMX := hidp (And.intro HMX.out.1 (And.intro (HMX.out.2.1.keep (Bdrew (B0 _))) (And.intro (owns_turns HMX.out.2.2.1 (Turns.of_below (Bdrew (B0 _)) (fun _ => False)) (fun x => x)) HMX.out.2.2.2)))
 refine wp_region_held_drew (S := (fun w' => (w'.cell? ⟨w.heap.size, 0, none⟩ = some (.int .i64 1) /\ w'.cell? ⟨w.heap.size, 1, none⟩ = some (.int .i64 a) /\ w'.cell? ⟨w.heap.size, 2, none⟩ = some (.int .i64 b)) /\ (w'.cell? ⟨w.heap.size + 1, 0, none⟩ = some (.int .i64 0) /\ w'.cell? ⟨w.heap.size + 1, 1, none⟩ = some (.int .i64 out) /\ w'.cell? ⟨w.heap.size + 1, 2, none⟩ = some (.int .i64 aux)) /\ (w'.cell? ⟨g, 0, none⟩ = some (.int .i64 t) /\ w'.cell? ⟨g, 1, none⟩ = some (.int .i64 p) /\ w'.cell? ⟨g, 2, none⟩ = some (.int .i64 s) /\ w'.cell? ⟨g, 3, none⟩ = some (.map (some m))))) (by kernel_rfl) ?_ (fun hHeld => ?_)
 ·(try dsimp only)
  first | exact ⟨HX.out.three, HY.out.three, mod_cells HMX.out.2.1⟩ | exact ⟨HX.out.three, HY.out.three, mod_cells HMX.out.2⟩ | exact hHeld
 refine tkz 0 ?_
 refine tkz 1 ?_
 refine tkz 2 ?_
 refine tkz 3 ?_
 refine tkz 4 ?_
 refine tkz 5 ?_
 refine tkz 6 ?_
 refine tkz 7 ?_
 refine tkz 8 ?_
 refine tkz 9 ?_
 refine rdz 10 fun K hK => ?_
 (refine step_mapUpdate rfl _ _ _ 60 rfl 55 72 bkKey Tryd.underlying60 unitElem m (L).length D rfl HMX.out.2.2.1 (by have := HNL.out; unfold maxLen; omega) _ _ (bkL out aux) rfl rfl (bk_key HN.out.wf.1 HN.out.wf.2) _ [] unitElem_mk ?_; intro w3 hown3 hg3; have HM3 : Hid (IsMod w3 g F t p s (addB (L) (out, aux)) R) := hidp (HM.out.more HMX.out.1 HMX.out.2.1 HMX.out.2.2.1 HMX.out.2.2.2 (x := (out, aux)) HN.out.wf HN.out.ni HN.out.perm HN.out.asc HN.out.ins hown3 hg3); have ht3 : Turns F _ w3 := Turns.of_grown hg3 HMX.out.1; replace HMX : Hid (F m /\ Held w3 g 62 (mC t p s (.map (some m)) R)) := hidp (And.intro HMX.out.1 ((hg3.block _ HMX.out.2.1.lt (fun e => HSM.out.2.2 (by injection e))).trans HMX.out.2.1)); replace HX := hidp (ht3.held HX.out (fun h9 => by have := HFL.out _ h9; omega)); replace HY := hidp (ht3.held HY.out (fun h9 => by have := HFL.out _ h9; omega)); replace HT := hidp (HT.out.trans ht3); clear hown3 hg3 ht3 HM; have HM := HM3; clear HM3)
 refine hK.out _ _ ?_ (fun hHeld => ?_)
 ·(try dsimp only)
  first | exact ⟨HX.out.three, HY.out.three, mod_cells HMX.out.2.1⟩ | exact ⟨HX.out.three, HY.out.three, mod_cells HMX.out.2⟩ | exact hHeld
 clear hK K
 (try simp only [Act.put, gA, gB, gC, sA, sB, sC])
 refine dnz ?_
 obtain ⟨x0, x1, x2⟩ := HX.out.three
 obtain ⟨y0, y1, y2⟩ := HY.out.three
 go_wp2_with fail
 go_ret
 exact ⟨rfl, HM.out, HT.out⟩

set_option maxHeartbeats 3200000 in
theorem app_2 (h : IsMod w g F t p s L R) (hn : L.length <= 90000) (a b out aux : Int) (ha : -9223372036854775808 <= a /\ a <= 9223372036854775807) (hb : -9223372036854775808 <= b /\ b <= 9223372036854775807) (hT : SlotsLaid w) (hal : allowM t p s L R 2 a b 0 out aux = true) (hat : 0 <= mAt L a) : Calls Tryd.prog 18 #[.pointer (some ⟨g, 0, none⟩), .agg #[.int .i64 2, .int .i64 a, .int .i64 b], .agg #[.int .i64 0, .int .i64 out, .int .i64 aux]] w fun e w' => e = .returned (.bool true) /\ IsMod w' g F t p s (L.eraseIdx (mAt L a).toNat) R /\ Turns F w w' := by
 have hb0 := hb
 clear hb
 have HAL := hidp hal
 clear hal
 have HAT := hidp hat
 clear hat
 have HT := hidp (Turns.of_below (Bnew (Bnew (B0 w) (.cells #[.int .i64 2, .int .i64 a, .int .i64 b] 29)) (.cells #[.int .i64 0, .int .i64 out, .int .i64 aux] 32)) F)
 have HX := hidp ((Held.new w 29 #[.int .i64 2, .int .i64 a, .int .i64 b]).alloc (.cells #[.int .i64 0, .int .i64 out, .int .i64 aux] 32))
 have HY := hidp (Held.new2 w (.cells #[.int .i64 2, .int .i64 a, .int .i64 b] 29) 32 #[.int .i64 0, .int .i64 out, .int .i64 aux])
 have HM := hidp (h.stay (Bnew (Bnew (B0 w) (.cells #[.int .i64 2, .int .i64 a, .int .i64 b] 29)) (.cells #[.int .i64 0, .int .i64 out, .int .i64 aux] 32)))
 have HFL := hidp h.lt
 have HFG := hidp h.fg
 have HNL := hidp hn
 have HSL := hidp ((hT.alloc (.cells #[.int .i64 2, .int .i64 a, .int .i64 b] 29)).alloc (.cells #[.int .i64 0, .int .i64 out, .int .i64 aux] 32))
 clear h hT hn
 obtain ⟨x0, x1, x2⟩ := HX.out.three
 obtain ⟨y0, y1, y2⟩ := HY.out.three
 go_enter Tryd.func18, Tryd.ntmps18
 go_wp2_with fail
 refine (mdAllows_c HM.out (by have := HNL.out; omega) 2 a b 0 out aux ⟨by omega, by omega⟩ ha hb0 HSL.out).mono ?_; rintro e w1 ⟨rfl, hb⟩; rw [HAL.out]
 clear x0 x1 x2 y0 y1 y2
 replace HX := hidp (HX.out.keep hb)
 replace HY := hidp (HY.out.keep hb)
 replace HM := hidp (HM.out.stay hb)
 replace HT := hidp (HT.out.trans (Turns.of_below hb F))
 (try replace HSL := hidp (HSL.out.below hb))
 clear hb
 obtain ⟨x0, x1, x2⟩ := HX.out.three
 obtain ⟨y0, y1, y2⟩ := HY.out.three
 go_wp2_with fail
 refine (mdDrop_c HM.out a HAT.out).mono ?_; rintro e w1 ⟨rfl, ht, hm⟩
 clear x0 x1 x2 y0 y1 y2
 replace HX := hidp (ht.held HX.out (fun h9 => by have := HFL.out _ h9; omega))
 replace HY := hidp (ht.held HY.out (fun h9 => by have := HFL.out _ h9; omega))
 replace HT := hidp (HT.out.trans ht)
 replace HM := hidp hm
 clear ht hm
 obtain ⟨x0, x1, x2⟩ := HX.out.three
 obtain ⟨y0, y1, y2⟩ := HY.out.three
 go_wp2_with fail
 go_ret
 exact ⟨rfl, HM.out, HT.out⟩

set_option maxHeartbeats 3200000 in
theorem app_3 (h : IsMod w g F t p s L R) (hn : L.length <= 90000) (a b out aux : Int) (ha : -9223372036854775808 <= a /\ a <= 9223372036854775807) (hb : -9223372036854775808 <= b /\ b <= 9223372036854775807) (hT : SlotsLaid w) (hal : allowM t p s L R 3 a b 0 out aux = true) (hat : 0 <= mAt L a) (hnb : NewB (pageN t p s : Int) (endI t p s) (L.eraseIdx (mAt L a).toNat) (out, aux)) : Calls Tryd.prog 18 #[.pointer (some ⟨g, 0, none⟩), .agg #[.int .i64 3, .int .i64 a, .int .i64 b], .agg #[.int .i64 0, .int .i64 out, .int .i64 aux]] w fun e w' => e = .returned (.bool true) /\ IsMod w' g F t p s (addB (L.eraseIdx (mAt L a).toNat) (out, aux)) (fun j => if R j = a then out else R j) /\ Turns F w w' := by
 have hb0 := hb
 clear hb
 have HAL := hidp hal
 clear hal
 have HAT := hidp hat
 have HN := hidp hnb
 clear hat hnb
 have HT := hidp (Turns.of_below (Bnew (Bnew (B0 w) (.cells #[.int .i64 3, .int .i64 a, .int .i64 b] 29)) (.cells #[.int .i64 0, .int .i64 out, .int .i64 aux] 32)) F)
 have HX := hidp ((Held.new w 29 #[.int .i64 3, .int .i64 a, .int .i64 b]).alloc (.cells #[.int .i64 0, .int .i64 out, .int .i64 aux] 32))
 have HY := hidp (Held.new2 w (.cells #[.int .i64 3, .int .i64 a, .int .i64 b] 29) 32 #[.int .i64 0, .int .i64 out, .int .i64 aux])
 have HM := hidp (h.stay (Bnew (Bnew (B0 w) (.cells #[.int .i64 3, .int .i64 a, .int .i64 b] 29)) (.cells #[.int .i64 0, .int .i64 out, .int .i64 aux] 32)))
 have HFL := hidp h.lt
 have HFG := hidp h.fg
 have HNL := hidp hn
 have HSL := hidp ((hT.alloc (.cells #[.int .i64 3, .int .i64 a, .int .i64 b] 29)).alloc (.cells #[.int .i64 0, .int .i64 out, .int .i64 aux] 32))
 clear h hT hn
 obtain ⟨x0, x1, x2⟩ := HX.out.three
 obtain ⟨y0, y1, y2⟩ := HY.out.three
 go_enter Tryd.func18, Tryd.ntmps18
 go_wp2_with fail
 refine (mdAllows_c HM.out (by have := HNL.out; omega) 3 a b 0 out aux ⟨by omega, by omega⟩ ha hb0 HSL.out).mono ?_; rintro e w1 ⟨rfl, hb⟩; rw [HAL.out]
 clear x0 x1 x2 y0 y1 y2
 replace HX := hidp (HX.out.keep hb)
 replace HY := hidp (HY.out.keep hb)
 replace HM := hidp (HM.out.stay hb)
 replace HT := hidp (HT.out.trans (Turns.of_below hb F))
 (try replace HSL := hidp (HSL.out.below hb))
 clear hb
 obtain ⟨x0, x1, x2⟩ := HX.out.three
 obtain ⟨y0, y1, y2⟩ := HY.out.three
 go_wp2_with fail
 refine (mdDrop_c HM.out a HAT.out).mono ?_; rintro e w1 ⟨rfl, ht, hm⟩
 clear x0 x1 x2 y0 y1 y2
 replace HX := hidp (ht.held HX.out (fun h9 => by have := HFL.out _ h9; omega))
 replace HY := hidp (ht.held HY.out (fun h9 => by have := HFL.out _ h9; omega))
 replace HT := hidp (HT.out.trans ht)
 replace HM := hidp hm
 clear ht hm
 obtain ⟨x0, x1, x2⟩ := HX.out.three
 obtain ⟨y0, y1, y2⟩ := HY.out.three
 replace HNL : Hid ((L.eraseIdx (mAt L a).toNat).length <= 90000) := hidp (by have := HNL.out; have h9 := List.length_eraseIdx_le L (mAt L a).toNat; omega)
 obtain ⟨m, D, hm, hG, hO, hD⟩ := HM.out.ex
 have HMX := hidp (And.intro hm (And.intro hG (And.intro hO hD)))
 have HSM : Hid (w.heap.size ≠ m /\ w.heap.size + 1 ≠ m /\ g ≠ m) := hidp ⟨fun e => by have := HFL.out m hm; omega, fun e => by have := HFL.out m hm; omega, held_not_map hG hO⟩
 clear hm hG hO hD
 go_wp2_with fail
 clear x0 x1 x2 y0 y1 y2
 replace HX := hidp (HX.out.keep (Bdrew (B0 _)))
 replace HY := hidp (HY.out.keep (Bdrew (B0 _)))
 replace HM := hidp (HM.out.stay (Bdrew (B0 _)))
 replace HT := hidp (HT.out.trans (Turns.of_below (Bdrew (B0 _)) F))
 (try replace HSL := hidp (HSL.out.below (Bdrew (B0 _))))
 replace HMX := hidp (And.intro HMX.out.1 (And.intro (HMX.out.2.1.keep (Bdrew (B0 _))) (And.intro (owns_turns HMX.out.2.2.1 (Turns.of_below (Bdrew (B0 _)) (fun _ => False)) (fun x => x)) HMX.out.2.2.2)))
 refine wp_region_held_drew (S := (fun w' => (w'.cell? ⟨w.heap.size, 0, none⟩ = some (.int .i64 3) /\ w'.cell? ⟨w.heap.size, 1, none⟩ = some (.int .i64 a) /\ w'.cell? ⟨w.heap.size, 2, none⟩ = some (.int .i64 b)) /\ (w'.cell? ⟨w.heap.size + 1, 0, none⟩ = some (.int .i64 0) /\ w'.cell? ⟨w.heap.size + 1, 1, none⟩ = some (.int .i64 out) /\ w'.cell? ⟨w.heap.size + 1, 2, none⟩ = some (.int .i64 aux)) /\ (w'.cell? ⟨g, 0, none⟩ = some (.int .i64 t) /\ w'.cell? ⟨g, 1, none⟩ = some (.int .i64 p) /\ w'.cell? ⟨g, 2, none⟩ = some (.int .i64 s) /\ w'.cell? ⟨g, 3, none⟩ = some (.map (some m))))) (by kernel_rfl) ?_ (fun hHeld => ?_)
 ·(try dsimp only)
  first | exact ⟨HX.out.three, HY.out.three, mod_cells HMX.out.2.1⟩ | exact ⟨HX.out.three, HY.out.three, mod_cells HMX.out.2⟩ | exact hHeld
 refine tkz 0 ?_
 refine tkz 1 ?_
 refine tkz 2 ?_
 refine tkz 3 ?_
 refine tkz 4 ?_
 refine tkz 5 ?_
 refine tkz 6 ?_
 refine tkz 7 ?_
 refine tkz 8 ?_
 refine tkz 9 ?_
 refine rdz 10 fun K hK => ?_
 (refine step_mapUpdate rfl _ _ _ 60 rfl 55 72 bkKey Tryd.underlying60 unitElem m (L.eraseIdx (mAt L a).toNat).length D rfl HMX.out.2.2.1 (by have := HNL.out; unfold maxLen; omega) _ _ (bkL out aux) rfl rfl (bk_key HN.out.wf.1 HN.out.wf.2) _ [] unitElem_mk ?_; intro w3 hown3 hg3; have HM3 : Hid (IsMod w3 g F t p s (addB (L.eraseIdx (mAt L a).toNat) (out, aux)) R) := hidp (HM.out.more HMX.out.1 HMX.out.2.1 HMX.out.2.2.1 HMX.out.2.2.2 (x := (out, aux)) HN.out.wf HN.out.ni HN.out.perm HN.out.asc HN.out.ins hown3 hg3); have ht3 : Turns F _ w3 := Turns.of_grown hg3 HMX.out.1; replace HMX : Hid (F m /\ Held w3 g 62 (mC t p s (.map (some m)) R)) := hidp (And.intro HMX.out.1 ((hg3.block _ HMX.out.2.1.lt (fun e => HSM.out.2.2 (by injection e))).trans HMX.out.2.1)); replace HX := hidp (ht3.held HX.out (fun h9 => by have := HFL.out _ h9; omega)); replace HY := hidp (ht3.held HY.out (fun h9 => by have := HFL.out _ h9; omega)); replace HT := hidp (HT.out.trans ht3); clear hown3 hg3 ht3 HM; have HM := HM3; clear HM3)
 refine hK.out _ _ ?_ (fun hHeld => ?_)
 ·(try dsimp only)
  first | exact ⟨HX.out.three, HY.out.three, mod_cells HMX.out.2.1⟩ | exact ⟨HX.out.three, HY.out.three, mod_cells HMX.out.2⟩ | exact hHeld
 clear hK K
 (try simp only [Act.put, gA, gB, gC, sA, sB, sC])
 refine dnz ?_
 obtain ⟨x0, x1, x2⟩ := HX.out.three
 obtain ⟨y0, y1, y2⟩ := HY.out.three
 go_wp2_with fail
 refine (mdFollow_c HM.out a out).mono ?_; rintro e w1 ⟨rfl, ht, hm⟩
 clear x0 x1 x2 y0 y1 y2
 replace HX := hidp (ht.held HX.out (fun h9 => by have := HFL.out _ h9; omega))
 replace HY := hidp (ht.held HY.out (fun h9 => by have := HFL.out _ h9; omega))
 replace HT := hidp (HT.out.trans ht)
 replace HM := hidp hm
 clear ht hm
 obtain ⟨x0, x1, x2⟩ := HX.out.three
 obtain ⟨y0, y1, y2⟩ := HY.out.three
 go_wp2_with fail
 go_ret
 exact ⟨rfl, HM.out, HT.out⟩

set_option maxHeartbeats 3200000 in
theorem app_5 (h : IsMod w g F t p s L R) (hn : L.length <= 90000) (a b out aux : Int) (ha : -9223372036854775808 <= a /\ a <= 9223372036854775807) (hb : -9223372036854775808 <= b /\ b <= 9223372036854775807) (hT : SlotsLaid w) (n : Nat) (h8 : n < 8) (ea : a = (n : Int)) (hal : allowM t p s L R 5 a b 0 out aux = true) : Calls Tryd.prog 18 #[.pointer (some ⟨g, 0, none⟩), .agg #[.int .i64 5, .int .i64 a, .int .i64 b], .agg #[.int .i64 0, .int .i64 out, .int .i64 aux]] w fun e w' => e = .returned (.bool true) /\ IsMod w' g F t p s L (updF R n b) /\ Turns F w w' := by
 have hb0 := hb
 clear hb
 subst ea
 have h8i : (n : Int) < 8 := by omega
 have HAL := hidp hal
 clear hal
 have HT := hidp (Turns.of_below (Bnew (Bnew (B0 w) (.cells #[.int .i64 5, .int .i64 (n : Int), .int .i64 b] 29)) (.cells #[.int .i64 0, .int .i64 out, .int .i64 aux] 32)) F)
 have HX := hidp ((Held.new w 29 #[.int .i64 5, .int .i64 (n : Int), .int .i64 b]).alloc (.cells #[.int .i64 0, .int .i64 out, .int .i64 aux] 32))
 have HY := hidp (Held.new2 w (.cells #[.int .i64 5, .int .i64 (n : Int), .int .i64 b] 29) 32 #[.int .i64 0, .int .i64 out, .int .i64 aux])
 have HM := hidp (h.stay (Bnew (Bnew (B0 w) (.cells #[.int .i64 5, .int .i64 (n : Int), .int .i64 b] 29)) (.cells #[.int .i64 0, .int .i64 out, .int .i64 aux] 32)))
 have HFL := hidp h.lt
 have HFG := hidp h.fg
 have HNL := hidp hn
 have HSL := hidp ((hT.alloc (.cells #[.int .i64 5, .int .i64 (n : Int), .int .i64 b] 29)).alloc (.cells #[.int .i64 0, .int .i64 out, .int .i64 aux] 32))
 clear h hT hn
 obtain ⟨x0, x1, x2⟩ := HX.out.three
 obtain ⟨y0, y1, y2⟩ := HY.out.three
 go_enter Tryd.func18, Tryd.ntmps18
 go_wp2_with fail
 refine (mdAllows_c HM.out (by have := HNL.out; omega) 5 (n : Int) b 0 out aux ⟨by omega, by omega⟩ ha hb0 HSL.out).mono ?_; rintro e w1 ⟨rfl, hb⟩; rw [HAL.out]
 clear x0 x1 x2 y0 y1 y2
 replace HX := hidp (HX.out.keep hb)
 replace HY := hidp (HY.out.keep hb)
 replace HM := hidp (HM.out.stay hb)
 replace HT := hidp (HT.out.trans (Turns.of_below hb F))
 (try replace HSL := hidp (HSL.out.below hb))
 clear hb
 obtain ⟨x0, x1, x2⟩ := HX.out.three
 obtain ⟨y0, y1, y2⟩ := HY.out.three
 obtain ⟨m, D, hm, hG, hO, hD⟩ := HM.out.ex
 have HMX := hidp (And.intro hm (And.intro hG (And.intro hO hD)))
 have HSM : Hid (w.heap.size ≠ m /\ w.heap.size + 1 ≠ m /\ g ≠ m) := hidp ⟨fun e => by have := HFL.out m hm; omega, fun e => by have := HFL.out m hm; omega, held_not_map hG hO⟩
 clear hm hG hO hD
 go_wp2_with fail
 clear x0 x1 x2 y0 y1 y2
 replace HX := hidp (HX.out.keep (Bdrew (B0 _)))
 replace HY := hidp (HY.out.keep (Bdrew (B0 _)))
 replace HM := hidp (HM.out.stay (Bdrew (B0 _)))
 replace HT := hidp (HT.out.trans (Turns.of_below (Bdrew (B0 _)) F))
 (try replace HSL := hidp (HSL.out.below (Bdrew (B0 _))))
 replace HMX := hidp (And.intro HMX.out.1 (And.intro (HMX.out.2.1.keep (Bdrew (B0 _))) (And.intro (owns_turns HMX.out.2.2.1 (Turns.of_below (Bdrew (B0 _)) (fun _ => False)) (fun x => x)) HMX.out.2.2.2)))
 obtain ⟨r, hr⟩ : ∃ r, (R) n = r := ⟨_, rfl⟩
 have r0 := mod_root HMX.out.2.1 h8
 rw [hr] at r0
 have fr0 := HMX.out.2.1.thawed (4 + n)
 clear hr
 refine wp_region_held_drew (S := (fun w' => (w'.cell? ⟨w.heap.size, 0, none⟩ = some (.int .i64 5) /\ w'.cell? ⟨w.heap.size, 1, none⟩ = some (.int .i64 (n : Int)) /\ w'.cell? ⟨w.heap.size, 2, none⟩ = some (.int .i64 b)) /\ (w'.cell? ⟨w.heap.size + 1, 0, none⟩ = some (.int .i64 0) /\ w'.cell? ⟨w.heap.size + 1, 1, none⟩ = some (.int .i64 out) /\ w'.cell? ⟨w.heap.size + 1, 2, none⟩ = some (.int .i64 aux)) /\ (w'.cell? ⟨g, 0, none⟩ = some (.int .i64 t) /\ w'.cell? ⟨g, 1, none⟩ = some (.int .i64 p) /\ w'.cell? ⟨g, 2, none⟩ = some (.int .i64 s) /\ w'.cell? ⟨g, 3, none⟩ = some (.map (some m))))) (by kernel_rfl) ?_ (fun hHeld => ?_)
 ·(try dsimp only)
  first | exact ⟨HX.out.three, HY.out.three, mod_cells HMX.out.2.1⟩ | exact ⟨HX.out.three, HY.out.three, mod_cells HMX.out.2⟩ | exact hHeld
 refine tkz 0 ?_
 refine tkz 1 ?_
 refine tkz 2 ?_
 refine tkz 3 ?_
 refine tkz 4 ?_
 refine tkz 5 ?_
 refine tkz 6 ?_
 refine tkz 7 ?_
 refine rdz 8 fun K hK => ?_
 go_simp
 (have ht3 : Turns F w1.drew (w1.drew.setCell ⟨g, 4 + n, none⟩ (.int .i64 b)) := (T0 F w1.drew).put (p := ⟨g, 4 + n, none⟩) HFG.out _; have HM3 : Hid (IsMod (w1.drew.setCell ⟨g, 4 + n, none⟩ (.int .i64 b)) g F t p s (L) (updF (R) n b)) := hidp (HM.out.root h8 b); replace HX := hidp (ht3.held HX.out (fun h9 => by have := HFL.out _ h9; omega)); replace HY := hidp (ht3.held HY.out (fun h9 => by have := HFL.out _ h9; omega)); replace HT := hidp (HT.out.trans ht3); replace HMX : Hid (F m /\ Held (w1.drew.setCell ⟨g, 4 + n, none⟩ (.int .i64 b)) g 62 (mC t p s (.map (some m)) (updF (R) n b))) := hidp ⟨HMX.out.1, by have h10 := HMX.out.2.1.put (4 + n) (.int .i64 b); rw [mC_root _ _ _ _ _ h8] at h10; exact h10⟩; clear ht3 HM; have HM := HM3; clear HM3)
 refine hK.out _ _ ?_ (fun hHeld => ?_)
 ·(try dsimp only)
  first | exact ⟨HX.out.three, HY.out.three, mod_cells HMX.out.2.1⟩ | exact ⟨HX.out.three, HY.out.three, mod_cells HMX.out.2⟩ | exact hHeld
 clear hK K
 (try simp only [Act.put, gA, gB, gC, sA, sB, sC])
 refine dnz ?_
 obtain ⟨x0, x1, x2⟩ := HX.out.three
 obtain ⟨y0, y1, y2⟩ := HY.out.three
 go_wp2_with fail
 go_ret
 exact ⟨rfl, HM.out, HT.out⟩

set_option maxHeartbeats 3200000 in
theorem app_4 (h : IsMod w g F t p s L R) (hn : L.length <= 90000) (a b out aux : Int) (ha : -9223372036854775808 <= a /\ a <= 9223372036854775807) (hb : -9223372036854775808 <= b /\ b <= 9223372036854775807) (hT : SlotsLaid w) (n : Nat) (h8 : n < 8) (ea : a = (n : Int)) (hal : allowM t p s L R 4 a b 0 out aux = true) (u : Int) (hu : rdI t p s b = u) (hnd : needB t p s b = true) (hnb : NewB (pageN t p s : Int) (endI t p s) L (out, u)) : Calls Tryd.prog 18 #[.pointer (some ⟨g, 0, none⟩), .agg #[.int .i64 4, .int .i64 a, .int .i64 b], .agg #[.int .i64 0, .int .i64 out, .int .i64 aux]] w fun e w' => e = .returned (.bool true) /\ IsMod w' g F t p s (addB L (out, u)) (updF R n out) /\ Turns F w w' := by
 have hb0 := hb
 clear hb
 subst ea
 have h8i : (n : Int) < 8 := by omega
 have HAL := hidp hal
 clear hal
 have HN := hidp hnb
 have HU : Hid (rdI t p s b = u /\ needB t p s b = true) := hidp ⟨hu, hnd⟩
 clear hnb hu hnd
 have HT := hidp (Turns.of_below (Bnew (Bnew (B0 w) (.cells #[.int .i64 4, .int .i64 (n : Int), .int .i64 b] 29)) (.cells #[.int .i64 0, .int .i64 out, .int .i64 aux] 32)) F)
 have HX := hidp ((Held.new w 29 #[.int .i64 4, .int .i64 (n : Int), .int .i64 b]).alloc (.cells #[.int .i64 0, .int .i64 out, .int .i64 aux] 32))
 have HY := hidp (Held.new2 w (.cells #[.int .i64 4, .int .i64 (n : Int), .int .i64 b] 29) 32 #[.int .i64 0, .int .i64 out, .int .i64 aux])
 have HM := hidp (h.stay (Bnew (Bnew (B0 w) (.cells #[.int .i64 4, .int .i64 (n : Int), .int .i64 b] 29)) (.cells #[.int .i64 0, .int .i64 out, .int .i64 aux] 32)))
 have HFL := hidp h.lt
 have HFG := hidp h.fg
 have HNL := hidp hn
 have HSL := hidp ((hT.alloc (.cells #[.int .i64 4, .int .i64 (n : Int), .int .i64 b] 29)).alloc (.cells #[.int .i64 0, .int .i64 out, .int .i64 aux] 32))
 clear h hT hn
 obtain ⟨x0, x1, x2⟩ := HX.out.three
 obtain ⟨y0, y1, y2⟩ := HY.out.three
 go_enter Tryd.func18, Tryd.ntmps18
 go_wp2_with fail
 refine (mdAllows_c HM.out (by have := HNL.out; omega) 4 (n : Int) b 0 out aux ⟨by omega, by omega⟩ ha hb0 HSL.out).mono ?_; rintro e w1 ⟨rfl, hb⟩; rw [HAL.out]
 clear x0 x1 x2 y0 y1 y2
 replace HX := hidp (HX.out.keep hb)
 replace HY := hidp (HY.out.keep hb)
 replace HM := hidp (HM.out.stay hb)
 replace HT := hidp (HT.out.trans (Turns.of_below hb F))
 (try replace HSL := hidp (HSL.out.below hb))
 clear hb
 obtain ⟨x0, x1, x2⟩ := HX.out.three
 obtain ⟨y0, y1, y2⟩ := HY.out.three
 obtain ⟨m, D, hm, hG, hO, hD⟩ := HM.out.ex
 have HMX := hidp (And.intro hm (And.intro hG (And.intro hO hD)))
 have HSM : Hid (w.heap.size ≠ m /\ w.heap.size + 1 ≠ m /\ g ≠ m) := hidp ⟨fun e => by have := HFL.out m hm; omega, fun e => by have := HFL.out m hm; omega, held_not_map hG hO⟩
 clear hm hG hO hD
 go_wp2_with fail
 clear x0 x1 x2 y0 y1 y2
 replace HX := hidp (HX.out.keep (Bdrew (B0 _)))
 replace HY := hidp (HY.out.keep (Bdrew (B0 _)))
 replace HM := hidp (HM.out.stay (Bdrew (B0 _)))
 replace HT := hidp (HT.out.trans (Turns.of_below (Bdrew (B0 _)) F))
 (try replace HSL := hidp (HSL.out.below (Bdrew (B0 _))))
 replace HMX := hidp (And.intro HMX.out.1 (And.intro (HMX.out.2.1.keep (Bdrew (B0 _))) (And.intro (owns_turns HMX.out.2.2.1 (Turns.of_below (Bdrew (B0 _)) (fun _ => False)) (fun x => x)) HMX.out.2.2.2)))
 refine wp_region_held_drew (S := (fun w' => (w'.cell? ⟨w.heap.size, 0, none⟩ = some (.int .i64 4) /\ w'.cell? ⟨w.heap.size, 1, none⟩ = some (.int .i64 (n : Int)) /\ w'.cell? ⟨w.heap.size, 2, none⟩ = some (.int .i64 b)) /\ (w'.cell? ⟨w.heap.size + 1, 0, none⟩ = some (.int .i64 0) /\ w'.cell? ⟨w.heap.size + 1, 1, none⟩ = some (.int .i64 out) /\ w'.cell? ⟨w.heap.size + 1, 2, none⟩ = some (.int .i64 aux)) /\ (w'.cell? ⟨g, 0, none⟩ = some (.int .i64 t) /\ w'.cell? ⟨g, 1, none⟩ = some (.int .i64 p) /\ w'.cell? ⟨g, 2, none⟩ = some (.int .i64 s) /\ w'.cell? ⟨g, 3, none⟩ = some (.map (some m))))) (by kernel_rfl) ?_ (fun hHeld => ?_)
 ·(try dsimp only)
  first | exact ⟨HX.out.three, HY.out.three, mod_cells HMX.out.2.1⟩ | exact ⟨HX.out.three, HY.out.three, mod_cells HMX.out.2⟩ | exact hHeld
 refine tkz 0 ?_
 refine tkz 1 ?_
 refine tkz 2 ?_
 refine tkz 3 ?_
 refine tkz 4 ?_
 refine tkz 5 ?_
 refine rdz 6 fun K hK => ?_
 go_simp
 (refine (mdRound_c t p s b hb0 _ HSL.out).mono ?_; rintro e w1 ⟨rfl, hb⟩; rw [HU.out.1, HU.out.2]; replace HX := hidp (HX.out.keep hb); replace HY := hidp (HY.out.keep hb); replace HM := hidp (HM.out.stay hb); replace HT := hidp (HT.out.trans (Turns.of_below hb F)); (try replace HSL := hidp (HSL.out.below hb)); replace HMX := hidp (And.intro HMX.out.1 (And.intro (HMX.out.2.1.keep hb) (And.intro (owns_turns HMX.out.2.2.1 (Turns.of_below hb (fun _ => False)) (fun x => x)) HMX.out.2.2.2))); clear hb)
 refine hK.out _ _ ?_ (fun hHeld => ?_)
 ·(try dsimp only)
  first | exact ⟨HX.out.three, HY.out.three, mod_cells HMX.out.2.1⟩ | exact ⟨HX.out.three, HY.out.three, mod_cells HMX.out.2⟩ | exact hHeld
 clear hK K
 (try simp only [Act.put, gA, gB, gC, sA, sB, sC])
 refine tkz 7 ?_
 refine tkz 8 ?_
 refine tkz 9 ?_
 refine tkz 10 ?_
 refine tkz 11 ?_
 refine dnz ?_
 clear HMX HSM
 obtain ⟨x0, x1, x2⟩ := HX.out.three
 obtain ⟨y0, y1, y2⟩ := HY.out.three
 obtain ⟨m, D, hm, hG, hO, hD⟩ := HM.out.ex
 have HMX := hidp (And.intro hm (And.intro hG (And.intro hO hD)))
 have HSM : Hid (w.heap.size ≠ m /\ w.heap.size + 1 ≠ m /\ g ≠ m) := hidp ⟨fun e => by have := HFL.out m hm; omega, fun e => by have := HFL.out m hm; omega, held_not_map hG hO⟩
 clear hm hG hO hD
 go_wp2_with fail
 clear x0 x1 x2 y0 y1 y2
 replace HX := hidp (HX.out.keep (Bdrew (B0 _)))
 replace HY := hidp (HY.out.keep (Bdrew (B0 _)))
 replace HM := hidp (HM.out.stay (Bdrew (B0 _)))
 replace HT := hidp (HT.out.trans (Turns.of_below (Bdrew (B0 _)) F))
 (try replace HSL := hidp (HSL.out.below (Bdrew (B0 _))))
 replace HMX := hidp (And.intro HMX.out.1 (And.intro (HMX.out.2.1.keep (Bdrew (B0 _))) (And.intro (owns_turns HMX.out.2.2.1 (Turns.of_below (Bdrew (B0 _)) (fun _ => False)) (fun x => x)) HMX.out.2.2.2)))
 refine wp_region_held_drew (S := (fun w' => (w'.cell? ⟨w.heap.size, 0, none⟩ = some (.int .i64 4) /\ w'.cell? ⟨w.heap.size, 1, none⟩ = some (.int .i64 (n : Int)) /\ w'.cell? ⟨w.heap.size, 2, none⟩ = some (.int .i64 b)) /\ (w'.cell? ⟨w.heap.size + 1, 0, none⟩ = some (.int .i64 0) /\ w'.cell? ⟨w.heap.size + 1, 1, none⟩ = some (.int .i64 out) /\ w'.cell? ⟨w.heap.size + 1, 2, none⟩ = some (.int .i64 aux)) /\ (w'.cell? ⟨g, 0, none⟩ = some (.int .i64 t) /\ w'.cell? ⟨g, 1, none⟩ = some (.int .i64 p) /\ w'.cell? ⟨g, 2, none⟩ = some (.int .i64 s) /\ w'.cell? ⟨g, 3, none⟩ = some (.map (some m))))) (by kernel_rfl) ?_ (fun hHeld => ?_)
 ·(try dsimp only)
  first | exact ⟨HX.out.three, HY.out.three, mod_cells HMX.out.2.1⟩ | exact ⟨HX.out.three, HY.out.three, mod_cells HMX.out.2⟩ | exact hHeld
 refine tkz 0 ?_
 refine tkz 1 ?_
 refine tkz 2 ?_
 refine tkz 3 ?_
 refine tkz 4 ?_
 refine tkz 5 ?_
 refine tkz 6 ?_
 refine tkz 7 ?_
 refine tkz 8 ?_
 refine rdz 9 fun K hK => ?_
 (refine step_mapUpdate rfl _ _ _ 60 rfl 55 72 bkKey Tryd.underlying60 unitElem m (L).length D rfl HMX.out.2.2.1 (by have := HNL.out; unfold maxLen; omega) _ _ (bkL out u) rfl rfl (bk_key HN.out.wf.1 HN.out.wf.2) _ [] unitElem_mk ?_; intro w3 hown3 hg3; have HM3 : Hid (IsMod w3 g F t p s (addB (L) (out, u)) R) := hidp (HM.out.more HMX.out.1 HMX.out.2.1 HMX.out.2.2.1 HMX.out.2.2.2 (x := (out, u)) HN.out.wf HN.out.ni HN.out.perm HN.out.asc HN.out.ins hown3 hg3); have ht3 : Turns F _ w3 := Turns.of_grown hg3 HMX.out.1; replace HMX : Hid (F m /\ Held w3 g 62 (mC t p s (.map (some m)) R)) := hidp (And.intro HMX.out.1 ((hg3.block _ HMX.out.2.1.lt (fun e => HSM.out.2.2 (by injection e))).trans HMX.out.2.1)); replace HX := hidp (ht3.held HX.out (fun h9 => by have := HFL.out _ h9; omega)); replace HY := hidp (ht3.held HY.out (fun h9 => by have := HFL.out _ h9; omega)); replace HT := hidp (HT.out.trans ht3); clear hown3 hg3 ht3 HM; have HM := HM3; clear HM3)
 refine hK.out _ _ ?_ (fun hHeld => ?_)
 ·(try dsimp only)
  first | exact ⟨HX.out.three, HY.out.three, mod_cells HMX.out.2.1⟩ | exact ⟨HX.out.three, HY.out.three, mod_cells HMX.out.2⟩ | exact hHeld
 clear hK K
 (try simp only [Act.put, gA, gB, gC, sA, sB, sC])
 refine dnz ?_
 obtain ⟨x0, x1, x2⟩ := HX.out.three
 obtain ⟨y0, y1, y2⟩ := HY.out.three
 clear HMX HSM
 obtain ⟨m, D, hm, hG, hO, hD⟩ := HM.out.ex
 have HMX := hidp (And.intro hm (And.intro hG (And.intro hO hD)))
 have HSM : Hid (w.heap.size ≠ m /\ w.heap.size + 1 ≠ m /\ g ≠ m) := hidp ⟨fun e => by have := HFL.out m hm; omega, fun e => by have := HFL.out m hm; omega, held_not_map hG hO⟩
 clear hm hG hO hD
 go_wp2_with fail
 clear x0 x1 x2 y0 y1 y2
 replace HX := hidp (HX.out.keep (Bdrew (B0 _)))
 replace HY := hidp (HY.out.keep (Bdrew (B0 _)))
 replace HM := hidp (HM.out.stay (Bdrew (B0 _)))
 replace HT := hidp (HT.out.trans (Turns.of_below (Bdrew (B0 _)) F))
 (try replace HSL := hidp (HSL.out.below (Bdrew (B0 _))))
 replace HMX := hidp (And.intro HMX.out.1 (And.intro (HMX.out.2.1.keep (Bdrew (B0 _))) (And.intro (owns_turns HMX.out.2.2.1 (Turns.of_below (Bdrew (B0 _)) (fun _ => False)) (fun x => x)) HMX.out.2.2.2)))
 obtain ⟨r, hr⟩ : ∃ r, (R) n = r := ⟨_, rfl⟩
 have r0 := mod_root HMX.out.2.1 h8
 rw [hr] at r0
 have fr0 := HMX.out.2.1.thawed (4 + n)
 clear hr
 refine wp_region_held_drew (S := (fun w' => (w'.cell? ⟨w.heap.size, 0, none⟩ = some (.int .i64 4) /\ w'.cell? ⟨w.heap.size, 1, none⟩ = some (.int .i64 (n : Int)) /\ w'.cell? ⟨w.heap.size, 2, none⟩ = some (.int .i64 b)) /\ (w'.cell? ⟨w.heap.size + 1, 0, none⟩ = some (.int .i64 0) /\ w'.cell? ⟨w.heap.size + 1, 1, none⟩ = some (.int .i64 out) /\ w'.cell? ⟨w.heap.size + 1, 2, none⟩ = some (.int .i64 aux)) /\ (w'.cell? ⟨g, 0, none⟩ = some (.int .i64 t) /\ w'.cell? ⟨g, 1, none⟩ = some (.int .i64 p) /\ w'.cell? ⟨g, 2, none⟩ = some (.int .i64 s) /\ w'.cell? ⟨g, 3, none⟩ = some (.map (some m))))) (by kernel_rfl) ?_ (fun hHeld => ?_)
 ·(try dsimp only)
  first | exact ⟨HX.out.three, HY.out.three, mod_cells HMX.out.2.1⟩ | exact ⟨HX.out.three, HY.out.three, mod_cells HMX.out.2⟩ | exact hHeld
 refine tkz 0 ?_
 refine tkz 1 ?_
 refine tkz 2 ?_
 refine tkz 3 ?_
 refine tkz 4 ?_
 refine tkz 5 ?_
 refine tkz 6 ?_
 refine tkz 7 ?_
 refine rdz 8 fun K hK => ?_
 go_simp
 (have ht3 : Turns F w3.drew (w3.drew.setCell ⟨g, 4 + n, none⟩ (.int .i64 out)) := (T0 F w3.drew).put (p := ⟨g, 4 + n, none⟩) HFG.out _; have HM3 : Hid (IsMod (w3.drew.setCell ⟨g, 4 + n, none⟩ (.int .i64 out)) g F t p s (addB L (out, u)) (updF (R) n out)) := hidp (HM.out.root h8 out); replace HX := hidp (ht3.held HX.out (fun h9 => by have := HFL.out _ h9; omega)); replace HY := hidp (ht3.held HY.out (fun h9 => by have := HFL.out _ h9; omega)); replace HT := hidp (HT.out.trans ht3); replace HMX : Hid (F m /\ Held (w3.drew.setCell ⟨g, 4 + n, none⟩ (.int .i64 out)) g 62 (mC t p s (.map (some m)) (updF (R) n out))) := hidp ⟨HMX.out.1, by have h10 := HMX.out.2.1.put (4 + n) (.int .i64 out); rw [mC_root _ _ _ _ _ h8] at h10; exact h10⟩; clear ht3 HM; have HM := HM3; clear HM3)
 refine hK.out _ _ ?_ (fun hHeld => ?_)
 ·(try dsimp only)
  first | exact ⟨HX.out.three, HY.out.three, mod_cells HMX.out.2.1⟩ | exact ⟨HX.out.three, HY.out.three, mod_cells HMX.out.2⟩ | exact hHeld
 clear hK K
 (try simp only [Act.put, gA, gB, gC, sA, sB, sC])
 refine dnz ?_
 obtain ⟨x0, x1, x2⟩ := HX.out.three
 obtain ⟨y0, y1, y2⟩ := HY.out.three
 go_wp2_with fail
 go_ret
 exact ⟨rfl, HM.out, HT.out⟩

theorem mdApply_c (h : IsMod w g F t p s L R) (hn : L.length <= 90000) (k a b err out aux : Int) (hk : -9223372036854775808 <= k /\ k <= 9223372036854775807) (ha : -9223372036854775808 <= a /\ a <= 9223372036854775807) (hb : -9223372036854775808 <= b /\ b <= 9223372036854775807) (hT : SlotsLaid w) :
  Calls Tryd.prog 18 #[.pointer (some ⟨g, 0, none⟩), .agg #[.int .i64 k, .int .i64 a, .int .i64 b], .agg #[.int .i64 err, .int .i64 out, .int .i64 aux]] w fun e w' => ∃ F' : Nat -> Prop, e = .returned (.bool (allowM t p s L R k a b err out aux)) /\ (∀ i, F' i -> F i \/ w.heap.size <= i) /\ IsMod w' g F' t p s (stepL t p s L R k a b err out aux) (stepR t p s L R k a b err out aux) /\ Turns F w w' := by
 obtain ⟨b1, b2⟩ := end_le h.right
 suffices hs : ∃ L2 R2, stepL t p s L R k a b err out aux = L2 /\ stepR t p s L R k a b err out aux = R2 /\ Calls Tryd.prog 18 #[.pointer (some ⟨g, 0, none⟩), .agg #[.int .i64 k, .int .i64 a, .int .i64 b], .agg #[.int .i64 err, .int .i64 out, .int .i64 aux]] w fun e w' => e = .returned (.bool (allowM t p s L R k a b err out aux)) /\ IsMod w' g F t p s L2 R2 /\ Turns F w w' by
  obtain ⟨L2, R2, e1, e2, hc⟩ := hs
  rw [e1, e2]
  exact hc.mono fun e w' ⟨h1, h2, h3⟩ => ⟨F, h1, fun i hi => .inl hi, h2, h3⟩
 cases hv : allowM t p s L R k a b err out aux with
 | false => exact ⟨L, R, by unfold stepL; rw [hv, if_neg (by simp)], by unfold stepR; rw [hv, if_neg (by simp)], app_no h hn k a b err out aux hk ha hb hT hv⟩
 | true =>
  by_cases he : err = 0
  ·subst he
   have ho := allow_op hv
   have hk9 := op_kind ho
   have e1 : stepL t p s L R k a b 0 out aux = appL t p s L k a b 0 out aux := by unfold stepL; rw [if_pos hv]
   have e2 : stepR t p s L R k a b 0 out aux = appR R k a b 0 out := by unfold stepR; rw [if_pos hv]
   rw [e1, e2]
   have hnb : ∀ LL x, AscM LL -> InsM (pageN t p s : Int) (endI t p s) LL -> insB (pageN t p s : Int) (endI t p s) out x = true -> (∀ y ∈ LL, hitB y out x = false) -> NewB (pageN t p s : Int) (endI t p s) LL (out, x) := fun LL x h1 h2 h3 h4 => new_block b2.1 b2.2.2.2 h1 h2 h3 h4
   rcases (by omega : k = 1 \/ k = 2 \/ k = 3 \/ k = 4 \/ k = 5 \/ k = 6 \/ k = 7 \/ k = 8 \/ k = 9) with rfl | rfl | rfl | rfl | rfl | rfl | rfl | rfl | rfl
   ·obtain ⟨h1, h2⟩ := allow1 hv
    exact ⟨_, _, rfl, rfl, app_1 h hn a b out aux ha hb hT hv (hnb L aux h.asc h.ins (freeM_ins h1) (free_none h1))⟩
   ·obtain ⟨i, z, h1, _, _⟩ := allow_there hv (by omega)
    exact ⟨_, _, rfl, rfl, app_2 h hn a b out aux ha hb hT hv (by omega)⟩
   ·obtain ⟨i, z, h1, _, _⟩ := allow_there hv (by omega)
    obtain ⟨h3, h4⟩ := allow3 hv
    obtain ⟨_, _, _, _, _, h8, h9⟩ := erase_facts h.asc h.ins (a := a) (by omega)
    exact ⟨_, _, rfl, rfl, app_3 h hn a b out aux ha hb hT hv (by omega) (hnb _ aux h8 h9 (freeM_ins h3) (free_own h3 (by split <;> omega)))⟩
   ·obtain ⟨h3, h4⟩ := allow4 hv
    have h5 : needB t p s b = true := by
     rw [am_root ho (by omega), rm4 (by omega)] at hv
     simp only [Bool.and_eq_true] at hv
     exact (made_ins hv.1).2
    obtain ⟨n, rfl⟩ := Int.eq_ofNat_of_zero_le h3.1
    exact ⟨_, _, rfl, rfl, app_4 h hn n b out aux ha hb hT n (by omega) rfl hv _ rfl h5 (hnb L _ h.asc h.ins (freeM_ins h4) (free_none h4))⟩
   ·obtain ⟨h3, h4⟩ := allow5 hv
    obtain ⟨n, rfl⟩ := Int.eq_ofNat_of_zero_le h3.1
    exact ⟨_, _, rfl, rfl, app_5 h hn n b out aux ha hb hT n (by omega) rfl hv⟩
   ·exact ⟨_, _, rfl, rfl, app_6 h hn a b out aux ha hb hT hv⟩
   ·exact ⟨_, _, rfl, rfl, app_7 h hn a b out aux ha hb hT hv⟩
   ·exact ⟨_, _, rfl, rfl, app_8 h hn a b out aux ha hb hT hv⟩
   ·exact ⟨_, _, rfl, rfl, app_9 h hn a b out aux ha hb hT hv⟩
  ·exact ⟨L, R, by unfold stepL appL; rw [if_pos hv, if_pos he], by unfold stepR appR; rw [if_pos hv, if_pos he], app_err h hn k a b err out aux hk ha hb hT hv he⟩

end
end
end Go.Proofs.YtedakmhffjhfnaaDoor

namespace Go.Proofs.YtedakmhffjhfnaaDoor
open Go.ChangeShapes Go.WideShapes Go.ChangeAt Go.RowKit
set_option linter.unusedVariables false
set_option linter.unusedSimpArgs false
set_option maxRecDepth 100000
section
structure SaidV where
 k : Int
 a : Int
 b : Int
 err : Int
 out : Int
 aux : Int
instance : Inhabited SaidV := ⟨⟨0, 0, 0, 0, 0, 0⟩⟩
structure SaidV.Ok (x : SaidV) : Prop where
 k : (-9223372036854775808 <= x.k /\ x.k <= 9223372036854775807)
 a : (-9223372036854775808 <= x.a /\ x.a <= 9223372036854775807)
 b : (-9223372036854775808 <= x.b /\ x.b <= 9223372036854775807)
 err : (-9223372036854775808 <= x.err /\ x.err <= 9223372036854775807)
 out : (-9223372036854775808 <= x.out /\ x.out <= 9223372036854775807)
 aux : (-9223372036854775808 <= x.aux /\ x.aux <= 9223372036854775807)
def SaidV.cells (x : SaidV) : List Value := [.int .i64 x.k, .int .i64 x.a, .int .i64 x.b, .int .i64 x.err, .int .i64 x.out, .int .i64 x.aux]
def SaidVs (w : World) (A : Option Addr) (l : List SaidV) : Prop :=
 ∀ i a, l[i]? = some a -> ∃ ad, A = some ad /\ ad.block < w.heap.size /\ ∀ j u, a.cells[j]? = some u -> w.cell? (ad.add (i * 6 + j)) = some u
theorem SaidVs.below {w w' : World} {A : Option Addr} {l : List SaidV} (h : SaidVs w A l) (hb : Below w.heap.size w w') : SaidVs w' A l := fun i a ha => by
 obtain ⟨ad, e, h1, h2⟩ := h i a ha
 exact ⟨ad, e, Nat.lt_of_lt_of_le h1 hb.size, fun j u hu => (hb.cell (p := ad.add (i * 6 + j)) (by rw [block_of_add]; exact h1)).trans (h2 j u hu)⟩
def SaidAt (w : World) (p : Addr) (x : SaidV) : Prop :=
 w.cell? p = some (.int .i64 x.k) /\ w.cell? ⟨p.block, p.off + 1, none⟩ = some (.int .i64 x.a) /\ w.cell? ⟨p.block, p.off + 2, none⟩ = some (.int .i64 x.b) /\ w.cell? ⟨p.block, p.off + 3, none⟩ = some (.int .i64 x.err) /\ w.cell? ⟨p.block, p.off + 4, none⟩ = some (.int .i64 x.out) /\ w.cell? ⟨p.block, p.off + 5, none⟩ = some (.int .i64 x.aux)
theorem said_off (p : Addr) (j : Nat) (h : j ≠ 0) : p.add j = ⟨p.block, p.off + j, none⟩ := by unfold Addr.add; rw [if_neg h]
theorem SaidVs.cells {w : World} {ad : Addr} {l : List SaidV} (h : SaidVs w (some ad) l) {i : Nat} {a : SaidV} (ha : l[i]? = some a) : SaidAt w (ad.add (i * 6)) a := by
 obtain ⟨ad', e, _, h2⟩ := h i a ha
 injection e with e
 subst e
 have h10 := h2 0 _ rfl
 have h11 := h2 1 _ rfl
 have h12 := h2 2 _ rfl
 have h13 := h2 3 _ rfl
 have h14 := h2 4 _ rfl
 have h15 := h2 5 _ rfl
 rw [<- add_of_add] at h10 h11 h12 h13 h14 h15
 rw [said_off _ _ (by omega)] at h11 h12 h13 h14 h15
 exact ⟨h10, h11, h12, h13, h14, h15⟩

section
variable {H : Type} {enc : TypeId × Value -> H} {w : World} {base : Nat} {sp : Nat -> Bool} {held : Bool}
theorem op26_cells {fuel : Nat} {cs : List Value} {x : DataW H × List MemPlace} (h : DataW.trod enc Tryd.prog w base sp held fuel 29 cs = some x) : ∃ a0 a1 a2 : Int, cs = [.int .i64 a0, .int .i64 a1, .int .i64 a2] /\ (-9223372036854775808 <= a0 /\ a0 <= 9223372036854775807) /\ (-9223372036854775808 <= a1 /\ a1 <= 9223372036854775807) /\ (-9223372036854775808 <= a2 /\ a2 <= 9223372036854775807) := by
 obtain ⟨xs, n, _, _, hl, hxl, hg⟩ := DataW.trod_struct Tryd.underlying29 h
 have hc : Tryd.prog.cellsOf 29 = 3 := by kernel_rfl
 have s0 : Tryd.prog.cellsOf 3 = 1 := by kernel_rfl
 have s1 : Tryd.prog.cellsOf 2 = 1 := by kernel_rfl
 rw [hc] at hl
 match cs, hl, xs, hxl with
 | [v0, v1, v2], _, [y0, y1, y2], _ =>
  have g0 := hg 0 _ rfl
  have g1 := hg 1 _ rfl
  have g2 := hg 2 _ rfl
  simp [s0, s1] at g0 g1 g2
  obtain ⟨a0, e0, _, w0⟩ := DataW.trod_int Tryd.underlying3 g0
  obtain ⟨a1, e1, _, w1⟩ := DataW.trod_int Tryd.underlying2 g1
  obtain ⟨a2, e2, _, w2⟩ := DataW.trod_int Tryd.underlying2 g2
  simp at e0 e1 e2
  subst e0 e1 e2
  exact ⟨a0, a1, a2, rfl, i64_bounds w0, i64_bounds w1, i64_bounds w2⟩
theorem res26_cells {fuel : Nat} {cs : List Value} {x : DataW H × List MemPlace} (h : DataW.trod enc Tryd.prog w base sp held fuel 32 cs = some x) : ∃ a0 a1 a2 : Int, cs = [.int .i64 a0, .int .i64 a1, .int .i64 a2] /\ (-9223372036854775808 <= a0 /\ a0 <= 9223372036854775807) /\ (-9223372036854775808 <= a1 /\ a1 <= 9223372036854775807) /\ (-9223372036854775808 <= a2 /\ a2 <= 9223372036854775807) := by
 obtain ⟨xs, n, _, _, hl, hxl, hg⟩ := DataW.trod_struct Tryd.underlying32 h
 have hc : Tryd.prog.cellsOf 32 = 3 := by kernel_rfl
 have s0 : Tryd.prog.cellsOf 30 = 1 := by kernel_rfl
 have s1 : Tryd.prog.cellsOf 2 = 1 := by kernel_rfl
 rw [hc] at hl
 match cs, hl, xs, hxl with
 | [v0, v1, v2], _, [y0, y1, y2], _ =>
  have g0 := hg 0 _ rfl
  have g1 := hg 1 _ rfl
  have g2 := hg 2 _ rfl
  simp [s0, s1] at g0 g1 g2
  obtain ⟨a0, e0, _, w0⟩ := DataW.trod_int Tryd.underlying30 g0
  obtain ⟨a1, e1, _, w1⟩ := DataW.trod_int Tryd.underlying2 g1
  obtain ⟨a2, e2, _, w2⟩ := DataW.trod_int Tryd.underlying2 g2
  simp at e0 e1 e2
  subst e0 e1 e2
  exact ⟨a0, a1, a2, rfl, i64_bounds w0, i64_bounds w1, i64_bounds w2⟩
theorem said_cells {fuel : Nat} {cs : List Value} {x : DataW H × List MemPlace} (h : DataW.trod enc Tryd.prog w base sp held fuel 34 cs = some x) : ∃ a : SaidV, a.Ok /\ cs = a.cells := by
 obtain ⟨xs, n, _, _, hl, hxl, hf⟩ := DataW.trod_struct Tryd.underlying34 h
 have hc : Tryd.prog.cellsOf 34 = 6 := by kernel_rfl
 have s0 : Tryd.prog.cellsOf 29 = 3 := by kernel_rfl
 have s1 : Tryd.prog.cellsOf 32 = 3 := by kernel_rfl
 rw [hc] at hl
 match cs, hl, xs, hxl with
 | [v0, v1, v2, v3, v4, v5], _, [y0, y1], _ =>
  have g0 := hf 0 _ rfl
  have g1 := hf 1 _ rfl
  simp [s0, s1] at g0 g1
  obtain ⟨a0, a1, a2, e0, k0, k1, k2⟩ := op26_cells g0
  obtain ⟨a3, a4, a5, e1, k3, k4, k5⟩ := res26_cells g1
  simp at e0 e1
  obtain ⟨rfl, rfl, rfl⟩ := e0
  obtain ⟨rfl, rfl, rfl⟩ := e1
  exact ⟨⟨a0, a1, a2, a3, a4, a5⟩, ⟨k0, k1, k2, k3, k4, k5⟩, rfl⟩
theorem open_saids {r : Reach} {b0 : Nat} {v : Value} {d : DataW H} {p : List MemPlace} (hv : Value.okWide Tryd.prog w r b0 49 v) (h : DataW.Trod enc Tryd.prog w base sp held 49 v d p) (hlt : ∀ x ∈ p, x.block < w.heap.size) :
  ∃ (A : Option Addr) (c : Nat) (l : List SaidV), v = .slice A l.length c /\ l.length <= c /\ c <= maxLen /\ (∀ a ∈ l, a.Ok) /\ SaidVs w A l := by
 obtain ⟨fuel, hf⟩ := h
 have hvc : v.cells = #[v] := by
  obtain ⟨A, n, c, rfl⟩ := okWide_slice Tryd.underlying49 hv
  rfl
 rw [hvc] at hf
 have hc : Tryd.prog.cellsOf 34 = 6 := by kernel_rfl
 rcases Go.Deep.open_slice Tryd.underlying49 hf with ⟨hcs, _⟩ | ⟨a, len, cap, m, n, D, Pl, hcs, hb, hl, hm, hmm, hx, hi⟩
 ·injection hcs with hcs
  subst hcs
  exact ⟨none, 0, [], rfl, Nat.le_refl _, Nat.zero_le _, by simp, fun i a h => by simp at h⟩
 ·injection hcs with hcs
  subst hcs
  have hlm : len <= m := by rw [hmm]; split <;> omega
  have each : ∀ i, i < len -> ∃ q : SaidV, q.Ok /\ ∀ j u, q.cells[j]? = some u -> w.cell? (a.add (i * 6 + j)) = some u := by
   intro i hil
   obtain ⟨cs', h1, h2⟩ := hi i (by omega)
   obtain ⟨q, hq, rfl⟩ := said_cells h2
   rw [hc] at h1
   obtain ⟨_, hlen, hcell⟩ := World.cells?_some h1
   refine ⟨q, hq, fun j u hu => ?_⟩
   have hj : j < 6 := by
    rcases Nat.lt_or_ge j 6 with h3 | h3
    ·exact h3
    ·rw [List.getElem?_eq_none (by unfold SaidV.cells; simp; omega)] at hu; cases hu
   have h4 := hcell j (by omega)
   rw [add_of_add] at h4
   rw [h4, hu]
  obtain ⟨q, hq⟩ := Go.Deep.choose_lt (α := SaidV) (p := fun i q => q.Ok /\ ∀ j u, q.cells[j]? = some u -> w.cell? (a.add (i * 6 + j)) = some u) each
  have hln : ((List.range len).map q).length = len := by simp
  refine ⟨some a, cap, (List.range len).map q, by rw [hln], by rw [hln]; exact hl, hm, ?_, ?_⟩
  ·intro y hy
   obtain ⟨i, hi1, rfl⟩ := List.mem_map.1 hy
   exact (hq i (List.mem_range.1 hi1)).1
  ·intro i y hy
   have hil : i < len := by
    rcases Nat.lt_or_ge i len with h3 | h3
    ·exact h3
    ·rw [List.getElem?_eq_none (by simp; omega)] at hy; cases hy
   rw [List.getElem?_map, List.getElem?_range hil] at hy
   injection hy with hy
   subst hy
   refine ⟨a, rfl, ?_, (hq i hil).2⟩
   have hp : (p : List MemPlace) = MemPlace.row a (m * 6) ++ (List.range m).flatMap Pl := by
    have := congrArg Prod.snd hx
    rw [hc] at this
    exact this
   have h0 : (MemPlace.row a (m * 6))[0]'(by simp [MemPlace.row]; omega) ∈ p := by
    rw [hp]
    exact List.mem_append_left _ (List.getElem_mem _)
   have h1 := hlt _ h0
   simpa [MemPlace.row, MemPlace.block] using h1
end
end
end Go.Proofs.YtedakmhffjhfnaaDoor

namespace Go.Proofs.YtedakmhffjhfnaaDoor
open Go.ChangeShapes Go.WideShapes Go.ChangeAt Go.RowKit Go.Shelf
set_option linter.unusedVariables false
set_option linter.unusedSimpArgs false
section
section
variable {w : World} {g : Nat} {t : TypeId} {c0 c1 c2 c3 c4 c5 c6 c7 c8 : Value}
theorem Held.nine (h : Held w g t #[c0, c1, c2, c3, c4, c5, c6, c7, c8]) : w.cell? ⟨g, 0, none⟩ = some c0 /\ w.cell? ⟨g, 1, none⟩ = some c1 /\ w.cell? ⟨g, 2, none⟩ = some c2 /\ w.cell? ⟨g, 3, none⟩ = some c3 /\ w.cell? ⟨g, 4, none⟩ = some c4 /\ w.cell? ⟨g, 5, none⟩ = some c5 /\ w.cell? ⟨g, 6, none⟩ = some c6 /\ w.cell? ⟨g, 7, none⟩ = some c7 /\ w.cell? ⟨g, 8, none⟩ = some c8 := ⟨h.cell 0, h.cell 1, h.cell 2, h.cell 3, h.cell 4, h.cell 5, h.cell 6, h.cell 7, h.cell 8⟩
end
end
section
theorem eqStep (d : Nat) (xs ys : Array Value) (i : Nat) (a b : Int) (is : List Nat) (w : World) (hx : xs[i]? = some (.int .i64 a)) (hy : ys[i]? = some (.int .i64 b)) :
  (Op.eqItems (d + 1) 2 1 xs ys (i :: is)).run Tryd.prog w = if (a == b) = true then (Op.eqItems (d + 1) 2 1 xs ys is).run Tryd.prog w else .ok false w := by
 have p1 := run_part_plain (P := Tryd.prog) w (e := 2) (by kernel_rfl) (off := i * 1) (by rw [Nat.mul_one]; exact hx)
 have p2 := run_part_plain (P := Tryd.prog) w (e := 2) (by kernel_rfl) (off := i * 1) (by rw [Nat.mul_one]; exact hy)
 have p3 := run_equalIn_int (P := Tryd.prog) w d 2 .i64 .i64 a b Tryd.underlying2
 simp only [Op.eqItems, Sem.run_bind, p1, p2, p3, Result.andThen_ok]
 cases a == b <;> simp
theorem eq8_run (r0 r1 r2 r3 r4 r5 r6 r7 p0 p1 p2 p3 p4 p5 p6 p7 : Int) (w : World) :
  (Op.equalIn 10000 25 (.agg #[.int .i64 r0, .int .i64 r1, .int .i64 r2, .int .i64 r3, .int .i64 r4, .int .i64 r5, .int .i64 r6, .int .i64 r7]) (.agg #[.int .i64 p0, .int .i64 p1, .int .i64 p2, .int .i64 p3, .int .i64 p4, .int .i64 p5, .int .i64 p6, .int .i64 p7])).run Tryd.prog w = .ok (r0 == p0 && (r1 == p1 && (r2 == p2 && (r3 == p3 && (r4 == p4 && (r5 == p5 && (r6 == p6 && (r7 == p7)))))))) w := by
 obtain ⟨i, hi⟩ : ∃ i, Tryd.prog.info? 2 = some i := Option.isSome_iff_exists.1 (by kernel_rfl)
 have hc : Tryd.prog.cellsOf 2 = 1 := by kernel_rfl
 show (Op.equalIn (9999 + 1) _ _ _).run _ _ = _
 rw [run_equalIn_array w 9999 _ _ Tryd.underlying25 hi, hc]
 show (Op.eqItems (9998 + 1) 2 1 _ _ [0, 1, 2, 3, 4, 5, 6, 7]).run _ _ = _
 rw [eqStep 9998 _ _ 0 r0 p0 _ w rfl rfl]
 rw [eqStep 9998 _ _ 1 r1 p1 _ w rfl rfl]
 rw [eqStep 9998 _ _ 2 r2 p2 _ w rfl rfl]
 rw [eqStep 9998 _ _ 3 r3 p3 _ w rfl rfl]
 rw [eqStep 9998 _ _ 4 r4 p4 _ w rfl rfl]
 rw [eqStep 9998 _ _ 5 r5 p5 _ w rfl rfl]
 rw [eqStep 9998 _ _ 6 r6 p6 _ w rfl rfl]
 rw [eqStep 9998 _ _ 7 r7 p7 _ w rfl rfl]
 have hn : ∀ xs ys : Array Value, (Op.eqItems (9998 + 1) 2 1 xs ys []).run Tryd.prog w = .ok true w := fun xs ys => by simp [Op.eqItems]
 rw [hn]
 generalize (r0 == p0) = e0
 generalize (r1 == p1) = e1
 generalize (r2 == p2) = e2
 generalize (r3 == p3) = e3
 generalize (r4 == p4) = e4
 generalize (r5 == p5) = e5
 generalize (r6 == p6) = e6
 generalize (r7 == p7) = e7
 cases e0
 ·rfl
 cases e1
 ·rfl
 cases e2
 ·rfl
 cases e3
 ·rfl
 cases e4
 ·rfl
 cases e5
 ·rfl
 cases e6
 ·rfl
 cases e7
 ·rfl
 ·rfl

theorem eq8_iff (r0 r1 r2 r3 r4 r5 r6 r7 p0 p1 p2 p3 p4 p5 p6 p7 : Int) : (r0 == p0 && (r1 == p1 && (r2 == p2 && (r3 == p3 && (r4 == p4 && (r5 == p5 && (r6 == p6 && (r7 == p7)))))))) = true ↔ [r0, r1, r2, r3, r4, r5, r6, r7] = [p0, p1, p2, p3, p4, p5, p6, p7] := by simp
end
end Go.Proofs.YtedakmhffjhfnaaDoor
