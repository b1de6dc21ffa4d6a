/-
  The program's automaton: the error that an operation answers whatever room there is (model.refusal). Written by model/gen_prog2.py.
-/
import Derived.Test.YtedakmhffjhfnaaDoorC03
import Derived.Test.YtedakmhffjhfnaaDoorCKit
import Derived.Below
import Derived.WalkKit
import Derived.ProofKit
import Derived.BigQuiet
import Derived.Outline
import Derived.Deep.QuietTactic
import Derived.Deep.RegionHeld3
import Derived.IntWalk
import Derived.KernelRfl
import Derived.Test.YtedakmhffjhfnaaDoorC01
namespace Go.Proofs.YtedakmhffjhfnaaDoor
open Go.ChangeShapes Go.WideShapes Go.ChangeAt Go.RowKit Go.Maps
set_option linter.unusedVariables false
set_option linter.unusedSimpArgs false
set_option maxRecDepth 100000
section
def refI (t p s : Int) (L : List (Int × Int)) (R : Nat -> Int) (k a b : Int) : Int :=
 if opB k a b = false then 1
 else if k = 1 then nSize t p s a
 else if k = 2 then orI (nBlock L a) (nName R a)
 else if k = 3 then orI (nBlock L a) (nSize t p s b)
 else if k = 4 then orI (nRoot a) (nSize t p s b)
 else if k = 5 then (if b = 0 then nRoot a else orI (nRoot a) (nBlock L b))
 else if k = 6 then nRoot a
 else if k = 7 then nBlock L a
 else if k = 9 then nClass a
 else 0
section
variable {w : World} {g : Nat} {F : Nat -> Prop} {t p s : Int} {L : List (Int × Int)} {R : Nat -> Int}

set_option maxHeartbeats 1600000 in
theorem ref_bad (h : IsMod w g F t p s L R) (k a b : Int) (hk : -9223372036854775808 <= k /\ k <= 9223372036854775807) (ha : -9223372036854775808 <= a /\ a <= 9223372036854775807) (hb : -9223372036854775808 <= b /\ b <= 9223372036854775807) (hT : SlotsLaid w) (ho : opB k a b = false) : Calls Tryd.prog 27 #[.pointer (some ⟨g, 0, none⟩), .agg #[.int .i64 k, .int .i64 a, .int .i64 b]] w fun e w' => e = .returned (.int .i64 1) /\ Below w.heap.size w w' := by
 have HX := hidp (Held.new w 29 #[.int .i64 k, .int .i64 a, .int .i64 b])
 have HB := hidp (Bnew (B0 w) (.cells #[.int .i64 k, .int .i64 a, .int .i64 b] 29))
 have HM := hidp (h.stay HB.out)
 have HSL := hidp hT
 have HO := hidp ho
 clear ho
 clear h hT
 obtain ⟨x0, x1, x2⟩ := HX.out.three
 go_enter Tryd.func27, Tryd.ntmps27
 go_wp2_with fail
 refine (opRight_c k a b hk ha hb _).mono ?_; rintro e w1 ⟨rfl, hb⟩; rw [HO.out]
 clear x0 x1 x2
 replace HX := hidp (HX.out.keep hb)
 replace HM := hidp (HM.out.stay hb)
 replace HB := hidp (Bgo HB.out hb)
 clear hb
 obtain ⟨x0, x1, x2⟩ := HX.out.three
 go_wp2_with fail
 go_ret
 exact ⟨rfl, HB.out⟩

set_option maxHeartbeats 1600000 in
theorem ref_1 (h : IsMod w g F t p s L R) (a b : Int) (ha : -9223372036854775808 <= a /\ a <= 9223372036854775807) (hb : -9223372036854775808 <= b /\ b <= 9223372036854775807) (hT : SlotsLaid w) (ho : opB 1 a b = true) (v : Int) (hv : nSize t p s a = v) : Calls Tryd.prog 27 #[.pointer (some ⟨g, 0, none⟩), .agg #[.int .i64 1, .int .i64 a, .int .i64 b]] w fun e w' => e = .returned (.int .i64 v) /\ Below w.heap.size w w' := by
 have HX := hidp (Held.new w 29 #[.int .i64 1, .int .i64 a, .int .i64 b])
 have HB := hidp (Bnew (B0 w) (.cells #[.int .i64 1, .int .i64 a, .int .i64 b] 29))
 have HM := hidp (h.stay HB.out)
 have HSL := hidp hT
 have HO := hidp ho
 clear ho
 have HV := hidp hv
 clear hv
 have hb0 := hb
 clear hb
 clear h hT
 obtain ⟨x0, x1, x2⟩ := HX.out.three
 go_enter Tryd.func27, Tryd.ntmps27
 go_wp2_with fail
 refine (opRight_c 1 a b ⟨by omega, by omega⟩ ha hb0 _).mono ?_; rintro e w1 ⟨rfl, hb⟩; rw [HO.out]
 clear x0 x1 x2
 replace HX := hidp (HX.out.keep hb)
 replace HM := hidp (HM.out.stay hb)
 replace HB := hidp (Bgo HB.out hb)
 clear hb
 obtain ⟨x0, x1, x2⟩ := HX.out.three
 go_wp2_with fail
 refine (needsSize_c HM.out a ha (HSL.out.below HB.out)).mono ?_; rintro e w1 ⟨rfl, hb⟩; rw [HV.out]
 clear x0 x1 x2
 replace HX := hidp (HX.out.keep hb)
 replace HM := hidp (HM.out.stay hb)
 replace HB := hidp (Bgo HB.out hb)
 clear hb
 obtain ⟨x0, x1, x2⟩ := HX.out.three
 go_wp2_with fail
 go_ret
 exact ⟨rfl, HB.out⟩

set_option maxHeartbeats 1600000 in
theorem ref_6 (h : IsMod w g F t p s L R) (a b : Int) (ha : -9223372036854775808 <= a /\ a <= 9223372036854775807) (hb : -9223372036854775808 <= b /\ b <= 9223372036854775807) (hT : SlotsLaid w) (ho : opB 6 a b = true) (v : Int) (hv : nRoot a = v) : Calls Tryd.prog 27 #[.pointer (some ⟨g, 0, none⟩), .agg #[.int .i64 6, .int .i64 a, .int .i64 b]] w fun e w' => e = .returned (.int .i64 v) /\ Below w.heap.size w w' := by
 have HX := hidp (Held.new w 29 #[.int .i64 6, .int .i64 a, .int .i64 b])
 have HB := hidp (Bnew (B0 w) (.cells #[.int .i64 6, .int .i64 a, .int .i64 b] 29))
 have HM := hidp (h.stay HB.out)
 have HSL := hidp hT
 have HO := hidp ho
 clear ho
 have HV := hidp hv
 clear hv
 have hb0 := hb
 clear hb
 clear h hT
 obtain ⟨x0, x1, x2⟩ := HX.out.three
 go_enter Tryd.func27, Tryd.ntmps27
 go_wp2_with fail
 refine (opRight_c 6 a b ⟨by omega, by omega⟩ ha hb0 _).mono ?_; rintro e w1 ⟨rfl, hb⟩; rw [HO.out]
 clear x0 x1 x2
 replace HX := hidp (HX.out.keep hb)
 replace HM := hidp (HM.out.stay hb)
 replace HB := hidp (Bgo HB.out hb)
 clear hb
 obtain ⟨x0, x1, x2⟩ := HX.out.three
 go_wp2_with fail
 refine (needsRoot_c a _).mono ?_; rintro e w1 ⟨rfl, hb⟩; rw [HV.out]
 clear x0 x1 x2
 replace HX := hidp (HX.out.keep hb)
 replace HM := hidp (HM.out.stay hb)
 replace HB := hidp (Bgo HB.out hb)
 clear hb
 obtain ⟨x0, x1, x2⟩ := HX.out.three
 go_wp2_with fail
 go_ret
 exact ⟨rfl, HB.out⟩

set_option maxHeartbeats 1600000 in
theorem ref_7 (h : IsMod w g F t p s L R) (a b : Int) (ha : -9223372036854775808 <= a /\ a <= 9223372036854775807) (hb : -9223372036854775808 <= b /\ b <= 9223372036854775807) (hT : SlotsLaid w) (ho : opB 7 a b = true) (v : Int) (hv : nBlock L a = v) : Calls Tryd.prog 27 #[.pointer (some ⟨g, 0, none⟩), .agg #[.int .i64 7, .int .i64 a, .int .i64 b]] w fun e w' => e = .returned (.int .i64 v) /\ Below w.heap.size w w' := by
 have HX := hidp (Held.new w 29 #[.int .i64 7, .int .i64 a, .int .i64 b])
 have HB := hidp (Bnew (B0 w) (.cells #[.int .i64 7, .int .i64 a, .int .i64 b] 29))
 have HM := hidp (h.stay HB.out)
 have HSL := hidp hT
 have HO := hidp ho
 clear ho
 have HV := hidp hv
 clear hv
 have hb0 := hb
 clear hb
 clear h hT
 obtain ⟨x0, x1, x2⟩ := HX.out.three
 go_enter Tryd.func27, Tryd.ntmps27
 go_wp2_with fail
 refine (opRight_c 7 a b ⟨by omega, by omega⟩ ha hb0 _).mono ?_; rintro e w1 ⟨rfl, hb⟩; rw [HO.out]
 clear x0 x1 x2
 replace HX := hidp (HX.out.keep hb)
 replace HM := hidp (HM.out.stay hb)
 replace HB := hidp (Bgo HB.out hb)
 clear hb
 obtain ⟨x0, x1, x2⟩ := HX.out.three
 go_wp2_with fail
 refine (needsBlock_c HM.out a).mono ?_; rintro e w1 ⟨rfl, hb⟩; rw [HV.out]
 clear x0 x1 x2
 replace HX := hidp (HX.out.keep hb)
 replace HM := hidp (HM.out.stay hb)
 replace HB := hidp (Bgo HB.out hb)
 clear hb
 obtain ⟨x0, x1, x2⟩ := HX.out.three
 go_wp2_with fail
 go_ret
 exact ⟨rfl, HB.out⟩

set_option maxHeartbeats 1600000 in
theorem ref_9 (h : IsMod w g F t p s L R) (a b : Int) (ha : -9223372036854775808 <= a /\ a <= 9223372036854775807) (hb : -9223372036854775808 <= b /\ b <= 9223372036854775807) (hT : SlotsLaid w) (ho : opB 9 a b = true) (v : Int) (hv : nClass a = v) : Calls Tryd.prog 27 #[.pointer (some ⟨g, 0, none⟩), .agg #[.int .i64 9, .int .i64 a, .int .i64 b]] w fun e w' => e = .returned (.int .i64 v) /\ Below w.heap.size w w' := by
 have HX := hidp (Held.new w 29 #[.int .i64 9, .int .i64 a, .int .i64 b])
 have HB := hidp (Bnew (B0 w) (.cells #[.int .i64 9, .int .i64 a, .int .i64 b] 29))
 have HM := hidp (h.stay HB.out)
 have HSL := hidp hT
 have HO := hidp ho
 clear ho
 have HV := hidp hv
 clear hv
 have hb0 := hb
 clear hb
 clear h hT
 obtain ⟨x0, x1, x2⟩ := HX.out.three
 go_enter Tryd.func27, Tryd.ntmps27
 go_wp2_with fail
 refine (opRight_c 9 a b ⟨by omega, by omega⟩ ha hb0 _).mono ?_; rintro e w1 ⟨rfl, hb⟩; rw [HO.out]
 clear x0 x1 x2
 replace HX := hidp (HX.out.keep hb)
 replace HM := hidp (HM.out.stay hb)
 replace HB := hidp (Bgo HB.out hb)
 clear hb
 obtain ⟨x0, x1, x2⟩ := HX.out.three
 go_wp2_with fail
 refine (needsClass_c a _).mono ?_; rintro e w1 ⟨rfl, hb⟩; rw [HV.out]
 clear x0 x1 x2
 replace HX := hidp (HX.out.keep hb)
 replace HM := hidp (HM.out.stay hb)
 replace HB := hidp (Bgo HB.out hb)
 clear hb
 obtain ⟨x0, x1, x2⟩ := HX.out.three
 go_wp2_with fail
 go_ret
 exact ⟨rfl, HB.out⟩

set_option maxHeartbeats 1600000 in
theorem ref_8 (h : IsMod w g F t p s L R) (a b : Int) (ha : -9223372036854775808 <= a /\ a <= 9223372036854775807) (hb : -9223372036854775808 <= b /\ b <= 9223372036854775807) (hT : SlotsLaid w) (ho : opB 8 a b = true)  : Calls Tryd.prog 27 #[.pointer (some ⟨g, 0, none⟩), .agg #[.int .i64 8, .int .i64 a, .int .i64 b]] w fun e w' => e = .returned (.int .i64 0) /\ Below w.heap.size w w' := by
 have HX := hidp (Held.new w 29 #[.int .i64 8, .int .i64 a, .int .i64 b])
 have HB := hidp (Bnew (B0 w) (.cells #[.int .i64 8, .int .i64 a, .int .i64 b] 29))
 have HM := hidp (h.stay HB.out)
 have HSL := hidp hT
 have HO := hidp ho
 clear ho
 have hb0 := hb
 clear hb
 clear h hT
 obtain ⟨x0, x1, x2⟩ := HX.out.three
 go_enter Tryd.func27, Tryd.ntmps27
 go_wp2_with fail
 refine (opRight_c 8 a b ⟨by omega, by omega⟩ ha hb0 _).mono ?_; rintro e w1 ⟨rfl, hb⟩; rw [HO.out]
 clear x0 x1 x2
 replace HX := hidp (HX.out.keep hb)
 replace HM := hidp (HM.out.stay hb)
 replace HB := hidp (Bgo HB.out hb)
 clear hb
 obtain ⟨x0, x1, x2⟩ := HX.out.three
 go_wp2_with fail
 go_ret
 exact ⟨rfl, HB.out⟩

set_option maxHeartbeats 1600000 in
theorem ref_2 (h : IsMod w g F t p s L R) (a b : Int) (ha : -9223372036854775808 <= a /\ a <= 9223372036854775807) (hb : -9223372036854775808 <= b /\ b <= 9223372036854775807) (hT : SlotsLaid w) (ho : opB 2 a b = true) (u v x : Int) (hv : nBlock L a = u /\ nName R a = v /\ orI u v = x) : Calls Tryd.prog 27 #[.pointer (some ⟨g, 0, none⟩), .agg #[.int .i64 2, .int .i64 a, .int .i64 b]] w fun e w' => e = .returned (.int .i64 x) /\ Below w.heap.size w w' := by
 have HX := hidp (Held.new w 29 #[.int .i64 2, .int .i64 a, .int .i64 b])
 have HB := hidp (Bnew (B0 w) (.cells #[.int .i64 2, .int .i64 a, .int .i64 b] 29))
 have HM := hidp (h.stay HB.out)
 have HSL := hidp hT
 have HO := hidp ho
 clear ho
 have HV := hidp hv
 clear hv
 have hb0 := hb
 clear hb
 clear h hT
 obtain ⟨x0, x1, x2⟩ := HX.out.three
 go_enter Tryd.func27, Tryd.ntmps27
 go_wp2_with fail
 refine (opRight_c 2 a b ⟨by omega, by omega⟩ ha hb0 _).mono ?_; rintro e w1 ⟨rfl, hb⟩; rw [HO.out]
 clear x0 x1 x2
 replace HX := hidp (HX.out.keep hb)
 replace HM := hidp (HM.out.stay hb)
 replace HB := hidp (Bgo HB.out hb)
 clear hb
 obtain ⟨x0, x1, x2⟩ := HX.out.three
 go_wp2_with fail
 clear x0 x1 x2
 replace HX := hidp (HX.out.keep (Bdrew (B0 _)))
 replace HM := hidp (HM.out.stay (Bdrew (B0 _)))
 replace HB := hidp (Bgo HB.out (Bdrew (B0 _)))
 refine wp_region_held_drew (S := (fun w' => w'.cell? ⟨w.heap.size, 0, none⟩ = some (.int .i64 2) /\ w'.cell? ⟨w.heap.size, 1, none⟩ = some (.int .i64 a) /\ w'.cell? ⟨w.heap.size, 2, none⟩ = some (.int .i64 b))) (by kernel_rfl) ?_ (fun hHeld => ?_)
 ·(try dsimp only)
  first | exact HX.out.three | exact hHeld
 refine tkz 0 ?_
 refine tkz 1 ?_
 refine tkz 2 ?_
 refine tkz 4 ?_
 refine tkz 5 ?_
 refine tkz 6 ?_
 refine rdz 3 fun K hK => ?_
 go_simp
 (refine (needsBlock_c HM.out a).mono ?_; rintro e w1 ⟨rfl, hb⟩; rw [HV.out.1]; replace HX := hidp (HX.out.keep hb); replace HM := hidp (HM.out.stay hb); replace HB := hidp (Bgo HB.out hb); clear hb)
 refine hK.out _ _ ?_ (fun hHeld => ?_)
 ·(try dsimp only)
  first | exact HX.out.three | exact hHeld
 clear hK K
 (try simp only [Act.put, gA, gB, gC, sA, sB, sC])
 refine rdz 7 fun K hK => ?_
 go_simp
 (refine (needsNoName_c HM.out a).mono ?_; rintro e w2 ⟨rfl, hb⟩; rw [HV.out.2.1]; replace HX := hidp (HX.out.keep hb); replace HM := hidp (HM.out.stay hb); replace HB := hidp (Bgo HB.out hb); clear hb)
 refine hK.out _ _ ?_ (fun hHeld => ?_)
 ·(try dsimp only)
  first | exact HX.out.three | exact hHeld
 clear hK K
 (try simp only [Act.put, gA, gB, gC, sA, sB, sC])
 refine rdz 8 fun K hK => ?_
 go_simp
 (have HQ := hidp (Held.new w2 30 #[.int .i64 u, .int .i64 v]); replace HX := hidp (HX.out.alloc (.cells #[.int .i64 u, .int .i64 v] 30)); replace HM := hidp (HM.out.stay (Bnew (B0 w2) (.cells #[.int .i64 u, .int .i64 v] 30))); replace HB := hidp (Bnew HB.out (.cells #[.int .i64 u, .int .i64 v] 30)))
 refine hK.out _ _ ?_ (fun hHeld => ?_)
 ·(try dsimp only)
  first | exact HX.out.three | exact hHeld
 clear hK K
 (try simp only [Act.put, gA, gB, gC, sA, sB, sC])
 refine rdz 9 fun K hK => ?_
 go_simp
 (refine (cmpOr_c _ u v _ HQ.out).mono ?_; rintro e w3 ⟨rfl, hb⟩; rw [HV.out.2.2]; replace HX := hidp (HX.out.keep hb); replace HM := hidp (HM.out.stay hb); replace HB := hidp (Bgo HB.out hb); clear hb)
 refine hK.out _ _ ?_ (fun hHeld => ?_)
 ·(try dsimp only)
  first | exact HX.out.three | exact hHeld
 clear hK K
 (try simp only [Act.put, gA, gB, gC, sA, sB, sC])
 refine tkz 10 ?_
 refine dnz ?_
 obtain ⟨x0, x1, x2⟩ := HX.out.three
 go_wp2_with fail
 go_ret
 exact ⟨rfl, HB.out⟩

set_option maxHeartbeats 1600000 in
theorem ref_3 (h : IsMod w g F t p s L R) (a b : Int) (ha : -9223372036854775808 <= a /\ a <= 9223372036854775807) (hb : -9223372036854775808 <= b /\ b <= 9223372036854775807) (hT : SlotsLaid w) (ho : opB 3 a b = true) (u v x : Int) (hv : nBlock L a = u /\ nSize t p s b = v /\ orI u v = x) : Calls Tryd.prog 27 #[.pointer (some ⟨g, 0, none⟩), .agg #[.int .i64 3, .int .i64 a, .int .i64 b]] w fun e w' => e = .returned (.int .i64 x) /\ Below w.heap.size w w' := by
 have HX := hidp (Held.new w 29 #[.int .i64 3, .int .i64 a, .int .i64 b])
 have HB := hidp (Bnew (B0 w) (.cells #[.int .i64 3, .int .i64 a, .int .i64 b] 29))
 have HM := hidp (h.stay HB.out)
 have HSL := hidp hT
 have HO := hidp ho
 clear ho
 have HV := hidp hv
 clear hv
 have hb0 := hb
 clear hb
 clear h hT
 obtain ⟨x0, x1, x2⟩ := HX.out.three
 go_enter Tryd.func27, Tryd.ntmps27
 go_wp2_with fail
 refine (opRight_c 3 a b ⟨by omega, by omega⟩ ha hb0 _).mono ?_; rintro e w1 ⟨rfl, hb⟩; rw [HO.out]
 clear x0 x1 x2
 replace HX := hidp (HX.out.keep hb)
 replace HM := hidp (HM.out.stay hb)
 replace HB := hidp (Bgo HB.out hb)
 clear hb
 obtain ⟨x0, x1, x2⟩ := HX.out.three
 go_wp2_with fail
 clear x0 x1 x2
 replace HX := hidp (HX.out.keep (Bdrew (B0 _)))
 replace HM := hidp (HM.out.stay (Bdrew (B0 _)))
 replace HB := hidp (Bgo HB.out (Bdrew (B0 _)))
 refine wp_region_held_drew (S := (fun w' => w'.cell? ⟨w.heap.size, 0, none⟩ = some (.int .i64 3) /\ w'.cell? ⟨w.heap.size, 1, none⟩ = some (.int .i64 a) /\ w'.cell? ⟨w.heap.size, 2, none⟩ = some (.int .i64 b))) (by kernel_rfl) ?_ (fun hHeld => ?_)
 ·(try dsimp only)
  first | exact HX.out.three | exact hHeld
 refine tkz 0 ?_
 refine tkz 1 ?_
 refine tkz 2 ?_
 refine tkz 4 ?_
 refine tkz 5 ?_
 refine tkz 6 ?_
 refine rdz 3 fun K hK => ?_
 go_simp
 (refine (needsBlock_c HM.out a).mono ?_; rintro e w1 ⟨rfl, hb⟩; rw [HV.out.1]; replace HX := hidp (HX.out.keep hb); replace HM := hidp (HM.out.stay hb); replace HB := hidp (Bgo HB.out hb); clear hb)
 refine hK.out _ _ ?_ (fun hHeld => ?_)
 ·(try dsimp only)
  first | exact HX.out.three | exact hHeld
 clear hK K
 (try simp only [Act.put, gA, gB, gC, sA, sB, sC])
 refine rdz 7 fun K hK => ?_
 go_simp
 (refine (needsSize_c HM.out b hb0 (HSL.out.below HB.out)).mono ?_; rintro e w2 ⟨rfl, hb⟩; rw [HV.out.2.1]; replace HX := hidp (HX.out.keep hb); replace HM := hidp (HM.out.stay hb); replace HB := hidp (Bgo HB.out hb); clear hb)
 refine hK.out _ _ ?_ (fun hHeld => ?_)
 ·(try dsimp only)
  first | exact HX.out.three | exact hHeld
 clear hK K
 (try simp only [Act.put, gA, gB, gC, sA, sB, sC])
 refine rdz 8 fun K hK => ?_
 go_simp
 (have HQ := hidp (Held.new w2 30 #[.int .i64 u, .int .i64 v]); replace HX := hidp (HX.out.alloc (.cells #[.int .i64 u, .int .i64 v] 30)); replace HM := hidp (HM.out.stay (Bnew (B0 w2) (.cells #[.int .i64 u, .int .i64 v] 30))); replace HB := hidp (Bnew HB.out (.cells #[.int .i64 u, .int .i64 v] 30)))
 refine hK.out _ _ ?_ (fun hHeld => ?_)
 ·(try dsimp only)
  first | exact HX.out.three | exact hHeld
 clear hK K
 (try simp only [Act.put, gA, gB, gC, sA, sB, sC])
 refine rdz 9 fun K hK => ?_
 go_simp
 (refine (cmpOr_c _ u v _ HQ.out).mono ?_; rintro e w3 ⟨rfl, hb⟩; rw [HV.out.2.2]; replace HX := hidp (HX.out.keep hb); replace HM := hidp (HM.out.stay hb); replace HB := hidp (Bgo HB.out hb); clear hb)
 refine hK.out _ _ ?_ (fun hHeld => ?_)
 ·(try dsimp only)
  first | exact HX.out.three | exact hHeld
 clear hK K
 (try simp only [Act.put, gA, gB, gC, sA, sB, sC])
 refine tkz 10 ?_
 refine dnz ?_
 obtain ⟨x0, x1, x2⟩ := HX.out.three
 go_wp2_with fail
 go_ret
 exact ⟨rfl, HB.out⟩

set_option maxHeartbeats 1600000 in
theorem ref_4 (h : IsMod w g F t p s L R) (a b : Int) (ha : -9223372036854775808 <= a /\ a <= 9223372036854775807) (hb : -9223372036854775808 <= b /\ b <= 9223372036854775807) (hT : SlotsLaid w) (ho : opB 4 a b = true) (u v x : Int) (hv : nRoot a = u /\ nSize t p s b = v /\ orI u v = x) : Calls Tryd.prog 27 #[.pointer (some ⟨g, 0, none⟩), .agg #[.int .i64 4, .int .i64 a, .int .i64 b]] w fun e w' => e = .returned (.int .i64 x) /\ Below w.heap.size w w' := by
 have HX := hidp (Held.new w 29 #[.int .i64 4, .int .i64 a, .int .i64 b])
 have HB := hidp (Bnew (B0 w) (.cells #[.int .i64 4, .int .i64 a, .int .i64 b] 29))
 have HM := hidp (h.stay HB.out)
 have HSL := hidp hT
 have HO := hidp ho
 clear ho
 have HV := hidp hv
 clear hv
 have hb0 := hb
 clear hb
 clear h hT
 obtain ⟨x0, x1, x2⟩ := HX.out.three
 go_enter Tryd.func27, Tryd.ntmps27
 go_wp2_with fail
 refine (opRight_c 4 a b ⟨by omega, by omega⟩ ha hb0 _).mono ?_; rintro e w1 ⟨rfl, hb⟩; rw [HO.out]
 clear x0 x1 x2
 replace HX := hidp (HX.out.keep hb)
 replace HM := hidp (HM.out.stay hb)
 replace HB := hidp (Bgo HB.out hb)
 clear hb
 obtain ⟨x0, x1, x2⟩ := HX.out.three
 go_wp2_with fail
 clear x0 x1 x2
 replace HX := hidp (HX.out.keep (Bdrew (B0 _)))
 replace HM := hidp (HM.out.stay (Bdrew (B0 _)))
 replace HB := hidp (Bgo HB.out (Bdrew (B0 _)))
 refine wp_region_held_drew (S := (fun w' => w'.cell? ⟨w.heap.size, 0, none⟩ = some (.int .i64 4) /\ w'.cell? ⟨w.heap.size, 1, none⟩ = some (.int .i64 a) /\ w'.cell? ⟨w.heap.size, 2, none⟩ = some (.int .i64 b))) (by kernel_rfl) ?_ (fun hHeld => ?_)
 ·(try dsimp only)
  first | exact HX.out.three | exact hHeld
 refine tkz 0 ?_
 refine tkz 1 ?_
 refine tkz 3 ?_
 refine tkz 4 ?_
 refine tkz 5 ?_
 refine rdz 2 fun K hK => ?_
 go_simp
 (refine (needsRoot_c a _).mono ?_; rintro e w1 ⟨rfl, hb⟩; rw [HV.out.1]; replace HX := hidp (HX.out.keep hb); replace HM := hidp (HM.out.stay hb); replace HB := hidp (Bgo HB.out hb); clear hb)
 refine hK.out _ _ ?_ (fun hHeld => ?_)
 ·(try dsimp only)
  first | exact HX.out.three | exact hHeld
 clear hK K
 (try simp only [Act.put, gA, gB, gC, sA, sB, sC])
 refine rdz 6 fun K hK => ?_
 go_simp
 (refine (needsSize_c HM.out b hb0 (HSL.out.below HB.out)).mono ?_; rintro e w2 ⟨rfl, hb⟩; rw [HV.out.2.1]; replace HX := hidp (HX.out.keep hb); replace HM := hidp (HM.out.stay hb); replace HB := hidp (Bgo HB.out hb); clear hb)
 refine hK.out _ _ ?_ (fun hHeld => ?_)
 ·(try dsimp only)
  first | exact HX.out.three | exact hHeld
 clear hK K
 (try simp only [Act.put, gA, gB, gC, sA, sB, sC])
 refine rdz 7 fun K hK => ?_
 go_simp
 (have HQ := hidp (Held.new w2 30 #[.int .i64 u, .int .i64 v]); replace HX := hidp (HX.out.alloc (.cells #[.int .i64 u, .int .i64 v] 30)); replace HM := hidp (HM.out.stay (Bnew (B0 w2) (.cells #[.int .i64 u, .int .i64 v] 30))); replace HB := hidp (Bnew HB.out (.cells #[.int .i64 u, .int .i64 v] 30)))
 refine hK.out _ _ ?_ (fun hHeld => ?_)
 ·(try dsimp only)
  first | exact HX.out.three | exact hHeld
 clear hK K
 (try simp only [Act.put, gA, gB, gC, sA, sB, sC])
 refine rdz 8 fun K hK => ?_
 go_simp
 (refine (cmpOr_c _ u v _ HQ.out).mono ?_; rintro e w3 ⟨rfl, hb⟩; rw [HV.out.2.2]; replace HX := hidp (HX.out.keep hb); replace HM := hidp (HM.out.stay hb); replace HB := hidp (Bgo HB.out hb); clear hb)
 refine hK.out _ _ ?_ (fun hHeld => ?_)
 ·(try dsimp only)
  first | exact HX.out.three | exact hHeld
 clear hK K
 (try simp only [Act.put, gA, gB, gC, sA, sB, sC])
 refine tkz 9 ?_
 refine dnz ?_
 obtain ⟨x0, x1, x2⟩ := HX.out.three
 go_wp2_with fail
 go_ret
 exact ⟨rfl, HB.out⟩

set_option maxHeartbeats 1600000 in
theorem ref_5_b (h : IsMod w g F t p s L R) (a b : Int) (ha : -9223372036854775808 <= a /\ a <= 9223372036854775807) (hb : -9223372036854775808 <= b /\ b <= 9223372036854775807) (hT : SlotsLaid w) (ho : opB 5 a b = true) (hne : b ≠ 0) (u v x : Int) (hv : nRoot a = u /\ nBlock L b = v /\ orI u v = x) : Calls Tryd.prog 27 #[.pointer (some ⟨g, 0, none⟩), .agg #[.int .i64 5, .int .i64 a, .int .i64 b]] w fun e w' => e = .returned (.int .i64 x) /\ Below w.heap.size w w' := by
 have HX := hidp (Held.new w 29 #[.int .i64 5, .int .i64 a, .int .i64 b])
 have HB := hidp (Bnew (B0 w) (.cells #[.int .i64 5, .int .i64 a, .int .i64 b] 29))
 have HM := hidp (h.stay HB.out)
 have HSL := hidp hT
 have t0 : (b == 0) = false := by simp [hne]
 clear hne
 have HO := hidp ho
 clear ho
 have HV := hidp hv
 clear hv
 have hb0 := hb
 clear hb
 clear h hT
 obtain ⟨x0, x1, x2⟩ := HX.out.three
 go_enter Tryd.func27, Tryd.ntmps27
 go_wp2_with fail
 refine (opRight_c 5 a b ⟨by omega, by omega⟩ ha hb0 _).mono ?_; rintro e w1 ⟨rfl, hb⟩; rw [HO.out]
 clear x0 x1 x2
 replace HX := hidp (HX.out.keep hb)
 replace HM := hidp (HM.out.stay hb)
 replace HB := hidp (Bgo HB.out hb)
 clear hb
 obtain ⟨x0, x1, x2⟩ := HX.out.three
 go_wp2_with fail
 clear x0 x1 x2
 replace HX := hidp (HX.out.keep (Bdrew (B0 _)))
 replace HM := hidp (HM.out.stay (Bdrew (B0 _)))
 replace HB := hidp (Bgo HB.out (Bdrew (B0 _)))
 refine wp_region_held_drew (S := (fun w' => w'.cell? ⟨w.heap.size, 0, none⟩ = some (.int .i64 5) /\ w'.cell? ⟨w.heap.size, 1, none⟩ = some (.int .i64 a) /\ w'.cell? ⟨w.heap.size, 2, none⟩ = some (.int .i64 b))) (by kernel_rfl) ?_ (fun hHeld => ?_)
 ·(try dsimp only)
  first | exact HX.out.three | exact hHeld
 refine tkz 0 ?_
 refine tkz 1 ?_
 refine tkz 3 ?_
 refine tkz 4 ?_
 refine tkz 5 ?_
 refine rdz 2 fun K hK => ?_
 go_simp
 (refine (needsRoot_c a _).mono ?_; rintro e w1 ⟨rfl, hb⟩; rw [HV.out.1]; replace HX := hidp (HX.out.keep hb); replace HM := hidp (HM.out.stay hb); replace HB := hidp (Bgo HB.out hb); clear hb)
 refine hK.out _ _ ?_ (fun hHeld => ?_)
 ·(try dsimp only)
  first | exact HX.out.three | exact hHeld
 clear hK K
 (try simp only [Act.put, gA, gB, gC, sA, sB, sC])
 refine rdz 6 fun K hK => ?_
 go_simp
 (refine (needsBlock_c HM.out b).mono ?_; rintro e w2 ⟨rfl, hb⟩; rw [HV.out.2.1]; replace HX := hidp (HX.out.keep hb); replace HM := hidp (HM.out.stay hb); replace HB := hidp (Bgo HB.out hb); clear hb)
 refine hK.out _ _ ?_ (fun hHeld => ?_)
 ·(try dsimp only)
  first | exact HX.out.three | exact hHeld
 clear hK K
 (try simp only [Act.put, gA, gB, gC, sA, sB, sC])
 refine rdz 7 fun K hK => ?_
 go_simp
 (have HQ := hidp (Held.new w2 30 #[.int .i64 u, .int .i64 v]); replace HX := hidp (HX.out.alloc (.cells #[.int .i64 u, .int .i64 v] 30)); replace HM := hidp (HM.out.stay (Bnew (B0 w2) (.cells #[.int .i64 u, .int .i64 v] 30))); replace HB := hidp (Bnew HB.out (.cells #[.int .i64 u, .int .i64 v] 30)))
 refine hK.out _ _ ?_ (fun hHeld => ?_)
 ·(try dsimp only)
  first | exact HX.out.three | exact hHeld
 clear hK K
 (try simp only [Act.put, gA, gB, gC, sA, sB, sC])
 refine rdz 8 fun K hK => ?_
 go_simp
 (refine (cmpOr_c _ u v _ HQ.out).mono ?_; rintro e w3 ⟨rfl, hb⟩; rw [HV.out.2.2]; replace HX := hidp (HX.out.keep hb); replace HM := hidp (HM.out.stay hb); replace HB := hidp (Bgo HB.out hb); clear hb)
 refine hK.out _ _ ?_ (fun hHeld => ?_)
 ·(try dsimp only)
  first | exact HX.out.three | exact hHeld
 clear hK K
 (try simp only [Act.put, gA, gB, gC, sA, sB, sC])
 refine tkz 9 ?_
 refine dnz ?_
 obtain ⟨x0, x1, x2⟩ := HX.out.three
 go_wp2_with fail
 go_ret
 exact ⟨rfl, HB.out⟩

set_option maxHeartbeats 1600000 in
theorem ref_5_a (h : IsMod w g F t p s L R) (a b : Int) (ha : -9223372036854775808 <= a /\ a <= 9223372036854775807) (hb : -9223372036854775808 <= b /\ b <= 9223372036854775807) (hT : SlotsLaid w) (ho : opB 5 a b = true) (hne : b = 0) (v : Int) (hv : nRoot a = v) : Calls Tryd.prog 27 #[.pointer (some ⟨g, 0, none⟩), .agg #[.int .i64 5, .int .i64 a, .int .i64 b]] w fun e w' => e = .returned (.int .i64 v) /\ Below w.heap.size w w' := by
 have HX := hidp (Held.new w 29 #[.int .i64 5, .int .i64 a, .int .i64 b])
 have HB := hidp (Bnew (B0 w) (.cells #[.int .i64 5, .int .i64 a, .int .i64 b] 29))
 have HM := hidp (h.stay HB.out)
 have HSL := hidp hT
 have t0 : (b == 0) = true := by simp [hne]
 clear hne
 have HO := hidp ho
 clear ho
 have HV := hidp hv
 clear hv
 have hb0 := hb
 clear hb
 clear h hT
 obtain ⟨x0, x1, x2⟩ := HX.out.three
 go_enter Tryd.func27, Tryd.ntmps27
 go_wp2_with fail
 refine (opRight_c 5 a b ⟨by omega, by omega⟩ ha hb0 _).mono ?_; rintro e w1 ⟨rfl, hb⟩; rw [HO.out]
 clear x0 x1 x2
 replace HX := hidp (HX.out.keep hb)
 replace HM := hidp (HM.out.stay hb)
 replace HB := hidp (Bgo HB.out hb)
 clear hb
 obtain ⟨x0, x1, x2⟩ := HX.out.three
 go_wp2_with fail
 refine (needsRoot_c a _).mono ?_; rintro e w1 ⟨rfl, hb⟩; rw [HV.out]
 clear x0 x1 x2
 replace HX := hidp (HX.out.keep hb)
 replace HM := hidp (HM.out.stay hb)
 replace HB := hidp (Bgo HB.out hb)
 clear hb
 obtain ⟨x0, x1, x2⟩ := HX.out.three
 go_wp2_with fail
 go_ret
 exact ⟨rfl, HB.out⟩

theorem op_kind {k a b : Int} (h : opB k a b = true) : 1 <= k /\ k <= 9 := by
 have h1 := (of_decide_eq_true h).1
 unfold usesI at h1
 split at h1 <;> omega
theorem refusal_c (h : IsMod w g F t p s L R) (k a b : Int) (hk : -9223372036854775808 <= k /\ k <= 9223372036854775807) (ha : -9223372036854775808 <= a /\ a <= 9223372036854775807) (hb : -9223372036854775808 <= b /\ b <= 9223372036854775807) (hT : SlotsLaid w) : Calls Tryd.prog 27 #[.pointer (some ⟨g, 0, none⟩), .agg #[.int .i64 k, .int .i64 a, .int .i64 b]] w fun e w' => e = .returned (.int .i64 (refI t p s L R k a b)) /\ Below w.heap.size w w' := by
 cases ho : opB k a b with
 | false =>
  unfold refI
  rw [if_pos ho]
  exact ref_bad h k a b hk ha hb hT ho
 | true =>
  have hk9 := op_kind ho
  unfold refI
  rw [if_neg (by rw [ho]; simp)]
  rcases (by omega : k = 1 \/ k = 2 \/ k = 3 \/ k = 4 \/ k = 5 \/ k = 6 \/ k = 7 \/ k = 8 \/ k = 9) with rfl | rfl | rfl | rfl | rfl | rfl | rfl | rfl | rfl
  ·exact ref_1 h a b ha hb hT ho _ rfl
  ·exact ref_2 h a b ha hb hT ho _ _ _ ⟨rfl, rfl, rfl⟩
  ·exact ref_3 h a b ha hb hT ho _ _ _ ⟨rfl, rfl, rfl⟩
  ·exact ref_4 h a b ha hb hT ho _ _ _ ⟨rfl, rfl, rfl⟩
  ·by_cases e : b = 0
   ·rw [if_neg (by omega), if_neg (by omega), if_neg (by omega), if_neg (by omega), if_pos rfl, if_pos e]
    exact ref_5_a h a b ha hb hT ho e _ rfl
   ·rw [if_neg (by omega), if_neg (by omega), if_neg (by omega), if_neg (by omega), if_pos rfl, if_neg e]
    exact ref_5_b h a b ha hb hT ho e _ _ _ ⟨rfl, rfl, rfl⟩
  ·exact ref_6 h a b ha hb hT ho _ rfl
  ·exact ref_7 h a b ha hb hT ho _ rfl
  ·exact ref_8 h a b ha hb hT ho
  ·exact ref_9 h a b ha hb hT ho _ rfl
end
end
section
theorem own_none {G E : Int} {L : List (Int × Int)} (hi : InsM G E L) (j : Nat) (x : Int × Int) (hx : L[j]? = some x) : x = (0, 0) ↔ (j : Int) = -1 := by
 constructor
 ·rintro rfl
  have := ins_parts (hi _ (List.mem_of_getElem? hx))
  omega
 ·intro h; omega
theorem own_at {G E : Int} {L : List (Int × Int)} (ha : AscM L) (hi : InsM G E L) {a : Int} (h : 0 <= mAt L a) (j : Nat) (x : Int × Int) (hx : L[j]? = some x) : x = ((blkAt L a).1, (blkAt L a).2) ↔ (j : Int) = mAt L a := by
 rcases mAt_cases L a with ⟨h1, _⟩ | ⟨i, z, h1, h2, h3⟩
 ·omega
 ·have e : blkAt L a = (a, z) := (blkAt_mem ha hi (List.mem_of_getElem? h2)).2
  rw [e, h1]
  have hp := List.pairwise_iff_getElem.1 (ha.nodup hi)
  constructor
  ·rintro rfl
   obtain ⟨hj, hjx⟩ := List.getElem?_eq_some_iff.1 hx
   obtain ⟨hi2, hix⟩ := List.getElem?_eq_some_iff.1 h2
   rcases Nat.lt_trichotomy i j with h4 | h4 | h4
   ·exact absurd (hix.trans hjx.symm) (hp i j hi2 hj h4)
   ·rw [h4]
   ·exact absurd (hjx.trans hix.symm) (hp j i hj hi2 h4)
  ·intro h4
   have h4 : j = i := by omega
   subst h4
   rw [hx] at h2
   injection h2
theorem rd_lim {t p s z : Int} (hr : rightB t p s = true) (h : needB t p s z = true) : -9223372036854775808 <= rdI t p s z /\ rdI t p s z <= 9223372036854775807 := by
 unfold rdI
 rw [if_pos h]
 split
 ·have h2 : sizeN s (classK s z) <= pageS s / slotI (classK s z) := Nat.sub_le _ _
  have h3 : pageS s / slotI (classK s z) <= pageS s := Nat.div_le_self _ _
  have h4 : pageS s <= 1048576 := pageS_le s
  omega
 ·obtain ⟨g, m, hg, hm, hm1, hm2, _⟩ := need_few h
  rw [hg, hm]
  have hg2 := page_le t p s
  rw [hg] at hg2
  have h3 : (m : Int) * (g : Int) <= 1024 * 1048576 := Int.mul_le_mul (by omega) (by omega) (by omega) (by omega)
  have h4 : 0 <= (m : Int) * (g : Int) := Int.mul_nonneg (by omega) (by omega)
  omega
section
variable {w : World} {g : Nat} {F : Nat -> Prop} {t p s : Int} {L : List (Int × Int)} {R : Nat -> Int}

set_option maxHeartbeats 3200000 in
theorem mov_a (h : IsMod w g F t p s L R) (k a b out aux : Int) (ha : -9223372036854775808 <= a /\ a <= 9223372036854775807) (hb : -9223372036854775808 <= b /\ b <= 9223372036854775807) (hT : SlotsLaid w) (u : Int) (hu : rdI t p s b = u) (hnb : needB t p s b = true) (hne1 : out ≠ a) (hne2 : aux ≠ u) : Calls Tryd.prog 65 #[.pointer (some ⟨g, 0, none⟩), .agg #[.int .i64 k, .int .i64 a, .int .i64 b], .agg #[.int .i64 0, .int .i64 out, .int .i64 aux]] w fun e w' => e = .returned (.bool false) /\ Below w.heap.size w w' := by
 have HU : Hid (rdI t p s b = u /\ needB t p s b = true /\ (-9223372036854775808 <= u /\ u <= 9223372036854775807)) := hidp ⟨hu, hnb, by rw [<- hu]; exact rd_lim h.right hnb⟩
 have HFL := hidp h.lt
 clear hu hnb
 have e1 : (out == a) = false := by simp [hne1]
 clear hne1
 have e2 : (aux == u) = false := by simp [hne2]
 clear hne2
 have HB := hidp (Bnew (Bnew (B0 w) (.cells #[.int .i64 k, .int .i64 a, .int .i64 b] 29)) (.cells #[.int .i64 0, .int .i64 out, .int .i64 aux] 32))
 have HX := hidp ((Held.new w 29 #[.int .i64 k, .int .i64 a, .int .i64 b]).alloc (.cells #[.int .i64 0, .int .i64 out, .int .i64 aux] 32))
 have HY := hidp (Held.new2 w (.cells #[.int .i64 k, .int .i64 a, .int .i64 b] 29) 32 #[.int .i64 0, .int .i64 out, .int .i64 aux])
 have HM := hidp (h.stay HB.out)
 obtain ⟨m, D, hm, hG, hO, hD⟩ := h.ex
 have HD := hidp hD
 have HG := hidp (hG.keep HB.out)
 have HO := hidp (owns_turns hO (Turns.of_below HB.out (fun _ => False)) (fun x => x))
 have HSL := hidp hT
 clear h hm hG hO hD hT
 obtain ⟨x0, x1, x2⟩ := HX.out.three
 obtain ⟨y0, y1, y2⟩ := HY.out.three
 obtain ⟨m0, m1, m2, m3⟩ := mod_cells HG.out
 go_enter Tryd.func65, Tryd.ntmps65
 go_wp2_with fail
 clear x0 x1 x2 y0 y1 y2 m0 m1 m2 m3
 replace HX := hidp (HX.out.keep (Bdrew (B0 _)))
 replace HY := hidp (HY.out.keep (Bdrew (B0 _)))
 replace HM := hidp (HM.out.stay (Bdrew (B0 _)))
 replace HG := hidp (HG.out.keep (Bdrew (B0 _)))
 replace HO := hidp (owns_turns HO.out (Turns.of_below (Bdrew (B0 _)) (fun _ => False)) (fun x => x))
 replace HB := hidp (Bgo HB.out (Bdrew (B0 _)))
 refine wp_region_held_drew (S := (fun w' => (w'.cell? ⟨w.heap.size, 0, none⟩ = some (.int .i64 k) /\ w'.cell? ⟨w.heap.size, 1, none⟩ = some (.int .i64 a) /\ w'.cell? ⟨w.heap.size, 2, none⟩ = some (.int .i64 b)) /\ (w'.cell? ⟨w.heap.size + 1, 0, none⟩ = some (.int .i64 0) /\ w'.cell? ⟨w.heap.size + 1, 1, none⟩ = some (.int .i64 out) /\ w'.cell? ⟨w.heap.size + 1, 2, none⟩ = some (.int .i64 aux)) /\ (w'.cell? ⟨g, 0, none⟩ = some (.int .i64 t) /\ w'.cell? ⟨g, 1, none⟩ = some (.int .i64 p) /\ w'.cell? ⟨g, 2, none⟩ = some (.int .i64 s) /\ w'.cell? ⟨g, 3, none⟩ = some (.map (some m))))) (by kernel_rfl) ?_ (fun hHeld => ?_)
 ·(try dsimp only)
  first | exact ⟨HX.out.three, HY.out.three, mod_cells HG.out⟩ | exact hHeld
 refine tkz 0 ?_
 refine tkz 1 ?_
 refine tkz 2 ?_
 refine tkz 3 ?_
 refine tkz 4 ?_
 refine tkz 5 ?_
 refine rdz 6 fun K hK => ?_
 go_simp
 (refine (mdRound_c t p s b hb _ (HSL.out.below HB.out)).mono ?_; rintro e w1 ⟨rfl, hb⟩; rw [HU.out.1, HU.out.2.1]; replace HX := hidp (HX.out.keep hb); replace HY := hidp (HY.out.keep hb); replace HM := hidp (HM.out.stay hb); replace HG := hidp (HG.out.keep hb); replace HO := hidp (owns_turns HO.out (Turns.of_below hb (fun _ => False)) (fun x => x)); replace HB := hidp (Bgo HB.out hb); clear hb)
 refine hK.out _ _ ?_ (fun hHeld => ?_)
 ·(try dsimp only)
  first | exact ⟨HX.out.three, HY.out.three, mod_cells HG.out⟩ | exact hHeld
 clear hK K
 (try simp only [Act.put, gA, gB, gC, sA, sB, sC])
 refine tkz 7 ?_
 refine tkz 8 ?_
 refine tkz 9 ?_
 refine tkz 10 ?_
 refine tkz 11 ?_
 refine dnz ?_
 obtain ⟨x0, x1, x2⟩ := HX.out.three
 obtain ⟨y0, y1, y2⟩ := HY.out.three
 obtain ⟨m0, m1, m2, m3⟩ := mod_cells HG.out
 have hfl2 : w.heap.size + 2 <= w1.heap.size := by have := HB.out.size; have := HY.out.lt; omega
 have HN := hidp (Held.new w1 55 #[.int .i64 0, .int .i64 0])
 have HSZ := hidp hfl2
 replace HX := hidp (HX.out.keep (Bnew (B0 w1) (.cells #[.int .i64 0, .int .i64 0] 55)))
 replace HY := hidp (HY.out.keep (Bnew (B0 w1) (.cells #[.int .i64 0, .int .i64 0] 55)))
 replace HM := hidp (HM.out.stay (Bnew (B0 w1) (.cells #[.int .i64 0, .int .i64 0] 55)))
 replace HG := hidp (HG.out.keep (Bnew (B0 w1) (.cells #[.int .i64 0, .int .i64 0] 55)))
 replace HO := hidp (owns_turns HO.out (Turns.of_below (Bnew (B0 w1) (.cells #[.int .i64 0, .int .i64 0] 55)) (fun _ => False)) (fun x => x))
 replace HB := hidp (Bgo HB.out (Bnew (B0 w1) (.cells #[.int .i64 0, .int .i64 0] 55)))
 clear hfl2 x0 x1 x2 y0 y1 y2 m0 m1 m2 m3
 obtain ⟨x0, x1, x2⟩ := HX.out.three
 obtain ⟨y0, y1, y2⟩ := HY.out.three
 obtain ⟨m0, m1, m2, m3⟩ := mod_cells HG.out
 obtain ⟨n0, n1⟩ := HN.out.two
 have fz0 := HN.out.thawed 0
 have fz1 := HN.out.thawed 1
 go_wp2_with fail
 go_ret
 exact ⟨by first | rfl | (refine ret_bool ?_; simp; done), HB.out⟩

set_option maxHeartbeats 3200000 in
theorem mov_b (h : IsMod w g F t p s L R) (k a b out aux : Int) (ha : -9223372036854775808 <= a /\ a <= 9223372036854775807) (hb : -9223372036854775808 <= b /\ b <= 9223372036854775807) (hT : SlotsLaid w) (u : Int) (hu : rdI t p s b = u) (hnb : needB t p s b = true) (hne1 : out ≠ a) (heq2 : aux = u) (c : Bool) (hc : freeM (pageN t p s : Int) (endI t p s) L out u (-1) = c) : Calls Tryd.prog 65 #[.pointer (some ⟨g, 0, none⟩), .agg #[.int .i64 k, .int .i64 a, .int .i64 b], .agg #[.int .i64 0, .int .i64 out, .int .i64 aux]] w fun e w' => e = .returned (.bool c) /\ Below w.heap.size w w' := by
 have HU : Hid (rdI t p s b = u /\ needB t p s b = true /\ (-9223372036854775808 <= u /\ u <= 9223372036854775807)) := hidp ⟨hu, hnb, by rw [<- hu]; exact rd_lim h.right hnb⟩
 have HFL := hidp h.lt
 clear hu hnb
 have e1 : (out == a) = false := by simp [hne1]
 clear hne1
 have e2 : (aux == u) = true := by simp [heq2]
 clear heq2
 have HC := hidp hc
 clear hc
 have HB := hidp (Bnew (Bnew (B0 w) (.cells #[.int .i64 k, .int .i64 a, .int .i64 b] 29)) (.cells #[.int .i64 0, .int .i64 out, .int .i64 aux] 32))
 have HX := hidp ((Held.new w 29 #[.int .i64 k, .int .i64 a, .int .i64 b]).alloc (.cells #[.int .i64 0, .int .i64 out, .int .i64 aux] 32))
 have HY := hidp (Held.new2 w (.cells #[.int .i64 k, .int .i64 a, .int .i64 b] 29) 32 #[.int .i64 0, .int .i64 out, .int .i64 aux])
 have HM := hidp (h.stay HB.out)
 obtain ⟨m, D, hm, hG, hO, hD⟩ := h.ex
 have HD := hidp hD
 have HG := hidp (hG.keep HB.out)
 have HO := hidp (owns_turns hO (Turns.of_below HB.out (fun _ => False)) (fun x => x))
 have HSL := hidp hT
 clear h hm hG hO hD hT
 obtain ⟨x0, x1, x2⟩ := HX.out.three
 obtain ⟨y0, y1, y2⟩ := HY.out.three
 obtain ⟨m0, m1, m2, m3⟩ := mod_cells HG.out
 go_enter Tryd.func65, Tryd.ntmps65
 go_wp2_with fail
 clear x0 x1 x2 y0 y1 y2 m0 m1 m2 m3
 replace HX := hidp (HX.out.keep (Bdrew (B0 _)))
 replace HY := hidp (HY.out.keep (Bdrew (B0 _)))
 replace HM := hidp (HM.out.stay (Bdrew (B0 _)))
 replace HG := hidp (HG.out.keep (Bdrew (B0 _)))
 replace HO := hidp (owns_turns HO.out (Turns.of_below (Bdrew (B0 _)) (fun _ => False)) (fun x => x))
 replace HB := hidp (Bgo HB.out (Bdrew (B0 _)))
 refine wp_region_held_drew (S := (fun w' => (w'.cell? ⟨w.heap.size, 0, none⟩ = some (.int .i64 k) /\ w'.cell? ⟨w.heap.size, 1, none⟩ = some (.int .i64 a) /\ w'.cell? ⟨w.heap.size, 2, none⟩ = some (.int .i64 b)) /\ (w'.cell? ⟨w.heap.size + 1, 0, none⟩ = some (.int .i64 0) /\ w'.cell? ⟨w.heap.size + 1, 1, none⟩ = some (.int .i64 out) /\ w'.cell? ⟨w.heap.size + 1, 2, none⟩ = some (.int .i64 aux)) /\ (w'.cell? ⟨g, 0, none⟩ = some (.int .i64 t) /\ w'.cell? ⟨g, 1, none⟩ = some (.int .i64 p) /\ w'.cell? ⟨g, 2, none⟩ = some (.int .i64 s) /\ w'.cell? ⟨g, 3, none⟩ = some (.map (some m))))) (by kernel_rfl) ?_ (fun hHeld => ?_)
 ·(try dsimp only)
  first | exact ⟨HX.out.three, HY.out.three, mod_cells HG.out⟩ | exact hHeld
 refine tkz 0 ?_
 refine tkz 1 ?_
 refine tkz 2 ?_
 refine tkz 3 ?_
 refine tkz 4 ?_
 refine tkz 5 ?_
 refine rdz 6 fun K hK => ?_
 go_simp
 (refine (mdRound_c t p s b hb _ (HSL.out.below HB.out)).mono ?_; rintro e w1 ⟨rfl, hb⟩; rw [HU.out.1, HU.out.2.1]; replace HX := hidp (HX.out.keep hb); replace HY := hidp (HY.out.keep hb); replace HM := hidp (HM.out.stay hb); replace HG := hidp (HG.out.keep hb); replace HO := hidp (owns_turns HO.out (Turns.of_below hb (fun _ => False)) (fun x => x)); replace HB := hidp (Bgo HB.out hb); clear hb)
 refine hK.out _ _ ?_ (fun hHeld => ?_)
 ·(try dsimp only)
  first | exact ⟨HX.out.three, HY.out.three, mod_cells HG.out⟩ | exact hHeld
 clear hK K
 (try simp only [Act.put, gA, gB, gC, sA, sB, sC])
 refine tkz 7 ?_
 refine tkz 8 ?_
 refine tkz 9 ?_
 refine tkz 10 ?_
 refine tkz 11 ?_
 refine dnz ?_
 obtain ⟨x0, x1, x2⟩ := HX.out.three
 obtain ⟨y0, y1, y2⟩ := HY.out.three
 obtain ⟨m0, m1, m2, m3⟩ := mod_cells HG.out
 have hfl2 : w.heap.size + 2 <= w1.heap.size := by have := HB.out.size; have := HY.out.lt; omega
 have HN := hidp (Held.new w1 55 #[.int .i64 0, .int .i64 0])
 have HSZ := hidp hfl2
 replace HX := hidp (HX.out.keep (Bnew (B0 w1) (.cells #[.int .i64 0, .int .i64 0] 55)))
 replace HY := hidp (HY.out.keep (Bnew (B0 w1) (.cells #[.int .i64 0, .int .i64 0] 55)))
 replace HM := hidp (HM.out.stay (Bnew (B0 w1) (.cells #[.int .i64 0, .int .i64 0] 55)))
 replace HG := hidp (HG.out.keep (Bnew (B0 w1) (.cells #[.int .i64 0, .int .i64 0] 55)))
 replace HO := hidp (owns_turns HO.out (Turns.of_below (Bnew (B0 w1) (.cells #[.int .i64 0, .int .i64 0] 55)) (fun _ => False)) (fun x => x))
 replace HB := hidp (Bgo HB.out (Bnew (B0 w1) (.cells #[.int .i64 0, .int .i64 0] 55)))
 clear hfl2 x0 x1 x2 y0 y1 y2 m0 m1 m2 m3
 obtain ⟨x0, x1, x2⟩ := HX.out.three
 obtain ⟨y0, y1, y2⟩ := HY.out.three
 obtain ⟨m0, m1, m2, m3⟩ := mod_cells HG.out
 obtain ⟨n0, n1⟩ := HN.out.two
 have fz0 := HN.out.thawed 0
 have fz1 := HN.out.thawed 1
 go_wp2_with fail
 refine (mdFree_c HM.out out u 0 0 (-1) HU.out.2.2 (own_none HM.out.ins)).mono ?_; rintro e w2 ⟨rfl, hb⟩; rw [HC.out]
 clear x0 x1 x2 y0 y1 y2 m0 m1 m2 m3 n0 n1 fz0 fz1
 replace HN := hidp (HN.out.keep hb)
 replace HX := hidp (HX.out.keep hb)
 replace HY := hidp (HY.out.keep hb)
 replace HM := hidp (HM.out.stay hb)
 replace HG := hidp (HG.out.keep hb)
 replace HO := hidp (owns_turns HO.out (Turns.of_below hb (fun _ => False)) (fun x => x))
 replace HB := hidp (Bgo HB.out hb)
 clear hb
 go_wp2_with fail
 go_ret
 exact ⟨by first | rfl | (refine ret_bool ?_; simp; done), HB.out⟩

set_option maxHeartbeats 3200000 in
theorem mov_c (h : IsMod w g F t p s L R) (k a b out aux : Int) (ha : -9223372036854775808 <= a /\ a <= 9223372036854775807) (hb : -9223372036854775808 <= b /\ b <= 9223372036854775807) (hT : SlotsLaid w) (u : Int) (hu : rdI t p s b = u) (hnb : needB t p s b = true) (heq1 : out = a) (hat : 0 <= mAt L a) (z1 z2 : Int) (hz : blkAt L a = (z1, z2)) (hne2 : aux ≠ u) : Calls Tryd.prog 65 #[.pointer (some ⟨g, 0, none⟩), .agg #[.int .i64 k, .int .i64 a, .int .i64 b], .agg #[.int .i64 0, .int .i64 out, .int .i64 aux]] w fun e w' => e = .returned (.bool false) /\ Below w.heap.size w w' := by
 have HU : Hid (rdI t p s b = u /\ needB t p s b = true /\ (-9223372036854775808 <= u /\ u <= 9223372036854775807)) := hidp ⟨hu, hnb, by rw [<- hu]; exact rd_lim h.right hnb⟩
 have HFL := hidp h.lt
 clear hu hnb
 have e1 : (out == a) = true := by simp [heq1]
 have HAT : Hid (0 <= mAt L a /\ blkAt L a = (z1, z2)) := hidp ⟨hat, hz⟩
 clear heq1 hat hz
 have e2 : (aux == u) = false := by simp [hne2]
 clear hne2
 have HB := hidp (Bnew (Bnew (B0 w) (.cells #[.int .i64 k, .int .i64 a, .int .i64 b] 29)) (.cells #[.int .i64 0, .int .i64 out, .int .i64 aux] 32))
 have HX := hidp ((Held.new w 29 #[.int .i64 k, .int .i64 a, .int .i64 b]).alloc (.cells #[.int .i64 0, .int .i64 out, .int .i64 aux] 32))
 have HY := hidp (Held.new2 w (.cells #[.int .i64 k, .int .i64 a, .int .i64 b] 29) 32 #[.int .i64 0, .int .i64 out, .int .i64 aux])
 have HM := hidp (h.stay HB.out)
 obtain ⟨m, D, hm, hG, hO, hD⟩ := h.ex
 have HD := hidp hD
 have HG := hidp (hG.keep HB.out)
 have HO := hidp (owns_turns hO (Turns.of_below HB.out (fun _ => False)) (fun x => x))
 have HSL := hidp hT
 clear h hm hG hO hD hT
 obtain ⟨x0, x1, x2⟩ := HX.out.three
 obtain ⟨y0, y1, y2⟩ := HY.out.three
 obtain ⟨m0, m1, m2, m3⟩ := mod_cells HG.out
 go_enter Tryd.func65, Tryd.ntmps65
 go_wp2_with fail
 clear x0 x1 x2 y0 y1 y2 m0 m1 m2 m3
 replace HX := hidp (HX.out.keep (Bdrew (B0 _)))
 replace HY := hidp (HY.out.keep (Bdrew (B0 _)))
 replace HM := hidp (HM.out.stay (Bdrew (B0 _)))
 replace HG := hidp (HG.out.keep (Bdrew (B0 _)))
 replace HO := hidp (owns_turns HO.out (Turns.of_below (Bdrew (B0 _)) (fun _ => False)) (fun x => x))
 replace HB := hidp (Bgo HB.out (Bdrew (B0 _)))
 refine wp_region_held_drew (S := (fun w' => (w'.cell? ⟨w.heap.size, 0, none⟩ = some (.int .i64 k) /\ w'.cell? ⟨w.heap.size, 1, none⟩ = some (.int .i64 a) /\ w'.cell? ⟨w.heap.size, 2, none⟩ = some (.int .i64 b)) /\ (w'.cell? ⟨w.heap.size + 1, 0, none⟩ = some (.int .i64 0) /\ w'.cell? ⟨w.heap.size + 1, 1, none⟩ = some (.int .i64 out) /\ w'.cell? ⟨w.heap.size + 1, 2, none⟩ = some (.int .i64 aux)) /\ (w'.cell? ⟨g, 0, none⟩ = some (.int .i64 t) /\ w'.cell? ⟨g, 1, none⟩ = some (.int .i64 p) /\ w'.cell? ⟨g, 2, none⟩ = some (.int .i64 s) /\ w'.cell? ⟨g, 3, none⟩ = some (.map (some m))))) (by kernel_rfl) ?_ (fun hHeld => ?_)
 ·(try dsimp only)
  first | exact ⟨HX.out.three, HY.out.three, mod_cells HG.out⟩ | exact hHeld
 refine tkz 0 ?_
 refine tkz 1 ?_
 refine tkz 2 ?_
 refine tkz 3 ?_
 refine tkz 4 ?_
 refine tkz 5 ?_
 refine rdz 6 fun K hK => ?_
 go_simp
 (refine (mdRound_c t p s b hb _ (HSL.out.below HB.out)).mono ?_; rintro e w1 ⟨rfl, hb⟩; rw [HU.out.1, HU.out.2.1]; replace HX := hidp (HX.out.keep hb); replace HY := hidp (HY.out.keep hb); replace HM := hidp (HM.out.stay hb); replace HG := hidp (HG.out.keep hb); replace HO := hidp (owns_turns HO.out (Turns.of_below hb (fun _ => False)) (fun x => x)); replace HB := hidp (Bgo HB.out hb); clear hb)
 refine hK.out _ _ ?_ (fun hHeld => ?_)
 ·(try dsimp only)
  first | exact ⟨HX.out.three, HY.out.three, mod_cells HG.out⟩ | exact hHeld
 clear hK K
 (try simp only [Act.put, gA, gB, gC, sA, sB, sC])
 refine tkz 7 ?_
 refine tkz 8 ?_
 refine tkz 9 ?_
 refine tkz 10 ?_
 refine tkz 11 ?_
 refine dnz ?_
 obtain ⟨x0, x1, x2⟩ := HX.out.three
 obtain ⟨y0, y1, y2⟩ := HY.out.three
 obtain ⟨m0, m1, m2, m3⟩ := mod_cells HG.out
 have hfl2 : w.heap.size + 2 <= w1.heap.size := by have := HB.out.size; have := HY.out.lt; omega
 have HN := hidp (Held.new w1 55 #[.int .i64 0, .int .i64 0])
 have HSZ := hidp hfl2
 replace HX := hidp (HX.out.keep (Bnew (B0 w1) (.cells #[.int .i64 0, .int .i64 0] 55)))
 replace HY := hidp (HY.out.keep (Bnew (B0 w1) (.cells #[.int .i64 0, .int .i64 0] 55)))
 replace HM := hidp (HM.out.stay (Bnew (B0 w1) (.cells #[.int .i64 0, .int .i64 0] 55)))
 replace HG := hidp (HG.out.keep (Bnew (B0 w1) (.cells #[.int .i64 0, .int .i64 0] 55)))
 replace HO := hidp (owns_turns HO.out (Turns.of_below (Bnew (B0 w1) (.cells #[.int .i64 0, .int .i64 0] 55)) (fun _ => False)) (fun x => x))
 replace HB := hidp (Bgo HB.out (Bnew (B0 w1) (.cells #[.int .i64 0, .int .i64 0] 55)))
 clear hfl2 x0 x1 x2 y0 y1 y2 m0 m1 m2 m3
 obtain ⟨x0, x1, x2⟩ := HX.out.three
 obtain ⟨y0, y1, y2⟩ := HY.out.three
 obtain ⟨m0, m1, m2, m3⟩ := mod_cells HG.out
 obtain ⟨n0, n1⟩ := HN.out.two
 have fz0 := HN.out.thawed 0
 have fz1 := HN.out.thawed 1
 go_wp2_with fail
 refine (mdAt_c HM.out a).mono ?_; rintro e w2 ⟨rfl, hb⟩; rw [HAT.out.2]
 clear x0 x1 x2 y0 y1 y2 m0 m1 m2 m3 n0 n1 fz0 fz1
 replace HN := hidp (HN.out.keep hb)
 replace HX := hidp (HX.out.keep hb)
 replace HY := hidp (HY.out.keep hb)
 replace HM := hidp (HM.out.stay hb)
 replace HG := hidp (HG.out.keep hb)
 replace HO := hidp (owns_turns HO.out (Turns.of_below hb (fun _ => False)) (fun x => x))
 replace HB := hidp (Bgo HB.out hb)
 clear hb
 obtain ⟨x0, x1, x2⟩ := HX.out.three
 obtain ⟨y0, y1, y2⟩ := HY.out.three
 obtain ⟨m0, m1, m2, m3⟩ := mod_cells HG.out
 obtain ⟨n0, n1⟩ := HN.out.two
 have fz0 := HN.out.thawed 0
 have fz1 := HN.out.thawed 1
 have HN3 := hidp ((HN.out.put 0 (.int .i64 z1)).put 1 (.int .i64 z2))
 have ht3 : Turns (fun i => i = w1.heap.size) w2 ((w2.setCell ⟨w1.heap.size, 0, none⟩ (.int .i64 z1)).setCell ⟨w1.heap.size, 1, none⟩ (.int .i64 z2)) := ((T0 (fun i => i = w1.heap.size) w2).put (p := ⟨w1.heap.size, 0, none⟩) rfl _).put (p := ⟨w1.heap.size, 1, none⟩) rfl _
 have HX3 := hidp (ht3.held HX.out (by have := HSZ.out; omega))
 have HY3 := hidp (ht3.held HY.out (by have := HSZ.out; omega))
 have HM3 := hidp (HM.out.turns ht3 (fun i hi => by have := HFL.out i hi; have := HSZ.out; omega))
 have HB3 : Hid (Below w.heap.size w _) := hidp (ht3.below HB.out (fun i hi => by have := HSZ.out; omega))
 clear ht3
 obtain ⟨n30, n31⟩ := HN3.out.two
 obtain ⟨x30, x31, x32⟩ := HX3.out.three
 obtain ⟨y30, y31, y32⟩ := HY3.out.three
 go_wp2_with fail
 go_ret
 exact ⟨by first | rfl | (refine ret_bool ?_; simp; done), HB3.out⟩

set_option maxHeartbeats 3200000 in
theorem mov_d (h : IsMod w g F t p s L R) (k a b out aux : Int) (ha : -9223372036854775808 <= a /\ a <= 9223372036854775807) (hb : -9223372036854775808 <= b /\ b <= 9223372036854775807) (hT : SlotsLaid w) (u : Int) (hu : rdI t p s b = u) (hnb : needB t p s b = true) (heq1 : out = a) (hat : 0 <= mAt L a) (z1 z2 : Int) (hz : blkAt L a = (z1, z2)) (heq2 : aux = u) (c : Bool) (hc : freeM (pageN t p s : Int) (endI t p s) L out u (mAt L a) = c) : Calls Tryd.prog 65 #[.pointer (some ⟨g, 0, none⟩), .agg #[.int .i64 k, .int .i64 a, .int .i64 b], .agg #[.int .i64 0, .int .i64 out, .int .i64 aux]] w fun e w' => e = .returned (.bool c) /\ Below w.heap.size w w' := by
 have HU : Hid (rdI t p s b = u /\ needB t p s b = true /\ (-9223372036854775808 <= u /\ u <= 9223372036854775807)) := hidp ⟨hu, hnb, by rw [<- hu]; exact rd_lim h.right hnb⟩
 have HFL := hidp h.lt
 clear hu hnb
 have e1 : (out == a) = true := by simp [heq1]
 have HAT : Hid (0 <= mAt L a /\ blkAt L a = (z1, z2)) := hidp ⟨hat, hz⟩
 clear heq1 hat hz
 have e2 : (aux == u) = true := by simp [heq2]
 clear heq2
 have HC := hidp hc
 clear hc
 have HB := hidp (Bnew (Bnew (B0 w) (.cells #[.int .i64 k, .int .i64 a, .int .i64 b] 29)) (.cells #[.int .i64 0, .int .i64 out, .int .i64 aux] 32))
 have HX := hidp ((Held.new w 29 #[.int .i64 k, .int .i64 a, .int .i64 b]).alloc (.cells #[.int .i64 0, .int .i64 out, .int .i64 aux] 32))
 have HY := hidp (Held.new2 w (.cells #[.int .i64 k, .int .i64 a, .int .i64 b] 29) 32 #[.int .i64 0, .int .i64 out, .int .i64 aux])
 have HM := hidp (h.stay HB.out)
 obtain ⟨m, D, hm, hG, hO, hD⟩ := h.ex
 have HD := hidp hD
 have HG := hidp (hG.keep HB.out)
 have HO := hidp (owns_turns hO (Turns.of_below HB.out (fun _ => False)) (fun x => x))
 have HSL := hidp hT
 clear h hm hG hO hD hT
 obtain ⟨x0, x1, x2⟩ := HX.out.three
 obtain ⟨y0, y1, y2⟩ := HY.out.three
 obtain ⟨m0, m1, m2, m3⟩ := mod_cells HG.out
 go_enter Tryd.func65, Tryd.ntmps65
 go_wp2_with fail
 clear x0 x1 x2 y0 y1 y2 m0 m1 m2 m3
 replace HX := hidp (HX.out.keep (Bdrew (B0 _)))
 replace HY := hidp (HY.out.keep (Bdrew (B0 _)))
 replace HM := hidp (HM.out.stay (Bdrew (B0 _)))
 replace HG := hidp (HG.out.keep (Bdrew (B0 _)))
 replace HO := hidp (owns_turns HO.out (Turns.of_below (Bdrew (B0 _)) (fun _ => False)) (fun x => x))
 replace HB := hidp (Bgo HB.out (Bdrew (B0 _)))
 refine wp_region_held_drew (S := (fun w' => (w'.cell? ⟨w.heap.size, 0, none⟩ = some (.int .i64 k) /\ w'.cell? ⟨w.heap.size, 1, none⟩ = some (.int .i64 a) /\ w'.cell? ⟨w.heap.size, 2, none⟩ = some (.int .i64 b)) /\ (w'.cell? ⟨w.heap.size + 1, 0, none⟩ = some (.int .i64 0) /\ w'.cell? ⟨w.heap.size + 1, 1, none⟩ = some (.int .i64 out) /\ w'.cell? ⟨w.heap.size + 1, 2, none⟩ = some (.int .i64 aux)) /\ (w'.cell? ⟨g, 0, none⟩ = some (.int .i64 t) /\ w'.cell? ⟨g, 1, none⟩ = some (.int .i64 p) /\ w'.cell? ⟨g, 2, none⟩ = some (.int .i64 s) /\ w'.cell? ⟨g, 3, none⟩ = some (.map (some m))))) (by kernel_rfl) ?_ (fun hHeld => ?_)
 ·(try dsimp only)
  first | exact ⟨HX.out.three, HY.out.three, mod_cells HG.out⟩ | exact hHeld
 refine tkz 0 ?_
 refine tkz 1 ?_
 refine tkz 2 ?_
 refine tkz 3 ?_
 refine tkz 4 ?_
 refine tkz 5 ?_
 refine rdz 6 fun K hK => ?_
 go_simp
 (refine (mdRound_c t p s b hb _ (HSL.out.below HB.out)).mono ?_; rintro e w1 ⟨rfl, hb⟩; rw [HU.out.1, HU.out.2.1]; replace HX := hidp (HX.out.keep hb); replace HY := hidp (HY.out.keep hb); replace HM := hidp (HM.out.stay hb); replace HG := hidp (HG.out.keep hb); replace HO := hidp (owns_turns HO.out (Turns.of_below hb (fun _ => False)) (fun x => x)); replace HB := hidp (Bgo HB.out hb); clear hb)
 refine hK.out _ _ ?_ (fun hHeld => ?_)
 ·(try dsimp only)
  first | exact ⟨HX.out.three, HY.out.three, mod_cells HG.out⟩ | exact hHeld
 clear hK K
 (try simp only [Act.put, gA, gB, gC, sA, sB, sC])
 refine tkz 7 ?_
 refine tkz 8 ?_
 refine tkz 9 ?_
 refine tkz 10 ?_
 refine tkz 11 ?_
 refine dnz ?_
 obtain ⟨x0, x1, x2⟩ := HX.out.three
 obtain ⟨y0, y1, y2⟩ := HY.out.three
 obtain ⟨m0, m1, m2, m3⟩ := mod_cells HG.out
 have hfl2 : w.heap.size + 2 <= w1.heap.size := by have := HB.out.size; have := HY.out.lt; omega
 have HN := hidp (Held.new w1 55 #[.int .i64 0, .int .i64 0])
 have HSZ := hidp hfl2
 replace HX := hidp (HX.out.keep (Bnew (B0 w1) (.cells #[.int .i64 0, .int .i64 0] 55)))
 replace HY := hidp (HY.out.keep (Bnew (B0 w1) (.cells #[.int .i64 0, .int .i64 0] 55)))
 replace HM := hidp (HM.out.stay (Bnew (B0 w1) (.cells #[.int .i64 0, .int .i64 0] 55)))
 replace HG := hidp (HG.out.keep (Bnew (B0 w1) (.cells #[.int .i64 0, .int .i64 0] 55)))
 replace HO := hidp (owns_turns HO.out (Turns.of_below (Bnew (B0 w1) (.cells #[.int .i64 0, .int .i64 0] 55)) (fun _ => False)) (fun x => x))
 replace HB := hidp (Bgo HB.out (Bnew (B0 w1) (.cells #[.int .i64 0, .int .i64 0] 55)))
 clear hfl2 x0 x1 x2 y0 y1 y2 m0 m1 m2 m3
 obtain ⟨x0, x1, x2⟩ := HX.out.three
 obtain ⟨y0, y1, y2⟩ := HY.out.three
 obtain ⟨m0, m1, m2, m3⟩ := mod_cells HG.out
 obtain ⟨n0, n1⟩ := HN.out.two
 have fz0 := HN.out.thawed 0
 have fz1 := HN.out.thawed 1
 go_wp2_with fail
 refine (mdAt_c HM.out a).mono ?_; rintro e w2 ⟨rfl, hb⟩; rw [HAT.out.2]
 clear x0 x1 x2 y0 y1 y2 m0 m1 m2 m3 n0 n1 fz0 fz1
 replace HN := hidp (HN.out.keep hb)
 replace HX := hidp (HX.out.keep hb)
 replace HY := hidp (HY.out.keep hb)
 replace HM := hidp (HM.out.stay hb)
 replace HG := hidp (HG.out.keep hb)
 replace HO := hidp (owns_turns HO.out (Turns.of_below hb (fun _ => False)) (fun x => x))
 replace HB := hidp (Bgo HB.out hb)
 clear hb
 obtain ⟨x0, x1, x2⟩ := HX.out.three
 obtain ⟨y0, y1, y2⟩ := HY.out.three
 obtain ⟨m0, m1, m2, m3⟩ := mod_cells HG.out
 obtain ⟨n0, n1⟩ := HN.out.two
 have fz0 := HN.out.thawed 0
 have fz1 := HN.out.thawed 1
 have HN3 := hidp ((HN.out.put 0 (.int .i64 z1)).put 1 (.int .i64 z2))
 have ht3 : Turns (fun i => i = w1.heap.size) w2 ((w2.setCell ⟨w1.heap.size, 0, none⟩ (.int .i64 z1)).setCell ⟨w1.heap.size, 1, none⟩ (.int .i64 z2)) := ((T0 (fun i => i = w1.heap.size) w2).put (p := ⟨w1.heap.size, 0, none⟩) rfl _).put (p := ⟨w1.heap.size, 1, none⟩) rfl _
 have HX3 := hidp (ht3.held HX.out (by have := HSZ.out; omega))
 have HY3 := hidp (ht3.held HY.out (by have := HSZ.out; omega))
 have HM3 := hidp (HM.out.turns ht3 (fun i hi => by have := HFL.out i hi; have := HSZ.out; omega))
 have HB3 : Hid (Below w.heap.size w _) := hidp (ht3.below HB.out (fun i hi => by have := HSZ.out; omega))
 clear ht3
 obtain ⟨n30, n31⟩ := HN3.out.two
 obtain ⟨x30, x31, x32⟩ := HX3.out.three
 obtain ⟨y30, y31, y32⟩ := HY3.out.three
 go_wp2_with fail
 refine (mdFree_c HM3.out out u z1 z2 (mAt L a) HU.out.2.2 (by have := own_at HM3.out.asc HM3.out.ins HAT.out.1; rw [HAT.out.2] at this; exact this)).mono ?_; rintro e w3 ⟨rfl, hb⟩; rw [HC.out]
 replace HB := hidp (Bgo HB3.out hb)
 clear hb
 go_wp2_with fail
 go_ret
 exact ⟨by first | rfl | (refine ret_bool ?_; simp; done), HB.out⟩

end
end
end Go.Proofs.YtedakmhffjhfnaaDoor
