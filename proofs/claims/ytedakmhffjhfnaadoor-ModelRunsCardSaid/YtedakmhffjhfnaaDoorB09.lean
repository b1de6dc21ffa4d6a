/-
  The program's automaton: what an operation that nothing refuses may answer (model.allowsDone). Written by model/gen_prog4.py.
-/
import Derived.Test.YtedakmhffjhfnaaDoorB08
namespace Go.Proofs.YtedakmhffjhfnaaDoor
open Go.ChangeShapes Go.WideShapes Go.ChangeAt Go.RowKit Go.Maps
set_option linter.unusedVariables false
set_option linter.unusedSimpArgs false
set_option maxRecDepth 100000
section
section
variable {w : World} {g : Nat} {F : Nat -> Prop} {t p s : Int} {L : List (Int × Int)} {R : Nat -> Int}

set_option maxHeartbeats 3200000 in
theorem done_1a (h : IsMod w g F t p s L R) (a b out aux : Int) (ha : -9223372036854775808 <= a /\ a <= 9223372036854775807) (hb : -9223372036854775808 <= b /\ b <= 9223372036854775807) (hT : SlotsLaid w) (u : Int) (hu : rdI t p s a = u) (hnb : needB t p s a = true) (hne2 : aux ≠ u)  : Calls Tryd.prog 29 #[.pointer (some ⟨g, 0, none⟩), .agg #[.int .i64 1, .int .i64 a, .int .i64 b], .agg #[.int .i64 0, .int .i64 out, .int .i64 aux]] w fun e w' => e = .returned (.bool false) /\ Below w.heap.size w w' := by
 have HU : Hid (rdI t p s a = u /\ needB t p s a = true /\ (-9223372036854775808 <= u /\ u <= 9223372036854775807)) := hidp ⟨hu, hnb, by rw [<- hu]; exact rd_lim h.right hnb⟩
 clear hu hnb
 have e2 : (aux == u) = false := by simp [hne2]
 clear hne2
 have HB := hidp (Bnew (Bnew (B0 w) (.cells #[.int .i64 1, .int .i64 a, .int .i64 b] 29)) (.cells #[.int .i64 0, .int .i64 out, .int .i64 aux] 32))
 have HX := hidp ((Held.new w 29 #[.int .i64 1, .int .i64 a, .int .i64 b]).alloc (.cells #[.int .i64 0, .int .i64 out, .int .i64 aux] 32))
 have HY := hidp (Held.new2 w (.cells #[.int .i64 1, .int .i64 a, .int .i64 b] 29) 32 #[.int .i64 0, .int .i64 out, .int .i64 aux])
 have HM := hidp (h.stay HB.out)
 obtain ⟨m, D, hm, hG, hO, hD⟩ := h.ex
 have HD := hidp hD
 have HG := hidp (hG.keep HB.out)
 have HO := hidp (owns_turns hO (Turns.of_below HB.out (fun _ => False)) (fun x => x))
 have HSL := hidp hT
 clear h hm hG hO hD hT
 obtain ⟨x0, x1, x2⟩ := HX.out.three
 obtain ⟨y0, y1, y2⟩ := HY.out.three
 obtain ⟨m0, m1, m2, m3⟩ := mod_cells HG.out
 go_enter Tryd.func29, Tryd.ntmps29
 go_wp2_with fail
 clear x0 x1 x2 y0 y1 y2 m0 m1 m2 m3
 replace HX := hidp (HX.out.keep (Bdrew (B0 _)))
 replace HY := hidp (HY.out.keep (Bdrew (B0 _)))
 replace HM := hidp (HM.out.stay (Bdrew (B0 _)))
 replace HG := hidp (HG.out.keep (Bdrew (B0 _)))
 replace HO := hidp (owns_turns HO.out (Turns.of_below (Bdrew (B0 _)) (fun _ => False)) (fun x => x))
 replace HB := hidp (Bgo HB.out (Bdrew (B0 _)))
 refine wp_region_held_drew (S := (fun w' => (w'.cell? ⟨w.heap.size, 0, none⟩ = some (.int .i64 1) /\ w'.cell? ⟨w.heap.size, 1, none⟩ = some (.int .i64 a) /\ w'.cell? ⟨w.heap.size, 2, none⟩ = some (.int .i64 b)) /\ (w'.cell? ⟨w.heap.size + 1, 0, none⟩ = some (.int .i64 0) /\ w'.cell? ⟨w.heap.size + 1, 1, none⟩ = some (.int .i64 out) /\ w'.cell? ⟨w.heap.size + 1, 2, none⟩ = some (.int .i64 aux)) /\ (w'.cell? ⟨g, 0, none⟩ = some (.int .i64 t) /\ w'.cell? ⟨g, 1, none⟩ = some (.int .i64 p) /\ w'.cell? ⟨g, 2, none⟩ = some (.int .i64 s) /\ w'.cell? ⟨g, 3, none⟩ = some (.map (some m))))) (by kernel_rfl) ?_ (fun hHeld => ?_)
 ·(try dsimp only)
  first | exact ⟨HX.out.three, HY.out.three, mod_cells HG.out⟩ | exact hHeld
 refine tkz 0 ?_
 refine tkz 1 ?_
 refine tkz 2 ?_
 refine tkz 3 ?_
 refine tkz 4 ?_
 refine tkz 5 ?_
 refine rdz 6 fun K hK => ?_
 go_simp
 (refine (mdRound_c t p s a ha _ (HSL.out.below HB.out)).mono ?_; rintro e w1 ⟨rfl, hb⟩; rw [HU.out.1, HU.out.2.1]; replace HX := hidp (HX.out.keep hb); replace HY := hidp (HY.out.keep hb); replace HM := hidp (HM.out.stay hb); replace HG := hidp (HG.out.keep hb); replace HO := hidp (owns_turns HO.out (Turns.of_below hb (fun _ => False)) (fun x => x)); replace HB := hidp (Bgo HB.out hb); clear hb)
 refine hK.out _ _ ?_ (fun hHeld => ?_)
 ·(try dsimp only)
  first | exact ⟨HX.out.three, HY.out.three, mod_cells HG.out⟩ | exact hHeld
 clear hK K
 (try simp only [Act.put, gA, gB, gC, sA, sB, sC])
 refine tkz 7 ?_
 refine tkz 8 ?_
 refine tkz 9 ?_
 refine tkz 10 ?_
 refine tkz 11 ?_
 refine dnz ?_
 obtain ⟨x0, x1, x2⟩ := HX.out.three
 obtain ⟨y0, y1, y2⟩ := HY.out.three
 obtain ⟨m0, m1, m2, m3⟩ := mod_cells HG.out
 go_wp2_with fail
 go_ret
 exact ⟨by first | rfl | (refine ret_bool ?_; simp; done), HB.out⟩

set_option maxHeartbeats 3200000 in
theorem done_1b (h : IsMod w g F t p s L R) (a b out aux : Int) (ha : -9223372036854775808 <= a /\ a <= 9223372036854775807) (hb : -9223372036854775808 <= b /\ b <= 9223372036854775807) (hT : SlotsLaid w) (u : Int) (hu : rdI t p s a = u) (hnb : needB t p s a = true) (hne2 : aux = u) (c : Bool) (hc : freeM (pageN t p s : Int) (endI t p s) L out u (-1) = c) : Calls Tryd.prog 29 #[.pointer (some ⟨g, 0, none⟩), .agg #[.int .i64 1, .int .i64 a, .int .i64 b], .agg #[.int .i64 0, .int .i64 out, .int .i64 aux]] w fun e w' => e = .returned (.bool c) /\ Below w.heap.size w w' := by
 have HU : Hid (rdI t p s a = u /\ needB t p s a = true /\ (-9223372036854775808 <= u /\ u <= 9223372036854775807)) := hidp ⟨hu, hnb, by rw [<- hu]; exact rd_lim h.right hnb⟩
 clear hu hnb
 have e2 : (aux == u) = true := by simp [hne2]
 clear hne2
 have HC := hidp hc
 clear hc
 have HB := hidp (Bnew (Bnew (B0 w) (.cells #[.int .i64 1, .int .i64 a, .int .i64 b] 29)) (.cells #[.int .i64 0, .int .i64 out, .int .i64 aux] 32))
 have HX := hidp ((Held.new w 29 #[.int .i64 1, .int .i64 a, .int .i64 b]).alloc (.cells #[.int .i64 0, .int .i64 out, .int .i64 aux] 32))
 have HY := hidp (Held.new2 w (.cells #[.int .i64 1, .int .i64 a, .int .i64 b] 29) 32 #[.int .i64 0, .int .i64 out, .int .i64 aux])
 have HM := hidp (h.stay HB.out)
 obtain ⟨m, D, hm, hG, hO, hD⟩ := h.ex
 have HD := hidp hD
 have HG := hidp (hG.keep HB.out)
 have HO := hidp (owns_turns hO (Turns.of_below HB.out (fun _ => False)) (fun x => x))
 have HSL := hidp hT
 clear h hm hG hO hD hT
 obtain ⟨x0, x1, x2⟩ := HX.out.three
 obtain ⟨y0, y1, y2⟩ := HY.out.three
 obtain ⟨m0, m1, m2, m3⟩ := mod_cells HG.out
 go_enter Tryd.func29, Tryd.ntmps29
 go_wp2_with fail
 clear x0 x1 x2 y0 y1 y2 m0 m1 m2 m3
 replace HX := hidp (HX.out.keep (Bdrew (B0 _)))
 replace HY := hidp (HY.out.keep (Bdrew (B0 _)))
 replace HM := hidp (HM.out.stay (Bdrew (B0 _)))
 replace HG := hidp (HG.out.keep (Bdrew (B0 _)))
 replace HO := hidp (owns_turns HO.out (Turns.of_below (Bdrew (B0 _)) (fun _ => False)) (fun x => x))
 replace HB := hidp (Bgo HB.out (Bdrew (B0 _)))
 refine wp_region_held_drew (S := (fun w' => (w'.cell? ⟨w.heap.size, 0, none⟩ = some (.int .i64 1) /\ w'.cell? ⟨w.heap.size, 1, none⟩ = some (.int .i64 a) /\ w'.cell? ⟨w.heap.size, 2, none⟩ = some (.int .i64 b)) /\ (w'.cell? ⟨w.heap.size + 1, 0, none⟩ = some (.int .i64 0) /\ w'.cell? ⟨w.heap.size + 1, 1, none⟩ = some (.int .i64 out) /\ w'.cell? ⟨w.heap.size + 1, 2, none⟩ = some (.int .i64 aux)) /\ (w'.cell? ⟨g, 0, none⟩ = some (.int .i64 t) /\ w'.cell? ⟨g, 1, none⟩ = some (.int .i64 p) /\ w'.cell? ⟨g, 2, none⟩ = some (.int .i64 s) /\ w'.cell? ⟨g, 3, none⟩ = some (.map (some m))))) (by kernel_rfl) ?_ (fun hHeld => ?_)
 ·(try dsimp only)
  first | exact ⟨HX.out.three, HY.out.three, mod_cells HG.out⟩ | exact hHeld
 refine tkz 0 ?_
 refine tkz 1 ?_
 refine tkz 2 ?_
 refine tkz 3 ?_
 refine tkz 4 ?_
 refine tkz 5 ?_
 refine rdz 6 fun K hK => ?_
 go_simp
 (refine (mdRound_c t p s a ha _ (HSL.out.below HB.out)).mono ?_; rintro e w1 ⟨rfl, hb⟩; rw [HU.out.1, HU.out.2.1]; replace HX := hidp (HX.out.keep hb); replace HY := hidp (HY.out.keep hb); replace HM := hidp (HM.out.stay hb); replace HG := hidp (HG.out.keep hb); replace HO := hidp (owns_turns HO.out (Turns.of_below hb (fun _ => False)) (fun x => x)); replace HB := hidp (Bgo HB.out hb); clear hb)
 refine hK.out _ _ ?_ (fun hHeld => ?_)
 ·(try dsimp only)
  first | exact ⟨HX.out.three, HY.out.three, mod_cells HG.out⟩ | exact hHeld
 clear hK K
 (try simp only [Act.put, gA, gB, gC, sA, sB, sC])
 refine tkz 7 ?_
 refine tkz 8 ?_
 refine tkz 9 ?_
 refine tkz 10 ?_
 refine tkz 11 ?_
 refine dnz ?_
 obtain ⟨x0, x1, x2⟩ := HX.out.three
 obtain ⟨y0, y1, y2⟩ := HY.out.three
 obtain ⟨m0, m1, m2, m3⟩ := mod_cells HG.out
 go_wp2_with fail
 clear x0 x1 x2 y0 y1 y2 m0 m1 m2 m3
 refine (mdFree_c HM.out out u 0 0 (-1) HU.out.2.2 (own_none HM.out.ins)).mono ?_; rintro e w2 ⟨rfl, hb⟩; rw [HC.out]; replace HX := hidp (HX.out.keep hb); replace HY := hidp (HY.out.keep hb); replace HM := hidp (HM.out.stay hb); replace HG := hidp (HG.out.keep hb); replace HO := hidp (owns_turns HO.out (Turns.of_below hb (fun _ => False)) (fun x => x)); replace HB := hidp (Bgo HB.out hb); clear hb
 go_wp2_with fail
 go_ret
 exact ⟨by first | rfl | (refine ret_bool ?_; simp; done), HB.out⟩

set_option maxHeartbeats 3200000 in
theorem done_4a (h : IsMod w g F t p s L R) (a b out aux : Int) (ha : -9223372036854775808 <= a /\ a <= 9223372036854775807) (hb : -9223372036854775808 <= b /\ b <= 9223372036854775807) (hT : SlotsLaid w) (n : Nat) (h8 : n < 8) (ea : a = (n : Int)) (r : Int) (hr : R n = r) (u : Int) (hu : rdI t p s b = u) (hnb : needB t p s b = true) (hne2 : aux ≠ r)  : Calls Tryd.prog 29 #[.pointer (some ⟨g, 0, none⟩), .agg #[.int .i64 4, .int .i64 a, .int .i64 b], .agg #[.int .i64 0, .int .i64 out, .int .i64 aux]] w fun e w' => e = .returned (.bool false) /\ Below w.heap.size w w' := by
 subst ea
 have h8i : (n : Int) < 8 := by omega
 have HR := hidp hr
 clear hr
 have HU : Hid (rdI t p s b = u /\ needB t p s b = true /\ (-9223372036854775808 <= u /\ u <= 9223372036854775807)) := hidp ⟨hu, hnb, by rw [<- hu]; exact rd_lim h.right hnb⟩
 clear hu hnb
 have e2 : (aux == r) = false := by simp [hne2]
 clear hne2
 have HB := hidp (Bnew (Bnew (B0 w) (.cells #[.int .i64 4, .int .i64 (n : Int), .int .i64 b] 29)) (.cells #[.int .i64 0, .int .i64 out, .int .i64 aux] 32))
 have HX := hidp ((Held.new w 29 #[.int .i64 4, .int .i64 (n : Int), .int .i64 b]).alloc (.cells #[.int .i64 0, .int .i64 out, .int .i64 aux] 32))
 have HY := hidp (Held.new2 w (.cells #[.int .i64 4, .int .i64 (n : Int), .int .i64 b] 29) 32 #[.int .i64 0, .int .i64 out, .int .i64 aux])
 have HM := hidp (h.stay HB.out)
 obtain ⟨m, D, hm, hG, hO, hD⟩ := h.ex
 have HD := hidp hD
 have HG := hidp (hG.keep HB.out)
 have HO := hidp (owns_turns hO (Turns.of_below HB.out (fun _ => False)) (fun x => x))
 have HSL := hidp hT
 clear h hm hG hO hD hT
 obtain ⟨x0, x1, x2⟩ := HX.out.three
 obtain ⟨y0, y1, y2⟩ := HY.out.three
 obtain ⟨m0, m1, m2, m3⟩ := mod_cells HG.out
 go_enter Tryd.func29, Tryd.ntmps29
 go_wp2_with fail
 clear x0 x1 x2 y0 y1 y2 m0 m1 m2 m3
 replace HX := hidp (HX.out.keep (Bdrew (B0 _)))
 replace HY := hidp (HY.out.keep (Bdrew (B0 _)))
 replace HM := hidp (HM.out.stay (Bdrew (B0 _)))
 replace HG := hidp (HG.out.keep (Bdrew (B0 _)))
 replace HO := hidp (owns_turns HO.out (Turns.of_below (Bdrew (B0 _)) (fun _ => False)) (fun x => x))
 replace HB := hidp (Bgo HB.out (Bdrew (B0 _)))
 refine wp_region_held_drew (S := (fun w' => (w'.cell? ⟨w.heap.size, 0, none⟩ = some (.int .i64 4) /\ w'.cell? ⟨w.heap.size, 1, none⟩ = some (.int .i64 (n : Int)) /\ w'.cell? ⟨w.heap.size, 2, none⟩ = some (.int .i64 b)) /\ (w'.cell? ⟨w.heap.size + 1, 0, none⟩ = some (.int .i64 0) /\ w'.cell? ⟨w.heap.size + 1, 1, none⟩ = some (.int .i64 out) /\ w'.cell? ⟨w.heap.size + 1, 2, none⟩ = some (.int .i64 aux)) /\ (w'.cell? ⟨g, 0, none⟩ = some (.int .i64 t) /\ w'.cell? ⟨g, 1, none⟩ = some (.int .i64 p) /\ w'.cell? ⟨g, 2, none⟩ = some (.int .i64 s) /\ w'.cell? ⟨g, 3, none⟩ = some (.map (some m))))) (by kernel_rfl) ?_ (fun hHeld => ?_)
 ·(try dsimp only)
  first | exact ⟨HX.out.three, HY.out.three, mod_cells HG.out⟩ | exact hHeld
 refine tkz 0 ?_
 refine tkz 1 ?_
 refine tkz 2 ?_
 refine tkz 3 ?_
 refine tkz 4 ?_
 refine tkz 5 ?_
 refine rdz 6 fun K hK => ?_
 go_simp
 (refine (mdRound_c t p s b hb _ (HSL.out.below HB.out)).mono ?_; rintro e w1 ⟨rfl, hb⟩; rw [HU.out.1, HU.out.2.1]; replace HX := hidp (HX.out.keep hb); replace HY := hidp (HY.out.keep hb); replace HM := hidp (HM.out.stay hb); replace HG := hidp (HG.out.keep hb); replace HO := hidp (owns_turns HO.out (Turns.of_below hb (fun _ => False)) (fun x => x)); replace HB := hidp (Bgo HB.out hb); clear hb)
 refine hK.out _ _ ?_ (fun hHeld => ?_)
 ·(try dsimp only)
  first | exact ⟨HX.out.three, HY.out.three, mod_cells HG.out⟩ | exact hHeld
 clear hK K
 (try simp only [Act.put, gA, gB, gC, sA, sB, sC])
 refine tkz 7 ?_
 refine tkz 8 ?_
 refine tkz 9 ?_
 refine tkz 10 ?_
 refine tkz 11 ?_
 refine dnz ?_
 obtain ⟨x0, x1, x2⟩ := HX.out.three
 obtain ⟨y0, y1, y2⟩ := HY.out.three
 obtain ⟨m0, m1, m2, m3⟩ := mod_cells HG.out
 go_wp2_with fail
 clear x0 x1 x2 y0 y1 y2 m0 m1 m2 m3
 replace HX := hidp (HX.out.keep (Bdrew (B0 _)))
 replace HY := hidp (HY.out.keep (Bdrew (B0 _)))
 replace HM := hidp (HM.out.stay (Bdrew (B0 _)))
 replace HG := hidp (HG.out.keep (Bdrew (B0 _)))
 replace HO := hidp (owns_turns HO.out (Turns.of_below (Bdrew (B0 _)) (fun _ => False)) (fun x => x))
 replace HB := hidp (Bgo HB.out (Bdrew (B0 _)))
 refine wp_region_held_drew (S := (fun w' => (w'.cell? ⟨w.heap.size, 0, none⟩ = some (.int .i64 4) /\ w'.cell? ⟨w.heap.size, 1, none⟩ = some (.int .i64 (n : Int)) /\ w'.cell? ⟨w.heap.size, 2, none⟩ = some (.int .i64 b)) /\ (w'.cell? ⟨w.heap.size + 1, 0, none⟩ = some (.int .i64 0) /\ w'.cell? ⟨w.heap.size + 1, 1, none⟩ = some (.int .i64 out) /\ w'.cell? ⟨w.heap.size + 1, 2, none⟩ = some (.int .i64 aux)) /\ (w'.cell? ⟨g, 0, none⟩ = some (.int .i64 t) /\ w'.cell? ⟨g, 1, none⟩ = some (.int .i64 p) /\ w'.cell? ⟨g, 2, none⟩ = some (.int .i64 s) /\ w'.cell? ⟨g, 3, none⟩ = some (.map (some m))) /\ w'.cell? ⟨g, 4 + n, none⟩ = some (.int .i64 r))) (by kernel_rfl) ?_ (fun hHeld => ?_)
 ·(try dsimp only)
  first | exact ⟨HX.out.three, HY.out.three, mod_cells HG.out, (by have := mod_root HG.out h8; rwa [HR.out] at this)⟩ | exact hHeld
 refine tkz 0 ?_
 refine tkz 1 ?_
 refine tkz 2 ?_
 refine tkz 3 ?_
 refine tkz 4 ?_
 refine tkz 5 ?_
 refine tkz 6 ?_
 refine tkz 7 ?_
 refine tkz 8 ?_
 refine tkz 9 ?_
 refine tkz 10 ?_
 refine skz 11 ?_
 refine skz 12 ?_
 refine skz 13 ?_
 refine skz 14 ?_
 refine skz 15 ?_
 refine skz 16 ?_
 refine skz 17 ?_
 refine tkz 18 ?_
 refine tkz 19 ?_
 refine dnz ?_
 obtain ⟨x0, x1, x2⟩ := HX.out.three
 obtain ⟨y0, y1, y2⟩ := HY.out.three
 obtain ⟨m0, m1, m2, m3⟩ := mod_cells HG.out
 go_wp2_with fail
 go_ret
 exact ⟨by first | rfl | (refine ret_bool ?_; simp; done), HB.out⟩

set_option maxHeartbeats 3200000 in
theorem done_4b (h : IsMod w g F t p s L R) (a b out aux : Int) (ha : -9223372036854775808 <= a /\ a <= 9223372036854775807) (hb : -9223372036854775808 <= b /\ b <= 9223372036854775807) (hT : SlotsLaid w) (n : Nat) (h8 : n < 8) (ea : a = (n : Int)) (r : Int) (hr : R n = r) (u : Int) (hu : rdI t p s b = u) (hnb : needB t p s b = true) (hne2 : aux = r) (c : Bool) (hc : freeM (pageN t p s : Int) (endI t p s) L out u (-1) = c) : Calls Tryd.prog 29 #[.pointer (some ⟨g, 0, none⟩), .agg #[.int .i64 4, .int .i64 a, .int .i64 b], .agg #[.int .i64 0, .int .i64 out, .int .i64 aux]] w fun e w' => e = .returned (.bool c) /\ Below w.heap.size w w' := by
 subst ea
 have h8i : (n : Int) < 8 := by omega
 have HR := hidp hr
 clear hr
 have HU : Hid (rdI t p s b = u /\ needB t p s b = true /\ (-9223372036854775808 <= u /\ u <= 9223372036854775807)) := hidp ⟨hu, hnb, by rw [<- hu]; exact rd_lim h.right hnb⟩
 clear hu hnb
 have e2 : (aux == r) = true := by simp [hne2]
 clear hne2
 have HC := hidp hc
 clear hc
 have HB := hidp (Bnew (Bnew (B0 w) (.cells #[.int .i64 4, .int .i64 (n : Int), .int .i64 b] 29)) (.cells #[.int .i64 0, .int .i64 out, .int .i64 aux] 32))
 have HX := hidp ((Held.new w 29 #[.int .i64 4, .int .i64 (n : Int), .int .i64 b]).alloc (.cells #[.int .i64 0, .int .i64 out, .int .i64 aux] 32))
 have HY := hidp (Held.new2 w (.cells #[.int .i64 4, .int .i64 (n : Int), .int .i64 b] 29) 32 #[.int .i64 0, .int .i64 out, .int .i64 aux])
 have HM := hidp (h.stay HB.out)
 obtain ⟨m, D, hm, hG, hO, hD⟩ := h.ex
 have HD := hidp hD
 have HG := hidp (hG.keep HB.out)
 have HO := hidp (owns_turns hO (Turns.of_below HB.out (fun _ => False)) (fun x => x))
 have HSL := hidp hT
 clear h hm hG hO hD hT
 obtain ⟨x0, x1, x2⟩ := HX.out.three
 obtain ⟨y0, y1, y2⟩ := HY.out.three
 obtain ⟨m0, m1, m2, m3⟩ := mod_cells HG.out
 go_enter Tryd.func29, Tryd.ntmps29
 go_wp2_with fail
 clear x0 x1 x2 y0 y1 y2 m0 m1 m2 m3
 replace HX := hidp (HX.out.keep (Bdrew (B0 _)))
 replace HY := hidp (HY.out.keep (Bdrew (B0 _)))
 replace HM := hidp (HM.out.stay (Bdrew (B0 _)))
 replace HG := hidp (HG.out.keep (Bdrew (B0 _)))
 replace HO := hidp (owns_turns HO.out (Turns.of_below (Bdrew (B0 _)) (fun _ => False)) (fun x => x))
 replace HB := hidp (Bgo HB.out (Bdrew (B0 _)))
 refine wp_region_held_drew (S := (fun w' => (w'.cell? ⟨w.heap.size, 0, none⟩ = some (.int .i64 4) /\ w'.cell? ⟨w.heap.size, 1, none⟩ = some (.int .i64 (n : Int)) /\ w'.cell? ⟨w.heap.size, 2, none⟩ = some (.int .i64 b)) /\ (w'.cell? ⟨w.heap.size + 1, 0, none⟩ = some (.int .i64 0) /\ w'.cell? ⟨w.heap.size + 1, 1, none⟩ = some (.int .i64 out) /\ w'.cell? ⟨w.heap.size + 1, 2, none⟩ = some (.int .i64 aux)) /\ (w'.cell? ⟨g, 0, none⟩ = some (.int .i64 t) /\ w'.cell? ⟨g, 1, none⟩ = some (.int .i64 p) /\ w'.cell? ⟨g, 2, none⟩ = some (.int .i64 s) /\ w'.cell? ⟨g, 3, none⟩ = some (.map (some m))))) (by kernel_rfl) ?_ (fun hHeld => ?_)
 ·(try dsimp only)
  first | exact ⟨HX.out.three, HY.out.three, mod_cells HG.out⟩ | exact hHeld
 refine tkz 0 ?_
 refine tkz 1 ?_
 refine tkz 2 ?_
 refine tkz 3 ?_
 refine tkz 4 ?_
 refine tkz 5 ?_
 refine rdz 6 fun K hK => ?_
 go_simp
 (refine (mdRound_c t p s b hb _ (HSL.out.below HB.out)).mono ?_; rintro e w1 ⟨rfl, hb⟩; rw [HU.out.1, HU.out.2.1]; replace HX := hidp (HX.out.keep hb); replace HY := hidp (HY.out.keep hb); replace HM := hidp (HM.out.stay hb); replace HG := hidp (HG.out.keep hb); replace HO := hidp (owns_turns HO.out (Turns.of_below hb (fun _ => False)) (fun x => x)); replace HB := hidp (Bgo HB.out hb); clear hb)
 refine hK.out _ _ ?_ (fun hHeld => ?_)
 ·(try dsimp only)
  first | exact ⟨HX.out.three, HY.out.three, mod_cells HG.out⟩ | exact hHeld
 clear hK K
 (try simp only [Act.put, gA, gB, gC, sA, sB, sC])
 refine tkz 7 ?_
 refine tkz 8 ?_
 refine tkz 9 ?_
 refine tkz 10 ?_
 refine tkz 11 ?_
 refine dnz ?_
 obtain ⟨x0, x1, x2⟩ := HX.out.three
 obtain ⟨y0, y1, y2⟩ := HY.out.three
 obtain ⟨m0, m1, m2, m3⟩ := mod_cells HG.out
 go_wp2_with fail
 clear x0 x1 x2 y0 y1 y2 m0 m1 m2 m3
 replace HX := hidp (HX.out.keep (Bdrew (B0 _)))
 replace HY := hidp (HY.out.keep (Bdrew (B0 _)))
 replace HM := hidp (HM.out.stay (Bdrew (B0 _)))
 replace HG := hidp (HG.out.keep (Bdrew (B0 _)))
 replace HO := hidp (owns_turns HO.out (Turns.of_below (Bdrew (B0 _)) (fun _ => False)) (fun x => x))
 replace HB := hidp (Bgo HB.out (Bdrew (B0 _)))
 refine wp_region_held_drew (S := (fun w' => (w'.cell? ⟨w.heap.size, 0, none⟩ = some (.int .i64 4) /\ w'.cell? ⟨w.heap.size, 1, none⟩ = some (.int .i64 (n : Int)) /\ w'.cell? ⟨w.heap.size, 2, none⟩ = some (.int .i64 b)) /\ (w'.cell? ⟨w.heap.size + 1, 0, none⟩ = some (.int .i64 0) /\ w'.cell? ⟨w.heap.size + 1, 1, none⟩ = some (.int .i64 out) /\ w'.cell? ⟨w.heap.size + 1, 2, none⟩ = some (.int .i64 aux)) /\ (w'.cell? ⟨g, 0, none⟩ = some (.int .i64 t) /\ w'.cell? ⟨g, 1, none⟩ = some (.int .i64 p) /\ w'.cell? ⟨g, 2, none⟩ = some (.int .i64 s) /\ w'.cell? ⟨g, 3, none⟩ = some (.map (some m))) /\ w'.cell? ⟨g, 4 + n, none⟩ = some (.int .i64 r))) (by kernel_rfl) ?_ (fun hHeld => ?_)
 ·(try dsimp only)
  first | exact ⟨HX.out.three, HY.out.three, mod_cells HG.out, (by have := mod_root HG.out h8; rwa [HR.out] at this)⟩ | exact hHeld
 refine tkz 0 ?_
 refine tkz 1 ?_
 refine tkz 2 ?_
 refine tkz 3 ?_
 refine tkz 4 ?_
 refine tkz 5 ?_
 refine tkz 6 ?_
 refine tkz 7 ?_
 refine tkz 8 ?_
 refine tkz 9 ?_
 refine tkz 10 ?_
 refine tkz 11 ?_
 refine tkz 12 ?_
 refine tkz 13 ?_
 refine tkz 14 ?_
 refine tkz 15 ?_
 refine tkz 16 ?_
 refine rdz 17 fun K hK => ?_
 go_simp
 (refine (mdFree_c HM.out out u 0 0 (-1) HU.out.2.2 (own_none HM.out.ins)).mono ?_; rintro e w2 ⟨rfl, hb⟩; rw [HC.out]; replace HX := hidp (HX.out.keep hb); replace HY := hidp (HY.out.keep hb); replace HM := hidp (HM.out.stay hb); replace HG := hidp (HG.out.keep hb); replace HO := hidp (owns_turns HO.out (Turns.of_below hb (fun _ => False)) (fun x => x)); replace HB := hidp (Bgo HB.out hb); clear hb)
 refine hK.out _ _ ?_ (fun hHeld => ?_)
 ·(try dsimp only)
  first | exact ⟨HX.out.three, HY.out.three, mod_cells HG.out, (by have := mod_root HG.out h8; rwa [HR.out] at this)⟩ | exact hHeld
 clear hK K
 (try simp only [Act.put, gA, gB, gC, sA, sB, sC])
 refine tkz 18 ?_
 refine tkz 19 ?_
 refine dnz ?_
 obtain ⟨x0, x1, x2⟩ := HX.out.three
 obtain ⟨y0, y1, y2⟩ := HY.out.three
 obtain ⟨m0, m1, m2, m3⟩ := mod_cells HG.out
 go_wp2_with fail
 go_ret
 exact ⟨by first | rfl | (refine ret_bool ?_; simp; done), HB.out⟩

set_option maxHeartbeats 3200000 in
theorem done_2a (h : IsMod w g F t p s L R) (a b out aux : Int) (ha : -9223372036854775808 <= a /\ a <= 9223372036854775807) (hb : -9223372036854775808 <= b /\ b <= 9223372036854775807) (hT : SlotsLaid w) (z1 z2 : Int) (hz : blkAt L a = (z1, z2)) (hne1 : out ≠ z2)  : Calls Tryd.prog 29 #[.pointer (some ⟨g, 0, none⟩), .agg #[.int .i64 2, .int .i64 a, .int .i64 b], .agg #[.int .i64 0, .int .i64 out, .int .i64 aux]] w fun e w' => e = .returned (.bool false) /\ Below w.heap.size w w' := by
 have HAT := hidp hz
 clear hz
 have e1 : (out == z2) = false := by simp [hne1]
 clear hne1
 have HB := hidp (Bnew (Bnew (B0 w) (.cells #[.int .i64 2, .int .i64 a, .int .i64 b] 29)) (.cells #[.int .i64 0, .int .i64 out, .int .i64 aux] 32))
 have HX := hidp ((Held.new w 29 #[.int .i64 2, .int .i64 a, .int .i64 b]).alloc (.cells #[.int .i64 0, .int .i64 out, .int .i64 aux] 32))
 have HY := hidp (Held.new2 w (.cells #[.int .i64 2, .int .i64 a, .int .i64 b] 29) 32 #[.int .i64 0, .int .i64 out, .int .i64 aux])
 have HM := hidp (h.stay HB.out)
 obtain ⟨m, D, hm, hG, hO, hD⟩ := h.ex
 have HD := hidp hD
 have HG := hidp (hG.keep HB.out)
 have HO := hidp (owns_turns hO (Turns.of_below HB.out (fun _ => False)) (fun x => x))
 have HSL := hidp hT
 clear h hm hG hO hD hT
 obtain ⟨x0, x1, x2⟩ := HX.out.three
 obtain ⟨y0, y1, y2⟩ := HY.out.three
 obtain ⟨m0, m1, m2, m3⟩ := mod_cells HG.out
 go_enter Tryd.func29, Tryd.ntmps29
 go_wp2_with fail
 refine (mdAt_c HM.out a).mono ?_; rintro e w2 ⟨rfl, hb⟩; rw [HAT.out]
 clear x0 x1 x2 y0 y1 y2 m0 m1 m2 m3
 replace HX := hidp (HX.out.keep hb)
 replace HY := hidp (HY.out.keep hb)
 replace HM := hidp (HM.out.stay hb)
 replace HG := hidp (HG.out.keep hb)
 replace HO := hidp (owns_turns HO.out (Turns.of_below hb (fun _ => False)) (fun x => x))
 replace HB := hidp (Bgo HB.out hb)
 clear hb
 have HN := hidp (Held.new w2 55 #[.int .i64 z1, .int .i64 z2])
 replace HX := hidp (HX.out.keep (Bnew (B0 w2) (.cells #[.int .i64 z1, .int .i64 z2] 55)))
 replace HY := hidp (HY.out.keep (Bnew (B0 w2) (.cells #[.int .i64 z1, .int .i64 z2] 55)))
 replace HM := hidp (HM.out.stay (Bnew (B0 w2) (.cells #[.int .i64 z1, .int .i64 z2] 55)))
 replace HG := hidp (HG.out.keep (Bnew (B0 w2) (.cells #[.int .i64 z1, .int .i64 z2] 55)))
 replace HO := hidp (owns_turns HO.out (Turns.of_below (Bnew (B0 w2) (.cells #[.int .i64 z1, .int .i64 z2] 55)) (fun _ => False)) (fun x => x))
 replace HB := hidp (Bgo HB.out (Bnew (B0 w2) (.cells #[.int .i64 z1, .int .i64 z2] 55)))
 obtain ⟨n0, n1⟩ := HN.out.two
 obtain ⟨x0, x1, x2⟩ := HX.out.three
 obtain ⟨y0, y1, y2⟩ := HY.out.three
 obtain ⟨m0, m1, m2, m3⟩ := mod_cells HG.out
 go_wp2_with fail
 go_ret
 exact ⟨by first | rfl | (refine ret_bool ?_; simp; done), HB.out⟩

set_option maxHeartbeats 3200000 in
theorem done_2b (h : IsMod w g F t p s L R) (a b out aux : Int) (ha : -9223372036854775808 <= a /\ a <= 9223372036854775807) (hb : -9223372036854775808 <= b /\ b <= 9223372036854775807) (hT : SlotsLaid w) (z1 z2 : Int) (hz : blkAt L a = (z1, z2)) (hne1 : out = z2) (hne2 : aux ≠ 0)  : Calls Tryd.prog 29 #[.pointer (some ⟨g, 0, none⟩), .agg #[.int .i64 2, .int .i64 a, .int .i64 b], .agg #[.int .i64 0, .int .i64 out, .int .i64 aux]] w fun e w' => e = .returned (.bool false) /\ Below w.heap.size w w' := by
 have HAT := hidp hz
 clear hz
 have e1 : (out == z2) = true := by simp [hne1]
 clear hne1
 have e2 : (aux == 0) = false := by simp [hne2]
 clear hne2
 have HB := hidp (Bnew (Bnew (B0 w) (.cells #[.int .i64 2, .int .i64 a, .int .i64 b] 29)) (.cells #[.int .i64 0, .int .i64 out, .int .i64 aux] 32))
 have HX := hidp ((Held.new w 29 #[.int .i64 2, .int .i64 a, .int .i64 b]).alloc (.cells #[.int .i64 0, .int .i64 out, .int .i64 aux] 32))
 have HY := hidp (Held.new2 w (.cells #[.int .i64 2, .int .i64 a, .int .i64 b] 29) 32 #[.int .i64 0, .int .i64 out, .int .i64 aux])
 have HM := hidp (h.stay HB.out)
 obtain ⟨m, D, hm, hG, hO, hD⟩ := h.ex
 have HD := hidp hD
 have HG := hidp (hG.keep HB.out)
 have HO := hidp (owns_turns hO (Turns.of_below HB.out (fun _ => False)) (fun x => x))
 have HSL := hidp hT
 clear h hm hG hO hD hT
 obtain ⟨x0, x1, x2⟩ := HX.out.three
 obtain ⟨y0, y1, y2⟩ := HY.out.three
 obtain ⟨m0, m1, m2, m3⟩ := mod_cells HG.out
 go_enter Tryd.func29, Tryd.ntmps29
 go_wp2_with fail
 refine (mdAt_c HM.out a).mono ?_; rintro e w2 ⟨rfl, hb⟩; rw [HAT.out]
 clear x0 x1 x2 y0 y1 y2 m0 m1 m2 m3
 replace HX := hidp (HX.out.keep hb)
 replace HY := hidp (HY.out.keep hb)
 replace HM := hidp (HM.out.stay hb)
 replace HG := hidp (HG.out.keep hb)
 replace HO := hidp (owns_turns HO.out (Turns.of_below hb (fun _ => False)) (fun x => x))
 replace HB := hidp (Bgo HB.out hb)
 clear hb
 have HN := hidp (Held.new w2 55 #[.int .i64 z1, .int .i64 z2])
 replace HX := hidp (HX.out.keep (Bnew (B0 w2) (.cells #[.int .i64 z1, .int .i64 z2] 55)))
 replace HY := hidp (HY.out.keep (Bnew (B0 w2) (.cells #[.int .i64 z1, .int .i64 z2] 55)))
 replace HM := hidp (HM.out.stay (Bnew (B0 w2) (.cells #[.int .i64 z1, .int .i64 z2] 55)))
 replace HG := hidp (HG.out.keep (Bnew (B0 w2) (.cells #[.int .i64 z1, .int .i64 z2] 55)))
 replace HO := hidp (owns_turns HO.out (Turns.of_below (Bnew (B0 w2) (.cells #[.int .i64 z1, .int .i64 z2] 55)) (fun _ => False)) (fun x => x))
 replace HB := hidp (Bgo HB.out (Bnew (B0 w2) (.cells #[.int .i64 z1, .int .i64 z2] 55)))
 obtain ⟨n0, n1⟩ := HN.out.two
 obtain ⟨x0, x1, x2⟩ := HX.out.three
 obtain ⟨y0, y1, y2⟩ := HY.out.three
 obtain ⟨m0, m1, m2, m3⟩ := mod_cells HG.out
 go_wp2_with fail
 go_ret
 exact ⟨by first | rfl | (refine ret_bool ?_; simp; done), HB.out⟩

set_option maxHeartbeats 3200000 in
theorem done_2c (h : IsMod w g F t p s L R) (a b out aux : Int) (ha : -9223372036854775808 <= a /\ a <= 9223372036854775807) (hb : -9223372036854775808 <= b /\ b <= 9223372036854775807) (hT : SlotsLaid w) (z1 z2 : Int) (hz : blkAt L a = (z1, z2)) (hne1 : out = z2) (hne2 : aux = 0)  : Calls Tryd.prog 29 #[.pointer (some ⟨g, 0, none⟩), .agg #[.int .i64 2, .int .i64 a, .int .i64 b], .agg #[.int .i64 0, .int .i64 out, .int .i64 aux]] w fun e w' => e = .returned (.bool true) /\ Below w.heap.size w w' := by
 have HAT := hidp hz
 clear hz
 have e1 : (out == z2) = true := by simp [hne1]
 clear hne1
 have e2 : (aux == 0) = true := by simp [hne2]
 clear hne2
 have HB := hidp (Bnew (Bnew (B0 w) (.cells #[.int .i64 2, .int .i64 a, .int .i64 b] 29)) (.cells #[.int .i64 0, .int .i64 out, .int .i64 aux] 32))
 have HX := hidp ((Held.new w 29 #[.int .i64 2, .int .i64 a, .int .i64 b]).alloc (.cells #[.int .i64 0, .int .i64 out, .int .i64 aux] 32))
 have HY := hidp (Held.new2 w (.cells #[.int .i64 2, .int .i64 a, .int .i64 b] 29) 32 #[.int .i64 0, .int .i64 out, .int .i64 aux])
 have HM := hidp (h.stay HB.out)
 obtain ⟨m, D, hm, hG, hO, hD⟩ := h.ex
 have HD := hidp hD
 have HG := hidp (hG.keep HB.out)
 have HO := hidp (owns_turns hO (Turns.of_below HB.out (fun _ => False)) (fun x => x))
 have HSL := hidp hT
 clear h hm hG hO hD hT
 obtain ⟨x0, x1, x2⟩ := HX.out.three
 obtain ⟨y0, y1, y2⟩ := HY.out.three
 obtain ⟨m0, m1, m2, m3⟩ := mod_cells HG.out
 go_enter Tryd.func29, Tryd.ntmps29
 go_wp2_with fail
 refine (mdAt_c HM.out a).mono ?_; rintro e w2 ⟨rfl, hb⟩; rw [HAT.out]
 clear x0 x1 x2 y0 y1 y2 m0 m1 m2 m3
 replace HX := hidp (HX.out.keep hb)
 replace HY := hidp (HY.out.keep hb)
 replace HM := hidp (HM.out.stay hb)
 replace HG := hidp (HG.out.keep hb)
 replace HO := hidp (owns_turns HO.out (Turns.of_below hb (fun _ => False)) (fun x => x))
 replace HB := hidp (Bgo HB.out hb)
 clear hb
 have HN := hidp (Held.new w2 55 #[.int .i64 z1, .int .i64 z2])
 replace HX := hidp (HX.out.keep (Bnew (B0 w2) (.cells #[.int .i64 z1, .int .i64 z2] 55)))
 replace HY := hidp (HY.out.keep (Bnew (B0 w2) (.cells #[.int .i64 z1, .int .i64 z2] 55)))
 replace HM := hidp (HM.out.stay (Bnew (B0 w2) (.cells #[.int .i64 z1, .int .i64 z2] 55)))
 replace HG := hidp (HG.out.keep (Bnew (B0 w2) (.cells #[.int .i64 z1, .int .i64 z2] 55)))
 replace HO := hidp (owns_turns HO.out (Turns.of_below (Bnew (B0 w2) (.cells #[.int .i64 z1, .int .i64 z2] 55)) (fun _ => False)) (fun x => x))
 replace HB := hidp (Bgo HB.out (Bnew (B0 w2) (.cells #[.int .i64 z1, .int .i64 z2] 55)))
 obtain ⟨n0, n1⟩ := HN.out.two
 obtain ⟨x0, x1, x2⟩ := HX.out.three
 obtain ⟨y0, y1, y2⟩ := HY.out.three
 obtain ⟨m0, m1, m2, m3⟩ := mod_cells HG.out
 go_wp2_with fail
 go_ret
 exact ⟨by first | rfl | (refine ret_bool ?_; simp; done), HB.out⟩

set_option maxHeartbeats 3200000 in
theorem done_7a (h : IsMod w g F t p s L R) (a b out aux : Int) (ha : -9223372036854775808 <= a /\ a <= 9223372036854775807) (hb : -9223372036854775808 <= b /\ b <= 9223372036854775807) (hT : SlotsLaid w) (z1 z2 : Int) (hz : blkAt L a = (z1, z2)) (hne1 : out ≠ z2)  : Calls Tryd.prog 29 #[.pointer (some ⟨g, 0, none⟩), .agg #[.int .i64 7, .int .i64 a, .int .i64 b], .agg #[.int .i64 0, .int .i64 out, .int .i64 aux]] w fun e w' => e = .returned (.bool false) /\ Below w.heap.size w w' := by
 have HAT := hidp hz
 clear hz
 have e1 : (out == z2) = false := by simp [hne1]
 clear hne1
 have HB := hidp (Bnew (Bnew (B0 w) (.cells #[.int .i64 7, .int .i64 a, .int .i64 b] 29)) (.cells #[.int .i64 0, .int .i64 out, .int .i64 aux] 32))
 have HX := hidp ((Held.new w 29 #[.int .i64 7, .int .i64 a, .int .i64 b]).alloc (.cells #[.int .i64 0, .int .i64 out, .int .i64 aux] 32))
 have HY := hidp (Held.new2 w (.cells #[.int .i64 7, .int .i64 a, .int .i64 b] 29) 32 #[.int .i64 0, .int .i64 out, .int .i64 aux])
 have HM := hidp (h.stay HB.out)
 obtain ⟨m, D, hm, hG, hO, hD⟩ := h.ex
 have HD := hidp hD
 have HG := hidp (hG.keep HB.out)
 have HO := hidp (owns_turns hO (Turns.of_below HB.out (fun _ => False)) (fun x => x))
 have HSL := hidp hT
 clear h hm hG hO hD hT
 obtain ⟨x0, x1, x2⟩ := HX.out.three
 obtain ⟨y0, y1, y2⟩ := HY.out.three
 obtain ⟨m0, m1, m2, m3⟩ := mod_cells HG.out
 go_enter Tryd.func29, Tryd.ntmps29
 go_wp2_with fail
 refine (mdAt_c HM.out a).mono ?_; rintro e w2 ⟨rfl, hb⟩; rw [HAT.out]
 clear x0 x1 x2 y0 y1 y2 m0 m1 m2 m3
 replace HX := hidp (HX.out.keep hb)
 replace HY := hidp (HY.out.keep hb)
 replace HM := hidp (HM.out.stay hb)
 replace HG := hidp (HG.out.keep hb)
 replace HO := hidp (owns_turns HO.out (Turns.of_below hb (fun _ => False)) (fun x => x))
 replace HB := hidp (Bgo HB.out hb)
 clear hb
 have HN := hidp (Held.new w2 55 #[.int .i64 z1, .int .i64 z2])
 replace HX := hidp (HX.out.keep (Bnew (B0 w2) (.cells #[.int .i64 z1, .int .i64 z2] 55)))
 replace HY := hidp (HY.out.keep (Bnew (B0 w2) (.cells #[.int .i64 z1, .int .i64 z2] 55)))
 replace HM := hidp (HM.out.stay (Bnew (B0 w2) (.cells #[.int .i64 z1, .int .i64 z2] 55)))
 replace HG := hidp (HG.out.keep (Bnew (B0 w2) (.cells #[.int .i64 z1, .int .i64 z2] 55)))
 replace HO := hidp (owns_turns HO.out (Turns.of_below (Bnew (B0 w2) (.cells #[.int .i64 z1, .int .i64 z2] 55)) (fun _ => False)) (fun x => x))
 replace HB := hidp (Bgo HB.out (Bnew (B0 w2) (.cells #[.int .i64 z1, .int .i64 z2] 55)))
 obtain ⟨n0, n1⟩ := HN.out.two
 obtain ⟨x0, x1, x2⟩ := HX.out.three
 obtain ⟨y0, y1, y2⟩ := HY.out.three
 obtain ⟨m0, m1, m2, m3⟩ := mod_cells HG.out
 go_wp2_with fail
 go_ret
 exact ⟨by first | rfl | (refine ret_bool ?_; simp; done), HB.out⟩

set_option maxHeartbeats 3200000 in
theorem done_7b (h : IsMod w g F t p s L R) (a b out aux : Int) (ha : -9223372036854775808 <= a /\ a <= 9223372036854775807) (hb : -9223372036854775808 <= b /\ b <= 9223372036854775807) (hT : SlotsLaid w) (z1 z2 : Int) (hz : blkAt L a = (z1, z2)) (hne1 : out = z2) (hne2 : aux ≠ 0)  : Calls Tryd.prog 29 #[.pointer (some ⟨g, 0, none⟩), .agg #[.int .i64 7, .int .i64 a, .int .i64 b], .agg #[.int .i64 0, .int .i64 out, .int .i64 aux]] w fun e w' => e = .returned (.bool false) /\ Below w.heap.size w w' := by
 have HAT := hidp hz
 clear hz
 have e1 : (out == z2) = true := by simp [hne1]
 clear hne1
 have e2 : (aux == 0) = false := by simp [hne2]
 clear hne2
 have HB := hidp (Bnew (Bnew (B0 w) (.cells #[.int .i64 7, .int .i64 a, .int .i64 b] 29)) (.cells #[.int .i64 0, .int .i64 out, .int .i64 aux] 32))
 have HX := hidp ((Held.new w 29 #[.int .i64 7, .int .i64 a, .int .i64 b]).alloc (.cells #[.int .i64 0, .int .i64 out, .int .i64 aux] 32))
 have HY := hidp (Held.new2 w (.cells #[.int .i64 7, .int .i64 a, .int .i64 b] 29) 32 #[.int .i64 0, .int .i64 out, .int .i64 aux])
 have HM := hidp (h.stay HB.out)
 obtain ⟨m, D, hm, hG, hO, hD⟩ := h.ex
 have HD := hidp hD
 have HG := hidp (hG.keep HB.out)
 have HO := hidp (owns_turns hO (Turns.of_below HB.out (fun _ => False)) (fun x => x))
 have HSL := hidp hT
 clear h hm hG hO hD hT
 obtain ⟨x0, x1, x2⟩ := HX.out.three
 obtain ⟨y0, y1, y2⟩ := HY.out.three
 obtain ⟨m0, m1, m2, m3⟩ := mod_cells HG.out
 go_enter Tryd.func29, Tryd.ntmps29
 go_wp2_with fail
 refine (mdAt_c HM.out a).mono ?_; rintro e w2 ⟨rfl, hb⟩; rw [HAT.out]
 clear x0 x1 x2 y0 y1 y2 m0 m1 m2 m3
 replace HX := hidp (HX.out.keep hb)
 replace HY := hidp (HY.out.keep hb)
 replace HM := hidp (HM.out.stay hb)
 replace HG := hidp (HG.out.keep hb)
 replace HO := hidp (owns_turns HO.out (Turns.of_below hb (fun _ => False)) (fun x => x))
 replace HB := hidp (Bgo HB.out hb)
 clear hb
 have HN := hidp (Held.new w2 55 #[.int .i64 z1, .int .i64 z2])
 replace HX := hidp (HX.out.keep (Bnew (B0 w2) (.cells #[.int .i64 z1, .int .i64 z2] 55)))
 replace HY := hidp (HY.out.keep (Bnew (B0 w2) (.cells #[.int .i64 z1, .int .i64 z2] 55)))
 replace HM := hidp (HM.out.stay (Bnew (B0 w2) (.cells #[.int .i64 z1, .int .i64 z2] 55)))
 replace HG := hidp (HG.out.keep (Bnew (B0 w2) (.cells #[.int .i64 z1, .int .i64 z2] 55)))
 replace HO := hidp (owns_turns HO.out (Turns.of_below (Bnew (B0 w2) (.cells #[.int .i64 z1, .int .i64 z2] 55)) (fun _ => False)) (fun x => x))
 replace HB := hidp (Bgo HB.out (Bnew (B0 w2) (.cells #[.int .i64 z1, .int .i64 z2] 55)))
 obtain ⟨n0, n1⟩ := HN.out.two
 obtain ⟨x0, x1, x2⟩ := HX.out.three
 obtain ⟨y0, y1, y2⟩ := HY.out.three
 obtain ⟨m0, m1, m2, m3⟩ := mod_cells HG.out
 go_wp2_with fail
 go_ret
 exact ⟨by first | rfl | (refine ret_bool ?_; simp; done), HB.out⟩

set_option maxHeartbeats 3200000 in
theorem done_7c (h : IsMod w g F t p s L R) (a b out aux : Int) (ha : -9223372036854775808 <= a /\ a <= 9223372036854775807) (hb : -9223372036854775808 <= b /\ b <= 9223372036854775807) (hT : SlotsLaid w) (z1 z2 : Int) (hz : blkAt L a = (z1, z2)) (hne1 : out = z2) (hne2 : aux = 0)  : Calls Tryd.prog 29 #[.pointer (some ⟨g, 0, none⟩), .agg #[.int .i64 7, .int .i64 a, .int .i64 b], .agg #[.int .i64 0, .int .i64 out, .int .i64 aux]] w fun e w' => e = .returned (.bool true) /\ Below w.heap.size w w' := by
 have HAT := hidp hz
 clear hz
 have e1 : (out == z2) = true := by simp [hne1]
 clear hne1
 have e2 : (aux == 0) = true := by simp [hne2]
 clear hne2
 have HB := hidp (Bnew (Bnew (B0 w) (.cells #[.int .i64 7, .int .i64 a, .int .i64 b] 29)) (.cells #[.int .i64 0, .int .i64 out, .int .i64 aux] 32))
 have HX := hidp ((Held.new w 29 #[.int .i64 7, .int .i64 a, .int .i64 b]).alloc (.cells #[.int .i64 0, .int .i64 out, .int .i64 aux] 32))
 have HY := hidp (Held.new2 w (.cells #[.int .i64 7, .int .i64 a, .int .i64 b] 29) 32 #[.int .i64 0, .int .i64 out, .int .i64 aux])
 have HM := hidp (h.stay HB.out)
 obtain ⟨m, D, hm, hG, hO, hD⟩ := h.ex
 have HD := hidp hD
 have HG := hidp (hG.keep HB.out)
 have HO := hidp (owns_turns hO (Turns.of_below HB.out (fun _ => False)) (fun x => x))
 have HSL := hidp hT
 clear h hm hG hO hD hT
 obtain ⟨x0, x1, x2⟩ := HX.out.three
 obtain ⟨y0, y1, y2⟩ := HY.out.three
 obtain ⟨m0, m1, m2, m3⟩ := mod_cells HG.out
 go_enter Tryd.func29, Tryd.ntmps29
 go_wp2_with fail
 refine (mdAt_c HM.out a).mono ?_; rintro e w2 ⟨rfl, hb⟩; rw [HAT.out]
 clear x0 x1 x2 y0 y1 y2 m0 m1 m2 m3
 replace HX := hidp (HX.out.keep hb)
 replace HY := hidp (HY.out.keep hb)
 replace HM := hidp (HM.out.stay hb)
 replace HG := hidp (HG.out.keep hb)
 replace HO := hidp (owns_turns HO.out (Turns.of_below hb (fun _ => False)) (fun x => x))
 replace HB := hidp (Bgo HB.out hb)
 clear hb
 have HN := hidp (Held.new w2 55 #[.int .i64 z1, .int .i64 z2])
 replace HX := hidp (HX.out.keep (Bnew (B0 w2) (.cells #[.int .i64 z1, .int .i64 z2] 55)))
 replace HY := hidp (HY.out.keep (Bnew (B0 w2) (.cells #[.int .i64 z1, .int .i64 z2] 55)))
 replace HM := hidp (HM.out.stay (Bnew (B0 w2) (.cells #[.int .i64 z1, .int .i64 z2] 55)))
 replace HG := hidp (HG.out.keep (Bnew (B0 w2) (.cells #[.int .i64 z1, .int .i64 z2] 55)))
 replace HO := hidp (owns_turns HO.out (Turns.of_below (Bnew (B0 w2) (.cells #[.int .i64 z1, .int .i64 z2] 55)) (fun _ => False)) (fun x => x))
 replace HB := hidp (Bgo HB.out (Bnew (B0 w2) (.cells #[.int .i64 z1, .int .i64 z2] 55)))
 obtain ⟨n0, n1⟩ := HN.out.two
 obtain ⟨x0, x1, x2⟩ := HX.out.three
 obtain ⟨y0, y1, y2⟩ := HY.out.three
 obtain ⟨m0, m1, m2, m3⟩ := mod_cells HG.out
 go_wp2_with fail
 go_ret
 exact ⟨by first | rfl | (refine ret_bool ?_; simp; done), HB.out⟩

set_option maxHeartbeats 3200000 in
theorem done_5a (h : IsMod w g F t p s L R) (a b out aux : Int) (ha : -9223372036854775808 <= a /\ a <= 9223372036854775807) (hb : -9223372036854775808 <= b /\ b <= 9223372036854775807) (hT : SlotsLaid w) (n : Nat) (h8 : n < 8) (ea : a = (n : Int)) (r : Int) (hr : R n = r) (hne1 : out ≠ b)  : Calls Tryd.prog 29 #[.pointer (some ⟨g, 0, none⟩), .agg #[.int .i64 5, .int .i64 a, .int .i64 b], .agg #[.int .i64 0, .int .i64 out, .int .i64 aux]] w fun e w' => e = .returned (.bool false) /\ Below w.heap.size w w' := by
 subst ea
 have h8i : (n : Int) < 8 := by omega
 have HR := hidp hr
 clear hr
 have e1 : (out == b) = false := by simp [hne1]
 clear hne1
 have HB := hidp (Bnew (Bnew (B0 w) (.cells #[.int .i64 5, .int .i64 (n : Int), .int .i64 b] 29)) (.cells #[.int .i64 0, .int .i64 out, .int .i64 aux] 32))
 have HX := hidp ((Held.new w 29 #[.int .i64 5, .int .i64 (n : Int), .int .i64 b]).alloc (.cells #[.int .i64 0, .int .i64 out, .int .i64 aux] 32))
 have HY := hidp (Held.new2 w (.cells #[.int .i64 5, .int .i64 (n : Int), .int .i64 b] 29) 32 #[.int .i64 0, .int .i64 out, .int .i64 aux])
 have HM := hidp (h.stay HB.out)
 obtain ⟨m, D, hm, hG, hO, hD⟩ := h.ex
 have HD := hidp hD
 have HG := hidp (hG.keep HB.out)
 have HO := hidp (owns_turns hO (Turns.of_below HB.out (fun _ => False)) (fun x => x))
 have HSL := hidp hT
 clear h hm hG hO hD hT
 obtain ⟨x0, x1, x2⟩ := HX.out.three
 obtain ⟨y0, y1, y2⟩ := HY.out.three
 obtain ⟨m0, m1, m2, m3⟩ := mod_cells HG.out
 go_enter Tryd.func29, Tryd.ntmps29
 go_wp2_with fail
 clear x0 x1 x2 y0 y1 y2 m0 m1 m2 m3
 replace HX := hidp (HX.out.keep (Bdrew (B0 _)))
 replace HY := hidp (HY.out.keep (Bdrew (B0 _)))
 replace HM := hidp (HM.out.stay (Bdrew (B0 _)))
 replace HG := hidp (HG.out.keep (Bdrew (B0 _)))
 replace HO := hidp (owns_turns HO.out (Turns.of_below (Bdrew (B0 _)) (fun _ => False)) (fun x => x))
 replace HB := hidp (Bgo HB.out (Bdrew (B0 _)))
 refine wp_region_held_drew (S := (fun w' => (w'.cell? ⟨w.heap.size, 0, none⟩ = some (.int .i64 5) /\ w'.cell? ⟨w.heap.size, 1, none⟩ = some (.int .i64 (n : Int)) /\ w'.cell? ⟨w.heap.size, 2, none⟩ = some (.int .i64 b)) /\ (w'.cell? ⟨w.heap.size + 1, 0, none⟩ = some (.int .i64 0) /\ w'.cell? ⟨w.heap.size + 1, 1, none⟩ = some (.int .i64 out) /\ w'.cell? ⟨w.heap.size + 1, 2, none⟩ = some (.int .i64 aux)) /\ (w'.cell? ⟨g, 0, none⟩ = some (.int .i64 t) /\ w'.cell? ⟨g, 1, none⟩ = some (.int .i64 p) /\ w'.cell? ⟨g, 2, none⟩ = some (.int .i64 s) /\ w'.cell? ⟨g, 3, none⟩ = some (.map (some m))) /\ w'.cell? ⟨g, 4 + n, none⟩ = some (.int .i64 r))) (by kernel_rfl) ?_ (fun hHeld => ?_)
 ·(try dsimp only)
  first | exact ⟨HX.out.three, HY.out.three, mod_cells HG.out, (by have := mod_root HG.out h8; rwa [HR.out] at this)⟩ | exact hHeld
 refine tkz 0 ?_
 refine tkz 1 ?_
 refine tkz 2 ?_
 refine tkz 3 ?_
 refine tkz 4 ?_
 refine tkz 5 ?_
 refine tkz 6 ?_
 refine tkz 7 ?_
 refine tkz 8 ?_
 refine tkz 9 ?_
 refine tkz 10 ?_
 refine tkz 11 ?_
 refine tkz 12 ?_
 refine dnz ?_
 obtain ⟨x0, x1, x2⟩ := HX.out.three
 obtain ⟨y0, y1, y2⟩ := HY.out.three
 obtain ⟨m0, m1, m2, m3⟩ := mod_cells HG.out
 go_wp2_with fail
 go_ret
 exact ⟨by first | rfl | (refine ret_bool ?_; simp; done), HB.out⟩

set_option maxHeartbeats 3200000 in
theorem done_5b (h : IsMod w g F t p s L R) (a b out aux : Int) (ha : -9223372036854775808 <= a /\ a <= 9223372036854775807) (hb : -9223372036854775808 <= b /\ b <= 9223372036854775807) (hT : SlotsLaid w) (n : Nat) (h8 : n < 8) (ea : a = (n : Int)) (r : Int) (hr : R n = r) (hne1 : out = b) (hne2 : aux ≠ r)  : Calls Tryd.prog 29 #[.pointer (some ⟨g, 0, none⟩), .agg #[.int .i64 5, .int .i64 a, .int .i64 b], .agg #[.int .i64 0, .int .i64 out, .int .i64 aux]] w fun e w' => e = .returned (.bool false) /\ Below w.heap.size w w' := by
 subst ea
 have h8i : (n : Int) < 8 := by omega
 have HR := hidp hr
 clear hr
 have e1 : (out == b) = true := by simp [hne1]
 clear hne1
 have e2 : (aux == r) = false := by simp [hne2]
 clear hne2
 have HB := hidp (Bnew (Bnew (B0 w) (.cells #[.int .i64 5, .int .i64 (n : Int), .int .i64 b] 29)) (.cells #[.int .i64 0, .int .i64 out, .int .i64 aux] 32))
 have HX := hidp ((Held.new w 29 #[.int .i64 5, .int .i64 (n : Int), .int .i64 b]).alloc (.cells #[.int .i64 0, .int .i64 out, .int .i64 aux] 32))
 have HY := hidp (Held.new2 w (.cells #[.int .i64 5, .int .i64 (n : Int), .int .i64 b] 29) 32 #[.int .i64 0, .int .i64 out, .int .i64 aux])
 have HM := hidp (h.stay HB.out)
 obtain ⟨m, D, hm, hG, hO, hD⟩ := h.ex
 have HD := hidp hD
 have HG := hidp (hG.keep HB.out)
 have HO := hidp (owns_turns hO (Turns.of_below HB.out (fun _ => False)) (fun x => x))
 have HSL := hidp hT
 clear h hm hG hO hD hT
 obtain ⟨x0, x1, x2⟩ := HX.out.three
 obtain ⟨y0, y1, y2⟩ := HY.out.three
 obtain ⟨m0, m1, m2, m3⟩ := mod_cells HG.out
 go_enter Tryd.func29, Tryd.ntmps29
 go_wp2_with fail
 clear x0 x1 x2 y0 y1 y2 m0 m1 m2 m3
 replace HX := hidp (HX.out.keep (Bdrew (B0 _)))
 replace HY := hidp (HY.out.keep (Bdrew (B0 _)))
 replace HM := hidp (HM.out.stay (Bdrew (B0 _)))
 replace HG := hidp (HG.out.keep (Bdrew (B0 _)))
 replace HO := hidp (owns_turns HO.out (Turns.of_below (Bdrew (B0 _)) (fun _ => False)) (fun x => x))
 replace HB := hidp (Bgo HB.out (Bdrew (B0 _)))
 refine wp_region_held_drew (S := (fun w' => (w'.cell? ⟨w.heap.size, 0, none⟩ = some (.int .i64 5) /\ w'.cell? ⟨w.heap.size, 1, none⟩ = some (.int .i64 (n : Int)) /\ w'.cell? ⟨w.heap.size, 2, none⟩ = some (.int .i64 b)) /\ (w'.cell? ⟨w.heap.size + 1, 0, none⟩ = some (.int .i64 0) /\ w'.cell? ⟨w.heap.size + 1, 1, none⟩ = some (.int .i64 out) /\ w'.cell? ⟨w.heap.size + 1, 2, none⟩ = some (.int .i64 aux)) /\ (w'.cell? ⟨g, 0, none⟩ = some (.int .i64 t) /\ w'.cell? ⟨g, 1, none⟩ = some (.int .i64 p) /\ w'.cell? ⟨g, 2, none⟩ = some (.int .i64 s) /\ w'.cell? ⟨g, 3, none⟩ = some (.map (some m))) /\ w'.cell? ⟨g, 4 + n, none⟩ = some (.int .i64 r))) (by kernel_rfl) ?_ (fun hHeld => ?_)
 ·(try dsimp only)
  first | exact ⟨HX.out.three, HY.out.three, mod_cells HG.out, (by have := mod_root HG.out h8; rwa [HR.out] at this)⟩ | exact hHeld
 refine tkz 0 ?_
 refine tkz 1 ?_
 refine tkz 2 ?_
 refine tkz 3 ?_
 refine tkz 4 ?_
 refine tkz 5 ?_
 refine tkz 6 ?_
 refine tkz 7 ?_
 refine tkz 8 ?_
 refine tkz 9 ?_
 refine tkz 10 ?_
 refine tkz 11 ?_
 refine tkz 12 ?_
 refine dnz ?_
 obtain ⟨x0, x1, x2⟩ := HX.out.three
 obtain ⟨y0, y1, y2⟩ := HY.out.three
 obtain ⟨m0, m1, m2, m3⟩ := mod_cells HG.out
 go_wp2_with fail
 go_ret
 exact ⟨by first | rfl | (refine ret_bool ?_; simp; done), HB.out⟩

set_option maxHeartbeats 3200000 in
theorem done_5c (h : IsMod w g F t p s L R) (a b out aux : Int) (ha : -9223372036854775808 <= a /\ a <= 9223372036854775807) (hb : -9223372036854775808 <= b /\ b <= 9223372036854775807) (hT : SlotsLaid w) (n : Nat) (h8 : n < 8) (ea : a = (n : Int)) (r : Int) (hr : R n = r) (hne1 : out = b) (hne2 : aux = r)  : Calls Tryd.prog 29 #[.pointer (some ⟨g, 0, none⟩), .agg #[.int .i64 5, .int .i64 a, .int .i64 b], .agg #[.int .i64 0, .int .i64 out, .int .i64 aux]] w fun e w' => e = .returned (.bool true) /\ Below w.heap.size w w' := by
 subst ea
 have h8i : (n : Int) < 8 := by omega
 have HR := hidp hr
 clear hr
 have e1 : (out == b) = true := by simp [hne1]
 clear hne1
 have e2 : (aux == r) = true := by simp [hne2]
 clear hne2
 have HB := hidp (Bnew (Bnew (B0 w) (.cells #[.int .i64 5, .int .i64 (n : Int), .int .i64 b] 29)) (.cells #[.int .i64 0, .int .i64 out, .int .i64 aux] 32))
 have HX := hidp ((Held.new w 29 #[.int .i64 5, .int .i64 (n : Int), .int .i64 b]).alloc (.cells #[.int .i64 0, .int .i64 out, .int .i64 aux] 32))
 have HY := hidp (Held.new2 w (.cells #[.int .i64 5, .int .i64 (n : Int), .int .i64 b] 29) 32 #[.int .i64 0, .int .i64 out, .int .i64 aux])
 have HM := hidp (h.stay HB.out)
 obtain ⟨m, D, hm, hG, hO, hD⟩ := h.ex
 have HD := hidp hD
 have HG := hidp (hG.keep HB.out)
 have HO := hidp (owns_turns hO (Turns.of_below HB.out (fun _ => False)) (fun x => x))
 have HSL := hidp hT
 clear h hm hG hO hD hT
 obtain ⟨x0, x1, x2⟩ := HX.out.three
 obtain ⟨y0, y1, y2⟩ := HY.out.three
 obtain ⟨m0, m1, m2, m3⟩ := mod_cells HG.out
 go_enter Tryd.func29, Tryd.ntmps29
 go_wp2_with fail
 clear x0 x1 x2 y0 y1 y2 m0 m1 m2 m3
 replace HX := hidp (HX.out.keep (Bdrew (B0 _)))
 replace HY := hidp (HY.out.keep (Bdrew (B0 _)))
 replace HM := hidp (HM.out.stay (Bdrew (B0 _)))
 replace HG := hidp (HG.out.keep (Bdrew (B0 _)))
 replace HO := hidp (owns_turns HO.out (Turns.of_below (Bdrew (B0 _)) (fun _ => False)) (fun x => x))
 replace HB := hidp (Bgo HB.out (Bdrew (B0 _)))
 refine wp_region_held_drew (S := (fun w' => (w'.cell? ⟨w.heap.size, 0, none⟩ = some (.int .i64 5) /\ w'.cell? ⟨w.heap.size, 1, none⟩ = some (.int .i64 (n : Int)) /\ w'.cell? ⟨w.heap.size, 2, none⟩ = some (.int .i64 b)) /\ (w'.cell? ⟨w.heap.size + 1, 0, none⟩ = some (.int .i64 0) /\ w'.cell? ⟨w.heap.size + 1, 1, none⟩ = some (.int .i64 out) /\ w'.cell? ⟨w.heap.size + 1, 2, none⟩ = some (.int .i64 aux)) /\ (w'.cell? ⟨g, 0, none⟩ = some (.int .i64 t) /\ w'.cell? ⟨g, 1, none⟩ = some (.int .i64 p) /\ w'.cell? ⟨g, 2, none⟩ = some (.int .i64 s) /\ w'.cell? ⟨g, 3, none⟩ = some (.map (some m))) /\ w'.cell? ⟨g, 4 + n, none⟩ = some (.int .i64 r))) (by kernel_rfl) ?_ (fun hHeld => ?_)
 ·(try dsimp only)
  first | exact ⟨HX.out.three, HY.out.three, mod_cells HG.out, (by have := mod_root HG.out h8; rwa [HR.out] at this)⟩ | exact hHeld
 refine tkz 0 ?_
 refine tkz 1 ?_
 refine tkz 2 ?_
 refine tkz 3 ?_
 refine tkz 4 ?_
 refine tkz 5 ?_
 refine tkz 6 ?_
 refine tkz 7 ?_
 refine tkz 8 ?_
 refine tkz 9 ?_
 refine tkz 10 ?_
 refine tkz 11 ?_
 refine tkz 12 ?_
 refine dnz ?_
 obtain ⟨x0, x1, x2⟩ := HX.out.three
 obtain ⟨y0, y1, y2⟩ := HY.out.three
 obtain ⟨m0, m1, m2, m3⟩ := mod_cells HG.out
 go_wp2_with fail
 go_ret
 exact ⟨by first | rfl | (refine ret_bool ?_; simp; done), HB.out⟩

set_option maxHeartbeats 3200000 in
theorem done_6a (h : IsMod w g F t p s L R) (a b out aux : Int) (ha : -9223372036854775808 <= a /\ a <= 9223372036854775807) (hb : -9223372036854775808 <= b /\ b <= 9223372036854775807) (hT : SlotsLaid w) (n : Nat) (h8 : n < 8) (ea : a = (n : Int)) (r : Int) (hr : R n = r) (hne1 : out ≠ r)  : Calls Tryd.prog 29 #[.pointer (some ⟨g, 0, none⟩), .agg #[.int .i64 6, .int .i64 a, .int .i64 b], .agg #[.int .i64 0, .int .i64 out, .int .i64 aux]] w fun e w' => e = .returned (.bool false) /\ Below w.heap.size w w' := by
 subst ea
 have h8i : (n : Int) < 8 := by omega
 have HR := hidp hr
 clear hr
 have e1 : (out == r) = false := by simp [hne1]
 clear hne1
 have HB := hidp (Bnew (Bnew (B0 w) (.cells #[.int .i64 6, .int .i64 (n : Int), .int .i64 b] 29)) (.cells #[.int .i64 0, .int .i64 out, .int .i64 aux] 32))
 have HX := hidp ((Held.new w 29 #[.int .i64 6, .int .i64 (n : Int), .int .i64 b]).alloc (.cells #[.int .i64 0, .int .i64 out, .int .i64 aux] 32))
 have HY := hidp (Held.new2 w (.cells #[.int .i64 6, .int .i64 (n : Int), .int .i64 b] 29) 32 #[.int .i64 0, .int .i64 out, .int .i64 aux])
 have HM := hidp (h.stay HB.out)
 obtain ⟨m, D, hm, hG, hO, hD⟩ := h.ex
 have HD := hidp hD
 have HG := hidp (hG.keep HB.out)
 have HO := hidp (owns_turns hO (Turns.of_below HB.out (fun _ => False)) (fun x => x))
 have HSL := hidp hT
 clear h hm hG hO hD hT
 obtain ⟨x0, x1, x2⟩ := HX.out.three
 obtain ⟨y0, y1, y2⟩ := HY.out.three
 obtain ⟨m0, m1, m2, m3⟩ := mod_cells HG.out
 go_enter Tryd.func29, Tryd.ntmps29
 go_wp2_with fail
 clear x0 x1 x2 y0 y1 y2 m0 m1 m2 m3
 replace HX := hidp (HX.out.keep (Bdrew (B0 _)))
 replace HY := hidp (HY.out.keep (Bdrew (B0 _)))
 replace HM := hidp (HM.out.stay (Bdrew (B0 _)))
 replace HG := hidp (HG.out.keep (Bdrew (B0 _)))
 replace HO := hidp (owns_turns HO.out (Turns.of_below (Bdrew (B0 _)) (fun _ => False)) (fun x => x))
 replace HB := hidp (Bgo HB.out (Bdrew (B0 _)))
 refine wp_region_held_drew (S := (fun w' => (w'.cell? ⟨w.heap.size, 0, none⟩ = some (.int .i64 6) /\ w'.cell? ⟨w.heap.size, 1, none⟩ = some (.int .i64 (n : Int)) /\ w'.cell? ⟨w.heap.size, 2, none⟩ = some (.int .i64 b)) /\ (w'.cell? ⟨w.heap.size + 1, 0, none⟩ = some (.int .i64 0) /\ w'.cell? ⟨w.heap.size + 1, 1, none⟩ = some (.int .i64 out) /\ w'.cell? ⟨w.heap.size + 1, 2, none⟩ = some (.int .i64 aux)) /\ (w'.cell? ⟨g, 0, none⟩ = some (.int .i64 t) /\ w'.cell? ⟨g, 1, none⟩ = some (.int .i64 p) /\ w'.cell? ⟨g, 2, none⟩ = some (.int .i64 s) /\ w'.cell? ⟨g, 3, none⟩ = some (.map (some m))) /\ w'.cell? ⟨g, 4 + n, none⟩ = some (.int .i64 r))) (by kernel_rfl) ?_ (fun hHeld => ?_)
 ·(try dsimp only)
  first | exact ⟨HX.out.three, HY.out.three, mod_cells HG.out, (by have := mod_root HG.out h8; rwa [HR.out] at this)⟩ | exact hHeld
 refine tkz 0 ?_
 refine tkz 1 ?_
 refine tkz 2 ?_
 refine tkz 3 ?_
 refine tkz 4 ?_
 refine tkz 5 ?_
 refine tkz 6 ?_
 refine tkz 7 ?_
 refine tkz 8 ?_
 refine tkz 9 ?_
 refine tkz 10 ?_
 refine dnz ?_
 obtain ⟨x0, x1, x2⟩ := HX.out.three
 obtain ⟨y0, y1, y2⟩ := HY.out.three
 obtain ⟨m0, m1, m2, m3⟩ := mod_cells HG.out
 go_wp2_with fail
 go_ret
 exact ⟨by first | rfl | (refine ret_bool ?_; simp; done), HB.out⟩

set_option maxHeartbeats 3200000 in
theorem done_6b (h : IsMod w g F t p s L R) (a b out aux : Int) (ha : -9223372036854775808 <= a /\ a <= 9223372036854775807) (hb : -9223372036854775808 <= b /\ b <= 9223372036854775807) (hT : SlotsLaid w) (n : Nat) (h8 : n < 8) (ea : a = (n : Int)) (r : Int) (hr : R n = r) (hne1 : out = r) (hne2 : aux ≠ 0)  : Calls Tryd.prog 29 #[.pointer (some ⟨g, 0, none⟩), .agg #[.int .i64 6, .int .i64 a, .int .i64 b], .agg #[.int .i64 0, .int .i64 out, .int .i64 aux]] w fun e w' => e = .returned (.bool false) /\ Below w.heap.size w w' := by
 subst ea
 have h8i : (n : Int) < 8 := by omega
 have HR := hidp hr
 clear hr
 have e1 : (out == r) = true := by simp [hne1]
 clear hne1
 have e2 : (aux == 0) = false := by simp [hne2]
 clear hne2
 have HB := hidp (Bnew (Bnew (B0 w) (.cells #[.int .i64 6, .int .i64 (n : Int), .int .i64 b] 29)) (.cells #[.int .i64 0, .int .i64 out, .int .i64 aux] 32))
 have HX := hidp ((Held.new w 29 #[.int .i64 6, .int .i64 (n : Int), .int .i64 b]).alloc (.cells #[.int .i64 0, .int .i64 out, .int .i64 aux] 32))
 have HY := hidp (Held.new2 w (.cells #[.int .i64 6, .int .i64 (n : Int), .int .i64 b] 29) 32 #[.int .i64 0, .int .i64 out, .int .i64 aux])
 have HM := hidp (h.stay HB.out)
 obtain ⟨m, D, hm, hG, hO, hD⟩ := h.ex
 have HD := hidp hD
 have HG := hidp (hG.keep HB.out)
 have HO := hidp (owns_turns hO (Turns.of_below HB.out (fun _ => False)) (fun x => x))
 have HSL := hidp hT
 clear h hm hG hO hD hT
 obtain ⟨x0, x1, x2⟩ := HX.out.three
 obtain ⟨y0, y1, y2⟩ := HY.out.three
 obtain ⟨m0, m1, m2, m3⟩ := mod_cells HG.out
 go_enter Tryd.func29, Tryd.ntmps29
 go_wp2_with fail
 clear x0 x1 x2 y0 y1 y2 m0 m1 m2 m3
 replace HX := hidp (HX.out.keep (Bdrew (B0 _)))
 replace HY := hidp (HY.out.keep (Bdrew (B0 _)))
 replace HM := hidp (HM.out.stay (Bdrew (B0 _)))
 replace HG := hidp (HG.out.keep (Bdrew (B0 _)))
 replace HO := hidp (owns_turns HO.out (Turns.of_below (Bdrew (B0 _)) (fun _ => False)) (fun x => x))
 replace HB := hidp (Bgo HB.out (Bdrew (B0 _)))
 refine wp_region_held_drew (S := (fun w' => (w'.cell? ⟨w.heap.size, 0, none⟩ = some (.int .i64 6) /\ w'.cell? ⟨w.heap.size, 1, none⟩ = some (.int .i64 (n : Int)) /\ w'.cell? ⟨w.heap.size, 2, none⟩ = some (.int .i64 b)) /\ (w'.cell? ⟨w.heap.size + 1, 0, none⟩ = some (.int .i64 0) /\ w'.cell? ⟨w.heap.size + 1, 1, none⟩ = some (.int .i64 out) /\ w'.cell? ⟨w.heap.size + 1, 2, none⟩ = some (.int .i64 aux)) /\ (w'.cell? ⟨g, 0, none⟩ = some (.int .i64 t) /\ w'.cell? ⟨g, 1, none⟩ = some (.int .i64 p) /\ w'.cell? ⟨g, 2, none⟩ = some (.int .i64 s) /\ w'.cell? ⟨g, 3, none⟩ = some (.map (some m))) /\ w'.cell? ⟨g, 4 + n, none⟩ = some (.int .i64 r))) (by kernel_rfl) ?_ (fun hHeld => ?_)
 ·(try dsimp only)
  first | exact ⟨HX.out.three, HY.out.three, mod_cells HG.out, (by have := mod_root HG.out h8; rwa [HR.out] at this)⟩ | exact hHeld
 refine tkz 0 ?_
 refine tkz 1 ?_
 refine tkz 2 ?_
 refine tkz 3 ?_
 refine tkz 4 ?_
 refine tkz 5 ?_
 refine tkz 6 ?_
 refine tkz 7 ?_
 refine tkz 8 ?_
 refine tkz 9 ?_
 refine tkz 10 ?_
 refine dnz ?_
 obtain ⟨x0, x1, x2⟩ := HX.out.three
 obtain ⟨y0, y1, y2⟩ := HY.out.three
 obtain ⟨m0, m1, m2, m3⟩ := mod_cells HG.out
 go_wp2_with fail
 go_ret
 exact ⟨by first | rfl | (refine ret_bool ?_; simp; done), HB.out⟩

set_option maxHeartbeats 3200000 in
theorem done_6c (h : IsMod w g F t p s L R) (a b out aux : Int) (ha : -9223372036854775808 <= a /\ a <= 9223372036854775807) (hb : -9223372036854775808 <= b /\ b <= 9223372036854775807) (hT : SlotsLaid w) (n : Nat) (h8 : n < 8) (ea : a = (n : Int)) (r : Int) (hr : R n = r) (hne1 : out = r) (hne2 : aux = 0)  : Calls Tryd.prog 29 #[.pointer (some ⟨g, 0, none⟩), .agg #[.int .i64 6, .int .i64 a, .int .i64 b], .agg #[.int .i64 0, .int .i64 out, .int .i64 aux]] w fun e w' => e = .returned (.bool true) /\ Below w.heap.size w w' := by
 subst ea
 have h8i : (n : Int) < 8 := by omega
 have HR := hidp hr
 clear hr
 have e1 : (out == r) = true := by simp [hne1]
 clear hne1
 have e2 : (aux == 0) = true := by simp [hne2]
 clear hne2
 have HB := hidp (Bnew (Bnew (B0 w) (.cells #[.int .i64 6, .int .i64 (n : Int), .int .i64 b] 29)) (.cells #[.int .i64 0, .int .i64 out, .int .i64 aux] 32))
 have HX := hidp ((Held.new w 29 #[.int .i64 6, .int .i64 (n : Int), .int .i64 b]).alloc (.cells #[.int .i64 0, .int .i64 out, .int .i64 aux] 32))
 have HY := hidp (Held.new2 w (.cells #[.int .i64 6, .int .i64 (n : Int), .int .i64 b] 29) 32 #[.int .i64 0, .int .i64 out, .int .i64 aux])
 have HM := hidp (h.stay HB.out)
 obtain ⟨m, D, hm, hG, hO, hD⟩ := h.ex
 have HD := hidp hD
 have HG := hidp (hG.keep HB.out)
 have HO := hidp (owns_turns hO (Turns.of_below HB.out (fun _ => False)) (fun x => x))
 have HSL := hidp hT
 clear h hm hG hO hD hT
 obtain ⟨x0, x1, x2⟩ := HX.out.three
 obtain ⟨y0, y1, y2⟩ := HY.out.three
 obtain ⟨m0, m1, m2, m3⟩ := mod_cells HG.out
 go_enter Tryd.func29, Tryd.ntmps29
 go_wp2_with fail
 clear x0 x1 x2 y0 y1 y2 m0 m1 m2 m3
 replace HX := hidp (HX.out.keep (Bdrew (B0 _)))
 replace HY := hidp (HY.out.keep (Bdrew (B0 _)))
 replace HM := hidp (HM.out.stay (Bdrew (B0 _)))
 replace HG := hidp (HG.out.keep (Bdrew (B0 _)))
 replace HO := hidp (owns_turns HO.out (Turns.of_below (Bdrew (B0 _)) (fun _ => False)) (fun x => x))
 replace HB := hidp (Bgo HB.out (Bdrew (B0 _)))
 refine wp_region_held_drew (S := (fun w' => (w'.cell? ⟨w.heap.size, 0, none⟩ = some (.int .i64 6) /\ w'.cell? ⟨w.heap.size, 1, none⟩ = some (.int .i64 (n : Int)) /\ w'.cell? ⟨w.heap.size, 2, none⟩ = some (.int .i64 b)) /\ (w'.cell? ⟨w.heap.size + 1, 0, none⟩ = some (.int .i64 0) /\ w'.cell? ⟨w.heap.size + 1, 1, none⟩ = some (.int .i64 out) /\ w'.cell? ⟨w.heap.size + 1, 2, none⟩ = some (.int .i64 aux)) /\ (w'.cell? ⟨g, 0, none⟩ = some (.int .i64 t) /\ w'.cell? ⟨g, 1, none⟩ = some (.int .i64 p) /\ w'.cell? ⟨g, 2, none⟩ = some (.int .i64 s) /\ w'.cell? ⟨g, 3, none⟩ = some (.map (some m))) /\ w'.cell? ⟨g, 4 + n, none⟩ = some (.int .i64 r))) (by kernel_rfl) ?_ (fun hHeld => ?_)
 ·(try dsimp only)
  first | exact ⟨HX.out.three, HY.out.three, mod_cells HG.out, (by have := mod_root HG.out h8; rwa [HR.out] at this)⟩ | exact hHeld
 refine tkz 0 ?_
 refine tkz 1 ?_
 refine tkz 2 ?_
 refine tkz 3 ?_
 refine tkz 4 ?_
 refine tkz 5 ?_
 refine tkz 6 ?_
 refine tkz 7 ?_
 refine tkz 8 ?_
 refine tkz 9 ?_
 refine tkz 10 ?_
 refine dnz ?_
 obtain ⟨x0, x1, x2⟩ := HX.out.three
 obtain ⟨y0, y1, y2⟩ := HY.out.three
 obtain ⟨m0, m1, m2, m3⟩ := mod_cells HG.out
 go_wp2_with fail
 go_ret
 exact ⟨by first | rfl | (refine ret_bool ?_; simp; done), HB.out⟩

end
end
end Go.Proofs.YtedakmhffjhfnaaDoor
