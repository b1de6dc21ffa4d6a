/-
  The program's automaton: what OpStats, OpFlush may answer (model.allowsDone). Written by model/gen_prog5.py.
-/
import Derived.Test.YtedakmhffjhfnaaDoorB09
namespace Go.Proofs.YtedakmhffjhfnaaDoor
open Go.ChangeShapes Go.WideShapes Go.ChangeAt Go.RowKit Go.Maps
set_option linter.unusedVariables false
set_option linter.unusedSimpArgs false
set_option maxRecDepth 100000
section
section
variable {w : World} {g : Nat} {F : Nat -> Prop} {t p s : Int} {L : List (Int × Int)} {R : Nat -> Int}

set_option maxHeartbeats 3200000 in
theorem done_8a (h : IsMod w g F t p s L R) (a b out aux : Int) (ha : -9223372036854775808 <= a /\ a <= 9223372036854775807) (hb : -9223372036854775808 <= b /\ b <= 9223372036854775807) (hT : SlotsLaid w) (n : Nat) (hn : L.length = n) (h1 : out < 0) : Calls Tryd.prog 29 #[.pointer (some ⟨g, 0, none⟩), .agg #[.int .i64 8, .int .i64 a, .int .i64 b], .agg #[.int .i64 0, .int .i64 out, .int .i64 aux]] w fun e w' => e = .returned (.bool false) /\ Below w.heap.size w w' := by
 have HLN := hidp hn
 clear hn
 have t0 : decide (0 <= out) = false := decide_eq_false (by omega)
 have HB := hidp (Bnew (Bnew (B0 w) (.cells #[.int .i64 8, .int .i64 a, .int .i64 b] 29)) (.cells #[.int .i64 0, .int .i64 out, .int .i64 aux] 32))
 have HX := hidp ((Held.new w 29 #[.int .i64 8, .int .i64 a, .int .i64 b]).alloc (.cells #[.int .i64 0, .int .i64 out, .int .i64 aux] 32))
 have HY := hidp (Held.new2 w (.cells #[.int .i64 8, .int .i64 a, .int .i64 b] 29) 32 #[.int .i64 0, .int .i64 out, .int .i64 aux])
 have HM := hidp (h.stay HB.out)
 obtain ⟨m, D, hm, hG, hO, hD⟩ := h.ex
 have HD := hidp hD
 have HG := hidp (hG.keep HB.out)
 have HO := hidp (owns_turns hO (Turns.of_below HB.out (fun _ => False)) (fun x => x))
 have HSL := hidp hT
 clear h hm hG hO hD hT
 obtain ⟨x0, x1, x2⟩ := HX.out.three
 obtain ⟨y0, y1, y2⟩ := HY.out.three
 obtain ⟨m0, m1, m2, m3⟩ := mod_cells HG.out
 go_enter Tryd.func29, Tryd.ntmps29
 go_wp2_with fail
 clear x0 x1 x2 y0 y1 y2 m0 m1 m2 m3
 replace HX := hidp (HX.out.keep (Bdrew (B0 _)))
 replace HY := hidp (HY.out.keep (Bdrew (B0 _)))
 replace HM := hidp (HM.out.stay (Bdrew (B0 _)))
 replace HG := hidp (HG.out.keep (Bdrew (B0 _)))
 replace HO := hidp (owns_turns HO.out (Turns.of_below (Bdrew (B0 _)) (fun _ => False)) (fun x => x))
 replace HB := hidp (Bgo HB.out (Bdrew (B0 _)))
 refine wp_region_held_drew (S := (fun w' => (w'.cell? ⟨w.heap.size, 0, none⟩ = some (.int .i64 8) /\ w'.cell? ⟨w.heap.size, 1, none⟩ = some (.int .i64 a) /\ w'.cell? ⟨w.heap.size, 2, none⟩ = some (.int .i64 b)) /\ (w'.cell? ⟨w.heap.size + 1, 0, none⟩ = some (.int .i64 0) /\ w'.cell? ⟨w.heap.size + 1, 1, none⟩ = some (.int .i64 out) /\ w'.cell? ⟨w.heap.size + 1, 2, none⟩ = some (.int .i64 aux)) /\ (w'.cell? ⟨g, 0, none⟩ = some (.int .i64 t) /\ w'.cell? ⟨g, 1, none⟩ = some (.int .i64 p) /\ w'.cell? ⟨g, 2, none⟩ = some (.int .i64 s) /\ w'.cell? ⟨g, 3, none⟩ = some (.map (some m))) /\ (Builtin.len_ #[60] 3 #[.map (some m)]).run Tryd.prog w' = .ok (.int .i64 (n : Int)) w')) (by kernel_rfl) ?_ (fun hHeld => ?_)
 ·(try dsimp only)
  first | exact ⟨HX.out.three, HY.out.three, mod_cells HG.out, (by have h9 := HO.out.len Tryd.underlying60 3; rw [HD.out.size, HLN.out] at h9; exact h9)⟩ | exact hHeld
 refine tkz 0 ?_
 refine tkz 1 ?_
 refine tkz 2 ?_
 refine tkz 3 ?_
 refine skz 4 ?_
 refine skz 5 ?_
 refine skz 6 ?_
 refine skz 7 ?_
 refine skz 8 ?_
 refine skz 9 ?_
 refine skz 10 ?_
 refine skz 11 ?_
 refine tkz 12 ?_
 refine tkz 13 ?_
 refine skz 14 ?_
 refine skz 15 ?_
 refine skz 16 ?_
 refine skz 17 ?_
 refine skz 18 ?_
 refine skz 19 ?_
 refine skz 20 ?_
 refine skz 21 ?_
 refine tkz 22 ?_
 refine tkz 23 ?_
 refine dnz ?_
 obtain ⟨x0, x1, x2⟩ := HX.out.three
 obtain ⟨y0, y1, y2⟩ := HY.out.three
 obtain ⟨m0, m1, m2, m3⟩ := mod_cells HG.out
 go_wp2_with fail
 go_ret
 exact ⟨by first | rfl | (refine ret_bool ?_; simp; done), HB.out⟩

set_option maxHeartbeats 3200000 in
theorem done_8b (h : IsMod w g F t p s L R) (a b out aux : Int) (ha : -9223372036854775808 <= a /\ a <= 9223372036854775807) (hb : -9223372036854775808 <= b /\ b <= 9223372036854775807) (hT : SlotsLaid w) (n : Nat) (hn : L.length = n) (h1 : 0 <= out) (h2 : p < out) : Calls Tryd.prog 29 #[.pointer (some ⟨g, 0, none⟩), .agg #[.int .i64 8, .int .i64 a, .int .i64 b], .agg #[.int .i64 0, .int .i64 out, .int .i64 aux]] w fun e w' => e = .returned (.bool false) /\ Below w.heap.size w w' := by
 have HLN := hidp hn
 clear hn
 have t0 : decide (0 <= out) = true := decide_eq_true (by omega)
 have t1 : decide (out <= p) = false := decide_eq_false (by omega)
 have HB := hidp (Bnew (Bnew (B0 w) (.cells #[.int .i64 8, .int .i64 a, .int .i64 b] 29)) (.cells #[.int .i64 0, .int .i64 out, .int .i64 aux] 32))
 have HX := hidp ((Held.new w 29 #[.int .i64 8, .int .i64 a, .int .i64 b]).alloc (.cells #[.int .i64 0, .int .i64 out, .int .i64 aux] 32))
 have HY := hidp (Held.new2 w (.cells #[.int .i64 8, .int .i64 a, .int .i64 b] 29) 32 #[.int .i64 0, .int .i64 out, .int .i64 aux])
 have HM := hidp (h.stay HB.out)
 obtain ⟨m, D, hm, hG, hO, hD⟩ := h.ex
 have HD := hidp hD
 have HG := hidp (hG.keep HB.out)
 have HO := hidp (owns_turns hO (Turns.of_below HB.out (fun _ => False)) (fun x => x))
 have HSL := hidp hT
 clear h hm hG hO hD hT
 obtain ⟨x0, x1, x2⟩ := HX.out.three
 obtain ⟨y0, y1, y2⟩ := HY.out.three
 obtain ⟨m0, m1, m2, m3⟩ := mod_cells HG.out
 go_enter Tryd.func29, Tryd.ntmps29
 go_wp2_with fail
 clear x0 x1 x2 y0 y1 y2 m0 m1 m2 m3
 replace HX := hidp (HX.out.keep (Bdrew (B0 _)))
 replace HY := hidp (HY.out.keep (Bdrew (B0 _)))
 replace HM := hidp (HM.out.stay (Bdrew (B0 _)))
 replace HG := hidp (HG.out.keep (Bdrew (B0 _)))
 replace HO := hidp (owns_turns HO.out (Turns.of_below (Bdrew (B0 _)) (fun _ => False)) (fun x => x))
 replace HB := hidp (Bgo HB.out (Bdrew (B0 _)))
 refine wp_region_held_drew (S := (fun w' => (w'.cell? ⟨w.heap.size, 0, none⟩ = some (.int .i64 8) /\ w'.cell? ⟨w.heap.size, 1, none⟩ = some (.int .i64 a) /\ w'.cell? ⟨w.heap.size, 2, none⟩ = some (.int .i64 b)) /\ (w'.cell? ⟨w.heap.size + 1, 0, none⟩ = some (.int .i64 0) /\ w'.cell? ⟨w.heap.size + 1, 1, none⟩ = some (.int .i64 out) /\ w'.cell? ⟨w.heap.size + 1, 2, none⟩ = some (.int .i64 aux)) /\ (w'.cell? ⟨g, 0, none⟩ = some (.int .i64 t) /\ w'.cell? ⟨g, 1, none⟩ = some (.int .i64 p) /\ w'.cell? ⟨g, 2, none⟩ = some (.int .i64 s) /\ w'.cell? ⟨g, 3, none⟩ = some (.map (some m))) /\ (Builtin.len_ #[60] 3 #[.map (some m)]).run Tryd.prog w' = .ok (.int .i64 (n : Int)) w')) (by kernel_rfl) ?_ (fun hHeld => ?_)
 ·(try dsimp only)
  first | exact ⟨HX.out.three, HY.out.three, mod_cells HG.out, (by have h9 := HO.out.len Tryd.underlying60 3; rw [HD.out.size, HLN.out] at h9; exact h9)⟩ | exact hHeld
 refine tkz 0 ?_
 refine tkz 1 ?_
 refine tkz 2 ?_
 refine tkz 3 ?_
 refine tkz 4 ?_
 refine tkz 5 ?_
 refine tkz 6 ?_
 refine tkz 7 ?_
 refine tkz 8 ?_
 refine tkz 9 ?_
 refine tkz 10 ?_
 refine tkz 11 ?_
 refine tkz 12 ?_
 refine tkz 13 ?_
 refine skz 14 ?_
 refine skz 15 ?_
 refine skz 16 ?_
 refine skz 17 ?_
 refine skz 18 ?_
 refine skz 19 ?_
 refine skz 20 ?_
 refine skz 21 ?_
 refine tkz 22 ?_
 refine tkz 23 ?_
 refine dnz ?_
 obtain ⟨x0, x1, x2⟩ := HX.out.three
 obtain ⟨y0, y1, y2⟩ := HY.out.three
 obtain ⟨m0, m1, m2, m3⟩ := mod_cells HG.out
 go_wp2_with fail
 go_ret
 exact ⟨by first | rfl | (refine ret_bool ?_; simp; done), HB.out⟩

set_option maxHeartbeats 3200000 in
theorem done_8c (h : IsMod w g F t p s L R) (a b out aux : Int) (ha : -9223372036854775808 <= a /\ a <= 9223372036854775807) (hb : -9223372036854775808 <= b /\ b <= 9223372036854775807) (hT : SlotsLaid w) (n : Nat) (hn : L.length = n) (h1 : 0 <= out) (h2 : out <= p) (hne2 : aux ≠ (n : Int))  : Calls Tryd.prog 29 #[.pointer (some ⟨g, 0, none⟩), .agg #[.int .i64 8, .int .i64 a, .int .i64 b], .agg #[.int .i64 0, .int .i64 out, .int .i64 aux]] w fun e w' => e = .returned (.bool false) /\ Below w.heap.size w w' := by
 have HLN := hidp hn
 clear hn
 have t0 : decide (0 <= out) = true := decide_eq_true (by omega)
 have t1 : decide (out <= p) = true := decide_eq_true (by omega)
 have e2 : (aux == (n : Int)) = false := by simp [hne2]
 clear hne2
 have HB := hidp (Bnew (Bnew (B0 w) (.cells #[.int .i64 8, .int .i64 a, .int .i64 b] 29)) (.cells #[.int .i64 0, .int .i64 out, .int .i64 aux] 32))
 have HX := hidp ((Held.new w 29 #[.int .i64 8, .int .i64 a, .int .i64 b]).alloc (.cells #[.int .i64 0, .int .i64 out, .int .i64 aux] 32))
 have HY := hidp (Held.new2 w (.cells #[.int .i64 8, .int .i64 a, .int .i64 b] 29) 32 #[.int .i64 0, .int .i64 out, .int .i64 aux])
 have HM := hidp (h.stay HB.out)
 obtain ⟨m, D, hm, hG, hO, hD⟩ := h.ex
 have HD := hidp hD
 have HG := hidp (hG.keep HB.out)
 have HO := hidp (owns_turns hO (Turns.of_below HB.out (fun _ => False)) (fun x => x))
 have HSL := hidp hT
 clear h hm hG hO hD hT
 obtain ⟨x0, x1, x2⟩ := HX.out.three
 obtain ⟨y0, y1, y2⟩ := HY.out.three
 obtain ⟨m0, m1, m2, m3⟩ := mod_cells HG.out
 go_enter Tryd.func29, Tryd.ntmps29
 go_wp2_with fail
 clear x0 x1 x2 y0 y1 y2 m0 m1 m2 m3
 replace HX := hidp (HX.out.keep (Bdrew (B0 _)))
 replace HY := hidp (HY.out.keep (Bdrew (B0 _)))
 replace HM := hidp (HM.out.stay (Bdrew (B0 _)))
 replace HG := hidp (HG.out.keep (Bdrew (B0 _)))
 replace HO := hidp (owns_turns HO.out (Turns.of_below (Bdrew (B0 _)) (fun _ => False)) (fun x => x))
 replace HB := hidp (Bgo HB.out (Bdrew (B0 _)))
 refine wp_region_held_drew (S := (fun w' => (w'.cell? ⟨w.heap.size, 0, none⟩ = some (.int .i64 8) /\ w'.cell? ⟨w.heap.size, 1, none⟩ = some (.int .i64 a) /\ w'.cell? ⟨w.heap.size, 2, none⟩ = some (.int .i64 b)) /\ (w'.cell? ⟨w.heap.size + 1, 0, none⟩ = some (.int .i64 0) /\ w'.cell? ⟨w.heap.size + 1, 1, none⟩ = some (.int .i64 out) /\ w'.cell? ⟨w.heap.size + 1, 2, none⟩ = some (.int .i64 aux)) /\ (w'.cell? ⟨g, 0, none⟩ = some (.int .i64 t) /\ w'.cell? ⟨g, 1, none⟩ = some (.int .i64 p) /\ w'.cell? ⟨g, 2, none⟩ = some (.int .i64 s) /\ w'.cell? ⟨g, 3, none⟩ = some (.map (some m))) /\ (Builtin.len_ #[60] 3 #[.map (some m)]).run Tryd.prog w' = .ok (.int .i64 (n : Int)) w')) (by kernel_rfl) ?_ (fun hHeld => ?_)
 ·(try dsimp only)
  first | exact ⟨HX.out.three, HY.out.three, mod_cells HG.out, (by have h9 := HO.out.len Tryd.underlying60 3; rw [HD.out.size, HLN.out] at h9; exact h9)⟩ | exact hHeld
 refine tkz 0 ?_
 refine tkz 1 ?_
 refine tkz 2 ?_
 refine tkz 3 ?_
 refine tkz 4 ?_
 refine tkz 5 ?_
 refine tkz 6 ?_
 refine tkz 7 ?_
 refine tkz 8 ?_
 refine tkz 9 ?_
 refine tkz 10 ?_
 refine tkz 11 ?_
 refine tkz 12 ?_
 refine tkz 13 ?_
 refine tkz 14 ?_
 refine tkz 15 ?_
 refine tkz 16 ?_
 refine tkz 17 ?_
 refine tkz 18 ?_
 refine tkz 19 ?_
 refine tkz 20 ?_
 refine tkz 21 ?_
 refine tkz 22 ?_
 refine tkz 23 ?_
 refine dnz ?_
 obtain ⟨x0, x1, x2⟩ := HX.out.three
 obtain ⟨y0, y1, y2⟩ := HY.out.three
 obtain ⟨m0, m1, m2, m3⟩ := mod_cells HG.out
 go_wp2_with fail
 go_ret
 exact ⟨by first | rfl | (refine ret_bool ?_; simp; done), HB.out⟩

set_option maxHeartbeats 3200000 in
theorem done_8d (h : IsMod w g F t p s L R) (a b out aux : Int) (ha : -9223372036854775808 <= a /\ a <= 9223372036854775807) (hb : -9223372036854775808 <= b /\ b <= 9223372036854775807) (hT : SlotsLaid w) (n : Nat) (hn : L.length = n) (h1 : 0 <= out) (h2 : out <= p) (hne2 : aux = (n : Int))  : Calls Tryd.prog 29 #[.pointer (some ⟨g, 0, none⟩), .agg #[.int .i64 8, .int .i64 a, .int .i64 b], .agg #[.int .i64 0, .int .i64 out, .int .i64 aux]] w fun e w' => e = .returned (.bool true) /\ Below w.heap.size w w' := by
 have HLN := hidp hn
 clear hn
 have t0 : decide (0 <= out) = true := decide_eq_true (by omega)
 have t1 : decide (out <= p) = true := decide_eq_true (by omega)
 have e2 : (aux == (n : Int)) = true := by simp [hne2]
 clear hne2
 have HB := hidp (Bnew (Bnew (B0 w) (.cells #[.int .i64 8, .int .i64 a, .int .i64 b] 29)) (.cells #[.int .i64 0, .int .i64 out, .int .i64 aux] 32))
 have HX := hidp ((Held.new w 29 #[.int .i64 8, .int .i64 a, .int .i64 b]).alloc (.cells #[.int .i64 0, .int .i64 out, .int .i64 aux] 32))
 have HY := hidp (Held.new2 w (.cells #[.int .i64 8, .int .i64 a, .int .i64 b] 29) 32 #[.int .i64 0, .int .i64 out, .int .i64 aux])
 have HM := hidp (h.stay HB.out)
 obtain ⟨m, D, hm, hG, hO, hD⟩ := h.ex
 have HD := hidp hD
 have HG := hidp (hG.keep HB.out)
 have HO := hidp (owns_turns hO (Turns.of_below HB.out (fun _ => False)) (fun x => x))
 have HSL := hidp hT
 clear h hm hG hO hD hT
 obtain ⟨x0, x1, x2⟩ := HX.out.three
 obtain ⟨y0, y1, y2⟩ := HY.out.three
 obtain ⟨m0, m1, m2, m3⟩ := mod_cells HG.out
 go_enter Tryd.func29, Tryd.ntmps29
 go_wp2_with fail
 clear x0 x1 x2 y0 y1 y2 m0 m1 m2 m3
 replace HX := hidp (HX.out.keep (Bdrew (B0 _)))
 replace HY := hidp (HY.out.keep (Bdrew (B0 _)))
 replace HM := hidp (HM.out.stay (Bdrew (B0 _)))
 replace HG := hidp (HG.out.keep (Bdrew (B0 _)))
 replace HO := hidp (owns_turns HO.out (Turns.of_below (Bdrew (B0 _)) (fun _ => False)) (fun x => x))
 replace HB := hidp (Bgo HB.out (Bdrew (B0 _)))
 refine wp_region_held_drew (S := (fun w' => (w'.cell? ⟨w.heap.size, 0, none⟩ = some (.int .i64 8) /\ w'.cell? ⟨w.heap.size, 1, none⟩ = some (.int .i64 a) /\ w'.cell? ⟨w.heap.size, 2, none⟩ = some (.int .i64 b)) /\ (w'.cell? ⟨w.heap.size + 1, 0, none⟩ = some (.int .i64 0) /\ w'.cell? ⟨w.heap.size + 1, 1, none⟩ = some (.int .i64 out) /\ w'.cell? ⟨w.heap.size + 1, 2, none⟩ = some (.int .i64 aux)) /\ (w'.cell? ⟨g, 0, none⟩ = some (.int .i64 t) /\ w'.cell? ⟨g, 1, none⟩ = some (.int .i64 p) /\ w'.cell? ⟨g, 2, none⟩ = some (.int .i64 s) /\ w'.cell? ⟨g, 3, none⟩ = some (.map (some m))) /\ (Builtin.len_ #[60] 3 #[.map (some m)]).run Tryd.prog w' = .ok (.int .i64 (n : Int)) w')) (by kernel_rfl) ?_ (fun hHeld => ?_)
 ·(try dsimp only)
  first | exact ⟨HX.out.three, HY.out.three, mod_cells HG.out, (by have h9 := HO.out.len Tryd.underlying60 3; rw [HD.out.size, HLN.out] at h9; exact h9)⟩ | exact hHeld
 refine tkz 0 ?_
 refine tkz 1 ?_
 refine tkz 2 ?_
 refine tkz 3 ?_
 refine tkz 4 ?_
 refine tkz 5 ?_
 refine tkz 6 ?_
 refine tkz 7 ?_
 refine tkz 8 ?_
 refine tkz 9 ?_
 refine tkz 10 ?_
 refine tkz 11 ?_
 refine tkz 12 ?_
 refine tkz 13 ?_
 refine tkz 14 ?_
 refine tkz 15 ?_
 refine tkz 16 ?_
 refine tkz 17 ?_
 refine tkz 18 ?_
 refine tkz 19 ?_
 refine tkz 20 ?_
 refine tkz 21 ?_
 refine tkz 22 ?_
 refine tkz 23 ?_
 refine dnz ?_
 obtain ⟨x0, x1, x2⟩ := HX.out.three
 obtain ⟨y0, y1, y2⟩ := HY.out.three
 obtain ⟨m0, m1, m2, m3⟩ := mod_cells HG.out
 go_wp2_with fail
 go_ret
 exact ⟨by first | rfl | (refine ret_bool ?_; simp; done), HB.out⟩

set_option maxHeartbeats 3200000 in
theorem done_9a (h : IsMod w g F t p s L R) (a b out aux : Int) (ha : -9223372036854775808 <= a /\ a <= 9223372036854775807) (hb : -9223372036854775808 <= b /\ b <= 9223372036854775807) (hT : SlotsLaid w) (h1 : out < 0) : Calls Tryd.prog 29 #[.pointer (some ⟨g, 0, none⟩), .agg #[.int .i64 9, .int .i64 a, .int .i64 b], .agg #[.int .i64 0, .int .i64 out, .int .i64 aux]] w fun e w' => e = .returned (.bool false) /\ Below w.heap.size w w' := by
 have t0 : decide (0 <= out) = false := decide_eq_false (by omega)
 have HB := hidp (Bnew (Bnew (B0 w) (.cells #[.int .i64 9, .int .i64 a, .int .i64 b] 29)) (.cells #[.int .i64 0, .int .i64 out, .int .i64 aux] 32))
 have HX := hidp ((Held.new w 29 #[.int .i64 9, .int .i64 a, .int .i64 b]).alloc (.cells #[.int .i64 0, .int .i64 out, .int .i64 aux] 32))
 have HY := hidp (Held.new2 w (.cells #[.int .i64 9, .int .i64 a, .int .i64 b] 29) 32 #[.int .i64 0, .int .i64 out, .int .i64 aux])
 have HM := hidp (h.stay HB.out)
 obtain ⟨m, D, hm, hG, hO, hD⟩ := h.ex
 have HD := hidp hD
 have HG := hidp (hG.keep HB.out)
 have HO := hidp (owns_turns hO (Turns.of_below HB.out (fun _ => False)) (fun x => x))
 have HSL := hidp hT
 clear h hm hG hO hD hT
 obtain ⟨x0, x1, x2⟩ := HX.out.three
 obtain ⟨y0, y1, y2⟩ := HY.out.three
 obtain ⟨m0, m1, m2, m3⟩ := mod_cells HG.out
 go_enter Tryd.func29, Tryd.ntmps29
 go_wp2_with fail
 go_ret
 exact ⟨by first | rfl | (refine ret_bool ?_; simp; done), HB.out⟩

set_option maxHeartbeats 3200000 in
theorem done_9b (h : IsMod w g F t p s L R) (a b out aux : Int) (ha : -9223372036854775808 <= a /\ a <= 9223372036854775807) (hb : -9223372036854775808 <= b /\ b <= 9223372036854775807) (hT : SlotsLaid w) (h1 : 0 <= out) (h2 : 4 < out) : Calls Tryd.prog 29 #[.pointer (some ⟨g, 0, none⟩), .agg #[.int .i64 9, .int .i64 a, .int .i64 b], .agg #[.int .i64 0, .int .i64 out, .int .i64 aux]] w fun e w' => e = .returned (.bool false) /\ Below w.heap.size w w' := by
 have t0 : decide (0 <= out) = true := decide_eq_true (by omega)
 have t1 : decide (out <= 4) = false := decide_eq_false (by omega)
 have HB := hidp (Bnew (Bnew (B0 w) (.cells #[.int .i64 9, .int .i64 a, .int .i64 b] 29)) (.cells #[.int .i64 0, .int .i64 out, .int .i64 aux] 32))
 have HX := hidp ((Held.new w 29 #[.int .i64 9, .int .i64 a, .int .i64 b]).alloc (.cells #[.int .i64 0, .int .i64 out, .int .i64 aux] 32))
 have HY := hidp (Held.new2 w (.cells #[.int .i64 9, .int .i64 a, .int .i64 b] 29) 32 #[.int .i64 0, .int .i64 out, .int .i64 aux])
 have HM := hidp (h.stay HB.out)
 obtain ⟨m, D, hm, hG, hO, hD⟩ := h.ex
 have HD := hidp hD
 have HG := hidp (hG.keep HB.out)
 have HO := hidp (owns_turns hO (Turns.of_below HB.out (fun _ => False)) (fun x => x))
 have HSL := hidp hT
 clear h hm hG hO hD hT
 obtain ⟨x0, x1, x2⟩ := HX.out.three
 obtain ⟨y0, y1, y2⟩ := HY.out.three
 obtain ⟨m0, m1, m2, m3⟩ := mod_cells HG.out
 go_enter Tryd.func29, Tryd.ntmps29
 go_wp2_with fail
 go_ret
 exact ⟨by first | rfl | (refine ret_bool ?_; simp; done), HB.out⟩

set_option maxHeartbeats 3200000 in
theorem done_9c (h : IsMod w g F t p s L R) (a b out aux : Int) (ha : -9223372036854775808 <= a /\ a <= 9223372036854775807) (hb : -9223372036854775808 <= b /\ b <= 9223372036854775807) (hT : SlotsLaid w) (h1 : 0 <= out) (h2 : out <= 4) (hne2 : aux ≠ 0)  : Calls Tryd.prog 29 #[.pointer (some ⟨g, 0, none⟩), .agg #[.int .i64 9, .int .i64 a, .int .i64 b], .agg #[.int .i64 0, .int .i64 out, .int .i64 aux]] w fun e w' => e = .returned (.bool false) /\ Below w.heap.size w w' := by
 have t0 : decide (0 <= out) = true := decide_eq_true (by omega)
 have t1 : decide (out <= 4) = true := decide_eq_true (by omega)
 have e2 : (aux == 0) = false := by simp [hne2]
 clear hne2
 have HB := hidp (Bnew (Bnew (B0 w) (.cells #[.int .i64 9, .int .i64 a, .int .i64 b] 29)) (.cells #[.int .i64 0, .int .i64 out, .int .i64 aux] 32))
 have HX := hidp ((Held.new w 29 #[.int .i64 9, .int .i64 a, .int .i64 b]).alloc (.cells #[.int .i64 0, .int .i64 out, .int .i64 aux] 32))
 have HY := hidp (Held.new2 w (.cells #[.int .i64 9, .int .i64 a, .int .i64 b] 29) 32 #[.int .i64 0, .int .i64 out, .int .i64 aux])
 have HM := hidp (h.stay HB.out)
 obtain ⟨m, D, hm, hG, hO, hD⟩ := h.ex
 have HD := hidp hD
 have HG := hidp (hG.keep HB.out)
 have HO := hidp (owns_turns hO (Turns.of_below HB.out (fun _ => False)) (fun x => x))
 have HSL := hidp hT
 clear h hm hG hO hD hT
 obtain ⟨x0, x1, x2⟩ := HX.out.three
 obtain ⟨y0, y1, y2⟩ := HY.out.three
 obtain ⟨m0, m1, m2, m3⟩ := mod_cells HG.out
 go_enter Tryd.func29, Tryd.ntmps29
 go_wp2_with fail
 go_ret
 exact ⟨by first | rfl | (refine ret_bool ?_; simp; done), HB.out⟩

set_option maxHeartbeats 3200000 in
theorem done_9d (h : IsMod w g F t p s L R) (a b out aux : Int) (ha : -9223372036854775808 <= a /\ a <= 9223372036854775807) (hb : -9223372036854775808 <= b /\ b <= 9223372036854775807) (hT : SlotsLaid w) (h1 : 0 <= out) (h2 : out <= 4) (hne2 : aux = 0)  : Calls Tryd.prog 29 #[.pointer (some ⟨g, 0, none⟩), .agg #[.int .i64 9, .int .i64 a, .int .i64 b], .agg #[.int .i64 0, .int .i64 out, .int .i64 aux]] w fun e w' => e = .returned (.bool true) /\ Below w.heap.size w w' := by
 have t0 : decide (0 <= out) = true := decide_eq_true (by omega)
 have t1 : decide (out <= 4) = true := decide_eq_true (by omega)
 have e2 : (aux == 0) = true := by simp [hne2]
 clear hne2
 have HB := hidp (Bnew (Bnew (B0 w) (.cells #[.int .i64 9, .int .i64 a, .int .i64 b] 29)) (.cells #[.int .i64 0, .int .i64 out, .int .i64 aux] 32))
 have HX := hidp ((Held.new w 29 #[.int .i64 9, .int .i64 a, .int .i64 b]).alloc (.cells #[.int .i64 0, .int .i64 out, .int .i64 aux] 32))
 have HY := hidp (Held.new2 w (.cells #[.int .i64 9, .int .i64 a, .int .i64 b] 29) 32 #[.int .i64 0, .int .i64 out, .int .i64 aux])
 have HM := hidp (h.stay HB.out)
 obtain ⟨m, D, hm, hG, hO, hD⟩ := h.ex
 have HD := hidp hD
 have HG := hidp (hG.keep HB.out)
 have HO := hidp (owns_turns hO (Turns.of_below HB.out (fun _ => False)) (fun x => x))
 have HSL := hidp hT
 clear h hm hG hO hD hT
 obtain ⟨x0, x1, x2⟩ := HX.out.three
 obtain ⟨y0, y1, y2⟩ := HY.out.three
 obtain ⟨m0, m1, m2, m3⟩ := mod_cells HG.out
 go_enter Tryd.func29, Tryd.ntmps29
 go_wp2_with fail
 go_ret
 exact ⟨by first | rfl | (refine ret_bool ?_; simp; done), HB.out⟩

end
end
section
section
variable {t p s : Int} {L : List (Int × Int)} {R : Nat -> Int} {a b err out aux : Int}
theorem just_aux {n m : Int} (h : n ≠ 0) : (justB n err out aux && auxB err aux m) = justB n err out aux := by
 unfold justB auxB
 by_cases e : err = n /\ out = 0 /\ aux = 0
 ·rw [decide_eq_true e, decide_eq_true (p := err ≠ 0 \/ aux = m) (.inl (by omega))]; rfl
 ·rw [decide_eq_false e]; rfl
theorem just_0 {n : Int} (h : n ≠ 0) : justB n 0 out aux = false := decide_eq_false (by omega)
theorem aux_0 {m : Int} : auxB 0 aux m = decide (aux = m) := by
 unfold auxB
 by_cases e : aux = m
 ·rw [decide_eq_true e]; exact decide_eq_true (.inr e)
 ·rw [decide_eq_false e]; exact decide_eq_false (by omega)
theorem gives_0 {x y : Int} : givesB 0 out aux x y = (decide (out = x) && decide (aux = y)) := by
 unfold givesB
 by_cases e : out = x
 ·by_cases e2 : aux = y
  ·rw [decide_eq_true e, decide_eq_true e2]; exact decide_eq_true ⟨rfl, e, e2⟩
  ·rw [decide_eq_false e2, Bool.and_false]; exact decide_eq_false (by omega)
 ·rw [decide_eq_false e, Bool.false_and]; exact decide_eq_false (by omega)
theorem gives_n {x y : Int} (h : err ≠ 0) : givesB err out aux x y = false := decide_eq_false (by omega)
theorem made_no {z own : Int} (h : needB t p s z = false) : madeM t p s L z err out aux own = justB 2 err out aux := by unfold madeM; rw [if_neg (by rw [h]; simp)]
theorem made_0 {z own : Int} (h : needB t p s z = true) : madeM t p s L z 0 out aux own = freeM (pageN t p s : Int) (endI t p s) L out (rdI t p s z) own := by unfold madeM; rw [if_pos h, just_0 (by omega)]; simp
theorem made_n {z own m : Int} (h : needB t p s z = true) (he : err ≠ 0) : (madeM t p s L z err out aux own && auxB err aux m) = justB 3 err out aux := by
 unfold madeM auxB
 rw [if_pos h, decide_eq_false he, Bool.false_and, Bool.or_false, decide_eq_true (p := err ≠ 0 \/ aux = m) (.inl he), Bool.and_true]
theorem size_yes {z : Int} (h : nSize t p s z = 0) : needB t p s z = true := by
 unfold nSize at h
 split at h
 ·assumption
 ·omega
theorem size_no {z : Int} (h : nSize t p s z ≠ 0) : needB t p s z = false /\ nSize t p s z = 2 := by
 unfold nSize at h ⊢
 split at h
 ·omega
 ·rename_i h1; exact ⟨by simpa using h1, by rw [if_neg h1]⟩
theorem block_yes (h : nBlock L a = 0) : 0 <= mAt L a := by
 unfold nBlock at h
 split at h
 ·rename_i h1; exact of_decide_eq_true h1
 ·omega
theorem block_no (h : nBlock L a ≠ 0) : mAt L a < 0 /\ nBlock L a = 4 := by
 unfold nBlock at h ⊢
 split at h
 ·omega
 ·rename_i h1
  refine ⟨?_, by rw [if_neg h1]⟩
  have := of_decide_eq_false (by simpa using h1 : decide (0 <= mAt L a) = false)
  omega
theorem name_yes (h : nName R a = 0) : heldM R a = false := by
 unfold nName at h
 split at h
 ·omega
 ·rename_i h1; simpa using h1
theorem name_no (h : nName R a ≠ 0) : heldM R a = true /\ nName R a = 6 := by
 unfold nName at h ⊢
 split at h
 ·rename_i h1; exact ⟨h1, by rw [if_pos h1]⟩
 ·omega
theorem root_yes (h : nRoot a = 0) : 0 <= a /\ a < 8 := by
 unfold nRoot at h
 split at h
 ·assumption
 ·omega
theorem root_no (h : nRoot a ≠ 0) : (a < 0 \/ 7 < a) /\ nRoot a = 5 := by
 unfold nRoot at h ⊢
 split at h
 ·omega
 ·rename_i h1; exact ⟨by omega, by rw [if_neg h1]⟩
theorem nclass_yes (h : nClass a = 0) : 0 <= a /\ a < 9 := by
 unfold nClass at h
 split at h
 ·assumption
 ·omega
theorem nclass_no (h : nClass a ≠ 0) : (a < 0 \/ 8 < a) /\ nClass a = 7 := by
 unfold nClass at h ⊢
 split at h
 ·omega
 ·rename_i h1; exact ⟨by omega, by rw [if_neg h1]⟩
theorem orI_yes {x y : Int} (h : orI x y = 0) : x = 0 /\ y = 0 := by
 unfold orI at h
 split at h
 ·rename_i h1; exact ⟨h1, h⟩
 ·rename_i h1; exact absurd h h1
theorem orI_l {x y : Int} (h : x ≠ 0) : orI x y = x := by unfold orI; rw [if_neg h]
theorem orI_r {x y : Int} (h : x = 0) : orI x y = y := by unfold orI; rw [if_pos h]

section
theorem rf1 (ho : opB 1 a b = true) : refI t p s L R 1 a b = nSize t p s a := by unfold refI; rw [if_neg (by rw [ho]; simp), if_pos rfl]
theorem rf2 (ho : opB 2 a b = true) : refI t p s L R 2 a b = orI (nBlock L a) (nName R a) := by unfold refI; rw [if_neg (by rw [ho]; simp), if_neg (by omega), if_pos rfl]
theorem rf3 (ho : opB 3 a b = true) : refI t p s L R 3 a b = orI (nBlock L a) (nSize t p s b) := by unfold refI; rw [if_neg (by rw [ho]; simp), if_neg (by omega), if_neg (by omega), if_pos rfl]
theorem rf4 (ho : opB 4 a b = true) : refI t p s L R 4 a b = orI (nRoot a) (nSize t p s b) := by unfold refI; rw [if_neg (by rw [ho]; simp), if_neg (by omega), if_neg (by omega), if_neg (by omega), if_pos rfl]
theorem rf5 (ho : opB 5 a b = true) : refI t p s L R 5 a b = if b = 0 then nRoot a else orI (nRoot a) (nBlock L b) := by unfold refI; rw [if_neg (by rw [ho]; simp), if_neg (by omega), if_neg (by omega), if_neg (by omega), if_neg (by omega), if_pos rfl]
theorem rf6 (ho : opB 6 a b = true) : refI t p s L R 6 a b = nRoot a := by unfold refI; rw [if_neg (by rw [ho]; simp), if_neg (by omega), if_neg (by omega), if_neg (by omega), if_neg (by omega), if_neg (by omega), if_pos rfl]
theorem rf7 (ho : opB 7 a b = true) : refI t p s L R 7 a b = nBlock L a := by unfold refI; rw [if_neg (by rw [ho]; simp), if_neg (by omega), if_neg (by omega), if_neg (by omega), if_neg (by omega), if_neg (by omega), if_neg (by omega), if_pos rfl]
theorem rf8 (ho : opB 8 a b = true) : refI t p s L R 8 a b = 0 := by unfold refI; rw [if_neg (by rw [ho]; simp), if_neg (by omega), if_neg (by omega), if_neg (by omega), if_neg (by omega), if_neg (by omega), if_neg (by omega), if_neg (by omega), if_neg (by omega)]
theorem rf9 (ho : opB 9 a b = true) : refI t p s L R 9 a b = nClass a := by unfold refI; rw [if_neg (by rw [ho]; simp), if_neg (by omega), if_neg (by omega), if_neg (by omega), if_neg (by omega), if_neg (by omega), if_neg (by omega), if_neg (by omega), if_pos rfl]
theorem am1 (ho : opB 1 a b = true) : allowM t p s L R 1 a b err out aux = (madeM t p s L a err out aux (-1) && auxB err aux (rdI t p s a)) := by unfold allowM; rw [if_neg (by rw [ho]; simp), if_neg (by omega), if_pos rfl]
theorem am_no {k : Int} (ho : opB k a b = true) (hk : k = 2 \/ k = 3 \/ k = 7) (h : mAt L a < 0) : allowM t p s L R k a b err out aux = justB 4 err out aux := by unfold allowM; rw [if_neg (by rw [ho]; simp), if_pos ⟨hk, h⟩]
theorem am2 (ho : opB 2 a b = true) (h : 0 <= mAt L a) : allowM t p s L R 2 a b err out aux = if heldM R a = true then justB 6 err out aux else givesB err out aux (sizeAt L (mAt L a)) 0 := by unfold allowM; rw [if_neg (by rw [ho]; simp), if_neg (by omega), if_neg (by omega), if_pos rfl]
theorem am3 (ho : opB 3 a b = true) (h : 0 <= mAt L a) : allowM t p s L R 3 a b err out aux = (madeM t p s L b err out aux (if out = a then mAt L a else -1) && auxB err aux (rdI t p s b)) := by unfold allowM; rw [if_neg (by rw [ho]; simp), if_neg (by omega), if_neg (by omega), if_neg (by omega), if_pos rfl]
theorem am7 (ho : opB 7 a b = true) (h : 0 <= mAt L a) : allowM t p s L R 7 a b err out aux = givesB err out aux (sizeAt L (mAt L a)) 0 := by unfold allowM; rw [if_neg (by rw [ho]; simp), if_neg (by omega), if_neg (by omega), if_neg (by omega), if_neg (by omega), if_pos rfl]
theorem am8 (ho : opB 8 a b = true) : allowM t p s L R 8 a b err out aux = decide (err = 0 /\ 0 <= out /\ out <= p /\ aux = (L.length : Int)) := by unfold allowM; rw [if_neg (by rw [ho]; simp), if_neg (by omega), if_neg (by omega), if_neg (by omega), if_neg (by omega), if_neg (by omega), if_pos rfl]
theorem am9 (ho : opB 9 a b = true) : allowM t p s L R 9 a b err out aux = if a < 0 \/ 8 < a then justB 7 err out aux else decide (err = 0 /\ 0 <= out /\ out <= 4 /\ aux = 0) := by unfold allowM; rw [if_neg (by rw [ho]; simp), if_neg (by omega), if_neg (by omega), if_neg (by omega), if_neg (by omega), if_neg (by omega), if_neg (by omega), if_pos rfl]
theorem am_root {k : Int} (ho : opB k a b = true) (hk : k = 4 \/ k = 5 \/ k = 6) : allowM t p s L R k a b err out aux = rootM t p s L R k a b err out aux := by unfold allowM; rw [if_neg (by rw [ho]; simp), if_neg (by omega), if_neg (by omega), if_neg (by omega), if_neg (by omega), if_neg (by omega), if_neg (by omega), if_neg (by omega)]
theorem rm_no {k : Int} (h : a < 0 \/ 7 < a) : rootM t p s L R k a b err out aux = justB 5 err out aux := by unfold rootM; rw [if_pos h]
theorem rm4 (h : 0 <= a /\ a < 8) : rootM t p s L R 4 a b err out aux = (madeM t p s L b err out aux (-1) && auxB err aux (R a.toNat)) := by unfold rootM; rw [if_neg (by omega), if_pos rfl]
theorem rm5 (h : 0 <= a /\ a < 8) : rootM t p s L R 5 a b err out aux = if b ≠ 0 /\ mAt L b < 0 then justB 4 err out aux else givesB err out aux b (R a.toNat) := by unfold rootM; rw [if_neg (by omega), if_neg (by omega), if_pos rfl]
theorem rm6 (h : 0 <= a /\ a < 8) : rootM t p s L R 6 a b err out aux = givesB err out aux (R a.toNat) 0 := by unfold rootM; rw [if_neg (by omega), if_neg (by omega), if_neg (by omega)]
end
theorem allow_ref {k : Int} (ho : opB k a b = true) (h : refI t p s L R k a b ≠ 0) : allowM t p s L R k a b err out aux = justB (refI t p s L R k a b) err out aux := by
 have hk9 := op_kind ho
 rcases (by omega : k = 1 \/ k = 2 \/ k = 3 \/ k = 4 \/ k = 5 \/ k = 6 \/ k = 7 \/ k = 8 \/ k = 9) with rfl | rfl | rfl | rfl | rfl | rfl | rfl | rfl | rfl
 ·rw [rf1 ho] at h ⊢
  obtain ⟨h1, h2⟩ := size_no h
  rw [am1 ho, h2, made_no h1, just_aux (by omega)]
 ·rw [rf2 ho] at h ⊢
  by_cases h1 : nBlock L a = 0
  ·rw [orI_r h1] at h ⊢
   obtain ⟨h2, h3⟩ := name_no h
   rw [am2 ho (block_yes h1), h3, if_pos h2]
  ·obtain ⟨h2, h3⟩ := block_no h1
   rw [orI_l h1, am_no ho (by omega) h2, h3]
 ·rw [rf3 ho] at h ⊢
  by_cases h1 : nBlock L a = 0
  ·rw [orI_r h1] at h ⊢
   obtain ⟨h2, h3⟩ := size_no h
   rw [am3 ho (block_yes h1), h3, made_no h2, just_aux (by omega)]
  ·obtain ⟨h2, h3⟩ := block_no h1
   rw [orI_l h1, am_no ho (by omega) h2, h3]
 ·rw [rf4 ho] at h ⊢
  rw [am_root ho (by omega)]
  by_cases h1 : nRoot a = 0
  ·rw [orI_r h1] at h ⊢
   obtain ⟨h2, h3⟩ := size_no h
   rw [rm4 (root_yes h1), h3, made_no h2, just_aux (by omega)]
  ·obtain ⟨h2, h3⟩ := root_no h1
   rw [orI_l h1, rm_no h2, h3]
 ·rw [rf5 ho] at h ⊢
  rw [am_root ho (by omega)]
  by_cases hb : b = 0
  ·rw [if_pos hb] at h ⊢
   obtain ⟨h2, h3⟩ := root_no h
   rw [rm_no h2, h3]
  ·rw [if_neg hb] at h ⊢
   by_cases h1 : nRoot a = 0
   ·rw [orI_r h1] at h ⊢
    obtain ⟨h2, h3⟩ := block_no h
    rw [rm5 (root_yes h1), if_pos ⟨hb, h2⟩, h3]
   ·obtain ⟨h2, h3⟩ := root_no h1
    rw [orI_l h1, rm_no h2, h3]
 ·rw [rf6 ho] at h ⊢
  obtain ⟨h2, h3⟩ := root_no h
  rw [am_root ho (by omega), rm_no h2, h3]
 ·rw [rf7 ho] at h ⊢
  obtain ⟨h2, h3⟩ := block_no h
  rw [am_no ho (by omega) h2, h3]
 ·rw [rf8 ho] at h
  omega
 ·rw [rf9 ho] at h ⊢
  obtain ⟨h2, h3⟩ := nclass_no h
  rw [am9 ho, if_pos h2, h3]
theorem allow_err {k : Int} (ho : opB k a b = true) (h : refI t p s L R k a b = 0) (he : err ≠ 0) : allowM t p s L R k a b err out aux = (takesB k && justB 3 err out aux) := by
 have hk9 := op_kind ho
 rcases (by omega : k = 1 \/ k = 2 \/ k = 3 \/ k = 4 \/ k = 5 \/ k = 6 \/ k = 7 \/ k = 8 \/ k = 9) with rfl | rfl | rfl | rfl | rfl | rfl | rfl | rfl | rfl
 ·rw [rf1 ho] at h
  rw [am1 ho, made_n (size_yes h) he]; rfl
 ·rw [rf2 ho] at h
  obtain ⟨h1, h2⟩ := orI_yes h
  rw [am2 ho (block_yes h1), if_neg (by rw [name_yes h2]; simp), gives_n he]; rfl
 ·rw [rf3 ho] at h
  obtain ⟨h1, h2⟩ := orI_yes h
  rw [am3 ho (block_yes h1), made_n (size_yes h2) he]; rfl
 ·rw [rf4 ho] at h
  obtain ⟨h1, h2⟩ := orI_yes h
  rw [am_root ho (by omega), rm4 (root_yes h1), made_n (size_yes h2) he]; rfl
 ·rw [rf5 ho] at h
  rw [am_root ho (by omega)]
  by_cases hb : b = 0
  ·rw [if_pos hb] at h
   rw [rm5 (root_yes h), if_neg (fun e => e.1 hb), gives_n he]; rfl
  ·rw [if_neg hb] at h
   obtain ⟨h1, h2⟩ := orI_yes h
   have := block_yes h2
   rw [rm5 (root_yes h1), if_neg (by omega), gives_n he]; rfl
 ·rw [rf6 ho] at h
  rw [am_root ho (by omega), rm6 (root_yes h), gives_n he]; rfl
 ·rw [rf7 ho] at h
  rw [am7 ho (block_yes h), gives_n he]; rfl
 ·rw [am8 ho]
  exact decide_eq_false (by omega)
 ·rw [rf9 ho] at h
  have := nclass_yes h
  rw [am9 ho, if_neg (by omega)]
  exact decide_eq_false (by omega)
theorem size_blk (h : 0 <= mAt L a) : sizeAt L (mAt L a) = (blkAt L a).2 := by unfold sizeAt blkAt; rw [if_neg (by omega)]
section
variable {w : World} {g : Nat} {F : Nat -> Prop}
theorem done_c (h : IsMod w g F t p s L R) (k a b out aux : Int) (ha : -9223372036854775808 <= a /\ a <= 9223372036854775807) (hb : -9223372036854775808 <= b /\ b <= 9223372036854775807) (hT : SlotsLaid w) (ho : opB k a b = true) (hr : refI t p s L R k a b = 0) :
  Calls Tryd.prog 29 #[.pointer (some ⟨g, 0, none⟩), .agg #[.int .i64 k, .int .i64 a, .int .i64 b], .agg #[.int .i64 0, .int .i64 out, .int .i64 aux]] w fun e w' => e = .returned (.bool (allowM t p s L R k a b 0 out aux)) /\ Below w.heap.size w w' := by
 have hk9 := op_kind ho
 have hz : ∀ x, blkAt L x = ((blkAt L x).1, (blkAt L x).2) := fun x => rfl
 rcases (by omega : k = 1 \/ k = 2 \/ k = 3 \/ k = 4 \/ k = 5 \/ k = 6 \/ k = 7 \/ k = 8 \/ k = 9) with rfl | rfl | rfl | rfl | rfl | rfl | rfl | rfl | rfl
 ·rw [rf1 ho] at hr
  have hn := size_yes hr
  rw [am1 ho, made_0 hn, aux_0]
  by_cases e : aux = rdI t p s a
  ·rw [decide_eq_true e, Bool.and_true]
   exact done_1b h a b out aux ha hb hT _ rfl hn e _ rfl
  ·rw [decide_eq_false e, Bool.and_false]
   exact done_1a h a b out aux ha hb hT _ rfl hn e
 ·rw [rf2 ho] at hr
  obtain ⟨h1, h2⟩ := orI_yes hr
  have h3 := block_yes h1
  rw [am2 ho h3, if_neg (by rw [name_yes h2]; simp), gives_0, size_blk h3]
  by_cases e : out = (blkAt L a).2
  ·rw [decide_eq_true e, Bool.true_and]
   by_cases e2 : aux = 0
   ·rw [decide_eq_true e2]
    exact done_2c h a b out aux ha hb hT _ _ (hz a) e e2
   ·rw [decide_eq_false e2]
    exact done_2b h a b out aux ha hb hT _ _ (hz a) e e2
  ·rw [decide_eq_false e, Bool.false_and]
   exact done_2a h a b out aux ha hb hT _ _ (hz a) e
 ·rw [rf3 ho] at hr
  obtain ⟨h1, h2⟩ := orI_yes hr
  have h3 := block_yes h1
  have hn := size_yes h2
  rw [am3 ho h3, made_0 hn, aux_0]
  have hm : ∀ (c : Bool), Calls Tryd.prog 65 #[.pointer (some ⟨g, 0, none⟩), .agg #[.int .i64 3, .int .i64 a, .int .i64 b], .agg #[.int .i64 0, .int .i64 out, .int .i64 aux]] ((w.alloc (.cells #[.int .i64 3, .int .i64 a, .int .i64 b] 29)).alloc (.cells #[.int .i64 0, .int .i64 out, .int .i64 aux] 32)) (fun e w' => e = .returned (.bool c) /\ Below ((w.alloc (.cells #[.int .i64 3, .int .i64 a, .int .i64 b] 29)).alloc (.cells #[.int .i64 0, .int .i64 out, .int .i64 aux] 32)).heap.size ((w.alloc (.cells #[.int .i64 3, .int .i64 a, .int .i64 b] 29)).alloc (.cells #[.int .i64 0, .int .i64 out, .int .i64 aux] 32)) w') -> Calls Tryd.prog 29 #[.pointer (some ⟨g, 0, none⟩), .agg #[.int .i64 3, .int .i64 a, .int .i64 b], .agg #[.int .i64 0, .int .i64 out, .int .i64 aux]] w fun e w' => e = .returned (.bool c) /\ Below w.heap.size w w' := by
   intro c hc
   have HC := hidp hc
   have HB := hidp (Bnew (Bnew (B0 w) (.cells #[.int .i64 3, .int .i64 a, .int .i64 b] 29)) (.cells #[.int .i64 0, .int .i64 out, .int .i64 aux] 32))
   have HX := hidp ((Held.new w 29 #[.int .i64 3, .int .i64 a, .int .i64 b]).alloc (.cells #[.int .i64 0, .int .i64 out, .int .i64 aux] 32))
   have HY := hidp (Held.new2 w (.cells #[.int .i64 3, .int .i64 a, .int .i64 b] 29) 32 #[.int .i64 0, .int .i64 out, .int .i64 aux])
   clear h hc hr h1 h2 h3 hn hz
   obtain ⟨x0, x1, x2⟩ := HX.out.three
   obtain ⟨y0, y1, y2⟩ := HY.out.three
   go_enter Tryd.func29, Tryd.ntmps29
   go_wp2_with fail
   refine HC.out.mono ?_; rintro e w1 ⟨rfl, hb1⟩
   have HB1 := hidp (Bgo HB.out hb1)
   clear hb1 x0 x1 x2 y0 y1 y2
   go_wp2_with fail
   go_ret
   exact ⟨rfl, HB1.out⟩
  have HB := Bnew (Bnew (B0 w) (.cells #[.int .i64 3, .int .i64 a, .int .i64 b] 29)) (.cells #[.int .i64 0, .int .i64 out, .int .i64 aux] 32)
  refine hm _ ?_
  have hM := h.stay HB
  have hT2 := hT.below HB
  by_cases e : out = a
  ·rw [if_pos e]
   by_cases e2 : aux = rdI t p s b
   ·rw [decide_eq_true e2, Bool.and_true]
    exact mov_d hM 3 a b out aux ha hb hT2 _ rfl hn e h3 _ _ (hz a) e2 _ rfl
   ·rw [decide_eq_false e2, Bool.and_false]
    exact mov_c hM 3 a b out aux ha hb hT2 _ rfl hn e h3 _ _ (hz a) e2
  ·rw [if_neg e]
   by_cases e2 : aux = rdI t p s b
   ·rw [decide_eq_true e2, Bool.and_true]
    exact mov_b hM 3 a b out aux ha hb hT2 _ rfl hn e e2 _ rfl
   ·rw [decide_eq_false e2, Bool.and_false]
    exact mov_a hM 3 a b out aux ha hb hT2 _ rfl hn e e2
 ·rw [rf4 ho] at hr
  obtain ⟨h1, h2⟩ := orI_yes hr
  have h3 := root_yes h1
  have hn := size_yes h2
  rw [am_root ho (by omega), rm4 h3, made_0 hn, aux_0]
  obtain ⟨n, rfl⟩ := Int.eq_ofNat_of_zero_le h3.1
  by_cases e : aux = R n
  ·rw [show ((n : Nat) : Int).toNat = n from rfl, decide_eq_true e, Bool.and_true]
   exact done_4b h n b out aux ha hb hT n (by omega) rfl _ rfl _ rfl hn e _ rfl
  ·rw [show ((n : Nat) : Int).toNat = n from rfl, decide_eq_false e, Bool.and_false]
   exact done_4a h n b out aux ha hb hT n (by omega) rfl _ rfl _ rfl hn e
 ·rw [rf5 ho] at hr
  have h3 : (0 <= a /\ a < 8) /\ ¬ (b ≠ 0 /\ mAt L b < 0) := by
   by_cases e : b = 0
   ·rw [if_pos e] at hr
    exact ⟨root_yes hr, fun h => h.1 e⟩
   ·rw [if_neg e] at hr
    obtain ⟨h1, h2⟩ := orI_yes hr
    have := block_yes h2
    exact ⟨root_yes h1, by omega⟩
  rw [am_root ho (by omega), rm5 h3.1, if_neg h3.2, gives_0]
  obtain ⟨n, rfl⟩ := Int.eq_ofNat_of_zero_le h3.1.1
  rw [show ((n : Nat) : Int).toNat = n from rfl]
  by_cases e : out = b
  ·rw [decide_eq_true e, Bool.true_and]
   by_cases e2 : aux = R n
   ·rw [decide_eq_true e2]
    exact done_5c h n b out aux ha hb hT n (by omega) rfl _ rfl e e2
   ·rw [decide_eq_false e2]
    exact done_5b h n b out aux ha hb hT n (by omega) rfl _ rfl e e2
  ·rw [decide_eq_false e, Bool.false_and]
   exact done_5a h n b out aux ha hb hT n (by omega) rfl _ rfl e
 ·rw [rf6 ho] at hr
  have h3 := root_yes hr
  rw [am_root ho (by omega), rm6 h3, gives_0]
  obtain ⟨n, rfl⟩ := Int.eq_ofNat_of_zero_le h3.1
  rw [show ((n : Nat) : Int).toNat = n from rfl]
  by_cases e : out = R n
  ·rw [decide_eq_true e, Bool.true_and]
   by_cases e2 : aux = 0
   ·rw [decide_eq_true e2]
    exact done_6c h n b out aux ha hb hT n (by omega) rfl _ rfl e e2
   ·rw [decide_eq_false e2]
    exact done_6b h n b out aux ha hb hT n (by omega) rfl _ rfl e e2
  ·rw [decide_eq_false e, Bool.false_and]
   exact done_6a h n b out aux ha hb hT n (by omega) rfl _ rfl e
 ·rw [rf7 ho] at hr
  have h3 := block_yes hr
  rw [am7 ho h3, gives_0, size_blk h3]
  by_cases e : out = (blkAt L a).2
  ·rw [decide_eq_true e, Bool.true_and]
   by_cases e2 : aux = 0
   ·rw [decide_eq_true e2]
    exact done_7c h a b out aux ha hb hT _ _ (hz a) e e2
   ·rw [decide_eq_false e2]
    exact done_7b h a b out aux ha hb hT _ _ (hz a) e e2
  ·rw [decide_eq_false e, Bool.false_and]
   exact done_7a h a b out aux ha hb hT _ _ (hz a) e
 ·rw [am8 ho]
  by_cases e1 : 0 <= out
  ·by_cases e2 : out <= p
   ·by_cases e3 : aux = (L.length : Int)
    ·rw [decide_eq_true (p := (0 : Int) = 0 /\ 0 <= out /\ out <= p /\ aux = (L.length : Int)) ⟨rfl, e1, e2, e3⟩]
     exact done_8d h a b out aux ha hb hT _ rfl e1 e2 e3
    ·rw [decide_eq_false (p := (0 : Int) = 0 /\ 0 <= out /\ out <= p /\ aux = (L.length : Int)) (by omega)]
     exact done_8c h a b out aux ha hb hT _ rfl e1 e2 e3
   ·rw [decide_eq_false (p := (0 : Int) = 0 /\ 0 <= out /\ out <= p /\ aux = (L.length : Int)) (by omega)]
    exact done_8b h a b out aux ha hb hT _ rfl e1 (by omega)
  ·rw [decide_eq_false (p := (0 : Int) = 0 /\ 0 <= out /\ out <= p /\ aux = (L.length : Int)) (by omega)]
   exact done_8a h a b out aux ha hb hT _ rfl (by omega)
 ·rw [rf9 ho] at hr
  have h3 := nclass_yes hr
  rw [am9 ho, if_neg (by omega)]
  by_cases e1 : 0 <= out
  ·by_cases e2 : out <= 4
   ·by_cases e3 : aux = 0
    ·rw [decide_eq_true (p := (0 : Int) = 0 /\ 0 <= out /\ out <= 4 /\ aux = 0) ⟨rfl, e1, e2, e3⟩]
     exact done_9d h a b out aux ha hb hT e1 e2 e3
    ·rw [decide_eq_false (p := (0 : Int) = 0 /\ 0 <= out /\ out <= 4 /\ aux = 0) (by omega)]
     exact done_9c h a b out aux ha hb hT e1 e2 e3
   ·rw [decide_eq_false (p := (0 : Int) = 0 /\ 0 <= out /\ out <= 4 /\ aux = 0) (by omega)]
    exact done_9b h a b out aux ha hb hT e1 (by omega)
  ·rw [decide_eq_false (p := (0 : Int) = 0 /\ 0 <= out /\ out <= 4 /\ aux = 0) (by omega)]
   exact done_9a h a b out aux ha hb hT (by omega)
end
end
end
end Go.Proofs.YtedakmhffjhfnaaDoor
