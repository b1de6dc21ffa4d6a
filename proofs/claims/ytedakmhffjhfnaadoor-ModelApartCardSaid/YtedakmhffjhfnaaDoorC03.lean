/-
  What the program's automaton reads of itself (model.isMade, isWithin). Written by model/gen_prog.py.
-/
import Derived.Test.YtedakmhffjhfnaaDoorC02
import Derived.Test.YtedakmhffjhfnaaDoorC01
import Derived.Test.YtedakmhffjhfnaaDoorCKit
import Derived.Below
import Derived.WalkKit
import Derived.ProofKit
import Derived.BigQuiet
import Derived.Outline
import Derived.Deep.QuietTactic
import Derived.Deep.RegionHeld3
import Derived.IntWalk
import Derived.KernelRfl
import Derived.RegionTactic
import Derived.Deep.Slices
import Derived.Lib.SmallJoins
namespace Go.Proofs.YtedakmhffjhfnaaDoor
open Go.ChangeShapes Go.WideShapes Go.ChangeAt Go.RowKit Go.Maps
set_option linter.unusedVariables false
set_option linter.unusedSimpArgs false
set_option maxRecDepth 100000
section
theorem mdMade_c {w : World} {g : Nat} {T : TypeId} {t p s : Int} {m : Nat} {R : Nat -> Int} (h : Held w g T (mC t p s (.map (some m)) R)) : Calls Tryd.prog 26 #[.pointer (some ⟨g, 0, none⟩)] w fun e w' => e = .returned (.bool true) /\ Below w.heap.size w w' := by
 obtain ⟨_, _, _, x3⟩ := mod_cells h
 have hmn : ∀ W, (binOp BinOp.neq 60 (.map (some m)) (.map none)).run Tryd.prog W = .ok (.bool true) W := fun W => by kernel_rfl
 go_enter Tryd.func26, Tryd.ntmps26
 go_wp2
 go_ret
 exact ⟨rfl, by repeat (first | exact B0 _ | (with_reducible refine Bdrew ?_) | (with_reducible refine Bdraw ?_ _))⟩
theorem mdMade_nil (w : World) : Calls Tryd.prog 26 #[.pointer none] w fun e w' => e = .returned (.bool false) /\ Below w.heap.size w w' := by
 go_enter Tryd.func26, Tryd.ntmps26
 go_wp2
 go_ret
 exact ⟨rfl, by repeat (first | exact B0 _ | (with_reducible refine Bdrew ?_) | (with_reducible refine Bdraw ?_ _))⟩

set_option maxHeartbeats 1600000 in
theorem mdIn_a {w : World} {g : Nat} {T : TypeId} {u : Value} {R : Nat -> Int} (t p s a z G Y : Int) (hX : Held w g T (mC t p s u R)) (hg : (pageN t p s : Int) = G) (hy : (bytesN t p s : Int) = Y) (hG : 0 <= G /\ G <= 1048576) (hY : 0 <= Y /\ Y <= 2147483648) (hz : -9223372036854775808 <= z /\ z <= 9223372036854775807) (h1 : z < 1) :
  Calls Tryd.prog 55 #[.pointer (some ⟨g, 0, none⟩), .agg #[.int .i64 a, .int .i64 z]] w fun e w' => e = .returned (.bool false) /\ Below w.heap.size w w' := by
 have HX := hidp (Held.new w 55 #[.int .i64 a, .int .i64 z])
 have HG := hidp (hX.alloc (.cells #[.int .i64 a, .int .i64 z] 55))
 have HB := hidp (Bnew (B0 w) (.cells #[.int .i64 a, .int .i64 z] 55))
 have HPG := hidp hg
 have HPY := hidp hy
 have t0 : decide (1 <= z) = false := decide_eq_false (by omega)
 clear hX hg hy
 obtain ⟨m0, m1, m2, m3⟩ := mod_cells HG.out
 go_enter Tryd.func55, Tryd.ntmps55
 go_wp2_with fail
 refine (cfPage_c t p s _).mono ?_; rintro e w1 ⟨rfl, hb⟩; rw [HPG.out]
 replace HX := hidp (HX.out.keep hb)
 replace HG := hidp (HG.out.keep hb)
 replace HB := hidp (Bgo HB.out hb)
 clear hb m0 m1 m2 m3
 obtain ⟨x0, x1⟩ := HX.out.two
 obtain ⟨m0, m1, m2, m3⟩ := mod_cells HG.out
 go_wp2_with fail
 clear x0 x1 m0 m1 m2 m3
 replace HX := hidp (HX.out.keep (Bdrew (B0 _)))
 replace HG := hidp (HG.out.keep (Bdrew (B0 _)))
 replace HB := hidp (Bgo HB.out (Bdrew (B0 _)))
 refine wp_region_held_drew (S := (fun w' => (w'.cell? ⟨w.heap.size, 0, none⟩ = some (.int .i64 a) /\ w'.cell? ⟨w.heap.size, 1, none⟩ = some (.int .i64 z)) /\ (w'.cell? ⟨g, 0, none⟩ = some (.int .i64 t) /\ w'.cell? ⟨g, 1, none⟩ = some (.int .i64 p) /\ w'.cell? ⟨g, 2, none⟩ = some (.int .i64 s) /\ w'.cell? ⟨g, 3, none⟩ = some u))) (by kernel_rfl) ?_ (fun hHeld => ?_)
 ·(try dsimp only)
  first | exact ⟨HX.out.two, mod_cells HG.out⟩ | exact hHeld
 refine tkz 0 ?_
 refine tkz 1 ?_
 refine tkz 2 ?_
 refine tkz 3 ?_
 refine skz 4 ?_
 refine skz 5 ?_
 refine skz 6 ?_
 refine skz 7 ?_
 refine tkz 8 ?_
 refine tkz 9 ?_
 refine skz 10 ?_
 refine skz 11 ?_
 refine skz 12 ?_
 refine skz 13 ?_
 refine skz 14 ?_
 refine skz 15 ?_
 refine skz 16 ?_
 refine skz 17 ?_
 refine skz 18 ?_
 refine skz 19 ?_
 refine skz 20 ?_
 refine skz 21 ?_
 refine skz 22 ?_
 refine tkz 23 ?_
 refine tkz 24 ?_
 refine dnz ?_
 go_wp2_with fail
 go_ret
 exact ⟨by first | rfl | (refine ret_bool ?_; simp; done) | (refine ret_bool ?_; simp; omega), HB.out⟩

set_option maxHeartbeats 1600000 in
theorem mdIn_b {w : World} {g : Nat} {T : TypeId} {u : Value} {R : Nat -> Int} (t p s a z G Y : Int) (hX : Held w g T (mC t p s u R)) (hg : (pageN t p s : Int) = G) (hy : (bytesN t p s : Int) = Y) (hG : 0 <= G /\ G <= 1048576) (hY : 0 <= Y /\ Y <= 2147483648) (hz : -9223372036854775808 <= z /\ z <= 9223372036854775807) (h1 : 1 <= z) (h2 : a < G) :
  Calls Tryd.prog 55 #[.pointer (some ⟨g, 0, none⟩), .agg #[.int .i64 a, .int .i64 z]] w fun e w' => e = .returned (.bool false) /\ Below w.heap.size w w' := by
 have HX := hidp (Held.new w 55 #[.int .i64 a, .int .i64 z])
 have HG := hidp (hX.alloc (.cells #[.int .i64 a, .int .i64 z] 55))
 have HB := hidp (Bnew (B0 w) (.cells #[.int .i64 a, .int .i64 z] 55))
 have HPG := hidp hg
 have HPY := hidp hy
 have t0 : decide (1 <= z) = true := decide_eq_true (by omega)
 have t1 : decide (G <= a) = false := decide_eq_false (by omega)
 clear hX hg hy
 obtain ⟨m0, m1, m2, m3⟩ := mod_cells HG.out
 go_enter Tryd.func55, Tryd.ntmps55
 go_wp2_with fail
 refine (cfPage_c t p s _).mono ?_; rintro e w1 ⟨rfl, hb⟩; rw [HPG.out]
 replace HX := hidp (HX.out.keep hb)
 replace HG := hidp (HG.out.keep hb)
 replace HB := hidp (Bgo HB.out hb)
 clear hb m0 m1 m2 m3
 obtain ⟨x0, x1⟩ := HX.out.two
 obtain ⟨m0, m1, m2, m3⟩ := mod_cells HG.out
 go_wp2_with fail
 clear x0 x1 m0 m1 m2 m3
 replace HX := hidp (HX.out.keep (Bdrew (B0 _)))
 replace HG := hidp (HG.out.keep (Bdrew (B0 _)))
 replace HB := hidp (Bgo HB.out (Bdrew (B0 _)))
 refine wp_region_held_drew (S := (fun w' => (w'.cell? ⟨w.heap.size, 0, none⟩ = some (.int .i64 a) /\ w'.cell? ⟨w.heap.size, 1, none⟩ = some (.int .i64 z)) /\ (w'.cell? ⟨g, 0, none⟩ = some (.int .i64 t) /\ w'.cell? ⟨g, 1, none⟩ = some (.int .i64 p) /\ w'.cell? ⟨g, 2, none⟩ = some (.int .i64 s) /\ w'.cell? ⟨g, 3, none⟩ = some u))) (by kernel_rfl) ?_ (fun hHeld => ?_)
 ·(try dsimp only)
  first | exact ⟨HX.out.two, mod_cells HG.out⟩ | exact hHeld
 refine tkz 0 ?_
 refine tkz 1 ?_
 refine tkz 2 ?_
 refine tkz 3 ?_
 refine tkz 4 ?_
 refine tkz 5 ?_
 refine tkz 6 ?_
 refine tkz 7 ?_
 refine tkz 8 ?_
 refine tkz 9 ?_
 refine skz 10 ?_
 refine skz 11 ?_
 refine skz 12 ?_
 refine skz 13 ?_
 refine skz 14 ?_
 refine skz 15 ?_
 refine skz 16 ?_
 refine skz 17 ?_
 refine skz 18 ?_
 refine skz 19 ?_
 refine skz 20 ?_
 refine skz 21 ?_
 refine skz 22 ?_
 refine tkz 23 ?_
 refine tkz 24 ?_
 refine dnz ?_
 go_wp2_with fail
 go_ret
 exact ⟨by first | rfl | (refine ret_bool ?_; simp; done) | (refine ret_bool ?_; simp; omega), HB.out⟩

set_option maxHeartbeats 1600000 in
theorem mdIn_c {w : World} {g : Nat} {T : TypeId} {u : Value} {R : Nat -> Int} (t p s a z G Y : Int) (hX : Held w g T (mC t p s u R)) (hg : (pageN t p s : Int) = G) (hy : (bytesN t p s : Int) = Y) (hG : 0 <= G /\ G <= 1048576) (hY : 0 <= Y /\ Y <= 2147483648) (hz : -9223372036854775808 <= z /\ z <= 9223372036854775807) (h1 : 1 <= z) (h2 : G <= a) (h3 : G + Y - z < a) :
  Calls Tryd.prog 55 #[.pointer (some ⟨g, 0, none⟩), .agg #[.int .i64 a, .int .i64 z]] w fun e w' => e = .returned (.bool false) /\ Below w.heap.size w w' := by
 have HX := hidp (Held.new w 55 #[.int .i64 a, .int .i64 z])
 have HG := hidp (hX.alloc (.cells #[.int .i64 a, .int .i64 z] 55))
 have HB := hidp (Bnew (B0 w) (.cells #[.int .i64 a, .int .i64 z] 55))
 have HPG := hidp hg
 have HPY := hidp hy
 have t0 : decide (1 <= z) = true := decide_eq_true (by omega)
 have t1 : decide (G <= a) = true := decide_eq_true (by omega)
 have hw1 : IntKind.i64.wrap (G + Y) = G + Y := i64_same (by omega) (by omega)
 have hw2 : IntKind.i64.wrap (G + Y - z) = G + Y - z := i64_same (by omega) (by omega)
 have t2 : decide (a <= G + Y - z) = false := decide_eq_false (by omega)
 clear hX hg hy
 obtain ⟨m0, m1, m2, m3⟩ := mod_cells HG.out
 go_enter Tryd.func55, Tryd.ntmps55
 go_wp2_with fail
 refine (cfPage_c t p s _).mono ?_; rintro e w1 ⟨rfl, hb⟩; rw [HPG.out]
 replace HX := hidp (HX.out.keep hb)
 replace HG := hidp (HG.out.keep hb)
 replace HB := hidp (Bgo HB.out hb)
 clear hb m0 m1 m2 m3
 obtain ⟨x0, x1⟩ := HX.out.two
 obtain ⟨m0, m1, m2, m3⟩ := mod_cells HG.out
 go_wp2_with fail
 clear x0 x1 m0 m1 m2 m3
 replace HX := hidp (HX.out.keep (Bdrew (B0 _)))
 replace HG := hidp (HG.out.keep (Bdrew (B0 _)))
 replace HB := hidp (Bgo HB.out (Bdrew (B0 _)))
 refine wp_region_held_drew (S := (fun w' => (w'.cell? ⟨w.heap.size, 0, none⟩ = some (.int .i64 a) /\ w'.cell? ⟨w.heap.size, 1, none⟩ = some (.int .i64 z)) /\ (w'.cell? ⟨g, 0, none⟩ = some (.int .i64 t) /\ w'.cell? ⟨g, 1, none⟩ = some (.int .i64 p) /\ w'.cell? ⟨g, 2, none⟩ = some (.int .i64 s) /\ w'.cell? ⟨g, 3, none⟩ = some u))) (by kernel_rfl) ?_ (fun hHeld => ?_)
 ·(try dsimp only)
  first | exact ⟨HX.out.two, mod_cells HG.out⟩ | exact hHeld
 refine tkz 0 ?_
 refine tkz 1 ?_
 refine tkz 2 ?_
 refine tkz 3 ?_
 refine tkz 4 ?_
 refine tkz 5 ?_
 refine tkz 6 ?_
 refine tkz 7 ?_
 refine tkz 8 ?_
 refine tkz 9 ?_
 refine tkz 10 ?_
 refine tkz 11 ?_
 refine tkz 12 ?_
 refine tkz 13 ?_
 refine tkz 14 ?_
 refine tkz 15 ?_
 refine tkz 16 ?_
 refine tkz 19 ?_
 refine tkz 20 ?_
 refine rdz 17 fun K hK => ?_
 go_simp
 (refine (cfBytes_c t p s _).mono ?_; rintro e w1 ⟨rfl, hb⟩; rw [HPY.out]; replace HX := hidp (HX.out.keep hb); replace HG := hidp (HG.out.keep hb); replace HB := hidp (Bgo HB.out hb); clear hb)
 refine hK.out _ _ ?_ (fun hHeld => ?_)
 ·(try dsimp only)
  first | exact ⟨HX.out.two, mod_cells HG.out⟩ | exact hHeld
 clear hK K
 (try simp only [Act.put, gA, gB, gC, sA, sB, sC])
 refine tkz 18 ?_
 refine tkz 21 ?_
 refine tkz 22 ?_
 refine tkz 23 ?_
 refine tkz 24 ?_
 refine dnz ?_
 go_wp2_with fail
 go_ret
 exact ⟨by first | rfl | (refine ret_bool ?_; simp; done) | (refine ret_bool ?_; simp; omega), HB.out⟩

set_option maxHeartbeats 1600000 in
theorem mdIn_d {w : World} {g : Nat} {T : TypeId} {u : Value} {R : Nat -> Int} (t p s a z G Y : Int) (hX : Held w g T (mC t p s u R)) (hg : (pageN t p s : Int) = G) (hy : (bytesN t p s : Int) = Y) (hG : 0 <= G /\ G <= 1048576) (hY : 0 <= Y /\ Y <= 2147483648) (hz : -9223372036854775808 <= z /\ z <= 9223372036854775807) (h1 : 1 <= z) (h2 : G <= a) (h3 : a <= G + Y - z) :
  Calls Tryd.prog 55 #[.pointer (some ⟨g, 0, none⟩), .agg #[.int .i64 a, .int .i64 z]] w fun e w' => e = .returned (.bool true) /\ Below w.heap.size w w' := by
 have HX := hidp (Held.new w 55 #[.int .i64 a, .int .i64 z])
 have HG := hidp (hX.alloc (.cells #[.int .i64 a, .int .i64 z] 55))
 have HB := hidp (Bnew (B0 w) (.cells #[.int .i64 a, .int .i64 z] 55))
 have HPG := hidp hg
 have HPY := hidp hy
 have t0 : decide (1 <= z) = true := decide_eq_true (by omega)
 have t1 : decide (G <= a) = true := decide_eq_true (by omega)
 have hw1 : IntKind.i64.wrap (G + Y) = G + Y := i64_same (by omega) (by omega)
 have hw2 : IntKind.i64.wrap (G + Y - z) = G + Y - z := i64_same (by omega) (by omega)
 have t2 : decide (a <= G + Y - z) = true := decide_eq_true (by omega)
 clear hX hg hy
 obtain ⟨m0, m1, m2, m3⟩ := mod_cells HG.out
 go_enter Tryd.func55, Tryd.ntmps55
 go_wp2_with fail
 refine (cfPage_c t p s _).mono ?_; rintro e w1 ⟨rfl, hb⟩; rw [HPG.out]
 replace HX := hidp (HX.out.keep hb)
 replace HG := hidp (HG.out.keep hb)
 replace HB := hidp (Bgo HB.out hb)
 clear hb m0 m1 m2 m3
 obtain ⟨x0, x1⟩ := HX.out.two
 obtain ⟨m0, m1, m2, m3⟩ := mod_cells HG.out
 go_wp2_with fail
 clear x0 x1 m0 m1 m2 m3
 replace HX := hidp (HX.out.keep (Bdrew (B0 _)))
 replace HG := hidp (HG.out.keep (Bdrew (B0 _)))
 replace HB := hidp (Bgo HB.out (Bdrew (B0 _)))
 refine wp_region_held_drew (S := (fun w' => (w'.cell? ⟨w.heap.size, 0, none⟩ = some (.int .i64 a) /\ w'.cell? ⟨w.heap.size, 1, none⟩ = some (.int .i64 z)) /\ (w'.cell? ⟨g, 0, none⟩ = some (.int .i64 t) /\ w'.cell? ⟨g, 1, none⟩ = some (.int .i64 p) /\ w'.cell? ⟨g, 2, none⟩ = some (.int .i64 s) /\ w'.cell? ⟨g, 3, none⟩ = some u))) (by kernel_rfl) ?_ (fun hHeld => ?_)
 ·(try dsimp only)
  first | exact ⟨HX.out.two, mod_cells HG.out⟩ | exact hHeld
 refine tkz 0 ?_
 refine tkz 1 ?_
 refine tkz 2 ?_
 refine tkz 3 ?_
 refine tkz 4 ?_
 refine tkz 5 ?_
 refine tkz 6 ?_
 refine tkz 7 ?_
 refine tkz 8 ?_
 refine tkz 9 ?_
 refine tkz 10 ?_
 refine tkz 11 ?_
 refine tkz 12 ?_
 refine tkz 13 ?_
 refine tkz 14 ?_
 refine tkz 15 ?_
 refine tkz 16 ?_
 refine tkz 19 ?_
 refine tkz 20 ?_
 refine rdz 17 fun K hK => ?_
 go_simp
 (refine (cfBytes_c t p s _).mono ?_; rintro e w1 ⟨rfl, hb⟩; rw [HPY.out]; replace HX := hidp (HX.out.keep hb); replace HG := hidp (HG.out.keep hb); replace HB := hidp (Bgo HB.out hb); clear hb)
 refine hK.out _ _ ?_ (fun hHeld => ?_)
 ·(try dsimp only)
  first | exact ⟨HX.out.two, mod_cells HG.out⟩ | exact hHeld
 clear hK K
 (try simp only [Act.put, gA, gB, gC, sA, sB, sC])
 refine tkz 18 ?_
 refine tkz 21 ?_
 refine tkz 22 ?_
 refine tkz 23 ?_
 refine tkz 24 ?_
 refine dnz ?_
 go_wp2_with fail
 go_ret
 exact ⟨by first | rfl | (refine ret_bool ?_; simp; done) | (refine ret_bool ?_; simp; omega), HB.out⟩

theorem bytes_end {t p s : Int} (h : rightB t p s = true) : (pageN t p s : Int) + (bytesN t p s : Int) = endI t p s := by
 have hp := ((rightB_iff t p s).1 h).2.1
 unfold endI pageN bytesN
 rw [h]
 obtain ⟨q, rfl⟩ := Int.eq_ofNat_of_zero_le (show 0 <= p by omega)
 simp only [if_true]
 push_cast
 rw [show (Int.toNat (q : Int)) = q from rfl, Int.mul_add, Int.mul_comm (q : Int) _]
 omega
theorem mdIn_h {w : World} {g : Nat} {T : TypeId} {t p s : Int} {u : Value} {R : Nat -> Int} (hr : rightB t p s = true) (hX : Held w g T (mC t p s u R)) (a z : Int) (hz : -9223372036854775808 <= z /\ z <= 9223372036854775807) :
  Calls Tryd.prog 55 #[.pointer (some ⟨g, 0, none⟩), .agg #[.int .i64 a, .int .i64 z]] w fun e w' => e = .returned (.bool (insB (pageN t p s : Int) (endI t p s) a z)) /\ Below w.heap.size w w' := by
 obtain ⟨b1, b2⟩ := end_le hr
 have he := bytes_end hr
 have hG : 0 <= (pageN t p s : Int) /\ (pageN t p s : Int) <= 1048576 := ⟨b2.1, b2.2.1⟩
 have hY : 0 <= (bytesN t p s : Int) /\ (bytesN t p s : Int) <= 2147483648 := by omega
 by_cases h1 : z < 1
 ·rw [show insB (pageN t p s : Int) (endI t p s) a z = false from decide_eq_false (by omega)]
  exact mdIn_a t p s a z _ _ hX rfl rfl hG hY hz h1
 by_cases h2 : a < (pageN t p s : Int)
 ·rw [show insB (pageN t p s : Int) (endI t p s) a z = false from decide_eq_false (by omega)]
  exact mdIn_b t p s a z _ _ hX rfl rfl hG hY hz (by omega) h2
 by_cases h3 : (pageN t p s : Int) + (bytesN t p s : Int) - z < a
 ·rw [show insB (pageN t p s : Int) (endI t p s) a z = false from decide_eq_false (by omega)]
  exact mdIn_c t p s a z _ _ hX rfl rfl hG hY hz (by omega) (by omega) h3
 rw [show insB (pageN t p s : Int) (endI t p s) a z = true from decide_eq_true (by omega)]
 exact mdIn_d t p s a z _ _ hX rfl rfl hG hY hz (by omega) (by omega) (by omega)
end
section
theorem asc_one {G E : Int} {L : List (Int × Int)} (ha : AscM L) (hi : InsM G E L) {x y : Int × Int} (hx : x ∈ L) (hy : y ∈ L) (h : x.1 = y.1) : x = y := by
 obtain ⟨i, hi1, rfl⟩ := List.getElem_of_mem hx
 obtain ⟨j, hj1, rfl⟩ := List.getElem_of_mem hy
 have hp := List.pairwise_iff_getElem.1 ha
 have h1 := ins_parts (hi _ hx)
 have h2 := ins_parts (hi _ hy)
 rcases Nat.lt_trichotomy i j with h3 | h3 | h3
 ·have := hp i j hi1 hj1 h3
  omega
 ·subst h3; rfl
 ·have := hp j i hj1 hi1 h3
  omega
def blkAt (L : List (Int × Int)) (a : Int) : Int × Int := if mAt L a < 0 then (0, 0) else L.getD (mAt L a).toNat (0, 0)
theorem blkAt_mem {G E : Int} {L : List (Int × Int)} (ha : AscM L) (hi : InsM G E L) {a z : Int} (h : (a, z) ∈ L) : decide (0 <= mAt L a) = true /\ blkAt L a = (a, z) := by
 rcases mAt_cases L a with ⟨_, h2⟩ | ⟨i, z', h1, h2, h3⟩
 ·exact absurd rfl (h2 _ h)
 ·have e : (a, z') = (a, z) := asc_one ha hi (List.mem_of_getElem? h2) h rfl
  refine ⟨decide_eq_true (by omega), ?_⟩
  unfold blkAt
  rw [if_neg (by omega), h1]
  simp [List.getD, h2]
  injection e
theorem blkAt_none {L : List (Int × Int)} {a : Int} (h : ∀ x ∈ L, x.1 ≠ a) : decide (0 <= mAt L a) = false /\ blkAt L a = (0, 0) := by
 rcases mAt_cases L a with ⟨h1, _⟩ | ⟨i, z', h1, h2, h3⟩
 ·exact ⟨decide_eq_false (by omega), by unfold blkAt; rw [if_pos (by omega)]⟩
 ·exact absurd rfl (h _ (List.mem_of_getElem? h2))
theorem bk_invK : ∀ key kl, keyOf Tryd.prog 55 key = some kl -> ∃ x : Int × Int, key = .agg #[.int .i64 x.1, .int .i64 x.2] := fun key kl h => by
 obtain ⟨x, h1, _⟩ := bk_inv h
 exact ⟨x, h1⟩
theorem unit_invV : ∀ (v : Value) (y : DataW Unit × List MemPlace), unitElem v = some y -> ∃ c : Unit, v = .agg #[] := fun v y h => ⟨(), (unitElem_inv h).1⟩

section
variable {w : World} {g : Nat} {F : Nat -> Prop} {t p s : Int} {L : List (Int × Int)} {R : Nat -> Int}
set_option maxHeartbeats 1600000 in
theorem mdAt_c (h : IsMod w g F t p s L R) (a : Int) : Calls Tryd.prog 22 #[.pointer (some ⟨g, 0, none⟩), .int .i64 a] w fun e w' => e = .returned (.tuple #[.agg #[.int .i64 (blkAt L a).1, .int .i64 (blkAt L a).2], .bool (decide (0 <= mAt L a))]) /\ Below w.heap.size w w' := by
 obtain ⟨m, D, hm, hX, hO, hD⟩ := h.ex
 have HH := hidp h
 have HD := hidp hD
 have HR := hidp (Held.new w 55 #[.int .i64 0, .int .i64 0])
 have HB := hidp (Bnew (B0 w) (.cells #[.int .i64 0, .int .i64 0] 55))
 have hown := hO.alloc (.cells #[.int .i64 0, .int .i64 0] 55)
 have HX := hidp (hX.alloc (.cells #[.int .i64 0, .int .i64 0] 55))
 obtain ⟨_, _, _, x3⟩ := mod_cells HX.out
 clear h hX hO hD hm
 go_enter Tryd.func22, Tryd.ntmps22
 go_wp2_with (first
  | (at_range; refine wpList_range_own _ rfl _ 60 rfl 55 72 bkKey Tryd.underlying60 unitElem m L.length D rfl hown ?_; intro w0 hrg0 hg0 hs0; rw [show (w.alloc (.cells #[.int .i64 0, .int .i64 0] 55)).heap.size = w.heap.size + 1 from by simp] at hrg0 ⊢)
  | go_in)
 try go_frame
 have HB0 : Hid (Below w.heap.size w w0) := hidp (HB.out.grown hg0 HB.out.size (fun j hj => by cases hj))
 have HR0 : Hid (Held w0 w.heap.size 55 #[.int .i64 0, .int .i64 0]) := hidp ((hg0.block _ (by simp) (by simp)).trans HR.out)
 have HC0 : Hid (CameB D (Maps.has D) []) := hidp (CameB.start D)
 have HS0 : Hid (w.heap.size + 2 <= w0.heap.size) := hidp (by have := hrg0.lt; omega)
 have hrg1 : w0.ranges Tryd.prog 55 unitElem m (w.heap.size + 1) L.length D (Maps.has D) (Maps.size D) := hrg0
 clear hown hs0 hg0 hrg0 x3
 go_loopw [12] (fun _ wr => ∃ (left : Lit -> Bool) (cnt : Nat) (ss : List (Int × Int)), wr.ranges Tryd.prog 55 unitElem m (w.heap.size + 1) L.length D left cnt /\ Hid (CameB D left ss) /\ Hid (∀ x ∈ ss, x.1 ≠ a) /\ Hid (Below w.heap.size w wr) /\ Hid (Held wr w.heap.size 55 #[.int .i64 0, .int .i64 0]) /\ Hid (w.heap.size + 2 <= wr.heap.size))
  (fun _ wr => wr.rangeLeft m (w.heap.size + 1))
 case atStart => exact ⟨_, _, [], hrg1, HC0, hidp (by simp), HB0, HR0, HS0⟩
 case round =>
  clear HB0 HC0 HR0 HS0 hrg1 HR HB HX
  obtain ⟨left, cnt, ss, hrg, HC, HNO, HB, HR, HSZ⟩ := hrel
  obtain ⟨r0, r1⟩ := HR.out.two
  have fr0 := HR.out.thawed 0
  have fr1 := HR.out.thawed 1
  go_wp2_with (first
   | (at_next; refine wpList_next_ranges _ rfl _ rfl 55 bkKey unitElem (fun x : Int × Int => .agg #[.int .i64 x.1, .int .i64 x.2]) (fun _ : Unit => .agg #[]) bk_invK unit_invV m (w.heap.size + 1) L.length _ _ _ rfl hrg ?_ ?_)
   | go_in)
  ·intro hc0 hl0
   have HE := hidp (blkAt_none (L := L) (a := a) (fun x hx => HNO.out x ((HC.out.done hl0 HD.out HH.out.nodup).mem_iff.2 hx)))
   have HZ := hidp ((HR.out.put 0 (.int .i64 0)).put 1 (.int .i64 0))
   clear hrg
   go_wp2
   obtain ⟨z0, z1⟩ := HZ.out.two
   refine bodyPost_ret (v := .tuple #[.agg #[.int .i64 0, .int .i64 0], .bool false]) (by simp [results, Tryd.results22, go_sem, z0, z1]) rfl ⟨by rw [HE.out.1, HE.out.2], ?_⟩
   repeat (first | exact HB.out | exact HB2.out | exact Bnew HB2.out _ | (with_reducible refine Bput ?_ (by first | (simp; done) | (simp; omega)) _))
  ·intro x1 x2 kl yd yp w2 cnt2 hkey hlk hv hat hrg2 hlt hg2 hs2 hen
   obtain ⟨⟨y1, y2⟩, he, hw1, hw2, hkl⟩ := bk_inv hkey
   simp only [bkV, Value.agg.injEq] at he hw1 hw2 hkl
   obtain ⟨rfl, rfl⟩ : x1 = y1 /\ x2 = y2 := by simpa using he
   subst hkl
   have hhas := has_true_of_atKey hat
   have HB2 : Hid (Below w.heap.size w w2) := hidp (HB.out.grown hg2 HB.out.size (fun j hj => by cases hj; omega))
   have HR2 : Hid (Held w2 w.heap.size 55 #[.int .i64 0, .int .i64 0]) := hidp ((hg2.block _ (by have := HSZ.out; omega) (by simp)).trans HR.out)
   have HCC := hidp (HC.out.step (x := (x1, x2)) ⟨hw1, hw2⟩ hlk hhas)
   have HIN : Hid ((x1, x2) ∈ L) := hidp ((HD.out.has (x1, x2) ⟨hw1, hw2⟩).1 hhas)
   have HRG2 := hidp hrg2
   have HRG := hidp hrg
   have HM := hidp hlt
   have HS2 : Hid (w2.heap.size = wr.heap.size) := hidp hs2
   clear hrg hrg2 hlt hg2 hs2 he hat hv hkey hlk hhas hw1 hw2 r0 r1 fr0 fr1
   have HR3 := hidp (HR2.out.alloc (.cells #[.int .i64 x1, .int .i64 x2] 55))
   obtain ⟨r0, r1⟩ := HR3.out.two
   have fr0 := HR3.out.thawed 0
   have fr1 := HR3.out.thawed 1
   have HN3 := hidp (Held.new w2 55 #[.int .i64 x1, .int .i64 x2])
   obtain ⟨n0, n1⟩ := HN3.out.two
   by_cases hxa : x1 = a
   ·have t0 : (x1 == a) = true := by simp [hxa]
    have HE := hidp (blkAt_mem HH.out.asc HH.out.ins (a := a) (z := x2) (by rw [<- hxa]; exact HIN.out))
    have HXA := hidp hxa
    clear hxa
    have HZ := hidp ((HR3.out.put 0 (.int .i64 x1)).put 1 (.int .i64 x2))
    go_wp2
    obtain ⟨z0, z1⟩ := HZ.out.two
    refine bodyPost_ret (v := .tuple #[.agg #[.int .i64 x1, .int .i64 x2], .bool true]) (by simp [results, Tryd.results22, go_sem, z0, z1]) rfl ⟨by rw [HE.out.1, HE.out.2, HXA.out], ?_⟩
    repeat (first | exact HB.out | exact HB2.out | exact Bnew HB2.out _ | (with_reducible refine Bput ?_ (by first | (simp; done) | (simp; omega)) _))
   ·have t0 : (x1 == a) = false := by simp [hxa]
    have HNO2 : Hid (∀ x ∈ ss ++ [(x1, x2)], x.1 ≠ a) := hidp (fun x hx => by
     rcases List.mem_append.1 hx with h1 | h1
     ·exact HNO.out x h1
     ·simp at h1; subst h1; exact hxa)
    clear hxa
    go_wp2
    go_roundw
    case rel => exact ⟨_, cnt2, ss ++ [(x1, x2)], HRG2.out.alloc _, HCC, HNO2, hidp (Bnew HB2.out _), HR3, hidp (by have := HSZ.out; have := HS2.out; simp; omega)⟩
    case measure =>
     rw [(HRG2.out.alloc (.cells #[.int .i64 x1, .int .i64 x2] 55)).left_eq, HRG.out.left_eq]
     exact HM.out
end
end
section
section
variable {w : World} {g : Nat} {F : Nat -> Prop} {t p s : Int} {L : List (Int × Int)} {R : Nat -> Int}
set_option maxHeartbeats 3200000 in
theorem mdFree_c (h : IsMod w g F t p s L R) (a z oa oz own : Int) (hz : -9223372036854775808 <= z /\ z <= 9223372036854775807) (hown : ∀ (j : Nat) (x : Int × Int), L[j]? = some x -> (x = (oa, oz) ↔ (j : Int) = own)) :
  Calls Tryd.prog 64 #[.pointer (some ⟨g, 0, none⟩), .agg #[.int .i64 a, .int .i64 z], .agg #[.int .i64 oa, .int .i64 oz]] w fun e w' => e = .returned (.bool (freeM (pageN t p s : Int) (endI t p s) L a z own)) /\ Below w.heap.size w w' := by
 obtain ⟨b1, b2⟩ := end_le h.right
 obtain ⟨m, D, hm, hX, hO, hD⟩ := h.ex
 obtain ⟨G, hG⟩ : ∃ G : Int, (pageN t p s : Int) = G := ⟨_, rfl⟩
 obtain ⟨E, hE⟩ : ∃ E : Int, endI t p s = E := ⟨_, rfl⟩
 have HB := hidp (Bnew (Bnew (B0 w) (.cells #[.int .i64 a, .int .i64 z] 55)) (.cells #[.int .i64 oa, .int .i64 oz] 55))
 have hX2 := hX.keep HB.out
 have hI := mdIn_h h.right hX2 a z hz
 have hNS := h.ins
 rw [hG, hE] at hI hNS b2 ⊢
 have HIN := hidp hI
 have HNS := hidp hNS
 have HOWN := hidp hown
 have HH := hidp h
 have HD := hidp hD
 have HX := hidp hX2
 have HO := hidp (owns_turns hO (Turns.of_below HB.out (fun _ => False)) (fun x => x))
 have HY := hidp ((Held.new w 55 #[.int .i64 a, .int .i64 z]).alloc (.cells #[.int .i64 oa, .int .i64 oz] 55))
 have HW := hidp (Held.new2 w (.cells #[.int .i64 a, .int .i64 z] 55) 55 #[.int .i64 oa, .int .i64 oz])
 clear h hX hX2 hO hD hm hI hNS hown hG hE b1
 obtain ⟨y0, y1⟩ := HY.out.two
 obtain ⟨v0, v1⟩ := HW.out.two
 cases hi : insB G E a z with
 | false =>
  have HF : Hid (freeM G E L a z own = false) := hidp (freeM_no hi)
  have HI := hidp hi
  clear hi b2
  go_enter Tryd.func64, Tryd.ntmps64
  go_wp2_with fail
  refine HIN.out.mono ?_; rintro e w1 ⟨rfl, hb⟩; rw [HI.out]
  replace HB := hidp (Bgo HB.out hb)
  go_wp2
  go_ret
  exact ⟨by rw [HF.out]; rfl, HB.out⟩
 | true =>
  have HI := hidp hi
  have hib := of_decide_eq_true hi
  clear hi
  go_enter Tryd.func64, Tryd.ntmps64
  go_wp2_with fail
  refine HIN.out.mono ?_; rintro e w1 ⟨rfl, hb⟩; rw [HI.out]
  replace HB := hidp (Bgo HB.out hb)
  replace HX := hidp (HX.out.keep hb)
  replace HY := hidp (HY.out.keep hb)
  replace HW := hidp (HW.out.keep hb)
  have hown := owns_turns HO.out (Turns.of_below hb (fun _ => False)) (fun x => x)
  have HS1 : Hid (w.heap.size + 2 <= w1.heap.size) := hidp (by have := hb.size; simp at this; omega)
  clear hb y0 y1 v0 v1 HIN HO
  obtain ⟨IT, hIT⟩ : ∃ IT, w1.heap.size = IT := ⟨_, rfl⟩
  obtain ⟨_, _, _, x3⟩ := mod_cells HX.out
  go_wp2_with (first
   | (at_range; refine wpList_range_own _ rfl _ 60 rfl 55 72 bkKey Tryd.underlying60 unitElem m L.length D rfl hown ?_; intro w0 hrg0 hg0 hs0; rw [hIT] at hrg0 hs0 ⊢)
   | go_in)
  try go_frame
  rw [hIT] at HS1
  have HB0 : Hid (Below w.heap.size w w0) := hidp (HB.out.grown hg0 HB.out.size (fun j hj => by cases hj))
  have HY0 : Hid (Held w0 w.heap.size 55 #[.int .i64 a, .int .i64 z]) := hidp ((hg0.block _ HY.out.lt (by simp)).trans HY.out)
  have HW0 : Hid (Held w0 (w.heap.size + 1) 55 #[.int .i64 oa, .int .i64 oz]) := hidp ((hg0.block _ HW.out.lt (by simp)).trans HW.out)
  have HC0 : Hid (CameB D (Maps.has D) []) := hidp (CameB.start D)
  have HS0 : Hid (IT < w0.heap.size) := hidp (by have := hrg0.lt; omega)
  clear hown hs0 hg0 x3
  go_loopw [17] (fun _ wr => ∃ (left : Lit -> Bool) (cnt : Nat) (ss : List (Int × Int)), wr.ranges Tryd.prog 55 unitElem m IT L.length D left cnt /\ Hid (CameB D left ss) /\ Hid (∀ x ∈ ss, x = (oa, oz) \/ hitB x a z = false) /\ Hid (Below w.heap.size w wr) /\ Hid (Held wr w.heap.size 55 #[.int .i64 a, .int .i64 z]) /\ Hid (Held wr (w.heap.size + 1) 55 #[.int .i64 oa, .int .i64 oz]) /\ Hid (IT < wr.heap.size))
   (fun _ wr => wr.rangeLeft m IT)
  case atStart => exact ⟨_, _, [], hrg0, HC0, hidp (by simp), HB0, HY0, HW0, HS0⟩
  case round =>
   clear HB0 HC0 HY0 HW0 HS0 hrg0 HY HW HB HX
   obtain ⟨left, cnt, ss, hrg, HC, HNO, HB, HY, HW, HSZ⟩ := hrel
   go_wp2_with (first
    | (at_next; refine wpList_next_ranges _ rfl _ rfl 55 bkKey unitElem (fun x : Int × Int => .agg #[.int .i64 x.1, .int .i64 x.2]) (fun _ : Unit => .agg #[]) bk_invK unit_invV m IT L.length _ _ _ rfl hrg ?_ ?_)
    | go_in)
   ·intro hc0 hl0
    have HF : Hid (freeM G E L a z own = true) := hidp (freeM_all HI.out (fun j x hx => by
     rcases HNO.out x ((HC.out.done hl0 HD.out HH.out.nodup).mem_iff.2 (List.mem_of_getElem? hx)) with h1 | h1
     ·exact .inl ((HOWN.out j x hx).1 h1)
     ·exact .inr h1))
    clear hrg
    go_wp2
    go_ret
    exact ⟨by rw [HF.out]; rfl, HB.out⟩
   ·intro x1 x2 kl yd yp w2 cnt2 hkey hlk hv hat hrg2 hlt hg2 hs2 hen
    obtain ⟨⟨y1, y2⟩, he, hw1, hw2, hkl⟩ := bk_inv hkey
    simp only [bkV, Value.agg.injEq] at he hw1 hw2 hkl
    obtain ⟨rfl, rfl⟩ : x1 = y1 /\ x2 = y2 := by simpa using he
    subst hkl
    have hhas := has_true_of_atKey hat
    have HCC := hidp (HC.out.step (x := (x1, x2)) ⟨hw1, hw2⟩ hlk hhas)
    have hin : (x1, x2) ∈ L := (HD.out.has (x1, x2) ⟨hw1, hw2⟩).1 hhas
    have hib2 := of_decide_eq_true (HNS.out (x1, x2) hin)
    simp only at hib2
    obtain ⟨j, hj, hjx⟩ := List.getElem_of_mem hin
    have HJ : Hid (L[j]? = some (x1, x2)) := hidp (by rw [List.getElem?_eq_getElem hj, hjx])
    have HB2 : Hid (Below w.heap.size w w2) := hidp (HB.out.grown hg2 HB.out.size (fun i hi => by cases hi; have := HS1.out; omega))
    have HY2 : Hid (Held w2 w.heap.size 55 #[.int .i64 a, .int .i64 z]) := hidp ((hg2.block _ HY.out.lt (by have := HS1.out; simp; omega)).trans HY.out)
    have HW2 : Hid (Held w2 (w.heap.size + 1) 55 #[.int .i64 oa, .int .i64 oz]) := hidp ((hg2.block _ HW.out.lt (by have := HS1.out; simp; omega)).trans HW.out)
    have HRG2 := hidp hrg2
    have HRG := hidp hrg
    have HM := hidp hlt
    have HS2 : Hid (w2.heap.size = wr.heap.size) := hidp hs2
    have hwr1 : IntKind.i64.wrap (a + z) = a + z := i64_same (by omega) (by omega)
    have hwr2 : IntKind.i64.wrap (x1 + x2) = x1 + x2 := i64_same (by omega) (by omega)
    clear hrg hrg2 hlt hg2 hs2 he hat hv hkey hlk hhas hw1 hw2 hin hj hjx hib2
    replace HY2 := hidp (HY2.out.alloc (.cells #[.int .i64 x1, .int .i64 x2] 55))
    replace HW2 := hidp (HW2.out.alloc (.cells #[.int .i64 x1, .int .i64 x2] 55))
    obtain ⟨y0, y1⟩ := HY2.out.two
    obtain ⟨v0, v1⟩ := HW2.out.two
    have HN3 := hidp (Held.new w2 55 #[.int .i64 x1, .int .i64 x2])
    obtain ⟨n0, n1⟩ := HN3.out.two
    have HGO : Hid (((x1, x2) = (oa, oz) \/ hitB (x1, x2) a z = false) -> ∀ x ∈ ss ++ [(x1, x2)], x = (oa, oz) \/ hitB x a z = false) := hidp (fun h x hx => by
     rcases List.mem_append.1 hx with h1 | h1
     ·exact HNO.out x h1
     ·simp at h1; subst h1; exact h)
    by_cases h1 : x1 = oa
    ·have q1 : (x1 == oa) = true := by simp [h1]
     by_cases h2 : x2 = oz
     ·have q2 : (x2 == oz) = true := by simp [h2]
      have HNO2 := hidp (HGO.out (.inl (by rw [h1, h2])))
      clear h1 h2 HGO
      go_wp2
      go_roundw
      case rel => exact ⟨_, cnt2, ss ++ [(x1, x2)], HRG2.out.alloc _, HCC, HNO2, hidp (Bnew HB2.out _), HY2, HW2, hidp (by have := HSZ.out; have := HS2.out; simp; omega)⟩
      case measure =>
       rw [(HRG2.out.alloc (.cells #[.int .i64 x1, .int .i64 x2] 55)).left_eq, HRG.out.left_eq]
       exact HM.out
     ·have q2 : (x2 == oz) = false := by simp [h2]
      have HNE : Hid ((x1, x2) ≠ (oa, oz)) := hidp (fun e => h2 (by injection e))
      by_cases h3 : x1 < a + z
      ·have t1 : decide (x1 < a + z) = true := decide_eq_true h3
       by_cases h4 : a < x1 + x2
       ·have t2 : decide (a < x1 + x2) = true := decide_eq_true h4
        have HF : Hid (freeM G E L a z own = false) := hidp (freeM_hit HJ.out (fun e => HNE.out ((HOWN.out j (x1, x2) HJ.out).2 e)) (by unfold hitB; simp [h3, h4]))
        clear h1 h2 HGO h3 h4
        go_wp2
        go_ret
        exact ⟨by rw [HF.out]; rfl, Bnew HB2.out _⟩
       ·have t2 : decide (a < x1 + x2) = false := decide_eq_false h4
        have HNO2 := hidp (HGO.out (.inr (by unfold hitB; simp [t2])))
        clear h4
        clear h1 h2 HGO HNE h3
        go_wp2
        go_roundw
        case rel => exact ⟨_, cnt2, ss ++ [(x1, x2)], HRG2.out.alloc _, HCC, HNO2, hidp (Bnew HB2.out _), HY2, HW2, hidp (by have := HSZ.out; have := HS2.out; simp; omega)⟩
        case measure =>
         rw [(HRG2.out.alloc (.cells #[.int .i64 x1, .int .i64 x2] 55)).left_eq, HRG.out.left_eq]
         exact HM.out
      ·have t1 : decide (x1 < a + z) = false := decide_eq_false h3
       have HNO2 := hidp (HGO.out (.inr (by unfold hitB; simp [t1])))
       clear h1 h2 HGO HNE h3
       go_wp2
       go_roundw
       case rel => exact ⟨_, cnt2, ss ++ [(x1, x2)], HRG2.out.alloc _, HCC, HNO2, hidp (Bnew HB2.out _), HY2, HW2, hidp (by have := HSZ.out; have := HS2.out; simp; omega)⟩
       case measure =>
        rw [(HRG2.out.alloc (.cells #[.int .i64 x1, .int .i64 x2] 55)).left_eq, HRG.out.left_eq]
        exact HM.out
    ·have q1 : (x1 == oa) = false := by simp [h1]
     have HNE : Hid ((x1, x2) ≠ (oa, oz)) := hidp (fun e => h1 (by injection e))
     by_cases h3 : x1 < a + z
     ·have t1 : decide (x1 < a + z) = true := decide_eq_true h3
      by_cases h4 : a < x1 + x2
      ·have t2 : decide (a < x1 + x2) = true := decide_eq_true h4
       have HF : Hid (freeM G E L a z own = false) := hidp (freeM_hit HJ.out (fun e => HNE.out ((HOWN.out j (x1, x2) HJ.out).2 e)) (by unfold hitB; simp [h3, h4]))
       clear h1 HGO h3 h4
       go_wp2
       go_ret
       exact ⟨by rw [HF.out]; rfl, Bnew HB2.out _⟩
      ·have t2 : decide (a < x1 + x2) = false := decide_eq_false h4
       have HNO2 := hidp (HGO.out (.inr (by unfold hitB; simp [t2])))
       clear h4
       clear h1 HGO HNE h3
       go_wp2
       go_roundw
       case rel => exact ⟨_, cnt2, ss ++ [(x1, x2)], HRG2.out.alloc _, HCC, HNO2, hidp (Bnew HB2.out _), HY2, HW2, hidp (by have := HSZ.out; have := HS2.out; simp; omega)⟩
       case measure =>
        rw [(HRG2.out.alloc (.cells #[.int .i64 x1, .int .i64 x2] 55)).left_eq, HRG.out.left_eq]
        exact HM.out
     ·have t1 : decide (x1 < a + z) = false := decide_eq_false h3
      have HNO2 := hidp (HGO.out (.inr (by unfold hitB; simp [t1])))
      clear h1 HGO HNE h3
      go_wp2
      go_roundw
      case rel => exact ⟨_, cnt2, ss ++ [(x1, x2)], HRG2.out.alloc _, HCC, HNO2, hidp (Bnew HB2.out _), HY2, HW2, hidp (by have := HSZ.out; have := HS2.out; simp; omega)⟩
      case measure =>
       rw [(HRG2.out.alloc (.cells #[.int .i64 x1, .int .i64 x2] 55)).left_eq, HRG.out.left_eq]
       exact HM.out
end
end
section
theorem mdRound_no (t p s z : Int) (hz : -9223372036854775808 <= z /\ z <= 9223372036854775807) (q : Int) (hn : needI t p s z = q /\ needB t p s z = false) (w : World) : Calls Tryd.prog 13 #[.agg #[.int .i64 t, .int .i64 p, .int .i64 s], .int .i64 z] w fun e w' => e = .returned (.tuple #[.int .i64 0, .bool false]) /\ Below w.heap.size w w' := by
 have HX := hidp (Held.new w 23 #[.int .i64 t, .int .i64 p, .int .i64 s])
 have HB := hidp (Bnew (B0 w) (.cells #[.int .i64 t, .int .i64 p, .int .i64 s] 23))
 have HN := hidp hn
 clear hn
 obtain ⟨x0, x1, x2⟩ := HX.out.three
 go_enter Tryd.func13, Tryd.ntmps13
 go_wp2_with fail
 refine (adPages_c t p s z hz.1 hz.2 _).mono ?_; rintro e w1 ⟨rfl, hb⟩; rw [HN.out.1, HN.out.2]
 replace HX := hidp (HX.out.keep hb)
 replace HB := hidp (Bgo HB.out hb)
 clear hb x0 x1 x2
 obtain ⟨x0, x1, x2⟩ := HX.out.three
 go_wp2_with fail
 exact bodyPost_ret (v := .tuple #[.int .i64 0, .bool false]) (by simp [results, Tryd.results13, go_sem]) rfl ⟨rfl, HB.out⟩
theorem mdRound_class (t p s z : Int) (hz : -9223372036854775808 <= z /\ z <= 9223372036854775807) (q k y : Int) (hn : needI t p s z = q /\ needB t p s z = true) (hk : classK s z = k /\ classB s z = true) (hy : (sizeN s k : Int) = y) (hk0 : -9223372036854775808 <= k /\ k <= 9223372036854775807) (w : World) (hT : SlotsLaid w) : Calls Tryd.prog 13 #[.agg #[.int .i64 t, .int .i64 p, .int .i64 s], .int .i64 z] w fun e w' => e = .returned (.tuple #[.int .i64 y, .bool true]) /\ Below w.heap.size w w' := by
 have HX := hidp (Held.new w 23 #[.int .i64 t, .int .i64 p, .int .i64 s])
 have HB := hidp (Bnew (B0 w) (.cells #[.int .i64 t, .int .i64 p, .int .i64 s] 23))
 have HN := hidp hn
 have HK := hidp hk
 have HY := hidp hy
 have HK0 := hidp hk0
 have HSL := hidp hT
 clear hn hk hy hk0 hT
 obtain ⟨x0, x1, x2⟩ := HX.out.three
 go_enter Tryd.func13, Tryd.ntmps13
 go_wp2_with fail
 refine (adPages_c t p s z hz.1 hz.2 _).mono ?_; rintro e w1 ⟨rfl, hb⟩; rw [HN.out.1, HN.out.2]
 replace HX := hidp (HX.out.keep hb)
 replace HB := hidp (Bgo HB.out hb)
 clear hb x0 x1 x2
 obtain ⟨x0, x1, x2⟩ := HX.out.three
 go_wp2_with fail
 refine (clOf_c s z _ (HSL.out.below HB.out)).mono ?_; rintro e w1 ⟨rfl, hb⟩; rw [HK.out.1, HK.out.2]
 replace HX := hidp (HX.out.keep hb)
 replace HB := hidp (Bgo HB.out hb)
 clear hb x0 x1 x2
 obtain ⟨x0, x1, x2⟩ := HX.out.three
 go_wp2_with fail
 refine (clSize_c s k HK0.out.1 HK0.out.2 _ (HSL.out.below HB.out)).mono ?_; rintro e w1 ⟨rfl, hb⟩; rw [HY.out]
 replace HX := hidp (HX.out.keep hb)
 replace HB := hidp (Bgo HB.out hb)
 clear hb x0 x1 x2
 obtain ⟨x0, x1, x2⟩ := HX.out.three
 go_wp2_with fail
 exact bodyPost_ret (v := .tuple #[.int .i64 y, .bool true]) (by simp [results, Tryd.results13, go_sem]) rfl ⟨rfl, HB.out⟩
theorem mdRound_pages (t p s z : Int) (hz : -9223372036854775808 <= z /\ z <= 9223372036854775807) (q k G y : Int) (hn : needI t p s z = q /\ needB t p s z = true) (hk : classK s z = k /\ classB s z = false) (hG : (pageN t p s : Int) = G) (hy : IntKind.i64.wrap (q * G) = y) (w : World) (hT : SlotsLaid w) : Calls Tryd.prog 13 #[.agg #[.int .i64 t, .int .i64 p, .int .i64 s], .int .i64 z] w fun e w' => e = .returned (.tuple #[.int .i64 y, .bool true]) /\ Below w.heap.size w w' := by
 have HX := hidp (Held.new w 23 #[.int .i64 t, .int .i64 p, .int .i64 s])
 have HB := hidp (Bnew (B0 w) (.cells #[.int .i64 t, .int .i64 p, .int .i64 s] 23))
 have HN := hidp hn
 have HK := hidp hk
 have HG := hidp hG
 have HSL := hidp hT
 clear hn hk hG hT
 obtain ⟨x0, x1, x2⟩ := HX.out.three
 go_enter Tryd.func13, Tryd.ntmps13
 go_wp2_with fail
 refine (adPages_c t p s z hz.1 hz.2 _).mono ?_; rintro e w1 ⟨rfl, hb⟩; rw [HN.out.1, HN.out.2]
 replace HX := hidp (HX.out.keep hb)
 replace HB := hidp (Bgo HB.out hb)
 clear hb x0 x1 x2
 obtain ⟨x0, x1, x2⟩ := HX.out.three
 go_wp2_with fail
 refine (clOf_c s z _ (HSL.out.below HB.out)).mono ?_; rintro e w1 ⟨rfl, hb⟩; rw [HK.out.1, HK.out.2]
 replace HX := hidp (HX.out.keep hb)
 replace HB := hidp (Bgo HB.out hb)
 clear hb x0 x1 x2
 obtain ⟨x0, x1, x2⟩ := HX.out.three
 go_wp2_with fail
 refine (cfPage_c t p s _).mono ?_; rintro e w1 ⟨rfl, hb⟩; rw [HG.out]
 replace HX := hidp (HX.out.keep hb)
 replace HB := hidp (Bgo HB.out hb)
 clear hb x0 x1 x2
 obtain ⟨x0, x1, x2⟩ := HX.out.three
 go_wp2_with fail
 exact bodyPost_ret (v := .tuple #[.int .i64 y, .bool true]) (by simp [results, Tryd.results13, go_sem]) rfl ⟨rfl, HB.out⟩
theorem mdRound_c (t p s z : Int) (hz : -9223372036854775808 <= z /\ z <= 9223372036854775807) (w : World) (hT : SlotsLaid w) : Calls Tryd.prog 13 #[.agg #[.int .i64 t, .int .i64 p, .int .i64 s], .int .i64 z] w fun e w' => e = .returned (.tuple #[.int .i64 (rdI t p s z), .bool (needB t p s z)]) /\ Below w.heap.size w w' := by
 have hk := classK_lim s z
 unfold rdI
 cases e : needB t p s z with
 | false => exact mdRound_no t p s z hz _ ⟨rfl, e⟩ w
 | true =>
  rw [if_pos rfl]
  cases hb : classB s z with
  | true =>
   rw [if_pos rfl]
   exact mdRound_class t p s z hz _ _ _ ⟨rfl, e⟩ ⟨rfl, hb⟩ rfl ⟨by omega, by omega⟩ w hT
  | false =>
   rw [if_neg (by simp)]
   refine mdRound_pages t p s z hz _ _ _ _ ⟨rfl, e⟩ ⟨rfl, hb⟩ rfl ?_ w hT
   obtain ⟨g, m, hg, hm, hm1, hm2, _⟩ := need_few e
   rw [hg, hm]
   have hg2 := page_le t p s
   rw [hg] at hg2
   have h3 : (m : Int) * (g : Int) <= 1024 * 1048576 := Int.mul_le_mul (by omega) (by omega) (by omega) (by omega)
   have h4 : 0 <= (m : Int) * (g : Int) := Int.mul_nonneg (by omega) (by omega)
   exact i64_same (by omega) (by omega)

theorem unless_c (b : Bool) (n : Int) (w : World) : Calls Tryd.prog 82 #[.bool b, .int .i64 n] w fun e w' => e = .returned (.int .i64 (if b = true then 0 else n)) /\ Below w.heap.size w w' := by
 cases b
 ·go_enter Tryd.func82, Tryd.ntmps82
  go_wp2
  go_ret
  exact ⟨rfl, B0 _⟩
 ·go_enter Tryd.func82, Tryd.ntmps82
  go_wp2
  go_ret
  exact ⟨rfl, B0 _⟩
def orI (x y : Int) : Int := if x = 0 then y else x
theorem cmpOr_c (B : Nat) (x y : Int) (w : World) (h : Held w B 30 #[.int .i64 x, .int .i64 y]) : Calls Tryd.prog 59 #[.slice (some ⟨B, 0, none⟩) 2 2] w fun e w' => e = .returned (.int .i64 (orI x y)) /\ Below w.heap.size w w' := by
 obtain ⟨x0, x1⟩ := h.two
 obtain ⟨r, hr⟩ : ∃ r, orI x y = r := ⟨_, rfl⟩
 rw [hr]
 have hc : (x ≠ 0 /\ r = x) \/ (x = 0 /\ y ≠ 0 /\ r = y) \/ (x = 0 /\ y = 0 /\ r = 0) := by
  rw [<- hr]; unfold orI
  by_cases h1 : x = 0
  ·rw [if_pos h1]; omega
  ·rw [if_neg h1]; omega
 clear hr h
 rcases hc with ⟨h1, rfl⟩ | ⟨rfl, h1, rfl⟩ | ⟨rfl, rfl, rfl⟩
 ·have t0 : (r != 0) = true := by simp [h1]
  clear h1
  go_enter Tryd.func59, Tryd.ntmps59
  go_wp2_with fail
  refine wp_loop_rounds 1 ?_
  rw [rounds_succ]
  go_wp2_with fail
  go_ret
  exact ⟨rfl, B0 _⟩
 ·have t0 : (r != 0) = true := by simp [h1]
  clear h1
  go_enter Tryd.func59, Tryd.ntmps59
  go_wp2_with fail
  refine wp_loop_rounds 2 ?_
  rw [rounds_succ]
  go_wp2_with fail
  rw [rounds_succ]
  go_wp2_with fail
  go_ret
  exact ⟨rfl, B0 _⟩
 ·go_enter Tryd.func59, Tryd.ntmps59
  go_wp2_with fail
  refine wp_loop_rounds 3 ?_
  rw [rounds_succ]
  go_wp2_with fail
  rw [rounds_succ]
  go_wp2_with fail
  rw [rounds_succ]
  go_wp2_with fail
  go_ret
  exact ⟨rfl, B0 _⟩
end
section
section
variable {w : World} {g : Nat} {F : Nat -> Prop} {t p s : Int} {L : List (Int × Int)} {R : Nat -> Int}
def nSize (t p s z : Int) : Int := if needB t p s z = true then 0 else 2
def nBlock (L : List (Int × Int)) (a : Int) : Int := if decide (0 <= mAt L a) = true then 0 else 4
def nName (R : Nat -> Int) (a : Int) : Int := if heldM R a = true then 6 else 0
def nRoot (i : Int) : Int := if 0 <= i /\ i < 8 then 0 else 5
def nClass (k : Int) : Int := if 0 <= k /\ k < 9 then 0 else 7
theorem needsSize_c (h : IsMod w g F t p s L R) (z : Int) (hz : -9223372036854775808 <= z /\ z <= 9223372036854775807) (hT : SlotsLaid w) : Calls Tryd.prog 58 #[.pointer (some ⟨g, 0, none⟩), .int .i64 z] w fun e w' => e = .returned (.int .i64 (nSize t p s z)) /\ Below w.heap.size w w' := by
 obtain ⟨m, D, hm, hX, hO, hD⟩ := h.ex
 obtain ⟨x0, x1, x2, x3⟩ := mod_cells hX
 obtain ⟨y, hy⟩ : ∃ y, rdI t p s z = y := ⟨_, rfl⟩
 obtain ⟨c, hc⟩ : ∃ c, needB t p s z = c := ⟨_, rfl⟩
 have HY : Hid (rdI t p s z = y /\ needB t p s z = c) := hidp ⟨hy, hc⟩
 have HSL := hidp hT
 unfold nSize
 rw [hc]
 clear h hX hO hD hm hy hc hT
 go_enter Tryd.func58, Tryd.ntmps58
 go_wp2_with fail
 refine (mdRound_c t p s z hz _ HSL.out).mono ?_; rintro e w1 ⟨rfl, hb⟩; rw [HY.out.1, HY.out.2]
 have HB := hidp hb
 clear hb x0 x1 x2 x3
 go_wp2_with fail
 refine (unless_c c 2 _).mono ?_; rintro e w2 ⟨rfl, hb⟩
 replace HB := hidp (Bgo HB.out hb)
 clear hb
 go_wp2_with fail
 all_goals (go_ret; exact ⟨rfl, HB.out⟩)
theorem needsBlock_c (h : IsMod w g F t p s L R) (a : Int) : Calls Tryd.prog 60 #[.pointer (some ⟨g, 0, none⟩), .int .i64 a] w fun e w' => e = .returned (.int .i64 (nBlock L a)) /\ Below w.heap.size w w' := by
 obtain ⟨x, hx⟩ : ∃ x, blkAt L a = x := ⟨_, rfl⟩
 obtain ⟨c, hc⟩ : ∃ c, decide (0 <= mAt L a) = c := ⟨_, rfl⟩
 have hA := mdAt_c h a
 rw [hx, hc] at hA
 obtain ⟨x1, x2⟩ := x
 have HA := hidp hA
 unfold nBlock
 rw [hc]
 clear h hx hc hA
 go_enter Tryd.func60, Tryd.ntmps60
 go_wp2_with fail
 refine HA.out.mono ?_; rintro e w1 ⟨rfl, hb⟩
 have HB := hidp hb
 clear hb
 go_wp2_with fail
 refine (unless_c c 4 _).mono ?_; rintro e w2 ⟨rfl, hb⟩
 replace HB := hidp (Bgo (Bnew HB.out _) hb)
 clear hb
 go_wp2_with fail
 all_goals (go_ret; exact ⟨rfl, HB.out⟩)
theorem rootsAt_c (h : IsMod w g F t p s L R) (a : Int) : Calls Tryd.prog 90 #[.slice (some ⟨g, 4, none⟩) 8 8, .int .i64 a] w fun e w' => ∃ i : Int, e = .returned (.int .i64 i) /\ decide (0 <= i) = heldM R a /\ Below w.heap.size w w' := by
 obtain ⟨m, D, hm, hX, hO, hD⟩ := h.ex
 have HC : Hid (∀ k, k < 8 -> w.cell? ⟨g, 4 + k, none⟩ = some (.int .i64 (R k))) := hidp (fun k hk => mod_root hX hk)
 clear h hX hO hD hm
 go_enter Tryd.func90, Tryd.ntmps90
 go_wp2_with fail
 go_loopw [8] (fun u wr => ∃ i : Nat, i <= 8 /\ u = .int .i64 (i : Int) /\ wr = w /\ Hid (∀ j, j < i -> R j ≠ a)) (fun u _ => 8 - (intOf u).toNat)
 case atStart => exact ⟨0, by omega, rfl, rfl, hidp (fun j hj => by omega)⟩
 case round =>
  obtain ⟨i, hi, rfl, rfl, HF⟩ := hrel
  by_cases hlt : i < 8
  ·have x1 := HC.out i hlt
   have t0 : decide ((i : Int) < 8) = true := decide_eq_true (by omega)
   obtain ⟨r, hr⟩ : ∃ r, R i = r := ⟨_, rfl⟩
   rw [hr] at x1
   have HRI := hidp hr
   clear hr
   by_cases h2 : a = r
   ·have q1 : (a == r) = true := by simpa using h2
    have HR : Hid (heldM R a = true) := hidp (heldM_yes hlt (by rw [HRI.out, h2]))
    clear h2
    go_wp2_with fail
    go_ret
    exact ⟨_, rfl, by rw [HR.out]; exact decide_eq_true (by omega), B0 _⟩
   ·have q1 : (a == r) = false := by simpa using h2
    have HF1 : Hid (∀ j, j < i + 1 -> R j ≠ a) := hidp (fun j hj => by
     by_cases e : j = i
     ·rw [e, HRI.out]; exact fun e2 => h2 e2.symm
     ·exact HF.out j (by omega))
    clear h2
    go_wp2_with fail
    go_roundw
    case rel => exact ⟨i + 1, by omega, by go_num, trivial, HF1⟩
    case measure => simp [intOf]; omega
  ·have t0 : decide ((i : Int) < 8) = false := decide_eq_false (by omega)
   have HR : Hid (heldM R a = false) := hidp (heldM_no (fun k hk => HF.out k (by omega)))
   go_wp2_with fail
   go_ret
   exact ⟨_, rfl, by rw [HR.out]; rfl, B0 _⟩
theorem rootsHas_c (h : IsMod w g F t p s L R) (a : Int) : Calls Tryd.prog 83 #[.slice (some ⟨g, 4, none⟩) 8 8, .int .i64 a] w fun e w' => e = .returned (.bool (heldM R a)) /\ Below w.heap.size w w' := by
 have HA := hidp (rootsAt_c h a)
 obtain ⟨c, hc⟩ : ∃ c, heldM R a = c := ⟨_, rfl⟩
 rw [hc] at HA ⊢
 clear h hc
 go_enter Tryd.func83, Tryd.ntmps83
 go_wp2_with fail
 refine HA.out.mono ?_; rintro e w1 ⟨i, rfl, hd, hb⟩
 go_wp2_with fail
 go_ret
 exact ⟨rfl, hb⟩
theorem needsNoName_c (h : IsMod w g F t p s L R) (a : Int) : Calls Tryd.prog 61 #[.pointer (some ⟨g, 0, none⟩), .int .i64 a] w fun e w' => e = .returned (.int .i64 (nName R a)) /\ Below w.heap.size w w' := by
 have HA := hidp (rootsHas_c h a)
 obtain ⟨c, hc⟩ : ∃ c, heldM R a = c := ⟨_, rfl⟩
 rw [hc] at HA
 unfold nName
 rw [hc]
 clear h hc
 go_enter Tryd.func61, Tryd.ntmps61
 go_wp2_with fail
 refine HA.out.mono ?_; rintro e w1 ⟨rfl, hb⟩
 have HB := hidp hb
 clear hb
 cases c
 ·go_wp2_with fail
  refine (unless_c true 6 _).mono ?_; rintro e w2 ⟨rfl, hb⟩
  replace HB := hidp (Bgo HB.out hb)
  clear hb
  go_wp2_with fail
  go_ret
  exact ⟨rfl, HB.out⟩
 ·go_wp2_with fail
  refine (unless_c false 6 _).mono ?_; rintro e w2 ⟨rfl, hb⟩
  replace HB := hidp (Bgo HB.out hb)
  clear hb
  go_wp2_with fail
  go_ret
  exact ⟨rfl, HB.out⟩
end
theorem needsRoot_c (i : Int) (w : World) : Calls Tryd.prog 62 #[.int .i64 i] w fun e w' => e = .returned (.int .i64 (nRoot i)) /\ Below w.heap.size w w' := by
 unfold nRoot
 by_cases h1 : 0 <= i
 ·have t0 : decide (0 <= i) = true := decide_eq_true h1
  by_cases h2 : i < 8
  ·have t1 : decide (i < 8) = true := decide_eq_true h2
   rw [if_pos ⟨h1, h2⟩]
   clear h1 h2
   go_enter Tryd.func62, Tryd.ntmps62
   go_wp2_with fail
   refine (unless_c true 5 _).mono ?_; rintro e w2 ⟨rfl, hb⟩
   go_wp2_with fail
   go_ret
   exact ⟨rfl, hb⟩
  ·have t1 : decide (i < 8) = false := decide_eq_false h2
   rw [if_neg (fun h => h2 h.2)]
   clear h1 h2
   go_enter Tryd.func62, Tryd.ntmps62
   go_wp2_with fail
   refine (unless_c false 5 _).mono ?_; rintro e w2 ⟨rfl, hb⟩
   go_wp2_with fail
   go_ret
   exact ⟨rfl, hb⟩
 ·have t0 : decide (0 <= i) = false := decide_eq_false h1
  rw [if_neg (fun h => h1 h.1)]
  clear h1
  go_enter Tryd.func62, Tryd.ntmps62
  go_wp2_with fail
  refine (unless_c false 5 _).mono ?_; rintro e w2 ⟨rfl, hb⟩
  go_wp2_with fail
  go_ret
  exact ⟨rfl, hb⟩
theorem needsClass_c (i : Int) (w : World) : Calls Tryd.prog 63 #[.int .i64 i] w fun e w' => e = .returned (.int .i64 (nClass i)) /\ Below w.heap.size w w' := by
 unfold nClass
 by_cases h1 : 0 <= i
 ·have t0 : decide (0 <= i) = true := decide_eq_true h1
  by_cases h2 : i < 9
  ·have t1 : decide (i < 9) = true := decide_eq_true h2
   rw [if_pos ⟨h1, h2⟩]
   clear h1 h2
   go_enter Tryd.func63, Tryd.ntmps63
   go_wp2_with fail
   refine (unless_c true 7 _).mono ?_; rintro e w2 ⟨rfl, hb⟩
   go_wp2_with fail
   go_ret
   exact ⟨rfl, hb⟩
  ·have t1 : decide (i < 9) = false := decide_eq_false h2
   rw [if_neg (fun h => h2 h.2)]
   clear h1 h2
   go_enter Tryd.func63, Tryd.ntmps63
   go_wp2_with fail
   refine (unless_c false 7 _).mono ?_; rintro e w2 ⟨rfl, hb⟩
   go_wp2_with fail
   go_ret
   exact ⟨rfl, hb⟩
 ·have t0 : decide (0 <= i) = false := decide_eq_false h1
  rw [if_neg (fun h => h1 h.1)]
  clear h1
  go_enter Tryd.func63, Tryd.ntmps63
  go_wp2_with fail
  refine (unless_c false 7 _).mono ?_; rintro e w2 ⟨rfl, hb⟩
  go_wp2_with fail
  go_ret
  exact ⟨rfl, hb⟩
def takesB (k : Int) : Bool := decide (k = 1 \/ k = 3 \/ k = 4)
theorem takes_c (k a b : Int) (w : World) : Calls Tryd.prog 28 #[.agg #[.int .i64 k, .int .i64 a, .int .i64 b]] w fun e w' => e = .returned (.bool (takesB k)) /\ Below w.heap.size w w' := by
 obtain ⟨c, hc⟩ : ∃ c, takesB k = c := ⟨_, rfl⟩
 rw [hc]
 have hk : (k = 1 /\ c = true) \/ (k ≠ 1 /\ k = 3 /\ c = true) \/ (k ≠ 1 /\ k ≠ 3 /\ k = 4 /\ c = true) \/ (k ≠ 1 /\ k ≠ 3 /\ k ≠ 4 /\ c = false) := by
  rw [<- hc]; unfold takesB
  by_cases h1 : k = 1
  ·simp [h1]
  ·by_cases h3 : k = 3
   ·simp [h3]
   ·by_cases h4 : k = 4 <;> simp [h1, h3, h4]
 clear hc
 have HX := hidp (Held.new w 29 #[.int .i64 k, .int .i64 a, .int .i64 b])
 obtain ⟨x0, x1, x2⟩ := HX.out.three
 rcases hk with ⟨h1, rfl⟩ | ⟨h1, h2, rfl⟩ | ⟨h1, h2, h3, rfl⟩ | ⟨h1, h2, h3, rfl⟩
 ·have t1 : (k == 1) = true := by simp [h1]
  clear h1
  go_enter Tryd.func28, Tryd.ntmps28
  go_wp2_with fail
  go_ret
  exact ⟨rfl, by repeat (first | exact B0 _ | (with_reducible refine Bdrew ?_) | (with_reducible refine Bdraw ?_ _) | (with_reducible refine Bnew ?_ _))⟩
 ·have t1 : (k == 1) = false := by simp [h1]
  have t2 : (k == 3) = true := by simp [h2]
  clear h1 h2
  go_enter Tryd.func28, Tryd.ntmps28
  go_wp2_with fail
  go_ret
  exact ⟨rfl, by repeat (first | exact B0 _ | (with_reducible refine Bdrew ?_) | (with_reducible refine Bdraw ?_ _) | (with_reducible refine Bnew ?_ _))⟩
 ·have t1 : (k == 1) = false := by simp [h1]
  have t2 : (k == 3) = false := by simp [h2]
  have t3 : (k == 4) = true := by simp [h3]
  clear h1 h2 h3
  go_enter Tryd.func28, Tryd.ntmps28
  go_wp2_with fail
  go_ret
  exact ⟨rfl, by repeat (first | exact B0 _ | (with_reducible refine Bdrew ?_) | (with_reducible refine Bdraw ?_ _) | (with_reducible refine Bnew ?_ _))⟩
 ·have t1 : (k == 1) = false := by simp [h1]
  have t2 : (k == 3) = false := by simp [h2]
  have t3 : (k == 4) = false := by simp [h3]
  clear h1 h2 h3
  go_enter Tryd.func28, Tryd.ntmps28
  go_wp2_with fail
  go_ret
  exact ⟨rfl, by repeat (first | exact B0 _ | (with_reducible refine Bdrew ?_) | (with_reducible refine Bdraw ?_ _) | (with_reducible refine Bnew ?_ _))⟩
end
section
set_option maxHeartbeats 1600000 in
theorem opRight_b (k a b : Int) (c : Bool) (hcase : ((k = 3 \/ k = 4 \/ k = 5) /\ c = true) \/ ((k = 1 \/ k = 2 \/ k = 6 \/ k = 7 \/ k = 9) /\ b ≠ 0 /\ c = false) \/ ((k = 1 \/ k = 2 \/ k = 6 \/ k = 7 \/ k = 9) /\ b = 0 /\ c = true) \/ (k = 8 /\ a ≠ 0 /\ c = false) \/ (k = 8 /\ a = 0 /\ b ≠ 0 /\ c = false) \/ (k = 8 /\ a = 0 /\ b = 0 /\ c = true) \/ ((k < 1 \/ 9 < k) /\ c = false)) (w : World) :
  Calls Tryd.prog 57 #[.agg #[.int .i64 k, .int .i64 a, .int .i64 b]] w fun e w' => e = .returned (.bool c) /\ Below w.heap.size w w' := by
 rcases hcase with ⟨rfl | rfl | rfl, rfl⟩ | ⟨rfl | rfl | rfl | rfl | rfl, h1, rfl⟩ | ⟨rfl | rfl | rfl | rfl | rfl, rfl, rfl⟩ | ⟨rfl, h1, rfl⟩ | ⟨rfl, rfl, h1, rfl⟩ | ⟨rfl, rfl, rfl, rfl⟩ | ⟨h, rfl⟩
 case inr.inr.inr.inr.inr.inr =>
  have q1 : (k == 1) = false := by simp; omega
  have q2 : (k == 2) = false := by simp; omega
  have q3 : (k == 3) = false := by simp; omega
  have q4 : (k == 4) = false := by simp; omega
  have q5 : (k == 5) = false := by simp; omega
  have q6 : (k == 6) = false := by simp; omega
  have q7 : (k == 7) = false := by simp; omega
  have q8 : (k == 8) = false := by simp; omega
  have q9 : (k == 9) = false := by simp; omega
  clear h
  go_enter Tryd.func57, Tryd.ntmps57
  go_wp2
  go_ret
  refine ⟨rfl, ?_⟩
  all_goals exact blz
 all_goals
  go_enter Tryd.func57, Tryd.ntmps57
  go_wp2
  go_ret
  refine ⟨by first | rfl | (refine ret_bool ?_; simp; done) | (refine ret_bool ?_; simp; omega), ?_⟩
  all_goals exact blz

theorem opRight_c (k a b : Int) (hk : -9223372036854775808 <= k /\ k <= 9223372036854775807) (ha : -9223372036854775808 <= a /\ a <= 9223372036854775807) (hb : -9223372036854775808 <= b /\ b <= 9223372036854775807) (w : World) :
  Calls Tryd.prog 57 #[.agg #[.int .i64 k, .int .i64 a, .int .i64 b]] w fun e w' => e = .returned (.bool (opB k a b)) /\ Below w.heap.size w w' := by
 refine opRight_b k a b _ ?_ w
 cases hc : opB k a b with
 | true =>
  have h := of_decide_eq_true hc
  rcases uses_cases k with ⟨_, e⟩ | ⟨_, e⟩ | ⟨_, e⟩ | ⟨_, e⟩ <;> rw [e] at h <;> simp only [and_true, reduceCtorEq, and_false, or_false, false_or] <;> omega
 | false =>
  have h := of_decide_eq_false hc
  rcases uses_cases k with ⟨_, e⟩ | ⟨_, e⟩ | ⟨_, e⟩ | ⟨_, e⟩ <;> rw [e] at h <;> simp only [and_true, reduceCtorEq, and_false, or_false, false_or] <;> omega
end
end Go.Proofs.YtedakmhffjhfnaaDoor
