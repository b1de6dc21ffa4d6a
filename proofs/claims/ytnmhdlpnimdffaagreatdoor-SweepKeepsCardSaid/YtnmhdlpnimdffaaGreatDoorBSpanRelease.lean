/-
  What span's release, and Release, do. Written by span/gen_rel.py.
-/
import Derived.Test.YtnmhdlpnimdffaaGreatDoorB08
namespace Go.Proofs.YtnmhdlpnimdffaaGreatDoor
open Go.ChangeShapes Go.WideShapes Go.ChangeAt Go.RowKit Go.Maps
set_option linter.unusedVariables false
set_option linter.unusedSimpArgs false
set_option maxRecDepth 100000
section
section
variable {base b n : Nat} {wh all : Bool} {K : Nat -> Option Nat} {st : Vst} {w w0 : World} {A G : Nat -> Prop} {t q s : Int}

set_option maxHeartbeats 6400000 in
theorem spRelease_0_off (hn : n < 2 ^ 40) (hq : q <= 1024) (p m : Nat) (hp : p <= 1024) (hm : m <= 1024) (hp0 : p = 0) (hr : ¬ ((p : Int) + (m : Int)) < q) (h : (vOb base b n wh K).At w0 A G st w) :
  Calls Tryz.prog 89 #[.agg #[.pointer (some ⟨b, 0, none⟩), .int .i64 t, .int .i64 q, .int .i64 s], .agg #[.int .i64 (p : Int), .int .i64 (m : Int)]] w fun e w' => e = .returned (.tuple #[]) /\ (vOb base b n wh K).At w0 A G (putS n (getS n K (addS n K t q s (p : Int) (m : Int) st) 0) 0 (add32 (getV n K (addS n K t q s (p : Int) (m : Int) st) 0) (m : Int))) w' /\ Stay G w w' := by
 have W0 := hidp ((((WL.start h).new 127 #[.pointer (some ⟨b, 0, none⟩), .int .i64 t, .int .i64 q, .int .i64 s]).new 130 #[.int .i64 (p : Int), .int .i64 (m : Int)]).new 130 #[.int .i64 (p : Int), .int .i64 (m : Int)])
 simp only [World.size_alloc] at W0
 have t0 : decide ((0 : Int) < (p : Int)) = false := decide_eq_false (by omega)
 have t0n : decide (0 < p) = false := decide_eq_false (by omega)
 have v4 : IntKind.i64.wrap ((p : Int) + (m : Int)) = ((p : Int) + (m : Int)) := i64_same (by omega) (by omega)
 have t1 : decide (((p : Int) + (m : Int)) < q) = false := decide_eq_false hr
 clear h hp0
 go_enter Tryz.func89, Tryz.ntmps89
 obtain ⟨z0, z1⟩ := W0.out.h0.two
 obtain ⟨y0, y1⟩ := W0.out.h1.two
 obtain ⟨x0, x1, x2, x3⟩ := W0.out.h2.four
 go_wp2_with fail
 refine (spBehind_c (p : Int) (m : Int) v4 _).mono ?_; rintro e w1 ⟨rfl, hb⟩; have W1 := hidp (W0.out.keep hb); clear hb W0
 obtain ⟨z0, z1⟩ := W1.out.h0.two
 obtain ⟨y0, y1⟩ := W1.out.h1.two
 obtain ⟨x0, x1, x2, x3⟩ := W1.out.h2.four
 go_wp2_with fail
 refine (spFree_c hn (by omega) (p : Int) (m : Int) W1.out.at_).mono ?_; rintro e w2 ⟨rfl, h1, h2⟩; have W2 := hidp (W1.out.call h1 h2); clear h1 h2 W1
 obtain ⟨z0, z1⟩ := W2.out.h0.two
 obtain ⟨y0, y1⟩ := W2.out.h1.two
 obtain ⟨x0, x1, x2, x3⟩ := W2.out.h2.four
 go_wp2_with fail
 refine (spCount_c hn (m : Int) W2.out.at_).mono ?_; rintro e w3 ⟨rfl, h1, h2⟩; have W3 := hidp (W2.out.call h1 h2); clear h1 h2 W2
 obtain ⟨z0, z1⟩ := W3.out.h0.two
 obtain ⟨y0, y1⟩ := W3.out.h1.two
 obtain ⟨x0, x1, x2, x3⟩ := W3.out.h2.four
 go_wp2
 go_end0
 exact ⟨rfl, W3.out.fin⟩

set_option maxHeartbeats 6400000 in
theorem spRelease_0_no (hn : n < 2 ^ 40) (hq : q <= 1024) (p m : Nat) (hp : p <= 1024) (hm : m <= 1024) (hp0 : p = 0) (hr : ((p : Int) + (m : Int)) < q) (k2 l2 c2 : Int) (o2 : Bool) (hi2 : infoOf n K t q s ((p : Int) + (m : Int)) st = (k2, l2, c2, o2)) (hk2 : k2 ≠ 1) (s2 : Vst) (hs2 : (getS n K st (pageI t q s ((p : Int) + (m : Int)) 0)) = s2) (h : (vOb base b n wh K).At w0 A G st w) :
  Calls Tryz.prog 89 #[.agg #[.pointer (some ⟨b, 0, none⟩), .int .i64 t, .int .i64 q, .int .i64 s], .agg #[.int .i64 (p : Int), .int .i64 (m : Int)]] w fun e w' => e = .returned (.tuple #[]) /\ (vOb base b n wh K).At w0 A G (putS n (getS n K (addS n K t q s (p : Int) (m : Int) s2) 0) 0 (add32 (getV n K (addS n K t q s (p : Int) (m : Int) s2) 0) (m : Int))) w' /\ Stay G w w' := by
 have W0 := hidp ((((WL.start h).new 127 #[.pointer (some ⟨b, 0, none⟩), .int .i64 t, .int .i64 q, .int .i64 s]).new 130 #[.int .i64 (p : Int), .int .i64 (m : Int)]).new 130 #[.int .i64 (p : Int), .int .i64 (m : Int)])
 simp only [World.size_alloc] at W0
 have t0 : decide ((0 : Int) < (p : Int)) = false := decide_eq_false (by omega)
 have t0n : decide (0 < p) = false := decide_eq_false (by omega)
 have v4 : IntKind.i64.wrap ((p : Int) + (m : Int)) = ((p : Int) + (m : Int)) := i64_same (by omega) (by omega)
 have t1 : decide (((p : Int) + (m : Int)) < q) = true := decide_eq_true hr
 have HI2 := hidp hi2
 have v5 : IntKind.i64.wrap (((p : Int) + (m : Int)) - 1) = ((p : Int) + (m : Int)) - 1 := i64_same (by omega) (by omega)
 have g2 : ∀ w, (Instr.field 68 (.agg #[.int .i64 k2, .int .i64 l2, .int .i64 c2]) 0).run Tryz.prog w = .ok (.int .i64 k2) w := fun _ => by kernel_rfl
 have u2 : (k2 == 1) = false := by simpa using hk2
 have HS2 := hidp hs2
 clear h hp0 hi2 hs2
 go_enter Tryz.func89, Tryz.ntmps89
 obtain ⟨z0, z1⟩ := W0.out.h0.two
 obtain ⟨y0, y1⟩ := W0.out.h1.two
 obtain ⟨x0, x1, x2, x3⟩ := W0.out.h2.four
 go_wp2_with fail
 refine (spBehind_c (p : Int) (m : Int) v4 _).mono ?_; rintro e w1 ⟨rfl, hb⟩; have W1 := hidp (W0.out.keep hb); clear hb W0
 obtain ⟨z0, z1⟩ := W1.out.h0.two
 obtain ⟨y0, y1⟩ := W1.out.h1.two
 obtain ⟨x0, x1, x2, x3⟩ := W1.out.h2.four
 go_wp2_with fail
 refine (spBegins_c hn ((p : Int) + (m : Int)) k2 l2 c2 o2 HI2.out W1.out.at_).mono ?_; rintro e w2 ⟨rfl, h1, h2⟩; have W2 := hidp (W1.out.call h1 h2); clear h1 h2 W1; rw [HS2.out] at W2
 obtain ⟨z0, z1⟩ := W2.out.h0.two
 obtain ⟨y0, y1⟩ := W2.out.h1.two
 obtain ⟨x0, x1, x2, x3⟩ := W2.out.h2.four
 go_wp2_with fail
 refine (spFree_c hn (by omega) (p : Int) (m : Int) W2.out.at_).mono ?_; rintro e w3 ⟨rfl, h1, h2⟩; have W3 := hidp (W2.out.call h1 h2); clear h1 h2 W2
 obtain ⟨z0, z1⟩ := W3.out.h0.two
 obtain ⟨y0, y1⟩ := W3.out.h1.two
 obtain ⟨x0, x1, x2, x3⟩ := W3.out.h2.four
 go_wp2_with fail
 refine (spCount_c hn (m : Int) W3.out.at_).mono ?_; rintro e w4 ⟨rfl, h1, h2⟩; have W4 := hidp (W3.out.call h1 h2); clear h1 h2 W3
 obtain ⟨z0, z1⟩ := W4.out.h0.two
 obtain ⟨y0, y1⟩ := W4.out.h1.two
 obtain ⟨x0, x1, x2, x3⟩ := W4.out.h2.four
 go_wp2
 go_end0
 exact ⟨rfl, W4.out.fin⟩

set_option maxHeartbeats 6400000 in
theorem spRelease_0_yes (hn : n < 2 ^ 40) (hq : q <= 1024) (p m : Nat) (hp : p <= 1024) (hm : m <= 1024) (hp0 : p = 0) (hr : ((p : Int) + (m : Int)) < q) (k2 l2 c2 : Int) (o2 : Bool) (hi2 : infoOf n K t q s ((p : Int) + (m : Int)) st = (k2, l2, c2, o2)) (hk2 : k2 = 1) (dw : Int) (hdw : dropV n K t q s ((p : Int) + (m : Int)) (getS n K st (pageI t q s ((p : Int) + (m : Int)) 0)) = dw) (he0 : 0 <= dw) (he1 : dw <= 1024) (s2 : Vst) (hs2 : putS n (putS n (dropS n K t q s ((p : Int) + (m : Int)) (getS n K st (pageI t q s ((p : Int) + (m : Int)) 0))) (pageI t q s ((p : Int) + (m : Int)) 0) 0) (pageI t q s (((p : Int) + (m : Int)) - 1) 1) 0 = s2) (h : (vOb base b n wh K).At w0 A G st w) :
  Calls Tryz.prog 89 #[.agg #[.pointer (some ⟨b, 0, none⟩), .int .i64 t, .int .i64 q, .int .i64 s], .agg #[.int .i64 (p : Int), .int .i64 (m : Int)]] w fun e w' => e = .returned (.tuple #[]) /\ (vOb base b n wh K).At w0 A G (putS n (getS n K (addS n K t q s (p : Int) ((m : Int) + dw) s2) 0) 0 (add32 (getV n K (addS n K t q s (p : Int) ((m : Int) + dw) s2) 0) (m : Int))) w' /\ Stay G w w' := by
 have W0 := hidp ((((WL.start h).new 127 #[.pointer (some ⟨b, 0, none⟩), .int .i64 t, .int .i64 q, .int .i64 s]).new 130 #[.int .i64 (p : Int), .int .i64 (m : Int)]).new 130 #[.int .i64 (p : Int), .int .i64 (m : Int)])
 simp only [World.size_alloc] at W0
 have t0 : decide ((0 : Int) < (p : Int)) = false := decide_eq_false (by omega)
 have t0n : decide (0 < p) = false := decide_eq_false (by omega)
 have v4 : IntKind.i64.wrap ((p : Int) + (m : Int)) = ((p : Int) + (m : Int)) := i64_same (by omega) (by omega)
 have t1 : decide (((p : Int) + (m : Int)) < q) = true := decide_eq_true hr
 have HI2 := hidp hi2
 have v5 : IntKind.i64.wrap (((p : Int) + (m : Int)) - 1) = ((p : Int) + (m : Int)) - 1 := i64_same (by omega) (by omega)
 have g2 : ∀ w, (Instr.field 68 (.agg #[.int .i64 k2, .int .i64 l2, .int .i64 c2]) 0).run Tryz.prog w = .ok (.int .i64 k2) w := fun _ => by kernel_rfl
 subst hk2
 have HDW := hidp hdw
 have HS2 := hidp hs2
 have v6 : IntKind.i64.wrap ((m : Int) + dw) = ((m : Int) + dw) := i64_same (by omega) (by omega)
 clear h hp0 hi2 hs2 hdw
 go_enter Tryz.func89, Tryz.ntmps89
 obtain ⟨z0, z1⟩ := W0.out.h0.two
 obtain ⟨y0, y1⟩ := W0.out.h1.two
 obtain ⟨x0, x1, x2, x3⟩ := W0.out.h2.four
 go_wp2_with fail
 refine (spBehind_c (p : Int) (m : Int) v4 _).mono ?_; rintro e w1 ⟨rfl, hb⟩; have W1 := hidp (W0.out.keep hb); clear hb W0
 obtain ⟨z0, z1⟩ := W1.out.h0.two
 obtain ⟨y0, y1⟩ := W1.out.h1.two
 obtain ⟨x0, x1, x2, x3⟩ := W1.out.h2.four
 go_wp2_with fail
 refine (spBegins_c hn ((p : Int) + (m : Int)) 1 l2 c2 o2 HI2.out W1.out.at_).mono ?_; rintro e w2 ⟨rfl, h1, h2⟩; have W2 := hidp (W1.out.call h1 h2); clear h1 h2 W1
 obtain ⟨z0, z1⟩ := W2.out.h0.two
 obtain ⟨y0, y1⟩ := W2.out.h1.two
 obtain ⟨x0, x1, x2, x3⟩ := W2.out.h2.four
 go_wp2_with fail
 refine wp_region_held_drew (S := (fun w' => w'.cell? ⟨w.heap.size, 0, none⟩ = some (.pointer (some ⟨b, 0, none⟩)) /\ w'.cell? ⟨w.heap.size, 1, none⟩ = some (.int .i64 t) /\ w'.cell? ⟨w.heap.size, 2, none⟩ = some (.int .i64 q) /\ w'.cell? ⟨w.heap.size, 3, none⟩ = some (.int .i64 s))) (by kernel_rfl) ?_ (fun hHeld => ?_)
 ·(try dsimp only)
  exact ⟨W2.out.drew.h2.four.1, W2.out.drew.h2.four.2.1, W2.out.drew.h2.four.2.2.1, W2.out.drew.h2.four.2.2.2⟩
 refine tkz 0 ?_
 refine tkz 2 ?_
 refine tkz 3 ?_
 refine tkz 4 ?_
 refine wpAnyH_ready (rs := [1, 5]) (by kernel_rfl) (by simp) ?_
 refine AllReadyH.cons (o := _) rfl (fun K hK => ?_) (AllReadyH.cons (o := _) rfl (fun K hK => ?_) AllReadyH.nil)
 ·skip
  obtain ⟨z0, z1⟩ := W2.out.drew.h0.two
  go_simp
  refine hK.out _ _ ?_ (fun hHeld => ?_)
  ·(try dsimp only)
   exact ⟨W2.out.drew.h2.four.1, W2.out.drew.h2.four.2.1, W2.out.drew.h2.four.2.2.1, W2.out.drew.h2.four.2.2.2⟩
  clear hK K
  (try simp only [Act.put, gA, gB, gC, sA, sB, sC])
  refine rdz 5 fun K hK => ?_
  go_simp
  refine (spJoin_c hn (by omega) ((p : Int) + (m : Int)) ((p : Int) + (m : Int)) v5 W2.out.drew.at_).mono ?_; rintro e w3 ⟨rfl, h1, h2⟩; have W3 := hidp (W2.out.drew.call h1 h2); clear h1 h2 W2; rw [HDW.out]; rw [HS2.out] at W3
  refine hK.out _ _ ?_ (fun hHeld => ?_)
  ·(try dsimp only)
   exact ⟨W3.out.h2.four.1, W3.out.h2.four.2.1, W3.out.h2.four.2.2.1, W3.out.h2.four.2.2.2⟩
  clear hK K
  (try simp only [Act.put, gA, gB, gC, sA, sB, sC])
  refine tkz 6 ?_
  refine tkz 7 ?_
  refine rdz 8 fun K hK => ?_
  obtain ⟨z0, z1⟩ := W3.out.h0.two
  have f0 := W3.out.h0.thawed 0
  have f1 := W3.out.h0.thawed 1
  go_simp
  have W4 := hidp (W3.out.put 1 (.int .i64 ((m : Int) + dw)))
  clear W3 z0 z1 f0 f1
  refine hK.out _ _ ?_ (fun hHeld => ?_)
  ·(try dsimp only)
   exact ⟨W4.out.h2.four.1, W4.out.h2.four.2.1, W4.out.h2.four.2.2.1, W4.out.h2.four.2.2.2⟩
  clear hK K
  (try simp only [Act.put, gA, gB, gC, sA, sB, sC])
  refine dnz ?_
  obtain ⟨z0, z1⟩ := W4.out.h0.two
  obtain ⟨y0, y1⟩ := W4.out.h1.two
  obtain ⟨x0, x1, x2, x3⟩ := W4.out.h2.four
  go_wp2_with fail
  refine (spFree_c hn (by omega) (p : Int) ((m : Int) + dw) W4.out.at_).mono ?_; rintro e w5 ⟨rfl, h1, h2⟩; have W5 := hidp (W4.out.call h1 h2); clear h1 h2 W4
  obtain ⟨z0, z1⟩ := W5.out.h0.two
  obtain ⟨y0, y1⟩ := W5.out.h1.two
  obtain ⟨x0, x1, x2, x3⟩ := W5.out.h2.four
  go_wp2_with fail
  refine (spCount_c hn (m : Int) W5.out.at_).mono ?_; rintro e w6 ⟨rfl, h1, h2⟩; have W6 := hidp (W5.out.call h1 h2); clear h1 h2 W5
  obtain ⟨z0, z1⟩ := W6.out.h0.two
  obtain ⟨y0, y1⟩ := W6.out.h1.two
  obtain ⟨x0, x1, x2, x3⟩ := W6.out.h2.four
  go_wp2
  go_end0
  exact ⟨rfl, W6.out.fin⟩
 ·skip
  go_simp
  refine (spJoin_c hn (by omega) ((p : Int) + (m : Int)) ((p : Int) + (m : Int)) v5 W2.out.drew.at_).mono ?_; rintro e w3 ⟨rfl, h1, h2⟩; have W3 := hidp (W2.out.drew.call h1 h2); clear h1 h2 W2; rw [HDW.out]; rw [HS2.out] at W3
  refine hK.out _ _ ?_ (fun hHeld => ?_)
  ·(try dsimp only)
   exact ⟨W3.out.h2.four.1, W3.out.h2.four.2.1, W3.out.h2.four.2.2.1, W3.out.h2.four.2.2.2⟩
  clear hK K
  (try simp only [Act.put, gA, gB, gC, sA, sB, sC])
  refine rdz 1 fun K hK => ?_
  obtain ⟨z0, z1⟩ := W3.out.h0.two
  go_simp
  refine hK.out _ _ ?_ (fun hHeld => ?_)
  ·(try dsimp only)
   exact ⟨W3.out.h2.four.1, W3.out.h2.four.2.1, W3.out.h2.four.2.2.1, W3.out.h2.four.2.2.2⟩
  clear hK K
  (try simp only [Act.put, gA, gB, gC, sA, sB, sC])
  refine tkz 6 ?_
  refine tkz 7 ?_
  refine rdz 8 fun K hK => ?_
  obtain ⟨z0, z1⟩ := W3.out.h0.two
  have f0 := W3.out.h0.thawed 0
  have f1 := W3.out.h0.thawed 1
  go_simp
  have W4 := hidp (W3.out.put 1 (.int .i64 ((m : Int) + dw)))
  clear W3 z0 z1 f0 f1
  refine hK.out _ _ ?_ (fun hHeld => ?_)
  ·(try dsimp only)
   exact ⟨W4.out.h2.four.1, W4.out.h2.four.2.1, W4.out.h2.four.2.2.1, W4.out.h2.four.2.2.2⟩
  clear hK K
  (try simp only [Act.put, gA, gB, gC, sA, sB, sC])
  refine dnz ?_
  obtain ⟨z0, z1⟩ := W4.out.h0.two
  obtain ⟨y0, y1⟩ := W4.out.h1.two
  obtain ⟨x0, x1, x2, x3⟩ := W4.out.h2.four
  go_wp2_with fail
  refine (spFree_c hn (by omega) (p : Int) ((m : Int) + dw) W4.out.at_).mono ?_; rintro e w5 ⟨rfl, h1, h2⟩; have W5 := hidp (W4.out.call h1 h2); clear h1 h2 W4
  obtain ⟨z0, z1⟩ := W5.out.h0.two
  obtain ⟨y0, y1⟩ := W5.out.h1.two
  obtain ⟨x0, x1, x2, x3⟩ := W5.out.h2.four
  go_wp2_with fail
  refine (spCount_c hn (m : Int) W5.out.at_).mono ?_; rintro e w6 ⟨rfl, h1, h2⟩; have W6 := hidp (W5.out.call h1 h2); clear h1 h2 W5
  obtain ⟨z0, z1⟩ := W6.out.h0.two
  obtain ⟨y0, y1⟩ := W6.out.h1.two
  obtain ⟨x0, x1, x2, x3⟩ := W6.out.h2.four
  go_wp2
  go_end0
  exact ⟨rfl, W6.out.fin⟩

set_option maxHeartbeats 6400000 in
theorem spRelease_no_off (hn : n < 2 ^ 40) (hq : q <= 1024) (p m : Nat) (hp : p <= 1024) (hm : m <= 1024) (hp0 : p ≠ 0) (f : Nat) (hf : getV n K st (pageI t q s ((p : Int) - 1) 1) = f) (k1 l1 c1 : Int) (o1 : Bool) (hi1 : infoOf n K t q s ((f : Int) - 1) (getS n K st (pageI t q s ((p : Int) - 1) 1)) = (k1, l1, c1, o1)) (hk1 : k1 ≠ 1) (s1 : Vst) (hs1 : (getS n K (getS n K st (pageI t q s ((p : Int) - 1) 1)) (pageI t q s ((f : Int) - 1) 0)) = s1) (hr : ¬ ((p : Int) + (m : Int)) < q) (h : (vOb base b n wh K).At w0 A G st w) :
  Calls Tryz.prog 89 #[.agg #[.pointer (some ⟨b, 0, none⟩), .int .i64 t, .int .i64 q, .int .i64 s], .agg #[.int .i64 (p : Int), .int .i64 (m : Int)]] w fun e w' => e = .returned (.tuple #[]) /\ (vOb base b n wh K).At w0 A G (putS n (getS n K (addS n K t q s (p : Int) (m : Int) s1) 0) 0 (add32 (getV n K (addS n K t q s (p : Int) (m : Int) s1) 0) (m : Int))) w' /\ Stay G w w' := by
 have W0 := hidp ((((WL.start h).new 127 #[.pointer (some ⟨b, 0, none⟩), .int .i64 t, .int .i64 q, .int .i64 s]).new 130 #[.int .i64 (p : Int), .int .i64 (m : Int)]).new 130 #[.int .i64 (p : Int), .int .i64 (m : Int)])
 simp only [World.size_alloc] at W0
 have t0 : decide ((0 : Int) < (p : Int)) = true := decide_eq_true (by omega)
 have hf32 : f < 2 ^ 32 := by rw [<- hf]; exact vAt_lt h _
 have HF := hidp hf
 have HI1 := hidp hi1
 have v0 : IntKind.i64.wrap ((p : Int) - 1) = (p : Int) - 1 := i64_same (by omega) (by omega)
 have v1 : IntKind.i64.wrap (f : Int) = (f : Int) := i64_same (by omega) (by omega)
 have v2 : IntKind.i64.wrap ((f : Int) - 1) = (f : Int) - 1 := i64_same (by omega) (by omega)
 have g1 : ∀ w, (Instr.field 68 (.agg #[.int .i64 k1, .int .i64 l1, .int .i64 c1]) 0).run Tryz.prog w = .ok (.int .i64 k1) w := fun _ => by kernel_rfl
 have u1 : (k1 == 1) = false := by simpa using hk1
 have HS1 := hidp hs1
 have v4 : IntKind.i64.wrap ((p : Int) + (m : Int)) = ((p : Int) + (m : Int)) := i64_same (by omega) (by omega)
 have t1 : decide (((p : Int) + (m : Int)) < q) = false := decide_eq_false hr
 clear h hf hi1 hs1
 go_enter Tryz.func89, Tryz.ntmps89
 obtain ⟨z0, z1⟩ := W0.out.h0.two
 obtain ⟨y0, y1⟩ := W0.out.h1.two
 obtain ⟨x0, x1, x2, x3⟩ := W0.out.h2.four
 go_wp2_with fail
 refine wp_region_held_drew (S := (fun w' => w'.cell? ⟨w.heap.size, 0, none⟩ = some (.pointer (some ⟨b, 0, none⟩)) /\ w'.cell? ⟨w.heap.size, 1, none⟩ = some (.int .i64 t) /\ w'.cell? ⟨w.heap.size, 2, none⟩ = some (.int .i64 q) /\ w'.cell? ⟨w.heap.size, 3, none⟩ = some (.int .i64 s))) (by kernel_rfl) ?_ (fun hHeld => ?_)
 ·(try dsimp only)
  exact ⟨W0.out.drew.h2.four.1, W0.out.drew.h2.four.2.1, W0.out.drew.h2.four.2.2.1, W0.out.drew.h2.four.2.2.2⟩
 refine tkz 0 ?_
 refine tkz 1 ?_
 refine tkz 2 ?_
 refine tkz 3 ?_
 refine tkz 4 ?_
 refine tkz 5 ?_
 refine rdz 6 fun K hK => ?_
 go_simp
 refine (plFoot_c t q s ((p : Int) - 1) _).mono ?_; rintro e w1 ⟨rfl, hb⟩; have W1 := hidp (W0.out.drew.keep hb); clear hb W0
 refine hK.out _ _ ?_ (fun hHeld => ?_)
 ·(try dsimp only)
  exact ⟨W1.out.h2.four.1, W1.out.h2.four.2.1, W1.out.h2.four.2.2.1, W1.out.h2.four.2.2.2⟩
 clear hK K
 (try simp only [Act.put, gA, gB, gC, sA, sB, sC])
 refine rdz 7 fun K hK => ?_
 go_simp
 refine (vGetA hn _ W1.out.at_).mono ?_; rintro e w2 ⟨rfl, h1, h2⟩; have W2 := hidp (W1.out.call h1 h2); clear h1 h2 W1; rw [HF.out]
 refine hK.out _ _ ?_ (fun hHeld => ?_)
 ·(try dsimp only)
  exact ⟨W2.out.h2.four.1, W2.out.h2.four.2.1, W2.out.h2.four.2.2.1, W2.out.h2.four.2.2.2⟩
 clear hK K
 (try simp only [Act.put, gA, gB, gC, sA, sB, sC])
 refine tkz 8 ?_
 refine tkz 9 ?_
 refine tkz 10 ?_
 refine dnz ?_
 obtain ⟨z0, z1⟩ := W2.out.h0.two
 obtain ⟨y0, y1⟩ := W2.out.h1.two
 obtain ⟨x0, x1, x2, x3⟩ := W2.out.h2.four
 go_wp2_with fail
 refine (spBegins_c hn ((f : Int) - 1) k1 l1 c1 o1 HI1.out W2.out.at_).mono ?_; rintro e w3 ⟨rfl, h1, h2⟩; have W3 := hidp (W2.out.call h1 h2); clear h1 h2 W2; rw [HS1.out] at W3
 obtain ⟨z0, z1⟩ := W3.out.h0.two
 obtain ⟨y0, y1⟩ := W3.out.h1.two
 obtain ⟨x0, x1, x2, x3⟩ := W3.out.h2.four
 go_wp2_with fail
 refine (spBehind_c (p : Int) (m : Int) v4 _).mono ?_; rintro e w4 ⟨rfl, hb⟩; have W4 := hidp (W3.out.keep hb); clear hb W3
 obtain ⟨z0, z1⟩ := W4.out.h0.two
 obtain ⟨y0, y1⟩ := W4.out.h1.two
 obtain ⟨x0, x1, x2, x3⟩ := W4.out.h2.four
 go_wp2_with fail
 refine (spFree_c hn (by omega) (p : Int) (m : Int) W4.out.at_).mono ?_; rintro e w5 ⟨rfl, h1, h2⟩; have W5 := hidp (W4.out.call h1 h2); clear h1 h2 W4
 obtain ⟨z0, z1⟩ := W5.out.h0.two
 obtain ⟨y0, y1⟩ := W5.out.h1.two
 obtain ⟨x0, x1, x2, x3⟩ := W5.out.h2.four
 go_wp2_with fail
 refine (spCount_c hn (m : Int) W5.out.at_).mono ?_; rintro e w6 ⟨rfl, h1, h2⟩; have W6 := hidp (W5.out.call h1 h2); clear h1 h2 W5
 obtain ⟨z0, z1⟩ := W6.out.h0.two
 obtain ⟨y0, y1⟩ := W6.out.h1.two
 obtain ⟨x0, x1, x2, x3⟩ := W6.out.h2.four
 go_wp2
 go_end0
 exact ⟨rfl, W6.out.fin⟩

set_option maxHeartbeats 6400000 in
theorem spRelease_no_no (hn : n < 2 ^ 40) (hq : q <= 1024) (p m : Nat) (hp : p <= 1024) (hm : m <= 1024) (hp0 : p ≠ 0) (f : Nat) (hf : getV n K st (pageI t q s ((p : Int) - 1) 1) = f) (k1 l1 c1 : Int) (o1 : Bool) (hi1 : infoOf n K t q s ((f : Int) - 1) (getS n K st (pageI t q s ((p : Int) - 1) 1)) = (k1, l1, c1, o1)) (hk1 : k1 ≠ 1) (s1 : Vst) (hs1 : (getS n K (getS n K st (pageI t q s ((p : Int) - 1) 1)) (pageI t q s ((f : Int) - 1) 0)) = s1) (hr : ((p : Int) + (m : Int)) < q) (k2 l2 c2 : Int) (o2 : Bool) (hi2 : infoOf n K t q s ((p : Int) + (m : Int)) s1 = (k2, l2, c2, o2)) (hk2 : k2 ≠ 1) (s2 : Vst) (hs2 : (getS n K s1 (pageI t q s ((p : Int) + (m : Int)) 0)) = s2) (h : (vOb base b n wh K).At w0 A G st w) :
  Calls Tryz.prog 89 #[.agg #[.pointer (some ⟨b, 0, none⟩), .int .i64 t, .int .i64 q, .int .i64 s], .agg #[.int .i64 (p : Int), .int .i64 (m : Int)]] w fun e w' => e = .returned (.tuple #[]) /\ (vOb base b n wh K).At w0 A G (putS n (getS n K (addS n K t q s (p : Int) (m : Int) s2) 0) 0 (add32 (getV n K (addS n K t q s (p : Int) (m : Int) s2) 0) (m : Int))) w' /\ Stay G w w' := by
 have W0 := hidp ((((WL.start h).new 127 #[.pointer (some ⟨b, 0, none⟩), .int .i64 t, .int .i64 q, .int .i64 s]).new 130 #[.int .i64 (p : Int), .int .i64 (m : Int)]).new 130 #[.int .i64 (p : Int), .int .i64 (m : Int)])
 simp only [World.size_alloc] at W0
 have t0 : decide ((0 : Int) < (p : Int)) = true := decide_eq_true (by omega)
 have hf32 : f < 2 ^ 32 := by rw [<- hf]; exact vAt_lt h _
 have HF := hidp hf
 have HI1 := hidp hi1
 have v0 : IntKind.i64.wrap ((p : Int) - 1) = (p : Int) - 1 := i64_same (by omega) (by omega)
 have v1 : IntKind.i64.wrap (f : Int) = (f : Int) := i64_same (by omega) (by omega)
 have v2 : IntKind.i64.wrap ((f : Int) - 1) = (f : Int) - 1 := i64_same (by omega) (by omega)
 have g1 : ∀ w, (Instr.field 68 (.agg #[.int .i64 k1, .int .i64 l1, .int .i64 c1]) 0).run Tryz.prog w = .ok (.int .i64 k1) w := fun _ => by kernel_rfl
 have u1 : (k1 == 1) = false := by simpa using hk1
 have HS1 := hidp hs1
 have v4 : IntKind.i64.wrap ((p : Int) + (m : Int)) = ((p : Int) + (m : Int)) := i64_same (by omega) (by omega)
 have t1 : decide (((p : Int) + (m : Int)) < q) = true := decide_eq_true hr
 have HI2 := hidp hi2
 have v5 : IntKind.i64.wrap (((p : Int) + (m : Int)) - 1) = ((p : Int) + (m : Int)) - 1 := i64_same (by omega) (by omega)
 have g2 : ∀ w, (Instr.field 68 (.agg #[.int .i64 k2, .int .i64 l2, .int .i64 c2]) 0).run Tryz.prog w = .ok (.int .i64 k2) w := fun _ => by kernel_rfl
 have u2 : (k2 == 1) = false := by simpa using hk2
 have HS2 := hidp hs2
 clear h hf hi1 hs1 hi2 hs2
 go_enter Tryz.func89, Tryz.ntmps89
 obtain ⟨z0, z1⟩ := W0.out.h0.two
 obtain ⟨y0, y1⟩ := W0.out.h1.two
 obtain ⟨x0, x1, x2, x3⟩ := W0.out.h2.four
 go_wp2_with fail
 refine wp_region_held_drew (S := (fun w' => w'.cell? ⟨w.heap.size, 0, none⟩ = some (.pointer (some ⟨b, 0, none⟩)) /\ w'.cell? ⟨w.heap.size, 1, none⟩ = some (.int .i64 t) /\ w'.cell? ⟨w.heap.size, 2, none⟩ = some (.int .i64 q) /\ w'.cell? ⟨w.heap.size, 3, none⟩ = some (.int .i64 s))) (by kernel_rfl) ?_ (fun hHeld => ?_)
 ·(try dsimp only)
  exact ⟨W0.out.drew.h2.four.1, W0.out.drew.h2.four.2.1, W0.out.drew.h2.four.2.2.1, W0.out.drew.h2.four.2.2.2⟩
 refine tkz 0 ?_
 refine tkz 1 ?_
 refine tkz 2 ?_
 refine tkz 3 ?_
 refine tkz 4 ?_
 refine tkz 5 ?_
 refine rdz 6 fun K hK => ?_
 go_simp
 refine (plFoot_c t q s ((p : Int) - 1) _).mono ?_; rintro e w1 ⟨rfl, hb⟩; have W1 := hidp (W0.out.drew.keep hb); clear hb W0
 refine hK.out _ _ ?_ (fun hHeld => ?_)
 ·(try dsimp only)
  exact ⟨W1.out.h2.four.1, W1.out.h2.four.2.1, W1.out.h2.four.2.2.1, W1.out.h2.four.2.2.2⟩
 clear hK K
 (try simp only [Act.put, gA, gB, gC, sA, sB, sC])
 refine rdz 7 fun K hK => ?_
 go_simp
 refine (vGetA hn _ W1.out.at_).mono ?_; rintro e w2 ⟨rfl, h1, h2⟩; have W2 := hidp (W1.out.call h1 h2); clear h1 h2 W1; rw [HF.out]
 refine hK.out _ _ ?_ (fun hHeld => ?_)
 ·(try dsimp only)
  exact ⟨W2.out.h2.four.1, W2.out.h2.four.2.1, W2.out.h2.four.2.2.1, W2.out.h2.four.2.2.2⟩
 clear hK K
 (try simp only [Act.put, gA, gB, gC, sA, sB, sC])
 refine tkz 8 ?_
 refine tkz 9 ?_
 refine tkz 10 ?_
 refine dnz ?_
 obtain ⟨z0, z1⟩ := W2.out.h0.two
 obtain ⟨y0, y1⟩ := W2.out.h1.two
 obtain ⟨x0, x1, x2, x3⟩ := W2.out.h2.four
 go_wp2_with fail
 refine (spBegins_c hn ((f : Int) - 1) k1 l1 c1 o1 HI1.out W2.out.at_).mono ?_; rintro e w3 ⟨rfl, h1, h2⟩; have W3 := hidp (W2.out.call h1 h2); clear h1 h2 W2; rw [HS1.out] at W3
 obtain ⟨z0, z1⟩ := W3.out.h0.two
 obtain ⟨y0, y1⟩ := W3.out.h1.two
 obtain ⟨x0, x1, x2, x3⟩ := W3.out.h2.four
 go_wp2_with fail
 refine (spBehind_c (p : Int) (m : Int) v4 _).mono ?_; rintro e w4 ⟨rfl, hb⟩; have W4 := hidp (W3.out.keep hb); clear hb W3
 obtain ⟨z0, z1⟩ := W4.out.h0.two
 obtain ⟨y0, y1⟩ := W4.out.h1.two
 obtain ⟨x0, x1, x2, x3⟩ := W4.out.h2.four
 go_wp2_with fail
 refine (spBegins_c hn ((p : Int) + (m : Int)) k2 l2 c2 o2 HI2.out W4.out.at_).mono ?_; rintro e w5 ⟨rfl, h1, h2⟩; have W5 := hidp (W4.out.call h1 h2); clear h1 h2 W4; rw [HS2.out] at W5
 obtain ⟨z0, z1⟩ := W5.out.h0.two
 obtain ⟨y0, y1⟩ := W5.out.h1.two
 obtain ⟨x0, x1, x2, x3⟩ := W5.out.h2.four
 go_wp2_with fail
 refine (spFree_c hn (by omega) (p : Int) (m : Int) W5.out.at_).mono ?_; rintro e w6 ⟨rfl, h1, h2⟩; have W6 := hidp (W5.out.call h1 h2); clear h1 h2 W5
 obtain ⟨z0, z1⟩ := W6.out.h0.two
 obtain ⟨y0, y1⟩ := W6.out.h1.two
 obtain ⟨x0, x1, x2, x3⟩ := W6.out.h2.four
 go_wp2_with fail
 refine (spCount_c hn (m : Int) W6.out.at_).mono ?_; rintro e w7 ⟨rfl, h1, h2⟩; have W7 := hidp (W6.out.call h1 h2); clear h1 h2 W6
 obtain ⟨z0, z1⟩ := W7.out.h0.two
 obtain ⟨y0, y1⟩ := W7.out.h1.two
 obtain ⟨x0, x1, x2, x3⟩ := W7.out.h2.four
 go_wp2
 go_end0
 exact ⟨rfl, W7.out.fin⟩

set_option maxHeartbeats 6400000 in
theorem spRelease_no_yes (hn : n < 2 ^ 40) (hq : q <= 1024) (p m : Nat) (hp : p <= 1024) (hm : m <= 1024) (hp0 : p ≠ 0) (f : Nat) (hf : getV n K st (pageI t q s ((p : Int) - 1) 1) = f) (k1 l1 c1 : Int) (o1 : Bool) (hi1 : infoOf n K t q s ((f : Int) - 1) (getS n K st (pageI t q s ((p : Int) - 1) 1)) = (k1, l1, c1, o1)) (hk1 : k1 ≠ 1) (s1 : Vst) (hs1 : (getS n K (getS n K st (pageI t q s ((p : Int) - 1) 1)) (pageI t q s ((f : Int) - 1) 0)) = s1) (hr : ((p : Int) + (m : Int)) < q) (k2 l2 c2 : Int) (o2 : Bool) (hi2 : infoOf n K t q s ((p : Int) + (m : Int)) s1 = (k2, l2, c2, o2)) (hk2 : k2 = 1) (dw : Int) (hdw : dropV n K t q s ((p : Int) + (m : Int)) (getS n K s1 (pageI t q s ((p : Int) + (m : Int)) 0)) = dw) (he0 : 0 <= dw) (he1 : dw <= 1024) (s2 : Vst) (hs2 : putS n (putS n (dropS n K t q s ((p : Int) + (m : Int)) (getS n K s1 (pageI t q s ((p : Int) + (m : Int)) 0))) (pageI t q s ((p : Int) + (m : Int)) 0) 0) (pageI t q s (((p : Int) + (m : Int)) - 1) 1) 0 = s2) (h : (vOb base b n wh K).At w0 A G st w) :
  Calls Tryz.prog 89 #[.agg #[.pointer (some ⟨b, 0, none⟩), .int .i64 t, .int .i64 q, .int .i64 s], .agg #[.int .i64 (p : Int), .int .i64 (m : Int)]] w fun e w' => e = .returned (.tuple #[]) /\ (vOb base b n wh K).At w0 A G (putS n (getS n K (addS n K t q s (p : Int) ((m : Int) + dw) s2) 0) 0 (add32 (getV n K (addS n K t q s (p : Int) ((m : Int) + dw) s2) 0) (m : Int))) w' /\ Stay G w w' := by
 have W0 := hidp ((((WL.start h).new 127 #[.pointer (some ⟨b, 0, none⟩), .int .i64 t, .int .i64 q, .int .i64 s]).new 130 #[.int .i64 (p : Int), .int .i64 (m : Int)]).new 130 #[.int .i64 (p : Int), .int .i64 (m : Int)])
 simp only [World.size_alloc] at W0
 have t0 : decide ((0 : Int) < (p : Int)) = true := decide_eq_true (by omega)
 have hf32 : f < 2 ^ 32 := by rw [<- hf]; exact vAt_lt h _
 have HF := hidp hf
 have HI1 := hidp hi1
 have v0 : IntKind.i64.wrap ((p : Int) - 1) = (p : Int) - 1 := i64_same (by omega) (by omega)
 have v1 : IntKind.i64.wrap (f : Int) = (f : Int) := i64_same (by omega) (by omega)
 have v2 : IntKind.i64.wrap ((f : Int) - 1) = (f : Int) - 1 := i64_same (by omega) (by omega)
 have g1 : ∀ w, (Instr.field 68 (.agg #[.int .i64 k1, .int .i64 l1, .int .i64 c1]) 0).run Tryz.prog w = .ok (.int .i64 k1) w := fun _ => by kernel_rfl
 have u1 : (k1 == 1) = false := by simpa using hk1
 have HS1 := hidp hs1
 have v4 : IntKind.i64.wrap ((p : Int) + (m : Int)) = ((p : Int) + (m : Int)) := i64_same (by omega) (by omega)
 have t1 : decide (((p : Int) + (m : Int)) < q) = true := decide_eq_true hr
 have HI2 := hidp hi2
 have v5 : IntKind.i64.wrap (((p : Int) + (m : Int)) - 1) = ((p : Int) + (m : Int)) - 1 := i64_same (by omega) (by omega)
 have g2 : ∀ w, (Instr.field 68 (.agg #[.int .i64 k2, .int .i64 l2, .int .i64 c2]) 0).run Tryz.prog w = .ok (.int .i64 k2) w := fun _ => by kernel_rfl
 subst hk2
 have HDW := hidp hdw
 have HS2 := hidp hs2
 have v6 : IntKind.i64.wrap ((m : Int) + dw) = ((m : Int) + dw) := i64_same (by omega) (by omega)
 clear h hf hi1 hs1 hi2 hs2 hdw
 go_enter Tryz.func89, Tryz.ntmps89
 obtain ⟨z0, z1⟩ := W0.out.h0.two
 obtain ⟨y0, y1⟩ := W0.out.h1.two
 obtain ⟨x0, x1, x2, x3⟩ := W0.out.h2.four
 go_wp2_with fail
 refine wp_region_held_drew (S := (fun w' => w'.cell? ⟨w.heap.size, 0, none⟩ = some (.pointer (some ⟨b, 0, none⟩)) /\ w'.cell? ⟨w.heap.size, 1, none⟩ = some (.int .i64 t) /\ w'.cell? ⟨w.heap.size, 2, none⟩ = some (.int .i64 q) /\ w'.cell? ⟨w.heap.size, 3, none⟩ = some (.int .i64 s))) (by kernel_rfl) ?_ (fun hHeld => ?_)
 ·(try dsimp only)
  exact ⟨W0.out.drew.h2.four.1, W0.out.drew.h2.four.2.1, W0.out.drew.h2.four.2.2.1, W0.out.drew.h2.four.2.2.2⟩
 refine tkz 0 ?_
 refine tkz 1 ?_
 refine tkz 2 ?_
 refine tkz 3 ?_
 refine tkz 4 ?_
 refine tkz 5 ?_
 refine rdz 6 fun K hK => ?_
 go_simp
 refine (plFoot_c t q s ((p : Int) - 1) _).mono ?_; rintro e w1 ⟨rfl, hb⟩; have W1 := hidp (W0.out.drew.keep hb); clear hb W0
 refine hK.out _ _ ?_ (fun hHeld => ?_)
 ·(try dsimp only)
  exact ⟨W1.out.h2.four.1, W1.out.h2.four.2.1, W1.out.h2.four.2.2.1, W1.out.h2.four.2.2.2⟩
 clear hK K
 (try simp only [Act.put, gA, gB, gC, sA, sB, sC])
 refine rdz 7 fun K hK => ?_
 go_simp
 refine (vGetA hn _ W1.out.at_).mono ?_; rintro e w2 ⟨rfl, h1, h2⟩; have W2 := hidp (W1.out.call h1 h2); clear h1 h2 W1; rw [HF.out]
 refine hK.out _ _ ?_ (fun hHeld => ?_)
 ·(try dsimp only)
  exact ⟨W2.out.h2.four.1, W2.out.h2.four.2.1, W2.out.h2.four.2.2.1, W2.out.h2.four.2.2.2⟩
 clear hK K
 (try simp only [Act.put, gA, gB, gC, sA, sB, sC])
 refine tkz 8 ?_
 refine tkz 9 ?_
 refine tkz 10 ?_
 refine dnz ?_
 obtain ⟨z0, z1⟩ := W2.out.h0.two
 obtain ⟨y0, y1⟩ := W2.out.h1.two
 obtain ⟨x0, x1, x2, x3⟩ := W2.out.h2.four
 go_wp2_with fail
 refine (spBegins_c hn ((f : Int) - 1) k1 l1 c1 o1 HI1.out W2.out.at_).mono ?_; rintro e w3 ⟨rfl, h1, h2⟩; have W3 := hidp (W2.out.call h1 h2); clear h1 h2 W2; rw [HS1.out] at W3
 obtain ⟨z0, z1⟩ := W3.out.h0.two
 obtain ⟨y0, y1⟩ := W3.out.h1.two
 obtain ⟨x0, x1, x2, x3⟩ := W3.out.h2.four
 go_wp2_with fail
 refine (spBehind_c (p : Int) (m : Int) v4 _).mono ?_; rintro e w4 ⟨rfl, hb⟩; have W4 := hidp (W3.out.keep hb); clear hb W3
 obtain ⟨z0, z1⟩ := W4.out.h0.two
 obtain ⟨y0, y1⟩ := W4.out.h1.two
 obtain ⟨x0, x1, x2, x3⟩ := W4.out.h2.four
 go_wp2_with fail
 refine (spBegins_c hn ((p : Int) + (m : Int)) 1 l2 c2 o2 HI2.out W4.out.at_).mono ?_; rintro e w5 ⟨rfl, h1, h2⟩; have W5 := hidp (W4.out.call h1 h2); clear h1 h2 W4
 obtain ⟨z0, z1⟩ := W5.out.h0.two
 obtain ⟨y0, y1⟩ := W5.out.h1.two
 obtain ⟨x0, x1, x2, x3⟩ := W5.out.h2.four
 go_wp2_with fail
 refine wp_region_held_drew (S := (fun w' => w'.cell? ⟨w.heap.size, 0, none⟩ = some (.pointer (some ⟨b, 0, none⟩)) /\ w'.cell? ⟨w.heap.size, 1, none⟩ = some (.int .i64 t) /\ w'.cell? ⟨w.heap.size, 2, none⟩ = some (.int .i64 q) /\ w'.cell? ⟨w.heap.size, 3, none⟩ = some (.int .i64 s))) (by kernel_rfl) ?_ (fun hHeld => ?_)
 ·(try dsimp only)
  exact ⟨W5.out.drew.h2.four.1, W5.out.drew.h2.four.2.1, W5.out.drew.h2.four.2.2.1, W5.out.drew.h2.four.2.2.2⟩
 refine tkz 0 ?_
 refine tkz 2 ?_
 refine tkz 3 ?_
 refine tkz 4 ?_
 refine wpAnyH_ready (rs := [1, 5]) (by kernel_rfl) (by simp) ?_
 refine AllReadyH.cons (o := _) rfl (fun K hK => ?_) (AllReadyH.cons (o := _) rfl (fun K hK => ?_) AllReadyH.nil)
 ·skip
  obtain ⟨z0, z1⟩ := W5.out.drew.h0.two
  go_simp
  refine hK.out _ _ ?_ (fun hHeld => ?_)
  ·(try dsimp only)
   exact ⟨W5.out.drew.h2.four.1, W5.out.drew.h2.four.2.1, W5.out.drew.h2.four.2.2.1, W5.out.drew.h2.four.2.2.2⟩
  clear hK K
  (try simp only [Act.put, gA, gB, gC, sA, sB, sC])
  refine rdz 5 fun K hK => ?_
  go_simp
  refine (spJoin_c hn (by omega) ((p : Int) + (m : Int)) ((p : Int) + (m : Int)) v5 W5.out.drew.at_).mono ?_; rintro e w6 ⟨rfl, h1, h2⟩; have W6 := hidp (W5.out.drew.call h1 h2); clear h1 h2 W5; rw [HDW.out]; rw [HS2.out] at W6
  refine hK.out _ _ ?_ (fun hHeld => ?_)
  ·(try dsimp only)
   exact ⟨W6.out.h2.four.1, W6.out.h2.four.2.1, W6.out.h2.four.2.2.1, W6.out.h2.four.2.2.2⟩
  clear hK K
  (try simp only [Act.put, gA, gB, gC, sA, sB, sC])
  refine tkz 6 ?_
  refine tkz 7 ?_
  refine rdz 8 fun K hK => ?_
  obtain ⟨z0, z1⟩ := W6.out.h0.two
  have f0 := W6.out.h0.thawed 0
  have f1 := W6.out.h0.thawed 1
  go_simp
  have W7 := hidp (W6.out.put 1 (.int .i64 ((m : Int) + dw)))
  clear W6 z0 z1 f0 f1
  refine hK.out _ _ ?_ (fun hHeld => ?_)
  ·(try dsimp only)
   exact ⟨W7.out.h2.four.1, W7.out.h2.four.2.1, W7.out.h2.four.2.2.1, W7.out.h2.four.2.2.2⟩
  clear hK K
  (try simp only [Act.put, gA, gB, gC, sA, sB, sC])
  refine dnz ?_
  obtain ⟨z0, z1⟩ := W7.out.h0.two
  obtain ⟨y0, y1⟩ := W7.out.h1.two
  obtain ⟨x0, x1, x2, x3⟩ := W7.out.h2.four
  go_wp2_with fail
  refine (spFree_c hn (by omega) (p : Int) ((m : Int) + dw) W7.out.at_).mono ?_; rintro e w8 ⟨rfl, h1, h2⟩; have W8 := hidp (W7.out.call h1 h2); clear h1 h2 W7
  obtain ⟨z0, z1⟩ := W8.out.h0.two
  obtain ⟨y0, y1⟩ := W8.out.h1.two
  obtain ⟨x0, x1, x2, x3⟩ := W8.out.h2.four
  go_wp2_with fail
  refine (spCount_c hn (m : Int) W8.out.at_).mono ?_; rintro e w9 ⟨rfl, h1, h2⟩; have W9 := hidp (W8.out.call h1 h2); clear h1 h2 W8
  obtain ⟨z0, z1⟩ := W9.out.h0.two
  obtain ⟨y0, y1⟩ := W9.out.h1.two
  obtain ⟨x0, x1, x2, x3⟩ := W9.out.h2.four
  go_wp2
  go_end0
  exact ⟨rfl, W9.out.fin⟩
 ·skip
  go_simp
  refine (spJoin_c hn (by omega) ((p : Int) + (m : Int)) ((p : Int) + (m : Int)) v5 W5.out.drew.at_).mono ?_; rintro e w6 ⟨rfl, h1, h2⟩; have W6 := hidp (W5.out.drew.call h1 h2); clear h1 h2 W5; rw [HDW.out]; rw [HS2.out] at W6
  refine hK.out _ _ ?_ (fun hHeld => ?_)
  ·(try dsimp only)
   exact ⟨W6.out.h2.four.1, W6.out.h2.four.2.1, W6.out.h2.four.2.2.1, W6.out.h2.four.2.2.2⟩
  clear hK K
  (try simp only [Act.put, gA, gB, gC, sA, sB, sC])
  refine rdz 1 fun K hK => ?_
  obtain ⟨z0, z1⟩ := W6.out.h0.two
  go_simp
  refine hK.out _ _ ?_ (fun hHeld => ?_)
  ·(try dsimp only)
   exact ⟨W6.out.h2.four.1, W6.out.h2.four.2.1, W6.out.h2.four.2.2.1, W6.out.h2.four.2.2.2⟩
  clear hK K
  (try simp only [Act.put, gA, gB, gC, sA, sB, sC])
  refine tkz 6 ?_
  refine tkz 7 ?_
  refine rdz 8 fun K hK => ?_
  obtain ⟨z0, z1⟩ := W6.out.h0.two
  have f0 := W6.out.h0.thawed 0
  have f1 := W6.out.h0.thawed 1
  go_simp
  have W7 := hidp (W6.out.put 1 (.int .i64 ((m : Int) + dw)))
  clear W6 z0 z1 f0 f1
  refine hK.out _ _ ?_ (fun hHeld => ?_)
  ·(try dsimp only)
   exact ⟨W7.out.h2.four.1, W7.out.h2.four.2.1, W7.out.h2.four.2.2.1, W7.out.h2.four.2.2.2⟩
  clear hK K
  (try simp only [Act.put, gA, gB, gC, sA, sB, sC])
  refine dnz ?_
  obtain ⟨z0, z1⟩ := W7.out.h0.two
  obtain ⟨y0, y1⟩ := W7.out.h1.two
  obtain ⟨x0, x1, x2, x3⟩ := W7.out.h2.four
  go_wp2_with fail
  refine (spFree_c hn (by omega) (p : Int) ((m : Int) + dw) W7.out.at_).mono ?_; rintro e w8 ⟨rfl, h1, h2⟩; have W8 := hidp (W7.out.call h1 h2); clear h1 h2 W7
  obtain ⟨z0, z1⟩ := W8.out.h0.two
  obtain ⟨y0, y1⟩ := W8.out.h1.two
  obtain ⟨x0, x1, x2, x3⟩ := W8.out.h2.four
  go_wp2_with fail
  refine (spCount_c hn (m : Int) W8.out.at_).mono ?_; rintro e w9 ⟨rfl, h1, h2⟩; have W9 := hidp (W8.out.call h1 h2); clear h1 h2 W8
  obtain ⟨z0, z1⟩ := W9.out.h0.two
  obtain ⟨y0, y1⟩ := W9.out.h1.two
  obtain ⟨x0, x1, x2, x3⟩ := W9.out.h2.four
  go_wp2
  go_end0
  exact ⟨rfl, W9.out.fin⟩

set_option maxHeartbeats 6400000 in
theorem spRelease_yes_off (hn : n < 2 ^ 40) (hq : q <= 1024) (p m : Nat) (hp : p <= 1024) (hm : m <= 1024) (hp0 : p ≠ 0) (f : Nat) (hf : getV n K st (pageI t q s ((p : Int) - 1) 1) = f) (k1 l1 c1 : Int) (o1 : Bool) (hi1 : infoOf n K t q s ((f : Int) - 1) (getS n K st (pageI t q s ((p : Int) - 1) 1)) = (k1, l1, c1, o1)) (hk1 : k1 = 1) (dv : Int) (hdv : dropV n K t q s ((f : Int) - 1) (getS n K (getS n K st (pageI t q s ((p : Int) - 1) 1)) (pageI t q s ((f : Int) - 1) 0)) = dv) (hd0 : 0 <= dv) (hd1 : dv <= 1024) (s1 : Vst) (hs1 : putS n (putS n (dropS n K t q s ((f : Int) - 1) (getS n K (getS n K st (pageI t q s ((p : Int) - 1) 1)) (pageI t q s ((f : Int) - 1) 0))) (pageI t q s (p : Int) 0) 0) (pageI t q s ((p : Int) - 1) 1) 0 = s1) (hr : ¬ ((p : Int) + (m : Int)) < q) (h : (vOb base b n wh K).At w0 A G st w) :
  Calls Tryz.prog 89 #[.agg #[.pointer (some ⟨b, 0, none⟩), .int .i64 t, .int .i64 q, .int .i64 s], .agg #[.int .i64 (p : Int), .int .i64 (m : Int)]] w fun e w' => e = .returned (.tuple #[]) /\ (vOb base b n wh K).At w0 A G (putS n (getS n K (addS n K t q s ((f : Int) - 1) (dv + (m : Int)) s1) 0) 0 (add32 (getV n K (addS n K t q s ((f : Int) - 1) (dv + (m : Int)) s1) 0) (m : Int))) w' /\ Stay G w w' := by
 have W0 := hidp ((((WL.start h).new 127 #[.pointer (some ⟨b, 0, none⟩), .int .i64 t, .int .i64 q, .int .i64 s]).new 130 #[.int .i64 (p : Int), .int .i64 (m : Int)]).new 130 #[.int .i64 (p : Int), .int .i64 (m : Int)])
 simp only [World.size_alloc] at W0
 have t0 : decide ((0 : Int) < (p : Int)) = true := decide_eq_true (by omega)
 have hf32 : f < 2 ^ 32 := by rw [<- hf]; exact vAt_lt h _
 have HF := hidp hf
 have HI1 := hidp hi1
 have v0 : IntKind.i64.wrap ((p : Int) - 1) = (p : Int) - 1 := i64_same (by omega) (by omega)
 have v1 : IntKind.i64.wrap (f : Int) = (f : Int) := i64_same (by omega) (by omega)
 have v2 : IntKind.i64.wrap ((f : Int) - 1) = (f : Int) - 1 := i64_same (by omega) (by omega)
 have g1 : ∀ w, (Instr.field 68 (.agg #[.int .i64 k1, .int .i64 l1, .int .i64 c1]) 0).run Tryz.prog w = .ok (.int .i64 k1) w := fun _ => by kernel_rfl
 subst hk1
 have HDV := hidp hdv
 have HS1 := hidp hs1
 have v3 : IntKind.i64.wrap (dv + (m : Int)) = dv + (m : Int) := i64_same (by omega) (by omega)
 have v4 : IntKind.i64.wrap ((p : Int) + (m : Int)) = ((p : Int) + (m : Int)) := i64_same (by omega) (by omega)
 have t1 : decide (((p : Int) + (m : Int)) < q) = false := decide_eq_false hr
 clear h hf hi1 hs1 hdv
 go_enter Tryz.func89, Tryz.ntmps89
 obtain ⟨z0, z1⟩ := W0.out.h0.two
 obtain ⟨y0, y1⟩ := W0.out.h1.two
 obtain ⟨x0, x1, x2, x3⟩ := W0.out.h2.four
 go_wp2_with fail
 refine wp_region_held_drew (S := (fun w' => w'.cell? ⟨w.heap.size, 0, none⟩ = some (.pointer (some ⟨b, 0, none⟩)) /\ w'.cell? ⟨w.heap.size, 1, none⟩ = some (.int .i64 t) /\ w'.cell? ⟨w.heap.size, 2, none⟩ = some (.int .i64 q) /\ w'.cell? ⟨w.heap.size, 3, none⟩ = some (.int .i64 s))) (by kernel_rfl) ?_ (fun hHeld => ?_)
 ·(try dsimp only)
  exact ⟨W0.out.drew.h2.four.1, W0.out.drew.h2.four.2.1, W0.out.drew.h2.four.2.2.1, W0.out.drew.h2.four.2.2.2⟩
 refine tkz 0 ?_
 refine tkz 1 ?_
 refine tkz 2 ?_
 refine tkz 3 ?_
 refine tkz 4 ?_
 refine tkz 5 ?_
 refine rdz 6 fun K hK => ?_
 go_simp
 refine (plFoot_c t q s ((p : Int) - 1) _).mono ?_; rintro e w1 ⟨rfl, hb⟩; have W1 := hidp (W0.out.drew.keep hb); clear hb W0
 refine hK.out _ _ ?_ (fun hHeld => ?_)
 ·(try dsimp only)
  exact ⟨W1.out.h2.four.1, W1.out.h2.four.2.1, W1.out.h2.four.2.2.1, W1.out.h2.four.2.2.2⟩
 clear hK K
 (try simp only [Act.put, gA, gB, gC, sA, sB, sC])
 refine rdz 7 fun K hK => ?_
 go_simp
 refine (vGetA hn _ W1.out.at_).mono ?_; rintro e w2 ⟨rfl, h1, h2⟩; have W2 := hidp (W1.out.call h1 h2); clear h1 h2 W1; rw [HF.out]
 refine hK.out _ _ ?_ (fun hHeld => ?_)
 ·(try dsimp only)
  exact ⟨W2.out.h2.four.1, W2.out.h2.four.2.1, W2.out.h2.four.2.2.1, W2.out.h2.four.2.2.2⟩
 clear hK K
 (try simp only [Act.put, gA, gB, gC, sA, sB, sC])
 refine tkz 8 ?_
 refine tkz 9 ?_
 refine tkz 10 ?_
 refine dnz ?_
 obtain ⟨z0, z1⟩ := W2.out.h0.two
 obtain ⟨y0, y1⟩ := W2.out.h1.two
 obtain ⟨x0, x1, x2, x3⟩ := W2.out.h2.four
 go_wp2_with fail
 refine (spBegins_c hn ((f : Int) - 1) 1 l1 c1 o1 HI1.out W2.out.at_).mono ?_; rintro e w3 ⟨rfl, h1, h2⟩; have W3 := hidp (W2.out.call h1 h2); clear h1 h2 W2
 obtain ⟨z0, z1⟩ := W3.out.h0.two
 obtain ⟨y0, y1⟩ := W3.out.h1.two
 obtain ⟨x0, x1, x2, x3⟩ := W3.out.h2.four
 go_wp2_with fail
 refine wp_region_held_drew (S := (fun w' => w'.cell? ⟨w.heap.size, 0, none⟩ = some (.pointer (some ⟨b, 0, none⟩)) /\ w'.cell? ⟨w.heap.size, 1, none⟩ = some (.int .i64 t) /\ w'.cell? ⟨w.heap.size, 2, none⟩ = some (.int .i64 q) /\ w'.cell? ⟨w.heap.size, 3, none⟩ = some (.int .i64 s) /\ w'.cell? ⟨(w.heap.size + 1), 0, none⟩ = some (.int .i64 (p : Int)) /\ w'.cell? ⟨(w.heap.size + 1), 1, none⟩ = some (.int .i64 (m : Int)))) (by kernel_rfl) ?_ (fun hHeld => ?_)
 ·(try dsimp only)
  exact ⟨W3.out.drew.h2.four.1, W3.out.drew.h2.four.2.1, W3.out.drew.h2.four.2.2.1, W3.out.drew.h2.four.2.2.2, W3.out.drew.h1.two.1, W3.out.drew.h1.two.2⟩
 refine tkz 0 ?_
 refine tkz 1 ?_
 refine tkz 2 ?_
 refine tkz 3 ?_
 refine tkz 5 ?_
 refine tkz 6 ?_
 refine rdz 4 fun K hK => ?_
 go_simp
 refine (spJoin_c hn (by omega) ((f : Int) - 1) (p : Int) v0 W3.out.drew.at_).mono ?_; rintro e w4 ⟨rfl, h1, h2⟩; have W4 := hidp (W3.out.drew.call h1 h2); clear h1 h2 W3; rw [HDV.out]; rw [HS1.out] at W4
 refine hK.out _ _ ?_ (fun hHeld => ?_)
 ·(try dsimp only)
  exact ⟨W4.out.h2.four.1, W4.out.h2.four.2.1, W4.out.h2.four.2.2.1, W4.out.h2.four.2.2.2, W4.out.h1.two.1, W4.out.h1.two.2⟩
 clear hK K
 (try simp only [Act.put, gA, gB, gC, sA, sB, sC])
 refine tkz 7 ?_
 refine tkz 8 ?_
 refine rdz 9 fun K hK => ?_
 obtain ⟨z0, z1⟩ := W4.out.h0.two
 have f0 := W4.out.h0.thawed 0
 have f1 := W4.out.h0.thawed 1
 go_simp
 have W5 := hidp ((W4.out.put 0 (.int .i64 ((f : Int) - 1))).put 1 (.int .i64 (dv + (m : Int))))
 clear W4 z0 z1 f0 f1
 refine hK.out _ _ ?_ (fun hHeld => ?_)
 ·(try dsimp only)
  exact ⟨W5.out.h2.four.1, W5.out.h2.four.2.1, W5.out.h2.four.2.2.1, W5.out.h2.four.2.2.2, W5.out.h1.two.1, W5.out.h1.two.2⟩
 clear hK K
 (try simp only [Act.put, gA, gB, gC, sA, sB, sC])
 refine dnz ?_
 obtain ⟨z0, z1⟩ := W5.out.h0.two
 obtain ⟨y0, y1⟩ := W5.out.h1.two
 obtain ⟨x0, x1, x2, x3⟩ := W5.out.h2.four
 go_wp2_with fail
 refine (spBehind_c (p : Int) (m : Int) v4 _).mono ?_; rintro e w6 ⟨rfl, hb⟩; have W6 := hidp (W5.out.keep hb); clear hb W5
 obtain ⟨z0, z1⟩ := W6.out.h0.two
 obtain ⟨y0, y1⟩ := W6.out.h1.two
 obtain ⟨x0, x1, x2, x3⟩ := W6.out.h2.four
 go_wp2_with fail
 refine (spFree_c hn (by omega) ((f : Int) - 1) (dv + (m : Int)) W6.out.at_).mono ?_; rintro e w7 ⟨rfl, h1, h2⟩; have W7 := hidp (W6.out.call h1 h2); clear h1 h2 W6
 obtain ⟨z0, z1⟩ := W7.out.h0.two
 obtain ⟨y0, y1⟩ := W7.out.h1.two
 obtain ⟨x0, x1, x2, x3⟩ := W7.out.h2.four
 go_wp2_with fail
 refine (spCount_c hn (m : Int) W7.out.at_).mono ?_; rintro e w8 ⟨rfl, h1, h2⟩; have W8 := hidp (W7.out.call h1 h2); clear h1 h2 W7
 obtain ⟨z0, z1⟩ := W8.out.h0.two
 obtain ⟨y0, y1⟩ := W8.out.h1.two
 obtain ⟨x0, x1, x2, x3⟩ := W8.out.h2.four
 go_wp2
 go_end0
 exact ⟨rfl, W8.out.fin⟩

set_option maxHeartbeats 6400000 in
theorem spRelease_yes_no (hn : n < 2 ^ 40) (hq : q <= 1024) (p m : Nat) (hp : p <= 1024) (hm : m <= 1024) (hp0 : p ≠ 0) (f : Nat) (hf : getV n K st (pageI t q s ((p : Int) - 1) 1) = f) (k1 l1 c1 : Int) (o1 : Bool) (hi1 : infoOf n K t q s ((f : Int) - 1) (getS n K st (pageI t q s ((p : Int) - 1) 1)) = (k1, l1, c1, o1)) (hk1 : k1 = 1) (dv : Int) (hdv : dropV n K t q s ((f : Int) - 1) (getS n K (getS n K st (pageI t q s ((p : Int) - 1) 1)) (pageI t q s ((f : Int) - 1) 0)) = dv) (hd0 : 0 <= dv) (hd1 : dv <= 1024) (s1 : Vst) (hs1 : putS n (putS n (dropS n K t q s ((f : Int) - 1) (getS n K (getS n K st (pageI t q s ((p : Int) - 1) 1)) (pageI t q s ((f : Int) - 1) 0))) (pageI t q s (p : Int) 0) 0) (pageI t q s ((p : Int) - 1) 1) 0 = s1) (hr : ((p : Int) + (m : Int)) < q) (k2 l2 c2 : Int) (o2 : Bool) (hi2 : infoOf n K t q s ((p : Int) + (m : Int)) s1 = (k2, l2, c2, o2)) (hk2 : k2 ≠ 1) (s2 : Vst) (hs2 : (getS n K s1 (pageI t q s ((p : Int) + (m : Int)) 0)) = s2) (h : (vOb base b n wh K).At w0 A G st w) :
  Calls Tryz.prog 89 #[.agg #[.pointer (some ⟨b, 0, none⟩), .int .i64 t, .int .i64 q, .int .i64 s], .agg #[.int .i64 (p : Int), .int .i64 (m : Int)]] w fun e w' => e = .returned (.tuple #[]) /\ (vOb base b n wh K).At w0 A G (putS n (getS n K (addS n K t q s ((f : Int) - 1) (dv + (m : Int)) s2) 0) 0 (add32 (getV n K (addS n K t q s ((f : Int) - 1) (dv + (m : Int)) s2) 0) (m : Int))) w' /\ Stay G w w' := by
 have W0 := hidp ((((WL.start h).new 127 #[.pointer (some ⟨b, 0, none⟩), .int .i64 t, .int .i64 q, .int .i64 s]).new 130 #[.int .i64 (p : Int), .int .i64 (m : Int)]).new 130 #[.int .i64 (p : Int), .int .i64 (m : Int)])
 simp only [World.size_alloc] at W0
 have t0 : decide ((0 : Int) < (p : Int)) = true := decide_eq_true (by omega)
 have hf32 : f < 2 ^ 32 := by rw [<- hf]; exact vAt_lt h _
 have HF := hidp hf
 have HI1 := hidp hi1
 have v0 : IntKind.i64.wrap ((p : Int) - 1) = (p : Int) - 1 := i64_same (by omega) (by omega)
 have v1 : IntKind.i64.wrap (f : Int) = (f : Int) := i64_same (by omega) (by omega)
 have v2 : IntKind.i64.wrap ((f : Int) - 1) = (f : Int) - 1 := i64_same (by omega) (by omega)
 have g1 : ∀ w, (Instr.field 68 (.agg #[.int .i64 k1, .int .i64 l1, .int .i64 c1]) 0).run Tryz.prog w = .ok (.int .i64 k1) w := fun _ => by kernel_rfl
 subst hk1
 have HDV := hidp hdv
 have HS1 := hidp hs1
 have v3 : IntKind.i64.wrap (dv + (m : Int)) = dv + (m : Int) := i64_same (by omega) (by omega)
 have v4 : IntKind.i64.wrap ((p : Int) + (m : Int)) = ((p : Int) + (m : Int)) := i64_same (by omega) (by omega)
 have t1 : decide (((p : Int) + (m : Int)) < q) = true := decide_eq_true hr
 have HI2 := hidp hi2
 have v5 : IntKind.i64.wrap (((p : Int) + (m : Int)) - 1) = ((p : Int) + (m : Int)) - 1 := i64_same (by omega) (by omega)
 have g2 : ∀ w, (Instr.field 68 (.agg #[.int .i64 k2, .int .i64 l2, .int .i64 c2]) 0).run Tryz.prog w = .ok (.int .i64 k2) w := fun _ => by kernel_rfl
 have u2 : (k2 == 1) = false := by simpa using hk2
 have HS2 := hidp hs2
 clear h hf hi1 hs1 hdv hi2 hs2
 go_enter Tryz.func89, Tryz.ntmps89
 obtain ⟨z0, z1⟩ := W0.out.h0.two
 obtain ⟨y0, y1⟩ := W0.out.h1.two
 obtain ⟨x0, x1, x2, x3⟩ := W0.out.h2.four
 go_wp2_with fail
 refine wp_region_held_drew (S := (fun w' => w'.cell? ⟨w.heap.size, 0, none⟩ = some (.pointer (some ⟨b, 0, none⟩)) /\ w'.cell? ⟨w.heap.size, 1, none⟩ = some (.int .i64 t) /\ w'.cell? ⟨w.heap.size, 2, none⟩ = some (.int .i64 q) /\ w'.cell? ⟨w.heap.size, 3, none⟩ = some (.int .i64 s))) (by kernel_rfl) ?_ (fun hHeld => ?_)
 ·(try dsimp only)
  exact ⟨W0.out.drew.h2.four.1, W0.out.drew.h2.four.2.1, W0.out.drew.h2.four.2.2.1, W0.out.drew.h2.four.2.2.2⟩
 refine tkz 0 ?_
 refine tkz 1 ?_
 refine tkz 2 ?_
 refine tkz 3 ?_
 refine tkz 4 ?_
 refine tkz 5 ?_
 refine rdz 6 fun K hK => ?_
 go_simp
 refine (plFoot_c t q s ((p : Int) - 1) _).mono ?_; rintro e w1 ⟨rfl, hb⟩; have W1 := hidp (W0.out.drew.keep hb); clear hb W0
 refine hK.out _ _ ?_ (fun hHeld => ?_)
 ·(try dsimp only)
  exact ⟨W1.out.h2.four.1, W1.out.h2.four.2.1, W1.out.h2.four.2.2.1, W1.out.h2.four.2.2.2⟩
 clear hK K
 (try simp only [Act.put, gA, gB, gC, sA, sB, sC])
 refine rdz 7 fun K hK => ?_
 go_simp
 refine (vGetA hn _ W1.out.at_).mono ?_; rintro e w2 ⟨rfl, h1, h2⟩; have W2 := hidp (W1.out.call h1 h2); clear h1 h2 W1; rw [HF.out]
 refine hK.out _ _ ?_ (fun hHeld => ?_)
 ·(try dsimp only)
  exact ⟨W2.out.h2.four.1, W2.out.h2.four.2.1, W2.out.h2.four.2.2.1, W2.out.h2.four.2.2.2⟩
 clear hK K
 (try simp only [Act.put, gA, gB, gC, sA, sB, sC])
 refine tkz 8 ?_
 refine tkz 9 ?_
 refine tkz 10 ?_
 refine dnz ?_
 obtain ⟨z0, z1⟩ := W2.out.h0.two
 obtain ⟨y0, y1⟩ := W2.out.h1.two
 obtain ⟨x0, x1, x2, x3⟩ := W2.out.h2.four
 go_wp2_with fail
 refine (spBegins_c hn ((f : Int) - 1) 1 l1 c1 o1 HI1.out W2.out.at_).mono ?_; rintro e w3 ⟨rfl, h1, h2⟩; have W3 := hidp (W2.out.call h1 h2); clear h1 h2 W2
 obtain ⟨z0, z1⟩ := W3.out.h0.two
 obtain ⟨y0, y1⟩ := W3.out.h1.two
 obtain ⟨x0, x1, x2, x3⟩ := W3.out.h2.four
 go_wp2_with fail
 refine wp_region_held_drew (S := (fun w' => w'.cell? ⟨w.heap.size, 0, none⟩ = some (.pointer (some ⟨b, 0, none⟩)) /\ w'.cell? ⟨w.heap.size, 1, none⟩ = some (.int .i64 t) /\ w'.cell? ⟨w.heap.size, 2, none⟩ = some (.int .i64 q) /\ w'.cell? ⟨w.heap.size, 3, none⟩ = some (.int .i64 s) /\ w'.cell? ⟨(w.heap.size + 1), 0, none⟩ = some (.int .i64 (p : Int)) /\ w'.cell? ⟨(w.heap.size + 1), 1, none⟩ = some (.int .i64 (m : Int)))) (by kernel_rfl) ?_ (fun hHeld => ?_)
 ·(try dsimp only)
  exact ⟨W3.out.drew.h2.four.1, W3.out.drew.h2.four.2.1, W3.out.drew.h2.four.2.2.1, W3.out.drew.h2.four.2.2.2, W3.out.drew.h1.two.1, W3.out.drew.h1.two.2⟩
 refine tkz 0 ?_
 refine tkz 1 ?_
 refine tkz 2 ?_
 refine tkz 3 ?_
 refine tkz 5 ?_
 refine tkz 6 ?_
 refine rdz 4 fun K hK => ?_
 go_simp
 refine (spJoin_c hn (by omega) ((f : Int) - 1) (p : Int) v0 W3.out.drew.at_).mono ?_; rintro e w4 ⟨rfl, h1, h2⟩; have W4 := hidp (W3.out.drew.call h1 h2); clear h1 h2 W3; rw [HDV.out]; rw [HS1.out] at W4
 refine hK.out _ _ ?_ (fun hHeld => ?_)
 ·(try dsimp only)
  exact ⟨W4.out.h2.four.1, W4.out.h2.four.2.1, W4.out.h2.four.2.2.1, W4.out.h2.four.2.2.2, W4.out.h1.two.1, W4.out.h1.two.2⟩
 clear hK K
 (try simp only [Act.put, gA, gB, gC, sA, sB, sC])
 refine tkz 7 ?_
 refine tkz 8 ?_
 refine rdz 9 fun K hK => ?_
 obtain ⟨z0, z1⟩ := W4.out.h0.two
 have f0 := W4.out.h0.thawed 0
 have f1 := W4.out.h0.thawed 1
 go_simp
 have W5 := hidp ((W4.out.put 0 (.int .i64 ((f : Int) - 1))).put 1 (.int .i64 (dv + (m : Int))))
 clear W4 z0 z1 f0 f1
 refine hK.out _ _ ?_ (fun hHeld => ?_)
 ·(try dsimp only)
  exact ⟨W5.out.h2.four.1, W5.out.h2.four.2.1, W5.out.h2.four.2.2.1, W5.out.h2.four.2.2.2, W5.out.h1.two.1, W5.out.h1.two.2⟩
 clear hK K
 (try simp only [Act.put, gA, gB, gC, sA, sB, sC])
 refine dnz ?_
 obtain ⟨z0, z1⟩ := W5.out.h0.two
 obtain ⟨y0, y1⟩ := W5.out.h1.two
 obtain ⟨x0, x1, x2, x3⟩ := W5.out.h2.four
 go_wp2_with fail
 refine (spBehind_c (p : Int) (m : Int) v4 _).mono ?_; rintro e w6 ⟨rfl, hb⟩; have W6 := hidp (W5.out.keep hb); clear hb W5
 obtain ⟨z0, z1⟩ := W6.out.h0.two
 obtain ⟨y0, y1⟩ := W6.out.h1.two
 obtain ⟨x0, x1, x2, x3⟩ := W6.out.h2.four
 go_wp2_with fail
 refine (spBegins_c hn ((p : Int) + (m : Int)) k2 l2 c2 o2 HI2.out W6.out.at_).mono ?_; rintro e w7 ⟨rfl, h1, h2⟩; have W7 := hidp (W6.out.call h1 h2); clear h1 h2 W6; rw [HS2.out] at W7
 obtain ⟨z0, z1⟩ := W7.out.h0.two
 obtain ⟨y0, y1⟩ := W7.out.h1.two
 obtain ⟨x0, x1, x2, x3⟩ := W7.out.h2.four
 go_wp2_with fail
 refine (spFree_c hn (by omega) ((f : Int) - 1) (dv + (m : Int)) W7.out.at_).mono ?_; rintro e w8 ⟨rfl, h1, h2⟩; have W8 := hidp (W7.out.call h1 h2); clear h1 h2 W7
 obtain ⟨z0, z1⟩ := W8.out.h0.two
 obtain ⟨y0, y1⟩ := W8.out.h1.two
 obtain ⟨x0, x1, x2, x3⟩ := W8.out.h2.four
 go_wp2_with fail
 refine (spCount_c hn (m : Int) W8.out.at_).mono ?_; rintro e w9 ⟨rfl, h1, h2⟩; have W9 := hidp (W8.out.call h1 h2); clear h1 h2 W8
 obtain ⟨z0, z1⟩ := W9.out.h0.two
 obtain ⟨y0, y1⟩ := W9.out.h1.two
 obtain ⟨x0, x1, x2, x3⟩ := W9.out.h2.four
 go_wp2
 go_end0
 exact ⟨rfl, W9.out.fin⟩

set_option maxHeartbeats 6400000 in
theorem spRelease_yes_yes (hn : n < 2 ^ 40) (hq : q <= 1024) (p m : Nat) (hp : p <= 1024) (hm : m <= 1024) (hp0 : p ≠ 0) (f : Nat) (hf : getV n K st (pageI t q s ((p : Int) - 1) 1) = f) (k1 l1 c1 : Int) (o1 : Bool) (hi1 : infoOf n K t q s ((f : Int) - 1) (getS n K st (pageI t q s ((p : Int) - 1) 1)) = (k1, l1, c1, o1)) (hk1 : k1 = 1) (dv : Int) (hdv : dropV n K t q s ((f : Int) - 1) (getS n K (getS n K st (pageI t q s ((p : Int) - 1) 1)) (pageI t q s ((f : Int) - 1) 0)) = dv) (hd0 : 0 <= dv) (hd1 : dv <= 1024) (s1 : Vst) (hs1 : putS n (putS n (dropS n K t q s ((f : Int) - 1) (getS n K (getS n K st (pageI t q s ((p : Int) - 1) 1)) (pageI t q s ((f : Int) - 1) 0))) (pageI t q s (p : Int) 0) 0) (pageI t q s ((p : Int) - 1) 1) 0 = s1) (hr : ((p : Int) + (m : Int)) < q) (k2 l2 c2 : Int) (o2 : Bool) (hi2 : infoOf n K t q s ((p : Int) + (m : Int)) s1 = (k2, l2, c2, o2)) (hk2 : k2 = 1) (dw : Int) (hdw : dropV n K t q s ((p : Int) + (m : Int)) (getS n K s1 (pageI t q s ((p : Int) + (m : Int)) 0)) = dw) (he0 : 0 <= dw) (he1 : dw <= 1024) (s2 : Vst) (hs2 : putS n (putS n (dropS n K t q s ((p : Int) + (m : Int)) (getS n K s1 (pageI t q s ((p : Int) + (m : Int)) 0))) (pageI t q s ((p : Int) + (m : Int)) 0) 0) (pageI t q s (((p : Int) + (m : Int)) - 1) 1) 0 = s2) (h : (vOb base b n wh K).At w0 A G st w) :
  Calls Tryz.prog 89 #[.agg #[.pointer (some ⟨b, 0, none⟩), .int .i64 t, .int .i64 q, .int .i64 s], .agg #[.int .i64 (p : Int), .int .i64 (m : Int)]] w fun e w' => e = .returned (.tuple #[]) /\ (vOb base b n wh K).At w0 A G (putS n (getS n K (addS n K t q s ((f : Int) - 1) ((dv + (m : Int)) + dw) s2) 0) 0 (add32 (getV n K (addS n K t q s ((f : Int) - 1) ((dv + (m : Int)) + dw) s2) 0) (m : Int))) w' /\ Stay G w w' := by
 have W0 := hidp ((((WL.start h).new 127 #[.pointer (some ⟨b, 0, none⟩), .int .i64 t, .int .i64 q, .int .i64 s]).new 130 #[.int .i64 (p : Int), .int .i64 (m : Int)]).new 130 #[.int .i64 (p : Int), .int .i64 (m : Int)])
 simp only [World.size_alloc] at W0
 have t0 : decide ((0 : Int) < (p : Int)) = true := decide_eq_true (by omega)
 have hf32 : f < 2 ^ 32 := by rw [<- hf]; exact vAt_lt h _
 have HF := hidp hf
 have HI1 := hidp hi1
 have v0 : IntKind.i64.wrap ((p : Int) - 1) = (p : Int) - 1 := i64_same (by omega) (by omega)
 have v1 : IntKind.i64.wrap (f : Int) = (f : Int) := i64_same (by omega) (by omega)
 have v2 : IntKind.i64.wrap ((f : Int) - 1) = (f : Int) - 1 := i64_same (by omega) (by omega)
 have g1 : ∀ w, (Instr.field 68 (.agg #[.int .i64 k1, .int .i64 l1, .int .i64 c1]) 0).run Tryz.prog w = .ok (.int .i64 k1) w := fun _ => by kernel_rfl
 subst hk1
 have HDV := hidp hdv
 have HS1 := hidp hs1
 have v3 : IntKind.i64.wrap (dv + (m : Int)) = dv + (m : Int) := i64_same (by omega) (by omega)
 have v4 : IntKind.i64.wrap ((p : Int) + (m : Int)) = ((p : Int) + (m : Int)) := i64_same (by omega) (by omega)
 have t1 : decide (((p : Int) + (m : Int)) < q) = true := decide_eq_true hr
 have HI2 := hidp hi2
 have v5 : IntKind.i64.wrap (((p : Int) + (m : Int)) - 1) = ((p : Int) + (m : Int)) - 1 := i64_same (by omega) (by omega)
 have g2 : ∀ w, (Instr.field 68 (.agg #[.int .i64 k2, .int .i64 l2, .int .i64 c2]) 0).run Tryz.prog w = .ok (.int .i64 k2) w := fun _ => by kernel_rfl
 subst hk2
 have HDW := hidp hdw
 have HS2 := hidp hs2
 have v6 : IntKind.i64.wrap ((dv + (m : Int)) + dw) = ((dv + (m : Int)) + dw) := i64_same (by omega) (by omega)
 clear h hf hi1 hs1 hdv hi2 hs2 hdw
 go_enter Tryz.func89, Tryz.ntmps89
 obtain ⟨z0, z1⟩ := W0.out.h0.two
 obtain ⟨y0, y1⟩ := W0.out.h1.two
 obtain ⟨x0, x1, x2, x3⟩ := W0.out.h2.four
 go_wp2_with fail
 refine wp_region_held_drew (S := (fun w' => w'.cell? ⟨w.heap.size, 0, none⟩ = some (.pointer (some ⟨b, 0, none⟩)) /\ w'.cell? ⟨w.heap.size, 1, none⟩ = some (.int .i64 t) /\ w'.cell? ⟨w.heap.size, 2, none⟩ = some (.int .i64 q) /\ w'.cell? ⟨w.heap.size, 3, none⟩ = some (.int .i64 s))) (by kernel_rfl) ?_ (fun hHeld => ?_)
 ·(try dsimp only)
  exact ⟨W0.out.drew.h2.four.1, W0.out.drew.h2.four.2.1, W0.out.drew.h2.four.2.2.1, W0.out.drew.h2.four.2.2.2⟩
 refine tkz 0 ?_
 refine tkz 1 ?_
 refine tkz 2 ?_
 refine tkz 3 ?_
 refine tkz 4 ?_
 refine tkz 5 ?_
 refine rdz 6 fun K hK => ?_
 go_simp
 refine (plFoot_c t q s ((p : Int) - 1) _).mono ?_; rintro e w1 ⟨rfl, hb⟩; have W1 := hidp (W0.out.drew.keep hb); clear hb W0
 refine hK.out _ _ ?_ (fun hHeld => ?_)
 ·(try dsimp only)
  exact ⟨W1.out.h2.four.1, W1.out.h2.four.2.1, W1.out.h2.four.2.2.1, W1.out.h2.four.2.2.2⟩
 clear hK K
 (try simp only [Act.put, gA, gB, gC, sA, sB, sC])
 refine rdz 7 fun K hK => ?_
 go_simp
 refine (vGetA hn _ W1.out.at_).mono ?_; rintro e w2 ⟨rfl, h1, h2⟩; have W2 := hidp (W1.out.call h1 h2); clear h1 h2 W1; rw [HF.out]
 refine hK.out _ _ ?_ (fun hHeld => ?_)
 ·(try dsimp only)
  exact ⟨W2.out.h2.four.1, W2.out.h2.four.2.1, W2.out.h2.four.2.2.1, W2.out.h2.four.2.2.2⟩
 clear hK K
 (try simp only [Act.put, gA, gB, gC, sA, sB, sC])
 refine tkz 8 ?_
 refine tkz 9 ?_
 refine tkz 10 ?_
 refine dnz ?_
 obtain ⟨z0, z1⟩ := W2.out.h0.two
 obtain ⟨y0, y1⟩ := W2.out.h1.two
 obtain ⟨x0, x1, x2, x3⟩ := W2.out.h2.four
 go_wp2_with fail
 refine (spBegins_c hn ((f : Int) - 1) 1 l1 c1 o1 HI1.out W2.out.at_).mono ?_; rintro e w3 ⟨rfl, h1, h2⟩; have W3 := hidp (W2.out.call h1 h2); clear h1 h2 W2
 obtain ⟨z0, z1⟩ := W3.out.h0.two
 obtain ⟨y0, y1⟩ := W3.out.h1.two
 obtain ⟨x0, x1, x2, x3⟩ := W3.out.h2.four
 go_wp2_with fail
 refine wp_region_held_drew (S := (fun w' => w'.cell? ⟨w.heap.size, 0, none⟩ = some (.pointer (some ⟨b, 0, none⟩)) /\ w'.cell? ⟨w.heap.size, 1, none⟩ = some (.int .i64 t) /\ w'.cell? ⟨w.heap.size, 2, none⟩ = some (.int .i64 q) /\ w'.cell? ⟨w.heap.size, 3, none⟩ = some (.int .i64 s) /\ w'.cell? ⟨(w.heap.size + 1), 0, none⟩ = some (.int .i64 (p : Int)) /\ w'.cell? ⟨(w.heap.size + 1), 1, none⟩ = some (.int .i64 (m : Int)))) (by kernel_rfl) ?_ (fun hHeld => ?_)
 ·(try dsimp only)
  exact ⟨W3.out.drew.h2.four.1, W3.out.drew.h2.four.2.1, W3.out.drew.h2.four.2.2.1, W3.out.drew.h2.four.2.2.2, W3.out.drew.h1.two.1, W3.out.drew.h1.two.2⟩
 refine tkz 0 ?_
 refine tkz 1 ?_
 refine tkz 2 ?_
 refine tkz 3 ?_
 refine tkz 5 ?_
 refine tkz 6 ?_
 refine rdz 4 fun K hK => ?_
 go_simp
 refine (spJoin_c hn (by omega) ((f : Int) - 1) (p : Int) v0 W3.out.drew.at_).mono ?_; rintro e w4 ⟨rfl, h1, h2⟩; have W4 := hidp (W3.out.drew.call h1 h2); clear h1 h2 W3; rw [HDV.out]; rw [HS1.out] at W4
 refine hK.out _ _ ?_ (fun hHeld => ?_)
 ·(try dsimp only)
  exact ⟨W4.out.h2.four.1, W4.out.h2.four.2.1, W4.out.h2.four.2.2.1, W4.out.h2.four.2.2.2, W4.out.h1.two.1, W4.out.h1.two.2⟩
 clear hK K
 (try simp only [Act.put, gA, gB, gC, sA, sB, sC])
 refine tkz 7 ?_
 refine tkz 8 ?_
 refine rdz 9 fun K hK => ?_
 obtain ⟨z0, z1⟩ := W4.out.h0.two
 have f0 := W4.out.h0.thawed 0
 have f1 := W4.out.h0.thawed 1
 go_simp
 have W5 := hidp ((W4.out.put 0 (.int .i64 ((f : Int) - 1))).put 1 (.int .i64 (dv + (m : Int))))
 clear W4 z0 z1 f0 f1
 refine hK.out _ _ ?_ (fun hHeld => ?_)
 ·(try dsimp only)
  exact ⟨W5.out.h2.four.1, W5.out.h2.four.2.1, W5.out.h2.four.2.2.1, W5.out.h2.four.2.2.2, W5.out.h1.two.1, W5.out.h1.two.2⟩
 clear hK K
 (try simp only [Act.put, gA, gB, gC, sA, sB, sC])
 refine dnz ?_
 obtain ⟨z0, z1⟩ := W5.out.h0.two
 obtain ⟨y0, y1⟩ := W5.out.h1.two
 obtain ⟨x0, x1, x2, x3⟩ := W5.out.h2.four
 go_wp2_with fail
 refine (spBehind_c (p : Int) (m : Int) v4 _).mono ?_; rintro e w6 ⟨rfl, hb⟩; have W6 := hidp (W5.out.keep hb); clear hb W5
 obtain ⟨z0, z1⟩ := W6.out.h0.two
 obtain ⟨y0, y1⟩ := W6.out.h1.two
 obtain ⟨x0, x1, x2, x3⟩ := W6.out.h2.four
 go_wp2_with fail
 refine (spBegins_c hn ((p : Int) + (m : Int)) 1 l2 c2 o2 HI2.out W6.out.at_).mono ?_; rintro e w7 ⟨rfl, h1, h2⟩; have W7 := hidp (W6.out.call h1 h2); clear h1 h2 W6
 obtain ⟨z0, z1⟩ := W7.out.h0.two
 obtain ⟨y0, y1⟩ := W7.out.h1.two
 obtain ⟨x0, x1, x2, x3⟩ := W7.out.h2.four
 go_wp2_with fail
 refine wp_region_held_drew (S := (fun w' => w'.cell? ⟨w.heap.size, 0, none⟩ = some (.pointer (some ⟨b, 0, none⟩)) /\ w'.cell? ⟨w.heap.size, 1, none⟩ = some (.int .i64 t) /\ w'.cell? ⟨w.heap.size, 2, none⟩ = some (.int .i64 q) /\ w'.cell? ⟨w.heap.size, 3, none⟩ = some (.int .i64 s))) (by kernel_rfl) ?_ (fun hHeld => ?_)
 ·(try dsimp only)
  exact ⟨W7.out.drew.h2.four.1, W7.out.drew.h2.four.2.1, W7.out.drew.h2.four.2.2.1, W7.out.drew.h2.four.2.2.2⟩
 refine tkz 0 ?_
 refine tkz 2 ?_
 refine tkz 3 ?_
 refine tkz 4 ?_
 refine wpAnyH_ready (rs := [1, 5]) (by kernel_rfl) (by simp) ?_
 refine AllReadyH.cons (o := _) rfl (fun K hK => ?_) (AllReadyH.cons (o := _) rfl (fun K hK => ?_) AllReadyH.nil)
 ·skip
  obtain ⟨z0, z1⟩ := W7.out.drew.h0.two
  go_simp
  refine hK.out _ _ ?_ (fun hHeld => ?_)
  ·(try dsimp only)
   exact ⟨W7.out.drew.h2.four.1, W7.out.drew.h2.four.2.1, W7.out.drew.h2.four.2.2.1, W7.out.drew.h2.four.2.2.2⟩
  clear hK K
  (try simp only [Act.put, gA, gB, gC, sA, sB, sC])
  refine rdz 5 fun K hK => ?_
  go_simp
  refine (spJoin_c hn (by omega) ((p : Int) + (m : Int)) ((p : Int) + (m : Int)) v5 W7.out.drew.at_).mono ?_; rintro e w8 ⟨rfl, h1, h2⟩; have W8 := hidp (W7.out.drew.call h1 h2); clear h1 h2 W7; rw [HDW.out]; rw [HS2.out] at W8
  refine hK.out _ _ ?_ (fun hHeld => ?_)
  ·(try dsimp only)
   exact ⟨W8.out.h2.four.1, W8.out.h2.four.2.1, W8.out.h2.four.2.2.1, W8.out.h2.four.2.2.2⟩
  clear hK K
  (try simp only [Act.put, gA, gB, gC, sA, sB, sC])
  refine tkz 6 ?_
  refine tkz 7 ?_
  refine rdz 8 fun K hK => ?_
  obtain ⟨z0, z1⟩ := W8.out.h0.two
  have f0 := W8.out.h0.thawed 0
  have f1 := W8.out.h0.thawed 1
  go_simp
  have W9 := hidp (W8.out.put 1 (.int .i64 ((dv + (m : Int)) + dw)))
  clear W8 z0 z1 f0 f1
  refine hK.out _ _ ?_ (fun hHeld => ?_)
  ·(try dsimp only)
   exact ⟨W9.out.h2.four.1, W9.out.h2.four.2.1, W9.out.h2.four.2.2.1, W9.out.h2.four.2.2.2⟩
  clear hK K
  (try simp only [Act.put, gA, gB, gC, sA, sB, sC])
  refine dnz ?_
  obtain ⟨z0, z1⟩ := W9.out.h0.two
  obtain ⟨y0, y1⟩ := W9.out.h1.two
  obtain ⟨x0, x1, x2, x3⟩ := W9.out.h2.four
  go_wp2_with fail
  refine (spFree_c hn (by omega) ((f : Int) - 1) ((dv + (m : Int)) + dw) W9.out.at_).mono ?_; rintro e w10 ⟨rfl, h1, h2⟩; have W10 := hidp (W9.out.call h1 h2); clear h1 h2 W9
  obtain ⟨z0, z1⟩ := W10.out.h0.two
  obtain ⟨y0, y1⟩ := W10.out.h1.two
  obtain ⟨x0, x1, x2, x3⟩ := W10.out.h2.four
  go_wp2_with fail
  refine (spCount_c hn (m : Int) W10.out.at_).mono ?_; rintro e w11 ⟨rfl, h1, h2⟩; have W11 := hidp (W10.out.call h1 h2); clear h1 h2 W10
  obtain ⟨z0, z1⟩ := W11.out.h0.two
  obtain ⟨y0, y1⟩ := W11.out.h1.two
  obtain ⟨x0, x1, x2, x3⟩ := W11.out.h2.four
  go_wp2
  go_end0
  exact ⟨rfl, W11.out.fin⟩
 ·skip
  go_simp
  refine (spJoin_c hn (by omega) ((p : Int) + (m : Int)) ((p : Int) + (m : Int)) v5 W7.out.drew.at_).mono ?_; rintro e w8 ⟨rfl, h1, h2⟩; have W8 := hidp (W7.out.drew.call h1 h2); clear h1 h2 W7; rw [HDW.out]; rw [HS2.out] at W8
  refine hK.out _ _ ?_ (fun hHeld => ?_)
  ·(try dsimp only)
   exact ⟨W8.out.h2.four.1, W8.out.h2.four.2.1, W8.out.h2.four.2.2.1, W8.out.h2.four.2.2.2⟩
  clear hK K
  (try simp only [Act.put, gA, gB, gC, sA, sB, sC])
  refine rdz 1 fun K hK => ?_
  obtain ⟨z0, z1⟩ := W8.out.h0.two
  go_simp
  refine hK.out _ _ ?_ (fun hHeld => ?_)
  ·(try dsimp only)
   exact ⟨W8.out.h2.four.1, W8.out.h2.four.2.1, W8.out.h2.four.2.2.1, W8.out.h2.four.2.2.2⟩
  clear hK K
  (try simp only [Act.put, gA, gB, gC, sA, sB, sC])
  refine tkz 6 ?_
  refine tkz 7 ?_
  refine rdz 8 fun K hK => ?_
  obtain ⟨z0, z1⟩ := W8.out.h0.two
  have f0 := W8.out.h0.thawed 0
  have f1 := W8.out.h0.thawed 1
  go_simp
  have W9 := hidp (W8.out.put 1 (.int .i64 ((dv + (m : Int)) + dw)))
  clear W8 z0 z1 f0 f1
  refine hK.out _ _ ?_ (fun hHeld => ?_)
  ·(try dsimp only)
   exact ⟨W9.out.h2.four.1, W9.out.h2.four.2.1, W9.out.h2.four.2.2.1, W9.out.h2.four.2.2.2⟩
  clear hK K
  (try simp only [Act.put, gA, gB, gC, sA, sB, sC])
  refine dnz ?_
  obtain ⟨z0, z1⟩ := W9.out.h0.two
  obtain ⟨y0, y1⟩ := W9.out.h1.two
  obtain ⟨x0, x1, x2, x3⟩ := W9.out.h2.four
  go_wp2_with fail
  refine (spFree_c hn (by omega) ((f : Int) - 1) ((dv + (m : Int)) + dw) W9.out.at_).mono ?_; rintro e w10 ⟨rfl, h1, h2⟩; have W10 := hidp (W9.out.call h1 h2); clear h1 h2 W9
  obtain ⟨z0, z1⟩ := W10.out.h0.two
  obtain ⟨y0, y1⟩ := W10.out.h1.two
  obtain ⟨x0, x1, x2, x3⟩ := W10.out.h2.four
  go_wp2_with fail
  refine (spCount_c hn (m : Int) W10.out.at_).mono ?_; rintro e w11 ⟨rfl, h1, h2⟩; have W11 := hidp (W10.out.call h1 h2); clear h1 h2 W10
  obtain ⟨z0, z1⟩ := W11.out.h0.two
  obtain ⟨y0, y1⟩ := W11.out.h1.two
  obtain ⟨x0, x1, x2, x3⟩ := W11.out.h2.four
  go_wp2
  go_end0
  exact ⟨rfl, W11.out.fin⟩

theorem dropV_few (p : Int) (st : Vst) : 0 <= dropV n K t q s p st /\ dropV n K t q s p st <= 1024 := by
 unfold dropV
 split
 ·obtain ⟨⟨kk, l, c, ok⟩, hI⟩ : ∃ x, infoOf n K t q s p st = x := ⟨_, rfl⟩
  rw [hI]
  by_cases h : kk = 1
  ·rw [if_pos h]
   unfold infoOf at hI
   rw [h] at hI
   exact infoG_len hI
  ·rw [if_neg h]; omega
 ·omega
theorem relL_zero {p : Nat} (h : p = 0) : relL n K t q s p st = (st, (p : Int), 0) := by unfold relL; rw [if_pos h]
theorem relL_no {p : Nat} (h : p ≠ 0) {f : Nat} (hf : getV n K st (pageI t q s ((p : Int) - 1) 1) = f) (hi : (infoOf n K t q s ((f : Int) - 1) (getS n K st (pageI t q s ((p : Int) - 1) 1))).1 ≠ 1) :
  relL n K t q s p st = (getS n K (getS n K st (pageI t q s ((p : Int) - 1) 1)) (pageI t q s ((f : Int) - 1) 0), (p : Int), 0) := by
 unfold relL
 rw [if_neg h]
 simp only [hf]
 rw [if_neg hi]
theorem relL_yes {p : Nat} (h : p ≠ 0) {f : Nat} (hf : getV n K st (pageI t q s ((p : Int) - 1) 1) = f) (hi : (infoOf n K t q s ((f : Int) - 1) (getS n K st (pageI t q s ((p : Int) - 1) 1))).1 = 1) :
  relL n K t q s p st = (putS n (putS n (dropS n K t q s ((f : Int) - 1) (getS n K (getS n K st (pageI t q s ((p : Int) - 1) 1)) (pageI t q s ((f : Int) - 1) 0))) (pageI t q s (p : Int) 0) 0) (pageI t q s ((p : Int) - 1) 1) 0, (f : Int) - 1, dropV n K t q s ((f : Int) - 1) (getS n K (getS n K st (pageI t q s ((p : Int) - 1) 1)) (pageI t q s ((f : Int) - 1) 0))) := by
 unfold relL
 rw [if_neg h]
 simp only [hf]
 rw [if_pos hi]
theorem relR_off {r : Nat} (h : ¬ (r : Int) < q) : relR n K t q s r st = (st, 0) := by unfold relR; rw [if_neg h]
theorem relR_no {r : Nat} (h : (r : Int) < q) (hi : (infoOf n K t q s (r : Int) st).1 ≠ 1) : relR n K t q s r st = (getS n K st (pageI t q s (r : Int) 0), 0) := by
 unfold relR
 rw [if_pos h]
 simp only
 rw [if_neg hi]
theorem relR_yes {r : Nat} (h : (r : Int) < q) (hi : (infoOf n K t q s (r : Int) st).1 = 1) :
  relR n K t q s r st = (putS n (putS n (dropS n K t q s (r : Int) (getS n K st (pageI t q s (r : Int) 0))) (pageI t q s (r : Int) 0) 0) (pageI t q s ((r : Int) - 1) 1) 0, dropV n K t q s (r : Int) (getS n K st (pageI t q s (r : Int) 0))) := by
 unfold relR
 rw [if_pos h]
 simp only
 rw [if_pos hi]
theorem releaseS_of {p m : Nat} {s1 s2 : Vst} {a l r x : Int} (hL : relL n K t q s p st = (s1, a, l)) (hR : relR n K t q s (p + m) s1 = (s2, r)) (hx : (m : Int) + l + r = x) :
  releaseS n K t q s p m st = putS n (getS n K (addS n K t q s a x s2) 0) 0 (add32 (getV n K (addS n K t q s a x s2) 0) (m : Int)) := by
 unfold releaseS moreS
 rw [hL]
 simp only
 rw [hR]
 simp only
 rw [hx]

theorem spRelease_c (hn : n < 2 ^ 40) (hq : q <= 1024) (p m : Nat) (hp : p <= 1024) (hm : m <= 1024) (h : (vOb base b n wh K).At w0 A G st w) :
  Calls Tryz.prog 89 #[.agg #[.pointer (some ⟨b, 0, none⟩), .int .i64 t, .int .i64 q, .int .i64 s], .agg #[.int .i64 (p : Int), .int .i64 (m : Int)]] w fun e w' => e = .returned (.tuple #[]) /\ (vOb base b n wh K).At w0 A G (releaseS n K t q s p m st) w' /\ Stay G w w' := by
 by_cases h0 : p = 0
 ·by_cases hr : ((p : Int) + (m : Int)) < q
  ·obtain ⟨⟨k2, l2, c2, o2⟩, hi2⟩ : ∃ x, infoOf n K t q s ((p : Int) + (m : Int)) st = x := ⟨_, rfl⟩
   by_cases h2 : k2 = 1
   ·have d2 := dropV_few (n := n) (K := K) (t := t) (q := q) (s := s) ((p : Int) + (m : Int)) (getS n K st (pageI t q s ((p : Int) + (m : Int)) 0))
    have hR := relR_yes (n := n) (K := K) (t := t) (q := q) (s := s) (r := p + m) (st := st) (by rw [Int.natCast_add]; exact hr) (by rw [Int.natCast_add, hi2]; exact h2)
    rw [Int.natCast_add] at hR
    rw [releaseS_of (relL_zero h0) hR (x := (m : Int) + dropV n K t q s ((p : Int) + (m : Int)) (getS n K st (pageI t q s ((p : Int) + (m : Int)) 0))) (by omega)]
    exact spRelease_0_yes hn hq p m hp hm h0 hr k2 l2 c2 o2 hi2 h2 _ rfl d2.1 d2.2 _ rfl h
   ·have hR := relR_no (n := n) (K := K) (t := t) (q := q) (s := s) (r := p + m) (st := st) (by rw [Int.natCast_add]; exact hr) (by rw [Int.natCast_add, hi2]; exact h2)
    rw [Int.natCast_add] at hR
    rw [releaseS_of (relL_zero h0) hR (x := (m : Int)) (by omega)]
    exact spRelease_0_no hn hq p m hp hm h0 hr k2 l2 c2 o2 hi2 h2 _ rfl h
  ·have hR := relR_off (n := n) (K := K) (t := t) (q := q) (s := s) (r := p + m) (st := st) (by rw [Int.natCast_add]; exact hr)
   rw [releaseS_of (relL_zero h0) hR (x := (m : Int)) (by omega)]
   exact spRelease_0_off hn hq p m hp hm h0 hr h
 ·obtain ⟨f, hf⟩ : ∃ f, getV n K st (pageI t q s ((p : Int) - 1) 1) = f := ⟨_, rfl⟩
  obtain ⟨⟨k1, l1, c1, o1⟩, hi1⟩ : ∃ x, infoOf n K t q s ((f : Int) - 1) (getS n K st (pageI t q s ((p : Int) - 1) 1)) = x := ⟨_, rfl⟩
  by_cases h1 : k1 = 1
  ·have d1 := dropV_few (n := n) (K := K) (t := t) (q := q) (s := s) ((f : Int) - 1) (getS n K (getS n K st (pageI t q s ((p : Int) - 1) 1)) (pageI t q s ((f : Int) - 1) 0))
   by_cases hr : ((p : Int) + (m : Int)) < q
   ·obtain ⟨⟨k2, l2, c2, o2⟩, hi2⟩ : ∃ x, infoOf n K t q s ((p : Int) + (m : Int)) (putS n (putS n (dropS n K t q s ((f : Int) - 1) (getS n K (getS n K st (pageI t q s ((p : Int) - 1) 1)) (pageI t q s ((f : Int) - 1) 0))) (pageI t q s (p : Int) 0) 0) (pageI t q s ((p : Int) - 1) 1) 0) = x := ⟨_, rfl⟩
    by_cases h2 : k2 = 1
    ·have d2 := dropV_few (n := n) (K := K) (t := t) (q := q) (s := s) ((p : Int) + (m : Int)) (getS n K (putS n (putS n (dropS n K t q s ((f : Int) - 1) (getS n K (getS n K st (pageI t q s ((p : Int) - 1) 1)) (pageI t q s ((f : Int) - 1) 0))) (pageI t q s (p : Int) 0) 0) (pageI t q s ((p : Int) - 1) 1) 0) (pageI t q s ((p : Int) + (m : Int)) 0))
     have hR := relR_yes (n := n) (K := K) (t := t) (q := q) (s := s) (r := p + m) (st := (putS n (putS n (dropS n K t q s ((f : Int) - 1) (getS n K (getS n K st (pageI t q s ((p : Int) - 1) 1)) (pageI t q s ((f : Int) - 1) 0))) (pageI t q s (p : Int) 0) 0) (pageI t q s ((p : Int) - 1) 1) 0)) (by rw [Int.natCast_add]; exact hr) (by rw [Int.natCast_add, hi2]; exact h2)
     rw [Int.natCast_add] at hR
     rw [releaseS_of (relL_yes h0 hf (by rw [hi1]; exact h1)) hR (x := (dropV n K t q s ((f : Int) - 1) (getS n K (getS n K st (pageI t q s ((p : Int) - 1) 1)) (pageI t q s ((f : Int) - 1) 0)) + (m : Int)) + dropV n K t q s ((p : Int) + (m : Int)) (getS n K (putS n (putS n (dropS n K t q s ((f : Int) - 1) (getS n K (getS n K st (pageI t q s ((p : Int) - 1) 1)) (pageI t q s ((f : Int) - 1) 0))) (pageI t q s (p : Int) 0) 0) (pageI t q s ((p : Int) - 1) 1) 0) (pageI t q s ((p : Int) + (m : Int)) 0))) (by omega)]
     exact spRelease_yes_yes hn hq p m hp hm h0 f hf k1 l1 c1 o1 hi1 h1 _ rfl d1.1 d1.2 _ rfl hr k2 l2 c2 o2 hi2 h2 _ rfl d2.1 d2.2 _ rfl h
    ·have hR := relR_no (n := n) (K := K) (t := t) (q := q) (s := s) (r := p + m) (st := (putS n (putS n (dropS n K t q s ((f : Int) - 1) (getS n K (getS n K st (pageI t q s ((p : Int) - 1) 1)) (pageI t q s ((f : Int) - 1) 0))) (pageI t q s (p : Int) 0) 0) (pageI t q s ((p : Int) - 1) 1) 0)) (by rw [Int.natCast_add]; exact hr) (by rw [Int.natCast_add, hi2]; exact h2)
     rw [Int.natCast_add] at hR
     rw [releaseS_of (relL_yes h0 hf (by rw [hi1]; exact h1)) hR (x := (dropV n K t q s ((f : Int) - 1) (getS n K (getS n K st (pageI t q s ((p : Int) - 1) 1)) (pageI t q s ((f : Int) - 1) 0)) + (m : Int))) (by omega)]
     exact spRelease_yes_no hn hq p m hp hm h0 f hf k1 l1 c1 o1 hi1 h1 _ rfl d1.1 d1.2 _ rfl hr k2 l2 c2 o2 hi2 h2 _ rfl h
   ·have hR := relR_off (n := n) (K := K) (t := t) (q := q) (s := s) (r := p + m) (st := (putS n (putS n (dropS n K t q s ((f : Int) - 1) (getS n K (getS n K st (pageI t q s ((p : Int) - 1) 1)) (pageI t q s ((f : Int) - 1) 0))) (pageI t q s (p : Int) 0) 0) (pageI t q s ((p : Int) - 1) 1) 0)) (by rw [Int.natCast_add]; exact hr)
    rw [releaseS_of (relL_yes h0 hf (by rw [hi1]; exact h1)) hR (x := (dropV n K t q s ((f : Int) - 1) (getS n K (getS n K st (pageI t q s ((p : Int) - 1) 1)) (pageI t q s ((f : Int) - 1) 0)) + (m : Int))) (by omega)]
    exact spRelease_yes_off hn hq p m hp hm h0 f hf k1 l1 c1 o1 hi1 h1 _ rfl d1.1 d1.2 _ rfl hr h
  ·by_cases hr : ((p : Int) + (m : Int)) < q
   ·obtain ⟨⟨k2, l2, c2, o2⟩, hi2⟩ : ∃ x, infoOf n K t q s ((p : Int) + (m : Int)) (getS n K (getS n K st (pageI t q s ((p : Int) - 1) 1)) (pageI t q s ((f : Int) - 1) 0)) = x := ⟨_, rfl⟩
    by_cases h2 : k2 = 1
    ·have d2 := dropV_few (n := n) (K := K) (t := t) (q := q) (s := s) ((p : Int) + (m : Int)) (getS n K (getS n K (getS n K st (pageI t q s ((p : Int) - 1) 1)) (pageI t q s ((f : Int) - 1) 0)) (pageI t q s ((p : Int) + (m : Int)) 0))
     have hR := relR_yes (n := n) (K := K) (t := t) (q := q) (s := s) (r := p + m) (st := (getS n K (getS n K st (pageI t q s ((p : Int) - 1) 1)) (pageI t q s ((f : Int) - 1) 0))) (by rw [Int.natCast_add]; exact hr) (by rw [Int.natCast_add, hi2]; exact h2)
     rw [Int.natCast_add] at hR
     rw [releaseS_of (relL_no h0 hf (by rw [hi1]; exact h1)) hR (x := (m : Int) + dropV n K t q s ((p : Int) + (m : Int)) (getS n K (getS n K (getS n K st (pageI t q s ((p : Int) - 1) 1)) (pageI t q s ((f : Int) - 1) 0)) (pageI t q s ((p : Int) + (m : Int)) 0))) (by omega)]
     exact spRelease_no_yes hn hq p m hp hm h0 f hf k1 l1 c1 o1 hi1 h1 _ rfl hr k2 l2 c2 o2 hi2 h2 _ rfl d2.1 d2.2 _ rfl h
    ·have hR := relR_no (n := n) (K := K) (t := t) (q := q) (s := s) (r := p + m) (st := (getS n K (getS n K st (pageI t q s ((p : Int) - 1) 1)) (pageI t q s ((f : Int) - 1) 0))) (by rw [Int.natCast_add]; exact hr) (by rw [Int.natCast_add, hi2]; exact h2)
     rw [Int.natCast_add] at hR
     rw [releaseS_of (relL_no h0 hf (by rw [hi1]; exact h1)) hR (x := (m : Int)) (by omega)]
     exact spRelease_no_no hn hq p m hp hm h0 f hf k1 l1 c1 o1 hi1 h1 _ rfl hr k2 l2 c2 o2 hi2 h2 _ rfl h
   ·have hR := relR_off (n := n) (K := K) (t := t) (q := q) (s := s) (r := p + m) (st := (getS n K (getS n K st (pageI t q s ((p : Int) - 1) 1)) (pageI t q s ((f : Int) - 1) 0))) (by rw [Int.natCast_add]; exact hr)
    rw [releaseS_of (relL_no h0 hf (by rw [hi1]; exact h1)) hR (x := (m : Int)) (by omega)]
    exact spRelease_no_off hn hq p m hp hm h0 f hf k1 l1 c1 o1 hi1 h1 _ rfl hr h

theorem snRelease_c (hn : n < 2 ^ 40) (hq : q <= 1024) (p m : Nat) (hp : p <= 1024) (hm : m <= 1024) (h : (vOb base b n wh K).At w0 A G st w) :
  Calls Tryz.prog 37 #[.pointer (some ⟨b, 0, none⟩), .agg #[.int .i64 t, .int .i64 q, .int .i64 s], .int .i64 (p : Int), .int .i64 (m : Int)] w fun e w' => e = .returned (.tuple #[]) /\ (vOb base b n wh K).At w0 A G (releaseS n K t q s p m st) w' /\ Stay G w w' := by
 have W0 := hidp ((WL.start h).new 23 #[.int .i64 t, .int .i64 q, .int .i64 s])
 clear h
 go_enter Tryz.func37, Tryz.ntmps37
 obtain ⟨x0, x1, x2⟩ := W0.out.h0.three
 go_wp2_with fail
 refine (spRelease_c hn hq p m hp hm W0.out.at_).mono ?_; rintro e w1 ⟨rfl, h1, h2⟩; have W1 := hidp (W0.out.call h1 h2); clear h1 h2 W0
 obtain ⟨x0, x1, x2⟩ := W1.out.h0.three
 go_wp2
 go_end0
 exact ⟨rfl, W1.out.fin⟩
end
end
end Go.Proofs.YtnmhdlpnimdffaaGreatDoor
