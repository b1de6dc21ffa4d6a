/-
  What bin.Add, and bin.Drop, of free spans do. Written by bin/gen_add.py.
-/
import Derived.Test.YtnmhdlpnimdffaaGreatDoorA08
import Derived.WalkMore
import Derived.Test.YtnmhdlpnimdffaaGreatDoorA06
import Derived.RegionTactic
namespace Go.Proofs.YtnmhdlpnimdffaaGreatDoor
open Go.ChangeShapes Go.WideShapes Go.ChangeAt Go.RowKit Go.Maps
set_option linter.unusedVariables false
set_option linter.unusedSimpArgs false
set_option maxRecDepth 100000
section
section
variable {base b n : Nat} {wh all : Bool} {K : Nat -> Option Nat} {st : Vst} {w w0 : World} {A G : Nat -> Prop} {t q s : Int}

theorem bnAdd_off (p nn : Int) (hp : pgB q p = false) (h : (vOb base b n wh K).At w0 A G st w) :
  Calls Tryz.prog 141 #[.pointer (some ⟨b, 0, none⟩), .agg #[.int .i64 t, .int .i64 q, .int .i64 s], .int .i64 p, .int .i64 nn] w fun e w' => e = .returned (.tuple #[]) /\ (vOb base b n wh K).At w0 A G (st) w' /\ Stay G w w' := by
 have W0 := hidp ((WL.start h).new 23 #[.int .i64 t, .int .i64 q, .int .i64 s])
 obtain ⟨x0, x1, x2⟩ := W0.out.h0.three
 have HK := hidp hp
 clear hp
 clear h
 go_enter Tryz.func141, Tryz.ntmps141
 go_wp2_with fail
 refine (bnIsPage_c t q s p _).mono ?_; rintro e w1 ⟨rfl, hb⟩; have W1 := hidp (W0.out.keep hb); clear hb W0; rw [HK.out]
 obtain ⟨x0, x1, x2⟩ := W1.out.h0.three
 go_wp2
 (try simp only [Exit.inBlock, Exit.then])
 refine bodyPost_ret (results_none rfl _ _ _) rfl ?_
 exact ⟨rfl, W1.out.fin⟩

theorem bnAdd_low (k : Nat) (nn : Int) (hq : q <= 2147483648) (hk : pgB q (k : Int) = true) (h1 : nn < 1) (h : (vOb base b n wh K).At w0 A G st w) :
  Calls Tryz.prog 141 #[.pointer (some ⟨b, 0, none⟩), .agg #[.int .i64 t, .int .i64 q, .int .i64 s], .int .i64 (k : Int), .int .i64 nn] w fun e w' => e = .returned (.tuple #[]) /\ (vOb base b n wh K).At w0 A G (st) w' /\ Stay G w w' := by
 have W0 := hidp ((WL.start h).new 23 #[.int .i64 t, .int .i64 q, .int .i64 s])
 obtain ⟨x0, x1, x2⟩ := W0.out.h0.three
 have hk2 := (pgB_iff _ _).1 hk
 have hk31 : k < 2147483648 := by omega
 have sq : IntKind.i64.wrap (q - (k : Int)) = q - (k : Int) := i64_same (by omega) (by omega)
 have HK := hidp hk
 clear hk
 have t0 : decide (nn < (1 : Int)) = true := decide_eq_true (by omega)
 clear h
 go_enter Tryz.func141, Tryz.ntmps141
 go_wp2_with fail
 refine (bnIsPage_c t q s (k : Int) _).mono ?_; rintro e w1 ⟨rfl, hb⟩; have W1 := hidp (W0.out.keep hb); clear hb W0; rw [HK.out]
 obtain ⟨x0, x1, x2⟩ := W1.out.h0.three
 go_wp2
 (try simp only [Exit.inBlock, Exit.then])
 refine bodyPost_ret (results_none rfl _ _ _) rfl ?_
 exact ⟨rfl, W1.out.fin⟩

theorem bnAdd_high (k : Nat) (nn : Int) (hq : q <= 2147483648) (hk : pgB q (k : Int) = true) (h1 : 1 <= nn) (h2 : q - (k : Int) < nn) (h : (vOb base b n wh K).At w0 A G st w) :
  Calls Tryz.prog 141 #[.pointer (some ⟨b, 0, none⟩), .agg #[.int .i64 t, .int .i64 q, .int .i64 s], .int .i64 (k : Int), .int .i64 nn] w fun e w' => e = .returned (.tuple #[]) /\ (vOb base b n wh K).At w0 A G (st) w' /\ Stay G w w' := by
 have W0 := hidp ((WL.start h).new 23 #[.int .i64 t, .int .i64 q, .int .i64 s])
 obtain ⟨x0, x1, x2⟩ := W0.out.h0.three
 have hk2 := (pgB_iff _ _).1 hk
 have hk31 : k < 2147483648 := by omega
 have sq : IntKind.i64.wrap (q - (k : Int)) = q - (k : Int) := i64_same (by omega) (by omega)
 have HK := hidp hk
 clear hk
 have t0 : decide (nn < (1 : Int)) = false := decide_eq_false (by omega)
 have t1 : decide (q - (k : Int) < nn) = true := decide_eq_true (by omega)
 clear h
 go_enter Tryz.func141, Tryz.ntmps141
 go_wp2_with fail
 refine (bnIsPage_c t q s (k : Int) _).mono ?_; rintro e w1 ⟨rfl, hb⟩; have W1 := hidp (W0.out.keep hb); clear hb W0; rw [HK.out]
 obtain ⟨x0, x1, x2⟩ := W1.out.h0.three
 go_wp2
 (try simp only [Exit.inBlock, Exit.then])
 refine bodyPost_ret (results_none rfl _ _ _) rfl ?_
 exact ⟨rfl, W1.out.fin⟩

set_option maxHeartbeats 3200000 in
theorem bnAdd_yes (hn : n < 2 ^ 40) (k m : Nat) (hq : q <= 2147483648) (hk : pgB q (k : Int) = true) (h1 : 1 <= (m : Int)) (h2 : (m : Int) <= q - (k : Int)) (h : (vOb base b n wh K).At w0 A G st w) :
  Calls Tryz.prog 141 #[.pointer (some ⟨b, 0, none⟩), .agg #[.int .i64 t, .int .i64 q, .int .i64 s], .int .i64 (k : Int), .int .i64 (m : Int)] w fun e w' => e = .returned (.tuple #[]) /\ (vOb base b n wh K).At w0 A G (addS n K t q s (k : Int) (m : Int) st) w' /\ Stay G w w' := by
 have W0 := hidp ((WL.start h).new 23 #[.int .i64 t, .int .i64 q, .int .i64 s])
 obtain ⟨x0, x1, x2⟩ := W0.out.h0.three
 have t0 : decide ((m : Int) < (1 : Int)) = false := decide_eq_false (by omega)
 have t1 : decide (q - (k : Int) < (m : Int)) = false := decide_eq_false (by omega)
 have hm31 : m <= 2147483648 := by omega
 have sk : IntKind.u32.wrap ((k : Int) + 1) = ((k + 1 : Nat) : Int) := by have := wrap_nat32 (k + 1) (by omega); simpa using this
 have HIV := hidp (infoV_lt 1 (m : Int) 0)
 have HE : Hid (addS n K t q s (k : Int) (m : Int) st = pushI n K t q s (nthI 2 11 1 (ofI (m : Int))) (k : Int) (putS n (putS n st (pageI t q s (k : Int) 0) (infoV 1 (m : Int) 0)) (pageI t q s ((k : Int) + (m : Int) - 1) 1) (k + 1))) := hidp (addS_yes ⟨hk, h1, h2⟩)
 have hk2 := (pgB_iff _ _).1 hk
 have hk31 : k < 2147483648 := by omega
 have sq : IntKind.i64.wrap (q - (k : Int)) = q - (k : Int) := i64_same (by omega) (by omega)
 have HK := hidp hk
 clear hk
 clear h
 go_enter Tryz.func141, Tryz.ntmps141
 go_wp2_with fail
 refine (bnIsPage_c t q s (k : Int) _).mono ?_; rintro e w1 ⟨rfl, hb⟩; have W1 := hidp (W0.out.keep hb); clear hb W0; rw [HK.out]
 obtain ⟨x0, x1, x2⟩ := W1.out.h0.three
 go_wp2_with fail
 refine (inPut_c 1 (m : Int) 0 _).mono ?_; rintro e w2 ⟨rfl, hb⟩; have W2 := hidp (W1.out.keep hb); clear hb W1
 obtain ⟨x0, x1, x2⟩ := W2.out.h0.three
 go_wp2_with fail
 refine (plInfo_c t q s (k : Int) _).mono ?_; rintro e w3 ⟨rfl, hb⟩; have W3 := hidp (W2.out.keep hb); clear hb W2
 obtain ⟨x0, x1, x2⟩ := W3.out.h0.three
 go_wp2_with fail
 refine (vPutA hn _ _ HIV.out W3.out.at_).mono ?_; rintro e w4 ⟨rfl, h1, h2⟩; have W4 := hidp (W3.out.call h1 h2); clear h1 h2 W3
 obtain ⟨x0, x1, x2⟩ := W4.out.h0.three
 go_wp2_with fail
 refine (plFoot_c t q s ((k : Int) + (m : Int) - 1) _).mono ?_; rintro e w5 ⟨rfl, hb⟩; have W5 := hidp (W4.out.keep hb); clear hb W4
 obtain ⟨x0, x1, x2⟩ := W5.out.h0.three
 go_wp2_with fail
 refine (vPutA hn _ (k + 1) (by omega) W5.out.at_).mono ?_; rintro e w6 ⟨rfl, h1, h2⟩; have W6 := hidp (W5.out.call h1 h2); clear h1 h2 W5
 obtain ⟨x0, x1, x2⟩ := W6.out.h0.three
 go_wp2_with fail
 refine wp_region_held_drew (S := (fun w' => w'.cell? ⟨w.heap.size, 0, none⟩ = some (.int .i64 t) /\ w'.cell? ⟨w.heap.size, 1, none⟩ = some (.int .i64 q) /\ w'.cell? ⟨w.heap.size, 2, none⟩ = some (.int .i64 s))) (by kernel_rfl) ?_ (fun hHeld => ?_)
 ·(try dsimp only)
  first | exact W6.out.drew.h0.three | exact W6.out.h0.three | exact W7.out.h0.three | exact hHeld
 refine tkz 0 ?_
 refine tkz 1 ?_
 refine tkz 2 ?_
 refine tkz 5 ?_
 refine rdz 3 fun K hK => ?_
 go_simp
 refine (bnOf_c (m : Int) (by omega) (by omega) _).mono ?_; rintro e w9 ⟨rfl, rfl⟩
 refine hK.out _ _ ?_ (fun hHeld => ?_)
 ·(try dsimp only)
  first | exact W6.out.drew.h0.three | exact W6.out.h0.three | exact W7.out.h0.three | exact hHeld
 clear hK K
 (try simp only [Act.put, gA, gB, gC, sA, sB, sC])
 refine rdz 4 fun K hK => ?_
 go_simp
 refine (plBin_c (ofI (m : Int)) _).mono ?_; rintro e w9 ⟨rfl, rfl⟩
 refine hK.out _ _ ?_ (fun hHeld => ?_)
 ·(try dsimp only)
  first | exact W6.out.drew.h0.three | exact W6.out.h0.three | exact W7.out.h0.three | exact hHeld
 clear hK K
 (try simp only [Act.put, gA, gB, gC, sA, sB, sC])
 refine rdz 6 fun K hK => ?_
 go_simp
 refine (lkPush_c hn (by omega) (k : Int) W6.out.drew.at_).mono ?_; rintro e w7 ⟨rfl, h1, h2⟩; have W7 := hidp (W6.out.drew.call h1 h2); clear h1 h2 W6
 refine hK.out _ _ ?_ (fun hHeld => ?_)
 ·(try dsimp only)
  first | exact W6.out.drew.h0.three | exact W6.out.h0.three | exact W7.out.h0.three | exact hHeld
 clear hK K
 (try simp only [Act.put, gA, gB, gC, sA, sB, sC])
 refine dnz ?_
 obtain ⟨x0, x1, x2⟩ := W7.out.h0.three
 go_wp2
 go_end0
 exact ⟨rfl, by rw [HE.out]; exact W7.out.fin⟩

theorem bnAdd_c (hn : n < 2 ^ 40) (hq : q <= 2147483648) (p nn : Int) (h : (vOb base b n wh K).At w0 A G st w) :
  Calls Tryz.prog 141 #[.pointer (some ⟨b, 0, none⟩), .agg #[.int .i64 t, .int .i64 q, .int .i64 s], .int .i64 p, .int .i64 nn] w fun e w' => e = .returned (.tuple #[]) /\ (vOb base b n wh K).At w0 A G (addS n K t q s p nn st) w' /\ Stay G w w' := by
 cases hp : pgB q p with
 | false => rw [addS_no (by rw [hp]; simp)]; exact bnAdd_off p nn hp h
 | true =>
  have h1 := (pgB_iff _ _).1 hp
  obtain ⟨k, rfl⟩ := Int.eq_ofNat_of_zero_le h1.1
  by_cases h2 : nn < 1
  ·rw [addS_no (by omega)]; exact bnAdd_low k nn hq hp h2 h
  ·by_cases h3 : q - (k : Int) < nn
   ·rw [addS_no (by omega)]; exact bnAdd_high k nn hq hp (by omega) h3 h
   ·obtain ⟨m, rfl⟩ := Int.eq_ofNat_of_zero_le (show 0 <= nn by omega)
    exact bnAdd_yes hn k m hq hp (by omega) (by omega) h

theorem bnDrop_off (p : Int) (hp : pgB q p = false) (h : (vOb base b n wh K).At w0 A G st w) :
  Calls Tryz.prog 140 #[.pointer (some ⟨b, 0, none⟩), .agg #[.int .i64 t, .int .i64 q, .int .i64 s], .int .i64 p] w fun e w' => e = .returned (.int .i64 0) /\ (vOb base b n wh K).At w0 A G (st) w' /\ Stay G w w' := by
 have W0 := hidp ((WL.start h).new 23 #[.int .i64 t, .int .i64 q, .int .i64 s])
 obtain ⟨x0, x1, x2⟩ := W0.out.h0.three
 have HK := hidp hp
 clear hp
 clear h
 go_enter Tryz.func140, Tryz.ntmps140
 go_wp2_with fail
 refine (bnIsPage_c t q s p _).mono ?_; rintro e w1 ⟨rfl, hb⟩; have W1 := hidp (W0.out.keep hb); clear hb W0; rw [HK.out]
 obtain ⟨x0, x1, x2⟩ := W1.out.h0.three
 go_wp2
 go_ret
 exact ⟨rfl, W1.out.fin⟩

theorem bnDrop_none (hn : n < 2 ^ 40) (k : Nat) (hq : q <= 2147483648) (hk : pgB q (k : Int) = true) (kk l c : Int) (ok : Bool) (hI : infoOf n K t q s (k : Int) st = (kk, l, c, ok)) (h1 : kk ≠ 1) (h : (vOb base b n wh K).At w0 A G st w) :
  Calls Tryz.prog 140 #[.pointer (some ⟨b, 0, none⟩), .agg #[.int .i64 t, .int .i64 q, .int .i64 s], .int .i64 (k : Int)] w fun e w' => e = .returned (.int .i64 0) /\ (vOb base b n wh K).At w0 A G (getS n K st (pageI t q s (k : Int) 0)) w' /\ Stay G w w' := by
 have W0 := hidp ((WL.start h).new 23 #[.int .i64 t, .int .i64 q, .int .i64 s])
 obtain ⟨x0, x1, x2⟩ := W0.out.h0.three
 have hk2 := (pgB_iff _ _).1 hk
 have hk31 : k < 2147483648 := by omega
 have sq : IntKind.i64.wrap (q - (k : Int)) = q - (k : Int) := i64_same (by omega) (by omega)
 have HK := hidp hk
 clear hk
 have t0 : (kk == 1) = false := by simpa using h1
 have t1 : (kk != 1) = true := by simpa using h1
 have HI := hidp hI
 clear hI
 clear h
 go_enter Tryz.func140, Tryz.ntmps140
 go_wp2_with fail
 refine (bnIsPage_c t q s (k : Int) _).mono ?_; rintro e w1 ⟨rfl, hb⟩; have W1 := hidp (W0.out.keep hb); clear hb W0; rw [HK.out]
 obtain ⟨x0, x1, x2⟩ := W1.out.h0.three
 go_wp2_with fail
 refine (bnBegins_c hn (k : Int) kk l c ok HI.out W1.out.at_).mono ?_; rintro e w2 ⟨rfl, h1, h2⟩; have W2 := hidp (W1.out.call h1 h2); clear h1 h2 W1
 replace W2 := hidp (W2.out.new 68 #[.int .i64 kk, .int .i64 l, .int .i64 c])
 obtain ⟨x0, x1, x2⟩ := W2.out.h1.three
 obtain ⟨y0, y1, y2⟩ := W2.out.h0.three
 go_wp2
 go_ret
 exact ⟨rfl, W2.out.fin⟩

set_option maxHeartbeats 3200000 in
theorem bnDrop_yes (hn : n < 2 ^ 40) (k : Nat) (hq : q <= 2147483648) (hk : pgB q (k : Int) = true) (kk l c : Int) (ok : Bool) (hI : infoOf n K t q s (k : Int) st = (kk, l, c, ok)) (h1 : kk = 1) (hl0 : 0 <= l) (hl1 : l <= 1024) (h : (vOb base b n wh K).At w0 A G st w) :
  Calls Tryz.prog 140 #[.pointer (some ⟨b, 0, none⟩), .agg #[.int .i64 t, .int .i64 q, .int .i64 s], .int .i64 (k : Int)] w fun e w' => e = .returned (.int .i64 l) /\ (vOb base b n wh K).At w0 A G (pullI n K t q s (nthI 2 11 1 (ofI l)) (k : Int) (getS n K st (pageI t q s (k : Int) 0))) w' /\ Stay G w w' := by
 have W0 := hidp ((WL.start h).new 23 #[.int .i64 t, .int .i64 q, .int .i64 s])
 obtain ⟨x0, x1, x2⟩ := W0.out.h0.three
 have hk2 := (pgB_iff _ _).1 hk
 have hk31 : k < 2147483648 := by omega
 have sq : IntKind.i64.wrap (q - (k : Int)) = q - (k : Int) := i64_same (by omega) (by omega)
 have HK := hidp hk
 clear hk
 subst h1
 have HI := hidp hI
 clear hI
 clear h
 go_enter Tryz.func140, Tryz.ntmps140
 go_wp2_with fail
 refine (bnIsPage_c t q s (k : Int) _).mono ?_; rintro e w1 ⟨rfl, hb⟩; have W1 := hidp (W0.out.keep hb); clear hb W0; rw [HK.out]
 obtain ⟨x0, x1, x2⟩ := W1.out.h0.three
 go_wp2_with fail
 refine (bnBegins_c hn (k : Int) 1 l c ok HI.out W1.out.at_).mono ?_; rintro e w2 ⟨rfl, h1, h2⟩; have W2 := hidp (W1.out.call h1 h2); clear h1 h2 W1
 generalize hNI : w2.heap.size = NI at *
 replace W2 := hidp (W2.out.new 68 #[.int .i64 1, .int .i64 l, .int .i64 c])
 rw [hNI] at W2
 obtain ⟨x0, x1, x2⟩ := W2.out.h1.three
 obtain ⟨y0, y1, y2⟩ := W2.out.h0.three
 go_wp2_with fail
 refine wp_region_held_drew (S := (fun w' => w'.cell? ⟨w.heap.size, 0, none⟩ = some (.int .i64 t) /\ w'.cell? ⟨w.heap.size, 1, none⟩ = some (.int .i64 q) /\ w'.cell? ⟨w.heap.size, 2, none⟩ = some (.int .i64 s) /\ w'.cell? ⟨NI, 1, none⟩ = some (.int .i64 l))) (by kernel_rfl) ?_ (fun hHeld => ?_)
 ·(try dsimp only)
  first | exact ⟨W2.out.drew.h1.three.1, W2.out.drew.h1.three.2.1, W2.out.drew.h1.three.2.2, W2.out.drew.h0.three.2.1⟩ | exact ⟨W2.out.h1.three.1, W2.out.h1.three.2.1, W2.out.h1.three.2.2, W2.out.h0.three.2.1⟩ | exact ⟨W3.out.h1.three.1, W3.out.h1.three.2.1, W3.out.h1.three.2.2, W3.out.h0.three.2.1⟩ | exact hHeld
 refine tkz 0 ?_
 refine tkz 1 ?_
 refine tkz 2 ?_
 refine tkz 3 ?_
 refine tkz 6 ?_
 refine rdz 4 fun K hK => ?_
 go_simp
 refine (bnOf_c l (by omega) (by omega) _).mono ?_; rintro e w9 ⟨rfl, rfl⟩
 refine hK.out _ _ ?_ (fun hHeld => ?_)
 ·(try dsimp only)
  first | exact ⟨W2.out.drew.h1.three.1, W2.out.drew.h1.three.2.1, W2.out.drew.h1.three.2.2, W2.out.drew.h0.three.2.1⟩ | exact ⟨W2.out.h1.three.1, W2.out.h1.three.2.1, W2.out.h1.three.2.2, W2.out.h0.three.2.1⟩ | exact ⟨W3.out.h1.three.1, W3.out.h1.three.2.1, W3.out.h1.three.2.2, W3.out.h0.three.2.1⟩ | exact hHeld
 clear hK K
 (try simp only [Act.put, gA, gB, gC, sA, sB, sC])
 refine rdz 5 fun K hK => ?_
 go_simp
 refine (plBin_c (ofI l) _).mono ?_; rintro e w9 ⟨rfl, rfl⟩
 refine hK.out _ _ ?_ (fun hHeld => ?_)
 ·(try dsimp only)
  first | exact ⟨W2.out.drew.h1.three.1, W2.out.drew.h1.three.2.1, W2.out.drew.h1.three.2.2, W2.out.drew.h0.three.2.1⟩ | exact ⟨W2.out.h1.three.1, W2.out.h1.three.2.1, W2.out.h1.three.2.2, W2.out.h0.three.2.1⟩ | exact ⟨W3.out.h1.three.1, W3.out.h1.three.2.1, W3.out.h1.three.2.2, W3.out.h0.three.2.1⟩ | exact hHeld
 clear hK K
 (try simp only [Act.put, gA, gB, gC, sA, sB, sC])
 refine rdz 7 fun K hK => ?_
 go_simp
 refine (lkPull_c hn (by omega) (k : Int) W2.out.drew.at_).mono ?_; rintro e w3 ⟨rfl, h1, h2⟩; have W3 := hidp (W2.out.drew.call h1 h2); clear h1 h2 W2
 refine hK.out _ _ ?_ (fun hHeld => ?_)
 ·(try dsimp only)
  first | exact ⟨W2.out.drew.h1.three.1, W2.out.drew.h1.three.2.1, W2.out.drew.h1.three.2.2, W2.out.drew.h0.three.2.1⟩ | exact ⟨W2.out.h1.three.1, W2.out.h1.three.2.1, W2.out.h1.three.2.2, W2.out.h0.three.2.1⟩ | exact ⟨W3.out.h1.three.1, W3.out.h1.three.2.1, W3.out.h1.three.2.2, W3.out.h0.three.2.1⟩ | exact hHeld
 clear hK K
 (try simp only [Act.put, gA, gB, gC, sA, sB, sC])
 refine dnz ?_
 obtain ⟨x0, x1, x2⟩ := W3.out.h1.three
 obtain ⟨y0, y1, y2⟩ := W3.out.h0.three
 go_wp2
 go_ret
 exact ⟨rfl, W3.out.fin⟩

theorem bnDrop_c (hn : n < 2 ^ 40) (hq : q <= 2147483648) (p : Int) (h : (vOb base b n wh K).At w0 A G st w) :
  Calls Tryz.prog 140 #[.pointer (some ⟨b, 0, none⟩), .agg #[.int .i64 t, .int .i64 q, .int .i64 s], .int .i64 p] w fun e w' => e = .returned (.int .i64 (dropV n K t q s p st)) /\ (vOb base b n wh K).At w0 A G (dropS n K t q s p st) w' /\ Stay G w w' := by
 unfold dropS dropV
 cases hp : pgB q p with
 | false => exact bnDrop_off p hp h
 | true =>
  have h1 := (pgB_iff _ _).1 hp
  obtain ⟨k, rfl⟩ := Int.eq_ofNat_of_zero_le h1.1
  obtain ⟨⟨kk, l, c, ok⟩, hI⟩ : ∃ x, infoOf n K t q s (k : Int) st = x := ⟨_, rfl⟩
  rw [hI]
  simp only [if_true]
  by_cases h2 : kk = 1
  ·rw [if_pos h2, if_pos h2]
   have h3 : 0 <= l /\ l <= 1024 := by
    unfold infoOf at hI
    rw [h2] at hI
    exact infoG_len hI
   exact bnDrop_yes hn k hq hp kk l c ok hI h2 h3.1 h3.2 h
  ·rw [if_neg h2, if_neg h2]
   exact bnDrop_none hn k hq hp kk l c ok hI h2 h
end
end
section
theorem wrap_add32 (a : Nat) (m : Int) : IntKind.u32.wrap ((a : Int) + IntKind.u32.wrap m) = ((add32 a m : Nat) : Int) := by
 unfold add32
 have h0 := Int.emod_nonneg ((a : Int) + m) (show (4294967296 : Int) ≠ 0 by omega)
 rw [Int.toNat_of_nonneg h0]
 show ((a : Int) + m % 4294967296) % 4294967296 = _
 omega
theorem spBehind_c (p n : Int) (h : IntKind.i64.wrap (p + n) = p + n) (w : World) :
  Calls Tryz.prog 129 #[.agg #[.int .i64 p, .int .i64 n]] w fun e w' => e = .returned (.int .i64 (p + n)) /\ Below w.heap.size w w' := by
 obtain ⟨x0, x1⟩ := (Held.new w 130 #[.int .i64 p, .int .i64 n]).two
 go_enter Tryz.func129, Tryz.ntmps129
 go_wp2
 go_ret
 exact ⟨rfl, Bnew (B0 _) _⟩
end
section
section
variable {base b n : Nat} {wh all : Bool} {K : Nat -> Option Nat} {st : Vst} {w w0 : World} {A G : Nat -> Prop} {t q s : Int}

theorem spFree_c (hn : n < 2 ^ 40) (hq : q <= 2147483648) (p m : Int) (h : (vOb base b n wh K).At w0 A G st w) :
  Calls Tryz.prog 130 #[.agg #[.pointer (some ⟨b, 0, none⟩), .int .i64 t, .int .i64 q, .int .i64 s], .agg #[.int .i64 p, .int .i64 m]] w fun e w' => e = .returned (.tuple #[]) /\ (vOb base b n wh K).At w0 A G (addS n K t q s p m st) w' /\ Stay G w w' := by
 have W0 := hidp (((WL.start h).new 127 #[.pointer (some ⟨b, 0, none⟩), .int .i64 t, .int .i64 q, .int .i64 s]).new 130 #[.int .i64 p, .int .i64 m])
 rw [World.size_alloc] at W0
 clear h
 go_enter Tryz.func130, Tryz.ntmps130
 obtain ⟨x0, x1, x2, x3⟩ := W0.out.h1.four
 obtain ⟨y0, y1⟩ := W0.out.h0.two
 go_wp2_with fail
 refine (bnAdd_c hn hq p m W0.out.at_).mono ?_; rintro e w1 ⟨rfl, h1, h2⟩; have W1 := hidp (W0.out.call h1 h2); clear h1 h2 W0
 obtain ⟨x0, x1, x2, x3⟩ := W1.out.h1.four
 obtain ⟨y0, y1⟩ := W1.out.h0.two
 go_wp2
 go_end0
 exact ⟨rfl, W1.out.fin⟩

set_option maxHeartbeats 3200000 in
theorem spCount_c (hn : n < 2 ^ 40) (m : Int) (h : (vOb base b n wh K).At w0 A G st w) :
  Calls Tryz.prog 131 #[.agg #[.pointer (some ⟨b, 0, none⟩), .int .i64 t, .int .i64 q, .int .i64 s], .int .i64 m] w fun e w' => e = .returned (.tuple #[]) /\ (vOb base b n wh K).At w0 A G (putS n (getS n K st 0) 0 (add32 (getV n K st 0) m)) w' /\ Stay G w w' := by
 have W0 := hidp ((WL.start h).new 127 #[.pointer (some ⟨b, 0, none⟩), .int .i64 t, .int .i64 q, .int .i64 s])
 obtain ⟨v, hv⟩ : ∃ v, getV n K st 0 = v := ⟨_, rfl⟩
 have hv32 : v < 2 ^ 32 := by rw [<- hv]; exact vAt_lt h _
 have HV := hidp hv
 rw [hv]
 have HA := wrap_add32 v m
 have HL := add32_lt v m
 obtain ⟨x, hx⟩ : ∃ x, add32 v m = x := ⟨_, rfl⟩
 rw [hx] at HA HL ⊢
 have HX := hidp HL
 clear hv hx HL
 clear h
 go_enter Tryz.func131, Tryz.ntmps131
 obtain ⟨x0, x1, x2, x3⟩ := W0.out.h0.four
 go_wp2_with fail
 refine wp_region_held_drew (S := (fun w' => w'.cell? ⟨w.heap.size, 0, none⟩ = some (.pointer (some ⟨b, 0, none⟩)) /\ w'.cell? ⟨w.heap.size, 1, none⟩ = some (.int .i64 t) /\ w'.cell? ⟨w.heap.size, 2, none⟩ = some (.int .i64 q) /\ w'.cell? ⟨w.heap.size, 3, none⟩ = some (.int .i64 s))) (by kernel_rfl) ?_ (fun hHeld => ?_)
 ·(try dsimp only)
  first | exact W0.out.drew.h0.four | exact W0.out.h0.four | exact W1.out.h0.four | exact W2.out.h0.four | exact hHeld
 refine tkz 0 ?_
 refine tkz 1 ?_
 refine tkz 2 ?_
 refine tkz 3 ?_
 refine tkz 5 ?_
 refine tkz 6 ?_
 refine rdz 4 fun K hK => ?_
 go_simp
 refine (vGetA hn _ W0.out.drew.at_).mono ?_; rintro e w1 ⟨rfl, h1, h2⟩; have W1 := hidp (W0.out.drew.call h1 h2); clear h1 h2 W0; rw [HV.out]
 refine hK.out _ _ ?_ (fun hHeld => ?_)
 ·(try dsimp only)
  first | exact W0.out.drew.h0.four | exact W0.out.h0.four | exact W1.out.h0.four | exact W2.out.h0.four | exact hHeld
 clear hK K
 (try simp only [Act.put, gA, gB, gC, sA, sB, sC])
 refine tkz 7 ?_
 refine rdz 8 fun K hK => ?_
 go_simp
 refine (vPutA hn _ _ HX.out W1.out.at_).mono ?_; rintro e w2 ⟨rfl, h1, h2⟩; have W2 := hidp (W1.out.call h1 h2); clear h1 h2 W1
 refine hK.out _ _ ?_ (fun hHeld => ?_)
 ·(try dsimp only)
  first | exact W0.out.drew.h0.four | exact W0.out.h0.four | exact W1.out.h0.four | exact W2.out.h0.four | exact hHeld
 clear hK K
 (try simp only [Act.put, gA, gB, gC, sA, sB, sC])
 refine dnz ?_
 obtain ⟨x0, x1, x2, x3⟩ := W2.out.h0.four
 go_wp2
 go_end0
 exact ⟨rfl, W2.out.fin⟩

set_option maxHeartbeats 3200000 in
theorem spJoin_c (hn : n < 2 ^ 40) (hq : q <= 2147483648) (p r : Int) (hr : IntKind.i64.wrap (r - 1) = r - 1) (h : (vOb base b n wh K).At w0 A G st w) :
  Calls Tryz.prog 128 #[.agg #[.pointer (some ⟨b, 0, none⟩), .int .i64 t, .int .i64 q, .int .i64 s], .int .i64 p, .int .i64 r] w fun e w' => e = .returned (.int .i64 (dropV n K t q s p st)) /\ (vOb base b n wh K).At w0 A G (putS n (putS n (dropS n K t q s p st) (pageI t q s r 0) 0) (pageI t q s (r - 1) 1) 0) w' /\ Stay G w w' := by
 have W0 := hidp ((WL.start h).new 127 #[.pointer (some ⟨b, 0, none⟩), .int .i64 t, .int .i64 q, .int .i64 s])
 clear h
 go_enter Tryz.func128, Tryz.ntmps128
 obtain ⟨x0, x1, x2, x3⟩ := W0.out.h0.four
 go_wp2_with fail
 refine (bnDrop_c hn hq p W0.out.at_).mono ?_; rintro e w1 ⟨rfl, h1, h2⟩; have W1 := hidp (W0.out.call h1 h2); clear h1 h2 W0
 obtain ⟨x0, x1, x2, x3⟩ := W1.out.h0.four
 go_wp2_with fail
 refine wp_region_held_drew (S := (fun w' => w'.cell? ⟨w.heap.size, 0, none⟩ = some (.pointer (some ⟨b, 0, none⟩)) /\ w'.cell? ⟨w.heap.size, 1, none⟩ = some (.int .i64 t) /\ w'.cell? ⟨w.heap.size, 2, none⟩ = some (.int .i64 q) /\ w'.cell? ⟨w.heap.size, 3, none⟩ = some (.int .i64 s))) (by kernel_rfl) ?_ (fun hHeld => ?_)
 ·(try dsimp only)
  first | exact W1.out.drew.h0.four | exact W1.out.h0.four | exact W2.out.h0.four | exact W3.out.h0.four | exact hHeld
 refine tkz 0 ?_
 refine tkz 1 ?_
 refine tkz 2 ?_
 refine tkz 3 ?_
 refine tkz 4 ?_
 refine rdz 5 fun K hK => ?_
 go_simp
 refine (plInfo_c t q s r _).mono ?_; rintro e w2 ⟨rfl, hb⟩; have W2 := hidp (W1.out.drew.keep hb); clear hb W1
 refine hK.out _ _ ?_ (fun hHeld => ?_)
 ·(try dsimp only)
  first | exact W1.out.drew.h0.four | exact W1.out.h0.four | exact W2.out.h0.four | exact W3.out.h0.four | exact hHeld
 clear hK K
 (try simp only [Act.put, gA, gB, gC, sA, sB, sC])
 refine rdz 6 fun K hK => ?_
 go_simp
 refine (vPutA hn _ 0 (by omega) W2.out.at_).mono ?_; rintro e w3 ⟨rfl, h1, h2⟩; have W3 := hidp (W2.out.call h1 h2); clear h1 h2 W2
 refine hK.out _ _ ?_ (fun hHeld => ?_)
 ·(try dsimp only)
  first | exact W1.out.drew.h0.four | exact W1.out.h0.four | exact W2.out.h0.four | exact W3.out.h0.four | exact hHeld
 clear hK K
 (try simp only [Act.put, gA, gB, gC, sA, sB, sC])
 refine dnz ?_
 obtain ⟨x0, x1, x2, x3⟩ := W3.out.h0.four
 go_wp2_with fail
 refine wp_region_held_drew (S := (fun w' => w'.cell? ⟨w.heap.size, 0, none⟩ = some (.pointer (some ⟨b, 0, none⟩)) /\ w'.cell? ⟨w.heap.size, 1, none⟩ = some (.int .i64 t) /\ w'.cell? ⟨w.heap.size, 2, none⟩ = some (.int .i64 q) /\ w'.cell? ⟨w.heap.size, 3, none⟩ = some (.int .i64 s))) (by kernel_rfl) ?_ (fun hHeld => ?_)
 ·(try dsimp only)
  first | exact W3.out.drew.h0.four | exact W3.out.h0.four | exact W4.out.h0.four | exact W5.out.h0.four | exact hHeld
 refine tkz 0 ?_
 refine tkz 1 ?_
 refine tkz 2 ?_
 refine tkz 3 ?_
 refine tkz 4 ?_
 refine tkz 5 ?_
 refine rdz 6 fun K hK => ?_
 go_simp
 refine (plFoot_c t q s (r - 1) _).mono ?_; rintro e w4 ⟨rfl, hb⟩; have W4 := hidp (W3.out.drew.keep hb); clear hb W3
 refine hK.out _ _ ?_ (fun hHeld => ?_)
 ·(try dsimp only)
  first | exact W3.out.drew.h0.four | exact W3.out.h0.four | exact W4.out.h0.four | exact W5.out.h0.four | exact hHeld
 clear hK K
 (try simp only [Act.put, gA, gB, gC, sA, sB, sC])
 refine rdz 7 fun K hK => ?_
 go_simp
 refine (vPutA hn _ 0 (by omega) W4.out.at_).mono ?_; rintro e w5 ⟨rfl, h1, h2⟩; have W5 := hidp (W4.out.call h1 h2); clear h1 h2 W4
 refine hK.out _ _ ?_ (fun hHeld => ?_)
 ·(try dsimp only)
  first | exact W3.out.drew.h0.four | exact W3.out.h0.four | exact W4.out.h0.four | exact W5.out.h0.four | exact hHeld
 clear hK K
 (try simp only [Act.put, gA, gB, gC, sA, sB, sC])
 refine dnz ?_
 obtain ⟨x0, x1, x2, x3⟩ := W5.out.h0.four
 go_wp2
 go_ret
 exact ⟨rfl, W5.out.fin⟩

set_option maxHeartbeats 3200000 in
theorem spBegins_c (hn : n < 2 ^ 40) (p k l c : Int) (ok : Bool) (hI : infoOf n K t q s p st = (k, l, c, ok)) (h : (vOb base b n wh K).At w0 A G st w) :
  Calls Tryz.prog 127 #[.agg #[.pointer (some ⟨b, 0, none⟩), .int .i64 t, .int .i64 q, .int .i64 s], .int .i64 p] w fun e w' => e = .returned (.agg #[.int .i64 k, .int .i64 l, .int .i64 c]) /\ (vOb base b n wh K).At w0 A G (getS n K st (pageI t q s p 0)) w' /\ Stay G w w' := by
 have W0 := hidp (((WL.start h).new 127 #[.pointer (some ⟨b, 0, none⟩), .int .i64 t, .int .i64 q, .int .i64 s]).new 68 #[.int .i64 0, .int .i64 0, .int .i64 0])
 rw [World.size_alloc] at W0
 obtain ⟨v, hv⟩ : ∃ v, getV n K st (pageI t q s p 0) = v := ⟨_, rfl⟩
 have hv32 : v < 2 ^ 32 := by rw [<- hv]; exact vAt_lt h _
 have HI : Hid (infoG v = (k, l, c, ok)) := hidp (by rw [<- hv]; exact hI)
 have HV := hidp hv
 clear hI hv
 clear h
 go_enter Tryz.func127, Tryz.ntmps127
 obtain ⟨x0, x1, x2, x3⟩ := W0.out.h1.four
 go_wp2_with fail
 refine wp_region_held_drew (S := (fun w' => w'.cell? ⟨w.heap.size, 0, none⟩ = some (.pointer (some ⟨b, 0, none⟩)) /\ w'.cell? ⟨w.heap.size, 1, none⟩ = some (.int .i64 t) /\ w'.cell? ⟨w.heap.size, 2, none⟩ = some (.int .i64 q) /\ w'.cell? ⟨w.heap.size, 3, none⟩ = some (.int .i64 s))) (by kernel_rfl) ?_ (fun hHeld => ?_)
 ·(try dsimp only)
  exact W0.out.drew.h1.four
 have W1 := hidp W0.out.drew
 clear W0 x0 x1 x2 x3
 generalize hq0 : World.drew _ = q0 at W1 hHeld ⊢
 clear hq0
 refine tkz 0 ?_
 refine tkz 1 ?_
 refine tkz 2 ?_
 refine tkz 3 ?_
 refine tkz 4 ?_
 refine wpAnyH_ready (rs := [5, 11]) (by kernel_rfl) (by simp) ?_
 refine AllReadyH.cons (o := _) rfl (fun K hK => ?_) (AllReadyH.cons (o := _) rfl (fun K hK => ?_) AllReadyH.nil)
 ·skip
  go_simp
  refine (plInfo_c t q s p _).mono ?_; rintro e q1 ⟨rfl, hb⟩; have W2 := hidp (W1.out.keep hb); clear hb W1
  refine hK.out _ _ ?_ (fun hHeld => ?_)
  ·(try dsimp only)
   exact W2.out.h1.four
  clear hK K
  (try simp only [Act.put, gA, gB, gC, sA, sB, sC])
  refine wpAnyH_ready (rs := [6, 11]) (by kernel_rfl) (by simp) ?_
  refine AllReadyH.cons (o := _) rfl (fun K hK => ?_) (AllReadyH.cons (o := _) rfl (fun K hK => ?_) AllReadyH.nil)
  ·skip
   go_simp
   refine (vGetA hn _ W2.out.at_).mono ?_; rintro e q2 ⟨rfl, h1, h2⟩; have W3 := hidp (W2.out.call h1 h2); clear h1 h2 W2; rw [HV.out]
   refine hK.out _ _ ?_ (fun hHeld => ?_)
   ·(try dsimp only)
    exact W3.out.h1.four
   clear hK K
   (try simp only [Act.put, gA, gB, gC, sA, sB, sC])
   refine wpAnyH_ready (rs := [7, 11]) (by kernel_rfl) (by simp) ?_
   refine AllReadyH.cons (o := _) rfl (fun K hK => ?_) (AllReadyH.cons (o := _) rfl (fun K hK => ?_) AllReadyH.nil)
   ·skip
    go_simp
    refine (inGet_c v k l c ok hv32 HI.out _).mono ?_; rintro e q3 ⟨rfl, hb⟩; have W4 := hidp (W3.out.keep hb); clear hb W3
    refine hK.out _ _ ?_ (fun hHeld => ?_)
    ·(try dsimp only)
     exact W4.out.h1.four
    clear hK K
    (try simp only [Act.put, gA, gB, gC, sA, sB, sC])
    refine tkz 8 ?_
    refine tkz 9 ?_
    refine tkz 10 ?_
    refine rdz 11 fun K hK => ?_
    go_simp
    have W5 := hidp (W4.out.new 68 #[.int .i64 0, .int .i64 0, .int .i64 0])
    clear W4
    generalize hwq4 : (q3).alloc (.cells #[.int .i64 0, .int .i64 0, .int .i64 0] 68) = q4 at W5 ⊢
    clear hwq4
    refine hK.out _ _ ?_ (fun hHeld => ?_)
    ·(try dsimp only)
     exact W5.out.h2.four
    clear hK K
    (try simp only [Act.put, gA, gB, gC, sA, sB, sC])
    refine rdz 12 fun K hK => ?_
    obtain ⟨z0, z1, z2⟩ := W5.out.h0.three
    have f0 := W5.out.h0.thawed 0
    have f1 := W5.out.h0.thawed 1
    have f2 := W5.out.h0.thawed 2
    go_simp
    have W6 := hidp (((W5.out.put 0 (.int .i64 k)).put 1 (.int .i64 l)).put 2 (.int .i64 c))
    clear W5 z0 z1 z2 f0 f1 f2
    refine hK.out _ _ ?_ (fun hHeld => ?_)
    ·(try dsimp only)
     exact W6.out.h2.four
    clear hK K
    (try simp only [Act.put, gA, gB, gC, sA, sB, sC])
    refine tkz 13 ?_
    refine dnz ?_
    have W7 := hidp (((W6.out.swap.put 0 (.int .i64 k)).put 1 (.int .i64 l)).put 2 (.int .i64 c))
    obtain ⟨z0, z1, z2⟩ := W6.out.h0.three
    obtain ⟨y0, y1, y2⟩ := W6.out.h1.three
    have f0 := W6.out.h1.thawed 0
    have f1 := W6.out.h1.thawed 1
    have f2 := W6.out.h1.thawed 2
    obtain ⟨r0, r1, r2⟩ := W7.out.h0.three
    go_wp2
    refine bodyPost_ret (v := .agg #[.int .i64 k, .int .i64 l, .int .i64 c]) (by simp [results, Tryz.results127, go_sem, r0, r1, r2]) rfl ⟨rfl, ?_⟩
    exact W7.out.fin
   ·skip
    go_simp
    have W4 := hidp (W3.out.new 68 #[.int .i64 0, .int .i64 0, .int .i64 0])
    clear W3
    generalize hwq5 : (q2).alloc (.cells #[.int .i64 0, .int .i64 0, .int .i64 0] 68) = q5 at W4 ⊢
    clear hwq5
    refine hK.out _ _ ?_ (fun hHeld => ?_)
    ·(try dsimp only)
     exact W4.out.h2.four
    clear hK K
    (try simp only [Act.put, gA, gB, gC, sA, sB, sC])
    refine rdz 7 fun K hK => ?_
    go_simp
    refine (inGet_c v k l c ok hv32 HI.out _).mono ?_; rintro e q6 ⟨rfl, hb⟩; have W5 := hidp (W4.out.keep hb); clear hb W4
    refine hK.out _ _ ?_ (fun hHeld => ?_)
    ·(try dsimp only)
     exact W5.out.h2.four
    clear hK K
    (try simp only [Act.put, gA, gB, gC, sA, sB, sC])
    refine tkz 8 ?_
    refine tkz 9 ?_
    refine tkz 10 ?_
    refine rdz 12 fun K hK => ?_
    obtain ⟨z0, z1, z2⟩ := W5.out.h0.three
    have f0 := W5.out.h0.thawed 0
    have f1 := W5.out.h0.thawed 1
    have f2 := W5.out.h0.thawed 2
    go_simp
    have W6 := hidp (((W5.out.put 0 (.int .i64 k)).put 1 (.int .i64 l)).put 2 (.int .i64 c))
    clear W5 z0 z1 z2 f0 f1 f2
    refine hK.out _ _ ?_ (fun hHeld => ?_)
    ·(try dsimp only)
     exact W6.out.h2.four
    clear hK K
    (try simp only [Act.put, gA, gB, gC, sA, sB, sC])
    refine tkz 13 ?_
    refine dnz ?_
    have W7 := hidp (((W6.out.swap.put 0 (.int .i64 k)).put 1 (.int .i64 l)).put 2 (.int .i64 c))
    obtain ⟨z0, z1, z2⟩ := W6.out.h0.three
    obtain ⟨y0, y1, y2⟩ := W6.out.h1.three
    have f0 := W6.out.h1.thawed 0
    have f1 := W6.out.h1.thawed 1
    have f2 := W6.out.h1.thawed 2
    obtain ⟨r0, r1, r2⟩ := W7.out.h0.three
    go_wp2
    refine bodyPost_ret (v := .agg #[.int .i64 k, .int .i64 l, .int .i64 c]) (by simp [results, Tryz.results127, go_sem, r0, r1, r2]) rfl ⟨rfl, ?_⟩
    exact W7.out.fin
  ·skip
   go_simp
   have W3 := hidp (W2.out.new 68 #[.int .i64 0, .int .i64 0, .int .i64 0])
   clear W2
   generalize hwq7 : (q1).alloc (.cells #[.int .i64 0, .int .i64 0, .int .i64 0] 68) = q7 at W3 ⊢
   clear hwq7
   refine hK.out _ _ ?_ (fun hHeld => ?_)
   ·(try dsimp only)
    exact W3.out.h2.four
   clear hK K
   (try simp only [Act.put, gA, gB, gC, sA, sB, sC])
   refine rdz 6 fun K hK => ?_
   go_simp
   refine (vGetA hn _ W3.out.at_).mono ?_; rintro e q8 ⟨rfl, h1, h2⟩; have W4 := hidp (W3.out.call h1 h2); clear h1 h2 W3; rw [HV.out]
   refine hK.out _ _ ?_ (fun hHeld => ?_)
   ·(try dsimp only)
    exact W4.out.h2.four
   clear hK K
   (try simp only [Act.put, gA, gB, gC, sA, sB, sC])
   refine rdz 7 fun K hK => ?_
   go_simp
   refine (inGet_c v k l c ok hv32 HI.out _).mono ?_; rintro e q9 ⟨rfl, hb⟩; have W5 := hidp (W4.out.keep hb); clear hb W4
   refine hK.out _ _ ?_ (fun hHeld => ?_)
   ·(try dsimp only)
    exact W5.out.h2.four
   clear hK K
   (try simp only [Act.put, gA, gB, gC, sA, sB, sC])
   refine tkz 8 ?_
   refine tkz 9 ?_
   refine tkz 10 ?_
   refine rdz 12 fun K hK => ?_
   obtain ⟨z0, z1, z2⟩ := W5.out.h0.three
   have f0 := W5.out.h0.thawed 0
   have f1 := W5.out.h0.thawed 1
   have f2 := W5.out.h0.thawed 2
   go_simp
   have W6 := hidp (((W5.out.put 0 (.int .i64 k)).put 1 (.int .i64 l)).put 2 (.int .i64 c))
   clear W5 z0 z1 z2 f0 f1 f2
   refine hK.out _ _ ?_ (fun hHeld => ?_)
   ·(try dsimp only)
    exact W6.out.h2.four
   clear hK K
   (try simp only [Act.put, gA, gB, gC, sA, sB, sC])
   refine tkz 13 ?_
   refine dnz ?_
   have W7 := hidp (((W6.out.swap.put 0 (.int .i64 k)).put 1 (.int .i64 l)).put 2 (.int .i64 c))
   obtain ⟨z0, z1, z2⟩ := W6.out.h0.three
   obtain ⟨y0, y1, y2⟩ := W6.out.h1.three
   have f0 := W6.out.h1.thawed 0
   have f1 := W6.out.h1.thawed 1
   have f2 := W6.out.h1.thawed 2
   obtain ⟨r0, r1, r2⟩ := W7.out.h0.three
   go_wp2
   refine bodyPost_ret (v := .agg #[.int .i64 k, .int .i64 l, .int .i64 c]) (by simp [results, Tryz.results127, go_sem, r0, r1, r2]) rfl ⟨rfl, ?_⟩
   exact W7.out.fin
 ·skip
  go_simp
  have W2 := hidp (W1.out.new 68 #[.int .i64 0, .int .i64 0, .int .i64 0])
  clear W1
  generalize hwq10 : (q0).alloc (.cells #[.int .i64 0, .int .i64 0, .int .i64 0] 68) = q10 at W2 ⊢
  clear hwq10
  refine hK.out _ _ ?_ (fun hHeld => ?_)
  ·(try dsimp only)
   exact W2.out.h2.four
  clear hK K
  (try simp only [Act.put, gA, gB, gC, sA, sB, sC])
  refine rdz 5 fun K hK => ?_
  go_simp
  refine (plInfo_c t q s p _).mono ?_; rintro e q11 ⟨rfl, hb⟩; have W3 := hidp (W2.out.keep hb); clear hb W2
  refine hK.out _ _ ?_ (fun hHeld => ?_)
  ·(try dsimp only)
   exact W3.out.h2.four
  clear hK K
  (try simp only [Act.put, gA, gB, gC, sA, sB, sC])
  refine rdz 6 fun K hK => ?_
  go_simp
  refine (vGetA hn _ W3.out.at_).mono ?_; rintro e q12 ⟨rfl, h1, h2⟩; have W4 := hidp (W3.out.call h1 h2); clear h1 h2 W3; rw [HV.out]
  refine hK.out _ _ ?_ (fun hHeld => ?_)
  ·(try dsimp only)
   exact W4.out.h2.four
  clear hK K
  (try simp only [Act.put, gA, gB, gC, sA, sB, sC])
  refine rdz 7 fun K hK => ?_
  go_simp
  refine (inGet_c v k l c ok hv32 HI.out _).mono ?_; rintro e q13 ⟨rfl, hb⟩; have W5 := hidp (W4.out.keep hb); clear hb W4
  refine hK.out _ _ ?_ (fun hHeld => ?_)
  ·(try dsimp only)
   exact W5.out.h2.four
  clear hK K
  (try simp only [Act.put, gA, gB, gC, sA, sB, sC])
  refine tkz 8 ?_
  refine tkz 9 ?_
  refine tkz 10 ?_
  refine rdz 12 fun K hK => ?_
  obtain ⟨z0, z1, z2⟩ := W5.out.h0.three
  have f0 := W5.out.h0.thawed 0
  have f1 := W5.out.h0.thawed 1
  have f2 := W5.out.h0.thawed 2
  go_simp
  have W6 := hidp (((W5.out.put 0 (.int .i64 k)).put 1 (.int .i64 l)).put 2 (.int .i64 c))
  clear W5 z0 z1 z2 f0 f1 f2
  refine hK.out _ _ ?_ (fun hHeld => ?_)
  ·(try dsimp only)
   exact W6.out.h2.four
  clear hK K
  (try simp only [Act.put, gA, gB, gC, sA, sB, sC])
  refine tkz 13 ?_
  refine dnz ?_
  have W7 := hidp (((W6.out.swap.put 0 (.int .i64 k)).put 1 (.int .i64 l)).put 2 (.int .i64 c))
  obtain ⟨z0, z1, z2⟩ := W6.out.h0.three
  obtain ⟨y0, y1, y2⟩ := W6.out.h1.three
  have f0 := W6.out.h1.thawed 0
  have f1 := W6.out.h1.thawed 1
  have f2 := W6.out.h1.thawed 2
  obtain ⟨r0, r1, r2⟩ := W7.out.h0.three
  go_wp2
  refine bodyPost_ret (v := .agg #[.int .i64 k, .int .i64 l, .int .i64 c]) (by simp [results, Tryz.results127, go_sem, r0, r1, r2]) rfl ⟨rfl, ?_⟩
  exact W7.out.fin
end
end
end Go.Proofs.YtnmhdlpnimdffaaGreatDoor
