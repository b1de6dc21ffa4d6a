/-
  What slab's first, Pick and Give do. Written by slab/gen_top.py.
-/
import Derived.Test.YtioolaaphbddbaaGreatDoorP17
import Derived.Test.YtioolaaphbddbaaGreatDoorP16
namespace Go.Proofs.YtioolaaphbddbaaGreatDoor
open Go.ChangeShapes Go.WideShapes Go.ChangeAt Go.RowKit Go.Maps
set_option linter.unusedVariables false
set_option linter.unusedSimpArgs false
set_option maxRecDepth 100000
section
section
variable {base b n : Nat} {wh all : Bool} {K : Nat → Option Nat} {st : Vst} {w w0 : World} {A G : Nat → Prop} {t q s k : Int}

set_option maxHeartbeats 6400000 in
theorem sfFirst_rack (hn : n < 2 ^ 40) (hq : q ≤ 1024) (k0 : 0 ≤ k) (k8 : k ≤ 8) (r : Nat) (hr : getV n K st (13 + k) = r + 1) (h : (vOb base b n wh K).At w0 A G st w) :
    Calls Tryz.prog 37 #[.pointer (some ⟨b, 0, none⟩), .agg #[.int .i64 t, .int .i64 q, .int .i64 s], .int .i64 k] w fun e w' => e = .returned (.tuple #[.agg #[.pointer (some ⟨b, 0, none⟩), .int .i64 t, .int .i64 q, .int .i64 s, .int .i64 (r : Int), .int .i64 k], .bool true]) ∧ (vOb base b n wh K).At w0 A G (getS n K st (13 + k)) w' ∧ Stay G w w' := by
  have W0 := hidp (((WL.start h).new 23 #[.int .i64 t, .int .i64 q, .int .i64 s]).new 77 #[.pointer none, .int .i64 0, .int .i64 0, .int .i64 0, .int .i64 0, .int .i64 0])
  simp only [World.size_alloc] at W0
  have HRK := hidp (rack_at k0 k8)
  obtain ⟨rv, hrv⟩ : ∃ rv, r + 1 = rv := ⟨_, rfl⟩
  have hrl := vAt_lt h (13 + k)
  rw [hr, hrv] at hrl
  rw [hrv] at hr
  have HRV := hidp hr
  have er : (r : Int) = (rv : Int) - 1 := by omega
  rw [er]
  have t0 : ((rv : Int) != 0) = true := by simp; omega
  clear h hr er hrv
  go_enter Tryz.func37, Tryz.ntmps37
  obtain ⟨y0, y1, y2, y3, y4, y5⟩ := W0.out.h0.six'
  obtain ⟨x0, x1, x2⟩ := W0.out.h1.three
  go_wp2_with fail
  refine (plRack_c k _).mono ?_; rintro e w9 ⟨rfl, rfl⟩; rw [HRK.out]
  go_wp2_with fail
  refine (vGetA hn _ W0.out.at_).mono ?_; rintro e w1 ⟨rfl, h1, h2⟩; have W1 := hidp (W0.out.call h1 h2); clear h1 h2 W0; rw [HRV.out]
  obtain ⟨y0, y1, y2, y3, y4, y5⟩ := W1.out.h0.six'
  obtain ⟨x0, x1, x2⟩ := W1.out.h1.three
  obtain ⟨z0, z1, z2, z3, z4, z5⟩ := W1.out.h0.six'
  have f0 := W1.out.h0.thawed 0
  have f1 := W1.out.h0.thawed 1
  have f2 := W1.out.h0.thawed 2
  have f3 := W1.out.h0.thawed 3
  have f4 := W1.out.h0.thawed 4
  have f5 := W1.out.h0.thawed 5
  have W2 := hidp ((((((W1.out.put 0 (.pointer (some ⟨b, 0, none⟩))).put 1 (.int .i64 t)).put 2 (.int .i64 q)).put 3 (.int .i64 s)).put 4 (.int .i64 ((rv : Int) - 1))).put 5 (.int .i64 k))
  obtain ⟨r0, r1, r2, r3, r4, r5⟩ := W2.out.h0.six'
  go_wp2
  refine bodyPost_ret (v := .tuple #[.agg #[.pointer (some ⟨b, 0, none⟩), .int .i64 t, .int .i64 q, .int .i64 s, .int .i64 ((rv : Int) - 1), .int .i64 k], .bool true]) (by simp [results, Tryz.results37, go_sem, r0, r1, r2, r3, r4, r5]) rfl ⟨rfl, ?_⟩
  exact W2.out.fin

set_option maxHeartbeats 6400000 in
theorem sfFirst_none (hn : n < 2 ^ 40) (hq : q ≤ 1024) (k0 : 0 ≤ k) (k8 : k ≤ 8) (hr : getV n K st (13 + k) = 0) (s1 : Vst) (ht : takeI n K t q s 1 (getS n K st (13 + k)) = (none, s1)) (h : (vOb base b n wh K).At w0 A G st w) :
    Calls Tryz.prog 37 #[.pointer (some ⟨b, 0, none⟩), .agg #[.int .i64 t, .int .i64 q, .int .i64 s], .int .i64 k] w fun e w' => e = .returned (.tuple #[.agg #[.pointer none, .int .i64 0, .int .i64 0, .int .i64 0, .int .i64 0, .int .i64 0], .bool false]) ∧ (vOb base b n wh K).At w0 A G (s1) w' ∧ Stay G w w' := by
  have W0 := hidp (((WL.start h).new 23 #[.int .i64 t, .int .i64 q, .int .i64 s]).new 77 #[.pointer none, .int .i64 0, .int .i64 0, .int .i64 0, .int .i64 0, .int .i64 0])
  simp only [World.size_alloc] at W0
  have HRK := hidp (rack_at k0 k8)
  have HRV := hidp hr
  have HTK := hidp ht
  clear h hr ht
  go_enter Tryz.func37, Tryz.ntmps37
  obtain ⟨y0, y1, y2, y3, y4, y5⟩ := W0.out.h0.six'
  obtain ⟨x0, x1, x2⟩ := W0.out.h1.three
  go_wp2_with fail
  refine (plRack_c k _).mono ?_; rintro e w9 ⟨rfl, rfl⟩; rw [HRK.out]
  go_wp2_with fail
  refine (vGetA hn _ W0.out.at_).mono ?_; rintro e w1 ⟨rfl, h1, h2⟩; have W1 := hidp (W0.out.call h1 h2); clear h1 h2 W0; rw [HRV.out]
  obtain ⟨y0, y1, y2, y3, y4, y5⟩ := W1.out.h0.six'
  obtain ⟨x0, x1, x2⟩ := W1.out.h1.three
  go_wp2_with fail
  refine (snTake_c hn hq 1 W1.out.at_).mono ?_; rintro e w2 ⟨rfl, h1, h2⟩; have W2 := hidp (W1.out.call h1 h2); clear h1 h2 W1; rw [HTK.out] at W2 ⊢; dsimp only [foundI, Option.isSome] at W2 ⊢
  obtain ⟨y0, y1, y2, y3, y4, y5⟩ := W2.out.h0.six'
  obtain ⟨x0, x1, x2⟩ := W2.out.h1.three
  obtain ⟨z0, z1, z2, z3, z4, z5⟩ := W2.out.h0.six'
  have f0 := W2.out.h0.thawed 0
  have f1 := W2.out.h0.thawed 1
  have f2 := W2.out.h0.thawed 2
  have f3 := W2.out.h0.thawed 3
  have f4 := W2.out.h0.thawed 4
  have f5 := W2.out.h0.thawed 5
  have W3 := hidp ((((((W2.out.put 0 (.pointer none)).put 1 (.int .i64 0)).put 2 (.int .i64 0)).put 3 (.int .i64 0)).put 4 (.int .i64 0)).put 5 (.int .i64 0))
  obtain ⟨r0, r1, r2, r3, r4, r5⟩ := W3.out.h0.six'
  go_wp2
  refine bodyPost_ret (v := .tuple #[.agg #[.pointer none, .int .i64 0, .int .i64 0, .int .i64 0, .int .i64 0, .int .i64 0], .bool false]) (by simp [results, Tryz.results37, go_sem, r0, r1, r2, r3, r4, r5]) rfl ⟨rfl, ?_⟩
  exact W3.out.fin

set_option maxHeartbeats 6400000 in
theorem sfFirst_some (hn : n < 2 ^ 40) (hq : q ≤ 1024) (k0 : 0 ≤ k) (k8 : k ≤ 8) (hr : getV n K st (13 + k) = 0) (p : Nat) (s1 : Vst) (ht : takeI n K t q s 1 (getS n K st (13 + k)) = (some p, s1)) (h : (vOb base b n wh K).At w0 A G st w) :
    Calls Tryz.prog 37 #[.pointer (some ⟨b, 0, none⟩), .agg #[.int .i64 t, .int .i64 q, .int .i64 s], .int .i64 k] w fun e w' => e = .returned (.tuple #[.agg #[.pointer (some ⟨b, 0, none⟩), .int .i64 t, .int .i64 q, .int .i64 s, .int .i64 (p : Int), .int .i64 k], .bool true]) ∧ (vOb base b n wh K).At w0 A G (slabS n K t q s k p s1) w' ∧ Stay G w w' := by
  have W0 := hidp (((WL.start h).new 23 #[.int .i64 t, .int .i64 q, .int .i64 s]).new 77 #[.pointer none, .int .i64 0, .int .i64 0, .int .i64 0, .int .i64 0, .int .i64 0])
  simp only [World.size_alloc] at W0
  have HRK := hidp (rack_at k0 k8)
  have HRV := hidp hr
  have HTK := hidp ht
  have HIV := hidp (infoV_lt 3 1 k)
  have hq2 : q ≤ 2 ^ 31 := by omega
  clear h hr ht
  go_enter Tryz.func37, Tryz.ntmps37
  obtain ⟨y0, y1, y2, y3, y4, y5⟩ := W0.out.h0.six'
  obtain ⟨x0, x1, x2⟩ := W0.out.h1.three
  go_wp2_with fail
  refine (plRack_c k _).mono ?_; rintro e w9 ⟨rfl, rfl⟩; rw [HRK.out]
  go_wp2_with fail
  refine (vGetA hn _ W0.out.at_).mono ?_; rintro e w1 ⟨rfl, h1, h2⟩; have W1 := hidp (W0.out.call h1 h2); clear h1 h2 W0; rw [HRV.out]
  obtain ⟨y0, y1, y2, y3, y4, y5⟩ := W1.out.h0.six'
  obtain ⟨x0, x1, x2⟩ := W1.out.h1.three
  go_wp2_with fail
  refine (snTake_c hn hq 1 W1.out.at_).mono ?_; rintro e w2 ⟨rfl, h1, h2⟩; have W2 := hidp (W1.out.call h1 h2); clear h1 h2 W1; rw [HTK.out] at W2 ⊢; dsimp only [foundI, Option.isSome] at W2 ⊢
  obtain ⟨y0, y1, y2, y3, y4, y5⟩ := W2.out.h0.six'
  obtain ⟨x0, x1, x2⟩ := W2.out.h1.three
  go_wp2_with fail
  generalize hNP : w2.heap.size = NP at *
  replace W2 := hidp (W2.out.new 77 #[.pointer (some ⟨b, 0, none⟩), .int .i64 t, .int .i64 q, .int .i64 s, .int .i64 (p : Int), .int .i64 k])
  rw [hNP] at W2
  obtain ⟨g0, g1, g2, g3, g4, g5⟩ := W2.out.h0.six'
  obtain ⟨y0, y1, y2, y3, y4, y5⟩ := W2.out.h1.six'
  obtain ⟨x0, x1, x2⟩ := W2.out.h2.three
  refine (inPut_c 3 1 k _).mono ?_; rintro e w3 ⟨rfl, hb⟩; have W3 := hidp (W2.out.keep hb); clear hb W2
  obtain ⟨g0, g1, g2, g3, g4, g5⟩ := W3.out.h0.six'
  obtain ⟨y0, y1, y2, y3, y4, y5⟩ := W3.out.h1.six'
  obtain ⟨x0, x1, x2⟩ := W3.out.h2.three
  go_wp2_with fail
  refine wp_region_held_drew (S := (fun w' => w'.cell? ⟨NP, 0, none⟩ = some (.pointer (some ⟨b, 0, none⟩)) ∧ w'.cell? ⟨w.heap.size, 0, none⟩ = some (.int .i64 t) ∧ w'.cell? ⟨w.heap.size, 1, none⟩ = some (.int .i64 q) ∧ w'.cell? ⟨w.heap.size, 2, none⟩ = some (.int .i64 s))) (by kernel_rfl) ?_ (fun hHeld => ?_)
  · (try dsimp only)
    exact ⟨W3.out.drew.h0.six'.1, W3.out.drew.h2.three.1, W3.out.drew.h2.three.2.1, W3.out.drew.h2.three.2.2⟩
  refine tkz 0 ?_
  refine tkz 1 ?_
  refine tkz 2 ?_
  refine tkz 3 ?_
  refine tkz 5 ?_
  refine wpAnyH_ready (rs := [4]) (by kernel_rfl) (by simp) ?_
  refine AllReadyH.cons (o := _) rfl (fun K hK => ?_) AllReadyH.nil
  go_simp
  refine (plInfo_c t q s (p : Int) _).mono ?_; rintro e w4 ⟨rfl, hb⟩; have W4 := hidp (W3.out.drew.keep hb); clear hb W3
  refine hK.out _ _ ?_ (fun hHeld => ?_)
  · (try dsimp only)
    exact ⟨W4.out.h0.six'.1, W4.out.h2.three.1, W4.out.h2.three.2.1, W4.out.h2.three.2.2⟩
  clear hK K
  (try simp only [Act.put, gA, gB, gC, sA, sB, sC])
  refine wpAnyH_ready (rs := [6]) (by kernel_rfl) (by simp) ?_
  refine AllReadyH.cons (o := _) rfl (fun K hK => ?_) AllReadyH.nil
  go_simp
  refine (vPutA hn _ _ HIV.out W4.out.at_).mono ?_; rintro e w5 ⟨rfl, h1, h2⟩; have W5 := hidp (W4.out.call h1 h2); clear h1 h2 W4
  refine hK.out _ _ ?_ (fun hHeld => ?_)
  · (try dsimp only)
    exact ⟨W5.out.h0.six'.1, W5.out.h2.three.1, W5.out.h2.three.2.1, W5.out.h2.three.2.2⟩
  clear hK K
  (try simp only [Act.put, gA, gB, gC, sA, sB, sC])
  refine wpAnyH_done (by kernel_rfl) ?_ _
  obtain ⟨g0, g1, g2, g3, g4, g5⟩ := W5.out.h0.six'
  obtain ⟨y0, y1, y2, y3, y4, y5⟩ := W5.out.h1.six'
  obtain ⟨x0, x1, x2⟩ := W5.out.h2.three
  go_wp2_with fail
  refine (sbPush_c hn hq2 (p : Int) k0 k8 W5.out.at_).mono ?_; rintro e w6 ⟨rfl, h1, h2⟩; have W6 := hidp (W5.out.call h1 h2); clear h1 h2 W5
  obtain ⟨g0, g1, g2, g3, g4, g5⟩ := W6.out.h0.six'
  obtain ⟨y0, y1, y2, y3, y4, y5⟩ := W6.out.h1.six'
  obtain ⟨x0, x1, x2⟩ := W6.out.h2.three
  have W7 := hidp W6.out.swap
  obtain ⟨z0, z1, z2, z3, z4, z5⟩ := W7.out.h0.six'
  have f0 := W7.out.h0.thawed 0
  have f1 := W7.out.h0.thawed 1
  have f2 := W7.out.h0.thawed 2
  have f3 := W7.out.h0.thawed 3
  have f4 := W7.out.h0.thawed 4
  have f5 := W7.out.h0.thawed 5
  have W8 := hidp ((((((W7.out.put 0 (.pointer (some ⟨b, 0, none⟩))).put 1 (.int .i64 t)).put 2 (.int .i64 q)).put 3 (.int .i64 s)).put 4 (.int .i64 (p : Int))).put 5 (.int .i64 k))
  obtain ⟨r0, r1, r2, r3, r4, r5⟩ := W8.out.h0.six'
  go_wp2
  refine bodyPost_ret (v := .tuple #[.agg #[.pointer (some ⟨b, 0, none⟩), .int .i64 t, .int .i64 q, .int .i64 s, .int .i64 (p : Int), .int .i64 k], .bool true]) (by simp [results, Tryz.results37, go_sem, r0, r1, r2, r3, r4, r5]) rfl ⟨rfl, ?_⟩
  exact W8.out.fin

def PickEnd (O : Ob) (w0 : World) (A G : Nat → Prop) (x : Option (Nat × List Nat)) (s : Vst) (w : World) (e : Ending) (w' : World) : Prop :=
  ∃ u, e = .returned (.tuple #[.int .i64 (pickP x), u, .bool x.isSome]) ∧ WalkEnd O w0 A G (pickL x) s w (.returned u) w'
theorem PickEnd.no {O : Ob} {w0 w ws : World} {A G : Nat → Prop} {st : Vst} (h : O.At w0 A G st w) (hS : Stay G ws w) : PickEnd O w0 A G none st ws (.returned (.tuple #[.int .i64 (-1), .slice none 0 0, .bool false])) w := ⟨_, rfl, WalkEnd.nil_ h hS⟩
theorem pickAt_is {p w : Nat} : (pickAt n K t q s k p w st).1 = none ∨ ∃ l, l ≠ [] ∧ (pickAt n K t q s k p w st).1 = some (p, l) := by
  unfold pickAt
  split
  · exact .inl rfl
  · exact .inr ⟨_, by assumption, rfl⟩

set_option maxHeartbeats 6400000 in
theorem slPick_bad_k (hn : n < 2 ^ 40) (hq : q ≤ 1024) (hk0 : -9223372036854775808 ≤ k) (hk1 : k ≤ 9223372036854775807) (hT : SlotsLaid w0) (hA : ¬ A 0) (want : Int) (hb : k < 0 ∨ 8 < k) (h : (vOb base b n wh K).At w0 A G st w) :
    Calls Tryz.prog 12 #[.pointer (some ⟨b, 0, none⟩), .agg #[.int .i64 t, .int .i64 q, .int .i64 s], .int .i64 k, .int .i64 want] w (PickEnd (vOb base b n wh K) w0 A G none st w) := by
  have W0 := hidp ((WL.start h).new 23 #[.int .i64 t, .int .i64 q, .int .i64 s])
  have HTL := hidp hT
  have HMM := hidp (slotI_out (k := k) (by omega))
  have t0 : (((0 : Nat) : Int) == 0) = true := rfl
  clear h hT
  go_enter Tryz.func12, Tryz.ntmps12
  obtain ⟨x0, x1, x2⟩ := W0.out.h0.three
  go_wp2_with fail
  refine (clSlots_c k hk0 hk1 _ (HTL.out.at_ hA W0.out.at_)).mono ?_; rintro e w9 ⟨rfl, rfl⟩; rw [HMM.out]
  go_wp2
  go_ret3
  exact PickEnd.no W0.out.fin.1 W0.out.fin.2

set_option maxHeartbeats 6400000 in
theorem slPick_bad_low (hn : n < 2 ^ 40) (hq : q ≤ 1024) (hk0 : -9223372036854775808 ≤ k) (hk1 : k ≤ 9223372036854775807) (hT : SlotsLaid w0) (hA : ¬ A 0) (want : Int) (k0 : 0 ≤ k) (k8 : k ≤ 8) (hb : want < 1) (h : (vOb base b n wh K).At w0 A G st w) :
    Calls Tryz.prog 12 #[.pointer (some ⟨b, 0, none⟩), .agg #[.int .i64 t, .int .i64 q, .int .i64 s], .int .i64 k, .int .i64 want] w (PickEnd (vOb base b n wh K) w0 A G none st w) := by
  have W0 := hidp ((WL.start h).new 23 #[.int .i64 t, .int .i64 q, .int .i64 s])
  have HTL := hidp hT
  obtain ⟨m, hm⟩ : ∃ m, slotI k = m := ⟨_, rfl⟩
  have hm0 : m ≠ 0 := fun e => by have := slotI_zero.1 (hm.trans e); omega
  have HMM := hidp hm
  have t0 : ((m : Int) == 0) = false := by simp; omega
  have t1 : decide (want < (1 : Int)) = true := decide_eq_true hb
  clear hm
  clear h hT
  go_enter Tryz.func12, Tryz.ntmps12
  obtain ⟨x0, x1, x2⟩ := W0.out.h0.three
  go_wp2_with fail
  refine (clSlots_c k hk0 hk1 _ (HTL.out.at_ hA W0.out.at_)).mono ?_; rintro e w9 ⟨rfl, rfl⟩; rw [HMM.out]
  go_wp2
  go_ret3
  exact PickEnd.no W0.out.fin.1 W0.out.fin.2

set_option maxHeartbeats 6400000 in
theorem slPick_bad_high (hn : n < 2 ^ 40) (hq : q ≤ 1024) (hk0 : -9223372036854775808 ≤ k) (hk1 : k ≤ 9223372036854775807) (hT : SlotsLaid w0) (hA : ¬ A 0) (want : Int) (k0 : 0 ≤ k) (k8 : k ≤ 8) (hb : 4 < want) (h : (vOb base b n wh K).At w0 A G st w) :
    Calls Tryz.prog 12 #[.pointer (some ⟨b, 0, none⟩), .agg #[.int .i64 t, .int .i64 q, .int .i64 s], .int .i64 k, .int .i64 want] w (PickEnd (vOb base b n wh K) w0 A G none st w) := by
  have W0 := hidp ((WL.start h).new 23 #[.int .i64 t, .int .i64 q, .int .i64 s])
  have HTL := hidp hT
  obtain ⟨m, hm⟩ : ∃ m, slotI k = m := ⟨_, rfl⟩
  have hm0 : m ≠ 0 := fun e => by have := slotI_zero.1 (hm.trans e); omega
  have HMM := hidp hm
  have t0 : ((m : Int) == 0) = false := by simp; omega
  have t1 : decide (want < (1 : Int)) = false := decide_eq_false (by omega)
  have t2 : decide ((4 : Int) < want) = true := decide_eq_true hb
  clear hm
  clear h hT
  go_enter Tryz.func12, Tryz.ntmps12
  obtain ⟨x0, x1, x2⟩ := W0.out.h0.three
  go_wp2_with fail
  refine (clSlots_c k hk0 hk1 _ (HTL.out.at_ hA W0.out.at_)).mono ?_; rintro e w9 ⟨rfl, rfl⟩; rw [HMM.out]
  go_wp2
  go_ret3
  exact PickEnd.no W0.out.fin.1 W0.out.fin.2

set_option maxHeartbeats 6400000 in
theorem slPick_none (hn : n < 2 ^ 40) (hq : q ≤ 1024) (hk0 : -9223372036854775808 ≤ k) (hk1 : k ≤ 9223372036854775807) (hT : SlotsLaid w0) (hA : ¬ A 0) (k0 : 0 ≤ k) (k8 : k ≤ 8) (wn : Nat) (hw : 1 ≤ wn) (hw2 : wn ≤ 4) (hr : getV n K st (13 + k) = 0) (s1 : Vst) (ht : takeI n K t q s 1 (getS n K st (13 + k)) = (none, s1)) (h : (vOb base b n wh K).At w0 A G st w) :
    Calls Tryz.prog 12 #[.pointer (some ⟨b, 0, none⟩), .agg #[.int .i64 t, .int .i64 q, .int .i64 s], .int .i64 k, .int .i64 (wn : Int)] w (PickEnd (vOb base b n wh K) w0 A G none s1 w) := by
  have W0 := hidp ((WL.start h).new 23 #[.int .i64 t, .int .i64 q, .int .i64 s])
  have HTL := hidp hT
  obtain ⟨m, hm⟩ : ∃ m, slotI k = m := ⟨_, rfl⟩
  have hm0 : m ≠ 0 := fun e => by have := slotI_zero.1 (hm.trans e); omega
  have HMM := hidp hm
  have t0 : ((m : Int) == 0) = false := by simp; omega
  have t1 : decide ((wn : Int) < (1 : Int)) = false := decide_eq_false (by omega)
  have t2 : decide ((4 : Int) < (wn : Int)) = false := decide_eq_false (by omega)
  clear hm
  have HR := hidp hr
  have HTK := hidp ht
  clear h hT hr ht
  go_enter Tryz.func12, Tryz.ntmps12
  obtain ⟨x0, x1, x2⟩ := W0.out.h0.three
  go_wp2_with fail
  refine (clSlots_c k hk0 hk1 _ (HTL.out.at_ hA W0.out.at_)).mono ?_; rintro e w9 ⟨rfl, rfl⟩; rw [HMM.out]
  go_wp2_with fail
  refine (sfFirst_none hn hq k0 k8 HR.out s1 HTK.out W0.out.at_).mono ?_; rintro e w1 ⟨rfl, h1, h2⟩; have W1 := hidp (W0.out.call h1 h2); clear h1 h2 W0
  obtain ⟨x0, x1, x2⟩ := W1.out.h0.three
  replace W1 := hidp (W1.out.new 77 #[.pointer none, .int .i64 0, .int .i64 0, .int .i64 0, .int .i64 0, .int .i64 0])
  obtain ⟨g0, g1, g2, g3, g4, g5⟩ := W1.out.h0.six'
  obtain ⟨x0, x1, x2⟩ := W1.out.h1.three
  go_wp2
  go_ret3
  exact PickEnd.no W1.out.fin.1 W1.out.fin.2

set_option maxHeartbeats 6400000 in
theorem slPick_atN (hn : n < 2 ^ 40) (hq : q ≤ 1024) (hk0 : -9223372036854775808 ≤ k) (hk1 : k ≤ 9223372036854775807) (hT : SlotsLaid w0) (hA : ¬ A 0) (k0 : 0 ≤ k) (k8 : k ≤ 8) (wn : Nat) (hw : 1 ≤ wn) (hw2 : wn ≤ 4) (p : Nat) (s2 : Vst) (HF : Hid (∀ (G' : Nat → Prop) (W' : World), (vOb base b n wh K).At w0 A G' st W' → Calls Tryz.prog 37 #[.pointer (some ⟨b, 0, none⟩), .agg #[.int .i64 t, .int .i64 q, .int .i64 s], .int .i64 k] W' fun e w' => e = .returned (.tuple #[.agg #[.pointer (some ⟨b, 0, none⟩), .int .i64 t, .int .i64 q, .int .i64 s, .int .i64 (p : Int), .int .i64 k], .bool true]) ∧ (vOb base b n wh K).At w0 A G' s2 w' ∧ Stay G' W' w')) (s3 : Vst) (hx : pickAt n K t q s k p wn s2 = (none, s3)) (h : (vOb base b n wh K).At w0 A G st w) :
    Calls Tryz.prog 12 #[.pointer (some ⟨b, 0, none⟩), .agg #[.int .i64 t, .int .i64 q, .int .i64 s], .int .i64 k, .int .i64 (wn : Int)] w (PickEnd (vOb base b n wh K) w0 A G none s3 w) := by
  have W0 := hidp ((WL.start h).new 23 #[.int .i64 t, .int .i64 q, .int .i64 s])
  have HTL := hidp hT
  obtain ⟨m, hm⟩ : ∃ m, slotI k = m := ⟨_, rfl⟩
  have hm0 : m ≠ 0 := fun e => by have := slotI_zero.1 (hm.trans e); omega
  have HMM := hidp hm
  have t0 : ((m : Int) == 0) = false := by simp; omega
  have t1 : decide ((wn : Int) < (1 : Int)) = false := decide_eq_false (by omega)
  have t2 : decide ((4 : Int) < (wn : Int)) = false := decide_eq_false (by omega)
  clear hm
  have hq2 : q ≤ 2 ^ 31 := by omega
  have HX := hidp hx
  clear h hT hx
  go_enter Tryz.func12, Tryz.ntmps12
  obtain ⟨x0, x1, x2⟩ := W0.out.h0.three
  go_wp2_with fail
  refine (clSlots_c k hk0 hk1 _ (HTL.out.at_ hA W0.out.at_)).mono ?_; rintro e w9 ⟨rfl, rfl⟩; rw [HMM.out]
  go_wp2_with fail
  refine (HF.out _ _ W0.out.at_).mono ?_; rintro e w1 ⟨rfl, h1, h2⟩; have W1 := hidp (W0.out.call h1 h2); clear h1 h2 W0
  obtain ⟨x0, x1, x2⟩ := W1.out.h0.three
  generalize hNP : w1.heap.size = NP at *
  replace W1 := hidp (W1.out.new 77 #[.pointer (some ⟨b, 0, none⟩), .int .i64 t, .int .i64 q, .int .i64 s, .int .i64 (p : Int), .int .i64 k])
  rw [hNP] at W1
  obtain ⟨g0, g1, g2, g3, g4, g5⟩ := W1.out.h0.six'
  obtain ⟨x0, x1, x2⟩ := W1.out.h1.three
  go_wp2_with fail
  refine (sbPick_c hn hq2 p wn hw (by omega) k0 k8 HTL.out hA W1.out.at_).mono ?_
  rintro e w2 ⟨u, hu, ho, hA2, hS⟩
  rw [HX.out] at ho hA2
  subst hu
  dsimp only [pickL] at ho hA2
  rw [List.length_nil] at ho
  obtain ⟨A2, c2, hu2⟩ := own_slice ho
  subst hu2
  have hcc := own_caps9 ho
  have HP := hidp (hS.held (.inr ⟨_, List.mem_cons_self .., rfl⟩) W1.out.h0)
  obtain ⟨p0, p1, p2, p3, p4, p5⟩ := HP.out.six'
  have HOW := hidp ho
  have HAT := hidp hA2
  have HST := hidp (W1.out.stay.trans (hS.less fun g x => .inl x))
  have HZ0 := hidp W1.out.stay.1
  clear ho hA2 hS
  go_wp2
  go_ret3
  exact PickEnd.no (HAT.out.less fun g x => .inl (.inl x)) HST.out

set_option maxHeartbeats 6400000 in
theorem slPick_atS (hn : n < 2 ^ 40) (hq : q ≤ 1024) (hk0 : -9223372036854775808 ≤ k) (hk1 : k ≤ 9223372036854775807) (hT : SlotsLaid w0) (hA : ¬ A 0) (k0 : 0 ≤ k) (k8 : k ≤ 8) (wn : Nat) (hw : 1 ≤ wn) (hw2 : wn ≤ 4) (p : Nat) (s2 : Vst) (HF : Hid (∀ (G' : Nat → Prop) (W' : World), (vOb base b n wh K).At w0 A G' st W' → Calls Tryz.prog 37 #[.pointer (some ⟨b, 0, none⟩), .agg #[.int .i64 t, .int .i64 q, .int .i64 s], .int .i64 k] W' fun e w' => e = .returned (.tuple #[.agg #[.pointer (some ⟨b, 0, none⟩), .int .i64 t, .int .i64 q, .int .i64 s, .int .i64 (p : Int), .int .i64 k], .bool true]) ∧ (vOb base b n wh K).At w0 A G' s2 w' ∧ Stay G' W' w')) (s3 : Vst) (l : List Nat) (hl : l ≠ []) (hx : pickAt n K t q s k p wn s2 = (some (p, l), s3)) (h : (vOb base b n wh K).At w0 A G st w) :
    Calls Tryz.prog 12 #[.pointer (some ⟨b, 0, none⟩), .agg #[.int .i64 t, .int .i64 q, .int .i64 s], .int .i64 k, .int .i64 (wn : Int)] w (PickEnd (vOb base b n wh K) w0 A G (some (p, l)) s3 w) := by
  have W0 := hidp ((WL.start h).new 23 #[.int .i64 t, .int .i64 q, .int .i64 s])
  have HTL := hidp hT
  obtain ⟨m, hm⟩ : ∃ m, slotI k = m := ⟨_, rfl⟩
  have hm0 : m ≠ 0 := fun e => by have := slotI_zero.1 (hm.trans e); omega
  have HMM := hidp hm
  have t0 : ((m : Int) == 0) = false := by simp; omega
  have t1 : decide ((wn : Int) < (1 : Int)) = false := decide_eq_false (by omega)
  have t2 : decide ((4 : Int) < (wn : Int)) = false := decide_eq_false (by omega)
  clear hm
  have hq2 : q ≤ 2 ^ 31 := by omega
  have HX := hidp hx
  obtain ⟨nl, hnl⟩ : ∃ nl, l.length = nl := ⟨_, rfl⟩
  have hnl1 : 1 ≤ nl := by rw [← hnl]; cases l with | nil => exact absurd rfl hl | cons a r => simp
  have HNL := hidp hnl
  have t3 : ((nl : Int) == 0) = false := by simp; omega
  clear hl hnl
  clear h hT hx
  go_enter Tryz.func12, Tryz.ntmps12
  obtain ⟨x0, x1, x2⟩ := W0.out.h0.three
  go_wp2_with fail
  refine (clSlots_c k hk0 hk1 _ (HTL.out.at_ hA W0.out.at_)).mono ?_; rintro e w9 ⟨rfl, rfl⟩; rw [HMM.out]
  go_wp2_with fail
  refine (HF.out _ _ W0.out.at_).mono ?_; rintro e w1 ⟨rfl, h1, h2⟩; have W1 := hidp (W0.out.call h1 h2); clear h1 h2 W0
  obtain ⟨x0, x1, x2⟩ := W1.out.h0.three
  generalize hNP : w1.heap.size = NP at *
  replace W1 := hidp (W1.out.new 77 #[.pointer (some ⟨b, 0, none⟩), .int .i64 t, .int .i64 q, .int .i64 s, .int .i64 (p : Int), .int .i64 k])
  rw [hNP] at W1
  obtain ⟨g0, g1, g2, g3, g4, g5⟩ := W1.out.h0.six'
  obtain ⟨x0, x1, x2⟩ := W1.out.h1.three
  go_wp2_with fail
  refine (sbPick_c hn hq2 p wn hw (by omega) k0 k8 HTL.out hA W1.out.at_).mono ?_
  rintro e w2 ⟨u, hu, ho, hA2, hS⟩
  rw [HX.out] at ho hA2
  subst hu
  dsimp only [pickL] at ho hA2
  rw [HNL.out] at ho
  obtain ⟨A2, c2, hu2⟩ := own_slice ho
  subst hu2
  have hcc := own_caps9 ho
  have HP := hidp (hS.held (.inr ⟨_, List.mem_cons_self .., rfl⟩) W1.out.h0)
  obtain ⟨p0, p1, p2, p3, p4, p5⟩ := HP.out.six'
  have HOW := hidp ho
  have HAT := hidp hA2
  have HST := hidp (W1.out.stay.trans (hS.less fun g x => .inl x))
  have HZ0 := hidp W1.out.stay.1
  clear ho hA2 hS
  go_wp2
  go_ret3
  refine ⟨_, rfl, _, rfl, ?_, HAT.out.less (fun g x => ?_), HST.out⟩
  · dsimp only [pickL]
    rw [HNL.out]
    exact own_lower HOW.out HZ0.out
  · rcases x with x | x
    · exact .inl (.inl x)
    · exact .inr x

theorem slPick_in (hn : n < 2 ^ 40) (hq : q ≤ 1024) (hk0 : -9223372036854775808 ≤ k) (hk1 : k ≤ 9223372036854775807) (hT : SlotsLaid w0) (hA : ¬ A 0) (k0 : 0 ≤ k) (k8 : k ≤ 8) (wn : Nat) (hw : 1 ≤ wn) (hw2 : wn ≤ 4) (h : (vOb base b n wh K).At w0 A G st w) :
    Calls Tryz.prog 12 #[.pointer (some ⟨b, 0, none⟩), .agg #[.int .i64 t, .int .i64 q, .int .i64 s], .int .i64 k, .int .i64 (wn : Int)] w (PickEnd (vOb base b n wh K) w0 A G (pickI n K t q s k wn st).1 (pickI n K t q s k wn st).2 w) := by
  have hat : ∀ (p : Nat) (s2 : Vst), (Hid (∀ (G' : Nat → Prop) (W' : World), (vOb base b n wh K).At w0 A G' st W' → Calls Tryz.prog 37 #[.pointer (some ⟨b, 0, none⟩), .agg #[.int .i64 t, .int .i64 q, .int .i64 s], .int .i64 k] W' fun e w' => e = .returned (.tuple #[.agg #[.pointer (some ⟨b, 0, none⟩), .int .i64 t, .int .i64 q, .int .i64 s, .int .i64 (p : Int), .int .i64 k], .bool true]) ∧ (vOb base b n wh K).At w0 A G' s2 w' ∧ Stay G' W' w')) →
      Calls Tryz.prog 12 #[.pointer (some ⟨b, 0, none⟩), .agg #[.int .i64 t, .int .i64 q, .int .i64 s], .int .i64 k, .int .i64 (wn : Int)] w (PickEnd (vOb base b n wh K) w0 A G (pickAt n K t q s k p wn s2).1 (pickAt n K t q s k p wn s2).2 w) := fun p s2 HF => by
    obtain ⟨⟨x, s3⟩, hx⟩ : ∃ x, pickAt n K t q s k p wn s2 = x := ⟨_, rfl⟩
    rcases pickAt_is (n := n) (K := K) (t := t) (q := q) (s := s) (k := k) (p := p) (w := wn) (st := s2) with h1 | ⟨l, hl, h1⟩
    · rw [hx] at h1 ⊢
      dsimp only at h1
      subst h1
      exact slPick_atN hn hq hk0 hk1 hT hA k0 k8 wn hw hw2 p s2 HF s3 hx h
    · rw [hx] at h1 ⊢
      dsimp only at h1
      subst h1
      exact slPick_atS hn hq hk0 hk1 hT hA k0 k8 wn hw hw2 p s2 HF s3 l hl hx h
  cases hr : getV n K st (13 + k) with
  | succ r =>
    rw [pickI_rack hr]
    exact hat r _ (hidp fun G' W' h' => sfFirst_rack hn hq k0 k8 r hr h')
  | zero =>
    obtain ⟨⟨o, s1⟩, ht⟩ : ∃ x, takeI n K t q s 1 (getS n K st (13 + k)) = x := ⟨_, rfl⟩
    cases o with
    | none =>
      rw [pickI_none hr ht]
      exact slPick_none hn hq hk0 hk1 hT hA k0 k8 wn hw hw2 hr s1 ht h
    | some p =>
      rw [pickI_fresh hr ht]
      exact hat p _ (hidp fun G' W' h' => sfFirst_some hn hq k0 k8 hr p s1 ht h')

def pickZ (n : Nat) (K : Nat → Option Nat) (t q s k want : Int) (st : Vst) : Option (Nat × List Nat) × Vst := if (0 ≤ k ∧ k ≤ 8) ∧ 1 ≤ want ∧ want ≤ 4 then pickI n K t q s k want.toNat st else (none, st)
theorem pickZ_no {want : Int} (h : ¬ ((0 ≤ k ∧ k ≤ 8) ∧ 1 ≤ want ∧ want ≤ 4)) : pickZ n K t q s k want st = (none, st) := by unfold pickZ; rw [if_neg h]
theorem pickZ_yes {wn : Nat} (k0 : 0 ≤ k) (k8 : k ≤ 8) (hw : 1 ≤ wn) (hw2 : wn ≤ 4) : pickZ n K t q s k (wn : Int) st = pickI n K t q s k wn st := by unfold pickZ; rw [if_pos ⟨⟨k0, k8⟩, by omega, by omega⟩, Int.toNat_natCast]
theorem slPick_c (hn : n < 2 ^ 40) (hq : q ≤ 1024) (hk0 : -9223372036854775808 ≤ k) (hk1 : k ≤ 9223372036854775807) (hT : SlotsLaid w0) (hA : ¬ A 0) (want : Int) (h : (vOb base b n wh K).At w0 A G st w) :
    Calls Tryz.prog 12 #[.pointer (some ⟨b, 0, none⟩), .agg #[.int .i64 t, .int .i64 q, .int .i64 s], .int .i64 k, .int .i64 want] w (PickEnd (vOb base b n wh K) w0 A G (pickZ n K t q s k want st).1 (pickZ n K t q s k want st).2 w) := by
  by_cases hb : (0 ≤ k ∧ k ≤ 8) ∧ 1 ≤ want ∧ want ≤ 4
  · obtain ⟨wn, rfl⟩ := Int.eq_ofNat_of_zero_le (show 0 ≤ want by omega)
    have e : pickZ n K t q s k (wn : Int) st = pickI n K t q s k wn st := pickZ_yes hb.1.1 hb.1.2 (by omega) (by omega)
    rw [e]
    exact slPick_in hn hq hk0 hk1 hT hA hb.1.1 hb.1.2 wn (by omega) (by omega) h
  · rw [pickZ_no hb]
    by_cases b1 : k < 0 ∨ 8 < k
    · exact slPick_bad_k hn hq hk0 hk1 hT hA want b1 h
    · by_cases b2 : want < 1
      · exact slPick_bad_low hn hq hk0 hk1 hT hA want (by omega) (by omega) b2 h
      · exact slPick_bad_high hn hq hk0 hk1 hT hA want (by omega) (by omega) (by omega) h

set_option maxHeartbeats 6400000 in
theorem slGive_at (hn : n < 2 ^ 40) (hq : q ≤ 1024) (p i : Nat) (hp : p ≤ 1024) (hi : i < 32) (hT : SlotsLaid w0) (hA : ¬ A 0) (kk l c : Int) (ok : Bool) (hI : infoOf n K t q s p st = (kk, l, c, ok)) (c0 : 0 ≤ c) (c8 : c ≤ 8) (h : (vOb base b n wh K).At w0 A G st w) :
    Calls Tryz.prog 20 #[.pointer (some ⟨b, 0, none⟩), .agg #[.int .i64 t, .int .i64 q, .int .i64 s], .int .i64 (p : Int), .int .i64 (i : Int)] w fun e w' => e = .returned (.tuple #[]) ∧ (vOb base b n wh K).At w0 A G (giveAt n K t q s c p i (getS n K st (pageI t q s p 0))) w' ∧ Stay G w w' := by
  have W0 := hidp ((WL.start h).new 23 #[.int .i64 t, .int .i64 q, .int .i64 s])
  obtain ⟨v, hv⟩ : ∃ v, getV n K st (pageI t q s p 0) = v := ⟨_, rfl⟩
  have hv32 : v < 2 ^ 32 := by rw [← hv]; exact vAt_lt h _
  have HI : Hid (infoG v = (kk, l, c, ok)) := hidp (by rw [← hv]; exact hI)
  have HV := hidp hv
  have HTL := hidp hT
  have t0 : decide ((i : Int) < (0 : Int)) = false := decide_eq_false (by omega)
  have t1 : decide ((32 : Int) ≤ (i : Int)) = false := decide_eq_false (by omega)
  clear h hI hv hT
  go_enter Tryz.func20, Tryz.ntmps20
  obtain ⟨x0, x1, x2⟩ := W0.out.h0.three
  go_wp2_with fail
  refine (plInfo_c t q s (p : Int) _).mono ?_; rintro e w1 ⟨rfl, hb⟩; have W1 := hidp (W0.out.keep hb); clear hb W0
  obtain ⟨x0, x1, x2⟩ := W1.out.h0.three
  go_wp2_with fail
  refine (vGetA hn _ W1.out.at_).mono ?_; rintro e w2 ⟨rfl, h1, h2⟩; have W2 := hidp (W1.out.call h1 h2); clear h1 h2 W1; rw [HV.out]
  obtain ⟨x0, x1, x2⟩ := W2.out.h0.three
  go_wp2_with fail
  refine (inGet_c v kk l c ok hv32 HI.out _).mono ?_; rintro e w3 ⟨rfl, hb⟩; have W3 := hidp (W2.out.keep hb); clear hb W2
  generalize hNI : w3.heap.size = NI at *
  replace W3 := hidp (W3.out.new 60 #[.int .i64 kk, .int .i64 l, .int .i64 c])
  rw [hNI] at W3
  obtain ⟨i0, i1, i2⟩ := W3.out.h0.three
  obtain ⟨x0, x1, x2⟩ := W3.out.h1.three
  go_wp2_with fail
  refine (sbGive_c hn hq p i hp hi c0 c8 HTL.out hA W3.out.at_).mono ?_; rintro e w4 ⟨rfl, h1, h2⟩; have W4 := hidp (W3.out.call h1 h2); clear h1 h2 W3
  obtain ⟨i0, i1, i2⟩ := W4.out.h0.three
  obtain ⟨x0, x1, x2⟩ := W4.out.h1.three
  go_wp2
  go_end0
  exact ⟨rfl, W4.out.fin⟩

theorem slGive_c (hn : n < 2 ^ 40) (hq : q ≤ 1024) (p i : Nat) (hp : p ≤ 1024) (hi : i < 32) (hT : SlotsLaid w0) (hA : ¬ A 0) (c0 : 0 ≤ (infoOf n K t q s p st).2.2.1) (c8 : (infoOf n K t q s p st).2.2.1 ≤ 8) (h : (vOb base b n wh K).At w0 A G st w) :
    Calls Tryz.prog 20 #[.pointer (some ⟨b, 0, none⟩), .agg #[.int .i64 t, .int .i64 q, .int .i64 s], .int .i64 (p : Int), .int .i64 (i : Int)] w fun e w' => e = .returned (.tuple #[]) ∧ (vOb base b n wh K).At w0 A G (giveS n K t q s p i st) w' ∧ Stay G w w' := by
  unfold giveS
  obtain ⟨⟨kk, l, c, ok⟩, hI⟩ : ∃ x, infoOf n K t q s p st = x := ⟨_, rfl⟩
  rw [hI] at c0 c8 ⊢
  exact slGive_at hn hq p i hp hi hT hA kk l c ok hI c0 c8 h

end
end
section
def exQ : Vst := (pickZ 82 ex14K 1 8 10 8 4 freshS).2
theorem ex16_pick : pickZ 82 ex14K 1 8 10 8 4 freshS = (some (0, [0, 1]), exQ) := by
  have h : (pickZ 82 ex14K 1 8 10 8 4 freshS).1 = some (0, [0, 1]) := by decide +kernel
  unfold exQ
  rw [← h]
theorem ex16_rack : getV 82 ex14K exQ 21 = 0 := by decide +kernel
theorem ex16_free : getV 82 ex14K (getS 82 ex14K exQ 21) 0 = 7 := by decide +kernel
section
variable {W w w' : World} {O1 O2 : Ob} {A B G : Nat → Prop} {s1 s2 s' : Vst}
theorem Duo.slots (h : Duo W O1 O2 A B G s1 s2 w) (hT : SlotsLaid W) : SlotsLaid w ∧ ¬ A 0 ∧ ¬ B 0 := by
  have hl : (0 : Nat) < W.heap.size := cell_lt16 (hT 0 (by omega))
  exact ⟨hT.below h.bel, fun x => by have := h.lo _ (.inl x); omega, fun x => by have := h.lo _ (.inr x); omega⟩
theorem Duo.pick1 {x : Option (Nat × List Nat)} {e : Ending} (h : Duo W O1 O2 A B G s1 s2 w) (hw : PickEnd O1 w A (fun _ => False) x s' w e w') :
    ∃ u A', e = .returned (.tuple #[.int .i64 (pickP x), u, .bool x.isSome]) ∧ w'.ownsRow w.heap.size 3 1 u (pickL x).length (ntVs (pickL x)) ∧ Duo W O1 O2 A' B (GU G u) s' s2 w' ∧ Stay G w w' := by
  obtain ⟨u, he, hw2⟩ := hw
  obtain ⟨u2, A', he2, ho, hD, hS⟩ := h.walk1 hw2
  injection he2 with he2
  subst he2
  exact ⟨u, A', he, ho, hD, hS⟩
theorem Duo.pick2 {x : Option (Nat × List Nat)} {e : Ending} (h : Duo W O1 O2 A B G s1 s2 w) (hw : PickEnd O2 w B (fun _ => False) x s' w e w') :
    ∃ u B', e = .returned (.tuple #[.int .i64 (pickP x), u, .bool x.isSome]) ∧ w'.ownsRow w.heap.size 3 1 u (pickL x).length (ntVs (pickL x)) ∧ Duo W O1 O2 A B' (GU G u) s1 s' w' ∧ Stay G w w' := by
  obtain ⟨u, B', h1, h2, h3, h4⟩ := h.swap.pick1 hw
  exact ⟨u, B', h1, h2, h3.swap, h4⟩
end
set_option maxHeartbeats 3200000 in
theorem live16_c (w : World) (hT : SlotsLaid w) : Calls Tryz.prog 9 #[] w fun e w' => e = .returned (.bool true) ∧ Below w.heap.size w w' := by
  have HPK := hidp ex16_pick
  have HRA := hidp ex16_rack
  have HFR := hidp ex16_free
  have HTL := hidp hT
  clear hT
  go_enter Tryz.func9, Tryz.ntmps9
  go_wp2_with fail
  refine (Eight14_c _).mono ?_
  rintro e w1 ⟨g, rfl, hg, hb⟩
  have HG := hidp (hg.alloc (.cells #[.int .i64 1, .int .i64 8, .int .i64 10] 23))
  have HC := hidp (Held.new w1 23 #[.int .i64 1, .int .i64 8, .int .i64 10])
  have HB := hidp (Bnew hb (.cells #[.int .i64 1, .int .i64 8, .int .i64 10] 23))
  clear hg hb
  obtain ⟨x0, x1, x2⟩ := HC.out.three
  go_wp2_with fail
  generalize hNC : w1.heap.size = NC at *
  generalize hW1 : w1.alloc (.cells #[.int .i64 1, .int .i64 8, .int .i64 10] 23) = W1 at *
  clear hNC hW1
  refine (Whole_c (some ⟨g, 0, none⟩) 82 ex14L 82 ex14_len (by omega) ex14_32 _ (fun _ => ⟨_, rfl, ex14_cells HG.out⟩)).mono ?_
  rintro e w3 ⟨b, o, rfl, hI, hB⟩
  have HD := hidp (duo_made (W := w) (G := fun i => i = NC) hI HB.out.size (Bgo HB.out hB) (fun i hi => by
    have h1 := HC.out.lt
    have h3 := hB.size
    rcases hi with rfl
    exact ⟨by omega, fun x => by have := hI.ge _ x; omega⟩))
  replace HC := hidp (HC.out.keep hB)
  clear hI hB HB HG
  clear x0 x1 x2
  obtain ⟨x0, x1, x2⟩ := HC.out.three
  go_wp2_with fail
  refine (slPick_c (t := 1) (q := 8) (s := 10) (k := 8) (by omega) (by omega) (by omega) (by omega) (HD.out.slots HTL.out).1 (HD.out.slots HTL.out).2.1 4 HD.out.at1).mono ?_
  rintro e w4 h1
  obtain ⟨u, A4, rfl, ho, h2, h3⟩ := HD.out.pick1 h1
  rw [show (fun i => ex14L[i]?) = ex14K from rfl] at h2 ho ⊢
  rw [HPK.out] at h2 ho ⊢
  dsimp only [pickP, pickL, Option.isSome] at h2 ho ⊢
  replace HC := hidp (h3.held rfl HC.out)
  replace HD : Hid (Duo w (vOb _ b 82 true ex14K) noOb A4 (fun _ => False) (fun i => i = NC) exQ freshS w4) := hidp (h2.less fun g x => .inl x)
  have HR1 : Hid (RowV (w4.alloc (.cells #[.int .i64 0, .int .i64 1] 3)) u (([0, 1] : List Int).map (Value.int .i64))) := hidp ((RowV.of_own ho).alloc _)
  have HR2 : Hid (RowV (w4.alloc (.cells #[.int .i64 0, .int .i64 1] 3)) (.slice (some ⟨w4.heap.size, 0, none⟩) 2 2) (([0, 1] : List Int).map (Value.int .i64))) := hidp (RowV.lit w4 #[.int .i64 0, .int .i64 1] 3 2 rfl (by unfold maxLen; omega))
  replace HC := hidp (HC.out.alloc (.cells #[.int .i64 0, .int .i64 1] 3))
  replace HD := hidp (HD.out.keep (Bnew (B0 w4) (.cells #[.int .i64 0, .int .i64 1] 3)))
  clear h1 h2 h3 ho
  clear x0 x1 x2
  go_wp2_with fail
  refine (Ints_same [0, 1] u _ _ HR1.out HR2.out).mono ?_
  rintro e w5 ⟨rfl, n5, hw5⟩
  replace HD : Hid (Duo w (vOb _ b 82 true ex14K) noOb A4 (fun _ => False) (fun i => i = NC) exQ freshS w5) := hidp (by rw [hw5]; exact HD.out.keep (Bdraw (B0 _) n5))
  clear hw5 HR1 HR2 HC
  go_wp2_with fail
  refine (vGetA (by omega) 21 HD.out.at1).mono ?_
  rintro e w6 ⟨rfl, h1, _⟩
  obtain ⟨A5, h2, h3⟩ := HD.out.left1 h1.left
  rw [HRA.out]
  replace HD : Hid (Duo w (vOb _ b 82 true ex14K) noOb A5 (fun _ => False) (fun i => i = NC) (getS 82 ex14K exQ 21) freshS w6) := hidp h2
  clear h1 h2 h3
  go_wp2_with fail
  refine (vGetA (by omega) 0 HD.out.at1).mono ?_
  rintro e w7 ⟨rfl, h1, _⟩
  obtain ⟨A6, h2, h3⟩ := HD.out.left1 h1.left
  rw [HFR.out]
  have HB := hidp h2.bel
  clear h1 h2 h3 HD
  go_wp2
  go_ret
  exact ⟨rfl, HB.out⟩
end
end Go.Proofs.YtioolaaphbddbaaGreatDoor
