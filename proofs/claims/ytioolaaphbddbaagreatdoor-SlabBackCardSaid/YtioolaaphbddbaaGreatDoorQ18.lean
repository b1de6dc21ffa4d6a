/-
  What slab's first, Pick and Give do. Written by slab/gen_top.py.
-/
import Derived.Test.YtioolaaphbddbaaGreatDoorQ17
import Derived.Test.YtioolaaphbddbaaGreatDoorQ04
import Derived.Test.YtioolaaphbddbaaGreatDoorQ06
import Derived.Test.YtioolaaphbddbaaGreatDoorQ12
import Derived.Test.YtioolaaphbddbaaGreatDoorQ14
import Derived.Test.YtioolaaphbddbaaGreatDoorQ02
import Derived.Test.YtioolaaphbddbaaGreatDoorQ15
import Derived.Test.YtioolaaphbddbaaGreatDoorQ11
import Derived.Test.YtioolaaphbddbaaGreatDoorQ01
namespace Go.Proofs.YtioolaaphbddbaaGreatDoor
open Go.ChangeShapes Go.WideShapes Go.ChangeAt Go.RowKit Go.Maps
set_option linter.unusedVariables false
set_option linter.unusedSimpArgs false
set_option maxRecDepth 100000
section
section
variable {base b n : Nat} {wh all : Bool} {K : Nat → Option Nat} {st : Vst} {w w0 : World} {A G : Nat → Prop} {t q s k : Int}

set_option maxHeartbeats 6400000 in
theorem sfFirst_rack (hn : n < 2 ^ 40) (hq : q ≤ 1024) (k0 : 0 ≤ k) (k8 : k ≤ 8) (r : Nat) (hr : getV n K st (13 + k) = r + 1) (h : (vOb base b n wh K).At w0 A G st w) :
    Calls Tryz.prog 37 #[.pointer (some ⟨b, 0, none⟩), .agg #[.int .i64 t, .int .i64 q, .int .i64 s], .int .i64 k] w fun e w' => e = .returned (.tuple #[.agg #[.pointer (some ⟨b, 0, none⟩), .int .i64 t, .int .i64 q, .int .i64 s, .int .i64 (r : Int), .int .i64 k], .bool true]) ∧ (vOb base b n wh K).At w0 A G (getS n K st (13 + k)) w' ∧ Stay G w w' := by
  have W0 := hidp (((WL.start h).new 23 #[.int .i64 t, .int .i64 q, .int .i64 s]).new 77 #[.pointer none, .int .i64 0, .int .i64 0, .int .i64 0, .int .i64 0, .int .i64 0])
  simp only [World.size_alloc] at W0
  have HRK := hidp (rack_at k0 k8)
  obtain ⟨rv, hrv⟩ : ∃ rv, r + 1 = rv := ⟨_, rfl⟩
  have hrl := vAt_lt h (13 + k)
  rw [hr, hrv] at hrl
  rw [hrv] at hr
  have HRV := hidp hr
  have er : (r : Int) = (rv : Int) - 1 := by omega
  rw [er]
  have t0 : ((rv : Int) != 0) = true := by simp; omega
  clear h hr er hrv
  go_enter Tryz.func37, Tryz.ntmps37
  obtain ⟨y0, y1, y2, y3, y4, y5⟩ := W0.out.h0.six'
  obtain ⟨x0, x1, x2⟩ := W0.out.h1.three
  go_wp2_with fail
  refine (plRack_c k _).mono ?_; rintro e w9 ⟨rfl, rfl⟩; rw [HRK.out]
  go_wp2_with fail
  refine (vGetA hn _ W0.out.at_).mono ?_; rintro e w1 ⟨rfl, h1, h2⟩; have W1 := hidp (W0.out.call h1 h2); clear h1 h2 W0; rw [HRV.out]
  obtain ⟨y0, y1, y2, y3, y4, y5⟩ := W1.out.h0.six'
  obtain ⟨x0, x1, x2⟩ := W1.out.h1.three
  obtain ⟨z0, z1, z2, z3, z4, z5⟩ := W1.out.h0.six'
  have f0 := W1.out.h0.thawed 0
  have f1 := W1.out.h0.thawed 1
  have f2 := W1.out.h0.thawed 2
  have f3 := W1.out.h0.thawed 3
  have f4 := W1.out.h0.thawed 4
  have f5 := W1.out.h0.thawed 5
  have W2 := hidp ((((((W1.out.put 0 (.pointer (some ⟨b, 0, none⟩))).put 1 (.int .i64 t)).put 2 (.int .i64 q)).put 3 (.int .i64 s)).put 4 (.int .i64 ((rv : Int) - 1))).put 5 (.int .i64 k))
  obtain ⟨r0, r1, r2, r3, r4, r5⟩ := W2.out.h0.six'
  go_wp2
  refine bodyPost_ret (v := .tuple #[.agg #[.pointer (some ⟨b, 0, none⟩), .int .i64 t, .int .i64 q, .int .i64 s, .int .i64 ((rv : Int) - 1), .int .i64 k], .bool true]) (by simp [results, Tryz.results37, go_sem, r0, r1, r2, r3, r4, r5]) rfl ⟨rfl, ?_⟩
  exact W2.out.fin

set_option maxHeartbeats 6400000 in
theorem sfFirst_none (hn : n < 2 ^ 40) (hq : q ≤ 1024) (k0 : 0 ≤ k) (k8 : k ≤ 8) (hr : getV n K st (13 + k) = 0) (s1 : Vst) (ht : takeI n K t q s 1 (getS n K st (13 + k)) = (none, s1)) (h : (vOb base b n wh K).At w0 A G st w) :
    Calls Tryz.prog 37 #[.pointer (some ⟨b, 0, none⟩), .agg #[.int .i64 t, .int .i64 q, .int .i64 s], .int .i64 k] w fun e w' => e = .returned (.tuple #[.agg #[.pointer none, .int .i64 0, .int .i64 0, .int .i64 0, .int .i64 0, .int .i64 0], .bool false]) ∧ (vOb base b n wh K).At w0 A G (s1) w' ∧ Stay G w w' := by
  have W0 := hidp (((WL.start h).new 23 #[.int .i64 t, .int .i64 q, .int .i64 s]).new 77 #[.pointer none, .int .i64 0, .int .i64 0, .int .i64 0, .int .i64 0, .int .i64 0])
  simp only [World.size_alloc] at W0
  have HRK := hidp (rack_at k0 k8)
  have HRV := hidp hr
  have HTK := hidp ht
  clear h hr ht
  go_enter Tryz.func37, Tryz.ntmps37
  obtain ⟨y0, y1, y2, y3, y4, y5⟩ := W0.out.h0.six'
  obtain ⟨x0, x1, x2⟩ := W0.out.h1.three
  go_wp2_with fail
  refine (plRack_c k _).mono ?_; rintro e w9 ⟨rfl, rfl⟩; rw [HRK.out]
  go_wp2_with fail
  refine (vGetA hn _ W0.out.at_).mono ?_; rintro e w1 ⟨rfl, h1, h2⟩; have W1 := hidp (W0.out.call h1 h2); clear h1 h2 W0; rw [HRV.out]
  obtain ⟨y0, y1, y2, y3, y4, y5⟩ := W1.out.h0.six'
  obtain ⟨x0, x1, x2⟩ := W1.out.h1.three
  go_wp2_with fail
  refine (snTake_c hn hq 1 W1.out.at_).mono ?_; rintro e w2 ⟨rfl, h1, h2⟩; have W2 := hidp (W1.out.call h1 h2); clear h1 h2 W1; rw [HTK.out] at W2 ⊢; dsimp only [foundI, Option.isSome] at W2 ⊢
  obtain ⟨y0, y1, y2, y3, y4, y5⟩ := W2.out.h0.six'
  obtain ⟨x0, x1, x2⟩ := W2.out.h1.three
  obtain ⟨z0, z1, z2, z3, z4, z5⟩ := W2.out.h0.six'
  have f0 := W2.out.h0.thawed 0
  have f1 := W2.out.h0.thawed 1
  have f2 := W2.out.h0.thawed 2
  have f3 := W2.out.h0.thawed 3
  have f4 := W2.out.h0.thawed 4
  have f5 := W2.out.h0.thawed 5
  have W3 := hidp ((((((W2.out.put 0 (.pointer none)).put 1 (.int .i64 0)).put 2 (.int .i64 0)).put 3 (.int .i64 0)).put 4 (.int .i64 0)).put 5 (.int .i64 0))
  obtain ⟨r0, r1, r2, r3, r4, r5⟩ := W3.out.h0.six'
  go_wp2
  refine bodyPost_ret (v := .tuple #[.agg #[.pointer none, .int .i64 0, .int .i64 0, .int .i64 0, .int .i64 0, .int .i64 0], .bool false]) (by simp [results, Tryz.results37, go_sem, r0, r1, r2, r3, r4, r5]) rfl ⟨rfl, ?_⟩
  exact W3.out.fin

set_option maxHeartbeats 6400000 in
theorem sfFirst_some (hn : n < 2 ^ 40) (hq : q ≤ 1024) (k0 : 0 ≤ k) (k8 : k ≤ 8) (hr : getV n K st (13 + k) = 0) (p : Nat) (s1 : Vst) (ht : takeI n K t q s 1 (getS n K st (13 + k)) = (some p, s1)) (h : (vOb base b n wh K).At w0 A G st w) :
    Calls Tryz.prog 37 #[.pointer (some ⟨b, 0, none⟩), .agg #[.int .i64 t, .int .i64 q, .int .i64 s], .int .i64 k] w fun e w' => e = .returned (.tuple #[.agg #[.pointer (some ⟨b, 0, none⟩), .int .i64 t, .int .i64 q, .int .i64 s, .int .i64 (p : Int), .int .i64 k], .bool true]) ∧ (vOb base b n wh K).At w0 A G (slabS n K t q s k p s1) w' ∧ Stay G w w' := by
  have W0 := hidp (((WL.start h).new 23 #[.int .i64 t, .int .i64 q, .int .i64 s]).new 77 #[.pointer none, .int .i64 0, .int .i64 0, .int .i64 0, .int .i64 0, .int .i64 0])
  simp only [World.size_alloc] at W0
  have HRK := hidp (rack_at k0 k8)
  have HRV := hidp hr
  have HTK := hidp ht
  have HIV := hidp (infoV_lt 3 1 k)
  have hq2 : q ≤ 2 ^ 31 := by omega
  clear h hr ht
  go_enter Tryz.func37, Tryz.ntmps37
  obtain ⟨y0, y1, y2, y3, y4, y5⟩ := W0.out.h0.six'
  obtain ⟨x0, x1, x2⟩ := W0.out.h1.three
  go_wp2_with fail
  refine (plRack_c k _).mono ?_; rintro e w9 ⟨rfl, rfl⟩; rw [HRK.out]
  go_wp2_with fail
  refine (vGetA hn _ W0.out.at_).mono ?_; rintro e w1 ⟨rfl, h1, h2⟩; have W1 := hidp (W0.out.call h1 h2); clear h1 h2 W0; rw [HRV.out]
  obtain ⟨y0, y1, y2, y3, y4, y5⟩ := W1.out.h0.six'
  obtain ⟨x0, x1, x2⟩ := W1.out.h1.three
  go_wp2_with fail
  refine (snTake_c hn hq 1 W1.out.at_).mono ?_; rintro e w2 ⟨rfl, h1, h2⟩; have W2 := hidp (W1.out.call h1 h2); clear h1 h2 W1; rw [HTK.out] at W2 ⊢; dsimp only [foundI, Option.isSome] at W2 ⊢
  obtain ⟨y0, y1, y2, y3, y4, y5⟩ := W2.out.h0.six'
  obtain ⟨x0, x1, x2⟩ := W2.out.h1.three
  go_wp2_with fail
  generalize hNP : w2.heap.size = NP at *
  replace W2 := hidp (W2.out.new 77 #[.pointer (some ⟨b, 0, none⟩), .int .i64 t, .int .i64 q, .int .i64 s, .int .i64 (p : Int), .int .i64 k])
  rw [hNP] at W2
  obtain ⟨g0, g1, g2, g3, g4, g5⟩ := W2.out.h0.six'
  obtain ⟨y0, y1, y2, y3, y4, y5⟩ := W2.out.h1.six'
  obtain ⟨x0, x1, x2⟩ := W2.out.h2.three
  refine (inPut_c 3 1 k _).mono ?_; rintro e w3 ⟨rfl, hb⟩; have W3 := hidp (W2.out.keep hb); clear hb W2
  obtain ⟨g0, g1, g2, g3, g4, g5⟩ := W3.out.h0.six'
  obtain ⟨y0, y1, y2, y3, y4, y5⟩ := W3.out.h1.six'
  obtain ⟨x0, x1, x2⟩ := W3.out.h2.three
  go_wp2_with fail
  refine wp_region_held_drew (S := (fun w' => w'.cell? ⟨NP, 0, none⟩ = some (.pointer (some ⟨b, 0, none⟩)) ∧ w'.cell? ⟨w.heap.size, 0, none⟩ = some (.int .i64 t) ∧ w'.cell? ⟨w.heap.size, 1, none⟩ = some (.int .i64 q) ∧ w'.cell? ⟨w.heap.size, 2, none⟩ = some (.int .i64 s))) (by kernel_rfl) ?_ (fun hHeld => ?_)
  · (try dsimp only)
    exact ⟨W3.out.drew.h0.six'.1, W3.out.drew.h2.three.1, W3.out.drew.h2.three.2.1, W3.out.drew.h2.three.2.2⟩
  refine tkz 0 ?_
  refine tkz 1 ?_
  refine tkz 2 ?_
  refine tkz 3 ?_
  refine tkz 5 ?_
  refine wpAnyH_ready (rs := [4]) (by kernel_rfl) (by simp) ?_
  refine AllReadyH.cons (o := _) rfl (fun K hK => ?_) AllReadyH.nil
  go_simp
  refine (plInfo_c t q s (p : Int) _).mono ?_; rintro e w4 ⟨rfl, hb⟩; have W4 := hidp (W3.out.drew.keep hb); clear hb W3
  refine hK.out _ _ ?_ (fun hHeld => ?_)
  · (try dsimp only)
    exact ⟨W4.out.h0.six'.1, W4.out.h2.three.1, W4.out.h2.three.2.1, W4.out.h2.three.2.2⟩
  clear hK K
  (try simp only [Act.put, gA, gB, gC, sA, sB, sC])
  refine wpAnyH_ready (rs := [6]) (by kernel_rfl) (by simp) ?_
  refine AllReadyH.cons (o := _) rfl (fun K hK => ?_) AllReadyH.nil
  go_simp
  refine (vPutA hn _ _ HIV.out W4.out.at_).mono ?_; rintro e w5 ⟨rfl, h1, h2⟩; have W5 := hidp (W4.out.call h1 h2); clear h1 h2 W4
  refine hK.out _ _ ?_ (fun hHeld => ?_)
  · (try dsimp only)
    exact ⟨W5.out.h0.six'.1, W5.out.h2.three.1, W5.out.h2.three.2.1, W5.out.h2.three.2.2⟩
  clear hK K
  (try simp only [Act.put, gA, gB, gC, sA, sB, sC])
  refine wpAnyH_done (by kernel_rfl) ?_ _
  obtain ⟨g0, g1, g2, g3, g4, g5⟩ := W5.out.h0.six'
  obtain ⟨y0, y1, y2, y3, y4, y5⟩ := W5.out.h1.six'
  obtain ⟨x0, x1, x2⟩ := W5.out.h2.three
  go_wp2_with fail
  refine (sbPush_c hn hq2 (p : Int) k0 k8 W5.out.at_).mono ?_; rintro e w6 ⟨rfl, h1, h2⟩; have W6 := hidp (W5.out.call h1 h2); clear h1 h2 W5
  obtain ⟨g0, g1, g2, g3, g4, g5⟩ := W6.out.h0.six'
  obtain ⟨y0, y1, y2, y3, y4, y5⟩ := W6.out.h1.six'
  obtain ⟨x0, x1, x2⟩ := W6.out.h2.three
  have W7 := hidp W6.out.swap
  obtain ⟨z0, z1, z2, z3, z4, z5⟩ := W7.out.h0.six'
  have f0 := W7.out.h0.thawed 0
  have f1 := W7.out.h0.thawed 1
  have f2 := W7.out.h0.thawed 2
  have f3 := W7.out.h0.thawed 3
  have f4 := W7.out.h0.thawed 4
  have f5 := W7.out.h0.thawed 5
  have W8 := hidp ((((((W7.out.put 0 (.pointer (some ⟨b, 0, none⟩))).put 1 (.int .i64 t)).put 2 (.int .i64 q)).put 3 (.int .i64 s)).put 4 (.int .i64 (p : Int))).put 5 (.int .i64 k))
  obtain ⟨r0, r1, r2, r3, r4, r5⟩ := W8.out.h0.six'
  go_wp2
  refine bodyPost_ret (v := .tuple #[.agg #[.pointer (some ⟨b, 0, none⟩), .int .i64 t, .int .i64 q, .int .i64 s, .int .i64 (p : Int), .int .i64 k], .bool true]) (by simp [results, Tryz.results37, go_sem, r0, r1, r2, r3, r4, r5]) rfl ⟨rfl, ?_⟩
  exact W8.out.fin

def PickEnd (O : Ob) (w0 : World) (A G : Nat → Prop) (x : Option (Nat × List Nat)) (s : Vst) (w : World) (e : Ending) (w' : World) : Prop :=
  ∃ u, e = .returned (.tuple #[.int .i64 (pickP x), u, .bool x.isSome]) ∧ WalkEnd O w0 A G (pickL x) s w (.returned u) w'
theorem PickEnd.no {O : Ob} {w0 w ws : World} {A G : Nat → Prop} {st : Vst} (h : O.At w0 A G st w) (hS : Stay G ws w) : PickEnd O w0 A G none st ws (.returned (.tuple #[.int .i64 (-1), .slice none 0 0, .bool false])) w := ⟨_, rfl, WalkEnd.nil_ h hS⟩
theorem pickAt_is {p w : Nat} : (pickAt n K t q s k p w st).1 = none ∨ ∃ l, l ≠ [] ∧ (pickAt n K t q s k p w st).1 = some (p, l) := by
  unfold pickAt
  split
  · exact .inl rfl
  · exact .inr ⟨_, by assumption, rfl⟩

set_option maxHeartbeats 6400000 in
theorem slPick_bad_k (hn : n < 2 ^ 40) (hq : q ≤ 1024) (hk0 : -9223372036854775808 ≤ k) (hk1 : k ≤ 9223372036854775807) (hT : SlotsLaid w0) (hA : ¬ A 0) (want : Int) (hb : k < 0 ∨ 8 < k) (h : (vOb base b n wh K).At w0 A G st w) :
    Calls Tryz.prog 12 #[.pointer (some ⟨b, 0, none⟩), .agg #[.int .i64 t, .int .i64 q, .int .i64 s], .int .i64 k, .int .i64 want] w (PickEnd (vOb base b n wh K) w0 A G none st w) := by
  have W0 := hidp ((WL.start h).new 23 #[.int .i64 t, .int .i64 q, .int .i64 s])
  have HTL := hidp hT
  have HMM := hidp (slotI_out (k := k) (by omega))
  have t0 : (((0 : Nat) : Int) == 0) = true := rfl
  clear h hT
  go_enter Tryz.func12, Tryz.ntmps12
  obtain ⟨x0, x1, x2⟩ := W0.out.h0.three
  go_wp2_with fail
  refine (clSlots_c k hk0 hk1 _ (HTL.out.at_ hA W0.out.at_)).mono ?_; rintro e w9 ⟨rfl, rfl⟩; rw [HMM.out]
  go_wp2
  go_ret3
  exact PickEnd.no W0.out.fin.1 W0.out.fin.2

set_option maxHeartbeats 6400000 in
theorem slPick_bad_low (hn : n < 2 ^ 40) (hq : q ≤ 1024) (hk0 : -9223372036854775808 ≤ k) (hk1 : k ≤ 9223372036854775807) (hT : SlotsLaid w0) (hA : ¬ A 0) (want : Int) (k0 : 0 ≤ k) (k8 : k ≤ 8) (hb : want < 1) (h : (vOb base b n wh K).At w0 A G st w) :
    Calls Tryz.prog 12 #[.pointer (some ⟨b, 0, none⟩), .agg #[.int .i64 t, .int .i64 q, .int .i64 s], .int .i64 k, .int .i64 want] w (PickEnd (vOb base b n wh K) w0 A G none st w) := by
  have W0 := hidp ((WL.start h).new 23 #[.int .i64 t, .int .i64 q, .int .i64 s])
  have HTL := hidp hT
  obtain ⟨m, hm⟩ : ∃ m, slotI k = m := ⟨_, rfl⟩
  have hm0 : m ≠ 0 := fun e => by have := slotI_zero.1 (hm.trans e); omega
  have HMM := hidp hm
  have t0 : ((m : Int) == 0) = false := by simp; omega
  have t1 : decide (want < (1 : Int)) = true := decide_eq_true hb
  clear hm
  clear h hT
  go_enter Tryz.func12, Tryz.ntmps12
  obtain ⟨x0, x1, x2⟩ := W0.out.h0.three
  go_wp2_with fail
  refine (clSlots_c k hk0 hk1 _ (HTL.out.at_ hA W0.out.at_)).mono ?_; rintro e w9 ⟨rfl, rfl⟩; rw [HMM.out]
  go_wp2
  go_ret3
  exact PickEnd.no W0.out.fin.1 W0.out.fin.2

set_option maxHeartbeats 6400000 in
theorem slPick_bad_high (hn : n < 2 ^ 40) (hq : q ≤ 1024) (hk0 : -9223372036854775808 ≤ k) (hk1 : k ≤ 9223372036854775807) (hT : SlotsLaid w0) (hA : ¬ A 0) (want : Int) (k0 : 0 ≤ k) (k8 : k ≤ 8) (hb : 4 < want) (h : (vOb base b n wh K).At w0 A G st w) :
    Calls Tryz.prog 12 #[.pointer (some ⟨b, 0, none⟩), .agg #[.int .i64 t, .int .i64 q, .int .i64 s], .int .i64 k, .int .i64 want] w (PickEnd (vOb base b n wh K) w0 A G none st w) := by
  have W0 := hidp ((WL.start h).new 23 #[.int .i64 t, .int .i64 q, .int .i64 s])
  have HTL := hidp hT
  obtain ⟨m, hm⟩ : ∃ m, slotI k = m := ⟨_, rfl⟩
  have hm0 : m ≠ 0 := fun e => by have := slotI_zero.1 (hm.trans e); omega
  have HMM := hidp hm
  have t0 : ((m : Int) == 0) = false := by simp; omega
  have t1 : decide (want < (1 : Int)) = false := decide_eq_false (by omega)
  have t2 : decide ((4 : Int) < want) = true := decide_eq_true hb
  clear hm
  clear h hT
  go_enter Tryz.func12, Tryz.ntmps12
  obtain ⟨x0, x1, x2⟩ := W0.out.h0.three
  go_wp2_with fail
  refine (clSlots_c k hk0 hk1 _ (HTL.out.at_ hA W0.out.at_)).mono ?_; rintro e w9 ⟨rfl, rfl⟩; rw [HMM.out]
  go_wp2
  go_ret3
  exact PickEnd.no W0.out.fin.1 W0.out.fin.2

set_option maxHeartbeats 6400000 in
theorem slPick_none (hn : n < 2 ^ 40) (hq : q ≤ 1024) (hk0 : -9223372036854775808 ≤ k) (hk1 : k ≤ 9223372036854775807) (hT : SlotsLaid w0) (hA : ¬ A 0) (k0 : 0 ≤ k) (k8 : k ≤ 8) (wn : Nat) (hw : 1 ≤ wn) (hw2 : wn ≤ 4) (hr : getV n K st (13 + k) = 0) (s1 : Vst) (ht : takeI n K t q s 1 (getS n K st (13 + k)) = (none, s1)) (h : (vOb base b n wh K).At w0 A G st w) :
    Calls Tryz.prog 12 #[.pointer (some ⟨b, 0, none⟩), .agg #[.int .i64 t, .int .i64 q, .int .i64 s], .int .i64 k, .int .i64 (wn : Int)] w (PickEnd (vOb base b n wh K) w0 A G none s1 w) := by
  have W0 := hidp ((WL.start h).new 23 #[.int .i64 t, .int .i64 q, .int .i64 s])
  have HTL := hidp hT
  obtain ⟨m, hm⟩ : ∃ m, slotI k = m := ⟨_, rfl⟩
  have hm0 : m ≠ 0 := fun e => by have := slotI_zero.1 (hm.trans e); omega
  have HMM := hidp hm
  have t0 : ((m : Int) == 0) = false := by simp; omega
  have t1 : decide ((wn : Int) < (1 : Int)) = false := decide_eq_false (by omega)
  have t2 : decide ((4 : Int) < (wn : Int)) = false := decide_eq_false (by omega)
  clear hm
  have HR := hidp hr
  have HTK := hidp ht
  clear h hT hr ht
  go_enter Tryz.func12, Tryz.ntmps12
  obtain ⟨x0, x1, x2⟩ := W0.out.h0.three
  go_wp2_with fail
  refine (clSlots_c k hk0 hk1 _ (HTL.out.at_ hA W0.out.at_)).mono ?_; rintro e w9 ⟨rfl, rfl⟩; rw [HMM.out]
  go_wp2_with fail
  refine (sfFirst_none hn hq k0 k8 HR.out s1 HTK.out W0.out.at_).mono ?_; rintro e w1 ⟨rfl, h1, h2⟩; have W1 := hidp (W0.out.call h1 h2); clear h1 h2 W0
  obtain ⟨x0, x1, x2⟩ := W1.out.h0.three
  replace W1 := hidp (W1.out.new 77 #[.pointer none, .int .i64 0, .int .i64 0, .int .i64 0, .int .i64 0, .int .i64 0])
  obtain ⟨g0, g1, g2, g3, g4, g5⟩ := W1.out.h0.six'
  obtain ⟨x0, x1, x2⟩ := W1.out.h1.three
  go_wp2
  go_ret3
  exact PickEnd.no W1.out.fin.1 W1.out.fin.2

set_option maxHeartbeats 6400000 in
theorem slPick_atN (hn : n < 2 ^ 40) (hq : q ≤ 1024) (hk0 : -9223372036854775808 ≤ k) (hk1 : k ≤ 9223372036854775807) (hT : SlotsLaid w0) (hA : ¬ A 0) (k0 : 0 ≤ k) (k8 : k ≤ 8) (wn : Nat) (hw : 1 ≤ wn) (hw2 : wn ≤ 4) (p : Nat) (s2 : Vst) (HF : Hid (∀ (G' : Nat → Prop) (W' : World), (vOb base b n wh K).At w0 A G' st W' → Calls Tryz.prog 37 #[.pointer (some ⟨b, 0, none⟩), .agg #[.int .i64 t, .int .i64 q, .int .i64 s], .int .i64 k] W' fun e w' => e = .returned (.tuple #[.agg #[.pointer (some ⟨b, 0, none⟩), .int .i64 t, .int .i64 q, .int .i64 s, .int .i64 (p : Int), .int .i64 k], .bool true]) ∧ (vOb base b n wh K).At w0 A G' s2 w' ∧ Stay G' W' w')) (s3 : Vst) (hx : pickAt n K t q s k p wn s2 = (none, s3)) (h : (vOb base b n wh K).At w0 A G st w) :
    Calls Tryz.prog 12 #[.pointer (some ⟨b, 0, none⟩), .agg #[.int .i64 t, .int .i64 q, .int .i64 s], .int .i64 k, .int .i64 (wn : Int)] w (PickEnd (vOb base b n wh K) w0 A G none s3 w) := by
  have W0 := hidp ((WL.start h).new 23 #[.int .i64 t, .int .i64 q, .int .i64 s])
  have HTL := hidp hT
  obtain ⟨m, hm⟩ : ∃ m, slotI k = m := ⟨_, rfl⟩
  have hm0 : m ≠ 0 := fun e => by have := slotI_zero.1 (hm.trans e); omega
  have HMM := hidp hm
  have t0 : ((m : Int) == 0) = false := by simp; omega
  have t1 : decide ((wn : Int) < (1 : Int)) = false := decide_eq_false (by omega)
  have t2 : decide ((4 : Int) < (wn : Int)) = false := decide_eq_false (by omega)
  clear hm
  have hq2 : q ≤ 2 ^ 31 := by omega
  have HX := hidp hx
  clear h hT hx
  go_enter Tryz.func12, Tryz.ntmps12
  obtain ⟨x0, x1, x2⟩ := W0.out.h0.three
  go_wp2_with fail
  refine (clSlots_c k hk0 hk1 _ (HTL.out.at_ hA W0.out.at_)).mono ?_; rintro e w9 ⟨rfl, rfl⟩; rw [HMM.out]
  go_wp2_with fail
  refine (HF.out _ _ W0.out.at_).mono ?_; rintro e w1 ⟨rfl, h1, h2⟩; have W1 := hidp (W0.out.call h1 h2); clear h1 h2 W0
  obtain ⟨x0, x1, x2⟩ := W1.out.h0.three
  generalize hNP : w1.heap.size = NP at *
  replace W1 := hidp (W1.out.new 77 #[.pointer (some ⟨b, 0, none⟩), .int .i64 t, .int .i64 q, .int .i64 s, .int .i64 (p : Int), .int .i64 k])
  rw [hNP] at W1
  obtain ⟨g0, g1, g2, g3, g4, g5⟩ := W1.out.h0.six'
  obtain ⟨x0, x1, x2⟩ := W1.out.h1.three
  go_wp2_with fail
  refine (sbPick_c hn hq2 p wn hw (by omega) k0 k8 HTL.out hA W1.out.at_).mono ?_
  rintro e w2 ⟨u, hu, ho, hA2, hS⟩
  rw [HX.out] at ho hA2
  subst hu
  dsimp only [pickL] at ho hA2
  rw [List.length_nil] at ho
  obtain ⟨A2, c2, hu2⟩ := own_slice ho
  subst hu2
  have hcc := own_caps9 ho
  have HP := hidp (hS.held (.inr ⟨_, List.mem_cons_self .., rfl⟩) W1.out.h0)
  obtain ⟨p0, p1, p2, p3, p4, p5⟩ := HP.out.six'
  have HOW := hidp ho
  have HAT := hidp hA2
  have HST := hidp (W1.out.stay.trans (hS.less fun g x => .inl x))
  have HZ0 := hidp W1.out.stay.1
  clear ho hA2 hS
  go_wp2
  go_ret3
  exact PickEnd.no (HAT.out.less fun g x => .inl (.inl x)) HST.out

set_option maxHeartbeats 6400000 in
theorem slPick_atS (hn : n < 2 ^ 40) (hq : q ≤ 1024) (hk0 : -9223372036854775808 ≤ k) (hk1 : k ≤ 9223372036854775807) (hT : SlotsLaid w0) (hA : ¬ A 0) (k0 : 0 ≤ k) (k8 : k ≤ 8) (wn : Nat) (hw : 1 ≤ wn) (hw2 : wn ≤ 4) (p : Nat) (s2 : Vst) (HF : Hid (∀ (G' : Nat → Prop) (W' : World), (vOb base b n wh K).At w0 A G' st W' → Calls Tryz.prog 37 #[.pointer (some ⟨b, 0, none⟩), .agg #[.int .i64 t, .int .i64 q, .int .i64 s], .int .i64 k] W' fun e w' => e = .returned (.tuple #[.agg #[.pointer (some ⟨b, 0, none⟩), .int .i64 t, .int .i64 q, .int .i64 s, .int .i64 (p : Int), .int .i64 k], .bool true]) ∧ (vOb base b n wh K).At w0 A G' s2 w' ∧ Stay G' W' w')) (s3 : Vst) (l : List Nat) (hl : l ≠ []) (hx : pickAt n K t q s k p wn s2 = (some (p, l), s3)) (h : (vOb base b n wh K).At w0 A G st w) :
    Calls Tryz.prog 12 #[.pointer (some ⟨b, 0, none⟩), .agg #[.int .i64 t, .int .i64 q, .int .i64 s], .int .i64 k, .int .i64 (wn : Int)] w (PickEnd (vOb base b n wh K) w0 A G (some (p, l)) s3 w) := by
  have W0 := hidp ((WL.start h).new 23 #[.int .i64 t, .int .i64 q, .int .i64 s])
  have HTL := hidp hT
  obtain ⟨m, hm⟩ : ∃ m, slotI k = m := ⟨_, rfl⟩
  have hm0 : m ≠ 0 := fun e => by have := slotI_zero.1 (hm.trans e); omega
  have HMM := hidp hm
  have t0 : ((m : Int) == 0) = false := by simp; omega
  have t1 : decide ((wn : Int) < (1 : Int)) = false := decide_eq_false (by omega)
  have t2 : decide ((4 : Int) < (wn : Int)) = false := decide_eq_false (by omega)
  clear hm
  have hq2 : q ≤ 2 ^ 31 := by omega
  have HX := hidp hx
  obtain ⟨nl, hnl⟩ : ∃ nl, l.length = nl := ⟨_, rfl⟩
  have hnl1 : 1 ≤ nl := by rw [← hnl]; cases l with | nil => exact absurd rfl hl | cons a r => simp
  have HNL := hidp hnl
  have t3 : ((nl : Int) == 0) = false := by simp; omega
  clear hl hnl
  clear h hT hx
  go_enter Tryz.func12, Tryz.ntmps12
  obtain ⟨x0, x1, x2⟩ := W0.out.h0.three
  go_wp2_with fail
  refine (clSlots_c k hk0 hk1 _ (HTL.out.at_ hA W0.out.at_)).mono ?_; rintro e w9 ⟨rfl, rfl⟩; rw [HMM.out]
  go_wp2_with fail
  refine (HF.out _ _ W0.out.at_).mono ?_; rintro e w1 ⟨rfl, h1, h2⟩; have W1 := hidp (W0.out.call h1 h2); clear h1 h2 W0
  obtain ⟨x0, x1, x2⟩ := W1.out.h0.three
  generalize hNP : w1.heap.size = NP at *
  replace W1 := hidp (W1.out.new 77 #[.pointer (some ⟨b, 0, none⟩), .int .i64 t, .int .i64 q, .int .i64 s, .int .i64 (p : Int), .int .i64 k])
  rw [hNP] at W1
  obtain ⟨g0, g1, g2, g3, g4, g5⟩ := W1.out.h0.six'
  obtain ⟨x0, x1, x2⟩ := W1.out.h1.three
  go_wp2_with fail
  refine (sbPick_c hn hq2 p wn hw (by omega) k0 k8 HTL.out hA W1.out.at_).mono ?_
  rintro e w2 ⟨u, hu, ho, hA2, hS⟩
  rw [HX.out] at ho hA2
  subst hu
  dsimp only [pickL] at ho hA2
  rw [HNL.out] at ho
  obtain ⟨A2, c2, hu2⟩ := own_slice ho
  subst hu2
  have hcc := own_caps9 ho
  have HP := hidp (hS.held (.inr ⟨_, List.mem_cons_self .., rfl⟩) W1.out.h0)
  obtain ⟨p0, p1, p2, p3, p4, p5⟩ := HP.out.six'
  have HOW := hidp ho
  have HAT := hidp hA2
  have HST := hidp (W1.out.stay.trans (hS.less fun g x => .inl x))
  have HZ0 := hidp W1.out.stay.1
  clear ho hA2 hS
  go_wp2
  go_ret3
  refine ⟨_, rfl, _, rfl, ?_, HAT.out.less (fun g x => ?_), HST.out⟩
  · dsimp only [pickL]
    rw [HNL.out]
    exact own_lower HOW.out HZ0.out
  · rcases x with x | x
    · exact .inl (.inl x)
    · exact .inr x

theorem slPick_in (hn : n < 2 ^ 40) (hq : q ≤ 1024) (hk0 : -9223372036854775808 ≤ k) (hk1 : k ≤ 9223372036854775807) (hT : SlotsLaid w0) (hA : ¬ A 0) (k0 : 0 ≤ k) (k8 : k ≤ 8) (wn : Nat) (hw : 1 ≤ wn) (hw2 : wn ≤ 4) (h : (vOb base b n wh K).At w0 A G st w) :
    Calls Tryz.prog 12 #[.pointer (some ⟨b, 0, none⟩), .agg #[.int .i64 t, .int .i64 q, .int .i64 s], .int .i64 k, .int .i64 (wn : Int)] w (PickEnd (vOb base b n wh K) w0 A G (pickI n K t q s k wn st).1 (pickI n K t q s k wn st).2 w) := by
  have hat : ∀ (p : Nat) (s2 : Vst), (Hid (∀ (G' : Nat → Prop) (W' : World), (vOb base b n wh K).At w0 A G' st W' → Calls Tryz.prog 37 #[.pointer (some ⟨b, 0, none⟩), .agg #[.int .i64 t, .int .i64 q, .int .i64 s], .int .i64 k] W' fun e w' => e = .returned (.tuple #[.agg #[.pointer (some ⟨b, 0, none⟩), .int .i64 t, .int .i64 q, .int .i64 s, .int .i64 (p : Int), .int .i64 k], .bool true]) ∧ (vOb base b n wh K).At w0 A G' s2 w' ∧ Stay G' W' w')) →
      Calls Tryz.prog 12 #[.pointer (some ⟨b, 0, none⟩), .agg #[.int .i64 t, .int .i64 q, .int .i64 s], .int .i64 k, .int .i64 (wn : Int)] w (PickEnd (vOb base b n wh K) w0 A G (pickAt n K t q s k p wn s2).1 (pickAt n K t q s k p wn s2).2 w) := fun p s2 HF => by
    obtain ⟨⟨x, s3⟩, hx⟩ : ∃ x, pickAt n K t q s k p wn s2 = x := ⟨_, rfl⟩
    rcases pickAt_is (n := n) (K := K) (t := t) (q := q) (s := s) (k := k) (p := p) (w := wn) (st := s2) with h1 | ⟨l, hl, h1⟩
    · rw [hx] at h1 ⊢
      dsimp only at h1
      subst h1
      exact slPick_atN hn hq hk0 hk1 hT hA k0 k8 wn hw hw2 p s2 HF s3 hx h
    · rw [hx] at h1 ⊢
      dsimp only at h1
      subst h1
      exact slPick_atS hn hq hk0 hk1 hT hA k0 k8 wn hw hw2 p s2 HF s3 l hl hx h
  cases hr : getV n K st (13 + k) with
  | succ r =>
    rw [pickI_rack hr]
    exact hat r _ (hidp fun G' W' h' => sfFirst_rack hn hq k0 k8 r hr h')
  | zero =>
    obtain ⟨⟨o, s1⟩, ht⟩ : ∃ x, takeI n K t q s 1 (getS n K st (13 + k)) = x := ⟨_, rfl⟩
    cases o with
    | none =>
      rw [pickI_none hr ht]
      exact slPick_none hn hq hk0 hk1 hT hA k0 k8 wn hw hw2 hr s1 ht h
    | some p =>
      rw [pickI_fresh hr ht]
      exact hat p _ (hidp fun G' W' h' => sfFirst_some hn hq k0 k8 hr p s1 ht h')

def pickZ (n : Nat) (K : Nat → Option Nat) (t q s k want : Int) (st : Vst) : Option (Nat × List Nat) × Vst := if (0 ≤ k ∧ k ≤ 8) ∧ 1 ≤ want ∧ want ≤ 4 then pickI n K t q s k want.toNat st else (none, st)
theorem pickZ_no {want : Int} (h : ¬ ((0 ≤ k ∧ k ≤ 8) ∧ 1 ≤ want ∧ want ≤ 4)) : pickZ n K t q s k want st = (none, st) := by unfold pickZ; rw [if_neg h]
theorem pickZ_yes {wn : Nat} (k0 : 0 ≤ k) (k8 : k ≤ 8) (hw : 1 ≤ wn) (hw2 : wn ≤ 4) : pickZ n K t q s k (wn : Int) st = pickI n K t q s k wn st := by unfold pickZ; rw [if_pos ⟨⟨k0, k8⟩, by omega, by omega⟩, Int.toNat_natCast]
theorem slPick_c (hn : n < 2 ^ 40) (hq : q ≤ 1024) (hk0 : -9223372036854775808 ≤ k) (hk1 : k ≤ 9223372036854775807) (hT : SlotsLaid w0) (hA : ¬ A 0) (want : Int) (h : (vOb base b n wh K).At w0 A G st w) :
    Calls Tryz.prog 12 #[.pointer (some ⟨b, 0, none⟩), .agg #[.int .i64 t, .int .i64 q, .int .i64 s], .int .i64 k, .int .i64 want] w (PickEnd (vOb base b n wh K) w0 A G (pickZ n K t q s k want st).1 (pickZ n K t q s k want st).2 w) := by
  by_cases hb : (0 ≤ k ∧ k ≤ 8) ∧ 1 ≤ want ∧ want ≤ 4
  · obtain ⟨wn, rfl⟩ := Int.eq_ofNat_of_zero_le (show 0 ≤ want by omega)
    have e : pickZ n K t q s k (wn : Int) st = pickI n K t q s k wn st := pickZ_yes hb.1.1 hb.1.2 (by omega) (by omega)
    rw [e]
    exact slPick_in hn hq hk0 hk1 hT hA hb.1.1 hb.1.2 wn (by omega) (by omega) h
  · rw [pickZ_no hb]
    by_cases b1 : k < 0 ∨ 8 < k
    · exact slPick_bad_k hn hq hk0 hk1 hT hA want b1 h
    · by_cases b2 : want < 1
      · exact slPick_bad_low hn hq hk0 hk1 hT hA want (by omega) (by omega) b2 h
      · exact slPick_bad_high hn hq hk0 hk1 hT hA want (by omega) (by omega) (by omega) h

set_option maxHeartbeats 6400000 in
theorem slGive_at (hn : n < 2 ^ 40) (hq : q ≤ 1024) (p i : Nat) (hp : p ≤ 1024) (hi : i < 32) (hT : SlotsLaid w0) (hA : ¬ A 0) (kk l c : Int) (ok : Bool) (hI : infoOf n K t q s p st = (kk, l, c, ok)) (c0 : 0 ≤ c) (c8 : c ≤ 8) (h : (vOb base b n wh K).At w0 A G st w) :
    Calls Tryz.prog 20 #[.pointer (some ⟨b, 0, none⟩), .agg #[.int .i64 t, .int .i64 q, .int .i64 s], .int .i64 (p : Int), .int .i64 (i : Int)] w fun e w' => e = .returned (.tuple #[]) ∧ (vOb base b n wh K).At w0 A G (giveAt n K t q s c p i (getS n K st (pageI t q s p 0))) w' ∧ Stay G w w' := by
  have W0 := hidp ((WL.start h).new 23 #[.int .i64 t, .int .i64 q, .int .i64 s])
  obtain ⟨v, hv⟩ : ∃ v, getV n K st (pageI t q s p 0) = v := ⟨_, rfl⟩
  have hv32 : v < 2 ^ 32 := by rw [← hv]; exact vAt_lt h _
  have HI : Hid (infoG v = (kk, l, c, ok)) := hidp (by rw [← hv]; exact hI)
  have HV := hidp hv
  have HTL := hidp hT
  have t0 : decide ((i : Int) < (0 : Int)) = false := decide_eq_false (by omega)
  have t1 : decide ((32 : Int) ≤ (i : Int)) = false := decide_eq_false (by omega)
  clear h hI hv hT
  go_enter Tryz.func20, Tryz.ntmps20
  obtain ⟨x0, x1, x2⟩ := W0.out.h0.three
  go_wp2_with fail
  refine (plInfo_c t q s (p : Int) _).mono ?_; rintro e w1 ⟨rfl, hb⟩; have W1 := hidp (W0.out.keep hb); clear hb W0
  obtain ⟨x0, x1, x2⟩ := W1.out.h0.three
  go_wp2_with fail
  refine (vGetA hn _ W1.out.at_).mono ?_; rintro e w2 ⟨rfl, h1, h2⟩; have W2 := hidp (W1.out.call h1 h2); clear h1 h2 W1; rw [HV.out]
  obtain ⟨x0, x1, x2⟩ := W2.out.h0.three
  go_wp2_with fail
  refine (inGet_c v kk l c ok hv32 HI.out _).mono ?_; rintro e w3 ⟨rfl, hb⟩; have W3 := hidp (W2.out.keep hb); clear hb W2
  generalize hNI : w3.heap.size = NI at *
  replace W3 := hidp (W3.out.new 60 #[.int .i64 kk, .int .i64 l, .int .i64 c])
  rw [hNI] at W3
  obtain ⟨i0, i1, i2⟩ := W3.out.h0.three
  obtain ⟨x0, x1, x2⟩ := W3.out.h1.three
  go_wp2_with fail
  refine (sbGive_c hn hq p i hp hi c0 c8 HTL.out hA W3.out.at_).mono ?_; rintro e w4 ⟨rfl, h1, h2⟩; have W4 := hidp (W3.out.call h1 h2); clear h1 h2 W3
  obtain ⟨i0, i1, i2⟩ := W4.out.h0.three
  obtain ⟨x0, x1, x2⟩ := W4.out.h1.three
  go_wp2
  go_end0
  exact ⟨rfl, W4.out.fin⟩

theorem slGive_c (hn : n < 2 ^ 40) (hq : q ≤ 1024) (p i : Nat) (hp : p ≤ 1024) (hi : i < 32) (hT : SlotsLaid w0) (hA : ¬ A 0) (c0 : 0 ≤ (infoOf n K t q s p st).2.2.1) (c8 : (infoOf n K t q s p st).2.2.1 ≤ 8) (h : (vOb base b n wh K).At w0 A G st w) :
    Calls Tryz.prog 20 #[.pointer (some ⟨b, 0, none⟩), .agg #[.int .i64 t, .int .i64 q, .int .i64 s], .int .i64 (p : Int), .int .i64 (i : Int)] w fun e w' => e = .returned (.tuple #[]) ∧ (vOb base b n wh K).At w0 A G (giveS n K t q s p i st) w' ∧ Stay G w w' := by
  unfold giveS
  obtain ⟨⟨kk, l, c, ok⟩, hI⟩ : ∃ x, infoOf n K t q s p st = x := ⟨_, rfl⟩
  rw [hI] at c0 c8 ⊢
  exact slGive_at hn hq p i hp hi hT hA kk l c ok hI c0 c8 h

end
end
section
def exQ : Vst := (pickZ 82 ex14K 1 8 10 8 4 freshS).2
theorem ex16_pick : pickZ 82 ex14K 1 8 10 8 4 freshS = (some (0, [0, 1]), exQ) := by
  have h : (pickZ 82 ex14K 1 8 10 8 4 freshS).1 = some (0, [0, 1]) := by decide +kernel
  unfold exQ
  rw [← h]
theorem ex16_rack : getV 82 ex14K exQ 21 = 0 := by decide +kernel
theorem ex16_free : getV 82 ex14K (getS 82 ex14K exQ 21) 0 = 7 := by decide +kernel
section
variable {W w w' : World} {O1 O2 : Ob} {A B G : Nat → Prop} {s1 s2 s' : Vst}
theorem Duo.slots (h : Duo W O1 O2 A B G s1 s2 w) (hT : SlotsLaid W) : SlotsLaid w ∧ ¬ A 0 ∧ ¬ B 0 := by
  have hl : (0 : Nat) < W.heap.size := cell_lt16 (hT 0 (by omega))
  exact ⟨hT.below h.bel, fun x => by have := h.lo _ (.inl x); omega, fun x => by have := h.lo _ (.inr x); omega⟩
theorem Duo.pick1 {x : Option (Nat × List Nat)} {e : Ending} (h : Duo W O1 O2 A B G s1 s2 w) (hw : PickEnd O1 w A (fun _ => False) x s' w e w') :
    ∃ u A', e = .returned (.tuple #[.int .i64 (pickP x), u, .bool x.isSome]) ∧ w'.ownsRow w.heap.size 3 1 u (pickL x).length (ntVs (pickL x)) ∧ Duo W O1 O2 A' B (GU G u) s' s2 w' ∧ Stay G w w' := by
  obtain ⟨u, he, hw2⟩ := hw
  obtain ⟨u2, A', he2, ho, hD, hS⟩ := h.walk1 hw2
  injection he2 with he2
  subst he2
  exact ⟨u, A', he, ho, hD, hS⟩
end
set_option maxHeartbeats 3200000 in
theorem live16_c (w : World) (hT : SlotsLaid w) : Calls Tryz.prog 9 #[] w fun e w' => e = .returned (.bool true) ∧ Below w.heap.size w w' := by
  have HPK := hidp ex16_pick
  have HRA := hidp ex16_rack
  have HFR := hidp ex16_free
  have HTL := hidp hT
  clear hT
  go_enter Tryz.func9, Tryz.ntmps9
  go_wp2_with fail
  refine (Eight14_c _).mono ?_
  rintro e w1 ⟨g, rfl, hg, hb⟩
  have HG := hidp (hg.alloc (.cells #[.int .i64 1, .int .i64 8, .int .i64 10] 23))
  have HC := hidp (Held.new w1 23 #[.int .i64 1, .int .i64 8, .int .i64 10])
  have HB := hidp (Bnew hb (.cells #[.int .i64 1, .int .i64 8, .int .i64 10] 23))
  clear hg hb
  obtain ⟨x0, x1, x2⟩ := HC.out.three
  go_wp2_with fail
  generalize hNC : w1.heap.size = NC at *
  generalize hW1 : w1.alloc (.cells #[.int .i64 1, .int .i64 8, .int .i64 10] 23) = W1 at *
  clear hNC hW1
  refine (Whole_c (some ⟨g, 0, none⟩) 82 ex14L 82 ex14_len (by omega) ex14_32 _ (fun _ => ⟨_, rfl, ex14_cells HG.out⟩)).mono ?_
  rintro e w3 ⟨b, o, rfl, hI, hB⟩
  have HD := hidp (duo_made (W := w) (G := fun i => i = NC) hI HB.out.size (Bgo HB.out hB) (fun i hi => by
    have h1 := HC.out.lt
    have h3 := hB.size
    rcases hi with rfl
    exact ⟨by omega, fun x => by have := hI.ge _ x; omega⟩))
  replace HC := hidp (HC.out.keep hB)
  clear hI hB HB HG
  clear x0 x1 x2
  obtain ⟨x0, x1, x2⟩ := HC.out.three
  go_wp2_with fail
  refine (slPick_c (t := 1) (q := 8) (s := 10) (k := 8) (by omega) (by omega) (by omega) (by omega) (HD.out.slots HTL.out).1 (HD.out.slots HTL.out).2.1 4 HD.out.at1).mono ?_
  rintro e w4 h1
  obtain ⟨u, A4, rfl, ho, h2, h3⟩ := HD.out.pick1 h1
  rw [show (fun i => ex14L[i]?) = ex14K from rfl] at h2 ho ⊢
  rw [HPK.out] at h2 ho ⊢
  dsimp only [pickP, pickL, Option.isSome] at h2 ho ⊢
  replace HC := hidp (h3.held rfl HC.out)
  replace HD : Hid (Duo w (vOb _ b 82 true ex14K) noOb A4 (fun _ => False) (fun i => i = NC) exQ freshS w4) := hidp (h2.less fun g x => .inl x)
  have HR1 : Hid (RowV (w4.alloc (.cells #[.int .i64 0, .int .i64 1] 3)) u (([0, 1] : List Int).map (Value.int .i64))) := hidp ((RowV.of_own ho).alloc _)
  have HR2 : Hid (RowV (w4.alloc (.cells #[.int .i64 0, .int .i64 1] 3)) (.slice (some ⟨w4.heap.size, 0, none⟩) 2 2) (([0, 1] : List Int).map (Value.int .i64))) := hidp (RowV.lit w4 #[.int .i64 0, .int .i64 1] 3 2 rfl (by unfold maxLen; omega))
  replace HC := hidp (HC.out.alloc (.cells #[.int .i64 0, .int .i64 1] 3))
  replace HD := hidp (HD.out.keep (Bnew (B0 w4) (.cells #[.int .i64 0, .int .i64 1] 3)))
  clear h1 h2 h3 ho
  clear x0 x1 x2
  go_wp2_with fail
  refine (Ints_same [0, 1] u _ _ HR1.out HR2.out).mono ?_
  rintro e w5 ⟨rfl, n5, hw5⟩
  replace HD : Hid (Duo w (vOb _ b 82 true ex14K) noOb A4 (fun _ => False) (fun i => i = NC) exQ freshS w5) := hidp (by rw [hw5]; exact HD.out.keep (Bdraw (B0 _) n5))
  clear hw5 HR1 HR2 HC
  go_wp2_with fail
  refine (vGetA (by omega) 21 HD.out.at1).mono ?_
  rintro e w6 ⟨rfl, h1, _⟩
  obtain ⟨A5, h2, h3⟩ := HD.out.left1 h1.left
  rw [HRA.out]
  replace HD : Hid (Duo w (vOb _ b 82 true ex14K) noOb A5 (fun _ => False) (fun i => i = NC) (getS 82 ex14K exQ 21) freshS w6) := hidp h2
  clear h1 h2 h3
  go_wp2_with fail
  refine (vGetA (by omega) 0 HD.out.at1).mono ?_
  rintro e w7 ⟨rfl, h1, _⟩
  obtain ⟨A6, h2, h3⟩ := HD.out.left1 h1.left
  rw [HFR.out]
  have HB := hidp h2.bel
  clear h1 h2 h3 HD
  go_wp2
  go_ret
  exact ⟨rfl, HB.out⟩
end
end Go.Proofs.YtioolaaphbddbaaGreatDoor

namespace Go.Proofs.YtioolaaphbddbaaGreatDoor
open Go.ChangeShapes Go.WideShapes Go.ChangeAt Go.RowKit Go.Shelf
set_option linter.unusedVariables false
set_option linter.unusedSimpArgs false
section
set_option maxHeartbeats 1600000 in
theorem xSound_c (t q s : Int) (A : Option Addr) (n c m : Nat) (b : Bool) (w : World) (hC : XCheckIs w t q s A n c m b) :
    Calls Tryz.prog 8 #[.agg #[.int .i64 t, .int .i64 q, .int .i64 s], .slice A n c] w fun e w' => e = .returned (.bool b) ∧ Below w.heap.size w w' := by
  have HX0 := hidp (Held.new w 23 #[.int .i64 t, .int .i64 q, .int .i64 s])
  obtain ⟨c0, c1, c2⟩ := HX0.out.three
  have HBW := hidp (Bnew (B0 w) (.cells #[.int .i64 t, .int .i64 q, .int .i64 s] 23))
  have HCK := hidp (hC _ HBW.out)
  clear hC
  go_enter Tryz.func8, Tryz.ntmps8
  go_wp2_with (first
    | (go_at_call 30; refine HCK.out.mono ?_; rintro e w2 ⟨rfl, hb2⟩; have HB2 := hidp (Bgo HBW.out hb2); clear hb2)
    | fail)
  go_ret
  exact ⟨rfl, HB2.out⟩


set_option maxHeartbeats 1600000 in
theorem xPartsTop_yes {H : AuH} {n c : Nat} (HV : HeapV H n c) (ad : Addr) (m : Nat) (w : World) (hv : IsVals w ad n H.V) (hC : XCheckIs w H.t H.p H.s (some ad) n c m true) :
    Calls Tryz.prog 63 #[.agg #[.int .i64 (H.t : Int), .int .i64 (H.p : Int), .int .i64 (H.s : Int)], .slice (some ad) n c] w fun e w' => ∃ u, e = .returned u ∧ w'.ownsRow w.heap.size 108 3 u H.parts.length (ptVs H.parts) ∧ Below w.heap.size w w' := by
  have HX0 := hidp (Held.new w 23 #[.int .i64 (H.t : Int), .int .i64 (H.p : Int), .int .i64 (H.s : Int)])
  obtain ⟨c0, c1, c2⟩ := HX0.out.three
  have HBW := hidp (Bnew (B0 w) (.cells #[.int .i64 (H.t : Int), .int .i64 (H.p : Int), .int .i64 (H.s : Int)] 23))
  have HSO := hidp (xSound_c (H.t : Int) (H.p : Int) (H.s : Int) (some ad) n c m true _ (hC.grown HBW.out))
  have HPP := hidp (fun (W : World) (h1 : Below w.heap.size w W) => xParts_c HV ad W (hv.below h1))
  unfold hpV at HPP
  clear hC hv
  go_enter Tryz.func63, Tryz.ntmps63
  go_wp2_with (first
    | (go_at_call 8; refine HSO.out.mono ?_; rintro e w2 ⟨rfl, hb2⟩; have HX2 := hidp (HX0.out.keep hb2); have HB2 := hidp (Bgo HBW.out hb2); have HB3 := hidp (Bnew HB2.out (.cells #[.int .i64 (H.t : Int), .int .i64 (H.p : Int), .int .i64 (H.s : Int), .slice (some ad) n c] 58)); clear hb2 c0 c1 c2; obtain ⟨c0, c1, c2⟩ := HX2.out.three; obtain ⟨x0, x1, x2, x3⟩ := (Held.new w2 58 #[.int .i64 (H.t : Int), .int .i64 (H.p : Int), .int .i64 (H.s : Int), .slice (some ad) n c]).four)
    | (go_at_call 105; refine (HPP.out _ HB3.out).mono ?_; rintro e w4 ⟨u, rfl, hown4, hb4⟩; have HO4 := hidp hown4; have HB4 := hidp (Bgo HB3.out hb4); clear hown4 hb4)
    | fail)
  go_ret
  exact ⟨u, rfl, own_down HO4.out HB3.out.size, HB4.out⟩


set_option maxHeartbeats 1600000 in
theorem xLiveTop_yes {H : AuH} {n c : Nat} (HV : HeapV H n c) (ad : Addr) (m : Nat) (w : World) (hv : IsVals w ad n H.V) (hC : XCheckIs w H.t H.p H.s (some ad) n c m true) :
    Calls Tryz.prog 61 #[.agg #[.int .i64 (H.t : Int), .int .i64 (H.p : Int), .int .i64 (H.s : Int)], .slice (some ad) n c] w fun e w' => ∃ u, e = .returned u ∧ w'.ownsRow w.heap.size 104 2 u (blocksOf H.parts).length (bkVs (blocksOf H.parts)) ∧ Below w.heap.size w w' := by
  have HX0 := hidp (Held.new w 23 #[.int .i64 (H.t : Int), .int .i64 (H.p : Int), .int .i64 (H.s : Int)])
  obtain ⟨c0, c1, c2⟩ := HX0.out.three
  have HBW := hidp (Bnew (B0 w) (.cells #[.int .i64 (H.t : Int), .int .i64 (H.p : Int), .int .i64 (H.s : Int)] 23))
  have HSO := hidp (xSound_c (H.t : Int) (H.p : Int) (H.s : Int) (some ad) n c m true _ (hC.grown HBW.out))
  have HPP := hidp (fun (W : World) (h1 : Below w.heap.size w W) => xBlocks_c HV ad W (hv.below h1))
  unfold hpV at HPP
  clear hC hv
  go_enter Tryz.func61, Tryz.ntmps61
  go_wp2_with (first
    | (go_at_call 8; refine HSO.out.mono ?_; rintro e w2 ⟨rfl, hb2⟩; have HX2 := hidp (HX0.out.keep hb2); have HB2 := hidp (Bgo HBW.out hb2); have HB3 := hidp (Bnew HB2.out (.cells #[.int .i64 (H.t : Int), .int .i64 (H.p : Int), .int .i64 (H.s : Int), .slice (some ad) n c] 58)); clear hb2 c0 c1 c2; obtain ⟨c0, c1, c2⟩ := HX2.out.three; obtain ⟨x0, x1, x2, x3⟩ := (Held.new w2 58 #[.int .i64 (H.t : Int), .int .i64 (H.p : Int), .int .i64 (H.s : Int), .slice (some ad) n c]).four)
    | (go_at_call 104; refine (HPP.out _ HB3.out).mono ?_; rintro e w4 ⟨u, rfl, hown4, hb4⟩; have HO4 := hidp hown4; have HB4 := hidp (Bgo HB3.out hb4); clear hown4 hb4)
    | fail)
  go_ret
  exact ⟨u, rfl, own_down HO4.out HB3.out.size, HB4.out⟩
end
end Go.Proofs.YtioolaaphbddbaaGreatDoor

namespace Go.Proofs.YtioolaaphbddbaaGreatDoor
open Go.ChangeShapes Go.WideShapes Go.ChangeAt Go.RowKit Go.Maps
set_option linter.unusedVariables false
set_option linter.unusedSimpArgs false
set_option maxRecDepth 100000
section
def AuH.idleAt (H : AuH) (p i : Nat) : Bool := decide (H.K p = 3) && (H.cel p 5).testBit i && !(H.cel p 4).testBit i

theorem idle16_p0 (t q s p i : Int) (A : Option Addr) (n c : Nat) (h : p < 0) (w : World) :
    Calls Tryz.prog 19 #[.agg #[.int .i64 t, .int .i64 q, .int .i64 s], .slice A n c, .int .i64 p, .int .i64 i] w fun e w' => e = .returned (.bool false) ∧ Below w.heap.size w w' := by
  have HB := hidp (Bnew (B0 w) (.cells #[.int .i64 t, .int .i64 q, .int .i64 s] 23))
  obtain ⟨x0, x1, x2⟩ := (Held.new w 23 #[.int .i64 t, .int .i64 q, .int .i64 s]).three
  have t0 : decide (p < (0 : Int)) = true := decide_eq_true h
  go_enter Tryz.func19, Tryz.ntmps19
  go_wp2
  go_ret
  exact ⟨rfl, HB.out⟩
theorem idle16_p1 (t q s p i : Int) (A : Option Addr) (n c : Nat) (h0 : ¬ p < 0) (h : q ≤ p) (w : World) :
    Calls Tryz.prog 19 #[.agg #[.int .i64 t, .int .i64 q, .int .i64 s], .slice A n c, .int .i64 p, .int .i64 i] w fun e w' => e = .returned (.bool false) ∧ Below w.heap.size w w' := by
  have HB := hidp (Bnew (B0 w) (.cells #[.int .i64 t, .int .i64 q, .int .i64 s] 23))
  obtain ⟨x0, x1, x2⟩ := (Held.new w 23 #[.int .i64 t, .int .i64 q, .int .i64 s]).three
  have t0 : decide (p < (0 : Int)) = false := decide_eq_false h0
  have t1 : decide (q ≤ p) = true := decide_eq_true h
  go_enter Tryz.func19, Tryz.ntmps19
  go_wp2
  go_ret
  exact ⟨rfl, HB.out⟩
theorem idle16_i0 (t q s p i : Int) (A : Option Addr) (n c : Nat) (h0 : ¬ p < 0) (h1 : ¬ q ≤ p) (h : i < 0) (w : World) :
    Calls Tryz.prog 19 #[.agg #[.int .i64 t, .int .i64 q, .int .i64 s], .slice A n c, .int .i64 p, .int .i64 i] w fun e w' => e = .returned (.bool false) ∧ Below w.heap.size w w' := by
  have HB := hidp (Bnew (B0 w) (.cells #[.int .i64 t, .int .i64 q, .int .i64 s] 23))
  obtain ⟨x0, x1, x2⟩ := (Held.new w 23 #[.int .i64 t, .int .i64 q, .int .i64 s]).three
  have t0 : decide (p < (0 : Int)) = false := decide_eq_false h0
  have t1 : decide (q ≤ p) = false := decide_eq_false h1
  have t2 : decide (i < (0 : Int)) = true := decide_eq_true h
  go_enter Tryz.func19, Tryz.ntmps19
  go_wp2
  go_ret
  exact ⟨rfl, HB.out⟩
theorem idle16_i1 (t q s p i : Int) (A : Option Addr) (n c : Nat) (h0 : ¬ p < 0) (h1 : ¬ q ≤ p) (h2 : ¬ i < 0) (h : 31 < i) (w : World) :
    Calls Tryz.prog 19 #[.agg #[.int .i64 t, .int .i64 q, .int .i64 s], .slice A n c, .int .i64 p, .int .i64 i] w fun e w' => e = .returned (.bool false) ∧ Below w.heap.size w w' := by
  have HB := hidp (Bnew (B0 w) (.cells #[.int .i64 t, .int .i64 q, .int .i64 s] 23))
  obtain ⟨x0, x1, x2⟩ := (Held.new w 23 #[.int .i64 t, .int .i64 q, .int .i64 s]).three
  have t0 : decide (p < (0 : Int)) = false := decide_eq_false h0
  have t1 : decide (q ≤ p) = false := decide_eq_false h1
  have t2 : decide (i < (0 : Int)) = false := decide_eq_false h2
  have t3 : decide ((31 : Int) < i) = true := decide_eq_true h
  go_enter Tryz.func19, Tryz.ntmps19
  go_wp2
  go_ret
  exact ⟨rfl, HB.out⟩
theorem idle16_no (t q s p i : Int) (A : Option Addr) (n c : Nat) (h : p < 0 ∨ q ≤ p ∨ i < 0 ∨ 31 < i) (w : World) :
    Calls Tryz.prog 19 #[.agg #[.int .i64 t, .int .i64 q, .int .i64 s], .slice A n c, .int .i64 p, .int .i64 i] w fun e w' => e = .returned (.bool false) ∧ Below w.heap.size w w' := by
  by_cases h0 : p < 0
  · exact idle16_p0 t q s p i A n c h0 w
  · by_cases h1 : q ≤ p
    · exact idle16_p1 t q s p i A n c h0 h1 w
    · by_cases h2 : i < 0
      · exact idle16_i0 t q s p i A n c h0 h1 h2 w
      · exact idle16_i1 t q s p i A n c h0 h1 h2 (by omega) w

set_option maxHeartbeats 3200000 in
theorem idle16_c {H : AuH} {n c : Nat} (HV : HeapV H n c) (ad : Addr) {p i : Nat} (hp : p < H.p) (hi : i < 32) (w : World) (hv : IsVals w ad n H.V) :
    Calls Tryz.prog 19 #[.agg #[.int .i64 (H.t : Int), .int .i64 (H.p : Int), .int .i64 (H.s : Int)], .slice (some ad) n c, .int .i64 (p : Int), .int .i64 (i : Int)] w fun e w' => e = .returned (.bool (H.idleAt p i)) ∧ Below w.heap.size w w' := by
  have t0 : decide ((p : Int) < 0) = false := decide_eq_false (by omega)
  have t1 : decide ((H.p : Int) ≤ (p : Int)) = false := decide_eq_false (by omega)
  have t2 : decide ((i : Int) < 0) = false := decide_eq_false (by omega)
  have t3 : decide ((31 : Int) < (i : Int)) = false := decide_eq_false (by omega)
  have HVL := hidp hv
  have HX := hidp (Held.new2 w (.cells #[.int .i64 (H.t : Int), .int .i64 (H.p : Int), .int .i64 (H.s : Int)] 23) 58 #[.int .i64 (H.t : Int), .int .i64 (H.p : Int), .int .i64 (H.s : Int), .slice (some ad) n c])
  have HB := hidp (Bnew (Bnew (B0 w) (.cells #[.int .i64 (H.t : Int), .int .i64 (H.p : Int), .int .i64 (H.s : Int)] 23)) (.cells #[.int .i64 (H.t : Int), .int .i64 (H.p : Int), .int .i64 (H.s : Int), .slice (some ad) n c] 58))
  obtain ⟨v0, v1, v2⟩ := (Held.new w 23 #[.int .i64 (H.t : Int), .int .i64 (H.p : Int), .int .i64 (H.s : Int)]).three
  obtain ⟨v0', v1', v2'⟩ := ((Held.new w 23 #[.int .i64 (H.t : Int), .int .i64 (H.p : Int), .int .i64 (H.s : Int)]).alloc (.cells #[.int .i64 (H.t : Int), .int .i64 (H.p : Int), .int .i64 (H.s : Int), .slice (some ad) n c] 58)).three
  obtain ⟨y0, y1, y2, y3⟩ := HX.out.four
  obtain ⟨kk, hkk⟩ : ∃ kk, H.K p = kk := ⟨_, rfl⟩
  obtain ⟨ll, hll⟩ : ∃ ll, H.ln p = ll := ⟨_, rfl⟩
  obtain ⟨cc, hcc⟩ : ∃ cc, H.Cl p = cc := ⟨_, rfl⟩
  obtain ⟨tk, htk⟩ : ∃ tk, H.cel p 5 = tk := ⟨_, rfl⟩
  obtain ⟨sl, hsl⟩ : ∃ sl, H.cel p 4 = sl := ⟨_, rfl⟩
  have hk32 : tk < 2 ^ 32 := by rw [← htk]; exact HV.cel_lt hp (by omega)
  have hs32 : sl < 2 ^ 32 := by rw [← hsl]; exact HV.cel_lt hp (by omega)
  have hfd : ∀ w : World, (Instr.field 60 (.agg #[.int .i64 kk, .int .i64 (ll : Int), .int .i64 cc]) 0).run Tryz.prog w = .ok (.int .i64 kk) w := fun _ => by kernel_rfl
  have HK := hidp hkk
  have HL := hidp hll
  have HCC := hidp hcc
  have HTK := hidp htk
  have HSL := hidp hsl
  have e0 : H.idleAt p i = (decide (kk = 3) && tk.testBit i && !sl.testBit i) := by unfold AuH.idleAt; rw [hkk, htk, hsl]
  rw [e0]
  clear e0 hkk hll hcc htk hsl hv
  obtain ⟨b1, hb1⟩ : ∃ b1, tk.testBit i = b1 := ⟨_, rfl⟩
  obtain ⟨b2, hb2⟩ : ∃ b2, sl.testBit i = b2 := ⟨_, rfl⟩
  rw [hb1, hb2]
  have HT1 := hidp ((congrArg tk.testBit (Int.toNat_natCast i)).trans hb1)
  have HT2 := hidp ((congrArg sl.testBit (Int.toNat_natCast i)).trans hb2)
  clear hb1 hb2
  by_cases h3 : kk = 3
  · rw [decide_eq_true h3, Bool.true_and]
    have t4 : (kk == 3) = true := by simpa using h3
    clear h3
    cases b1 with
    | false =>
      rw [Bool.false_and]
      go_enter Tryz.func19, Tryz.ntmps19
      go_wp2_with fail
      refine (xInfo_c HV ad hp _ (HVL.out.below HB.out)).mono ?_
      rintro e w4 ⟨rfl, hb⟩
      rw [HK.out, HL.out, HCC.out]
      replace HX := hidp (HX.out.keep hb)
      replace HB := hidp (Bgo HB.out hb)
      clear hb y0 y1 y2 y3
      obtain ⟨y0, y1, y2, y3⟩ := HX.out.four
      go_wp2_with fail
      refine (xTaken_c HV ad hp _ (HVL.out.below HB.out)).mono ?_
      rintro e w5 ⟨rfl, hb⟩
      rw [HTK.out]
      replace HX := hidp (HX.out.keep hb)
      replace HB := hidp (Bgo HB.out hb)
      clear hb y0 y1 y2 y3
      obtain ⟨y0, y1, y2, y3⟩ := HX.out.four
      go_wp2_with fail
      refine (Bit_c tk i _ hk32 (by omega) (by omega) HT1.out _).mono ?_; rintro e w9 ⟨rfl, rfl⟩
      go_wp2
      go_ret
      exact ⟨rfl, HB.out⟩
    | true =>
      rw [Bool.true_and]
      go_enter Tryz.func19, Tryz.ntmps19
      go_wp2_with fail
      refine (xInfo_c HV ad hp _ (HVL.out.below HB.out)).mono ?_
      rintro e w4 ⟨rfl, hb⟩
      rw [HK.out, HL.out, HCC.out]
      replace HX := hidp (HX.out.keep hb)
      replace HB := hidp (Bgo HB.out hb)
      clear hb y0 y1 y2 y3
      obtain ⟨y0, y1, y2, y3⟩ := HX.out.four
      go_wp2_with fail
      refine (xTaken_c HV ad hp _ (HVL.out.below HB.out)).mono ?_
      rintro e w5 ⟨rfl, hb⟩
      rw [HTK.out]
      replace HX := hidp (HX.out.keep hb)
      replace HB := hidp (Bgo HB.out hb)
      clear hb y0 y1 y2 y3
      obtain ⟨y0, y1, y2, y3⟩ := HX.out.four
      go_wp2_with fail
      refine (Bit_c tk i _ hk32 (by omega) (by omega) HT1.out _).mono ?_; rintro e w9 ⟨rfl, rfl⟩
      go_wp2_with fail
      refine (xSlots_c HV ad hp _ (HVL.out.below HB.out)).mono ?_
      rintro e w6 ⟨rfl, hb⟩
      rw [HSL.out]
      replace HX := hidp (HX.out.keep hb)
      replace HB := hidp (Bgo HB.out hb)
      clear hb y0 y1 y2 y3
      obtain ⟨y0, y1, y2, y3⟩ := HX.out.four
      go_wp2_with fail
      refine (Bit_c sl i _ hs32 (by omega) (by omega) HT2.out _).mono ?_; rintro e w9 ⟨rfl, rfl⟩
      go_wp2
      go_ret
      exact ⟨rfl, HB.out⟩
  · rw [decide_eq_false h3, Bool.false_and, Bool.false_and]
    have t4 : (kk == 3) = false := by simpa using h3
    clear h3
    go_enter Tryz.func19, Tryz.ntmps19
    go_wp2_with fail
    refine (xInfo_c HV ad hp _ (HVL.out.below HB.out)).mono ?_
    rintro e w4 ⟨rfl, hb⟩
    rw [HK.out, HL.out, HCC.out]
    replace HB := hidp (Bgo HB.out hb)
    clear hb
    go_wp2
    go_ret
    exact ⟨rfl, HB.out⟩

theorem kindN_take {l : List (Int × Int × Int)} {i : Nat} {x : Int × Int × Int} (hx : l[i]? = some x) : kindN 4 (l.take (i + 1)) = kindN 4 (l.take i) + if x.1 = 4 then 1 else 0 := by
  rw [List.take_add_one, hx]
  show kindN 4 (l.take i ++ [x]) = _
  rw [kindN_app]
  congr 1
  unfold kindN
  by_cases h : x.1 = 4
  · rw [if_pos h]; simp [h]
  · rw [if_neg h]; simp [h]
theorem kindN_few (l : List (Int × Int × Int)) (d : Int) : kindN d l ≤ l.length := by unfold kindN; exact List.length_filter_le _ _
set_option maxHeartbeats 3200000 in
theorem count16_c {H : AuH} {n c : Nat} (HV : HeapV H n c) (ad : Addr) (m : Nat) (w : World) (hv : IsVals w ad n H.V) (hC : XCheckIs w H.t H.p H.s (some ad) n c m true) :
    Calls Tryz.prog 26 #[.agg #[.int .i64 (H.t : Int), .int .i64 (H.p : Int), .int .i64 (H.s : Int)], .slice (some ad) n c] w fun e w' => e = .returned (.int .i64 (kindN 4 H.parts : Int)) ∧ Below w.heap.size w w' := by
  have HVL := hidp hv
  have HCL := hidp hC
  have HB := hidp (Bnew (B0 w) (.cells #[.int .i64 (H.t : Int), .int .i64 (H.p : Int), .int .i64 (H.s : Int)] 23))
  obtain ⟨x0, x1, x2⟩ := (Held.new w 23 #[.int .i64 (H.t : Int), .int .i64 (H.p : Int), .int .i64 (H.s : Int)]).three
  obtain ⟨l, hl⟩ : ∃ l, H.parts = l := ⟨_, rfl⟩
  obtain ⟨nl, hnl⟩ : ∃ nl, l.length = nl := ⟨_, rfl⟩
  have hnb : nl ≤ 60000 := by
    have h2 : H.parts.length ≤ H.p * 33 := AuH.parts_len H.p
    have := HV.nums.2.2.2.1
    rw [hl, hnl] at h2
    omega
  have HPL := hidp hl
  have HNL := hidp hnl
  rw [hl]
  clear hv hC hl hnl
  go_enter Tryz.func26, Tryz.ntmps26
  go_wp2_with fail
  refine (xPartsTop_yes HV ad m _ (HVL.out.below HB.out) (HCL.out.grown HB.out)).mono ?_
  rintro e w1 ⟨u, rfl, ho, hb⟩
  rw [HPL.out, HNL.out] at ho
  obtain ⟨A1, c1, hu⟩ := own_slice ho
  subst hu
  have hcc := own_caps3 ho
  have HO := hidp ho
  replace HB := hidp (Bgo HB.out hb)
  clear ho hb x0 x1 x2
  go_wp2_with fail
  go_loopw [6, 7] (fun u6 u7 wr => ∃ (i : Nat), i ≤ nl ∧ u7 = .int .i64 (i : Int) ∧ u6 = .int .i64 (kindN 4 (l.take i) : Int) ∧ wr = w1) (fun _ u7 _ => nl - (intOf u7).toNat)
  case atStart => exact ⟨0, by omega, rfl, rfl, rfl⟩
  case round =>
    obtain ⟨i, hi, rfl, rfl, rfl⟩ := hrel
    by_cases hlt : i < nl
    · obtain ⟨x, hx⟩ : ∃ x, l[i]? = some x := ⟨_, List.getElem?_eq_getElem (by rw [HNL.out]; exact hlt)⟩
      obtain ⟨g, c2, hg, _⟩ := HO.out.form (by omega)
      injection hg with hg3 _ hg4
      subst hg3
      clear hg4
      have c0 : wr.cell? ⟨g, i * 3, none⟩ = some (.int .i64 x.1) := by
        rw [HO.out.cellAt (i * 3) (by omega)]
        exact (ptVs_get l i x hx).1
      have HKT := hidp (kindN_take hx)
      have hkf := kindN_few (l.take i) 4
      rw [List.length_take] at hkf
      generalize x.1 = xk at *
      generalize kindN 4 (l.take i) = y at *
      have hy : y ≤ 60000 := by omega
      clear hkf hx
      by_cases h4 : xk = 4
      · have t0 : (xk == 4) = true := by simpa using h4
        rw [if_pos h4] at HKT
        clear h4
        go_wp2
        go_roundw
        case rel => exact ⟨i + 1, by omega, by go_num, by rw [HKT.out]; go_num, by first | rfl | trivial⟩
        case measure => simp [intOf]; omega
      · have t0 : (xk == 4) = false := by simpa using h4
        rw [if_neg h4, Nat.add_zero] at HKT
        clear h4
        go_wp2
        go_roundw
        case rel => exact ⟨i + 1, by omega, by go_num, by rw [HKT.out]; rfl, by first | rfl | trivial⟩
        case measure => simp [intOf]; omega
    · obtain rfl : i = nl := by omega
      have HE : Hid (kindN 4 (l.take i) = kindN 4 l) := hidp (by rw [List.take_of_length_le (by rw [HNL.out]; exact Nat.le_refl _)])
      go_wp2
      go_ret
      exact ⟨by rw [HE.out]; rfl, HB.out⟩
end
end Go.Proofs.YtioolaaphbddbaaGreatDoor

namespace Go.Proofs.YtioolaaphbddbaaGreatDoor
open Go.ChangeShapes Go.WideShapes Go.ChangeAt Go.RowKit
set_option linter.unusedVariables false
set_option maxRecDepth 100000
section
section
variable {H : Type} {enc : TypeId × Value → H} {P : Program} {w : World} {base : Nat} {sp : Nat → Bool} {held : Bool}
theorem open_vals {t e : TypeId} {v : Value} {d : DataW H} {p : List MemPlace} (ht : P.underlying t = some (.slice e)) (he : P.underlying e = some (.int .u32)) (hc : P.cellsOf e = 1)
    {r : Reach} {b0 : Nat} (hval : Value.okWide P w r b0 t v) (h : DataW.Trod enc P w base sp held t v d p) (hlt : ∀ x ∈ p, x.block < w.heap.size) :
    ∃ (A : Option Addr) (c : Nat) (ws : List Nat), v = .slice A ws.length c ∧ ws.length ≤ c ∧ c ≤ maxLen ∧ (∀ x ∈ ws, x < 2 ^ 32) ∧ Reads w w.heap.size 1 A ws.length (valVs ws) := by
  obtain ⟨fuel, hf⟩ := h
  have hv : v.cells = #[v] := by
    obtain ⟨A, n, c, rfl⟩ := okWide_slice ht hval
    rfl
  rw [hv] at hf
  rcases open_ints ht he hc hf with ⟨hcs, _⟩ | ⟨a, len, cap, zs, hcs, hb, hl, hm, hz, hx, hcell, hwf⟩
  · injection hcs with hcs
    subst hcs
    exact ⟨none, 0, [], rfl, Nat.le_refl _, Nat.zero_le _, by simp, Reads.none_⟩
  · injection hcs with hcs
    subst hcs
    have hlz : len ≤ zs.length := by rw [hz]; split <;> omega
    have hlen : ((zs.take len).map Int.toNat).length = len := by simp; omega
    refine ⟨some a, cap, (zs.take len).map Int.toNat, by rw [hlen], by rw [hlen]; exact hl, hm, ?_, ?_⟩
    · intro x hx
      obtain ⟨z, hz1, rfl⟩ := List.mem_map.1 hx
      obtain ⟨n, rfl, hn⟩ := u32_nat (hwf z (List.mem_of_mem_take hz1))
      simpa using hn
    · refine ⟨by rw [valVs_len]; omega, fun hn => ?_⟩
      rw [hlen] at hn
      refine ⟨a, rfl, ?_, fun j u hu => ?_⟩
      · have hp : (p : List MemPlace) = MemPlace.row a zs.length := by
          have := congrArg Prod.snd hx
          simpa using this
        have h0 : MemPlace.cell a.block a.off ∈ p ∨ (∃ x ∈ p, x.block = a.block) := by
          right
          rw [hp]
          refine ⟨(MemPlace.row a zs.length)[0]'(by simp [MemPlace.row]; omega), List.getElem_mem _, ?_⟩
          simp [MemPlace.row, MemPlace.block]
        rcases h0 with h0 | ⟨x, hx1, hx2⟩
        · exact hlt _ h0
        · rw [← hx2]; exact hlt x hx1
      · unfold valVs at hu
        rw [List.map_map] at hu
        have hj : j < len := by
          rcases Nat.lt_or_ge j len with h1 | h1
          · exact h1
          · rw [List.getElem?_eq_none (by simp; omega)] at hu; cases hu
        rw [List.getElem?_map, List.getElem?_take_of_lt hj, List.getElem?_eq_getElem (by omega)] at hu
        simp only [Option.map_some, Option.some.injEq, Function.comp_apply] at hu
        subst hu
        rw [hcell j (by omega)]
        have hw := hwf zs[j] (List.getElem_mem _)
        obtain ⟨n, hn1, _⟩ := u32_nat hw
        have : (zs.getD j 0) = zs[j] := by simp [List.getD, List.getElem?_eq_getElem (show j < zs.length by omega)]
        rw [this, hn1]
        simp
end
end
end Go.Proofs.YtioolaaphbddbaaGreatDoor

namespace Go.Proofs.YtioolaaphbddbaaGreatDoor
open Go.ChangeShapes Go.WideShapes Go.ChangeAt Go.RowKit
set_option linter.unusedVariables false
section
theorem heap13_of (W : World) (t q s : Int) (A : Option Addr) (c : Nat) (vals : List Nat) (hnc : vals.length ≤ c) (hcm : c ≤ maxLen) (h32 : ∀ x ∈ vals, x < 2 ^ 32) (hR : Reads W W.heap.size 1 A vals.length (valVs vals)) (h : lC t q s ≠ 0 ∧ (vals.length : Int) = lC t q s) :
    ∃ (H : AuH) (ad : Addr), t = H.t ∧ q = H.p ∧ s = H.s ∧ A = some ad ∧ (∀ i, H.V i = vals.getD i 0) ∧ HeapV H vals.length c ∧ IsVals W ad vals.length H.V := by
  cases hr : rightB t q s
  · exact absurd (lay_no hr).5 h.1
  · have hn := (rightB_iff t q s).1 hr
    have hl := (lay_yes hr).5
    have hlen : 0 < vals.length := by have := h.2; rw [hl] at this; omega
    obtain ⟨ad, rfl, hb, hc⟩ := hR.2 hlen
    have hx : ∀ i, i < vals.length → vals[i]? = some (vals.getD i 0) := fun i hi => by simp [List.getD, List.getElem?_eq_getElem hi]
    refine ⟨⟨t.toNat, q.toNat, s.toNat, fun i => vals.getD i 0⟩, ad, by show t = _; simp; omega, by show q = _; simp; omega, by show s = _; simp; omega, rfl, fun i => rfl, ⟨?_, ?_, hnc, hcm, fun i hi => ?_⟩, hb, fun i hi => ?_⟩
    · show rightB ((t.toNat : Nat) : Int) ((q.toNat : Nat) : Int) ((s.toNat : Nat) : Int) = true
      rw [show ((t.toNat : Nat) : Int) = t by omega, show ((q.toNat : Nat) : Int) = q by omega, show ((s.toNat : Nat) : Int) = s by omega]
      exact hr
    · show vals.length = 30 + 4 * t.toNat + 6 * q.toNat
      have := h.2
      rw [hl] at this
      omega
    · exact h32 _ (List.mem_of_getElem? (hx i hi))
    · refine hc i _ ?_
      unfold valVs
      rw [List.getElem?_map, hx i hi]
      rfl
theorem heap13_or (W : World) (t q s : Int) (A : Option Addr) (c : Nat) (vals : List Nat) (hnc : vals.length ≤ c) (hcm : c ≤ maxLen) (h32 : ∀ x ∈ vals, x < 2 ^ 32) (hR : Reads W W.heap.size 1 A vals.length (valVs vals)) :
    (∃ m, XCheckIs W t q s A vals.length c m false) ∨ ∃ (H : AuH) (ad : Addr) (m : Nat), t = H.t ∧ q = H.p ∧ s = H.s ∧ A = some ad ∧ (∀ i, H.V i = vals.getD i 0) ∧ HeapV H vals.length c ∧ IsVals W ad vals.length H.V ∧ H.Told m true ∧ XCheckIs W H.t H.p H.s (some ad) vals.length c m true := by
  by_cases h : lC t q s ≠ 0 ∧ (vals.length : Int) = lC t q s
  · obtain ⟨H, ad, rfl, rfl, rfl, rfl, hV, HV, hv⟩ := heap13_of W t q s A c vals hnc hcm h32 hR h
    obtain ⟨m, b, hto⟩ := H.told_is
    have hX := xCheckIs_yes HV ad W hv hto
    cases b with
    | true => exact .inr ⟨H, ad, m, rfl, rfl, rfl, rfl, hV, HV, hv, hto, hX⟩
    | false => exact .inl ⟨m, hX⟩
  · exact .inl ⟨1, xCheckIs_no W t q s A vals.length c hnc hcm h⟩
end
end Go.Proofs.YtioolaaphbddbaaGreatDoor

namespace Go.Proofs.YtioolaaphbddbaaGreatDoor
open Go.ChangeShapes Go.WideShapes Go.ChangeAt Go.RowKit Go.Maps
set_option linter.unusedVariables false
set_option linter.unusedSimpArgs false
section
theorem told_rules {H : AuH} {m : Nat} (h : H.Told m true) : ∀ i, i < 10 → H.rule i := by
  rcases h with ⟨_, _, h⟩ | ⟨h, _⟩
  · exact h
  · cases h
end
section
def upS (n : Nat) (K : Nat → Option Nat) (st : Vst) : Vst := putS n (getS n K st 1) 1 (add32 (getV n K st 1) 1)
section
variable {H : AuH} {n c : Nat} {K : Nat → Option Nat} {st s' : Vst} {L L' : Nat → List Nat} {g : Nat → Nat} {A k e : Nat}
theorem Work.up (W : Work H.t H.p H.s n K st L' g) (hf : Fit H.t H.p H.s n) (h2 : g 1 + 1 < 4294967296) : Work H.t H.p H.s n K (upS n K st) L' (updF g 1 (g 1 + 1)) := by
  have hlen := hf.len
  unfold upS
  have e : getV n K st 1 = g 1 := W.near 1 (by omega) (low_far (i := 1) (.inl (by omega)))
  have e2 := add32_small (a := g 1) (m := 1) h2
  rw [e, show ((1 : Nat) : Int) = 1 from rfl] at *
  rw [e2]
  exact (W.get 1).put (i := 1) (by omega) (low_far (.inl (by omega))) _
theorem RelaidG.live (R : RelaidG H g L L' A k e) (v : Nat) : RelaidG H (updF g 1 v) L L' A k e := by
  have e1 : ∀ q b, updF g 1 v (pc H.t q b) = g (pc H.t q b) := fun q b => by unfold updF pc; rw [if_neg (by omega)]
  exact {
    pos := R.pos, whole := R.whole, noslab := R.noslab, left := R.left, right := R.right
    used := fun h => by rw [e1]; exact R.used h
    rest := fun h => by rw [e1]; exact R.rest h
    blank := fun q h1 h2 h3 h4 => by rw [e1]; exact R.blank q h1 h2 h3 h4
    infos := fun q h1 h2 => by rw [e1]; exact R.infos q h1 h2
    footu := fun h => by rw [e1]; exact R.footu h
    footr := fun h => by rw [e1]; exact R.footr h
    blankf := fun q h1 h2 h3 h4 => by rw [e1]; exact R.blankf q h1 h2 h3 h4
    feet := fun q h1 h2 => by rw [e1]; exact R.feet q h1 h2
    bits := fun q h1 => by rw [e1, e1]; exact R.bits q h1
    mem := R.mem
    free := by rw [updF_other _ _ (by omega)]; exact R.free
    roots := fun i hi => by rw [updF_other _ _ (by omega)]; exact R.roots i hi }
end
section
variable {H : AuH} {n c : Nat} {K : Nat → Option Nat} {st : Vst} {L L' : Nat → List Nat} {g : Nat → Nat} {A k e : Nat}

end
end
end Go.Proofs.YtioolaaphbddbaaGreatDoor

namespace Go.Proofs.YtioolaaphbddbaaGreatDoor
open Go.ChangeShapes Go.WideShapes Go.ChangeAt Go.RowKit Go.Shelf
set_option linter.unusedVariables false
set_option linter.unusedSimpArgs false
section
def set9 (w : World) (g : Nat) (a0 a1 a2 a3 a4 a5 a6 a7 a8 : Value) : World := ((((((((w.setCell ⟨g, 0, none⟩ a0).setCell ⟨g, 1, none⟩ a1).setCell ⟨g, 2, none⟩ a2).setCell ⟨g, 3, none⟩ a3).setCell ⟨g, 4, none⟩ a4).setCell ⟨g, 5, none⟩ a5).setCell ⟨g, 6, none⟩ a6).setCell ⟨g, 7, none⟩ a7).setCell ⟨g, 8, none⟩ a8
section
variable {w : World} {g : Nat} {t : TypeId} {c0 c1 c2 c3 c4 c5 c6 c7 c8 : Value}
theorem Held.nine (h : Held w g t #[c0, c1, c2, c3, c4, c5, c6, c7, c8]) : w.cell? ⟨g, 0, none⟩ = some c0 ∧ w.cell? ⟨g, 1, none⟩ = some c1 ∧ w.cell? ⟨g, 2, none⟩ = some c2 ∧ w.cell? ⟨g, 3, none⟩ = some c3 ∧ w.cell? ⟨g, 4, none⟩ = some c4 ∧ w.cell? ⟨g, 5, none⟩ = some c5 ∧ w.cell? ⟨g, 6, none⟩ = some c6 ∧ w.cell? ⟨g, 7, none⟩ = some c7 ∧ w.cell? ⟨g, 8, none⟩ = some c8 := ⟨h.cell 0, h.cell 1, h.cell 2, h.cell 3, h.cell 4, h.cell 5, h.cell 6, h.cell 7, h.cell 8⟩
theorem Held.thawed9 {cs : Array Value} (h : Held w g t cs) : w.frozen? ⟨g, 0, none⟩ = false ∧ w.frozen? ⟨g, 1, none⟩ = false ∧ w.frozen? ⟨g, 2, none⟩ = false ∧ w.frozen? ⟨g, 3, none⟩ = false ∧ w.frozen? ⟨g, 4, none⟩ = false ∧ w.frozen? ⟨g, 5, none⟩ = false ∧ w.frozen? ⟨g, 6, none⟩ = false ∧ w.frozen? ⟨g, 7, none⟩ = false ∧ w.frozen? ⟨g, 8, none⟩ = false := ⟨h.thawed 0, h.thawed 1, h.thawed 2, h.thawed 3, h.thawed 4, h.thawed 5, h.thawed 6, h.thawed 7, h.thawed 8⟩
theorem Held.set9 (h : Held w g t #[c0, c1, c2, c3, c4, c5, c6, c7, c8]) (a0 a1 a2 a3 a4 a5 a6 a7 a8 : Value) : Held (set9 w g a0 a1 a2 a3 a4 a5 a6 a7 a8) g t #[a0, a1, a2, a3, a4, a5, a6, a7, a8] := by
  have h0 : Held _ g t #[a0, c1, c2, c3, c4, c5, c6, c7, c8] := h.put 0 a0
  have h1 : Held _ g t #[a0, a1, c2, c3, c4, c5, c6, c7, c8] := h0.put 1 a1
  have h2 : Held _ g t #[a0, a1, a2, c3, c4, c5, c6, c7, c8] := h1.put 2 a2
  have h3 : Held _ g t #[a0, a1, a2, a3, c4, c5, c6, c7, c8] := h2.put 3 a3
  have h4 : Held _ g t #[a0, a1, a2, a3, a4, c5, c6, c7, c8] := h3.put 4 a4
  have h5 : Held _ g t #[a0, a1, a2, a3, a4, a5, c6, c7, c8] := h4.put 5 a5
  have h6 : Held _ g t #[a0, a1, a2, a3, a4, a5, a6, c7, c8] := h5.put 6 a6
  have h7 : Held _ g t #[a0, a1, a2, a3, a4, a5, a6, a7, c8] := h6.put 7 a7
  have h8 : Held _ g t #[a0, a1, a2, a3, a4, a5, a6, a7, a8] := h7.put 8 a8
  exact h8
theorem below_set9 {W : World} (h : Below W.heap.size W w) (hg : W.heap.size ≤ g) (a0 a1 a2 a3 a4 a5 a6 a7 a8 : Value) : Below W.heap.size W (set9 w g a0 a1 a2 a3 a4 a5 a6 a7 a8) :=
  Bput (Bput (Bput (Bput (Bput (Bput (Bput (Bput (Bput h (p := ⟨g, 0, none⟩) hg a0) (p := ⟨g, 1, none⟩) hg a1) (p := ⟨g, 2, none⟩) hg a2) (p := ⟨g, 3, none⟩) hg a3) (p := ⟨g, 4, none⟩) hg a4) (p := ⟨g, 5, none⟩) hg a5) (p := ⟨g, 6, none⟩) hg a6) (p := ⟨g, 7, none⟩) hg a7) (p := ⟨g, 8, none⟩) hg a8
theorem heap_set9 {j : Nat} (hj : j ≠ g) (a0 a1 a2 a3 a4 a5 a6 a7 a8 : Value) : (set9 w g a0 a1 a2 a3 a4 a5 a6 a7 a8).heap[j]? = w.heap[j]? := by
  unfold _root_.Go.Proofs.YtioolaaphbddbaaGreatDoor.set9
  repeat rw [Below.heap_setCell _ _ _ _ hj]
theorem own_set9 {base : Nat} {e : TypeId} {size : Nat} {v : Value} {n : Nat} {xs : List Value} (h : w.ownsRow base e size v n xs) (hg : ∀ j, v.ownBlock = some j → j ≠ g) (a0 a1 a2 a3 a4 a5 a6 a7 a8 : Value) : (set9 w g a0 a1 a2 a3 a4 a5 a6 a7 a8).ownsRow base e size v n xs :=
  own_kept h (fun j hj => heap_set9 (hg j hj) _ _ _ _ _ _ _ _ _)
end
theorem rootsV_eq (H : AuH) : ∃ (r0 r1 r2 r3 r4 r5 r6 r7 : Nat), rootsV H = .agg #[.int .i64 (r0 : Int), .int .i64 (r1 : Int), .int .i64 (r2 : Int), .int .i64 (r3 : Int), .int .i64 (r4 : Int), .int .i64 (r5 : Int), .int .i64 (r6 : Int), .int .i64 (r7 : Int)] ∧ H.V 22 = r0 ∧ H.V 23 = r1 ∧ H.V 24 = r2 ∧ H.V 25 = r3 ∧ H.V 26 = r4 ∧ H.V 27 = r5 ∧ H.V 28 = r6 ∧ H.V 29 = r7 := ⟨_, _, _, _, _, _, _, _, rfl, rfl, rfl, rfl, rfl, rfl, rfl, rfl, rfl⟩
end
end Go.Proofs.YtioolaaphbddbaaGreatDoor
