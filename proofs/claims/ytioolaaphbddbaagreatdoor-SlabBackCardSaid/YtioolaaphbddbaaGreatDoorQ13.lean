/-
  What the methods of span.pages do: begins, use, free, join, countFree. Written by span/gen_prog.py.
-/
import Derived.Test.YtioolaaphbddbaaGreatDoorQ12
namespace Go.Proofs.YtioolaaphbddbaaGreatDoor
open Go.ChangeShapes Go.WideShapes Go.ChangeAt Go.RowKit Go.Maps
set_option linter.unusedVariables false
set_option linter.unusedSimpArgs false
set_option maxRecDepth 100000
section
section
variable {base b n : Nat} {wh all : Bool} {K : Nat → Option Nat} {st : Vst} {w w0 : World} {A G : Nat → Prop} {t q s : Int}

theorem spFree_c (hn : n < 2 ^ 40) (hq : q ≤ 2147483648) (p m : Int) (h : (vOb base b n wh K).At w0 A G st w) :
    Calls Tryz.prog 119 #[.agg #[.pointer (some ⟨b, 0, none⟩), .int .i64 t, .int .i64 q, .int .i64 s], .agg #[.int .i64 p, .int .i64 m]] w fun e w' => e = .returned (.tuple #[]) ∧ (vOb base b n wh K).At w0 A G (addS n K t q s p m st) w' ∧ Stay G w w' := by
  have W0 := hidp (((WL.start h).new 142 #[.pointer (some ⟨b, 0, none⟩), .int .i64 t, .int .i64 q, .int .i64 s]).new 143 #[.int .i64 p, .int .i64 m])
  rw [World.size_alloc] at W0
  clear h
  go_enter Tryz.func119, Tryz.ntmps119
  obtain ⟨x0, x1, x2, x3⟩ := W0.out.h1.four
  obtain ⟨y0, y1⟩ := W0.out.h0.two
  go_wp2_with fail
  refine (bnAdd_c hn hq p m W0.out.at_).mono ?_; rintro e w1 ⟨rfl, h1, h2⟩; have W1 := hidp (W0.out.call h1 h2); clear h1 h2 W0
  obtain ⟨x0, x1, x2, x3⟩ := W1.out.h1.four
  obtain ⟨y0, y1⟩ := W1.out.h0.two
  go_wp2
  go_end0
  exact ⟨rfl, W1.out.fin⟩

set_option maxHeartbeats 3200000 in
theorem spCount_c (hn : n < 2 ^ 40) (m : Int) (h : (vOb base b n wh K).At w0 A G st w) :
    Calls Tryz.prog 120 #[.agg #[.pointer (some ⟨b, 0, none⟩), .int .i64 t, .int .i64 q, .int .i64 s], .int .i64 m] w fun e w' => e = .returned (.tuple #[]) ∧ (vOb base b n wh K).At w0 A G (putS n (getS n K st 0) 0 (add32 (getV n K st 0) m)) w' ∧ Stay G w w' := by
  have W0 := hidp ((WL.start h).new 142 #[.pointer (some ⟨b, 0, none⟩), .int .i64 t, .int .i64 q, .int .i64 s])
  obtain ⟨v, hv⟩ : ∃ v, getV n K st 0 = v := ⟨_, rfl⟩
  have hv32 : v < 2 ^ 32 := by rw [← hv]; exact vAt_lt h _
  have HV := hidp hv
  rw [hv]
  have HA := wrap_add32 v m
  have HL := add32_lt v m
  obtain ⟨x, hx⟩ : ∃ x, add32 v m = x := ⟨_, rfl⟩
  rw [hx] at HA HL ⊢
  have HX := hidp HL
  clear hv hx HL
  clear h
  go_enter Tryz.func120, Tryz.ntmps120
  obtain ⟨x0, x1, x2, x3⟩ := W0.out.h0.four
  go_wp2_with fail
  refine wp_region_held_drew (S := (fun w' => w'.cell? ⟨w.heap.size, 0, none⟩ = some (.pointer (some ⟨b, 0, none⟩)) ∧ w'.cell? ⟨w.heap.size, 1, none⟩ = some (.int .i64 t) ∧ w'.cell? ⟨w.heap.size, 2, none⟩ = some (.int .i64 q) ∧ w'.cell? ⟨w.heap.size, 3, none⟩ = some (.int .i64 s))) (by kernel_rfl) ?_ (fun hHeld => ?_)
  · (try dsimp only)
    first | exact W0.out.drew.h0.four | exact W0.out.h0.four | exact W1.out.h0.four | exact W2.out.h0.four | exact hHeld
  refine tkz 0 ?_
  refine tkz 1 ?_
  refine tkz 2 ?_
  refine tkz 3 ?_
  refine tkz 5 ?_
  refine tkz 6 ?_
  refine wpAnyH_ready (rs := [4]) (by kernel_rfl) (by simp) ?_
  refine AllReadyH.cons (o := _) rfl (fun K hK => ?_) AllReadyH.nil
  go_simp
  refine (vGetA hn _ W0.out.drew.at_).mono ?_; rintro e w1 ⟨rfl, h1, h2⟩; have W1 := hidp (W0.out.drew.call h1 h2); clear h1 h2 W0; rw [HV.out]
  refine hK.out _ _ ?_ (fun hHeld => ?_)
  · (try dsimp only)
    first | exact W0.out.drew.h0.four | exact W0.out.h0.four | exact W1.out.h0.four | exact W2.out.h0.four | exact hHeld
  clear hK K
  (try simp only [Act.put, gA, gB, gC, sA, sB, sC])
  refine tkz 7 ?_
  refine wpAnyH_ready (rs := [8]) (by kernel_rfl) (by simp) ?_
  refine AllReadyH.cons (o := _) rfl (fun K hK => ?_) AllReadyH.nil
  go_simp
  refine (vPutA hn _ _ HX.out W1.out.at_).mono ?_; rintro e w2 ⟨rfl, h1, h2⟩; have W2 := hidp (W1.out.call h1 h2); clear h1 h2 W1
  refine hK.out _ _ ?_ (fun hHeld => ?_)
  · (try dsimp only)
    first | exact W0.out.drew.h0.four | exact W0.out.h0.four | exact W1.out.h0.four | exact W2.out.h0.four | exact hHeld
  clear hK K
  (try simp only [Act.put, gA, gB, gC, sA, sB, sC])
  refine wpAnyH_done (by kernel_rfl) ?_ _
  obtain ⟨x0, x1, x2, x3⟩ := W2.out.h0.four
  go_wp2
  go_end0
  exact ⟨rfl, W2.out.fin⟩

set_option maxHeartbeats 3200000 in
theorem spJoin_c (hn : n < 2 ^ 40) (hq : q ≤ 2147483648) (p r : Int) (hr : IntKind.i64.wrap (r - 1) = r - 1) (h : (vOb base b n wh K).At w0 A G st w) :
    Calls Tryz.prog 159 #[.agg #[.pointer (some ⟨b, 0, none⟩), .int .i64 t, .int .i64 q, .int .i64 s], .int .i64 p, .int .i64 r] w fun e w' => e = .returned (.int .i64 (dropV n K t q s p st)) ∧ (vOb base b n wh K).At w0 A G (putS n (putS n (dropS n K t q s p st) (pageI t q s r 0) 0) (pageI t q s (r - 1) 1) 0) w' ∧ Stay G w w' := by
  have W0 := hidp ((WL.start h).new 142 #[.pointer (some ⟨b, 0, none⟩), .int .i64 t, .int .i64 q, .int .i64 s])
  clear h
  go_enter Tryz.func159, Tryz.ntmps159
  obtain ⟨x0, x1, x2, x3⟩ := W0.out.h0.four
  go_wp2_with fail
  refine (bnDrop_c hn hq p W0.out.at_).mono ?_; rintro e w1 ⟨rfl, h1, h2⟩; have W1 := hidp (W0.out.call h1 h2); clear h1 h2 W0
  obtain ⟨x0, x1, x2, x3⟩ := W1.out.h0.four
  go_wp2_with fail
  refine wp_region_held_drew (S := (fun w' => w'.cell? ⟨w.heap.size, 0, none⟩ = some (.pointer (some ⟨b, 0, none⟩)) ∧ w'.cell? ⟨w.heap.size, 1, none⟩ = some (.int .i64 t) ∧ w'.cell? ⟨w.heap.size, 2, none⟩ = some (.int .i64 q) ∧ w'.cell? ⟨w.heap.size, 3, none⟩ = some (.int .i64 s))) (by kernel_rfl) ?_ (fun hHeld => ?_)
  · (try dsimp only)
    first | exact W1.out.drew.h0.four | exact W1.out.h0.four | exact W2.out.h0.four | exact W3.out.h0.four | exact hHeld
  refine tkz 0 ?_
  refine tkz 1 ?_
  refine tkz 2 ?_
  refine tkz 3 ?_
  refine tkz 4 ?_
  refine wpAnyH_ready (rs := [5]) (by kernel_rfl) (by simp) ?_
  refine AllReadyH.cons (o := _) rfl (fun K hK => ?_) AllReadyH.nil
  go_simp
  refine (plInfo_c t q s r _).mono ?_; rintro e w2 ⟨rfl, hb⟩; have W2 := hidp (W1.out.drew.keep hb); clear hb W1
  refine hK.out _ _ ?_ (fun hHeld => ?_)
  · (try dsimp only)
    first | exact W1.out.drew.h0.four | exact W1.out.h0.four | exact W2.out.h0.four | exact W3.out.h0.four | exact hHeld
  clear hK K
  (try simp only [Act.put, gA, gB, gC, sA, sB, sC])
  refine wpAnyH_ready (rs := [6]) (by kernel_rfl) (by simp) ?_
  refine AllReadyH.cons (o := _) rfl (fun K hK => ?_) AllReadyH.nil
  go_simp
  refine (vPutA hn _ 0 (by omega) W2.out.at_).mono ?_; rintro e w3 ⟨rfl, h1, h2⟩; have W3 := hidp (W2.out.call h1 h2); clear h1 h2 W2
  refine hK.out _ _ ?_ (fun hHeld => ?_)
  · (try dsimp only)
    first | exact W1.out.drew.h0.four | exact W1.out.h0.four | exact W2.out.h0.four | exact W3.out.h0.four | exact hHeld
  clear hK K
  (try simp only [Act.put, gA, gB, gC, sA, sB, sC])
  refine wpAnyH_done (by kernel_rfl) ?_ _
  obtain ⟨x0, x1, x2, x3⟩ := W3.out.h0.four
  go_wp2_with fail
  refine wp_region_held_drew (S := (fun w' => w'.cell? ⟨w.heap.size, 0, none⟩ = some (.pointer (some ⟨b, 0, none⟩)) ∧ w'.cell? ⟨w.heap.size, 1, none⟩ = some (.int .i64 t) ∧ w'.cell? ⟨w.heap.size, 2, none⟩ = some (.int .i64 q) ∧ w'.cell? ⟨w.heap.size, 3, none⟩ = some (.int .i64 s))) (by kernel_rfl) ?_ (fun hHeld => ?_)
  · (try dsimp only)
    first | exact W3.out.drew.h0.four | exact W3.out.h0.four | exact W4.out.h0.four | exact W5.out.h0.four | exact hHeld
  refine tkz 0 ?_
  refine tkz 1 ?_
  refine tkz 2 ?_
  refine tkz 3 ?_
  refine tkz 4 ?_
  refine tkz 5 ?_
  refine wpAnyH_ready (rs := [6]) (by kernel_rfl) (by simp) ?_
  refine AllReadyH.cons (o := _) rfl (fun K hK => ?_) AllReadyH.nil
  go_simp
  refine (plFoot_c t q s (r - 1) _).mono ?_; rintro e w4 ⟨rfl, hb⟩; have W4 := hidp (W3.out.drew.keep hb); clear hb W3
  refine hK.out _ _ ?_ (fun hHeld => ?_)
  · (try dsimp only)
    first | exact W3.out.drew.h0.four | exact W3.out.h0.four | exact W4.out.h0.four | exact W5.out.h0.four | exact hHeld
  clear hK K
  (try simp only [Act.put, gA, gB, gC, sA, sB, sC])
  refine wpAnyH_ready (rs := [7]) (by kernel_rfl) (by simp) ?_
  refine AllReadyH.cons (o := _) rfl (fun K hK => ?_) AllReadyH.nil
  go_simp
  refine (vPutA hn _ 0 (by omega) W4.out.at_).mono ?_; rintro e w5 ⟨rfl, h1, h2⟩; have W5 := hidp (W4.out.call h1 h2); clear h1 h2 W4
  refine hK.out _ _ ?_ (fun hHeld => ?_)
  · (try dsimp only)
    first | exact W3.out.drew.h0.four | exact W3.out.h0.four | exact W4.out.h0.four | exact W5.out.h0.four | exact hHeld
  clear hK K
  (try simp only [Act.put, gA, gB, gC, sA, sB, sC])
  refine wpAnyH_done (by kernel_rfl) ?_ _
  obtain ⟨x0, x1, x2, x3⟩ := W5.out.h0.four
  go_wp2
  go_ret
  exact ⟨rfl, W5.out.fin⟩

set_option maxHeartbeats 3200000 in
theorem spUse_c (hn : n < 2 ^ 40) (p m : Nat) (hp : p ≤ 2147483648) (hm : m ≤ 2147483648) (h : (vOb base b n wh K).At w0 A G st w) :
    Calls Tryz.prog 118 #[.agg #[.pointer (some ⟨b, 0, none⟩), .int .i64 t, .int .i64 q, .int .i64 s], .agg #[.int .i64 (p : Int), .int .i64 (m : Int)]] w fun e w' => e = .returned (.tuple #[]) ∧ (vOb base b n wh K).At w0 A G (usedS n t q s p m st) w' ∧ Stay G w w' := by
  have W0 := hidp (((WL.start h).new 142 #[.pointer (some ⟨b, 0, none⟩), .int .i64 t, .int .i64 q, .int .i64 s]).new 143 #[.int .i64 (p : Int), .int .i64 (m : Int)])
  rw [World.size_alloc] at W0
  have sk : IntKind.u32.wrap ((p : Int) + 1) = ((p + 1 : Nat) : Int) := by have := wrap_nat32 (p + 1) (by omega); simpa using this
  have sp : IntKind.u32.wrap (p : Int) = (p : Int) := wrap_nat32 p (by omega)
  have HIV := hidp (infoV_lt 2 (m : Int) 0)
  have s1 : IntKind.i64.wrap ((p : Int) + (m : Int)) = (p : Int) + (m : Int) := i64_same (by omega) (by omega)
  have s2 : IntKind.i64.wrap ((p : Int) + (m : Int) - 1) = (p : Int) + (m : Int) - 1 := i64_same (by omega) (by omega)
  clear h
  go_enter Tryz.func118, Tryz.ntmps118
  obtain ⟨x0, x1, x2, x3⟩ := W0.out.h1.four
  obtain ⟨y0, y1⟩ := W0.out.h0.two
  go_wp2_with fail
  refine (inPut_c 2 (m : Int) 0 _).mono ?_; rintro e w1 ⟨rfl, hb⟩; have W1 := hidp (W0.out.keep hb); clear hb W0
  obtain ⟨x0, x1, x2, x3⟩ := W1.out.h1.four
  obtain ⟨y0, y1⟩ := W1.out.h0.two
  go_wp2_with fail
  refine wp_region_held_drew (S := (fun w' => w'.cell? ⟨w.heap.size, 0, none⟩ = some (.pointer (some ⟨b, 0, none⟩)) ∧ w'.cell? ⟨w.heap.size, 1, none⟩ = some (.int .i64 t) ∧ w'.cell? ⟨w.heap.size, 2, none⟩ = some (.int .i64 q) ∧ w'.cell? ⟨w.heap.size, 3, none⟩ = some (.int .i64 s) ∧ w'.cell? ⟨(w.heap.size + 1), 0, none⟩ = some (.int .i64 (p : Int)) ∧ w'.cell? ⟨(w.heap.size + 1), 1, none⟩ = some (.int .i64 (m : Int)))) (by kernel_rfl) ?_ (fun hHeld => ?_)
  · (try dsimp only)
    first | exact ⟨W1.out.drew.h1.four.1, W1.out.drew.h1.four.2.1, W1.out.drew.h1.four.2.2.1, W1.out.drew.h1.four.2.2.2, W1.out.drew.h0.two.1, W1.out.drew.h0.two.2⟩ | exact ⟨W1.out.h1.four.1, W1.out.h1.four.2.1, W1.out.h1.four.2.2.1, W1.out.h1.four.2.2.2, W1.out.h0.two.1, W1.out.h0.two.2⟩ | exact ⟨W2.out.h1.four.1, W2.out.h1.four.2.1, W2.out.h1.four.2.2.1, W2.out.h1.four.2.2.2, W2.out.h0.two.1, W2.out.h0.two.2⟩ | exact ⟨W3.out.h1.four.1, W3.out.h1.four.2.1, W3.out.h1.four.2.2.1, W3.out.h1.four.2.2.2, W3.out.h0.two.1, W3.out.h0.two.2⟩ | exact hHeld
  refine tkz 0 ?_
  refine tkz 1 ?_
  refine tkz 2 ?_
  refine tkz 3 ?_
  refine tkz 4 ?_
  refine tkz 5 ?_
  refine tkz 7 ?_
  refine wpAnyH_ready (rs := [6]) (by kernel_rfl) (by simp) ?_
  refine AllReadyH.cons (o := _) rfl (fun K hK => ?_) AllReadyH.nil
  go_simp
  refine (plInfo_c t q s (p : Int) _).mono ?_; rintro e w2 ⟨rfl, hb⟩; have W2 := hidp (W1.out.drew.keep hb); clear hb W1
  refine hK.out _ _ ?_ (fun hHeld => ?_)
  · (try dsimp only)
    first | exact ⟨W1.out.drew.h1.four.1, W1.out.drew.h1.four.2.1, W1.out.drew.h1.four.2.2.1, W1.out.drew.h1.four.2.2.2, W1.out.drew.h0.two.1, W1.out.drew.h0.two.2⟩ | exact ⟨W1.out.h1.four.1, W1.out.h1.four.2.1, W1.out.h1.four.2.2.1, W1.out.h1.four.2.2.2, W1.out.h0.two.1, W1.out.h0.two.2⟩ | exact ⟨W2.out.h1.four.1, W2.out.h1.four.2.1, W2.out.h1.four.2.2.1, W2.out.h1.four.2.2.2, W2.out.h0.two.1, W2.out.h0.two.2⟩ | exact ⟨W3.out.h1.four.1, W3.out.h1.four.2.1, W3.out.h1.four.2.2.1, W3.out.h1.four.2.2.2, W3.out.h0.two.1, W3.out.h0.two.2⟩ | exact hHeld
  clear hK K
  (try simp only [Act.put, gA, gB, gC, sA, sB, sC])
  refine wpAnyH_ready (rs := [8]) (by kernel_rfl) (by simp) ?_
  refine AllReadyH.cons (o := _) rfl (fun K hK => ?_) AllReadyH.nil
  go_simp
  refine (vPutA hn _ _ HIV.out W2.out.at_).mono ?_; rintro e w3 ⟨rfl, h1, h2⟩; have W3 := hidp (W2.out.call h1 h2); clear h1 h2 W2
  refine hK.out _ _ ?_ (fun hHeld => ?_)
  · (try dsimp only)
    first | exact ⟨W1.out.drew.h1.four.1, W1.out.drew.h1.four.2.1, W1.out.drew.h1.four.2.2.1, W1.out.drew.h1.four.2.2.2, W1.out.drew.h0.two.1, W1.out.drew.h0.two.2⟩ | exact ⟨W1.out.h1.four.1, W1.out.h1.four.2.1, W1.out.h1.four.2.2.1, W1.out.h1.four.2.2.2, W1.out.h0.two.1, W1.out.h0.two.2⟩ | exact ⟨W2.out.h1.four.1, W2.out.h1.four.2.1, W2.out.h1.four.2.2.1, W2.out.h1.four.2.2.2, W2.out.h0.two.1, W2.out.h0.two.2⟩ | exact ⟨W3.out.h1.four.1, W3.out.h1.four.2.1, W3.out.h1.four.2.2.1, W3.out.h1.four.2.2.2, W3.out.h0.two.1, W3.out.h0.two.2⟩ | exact hHeld
  clear hK K
  (try simp only [Act.put, gA, gB, gC, sA, sB, sC])
  refine wpAnyH_done (by kernel_rfl) ?_ _
  obtain ⟨x0, x1, x2, x3⟩ := W3.out.h1.four
  obtain ⟨y0, y1⟩ := W3.out.h0.two
  go_wp2_with fail
  refine wp_region_held_drew (S := (fun w' => w'.cell? ⟨w.heap.size, 0, none⟩ = some (.pointer (some ⟨b, 0, none⟩)) ∧ w'.cell? ⟨w.heap.size, 1, none⟩ = some (.int .i64 t) ∧ w'.cell? ⟨w.heap.size, 2, none⟩ = some (.int .i64 q) ∧ w'.cell? ⟨w.heap.size, 3, none⟩ = some (.int .i64 s) ∧ w'.cell? ⟨(w.heap.size + 1), 0, none⟩ = some (.int .i64 (p : Int)) ∧ w'.cell? ⟨(w.heap.size + 1), 1, none⟩ = some (.int .i64 (m : Int)))) (by kernel_rfl) ?_ (fun hHeld => ?_)
  · (try dsimp only)
    first | exact ⟨W3.out.drew.h1.four.1, W3.out.drew.h1.four.2.1, W3.out.drew.h1.four.2.2.1, W3.out.drew.h1.four.2.2.2, W3.out.drew.h0.two.1, W3.out.drew.h0.two.2⟩ | exact ⟨W3.out.h1.four.1, W3.out.h1.four.2.1, W3.out.h1.four.2.2.1, W3.out.h1.four.2.2.2, W3.out.h0.two.1, W3.out.h0.two.2⟩ | exact ⟨W4.out.h1.four.1, W4.out.h1.four.2.1, W4.out.h1.four.2.2.1, W4.out.h1.four.2.2.2, W4.out.h0.two.1, W4.out.h0.two.2⟩ | exact ⟨W5.out.h1.four.1, W5.out.h1.four.2.1, W5.out.h1.four.2.2.1, W5.out.h1.four.2.2.2, W5.out.h0.two.1, W5.out.h0.two.2⟩ | exact ⟨W6.out.h1.four.1, W6.out.h1.four.2.1, W6.out.h1.four.2.2.1, W6.out.h1.four.2.2.2, W6.out.h0.two.1, W6.out.h0.two.2⟩ | exact hHeld
  refine tkz 0 ?_
  refine tkz 1 ?_
  refine tkz 2 ?_
  refine tkz 3 ?_
  refine tkz 4 ?_
  refine tkz 8 ?_
  refine tkz 9 ?_
  refine tkz 10 ?_
  refine tkz 11 ?_
  refine wpAnyH_ready (rs := [5]) (by kernel_rfl) (by simp) ?_
  refine AllReadyH.cons (o := _) rfl (fun K hK => ?_) AllReadyH.nil
  go_simp
  refine (spBehind_c (p : Int) (m : Int) s1 _).mono ?_; rintro e w4 ⟨rfl, hb⟩; have W4 := hidp (W3.out.drew.keep hb); clear hb W3
  refine hK.out _ _ ?_ (fun hHeld => ?_)
  · (try dsimp only)
    first | exact ⟨W3.out.drew.h1.four.1, W3.out.drew.h1.four.2.1, W3.out.drew.h1.four.2.2.1, W3.out.drew.h1.four.2.2.2, W3.out.drew.h0.two.1, W3.out.drew.h0.two.2⟩ | exact ⟨W3.out.h1.four.1, W3.out.h1.four.2.1, W3.out.h1.four.2.2.1, W3.out.h1.four.2.2.2, W3.out.h0.two.1, W3.out.h0.two.2⟩ | exact ⟨W4.out.h1.four.1, W4.out.h1.four.2.1, W4.out.h1.four.2.2.1, W4.out.h1.four.2.2.2, W4.out.h0.two.1, W4.out.h0.two.2⟩ | exact ⟨W5.out.h1.four.1, W5.out.h1.four.2.1, W5.out.h1.four.2.2.1, W5.out.h1.four.2.2.2, W5.out.h0.two.1, W5.out.h0.two.2⟩ | exact ⟨W6.out.h1.four.1, W6.out.h1.four.2.1, W6.out.h1.four.2.2.1, W6.out.h1.four.2.2.2, W6.out.h0.two.1, W6.out.h0.two.2⟩ | exact hHeld
  clear hK K
  (try simp only [Act.put, gA, gB, gC, sA, sB, sC])
  refine tkz 6 ?_
  refine wpAnyH_ready (rs := [7]) (by kernel_rfl) (by simp) ?_
  refine AllReadyH.cons (o := _) rfl (fun K hK => ?_) AllReadyH.nil
  go_simp
  refine (plFoot_c t q s ((p : Int) + (m : Int) - 1) _).mono ?_; rintro e w5 ⟨rfl, hb⟩; have W5 := hidp (W4.out.keep hb); clear hb W4
  refine hK.out _ _ ?_ (fun hHeld => ?_)
  · (try dsimp only)
    first | exact ⟨W3.out.drew.h1.four.1, W3.out.drew.h1.four.2.1, W3.out.drew.h1.four.2.2.1, W3.out.drew.h1.four.2.2.2, W3.out.drew.h0.two.1, W3.out.drew.h0.two.2⟩ | exact ⟨W3.out.h1.four.1, W3.out.h1.four.2.1, W3.out.h1.four.2.2.1, W3.out.h1.four.2.2.2, W3.out.h0.two.1, W3.out.h0.two.2⟩ | exact ⟨W4.out.h1.four.1, W4.out.h1.four.2.1, W4.out.h1.four.2.2.1, W4.out.h1.four.2.2.2, W4.out.h0.two.1, W4.out.h0.two.2⟩ | exact ⟨W5.out.h1.four.1, W5.out.h1.four.2.1, W5.out.h1.four.2.2.1, W5.out.h1.four.2.2.2, W5.out.h0.two.1, W5.out.h0.two.2⟩ | exact ⟨W6.out.h1.four.1, W6.out.h1.four.2.1, W6.out.h1.four.2.2.1, W6.out.h1.four.2.2.2, W6.out.h0.two.1, W6.out.h0.two.2⟩ | exact hHeld
  clear hK K
  (try simp only [Act.put, gA, gB, gC, sA, sB, sC])
  refine wpAnyH_ready (rs := [12]) (by kernel_rfl) (by simp) ?_
  refine AllReadyH.cons (o := _) rfl (fun K hK => ?_) AllReadyH.nil
  go_simp
  refine (vPutA hn _ (p + 1) (by omega) W5.out.at_).mono ?_; rintro e w6 ⟨rfl, h1, h2⟩; have W6 := hidp (W5.out.call h1 h2); clear h1 h2 W5
  refine hK.out _ _ ?_ (fun hHeld => ?_)
  · (try dsimp only)
    first | exact ⟨W3.out.drew.h1.four.1, W3.out.drew.h1.four.2.1, W3.out.drew.h1.four.2.2.1, W3.out.drew.h1.four.2.2.2, W3.out.drew.h0.two.1, W3.out.drew.h0.two.2⟩ | exact ⟨W3.out.h1.four.1, W3.out.h1.four.2.1, W3.out.h1.four.2.2.1, W3.out.h1.four.2.2.2, W3.out.h0.two.1, W3.out.h0.two.2⟩ | exact ⟨W4.out.h1.four.1, W4.out.h1.four.2.1, W4.out.h1.four.2.2.1, W4.out.h1.four.2.2.2, W4.out.h0.two.1, W4.out.h0.two.2⟩ | exact ⟨W5.out.h1.four.1, W5.out.h1.four.2.1, W5.out.h1.four.2.2.1, W5.out.h1.four.2.2.2, W5.out.h0.two.1, W5.out.h0.two.2⟩ | exact ⟨W6.out.h1.four.1, W6.out.h1.four.2.1, W6.out.h1.four.2.2.1, W6.out.h1.four.2.2.2, W6.out.h0.two.1, W6.out.h0.two.2⟩ | exact hHeld
  clear hK K
  (try simp only [Act.put, gA, gB, gC, sA, sB, sC])
  refine wpAnyH_done (by kernel_rfl) ?_ _
  obtain ⟨x0, x1, x2, x3⟩ := W6.out.h1.four
  obtain ⟨y0, y1⟩ := W6.out.h0.two
  go_wp2
  go_end0
  exact ⟨rfl, W6.out.fin⟩

set_option maxHeartbeats 3200000 in
theorem spBegins_c (hn : n < 2 ^ 40) (p k l c : Int) (ok : Bool) (hI : infoOf n K t q s p st = (k, l, c, ok)) (h : (vOb base b n wh K).At w0 A G st w) :
    Calls Tryz.prog 158 #[.agg #[.pointer (some ⟨b, 0, none⟩), .int .i64 t, .int .i64 q, .int .i64 s], .int .i64 p] w fun e w' => e = .returned (.agg #[.int .i64 k, .int .i64 l, .int .i64 c]) ∧ (vOb base b n wh K).At w0 A G (getS n K st (pageI t q s p 0)) w' ∧ Stay G w w' := by
  have W0 := hidp (((WL.start h).new 142 #[.pointer (some ⟨b, 0, none⟩), .int .i64 t, .int .i64 q, .int .i64 s]).new 60 #[.int .i64 0, .int .i64 0, .int .i64 0])
  rw [World.size_alloc] at W0
  obtain ⟨v, hv⟩ : ∃ v, getV n K st (pageI t q s p 0) = v := ⟨_, rfl⟩
  have hv32 : v < 2 ^ 32 := by rw [← hv]; exact vAt_lt h _
  have HI : Hid (infoG v = (k, l, c, ok)) := hidp (by rw [← hv]; exact hI)
  have HV := hidp hv
  clear hI hv
  clear h
  go_enter Tryz.func158, Tryz.ntmps158
  obtain ⟨x0, x1, x2, x3⟩ := W0.out.h1.four
  go_wp2_with fail
  refine wp_region_held_drew (S := (fun w' => w'.cell? ⟨w.heap.size, 0, none⟩ = some (.pointer (some ⟨b, 0, none⟩)) ∧ w'.cell? ⟨w.heap.size, 1, none⟩ = some (.int .i64 t) ∧ w'.cell? ⟨w.heap.size, 2, none⟩ = some (.int .i64 q) ∧ w'.cell? ⟨w.heap.size, 3, none⟩ = some (.int .i64 s))) (by kernel_rfl) ?_ (fun hHeld => ?_)
  · (try dsimp only)
    exact W0.out.drew.h1.four
  have W1 := hidp W0.out.drew
  clear W0 x0 x1 x2 x3
  generalize hq0 : World.drew _ = q0 at W1 hHeld ⊢
  clear hq0
  refine tkz 0 ?_
  refine tkz 1 ?_
  refine tkz 2 ?_
  refine tkz 3 ?_
  refine tkz 4 ?_
  refine wpAnyH_ready (rs := [5, 11]) (by kernel_rfl) (by simp) ?_
  refine AllReadyH.cons (o := _) rfl (fun K hK => ?_) (AllReadyH.cons (o := _) rfl (fun K hK => ?_) AllReadyH.nil)
  · skip
    go_simp
    refine (plInfo_c t q s p _).mono ?_; rintro e q1 ⟨rfl, hb⟩; have W2 := hidp (W1.out.keep hb); clear hb W1
    refine hK.out _ _ ?_ (fun hHeld => ?_)
    · (try dsimp only)
      exact W2.out.h1.four
    clear hK K
    (try simp only [Act.put, gA, gB, gC, sA, sB, sC])
    refine wpAnyH_ready (rs := [6, 11]) (by kernel_rfl) (by simp) ?_
    refine AllReadyH.cons (o := _) rfl (fun K hK => ?_) (AllReadyH.cons (o := _) rfl (fun K hK => ?_) AllReadyH.nil)
    · skip
      go_simp
      refine (vGetA hn _ W2.out.at_).mono ?_; rintro e q2 ⟨rfl, h1, h2⟩; have W3 := hidp (W2.out.call h1 h2); clear h1 h2 W2; rw [HV.out]
      refine hK.out _ _ ?_ (fun hHeld => ?_)
      · (try dsimp only)
        exact W3.out.h1.four
      clear hK K
      (try simp only [Act.put, gA, gB, gC, sA, sB, sC])
      refine wpAnyH_ready (rs := [7, 11]) (by kernel_rfl) (by simp) ?_
      refine AllReadyH.cons (o := _) rfl (fun K hK => ?_) (AllReadyH.cons (o := _) rfl (fun K hK => ?_) AllReadyH.nil)
      · skip
        go_simp
        refine (inGet_c v k l c ok hv32 HI.out _).mono ?_; rintro e q3 ⟨rfl, hb⟩; have W4 := hidp (W3.out.keep hb); clear hb W3
        refine hK.out _ _ ?_ (fun hHeld => ?_)
        · (try dsimp only)
          exact W4.out.h1.four
        clear hK K
        (try simp only [Act.put, gA, gB, gC, sA, sB, sC])
        refine tkz 8 ?_
        refine tkz 9 ?_
        refine tkz 10 ?_
        refine wpAnyH_ready (rs := [11]) (by kernel_rfl) (by simp) ?_
        refine AllReadyH.cons (o := _) rfl (fun K hK => ?_) AllReadyH.nil
        go_simp
        have W5 := hidp (W4.out.new 60 #[.int .i64 0, .int .i64 0, .int .i64 0])
        clear W4
        generalize hwq4 : (q3).alloc (.cells #[.int .i64 0, .int .i64 0, .int .i64 0] 60) = q4 at W5 ⊢
        clear hwq4
        refine hK.out _ _ ?_ (fun hHeld => ?_)
        · (try dsimp only)
          exact W5.out.h2.four
        clear hK K
        (try simp only [Act.put, gA, gB, gC, sA, sB, sC])
        refine wpAnyH_ready (rs := [12]) (by kernel_rfl) (by simp) ?_
        refine AllReadyH.cons (o := _) rfl (fun K hK => ?_) AllReadyH.nil
        obtain ⟨z0, z1, z2⟩ := W5.out.h0.three
        have f0 := W5.out.h0.thawed 0
        have f1 := W5.out.h0.thawed 1
        have f2 := W5.out.h0.thawed 2
        go_simp
        have W6 := hidp (((W5.out.put 0 (.int .i64 k)).put 1 (.int .i64 l)).put 2 (.int .i64 c))
        clear W5 z0 z1 z2 f0 f1 f2
        refine hK.out _ _ ?_ (fun hHeld => ?_)
        · (try dsimp only)
          exact W6.out.h2.four
        clear hK K
        (try simp only [Act.put, gA, gB, gC, sA, sB, sC])
        refine tkz 13 ?_
        refine wpAnyH_done (by kernel_rfl) ?_ _
        have W7 := hidp (((W6.out.swap.put 0 (.int .i64 k)).put 1 (.int .i64 l)).put 2 (.int .i64 c))
        obtain ⟨z0, z1, z2⟩ := W6.out.h0.three
        obtain ⟨y0, y1, y2⟩ := W6.out.h1.three
        have f0 := W6.out.h1.thawed 0
        have f1 := W6.out.h1.thawed 1
        have f2 := W6.out.h1.thawed 2
        obtain ⟨r0, r1, r2⟩ := W7.out.h0.three
        go_wp2
        refine bodyPost_ret (v := .agg #[.int .i64 k, .int .i64 l, .int .i64 c]) (by simp [results, Tryz.results158, go_sem, r0, r1, r2]) rfl ⟨rfl, ?_⟩
        exact W7.out.fin
      · skip
        go_simp
        have W4 := hidp (W3.out.new 60 #[.int .i64 0, .int .i64 0, .int .i64 0])
        clear W3
        generalize hwq5 : (q2).alloc (.cells #[.int .i64 0, .int .i64 0, .int .i64 0] 60) = q5 at W4 ⊢
        clear hwq5
        refine hK.out _ _ ?_ (fun hHeld => ?_)
        · (try dsimp only)
          exact W4.out.h2.four
        clear hK K
        (try simp only [Act.put, gA, gB, gC, sA, sB, sC])
        refine wpAnyH_ready (rs := [7]) (by kernel_rfl) (by simp) ?_
        refine AllReadyH.cons (o := _) rfl (fun K hK => ?_) AllReadyH.nil
        go_simp
        refine (inGet_c v k l c ok hv32 HI.out _).mono ?_; rintro e q6 ⟨rfl, hb⟩; have W5 := hidp (W4.out.keep hb); clear hb W4
        refine hK.out _ _ ?_ (fun hHeld => ?_)
        · (try dsimp only)
          exact W5.out.h2.four
        clear hK K
        (try simp only [Act.put, gA, gB, gC, sA, sB, sC])
        refine tkz 8 ?_
        refine tkz 9 ?_
        refine tkz 10 ?_
        refine wpAnyH_ready (rs := [12]) (by kernel_rfl) (by simp) ?_
        refine AllReadyH.cons (o := _) rfl (fun K hK => ?_) AllReadyH.nil
        obtain ⟨z0, z1, z2⟩ := W5.out.h0.three
        have f0 := W5.out.h0.thawed 0
        have f1 := W5.out.h0.thawed 1
        have f2 := W5.out.h0.thawed 2
        go_simp
        have W6 := hidp (((W5.out.put 0 (.int .i64 k)).put 1 (.int .i64 l)).put 2 (.int .i64 c))
        clear W5 z0 z1 z2 f0 f1 f2
        refine hK.out _ _ ?_ (fun hHeld => ?_)
        · (try dsimp only)
          exact W6.out.h2.four
        clear hK K
        (try simp only [Act.put, gA, gB, gC, sA, sB, sC])
        refine tkz 13 ?_
        refine wpAnyH_done (by kernel_rfl) ?_ _
        have W7 := hidp (((W6.out.swap.put 0 (.int .i64 k)).put 1 (.int .i64 l)).put 2 (.int .i64 c))
        obtain ⟨z0, z1, z2⟩ := W6.out.h0.three
        obtain ⟨y0, y1, y2⟩ := W6.out.h1.three
        have f0 := W6.out.h1.thawed 0
        have f1 := W6.out.h1.thawed 1
        have f2 := W6.out.h1.thawed 2
        obtain ⟨r0, r1, r2⟩ := W7.out.h0.three
        go_wp2
        refine bodyPost_ret (v := .agg #[.int .i64 k, .int .i64 l, .int .i64 c]) (by simp [results, Tryz.results158, go_sem, r0, r1, r2]) rfl ⟨rfl, ?_⟩
        exact W7.out.fin
    · skip
      go_simp
      have W3 := hidp (W2.out.new 60 #[.int .i64 0, .int .i64 0, .int .i64 0])
      clear W2
      generalize hwq7 : (q1).alloc (.cells #[.int .i64 0, .int .i64 0, .int .i64 0] 60) = q7 at W3 ⊢
      clear hwq7
      refine hK.out _ _ ?_ (fun hHeld => ?_)
      · (try dsimp only)
        exact W3.out.h2.four
      clear hK K
      (try simp only [Act.put, gA, gB, gC, sA, sB, sC])
      refine wpAnyH_ready (rs := [6]) (by kernel_rfl) (by simp) ?_
      refine AllReadyH.cons (o := _) rfl (fun K hK => ?_) AllReadyH.nil
      go_simp
      refine (vGetA hn _ W3.out.at_).mono ?_; rintro e q8 ⟨rfl, h1, h2⟩; have W4 := hidp (W3.out.call h1 h2); clear h1 h2 W3; rw [HV.out]
      refine hK.out _ _ ?_ (fun hHeld => ?_)
      · (try dsimp only)
        exact W4.out.h2.four
      clear hK K
      (try simp only [Act.put, gA, gB, gC, sA, sB, sC])
      refine wpAnyH_ready (rs := [7]) (by kernel_rfl) (by simp) ?_
      refine AllReadyH.cons (o := _) rfl (fun K hK => ?_) AllReadyH.nil
      go_simp
      refine (inGet_c v k l c ok hv32 HI.out _).mono ?_; rintro e q9 ⟨rfl, hb⟩; have W5 := hidp (W4.out.keep hb); clear hb W4
      refine hK.out _ _ ?_ (fun hHeld => ?_)
      · (try dsimp only)
        exact W5.out.h2.four
      clear hK K
      (try simp only [Act.put, gA, gB, gC, sA, sB, sC])
      refine tkz 8 ?_
      refine tkz 9 ?_
      refine tkz 10 ?_
      refine wpAnyH_ready (rs := [12]) (by kernel_rfl) (by simp) ?_
      refine AllReadyH.cons (o := _) rfl (fun K hK => ?_) AllReadyH.nil
      obtain ⟨z0, z1, z2⟩ := W5.out.h0.three
      have f0 := W5.out.h0.thawed 0
      have f1 := W5.out.h0.thawed 1
      have f2 := W5.out.h0.thawed 2
      go_simp
      have W6 := hidp (((W5.out.put 0 (.int .i64 k)).put 1 (.int .i64 l)).put 2 (.int .i64 c))
      clear W5 z0 z1 z2 f0 f1 f2
      refine hK.out _ _ ?_ (fun hHeld => ?_)
      · (try dsimp only)
        exact W6.out.h2.four
      clear hK K
      (try simp only [Act.put, gA, gB, gC, sA, sB, sC])
      refine tkz 13 ?_
      refine wpAnyH_done (by kernel_rfl) ?_ _
      have W7 := hidp (((W6.out.swap.put 0 (.int .i64 k)).put 1 (.int .i64 l)).put 2 (.int .i64 c))
      obtain ⟨z0, z1, z2⟩ := W6.out.h0.three
      obtain ⟨y0, y1, y2⟩ := W6.out.h1.three
      have f0 := W6.out.h1.thawed 0
      have f1 := W6.out.h1.thawed 1
      have f2 := W6.out.h1.thawed 2
      obtain ⟨r0, r1, r2⟩ := W7.out.h0.three
      go_wp2
      refine bodyPost_ret (v := .agg #[.int .i64 k, .int .i64 l, .int .i64 c]) (by simp [results, Tryz.results158, go_sem, r0, r1, r2]) rfl ⟨rfl, ?_⟩
      exact W7.out.fin
  · skip
    go_simp
    have W2 := hidp (W1.out.new 60 #[.int .i64 0, .int .i64 0, .int .i64 0])
    clear W1
    generalize hwq10 : (q0).alloc (.cells #[.int .i64 0, .int .i64 0, .int .i64 0] 60) = q10 at W2 ⊢
    clear hwq10
    refine hK.out _ _ ?_ (fun hHeld => ?_)
    · (try dsimp only)
      exact W2.out.h2.four
    clear hK K
    (try simp only [Act.put, gA, gB, gC, sA, sB, sC])
    refine wpAnyH_ready (rs := [5]) (by kernel_rfl) (by simp) ?_
    refine AllReadyH.cons (o := _) rfl (fun K hK => ?_) AllReadyH.nil
    go_simp
    refine (plInfo_c t q s p _).mono ?_; rintro e q11 ⟨rfl, hb⟩; have W3 := hidp (W2.out.keep hb); clear hb W2
    refine hK.out _ _ ?_ (fun hHeld => ?_)
    · (try dsimp only)
      exact W3.out.h2.four
    clear hK K
    (try simp only [Act.put, gA, gB, gC, sA, sB, sC])
    refine wpAnyH_ready (rs := [6]) (by kernel_rfl) (by simp) ?_
    refine AllReadyH.cons (o := _) rfl (fun K hK => ?_) AllReadyH.nil
    go_simp
    refine (vGetA hn _ W3.out.at_).mono ?_; rintro e q12 ⟨rfl, h1, h2⟩; have W4 := hidp (W3.out.call h1 h2); clear h1 h2 W3; rw [HV.out]
    refine hK.out _ _ ?_ (fun hHeld => ?_)
    · (try dsimp only)
      exact W4.out.h2.four
    clear hK K
    (try simp only [Act.put, gA, gB, gC, sA, sB, sC])
    refine wpAnyH_ready (rs := [7]) (by kernel_rfl) (by simp) ?_
    refine AllReadyH.cons (o := _) rfl (fun K hK => ?_) AllReadyH.nil
    go_simp
    refine (inGet_c v k l c ok hv32 HI.out _).mono ?_; rintro e q13 ⟨rfl, hb⟩; have W5 := hidp (W4.out.keep hb); clear hb W4
    refine hK.out _ _ ?_ (fun hHeld => ?_)
    · (try dsimp only)
      exact W5.out.h2.four
    clear hK K
    (try simp only [Act.put, gA, gB, gC, sA, sB, sC])
    refine tkz 8 ?_
    refine tkz 9 ?_
    refine tkz 10 ?_
    refine wpAnyH_ready (rs := [12]) (by kernel_rfl) (by simp) ?_
    refine AllReadyH.cons (o := _) rfl (fun K hK => ?_) AllReadyH.nil
    obtain ⟨z0, z1, z2⟩ := W5.out.h0.three
    have f0 := W5.out.h0.thawed 0
    have f1 := W5.out.h0.thawed 1
    have f2 := W5.out.h0.thawed 2
    go_simp
    have W6 := hidp (((W5.out.put 0 (.int .i64 k)).put 1 (.int .i64 l)).put 2 (.int .i64 c))
    clear W5 z0 z1 z2 f0 f1 f2
    refine hK.out _ _ ?_ (fun hHeld => ?_)
    · (try dsimp only)
      exact W6.out.h2.four
    clear hK K
    (try simp only [Act.put, gA, gB, gC, sA, sB, sC])
    refine tkz 13 ?_
    refine wpAnyH_done (by kernel_rfl) ?_ _
    have W7 := hidp (((W6.out.swap.put 0 (.int .i64 k)).put 1 (.int .i64 l)).put 2 (.int .i64 c))
    obtain ⟨z0, z1, z2⟩ := W6.out.h0.three
    obtain ⟨y0, y1, y2⟩ := W6.out.h1.three
    have f0 := W6.out.h1.thawed 0
    have f1 := W6.out.h1.thawed 1
    have f2 := W6.out.h1.thawed 2
    obtain ⟨r0, r1, r2⟩ := W7.out.h0.three
    go_wp2
    refine bodyPost_ret (v := .agg #[.int .i64 k, .int .i64 l, .int .i64 c]) (by simp [results, Tryz.results158, go_sem, r0, r1, r2]) rfl ⟨rfl, ?_⟩
    exact W7.out.fin
end
end
end Go.Proofs.YtioolaaphbddbaaGreatDoor
