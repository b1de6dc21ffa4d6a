/-
  The law AuditParts. Written by audit/gen_laws.py.
-/
import Derived.Test.YtbaofpdjfoaiiaaGreatDoorZCheck
import Derived.Test.YtbaofpdjfoaiiaaGreatDoorZDocCheck
import Derived.Test.YtbaofpdjfoaiiaaGreatDoorZOr
namespace Go.Proofs.YtbaofpdjfoaiiaaGreatDoor
open Go.ChangeShapes Go.WideShapes Go.ChangeAt Go.RowKit Go.Shelf
set_option linter.unusedVariables false
set_option linter.unusedSimpArgs false

theorem few_c (t q s : Int) (w : World) :
    Calls Tryz.prog 6 #[.agg #[.int .i64 t, .int .i64 q, .int .i64 s]] w fun e w' => e = .returned (.bool (decide (q ≤ 64))) ∧ Below w.heap.size w w' := by
  go_enter Tryz.func6, Tryz.ntmps6
  go_wp2
  go_ret
  exact ⟨rfl, Bnew (B0 _) _⟩

set_option maxHeartbeats 1600000 in
theorem AuditParts_few (t q s : Int) (A : Option Addr) (n c : Nat) (hq : 64 < q) (W : World) (hT : SlotsLaid W) :
    Calls Tryz.prog 5 #[.agg #[.int .i64 t, .int .i64 q, .int .i64 s], .slice A n c] W (Keeps W) := by
  have HX := hidp (Held.new W 23 #[.int .i64 t, .int .i64 q, .int .i64 s])
  obtain ⟨c0, c1, c2⟩ := HX.out.three
  have HB := hidp (Bnew (B0 W) (.cells #[.int .i64 t, .int .i64 q, .int .i64 s] 23))
  have HTL := hidp hT
  have t0 : decide (q ≤ 64) = false := decide_eq_false (by omega)
  clear hT
  go_enter Tryz.func5, Tryz.ntmps5
  go_wp2_with (first
    | (go_at_call 6; refine (few_c _ _ _ _).mono ?_; rintro e w1 ⟨rfl, hb1⟩; have HB1 := hidp (Bgo HB.out hb1); have HX1 := hidp (HX.out.keep hb1); clear hb1 c0 c1 c2; obtain ⟨c0, c1, c2⟩ := HX1.out.three)
    | (go_at_call 7; refine (live_c _ (HTL.out.below HB1.out)).mono ?_; rintro e w2 ⟨rfl, hb2⟩; have HB2 := hidp (Bgo HB1.out hb2); clear hb2)
    | fail)
  go_ret
  exact ⟨rfl, HB2.out⟩

set_option maxHeartbeats 3200000 in
set_option maxRecDepth 100000 in
theorem AuditParts_no (t q s : Int) (A : Option Addr) (n c m : Nat) (hq : q ≤ 64) (W : World) (hT : SlotsLaid W) (hC : CheckIs W t q s A n c m false) (hX : XCheckIs W t q s A n c m false) :
    Calls Tryz.prog 5 #[.agg #[.int .i64 t, .int .i64 q, .int .i64 s], .slice A n c] W (Keeps W) := by
  have HX := hidp (Held.new W 23 #[.int .i64 t, .int .i64 q, .int .i64 s])
  obtain ⟨c0, c1, c2⟩ := HX.out.three
  have HB := hidp (Bnew (B0 W) (.cells #[.int .i64 t, .int .i64 q, .int .i64 s] 23))
  have HTL := hidp hT
  have HCK := hidp hC
  have HXK := hidp hX
  have t0 : decide (q ≤ 64) = true := decide_eq_true hq
  clear hT hC hX
  go_enter Tryz.func5, Tryz.ntmps5
  go_wp2_with (first
    | (go_at_call 6; refine (few_c _ _ _ _).mono ?_; rintro e w1 ⟨rfl, hb1⟩; have HB1 := hidp (Bgo HB.out hb1); have HX1 := hidp (HX.out.keep hb1); clear hb1 c0 c1 c2; obtain ⟨c0, c1, c2⟩ := HX1.out.three)
    | fail)
  refine wp_region_held_drew (S := (fun w' => w'.cell? ⟨W.heap.size, 0, none⟩ = some (.int .i64 t) ∧ w'.cell? ⟨W.heap.size, 1, none⟩ = some (.int .i64 q) ∧ w'.cell? ⟨W.heap.size, 2, none⟩ = some (.int .i64 s))) (by kernel_rfl) ?_ (fun hHeld => ?_)
  · (try dsimp only)
    first | exact HX1.out.drew.three | exact HX2.out.three | exact HX3.out.three | exact HX4.out.three | exact HX5.out.three | exact hHeld
  refine tkO (i := 0) (v := ?_) rfl (by kernel_rfl) (fun _ _ _ h => h) (by rfl) ?_ (by assumption) ?_
  rotate_left
  · intro w hSw; (try dsimp only at hSw); go_simp; (try with_reducible rfl)
  (try simp only [Act.put, gA, gB, gC, sA, sB, sC])
  refine tkO (i := 1) (v := ?_) rfl (by kernel_rfl) (fun _ _ _ h => h) (by rfl) ?_ (by assumption) ?_
  rotate_left
  · intro w hSw; (try dsimp only at hSw); go_simp; (try with_reducible rfl)
  (try simp only [Act.put, gA, gB, gC, sA, sB, sC])
  refine tkO (i := 3) (v := ?_) rfl (by kernel_rfl) (fun _ _ _ h => h) (by rfl) ?_ (by assumption) ?_
  rotate_left
  · intro w hSw; (try dsimp only at hSw); go_simp; (try with_reducible rfl)
  (try simp only [Act.put, gA, gB, gC, sA, sB, sC])
  refine tkO (i := 4) (v := ?_) rfl (by kernel_rfl) (fun _ _ _ h => h) (by rfl) ?_ (by assumption) ?_
  rotate_left
  · intro w hSw; (try dsimp only at hSw); go_simp; (try with_reducible rfl)
  (try simp only [Act.put, gA, gB, gC, sA, sB, sC])
  refine wpAnyH_ready (rs := [2]) (by kernel_rfl) (by simp) ?_
  refine AllReadyH.cons (o := _) rfl (fun K hK => ?_) AllReadyH.nil
  go_simp
  (go_at_call 16; refine (auPartsTop_no t q s A n c m _ (HCK.out.grown (Bdrew HB1.out))).mono ?_; rintro e w2 ⟨rfl, hb2⟩; have HB2 := hidp (Bgo (Bdrew HB1.out) hb2); have HX2 := hidp (HX1.out.drew.keep hb2); clear hb2)
  refine hK.out _ _ ?_ (fun hHeld => ?_)
  · (try dsimp only)
    first | exact HX1.out.drew.three | exact HX2.out.three | exact HX3.out.three | exact HX4.out.three | exact HX5.out.three | exact hHeld
  clear hK K
  (try simp only [Act.put, gA, gB, gC, sA, sB, sC])
  refine wpAnyH_ready (rs := [5]) (by kernel_rfl) (by simp) ?_
  refine AllReadyH.cons (o := _) rfl (fun K hK => ?_) AllReadyH.nil
  go_simp
  (go_at_call 17; refine (xPartsTop_no t q s A n c m _ (HXK.out.grown HB2.out)).mono ?_; rintro e w3 ⟨rfl, hb3⟩; have HB3 := hidp (Bgo HB2.out hb3); have HX3 := hidp (HX2.out.keep hb3); clear hb3)
  refine hK.out _ _ ?_ (fun hHeld => ?_)
  · (try dsimp only)
    first | exact HX1.out.drew.three | exact HX2.out.three | exact HX3.out.three | exact HX4.out.three | exact HX5.out.three | exact hHeld
  clear hK K
  (try simp only [Act.put, gA, gB, gC, sA, sB, sC])
  refine wpAnyH_ready (rs := [6]) (by kernel_rfl) (by simp) ?_
  refine AllReadyH.cons (o := _) rfl (fun K hK => ?_) AllReadyH.nil
  go_simp
  (go_at_call 15; refine (xSameParts_c [] none none 0 0 0 0 0 _ rfl (by omega) (World.ownsRow_nil _ _ _ _) (World.ownsRow_nil _ _ _ _)).mono ?_; rintro e w4 ⟨rfl, d, rfl⟩; have HB4 := hidp (Bdraw HB3.out d); have HX4 : Hid (Held (w3.drewN d) W.heap.size 23 #[.int .i64 t, .int .i64 q, .int .i64 s]) := hidp (Held.drewN HX3.out d))
  refine hK.out _ _ ?_ (fun hHeld => ?_)
  · (try dsimp only)
    first | exact HX1.out.drew.three | exact HX2.out.three | exact HX3.out.three | exact HX4.out.three | exact HX5.out.three | exact hHeld
  clear hK K
  (try simp only [Act.put, gA, gB, gC, sA, sB, sC])
  refine tkO (i := 7) (v := ?_) rfl (by kernel_rfl) (fun _ _ _ h => h) (by rfl) ?_ (by assumption) ?_
  rotate_left
  · intro w hSw; (try dsimp only at hSw); go_simp; (try with_reducible rfl)
  (try simp only [Act.put, gA, gB, gC, sA, sB, sC])
  refine wpAnyH_ready (rs := [8]) (by kernel_rfl) (by simp) ?_
  refine AllReadyH.cons (o := _) rfl (fun K hK => ?_) AllReadyH.nil
  go_simp
  (go_at_call 7; refine (live_c _ (HTL.out.below HB4.out)).mono ?_; rintro e w5 ⟨rfl, hb5⟩; have HB5 := hidp (Bgo HB4.out hb5); have HX5 := hidp (HX4.out.keep hb5); clear hb5)
  refine hK.out _ _ ?_ (fun hHeld => ?_)
  · (try dsimp only)
    first | exact HX1.out.drew.three | exact HX2.out.three | exact HX3.out.three | exact HX4.out.three | exact HX5.out.three | exact hHeld
  clear hK K
  (try simp only [Act.put, gA, gB, gC, sA, sB, sC])
  refine tkO (i := 9) (v := ?_) rfl (by kernel_rfl) (fun _ _ _ h => h) (by rfl) ?_ (by assumption) ?_
  rotate_left
  · intro w hSw; (try dsimp only at hSw); go_simp; (try with_reducible rfl)
  (try simp only [Act.put, gA, gB, gC, sA, sB, sC])
  refine tkO (i := 10) (v := ?_) rfl (by kernel_rfl) (fun _ _ _ h => h) (by rfl) ?_ (by assumption) ?_
  rotate_left
  · intro w hSw; (try dsimp only at hSw); go_simp; (try with_reducible rfl)
  (try simp only [Act.put, gA, gB, gC, sA, sB, sC])
  refine wpAnyH_done (by kernel_rfl) ?_ _
  go_wp2_with fail
  go_ret
  exact ⟨rfl, HB5.out⟩

set_option maxHeartbeats 3200000 in
set_option maxRecDepth 100000 in
theorem AuditParts_yes {H : AuH} {n c : Nat} (HV : HeapV H n c) (ht : H.Tiled) (ad : Addr) (m : Nat) (hq : (H.p : Int) ≤ 64) (W : World) (hv : IsVals W ad n H.V) (hT : SlotsLaid W) (hC : CheckIs W H.t H.p H.s (some ad) n c m true) (hX : XCheckIs W H.t H.p H.s (some ad) n c m true) :
    Calls Tryz.prog 5 #[.agg #[.int .i64 (H.t : Int), .int .i64 (H.p : Int), .int .i64 (H.s : Int)], .slice (some ad) n c] W (Keeps W) := by
  have HX := hidp (Held.new W 23 #[.int .i64 (H.t : Int), .int .i64 (H.p : Int), .int .i64 (H.s : Int)])
  obtain ⟨c0, c1, c2⟩ := HX.out.three
  have HB := hidp (Bnew (B0 W) (.cells #[.int .i64 (H.t : Int), .int .i64 (H.p : Int), .int .i64 (H.s : Int)] 23))
  have HTL := hidp hT
  have HVL := hidp hv
  have HCK := hidp hC
  have HXK := hidp hX
  have t0 : decide ((H.p : Int) ≤ 64) = true := decide_eq_true hq
  have hpl := AuH.parts_len (H := H) H.p
  obtain ⟨L, hL⟩ : ∃ L, H.parts = L := ⟨_, rfl⟩
  have HLL := hidp hL
  obtain ⟨nl, hnl⟩ : ∃ nl, L.length = nl := ⟨_, rfl⟩
  have HNL := hidp hnl
  have hnl9 : nl ≤ 100000 := by rw [← hnl, ← hL]; unfold AuH.parts; omega
  clear hT hC hX hv hL hnl hpl
  go_enter Tryz.func5, Tryz.ntmps5
  go_wp2_with (first
    | (go_at_call 6; refine (few_c _ _ _ _).mono ?_; rintro e w1 ⟨rfl, hb1⟩; have HB1 := hidp (Bgo HB.out hb1); have HX1 := hidp (HX.out.keep hb1); clear hb1 c0 c1 c2; obtain ⟨c0, c1, c2⟩ := HX1.out.three)
    | fail)
  refine wp_region_held_drew (S := (fun w' => w'.cell? ⟨W.heap.size, 0, none⟩ = some (.int .i64 (H.t : Int)) ∧ w'.cell? ⟨W.heap.size, 1, none⟩ = some (.int .i64 (H.p : Int)) ∧ w'.cell? ⟨W.heap.size, 2, none⟩ = some (.int .i64 (H.s : Int)))) (by kernel_rfl) ?_ (fun hHeld => ?_)
  · (try dsimp only)
    first | exact HX1.out.drew.three | exact HX2.out.three | exact HX3.out.three | exact HX4.out.three | exact HX5.out.three | exact hHeld
  refine tkO (i := 0) (v := ?_) rfl (by kernel_rfl) (fun _ _ _ h => h) (by rfl) ?_ (by assumption) ?_
  rotate_left
  · intro w hSw; (try dsimp only at hSw); go_simp; (try with_reducible rfl)
  (try simp only [Act.put, gA, gB, gC, sA, sB, sC])
  refine tkO (i := 1) (v := ?_) rfl (by kernel_rfl) (fun _ _ _ h => h) (by rfl) ?_ (by assumption) ?_
  rotate_left
  · intro w hSw; (try dsimp only at hSw); go_simp; (try with_reducible rfl)
  (try simp only [Act.put, gA, gB, gC, sA, sB, sC])
  refine tkO (i := 3) (v := ?_) rfl (by kernel_rfl) (fun _ _ _ h => h) (by rfl) ?_ (by assumption) ?_
  rotate_left
  · intro w hSw; (try dsimp only at hSw); go_simp; (try with_reducible rfl)
  (try simp only [Act.put, gA, gB, gC, sA, sB, sC])
  refine tkO (i := 4) (v := ?_) rfl (by kernel_rfl) (fun _ _ _ h => h) (by rfl) ?_ (by assumption) ?_
  rotate_left
  · intro w hSw; (try dsimp only at hSw); go_simp; (try with_reducible rfl)
  (try simp only [Act.put, gA, gB, gC, sA, sB, sC])
  refine wpAnyH_ready (rs := [2]) (by kernel_rfl) (by simp) ?_
  refine AllReadyH.cons (o := _) rfl (fun K hK => ?_) AllReadyH.nil
  go_simp
  (go_at_call 16; refine (auPartsTop_yes HV ht ad m _ (HVL.out.below HB1.out).drew (HTL.out.below HB1.out).drew (HCK.out.grown (Bdrew HB1.out))).mono ?_; rintro e w2 ⟨u, rfl, hown2, hb2⟩; rw [HLL.out, HNL.out] at hown2; obtain ⟨A1, k1, rfl⟩ := own_slice hown2; have HO2 := hidp hown2; have HB2 := hidp (Bgo (Bdrew HB1.out) hb2); have HX2 := hidp (HX1.out.drew.keep hb2); clear hb2 hown2)
  refine hK.out _ _ ?_ (fun hHeld => ?_)
  · (try dsimp only)
    first | exact HX1.out.drew.three | exact HX2.out.three | exact HX3.out.three | exact HX4.out.three | exact HX5.out.three | exact hHeld
  clear hK K
  (try simp only [Act.put, gA, gB, gC, sA, sB, sC])
  refine wpAnyH_ready (rs := [5]) (by kernel_rfl) (by simp) ?_
  refine AllReadyH.cons (o := _) rfl (fun K hK => ?_) AllReadyH.nil
  go_simp
  (go_at_call 17; refine (xPartsTop_yes HV ad m _ (HVL.out.below HB2.out) (HXK.out.grown HB2.out)).mono ?_; rintro e w3 ⟨u3, rfl, hown3, hb3⟩; rw [HLL.out, HNL.out] at hown3; obtain ⟨A2, k2, rfl⟩ := own_slice hown3; have HP3 := hidp hown3; have HO3 := hidp (own_below HO2.out hb3); have HB3 := hidp (Bgo HB2.out hb3); have HX3 := hidp (HX2.out.keep hb3); clear hb3 hown3)
  refine hK.out _ _ ?_ (fun hHeld => ?_)
  · (try dsimp only)
    first | exact HX1.out.drew.three | exact HX2.out.three | exact HX3.out.three | exact HX4.out.three | exact HX5.out.three | exact hHeld
  clear hK K
  (try simp only [Act.put, gA, gB, gC, sA, sB, sC])
  refine wpAnyH_ready (rs := [6]) (by kernel_rfl) (by simp) ?_
  refine AllReadyH.cons (o := _) rfl (fun K hK => ?_) AllReadyH.nil
  go_simp
  (go_at_call 15; refine (xSameParts_c L A1 A2 nl k1 k2 _ _ _ HNL.out hnl9 HO3.out HP3.out).mono ?_; rintro e w4 ⟨rfl, d, rfl⟩; have HB4 := hidp (Bdraw HB3.out d); have HX4 : Hid (Held (w3.drewN d) W.heap.size 23 #[.int .i64 (H.t : Int), .int .i64 (H.p : Int), .int .i64 (H.s : Int)]) := hidp (Held.drewN HX3.out d))
  refine hK.out _ _ ?_ (fun hHeld => ?_)
  · (try dsimp only)
    first | exact HX1.out.drew.three | exact HX2.out.three | exact HX3.out.three | exact HX4.out.three | exact HX5.out.three | exact hHeld
  clear hK K
  (try simp only [Act.put, gA, gB, gC, sA, sB, sC])
  refine tkO (i := 7) (v := ?_) rfl (by kernel_rfl) (fun _ _ _ h => h) (by rfl) ?_ (by assumption) ?_
  rotate_left
  · intro w hSw; (try dsimp only at hSw); go_simp; (try with_reducible rfl)
  (try simp only [Act.put, gA, gB, gC, sA, sB, sC])
  refine wpAnyH_ready (rs := [8]) (by kernel_rfl) (by simp) ?_
  refine AllReadyH.cons (o := _) rfl (fun K hK => ?_) AllReadyH.nil
  go_simp
  (go_at_call 7; refine (live_c _ (HTL.out.below HB4.out)).mono ?_; rintro e w5 ⟨rfl, hb5⟩; have HB5 := hidp (Bgo HB4.out hb5); have HX5 := hidp (HX4.out.keep hb5); clear hb5)
  refine hK.out _ _ ?_ (fun hHeld => ?_)
  · (try dsimp only)
    first | exact HX1.out.drew.three | exact HX2.out.three | exact HX3.out.three | exact HX4.out.three | exact HX5.out.three | exact hHeld
  clear hK K
  (try simp only [Act.put, gA, gB, gC, sA, sB, sC])
  refine tkO (i := 9) (v := ?_) rfl (by kernel_rfl) (fun _ _ _ h => h) (by rfl) ?_ (by assumption) ?_
  rotate_left
  · intro w hSw; (try dsimp only at hSw); go_simp; (try with_reducible rfl)
  (try simp only [Act.put, gA, gB, gC, sA, sB, sC])
  refine tkO (i := 10) (v := ?_) rfl (by kernel_rfl) (fun _ _ _ h => h) (by rfl) ?_ (by assumption) ?_
  rotate_left
  · intro w hSw; (try dsimp only at hSw); go_simp; (try with_reducible rfl)
  (try simp only [Act.put, gA, gB, gC, sA, sB, sC])
  refine wpAnyH_done (by kernel_rfl) ?_ _
  go_wp2_with fail
  go_ret
  exact ⟨rfl, HB5.out⟩
end Go.Proofs.YtbaofpdjfoaiiaaGreatDoor

/-
  The law AuditParts, from its arguments. Written by audit/gen_laws.py.
-/
namespace Go.Proofs.YtbaofpdjfoaiiaaGreatDoor
open Go.ChangeShapes Go.WideShapes Go.ChangeAt Go.RowKit Go.Shelf
set_option linter.unusedVariables false
set_option linter.unusedSimpArgs false

set_option maxRecDepth 100000 in
theorem AuditParts_walk {H : Type} {enc : TypeId × Value → H} {W : World} {base : Nat} {args : Array Value} {ds : List (DataW H)} {ps : List MemPlace} (hL : laidMetH Tryz.prog Rows.auditPartsRow.laid W)
    (g : Given enc Tryz.prog Tryz.f5 W base args ds ps) : Calls Tryz.prog 5 args W (Keeps W) := by
  have hval := g.ok
  have hA := g.trod
  have hlt := g.lt
  rw [Tryz.params5] at hA hval
  obtain ⟨v0, vs0, d0, ds0, p0, q0, hargs, rfl, rfl, h0, r0⟩ := trodAll_cons hA
  obtain ⟨v1, vs1, d1, ds1, p1, q1, rfl, rfl, rfl, h1, r1⟩ := trodAll_cons r0
  obtain ⟨rfl, rfl, rfl⟩ := trodAll_nil r1
  obtain rfl : args = #[v0, v1] := by cases args; simp_all
  obtain ⟨t, q, s, rfl⟩ := open_conf (hval 0 23 v0 rfl rfl) h0
  have hlt1 : ∀ x ∈ p1, x.block < W.heap.size := fun x hx => hlt x (by simp [hx])
  obtain ⟨A, c, vals, rfl, hnc, hcm, h32, hR⟩ := open_u32s Tryz.underlying24 Tryz.underlying42 (by kernel_rfl) (hval 1 24 v1 rfl rfl) h1 hlt1
  have hT := slots12_laid hL (by kernel_rfl)
  rcases Int.lt_or_le 64 q with hq | hq
  · exact AuditParts_few t q s A vals.length c hq W hT
  · rcases heap_or2 W t q s A c vals hnc hcm h32 hR hT with ⟨m, hC, hX⟩ | ⟨H, ad, m, b, ht, hp, hs, rfl, HV, hv, hto, hC, hX⟩
    · exact AuditParts_no t q s A vals.length c m hq W hT hC hX
    · subst ht hp hs
      cases b
      · exact AuditParts_no _ _ _ _ _ _ m hq W hT hC hX
      · exact AuditParts_yes HV (told_tiled hto) ad m hq W hv hT hC hX
end Go.Proofs.YtbaofpdjfoaiiaaGreatDoor

/-
  Proved: AuditParts answers true at every input, never panics, and changes nothing that was there. The listed variable (class.slots) is tied to the text by the given tie. Conditions: none beyond those of the given statement.
-/
namespace Go.Proofs.YtbaofpdjfoaiiaaGreatDoor
open Go.ChangeShapes Go.WideShapes Go.ChangeAt Go.RowKit

theorem AuditParts_met (os : Os) (args : Array Value) : laidMetH Tryz.prog Rows.auditPartsRow.laid ((World.laidAll Tryz.prog os Rows.auditPartsRow.laid).forCall (fun _ _ => 0) ⟨#[], args, []⟩).memory := by
  rw [MakeChecks.laidMetH_plain _ _ _ (by kernel_rfl)]
  exact laidMet_laidAll _ (by kernel_rfl) (by kernel_rfl)

set_option maxRecDepth 100000 in
theorem AuditParts_lifted (os : Os) (started : os.Started) (H : Type) (enc : TypeId × Value → H) :
    ReturnsInHanded {} Tryz.checked os 5 .any (fun w args => (Rows.auditPartsSpec.pre enc Tryz.prog Tryz.f5 [] false w args ∧ laidMetH Tryz.prog Rows.auditPartsRow.laid w) ∧ sizedMet enc Tryz.prog Tryz.f5 (OpenSpec.ofChange Rows.auditPartsSpec) false w args)
      (Rows.auditPartsSpec.post enc Tryz.prog Tryz.f5 false true false false) :=
  law_lifted_laid (C := Tryz.checked) (tb := 4) (laid := Rows.auditPartsRow.laid) (by kernel_rfl) started (by kernel_rfl) Tryz.func5
    (ChangeSpec.witness_shaped (enc := enc) (C := Tryz.checked) (os := os) (X := fun w _ => laidMetH Tryz.prog Rows.auditPartsRow.laid w) false (World.laidAll Tryz.prog os Rows.auditPartsRow.laid) #[.agg #[.int .i64 0, .int .i64 0, .int .i64 0], .slice none 0 0] 8
      (World.laidAll_os _ _ _) (World.shaped_of_ZipB (by kernel_rfl) (by kernel_rfl)) (by kernel_rfl) (by kernel_rfl) (by kernel_rfl) (AuditParts_met os _))
    (by kernel_rfl) (by kernel_rfl) rfl (by kernel_rfl) Tryz.underlying4
    (fun ds h => by
      have h' : ds.length = 2 := h
      match ds, h' with
      | [_, _], _ => rfl)
    (fun W base args ds ps hL g => AuditParts_walk hL g)

theorem AuditParts_holds : Rows.AuditPartsSaid :=
  OpenClaim.holds_of_wide 5 Tryz.f5 rfl rfl rfl rfl rfl rfl rfl ⟨rfl, rfl, rfl, rfl, rfl⟩ rfl rfl rfl rfl rfl (by kernel_rfl) Tryz.func5 (by kernel_rfl)
    (of_decide_eq_true (by kernel_rfl)) (by unfold Func.isWrapper; first | (rw [if_pos (by decide +kernel)]; kernel_rfl) | (rw [if_neg (by decide +kernel)]; exact ⟨rfl, rfl⟩))
    (fun os started H enc _ => AuditParts_lifted os started H enc)

theorem AuditPartsCard_holds : Rows.AuditPartsCardSaid :=
  card_of 5 Tryz.f5 AuditParts_holds (by kernel_rfl) auditParts_row_tie rfl ⟨rfl, rfl⟩ (by kernel_rfl) rfl (by kernel_rfl) Tryz.func5 (by kernel_rfl) (by kernel_rfl) (by kernel_rfl)
end Go.Proofs.YtbaofpdjfoaiiaaGreatDoor
