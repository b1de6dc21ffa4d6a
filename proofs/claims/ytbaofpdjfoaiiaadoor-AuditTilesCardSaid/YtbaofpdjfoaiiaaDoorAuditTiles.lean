/-
  The law AuditTiles. Written by audit/gen_tiles.py.
-/
import Derived.Test.YtbaofpdjfoaiiaaDoorAuditEx
import Derived.Test.YtbaofpdjfoaiiaaDoorAuditTilesMath
namespace Go.Proofs.YtbaofpdjfoaiiaaDoor
open Go.ChangeShapes Go.WideShapes Go.ChangeAt Go.RowKit Go.Shelf
set_option linter.unusedVariables false
set_option linter.unusedSimpArgs false

theorem few_c (t q s : Int) (w : World) :
    Calls Tryd.prog 4 #[.agg #[.int .i64 t, .int .i64 q, .int .i64 s]] w fun e w' => e = .returned (.bool (decide (q ≤ 64))) ∧ Below w.heap.size w w' := by
  go_enter Tryd.func4, Tryd.ntmps4
  go_wp2
  go_ret
  exact ⟨rfl, Bnew (B0 _) _⟩
set_option maxHeartbeats 1600000 in
theorem AuditTiles_few (t q s : Int) (A : Option Addr) (n c : Nat) (hq : 64 < q) (W : World) (hT : SlotsLaid W) :
    Calls Tryd.prog 3 #[.agg #[.int .i64 t, .int .i64 q, .int .i64 s], .slice A n c] W (Keeps W) := by
  have hx := Held.new W 23 #[.int .i64 t, .int .i64 q, .int .i64 s]
  obtain ⟨c0, c1, c2⟩ := hx.three
  have HB := hidp (Bnew (B0 W) (.cells #[.int .i64 t, .int .i64 q, .int .i64 s] 23))
  have HTL := hidp hT
  have t0 : decide (q ≤ 64) = false := decide_eq_false (by omega)
  clear hx hT
  go_enter Tryd.func3, Tryd.ntmps3
  go_wp2_with (first
    | (go_at_call 4; refine (few_c t q s _).mono ?_; rintro e w1 ⟨rfl, hb1⟩; have HB1 := hidp (Bgo HB.out hb1); clear hb1)
    | (go_at_call 5; refine (live_c _ (HTL.out.below HB1.out)).mono ?_; rintro e w2 ⟨rfl, hb2⟩; have HB2 := hidp (Bgo HB1.out hb2); clear hb2)
    | fail)
  go_ret
  exact ⟨rfl, HB2.out⟩

set_option maxHeartbeats 3200000 in
set_option maxRecDepth 100000 in
theorem AuditTiles_no (t q s : Int) (A : Option Addr) (n c m : Nat) (hq : q ≤ 64) (W : World) (hT : SlotsLaid W) (hC : CheckIs W t q s A n c m false) :
    Calls Tryd.prog 3 #[.agg #[.int .i64 t, .int .i64 q, .int .i64 s], .slice A n c] W (Keeps W) := by
  have hx := Held.new W 23 #[.int .i64 t, .int .i64 q, .int .i64 s]
  obtain ⟨c0, c1, c2⟩ := hx.three
  have HX := hidp hx
  have HB := hidp (Bnew (B0 W) (.cells #[.int .i64 t, .int .i64 q, .int .i64 s] 23))
  have HTL := hidp hT
  have HCK := hidp hC
  have t0 : decide (q ≤ 64) = true := decide_eq_true hq
  clear hx hT hC
  go_enter Tryd.func3, Tryd.ntmps3
  go_wp2_with (first
    | (go_at_call 4; refine (few_c t q s _).mono ?_; rintro e w1 ⟨rfl, hb1⟩; have HB1 := hidp (Bgo HB.out hb1); have HX1 := hidp (HX.out.keep hb1); clear hb1)
    | fail)
  refine wp_region_held_drew (S := (fun w' => w'.cell? ⟨W.heap.size, 0, none⟩ = some (.int .i64 t) ∧ w'.cell? ⟨W.heap.size, 1, none⟩ = some (.int .i64 q) ∧ w'.cell? ⟨W.heap.size, 2, none⟩ = some (.int .i64 s))) (by kernel_rfl) ?_ (fun hHeld => ?_)
  · (try dsimp only)
    first | exact HX1.out.drew.three | exact HX2.out.three | exact HX3.out.three | exact hHeld
  refine wpAnyH_take (i := 0) (oi := _) (v := ?_) rfl (by kernel_rfl) (by kernel_rfl) (by kernel_rfl) (fun _ _ _ h => h) (Or.inl ⟨by rfl, ?_⟩) (by assumption) ?_
  rotate_left
  · intro w hSw; (try dsimp only at hSw); go_simp; (try with_reducible rfl)
  (try simp only [Act.put, List.getElem_toArray, List.getElem_cons_zero, List.getElem_cons_succ, List.setIfInBounds_toArray, List.set_cons_zero, List.set_cons_succ])
  refine wpAnyH_take (i := 1) (oi := _) (v := ?_) rfl (by kernel_rfl) (by kernel_rfl) (by kernel_rfl) (fun _ _ _ h => h) (Or.inl ⟨by rfl, ?_⟩) (by assumption) ?_
  rotate_left
  · intro w hSw; (try dsimp only at hSw); go_simp; (try with_reducible rfl)
  (try simp only [Act.put, List.getElem_toArray, List.getElem_cons_zero, List.getElem_cons_succ, List.setIfInBounds_toArray, List.set_cons_zero, List.set_cons_succ])
  refine wpAnyH_take (i := 3) (oi := _) (v := ?_) rfl (by kernel_rfl) (by kernel_rfl) (by kernel_rfl) (fun _ _ _ h => h) (Or.inl ⟨by rfl, ?_⟩) (by assumption) ?_
  rotate_left
  · intro w hSw; (try dsimp only at hSw); go_simp; (try with_reducible rfl)
  (try simp only [Act.put, List.getElem_toArray, List.getElem_cons_zero, List.getElem_cons_succ, List.setIfInBounds_toArray, List.set_cons_zero, List.set_cons_succ])
  refine wpAnyH_take (i := 4) (oi := _) (v := ?_) rfl (by kernel_rfl) (by kernel_rfl) (by kernel_rfl) (fun _ _ _ h => h) (Or.inl ⟨by rfl, ?_⟩) (by assumption) ?_
  rotate_left
  · intro w hSw; (try dsimp only at hSw); go_simp; (try with_reducible rfl)
  (try simp only [Act.put, List.getElem_toArray, List.getElem_cons_zero, List.getElem_cons_succ, List.setIfInBounds_toArray, List.set_cons_zero, List.set_cons_succ])
  refine wpAnyH_ready (rs := [2]) (by kernel_rfl) (by simp) ?_
  refine AllReadyH.cons (o := _) rfl (fun K hK => ?_) AllReadyH.nil
  go_simp
  (go_at_call 6; refine (auPartsTop_no t q s A n c m _ (HCK.out.grown (Bdrew HB1.out))).mono ?_; rintro e w2 ⟨rfl, hb2⟩; have HB2 := hidp (Bgo (Bdrew HB1.out) hb2); have HX2 := hidp (HX1.out.drew.keep hb2); clear hb2)
  refine hK.out _ _ ?_ (fun hHeld => ?_)
  · (try dsimp only)
    first | exact HX1.out.drew.three | exact HX2.out.three | exact HX3.out.three | exact hHeld
  clear hK K
  (try simp only [Act.put, List.getElem_toArray, List.getElem_cons_zero, List.getElem_cons_succ, List.setIfInBounds_toArray, List.set_cons_zero, List.set_cons_succ])
  refine wpAnyH_ready (rs := [5]) (by kernel_rfl) (by simp) ?_
  refine AllReadyH.cons (o := _) rfl (fun K hK => ?_) AllReadyH.nil
  go_simp
  (go_at_call 7; refine (auLiveTop_no t q s A n c m _ (HCK.out.grown HB2.out)).mono ?_; rintro e w3 ⟨rfl, hb3⟩; have HB3 := hidp (Bgo HB2.out hb3); have HX3 := hidp (HX2.out.keep hb3); clear hb3)
  refine hK.out _ _ ?_ (fun hHeld => ?_)
  · (try dsimp only)
    first | exact HX1.out.drew.three | exact HX2.out.three | exact HX3.out.three | exact hHeld
  clear hK K
  (try simp only [Act.put, List.getElem_toArray, List.getElem_cons_zero, List.getElem_cons_succ, List.setIfInBounds_toArray, List.set_cons_zero, List.set_cons_succ])
  refine wpAnyH_take (i := 6) (oi := _) (v := ?_) rfl (by kernel_rfl) (by kernel_rfl) (by kernel_rfl) (fun _ _ _ h => h) (Or.inl ⟨by rfl, ?_⟩) (by assumption) ?_
  rotate_left
  · intro w hSw; (try dsimp only at hSw); go_simp; (try with_reducible rfl)
  (try simp only [Act.put, List.getElem_toArray, List.getElem_cons_zero, List.getElem_cons_succ, List.setIfInBounds_toArray, List.set_cons_zero, List.set_cons_succ])
  refine wpAnyH_take (i := 7) (oi := _) (v := ?_) rfl (by kernel_rfl) (by kernel_rfl) (by kernel_rfl) (fun _ _ _ h => h) (Or.inl ⟨by rfl, ?_⟩) (by assumption) ?_
  rotate_left
  · intro w hSw; (try dsimp only at hSw); go_simp; (try with_reducible rfl)
  (try simp only [Act.put, List.getElem_toArray, List.getElem_cons_zero, List.getElem_cons_succ, List.setIfInBounds_toArray, List.set_cons_zero, List.set_cons_succ])
  refine wpAnyH_done (by kernel_rfl) ?_ _
  obtain ⟨c0, c1, c2⟩ := HX3.out.three
  go_wp2_with (first
    | (go_at_call 8; refine (HCK.out _ HB3.out).mono ?_; rintro e w4 ⟨rfl, hb4⟩; have HB4 := hidp (Bgo HB3.out hb4); clear hb4)
    | (go_at_call 5; refine (live_c _ (HTL.out.below HB4.out)).mono ?_; rintro e w5 ⟨rfl, hb5⟩; have HB5 := hidp (Bgo HB4.out hb5); clear hb5)
    | fail)
  go_ret
  exact ⟨rfl, HB5.out⟩

theorem bkVs_get : ∀ (l : List (Int × Int)) (i : Nat) (x : Int × Int), l[i]? = some x → (bkVs l)[i * 2]? = some (.int .i64 x.1) ∧ (bkVs l)[i * 2 + 1]? = some (.int .i64 x.2)
  | [], i, x, h => by simp at h
  | y :: l, 0, x, h => by
    simp at h
    subst h
    simp [bkVs]
  | y :: l, i + 1, x, h => by
    have h' : l[i]? = some x := by simpa using h
    obtain ⟨h1, h2⟩ := bkVs_get l i x h'
    have e : bkVs (y :: l) = [.int .i64 y.1, .int .i64 y.2] ++ bkVs l := by simp [bkVs]
    have g : ∀ k, (bkVs (y :: l))[(i * 2 + k) + 2]? = (bkVs l)[i * 2 + k]? := fun k => by
      rw [e, List.getElem?_append_right (by simp)]
      simp
    exact ⟨by have := g 0; rw [Nat.add_zero] at this; rw [show (i + 1) * 2 = i * 2 + 2 by omega, this]; exact h1, by rw [show (i + 1) * 2 + 1 = (i * 2 + 1) + 2 by omega, g]; exact h2⟩
theorem own_block {w : World} {base n g cap : Nat} {e : TypeId} {l : List (Int × Int)} (h : w.ownsRow base e 2 (.slice (some ⟨g, 0, none⟩) n cap) n (bkVs l)) (hn : l.length = n) {i : Nat} {x : Int × Int} (hx : l[i]? = some x) :
    w.cell? ⟨g, i * 2, none⟩ = some (.int .i64 x.1) ∧ w.cell? ⟨g, i * 2 + 1, none⟩ = some (.int .i64 x.2) := by
  have hi : i < n := by
    rcases Nat.lt_or_ge i n with h1 | h1
    · exact h1
    · rw [List.getElem?_eq_none (by omega)] at hx; cases hx
  obtain ⟨h1, h2⟩ := bkVs_get l i x hx
  exact ⟨(h.cellAt _ (by omega)).trans h1, (h.cellAt _ (by omega)).trans h2⟩
set_option maxHeartbeats 6400000 in
set_option maxRecDepth 100000 in
theorem AuditTiles_yes {H : AuH} {n c : Nat} (HV : HeapV H n c) (ht : H.Tiled) (ad : Addr) (m : Nat) (hq : (H.p : Int) ≤ 64) (W : World) (hv : IsVals W ad n H.V) (hT : SlotsLaid W) (hC : CheckIs W H.t H.p H.s (some ad) n c m true) :
    Calls Tryd.prog 3 #[.agg #[.int .i64 (H.t : Int), .int .i64 (H.p : Int), .int .i64 (H.s : Int)], .slice (some ad) n c] W (Keeps W) := by
  have hx := Held.new W 23 #[.int .i64 (H.t : Int), .int .i64 (H.p : Int), .int .i64 (H.s : Int)]
  obtain ⟨c0, c1, c2⟩ := hx.three
  have HX := hidp hx
  have HB := hidp (Bnew (B0 W) (.cells #[.int .i64 (H.t : Int), .int .i64 (H.p : Int), .int .i64 (H.s : Int)] 23))
  have HTL := hidp hT
  have HVL := hidp hv
  have HCK := hidp hC
  have t0 : decide ((H.p : Int) ≤ 64) = true := decide_eq_true hq
  have hg := pg_le HV
  have hcg := AuH.parts_contig HV ht
  have hpl := AuH.parts_len (H := H) H.p
  have hns := HV.nums
  clear hx hT hC hv
  go_enter Tryd.func3, Tryd.ntmps3
  go_wp2_with (first
    | (go_at_call 4; refine (few_c _ _ _ _).mono ?_; rintro e w1 ⟨rfl, hb1⟩; have HB1 := hidp (Bgo HB.out hb1); have HX1 := hidp (HX.out.keep hb1); clear hb1)
    | fail)
  refine wp_region_held_drew (S := (fun w' => w'.cell? ⟨W.heap.size, 0, none⟩ = some (.int .i64 (H.t : Int)) ∧ w'.cell? ⟨W.heap.size, 1, none⟩ = some (.int .i64 (H.p : Int)) ∧ w'.cell? ⟨W.heap.size, 2, none⟩ = some (.int .i64 (H.s : Int)))) (by kernel_rfl) ?_ (fun hHeld => ?_)
  · (try dsimp only)
    first | exact HX1.out.drew.three | exact HX2.out.three | exact HX3.out.three | exact hHeld
  refine wpAnyH_take (i := 0) (oi := _) (v := ?_) rfl (by kernel_rfl) (by kernel_rfl) (by kernel_rfl) (fun _ _ _ h => h) (Or.inl ⟨by rfl, ?_⟩) (by assumption) ?_
  rotate_left
  · intro w hSw; (try dsimp only at hSw); go_simp; (try with_reducible rfl)
  (try simp only [Act.put, List.getElem_toArray, List.getElem_cons_zero, List.getElem_cons_succ, List.setIfInBounds_toArray, List.set_cons_zero, List.set_cons_succ])
  refine wpAnyH_take (i := 1) (oi := _) (v := ?_) rfl (by kernel_rfl) (by kernel_rfl) (by kernel_rfl) (fun _ _ _ h => h) (Or.inl ⟨by rfl, ?_⟩) (by assumption) ?_
  rotate_left
  · intro w hSw; (try dsimp only at hSw); go_simp; (try with_reducible rfl)
  (try simp only [Act.put, List.getElem_toArray, List.getElem_cons_zero, List.getElem_cons_succ, List.setIfInBounds_toArray, List.set_cons_zero, List.set_cons_succ])
  refine wpAnyH_take (i := 3) (oi := _) (v := ?_) rfl (by kernel_rfl) (by kernel_rfl) (by kernel_rfl) (fun _ _ _ h => h) (Or.inl ⟨by rfl, ?_⟩) (by assumption) ?_
  rotate_left
  · intro w hSw; (try dsimp only at hSw); go_simp; (try with_reducible rfl)
  (try simp only [Act.put, List.getElem_toArray, List.getElem_cons_zero, List.getElem_cons_succ, List.setIfInBounds_toArray, List.set_cons_zero, List.set_cons_succ])
  refine wpAnyH_take (i := 4) (oi := _) (v := ?_) rfl (by kernel_rfl) (by kernel_rfl) (by kernel_rfl) (fun _ _ _ h => h) (Or.inl ⟨by rfl, ?_⟩) (by assumption) ?_
  rotate_left
  · intro w hSw; (try dsimp only at hSw); go_simp; (try with_reducible rfl)
  (try simp only [Act.put, List.getElem_toArray, List.getElem_cons_zero, List.getElem_cons_succ, List.setIfInBounds_toArray, List.set_cons_zero, List.set_cons_succ])
  refine wpAnyH_ready (rs := [2]) (by kernel_rfl) (by simp) ?_
  refine AllReadyH.cons (o := _) rfl (fun K hK => ?_) AllReadyH.nil
  go_simp
  (go_at_call 6; refine (auPartsTop_yes HV ht ad m _ (HVL.out.below HB1.out).drew (HTL.out.below HB1.out).drew (HCK.out.grown (Bdrew HB1.out))).mono ?_; rintro e w2 ⟨u, rfl, hown2, hb2⟩; have HO2 := hidp (own_down hown2 (show W.heap.size ≤ _ from HB1.out.size)); have HB2 := hidp (Bgo (Bdrew HB1.out) hb2); have HX2 := hidp (HX1.out.drew.keep hb2); clear hb2 hown2)
  refine hK.out _ _ ?_ (fun hHeld => ?_)
  · (try dsimp only)
    first | exact HX1.out.drew.three | exact HX2.out.three | exact HX3.out.three | exact hHeld
  clear hK K
  (try simp only [Act.put, List.getElem_toArray, List.getElem_cons_zero, List.getElem_cons_succ, List.setIfInBounds_toArray, List.set_cons_zero, List.set_cons_succ])
  refine wpAnyH_ready (rs := [5]) (by kernel_rfl) (by simp) ?_
  refine AllReadyH.cons (o := _) rfl (fun K hK => ?_) AllReadyH.nil
  go_simp
  (go_at_call 7; refine (auLiveTop_yes HV ht ad m _ (HVL.out.below HB2.out) (HTL.out.below HB2.out) (HCK.out.grown HB2.out)).mono ?_; rintro e w3 ⟨u3, rfl, hown3, hb3⟩; have HL3 := hidp (own_down hown3 HB2.out.size); have HO3 := hidp (own_below HO2.out hb3); have HB3 := hidp (Bgo HB2.out hb3); have HX3 := hidp (HX2.out.keep hb3); clear hb3 hown3)
  refine hK.out _ _ ?_ (fun hHeld => ?_)
  · (try dsimp only)
    first | exact HX1.out.drew.three | exact HX2.out.three | exact HX3.out.three | exact hHeld
  clear hK K
  (try simp only [Act.put, List.getElem_toArray, List.getElem_cons_zero, List.getElem_cons_succ, List.setIfInBounds_toArray, List.set_cons_zero, List.set_cons_succ])
  refine wpAnyH_take (i := 6) (oi := _) (v := ?_) rfl (by kernel_rfl) (by kernel_rfl) (by kernel_rfl) (fun _ _ _ h => h) (Or.inl ⟨by rfl, ?_⟩) (by assumption) ?_
  rotate_left
  · intro w hSw; (try dsimp only at hSw); go_simp; (try with_reducible rfl)
  (try simp only [Act.put, List.getElem_toArray, List.getElem_cons_zero, List.getElem_cons_succ, List.setIfInBounds_toArray, List.set_cons_zero, List.set_cons_succ])
  refine wpAnyH_take (i := 7) (oi := _) (v := ?_) rfl (by kernel_rfl) (by kernel_rfl) (by kernel_rfl) (fun _ _ _ h => h) (Or.inl ⟨by rfl, ?_⟩) (by assumption) ?_
  rotate_left
  · intro w hSw; (try dsimp only at hSw); go_simp; (try with_reducible rfl)
  (try simp only [Act.put, List.getElem_toArray, List.getElem_cons_zero, List.getElem_cons_succ, List.setIfInBounds_toArray, List.set_cons_zero, List.set_cons_succ])
  refine wpAnyH_done (by kernel_rfl) ?_ _
  obtain ⟨c0, c1, c2⟩ := HX3.out.three
  obtain ⟨L, hL⟩ : ∃ L, H.parts = L := ⟨_, rfl⟩
  have hpl : L.length ≤ 40000 := by rw [← hL]; unfold AuH.parts; omega
  rw [hL] at HO3 HL3 hcg
  obtain ⟨nl, hnl⟩ : ∃ nl, L.length = nl := ⟨_, rfl⟩
  obtain ⟨nb, hnb⟩ : ∃ nb, (blocksOf L).length = nb := ⟨_, rfl⟩
  rw [hnl] at HO3 hpl
  rw [hnb] at HL3
  have hbl := blocksOf_len L
  rw [hnl, hnb] at hbl
  have HNL := hidp hnl
  have HNB := hidp hnb
  obtain ⟨Av, cv, rfl⟩ := own_slice HO3.out
  obtain ⟨Ab, cb, rfl⟩ := own_slice HL3.out
  have hcv := own_caps3 HO3.out
  have hcb := own_caps3 HL3.out
  have hcv2 : cv ≤ 9223372036854775807 := hcv.2
  have hcb2 : cb ≤ 9223372036854775807 := hcb.2
  have hcv1 := hcv.1
  have hcb1 := hcb.1
  obtain ⟨pg, hpg⟩ : ∃ pg, H.pg = pg := ⟨_, rfl⟩
  obtain ⟨fe, hfe⟩ : ∃ fe, H.first H.p = fe := ⟨_, rfl⟩
  have hfe2 : fe = ((H.p : Int) + 1) * (pg : Int) := by rw [← hfe, ← hpg]; rfl
  have hpe : ((pg * (H.p + 1) : Nat) : Int) = (pg : Int) * ((H.p : Int) + 1) := by push_cast; rfl
  have hfe3 : fe = ((pg * (H.p + 1) : Nat) : Int) := by rw [hfe2, hpe, Int.mul_comm]
  have hple : pg * (H.p + 1) ≤ 1048576 * 65 := Nat.mul_le_mul (by omega) (by omega)
  have e1 : (2 : Int) ^ H.s = (pg : Int) := by rw [← hpg]; unfold AuH.pg; push_cast; rfl
  have e2 : IntKind.i64.wrap (pg : Int) = (pg : Int) := i64_same (by omega) (by omega)
  have e3 : IntKind.i64.wrap (2 ^ H.s) = (pg : Int) := by rw [e1, e2]
  have e6 : wrap64 ((2 : Int) ^ min H.s 64) = (pg : Int) := by rw [show min H.s 64 = H.s by omega]; rw [← IntWalk.i64_left]; exact e3
  have e5 : IntKind.i64.wrap ((pg : Int) * ((H.p : Int) + 1)) = fe := by rw [← hpe, ← hfe3]; exact i64_same (by omega) (by omega)
  have hub : IntKind.u64.wrap (H.s : Int) = (H.s : Int) := wrap_nat64 _ (by omega)
  rw [hpg, hfe] at hcg
  have HCG := hidp hcg
  have hfb : fe ≤ 68157440 := by omega
  clear hg hcg hL hnl hnb hpg hfe hfe2 hpe hfe3 hple hcv hcb e1 hns
  go_wp2_with (first
    | (go_at_call 8; refine (HCK.out _ HB3.out).mono ?_; rintro e w4 ⟨rfl, hb4⟩; have HB4 := hidp (Bgo HB3.out hb4); have HX4 := hidp (HX3.out.keep hb4); have HO4 := hidp (own_below HO3.out hb4); have HL4 := hidp (own_below HL3.out hb4); clear hb4 c0 c1 c2; obtain ⟨c0, c1, c2⟩ := HX4.out.three)
    | fail)
  go_loopw [10, 11, 12] (fun u10 u11 u12 wr => ∃ (i k d : Nat) (at_ : Int), i ≤ nl ∧ u12 = .int .i64 (i : Int) ∧ u11 = .int .i64 (k : Int) ∧ u10 = .int .i64 at_ ∧ k ≤ i ∧ 0 ≤ at_ ∧ Hid ((blocksOf (L.take i)).length = k) ∧ Hid (Contig at_ (L.drop i) fe) ∧ wr = w4.drewN d) (fun _ _ u12 _ => nl - (intOf u12).toNat)
  case atStart => exact ⟨0, 0, 0, (pg : Int), by omega, rfl, rfl, by first | rfl | rw [e6], by omega, by omega, hidp rfl, HCG, rfl⟩
  case round =>
    obtain ⟨i, k, d, at_, hi, rfl, rfl, rfl, hki, hat0, HK, HCI, rfl⟩ := hrel
    have hle := HCI.out.le
    by_cases hlt : i < nl
    · obtain ⟨x, hx⟩ : ∃ x, L[i]? = some x := ⟨_, List.getElem?_eq_getElem (by have := HNL.out; omega)⟩
      obtain ⟨gv, cv', hvv, hbv, hlv⟩ := HO4.out.form (by omega)
      injection hvv with hvv hn0 hcc
      subst hvv
      subst hcc
      obtain ⟨p0, p1, p2⟩ := own_part HO4.out HNL.out hx
      obtain ⟨⟨h1, h2, h3, h4⟩, h5⟩ := HCI.out.at_ hx
      have HTK : Hid (L.take (i + 1) = L.take i ++ [x]) := hidp (by rw [List.take_add_one, hx]; rfl)
      obtain ⟨kd, a, z⟩ := x
      simp only at p0 p1 p2 h1 h2 h3 h4 h5
      have hle2 := h5.le
      have t1 : decide ((i : Int) < nl) = true := decide_eq_true (by omega)
      have q1 : decide (z < 1) = false := decide_eq_false (by omega)
      have q2 : decide (kd < 1) = false := decide_eq_false (by omega)
      have q3 : decide ((5 : Int) < kd) = false := decide_eq_false (by omega)
      have HC5 := hidp h5
      subst h1
      have sw : IntKind.i64.wrap (a + z) = a + z := i64_same (by omega) (by omega)
      have q0 : (a != a) = false := by simp
      by_cases hk2 : kd = 2
      · subst hk2
        have HBA := hidp (block_at hx rfl)
        have hb0 := HBA.out
        rw [HK.out] at hb0
        have hknb : k < nb := by
          rcases Nat.lt_or_ge k nb with h | h
          · exact h
          · rw [List.getElem?_eq_none (by have := HNB.out; omega)] at hb0; cases hb0
        obtain ⟨gb, cb', hvb, _, _⟩ := HL4.out.form (by omega)
        injection hvb with hvb hn1 hcb0
        subst hvb
        subst hcb0
        obtain ⟨b0, b1⟩ := own_block HL4.out HNB.out hb0
        simp only at b0 b1
        have q4 : decide ((nb : Int) ≤ k) = false := decide_eq_false (by omega)
        have q4c : decide (nb ≤ k) = false := decide_eq_false (by omega)
        have q4d : decide ((k : Int) ≥ nb) = false := decide_eq_false (by omega)
        have q4e : ¬ nb ≤ k := by omega
        have HK1 : Hid ((blocksOf (L.take (i + 1))).length = k + 1) := hidp (by rw [HTK.out, blocksOf_app, blocksOf_yes (x := (2, a, z)) rfl, List.length_append, HK.out]; rfl)
        clear hx hb0 hn0 hn1
        go_wp2_with fail
        refine wp_region_held_drew (S := (fun w' => w'.cell? ⟨gv, i * 3 + 1, none⟩ = some (.int .i64 a) ∧ w'.cell? ⟨gv, i * 3 + 2, none⟩ = some (.int .i64 z) ∧ w'.cell? ⟨gb, k * 2, none⟩ = some (.int .i64 a) ∧ w'.cell? ⟨gb, k * 2 + 1, none⟩ = some (.int .i64 z))) (by kernel_rfl) ?_ (fun hHeld => ?_)
        · (try dsimp only)
          first | exact ⟨p1, p2, b0, b1⟩ | exact hHeld
        refine wpAnyH_take (i := 0) (oi := _) (v := ?_) rfl (by kernel_rfl) (by kernel_rfl) (by kernel_rfl) (fun _ _ _ h => h) (Or.inl ⟨by rfl, ?_⟩) (by assumption) ?_
        rotate_left
        · intro w hSw; (try dsimp only at hSw); go_simp; (try with_reducible rfl)
        (try simp only [Act.put, List.getElem_toArray, List.getElem_cons_zero, List.getElem_cons_succ, List.setIfInBounds_toArray, List.set_cons_zero, List.set_cons_succ])
        refine wpAnyH_take (i := 1) (oi := _) (v := ?_) rfl (by kernel_rfl) (by kernel_rfl) (by kernel_rfl) (fun _ _ _ h => h) (Or.inl ⟨by rfl, ?_⟩) (by assumption) ?_
        rotate_left
        · intro w hSw; (try dsimp only at hSw); go_simp; (try with_reducible rfl)
        (try simp only [Act.put, List.getElem_toArray, List.getElem_cons_zero, List.getElem_cons_succ, List.setIfInBounds_toArray, List.set_cons_zero, List.set_cons_succ])
        refine wpAnyH_take (i := 2) (oi := _) (v := ?_) rfl (by kernel_rfl) (by kernel_rfl) (by kernel_rfl) (fun _ _ _ h => h) (Or.inl ⟨by rfl, ?_⟩) (by assumption) ?_
        rotate_left
        · intro w hSw; (try dsimp only at hSw); go_simp; (try with_reducible rfl)
        (try simp only [Act.put, List.getElem_toArray, List.getElem_cons_zero, List.getElem_cons_succ, List.setIfInBounds_toArray, List.set_cons_zero, List.set_cons_succ])
        refine wpAnyH_take (i := 3) (oi := _) (v := ?_) rfl (by kernel_rfl) (by kernel_rfl) (by kernel_rfl) (fun _ _ _ h => h) (Or.inl ⟨by rfl, ?_⟩) (by assumption) ?_
        rotate_left
        · intro w hSw; (try dsimp only at hSw); go_simp; (try with_reducible rfl)
        (try simp only [Act.put, List.getElem_toArray, List.getElem_cons_zero, List.getElem_cons_succ, List.setIfInBounds_toArray, List.set_cons_zero, List.set_cons_succ])
        refine wpAnyH_take (i := 4) (oi := _) (v := ?_) rfl (by kernel_rfl) (by kernel_rfl) (by kernel_rfl) (fun _ _ _ h => h) (Or.inl ⟨by rfl, ?_⟩) (by assumption) ?_
        rotate_left
        · intro w hSw; (try dsimp only at hSw); go_simp; (try with_reducible rfl)
        (try simp only [Act.put, List.getElem_toArray, List.getElem_cons_zero, List.getElem_cons_succ, List.setIfInBounds_toArray, List.set_cons_zero, List.set_cons_succ])
        refine wpAnyH_take (i := 5) (oi := _) (v := ?_) rfl (by kernel_rfl) (by kernel_rfl) (by kernel_rfl) (fun _ _ _ h => h) (Or.inl ⟨by rfl, ?_⟩) (by assumption) ?_
        rotate_left
        · intro w hSw; (try dsimp only at hSw); go_simp; (try with_reducible rfl)
        (try simp only [Act.put, List.getElem_toArray, List.getElem_cons_zero, List.getElem_cons_succ, List.setIfInBounds_toArray, List.set_cons_zero, List.set_cons_succ])
        refine wpAnyH_take (i := 6) (oi := _) (v := ?_) rfl (by kernel_rfl) (by kernel_rfl) (by kernel_rfl) (fun _ _ _ h => h) (Or.inl ⟨by rfl, ?_⟩) (by assumption) ?_
        rotate_left
        · intro w hSw; (try dsimp only at hSw); go_simp; (try with_reducible rfl)
        (try simp only [Act.put, List.getElem_toArray, List.getElem_cons_zero, List.getElem_cons_succ, List.setIfInBounds_toArray, List.set_cons_zero, List.set_cons_succ])
        refine wpAnyH_take (i := 7) (oi := _) (v := ?_) rfl (by kernel_rfl) (by kernel_rfl) (by kernel_rfl) (fun _ _ _ h => h) (Or.inl ⟨by rfl, ?_⟩) (by assumption) ?_
        rotate_left
        · intro w hSw; (try dsimp only at hSw); go_simp; (try with_reducible rfl)
        (try simp only [Act.put, List.getElem_toArray, List.getElem_cons_zero, List.getElem_cons_succ, List.setIfInBounds_toArray, List.set_cons_zero, List.set_cons_succ])
        refine wpAnyH_take (i := 8) (oi := _) (v := ?_) rfl (by kernel_rfl) (by kernel_rfl) (by kernel_rfl) (fun _ _ _ h => h) (Or.inl ⟨by rfl, ?_⟩) (by assumption) ?_
        rotate_left
        · intro w hSw; (try dsimp only at hSw); go_simp; (try with_reducible rfl)
        (try simp only [Act.put, List.getElem_toArray, List.getElem_cons_zero, List.getElem_cons_succ, List.setIfInBounds_toArray, List.set_cons_zero, List.set_cons_succ])
        refine wpAnyH_take (i := 9) (oi := _) (v := ?_) rfl (by kernel_rfl) (by kernel_rfl) (by kernel_rfl) (fun _ _ _ h => h) (Or.inl ⟨by rfl, ?_⟩) (by assumption) ?_
        rotate_left
        · intro w hSw; (try dsimp only at hSw); go_simp; (try with_reducible rfl)
        (try simp only [Act.put, List.getElem_toArray, List.getElem_cons_zero, List.getElem_cons_succ, List.setIfInBounds_toArray, List.set_cons_zero, List.set_cons_succ])
        refine wpAnyH_take (i := 10) (oi := _) (v := ?_) rfl (by kernel_rfl) (by kernel_rfl) (by kernel_rfl) (fun _ _ _ h => h) (Or.inl ⟨by rfl, ?_⟩) (by assumption) ?_
        rotate_left
        · intro w hSw; (try dsimp only at hSw); go_simp; (try with_reducible rfl)
        (try simp only [Act.put, List.getElem_toArray, List.getElem_cons_zero, List.getElem_cons_succ, List.setIfInBounds_toArray, List.set_cons_zero, List.set_cons_succ])
        refine wpAnyH_take (i := 11) (oi := _) (v := ?_) rfl (by kernel_rfl) (by kernel_rfl) (by kernel_rfl) (fun _ _ _ h => h) (Or.inl ⟨by rfl, ?_⟩) (by assumption) ?_
        rotate_left
        · intro w hSw; (try dsimp only at hSw); go_simp; (try with_reducible rfl)
        (try simp only [Act.put, List.getElem_toArray, List.getElem_cons_zero, List.getElem_cons_succ, List.setIfInBounds_toArray, List.set_cons_zero, List.set_cons_succ])
        refine wpAnyH_take (i := 12) (oi := _) (v := ?_) rfl (by kernel_rfl) (by kernel_rfl) (by kernel_rfl) (fun _ _ _ h => h) (Or.inl ⟨by rfl, ?_⟩) (by assumption) ?_
        rotate_left
        · intro w hSw; (try dsimp only at hSw); go_simp; (try with_reducible rfl)
        (try simp only [Act.put, List.getElem_toArray, List.getElem_cons_zero, List.getElem_cons_succ, List.setIfInBounds_toArray, List.set_cons_zero, List.set_cons_succ])
        refine wpAnyH_take (i := 13) (oi := _) (v := ?_) rfl (by kernel_rfl) (by kernel_rfl) (by kernel_rfl) (fun _ _ _ h => h) (Or.inl ⟨by rfl, ?_⟩) (by assumption) ?_
        rotate_left
        · intro w hSw; (try dsimp only at hSw); go_simp; (try with_reducible rfl)
        (try simp only [Act.put, List.getElem_toArray, List.getElem_cons_zero, List.getElem_cons_succ, List.setIfInBounds_toArray, List.set_cons_zero, List.set_cons_succ])
        refine wpAnyH_take (i := 14) (oi := _) (v := ?_) rfl (by kernel_rfl) (by kernel_rfl) (by kernel_rfl) (fun _ _ _ h => h) (Or.inl ⟨by rfl, ?_⟩) (by assumption) ?_
        rotate_left
        · intro w hSw; (try dsimp only at hSw); go_simp; (try with_reducible rfl)
        (try simp only [Act.put, List.getElem_toArray, List.getElem_cons_zero, List.getElem_cons_succ, List.setIfInBounds_toArray, List.set_cons_zero, List.set_cons_succ])
        refine wpAnyH_take (i := 15) (oi := _) (v := ?_) rfl (by kernel_rfl) (by kernel_rfl) (by kernel_rfl) (fun _ _ _ h => h) (Or.inl ⟨by rfl, ?_⟩) (by assumption) ?_
        rotate_left
        · intro w hSw; (try dsimp only at hSw); go_simp; (try with_reducible rfl)
        (try simp only [Act.put, List.getElem_toArray, List.getElem_cons_zero, List.getElem_cons_succ, List.setIfInBounds_toArray, List.set_cons_zero, List.set_cons_succ])
        refine wpAnyH_take (i := 16) (oi := _) (v := ?_) rfl (by kernel_rfl) (by kernel_rfl) (by kernel_rfl) (fun _ _ _ h => h) (Or.inl ⟨by rfl, ?_⟩) (by assumption) ?_
        rotate_left
        · intro w hSw; (try dsimp only at hSw); go_simp; (try with_reducible rfl)
        (try simp only [Act.put, List.getElem_toArray, List.getElem_cons_zero, List.getElem_cons_succ, List.setIfInBounds_toArray, List.set_cons_zero, List.set_cons_succ])
        refine wpAnyH_take (i := 17) (oi := _) (v := ?_) rfl (by kernel_rfl) (by kernel_rfl) (by kernel_rfl) (fun _ _ _ h => h) (Or.inl ⟨by rfl, ?_⟩) (by assumption) ?_
        rotate_left
        · intro w hSw; (try dsimp only at hSw); go_simp; (try with_reducible rfl)
        (try simp only [Act.put, List.getElem_toArray, List.getElem_cons_zero, List.getElem_cons_succ, List.setIfInBounds_toArray, List.set_cons_zero, List.set_cons_succ])
        refine wpAnyH_take (i := 18) (oi := _) (v := ?_) rfl (by kernel_rfl) (by kernel_rfl) (by kernel_rfl) (fun _ _ _ h => h) (Or.inl ⟨by rfl, ?_⟩) (by assumption) ?_
        rotate_left
        · intro w hSw; (try dsimp only at hSw); go_simp; (try with_reducible rfl)
        (try simp only [Act.put, List.getElem_toArray, List.getElem_cons_zero, List.getElem_cons_succ, List.setIfInBounds_toArray, List.set_cons_zero, List.set_cons_succ])
        refine wpAnyH_take (i := 19) (oi := _) (v := ?_) rfl (by kernel_rfl) (by kernel_rfl) (by kernel_rfl) (fun _ _ _ h => h) (Or.inl ⟨by rfl, ?_⟩) (by assumption) ?_
        rotate_left
        · intro w hSw; (try dsimp only at hSw); go_simp; (try with_reducible rfl)
        (try simp only [Act.put, List.getElem_toArray, List.getElem_cons_zero, List.getElem_cons_succ, List.setIfInBounds_toArray, List.set_cons_zero, List.set_cons_succ])
        refine wpAnyH_take (i := 20) (oi := _) (v := ?_) rfl (by kernel_rfl) (by kernel_rfl) (by kernel_rfl) (fun _ _ _ h => h) (Or.inl ⟨by rfl, ?_⟩) (by assumption) ?_
        rotate_left
        · intro w hSw; (try dsimp only at hSw); go_simp; (try with_reducible rfl)
        (try simp only [Act.put, List.getElem_toArray, List.getElem_cons_zero, List.getElem_cons_succ, List.setIfInBounds_toArray, List.set_cons_zero, List.set_cons_succ])
        refine wpAnyH_take (i := 21) (oi := _) (v := ?_) rfl (by kernel_rfl) (by kernel_rfl) (by kernel_rfl) (fun _ _ _ h => h) (Or.inl ⟨by rfl, ?_⟩) (by assumption) ?_
        rotate_left
        · intro w hSw; (try dsimp only at hSw); go_simp; (try with_reducible rfl)
        (try simp only [Act.put, List.getElem_toArray, List.getElem_cons_zero, List.getElem_cons_succ, List.setIfInBounds_toArray, List.set_cons_zero, List.set_cons_succ])
        refine wpAnyH_done (by kernel_rfl) ?_ _
        go_wp2
        go_roundw
        case rel => exact ⟨i + 1, k + 1, d + 1, a + z, by omega, by go_num, by go_num, rfl, by omega, by omega, HK1, HC5, rfl⟩
        case measure => simp [intOf]; omega
      · have q4 : (kd != 2) = true := by simpa using hk2
        have HK1 : Hid ((blocksOf (L.take (i + 1))).length = k) := hidp (by rw [HTK.out, blocksOf_app, blocksOf_no (x := (kd, a, z)) hk2, List.append_nil, HK.out])
        clear hx hn0
        go_wp2_with fail
        go_roundw
        case rel => exact ⟨i + 1, k, d, a + z, by omega, by go_num, rfl, rfl, by omega, by omega, HK1, HC5, rfl⟩
        case measure => simp [intOf]; omega
    · have hin : i = nl := by omega
      have HKB : Hid (k = nb) := hidp (by
        have h1 := HK.out
        rw [List.take_of_length_le (by have := HNL.out; omega)] at h1
        have := HNB.out
        omega)
      have hat : at_ = fe := by
        have h1 := HCI.out
        rw [List.drop_of_length_le (by have := HNL.out; omega)] at h1
        exact h1
      have t1 : decide ((i : Int) < nl) = false := decide_eq_false (by omega)
      have q5 : ((k : Int) == (nb : Int)) = true := by have := HKB.out; simp; omega
      have q6 : (fe == fe) = true := by simp
      subst hat
      clear hin hle HNB HNL HCI
      go_wp2_with (first
        | (go_at_call 5; refine (live_c _ (HTL.out.below (Bdraw HB4.out _))).mono ?_; rintro e w5 ⟨rfl, hb5⟩; have HB5 := hidp (Bgo (Bdraw HB4.out _) hb5); clear hb5)
        | fail)
      go_ret
      exact ⟨rfl, HB5.out⟩
end Go.Proofs.YtbaofpdjfoaiiaaDoor