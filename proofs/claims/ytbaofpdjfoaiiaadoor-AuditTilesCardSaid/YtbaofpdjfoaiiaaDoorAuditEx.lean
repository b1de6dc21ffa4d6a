/-
  The page's example is a heap; the laws' live. Written by audit/gen_ex.py.
-/
import Derived.Test.YtbaofpdjfoaiiaaDoorAuditLive
namespace Go.Proofs.YtbaofpdjfoaiiaaDoor
open Go.ChangeShapes Go.WideShapes Go.ChangeAt Go.RowKit Go.Shelf
set_option linter.unusedVariables false
set_option linter.unusedSimpArgs false

def exV (i : Nat) : Nat := if i = 0 then 4 else if i = 4 then 1 else if i = 34 then 65 else if i = 53 then 1 else 0
def exH : AuH := ⟨1, 4, 10, exV⟩
theorem ex_nx : exH.nx 0 = 4 ∧ exH.can 0 = true := by decide
theorem ex_K : ∀ q, q < 4 → q ≠ 0 → exH.K q = 0 := by decide
theorem ex_K0 : exH.K 0 = 1 ∧ exH.ln 0 = 4 := by decide
theorem ex_cel : ∀ q, q < 4 → ∀ b, b < 6 → exH.cel q b = if q = 0 ∧ b = 0 then 65 else if q = 3 ∧ b = 1 then 1 else 0 := by decide
theorem ex_tgt0 : exH.tgt 0 = 4 := by
  unfold AuH.tgt
  rw [if_pos ex_K0.1, ex_K0.2]
  rw [HM.logI_at ((4 : Nat) : Int) 2 (by decide) (by decide)]
  decide
theorem ex_tgt : ∀ q, q < 4 → q ≠ 0 → exH.tgt q = -1 := fun q h1 h2 => AuH.tgt_none (ex_K q h1 h2)
theorem ex_at {a : Nat} (h : exH.At a) (h2 : a < 4) : a = 0 := by
  rcases Nat.eq_zero_or_pos a with h3 | h3
  · exact h3
  · have := (AuH.At.next .zero h h3).2
    rw [ex_nx.1] at this
    omega
theorem ex_tiled : exH.Tiled := by
  have h := AuH.At.step (H := exH) .zero ex_nx.2
  rw [ex_nx.1] at h
  refine ⟨h, fun a ha hc hl q h1 h2 => ?_⟩
  have := ex_at ha hl
  subst this
  rw [ex_nx.1] at h2
  rw [ex_cel q h2 0 (by omega), if_neg (by omega), if_neg (by omega)]
theorem ex_cnt (head : Nat) : exH.cnt head 4 = if (head : Int) = 4 then 1 else if (head : Int) = -1 then 3 else 0 := by
  show 0 + exH.isF head 0 + exH.isF head 1 + exH.isF head 2 + exH.isF head 3 = _
  unfold AuH.isF
  rw [ex_tgt0, ex_tgt 1 (by omega) (by omega), ex_tgt 2 (by omega) (by omega), ex_tgt 3 (by omega) (by omega)]
  by_cases h : (head : Int) = 4
  · rw [h]; decide
  · rw [if_neg h, if_neg (fun h2 => h h2.symm)]
    rw [if_neg (show ¬ (-1 : Int) = head by omega), if_neg (show ¬ (head : Int) = -1 by omega)]
theorem ex_list (head : Nat) (h1 : 2 ≤ head) (h2 : head < 22) : exH.ListOk head := by
  unfold AuH.ListOk
  have e : exH.p = 4 := rfl
  rw [e, ex_cnt]
  by_cases h : head = 4
  · subst h
    rw [if_pos (by decide)]
    refine ⟨⟨by decide, by decide, ?_, by decide⟩, ?_⟩
    · exact ex_tgt0
    · show exH.cel 0 2 = 0
      decide
  · rw [if_neg (by omega), if_neg (by omega)]
    show exV head = 0
    unfold exV
    rw [if_neg (by omega), if_neg (by omega), if_neg (by omega), if_neg (by omega)]
theorem ex_rules : ∀ i, i < 10 → exH.rule i := by
  intro i hi
  rcases (by omega : i = 0 ∨ i = 1 ∨ i = 2 ∨ i = 3 ∨ i = 4 ∨ i = 5 ∨ i = 6 ∨ i = 7 ∨ i = 8 ∨ i = 9) with rfl | rfl | rfl | rfl | rfl | rfl | rfl | rfl | rfl | rfl
  · exact trivial
  · exact ex_tiled
  · intro q hq hk
    have : q = 0 := Classical.byContradiction (fun h => hk (ex_K q hq h))
    subst this
    refine ⟨fun r h1 h2 => ?_, by rw [ex_K0.2]; decide⟩
    rw [ex_K0.2] at h2
    rw [ex_cel r (by omega) 1 (by omega), if_neg (by omega), if_neg (by omega)]
  · intro q ha hq hk hn
    have := ex_at ha hq
    subst this
    rw [ex_nx.1] at hn
    exact absurd hn (by decide)
  · intro q hq
    have hq : q < 4 := hq
    have h5 : exH.cel q 5 = 0 := by rw [ex_cel q hq 5 (by omega), if_neg (by omega), if_neg (by omega)]
    have h4 : exH.cel q 4 = 0 := by rw [ex_cel q hq 4 (by omega), if_neg (by omega), if_neg (by omega)]
    refine ⟨fun h => ?_, fun _ => ⟨h5, h4⟩⟩
    rcases Nat.eq_zero_or_pos q with h3 | h3
    · subst h3; rw [ex_K0.1] at h; exact absurd h (by decide)
    · rw [ex_K q hq (by omega)] at h; exact absurd h (by decide)
  · exact fun k hk => ex_list (2 + k) (by omega) (by omega)
  · exact fun k hk => ex_list (13 + k) (by omega) (by omega)
  · intro q hq ht
    have hq : q < 4 := hq
    exact ⟨by rw [ex_cel q hq 2 (by omega), if_neg (by omega), if_neg (by omega)], by rw [ex_cel q hq 3 (by omega), if_neg (by omega), if_neg (by omega)]⟩
  · show _ ∧ _
    exact ⟨by decide, by decide⟩
  · intro i hi h
    exfalso
    apply h
    show exV (22 + i) = 0
    unfold exV
    rw [if_neg (by omega), if_neg (by omega), if_neg (by omega), if_neg (by omega)]
theorem ex_told : exH.Told 0 true := .inl ⟨rfl, rfl, ex_rules⟩
theorem ex_parts : exH.parts = [(1, 1024, 4096)] := by decide
theorem ex_heap : HeapV exH 58 58 := ⟨by decide, rfl, Nat.le_refl _, by decide, fun i hi => by
  show exV i < 2 ^ 32
  unfold exV
  split
  · omega
  · split
    · omega
    · split
      · omega
      · split <;> omega⟩
theorem adds_at (g j : Nat) : (⟨g, 0, none⟩ : Addr).add j = ⟨g, j, none⟩ := by
  unfold Addr.add
  by_cases hz : j = 0
  · rw [if_pos hz, hz]
  · rw [if_neg hz]; simp
theorem u32Info : (Tryd.prog.info? 39).map (fun i => (i.zero, i.size, i.bytes)) = some (some (.int .u32 0), 1, 4) := by kernel_rfl


set_option maxHeartbeats 3200000 in
set_option maxRecDepth 100000 in
theorem live_c (w : World) (hT : SlotsLaid w) :
    Calls Tryd.prog 5 #[] w fun e w' => e = .returned (.bool true) ∧ Below w.heap.size w w' := by
  obtain ⟨i0, hin, hz0, hz1, hz2⟩ := info_parts u32Info
  obtain ⟨cs, hcs, hcl, hc0⟩ : ∃ cs, madeCells (Value.int .u32 0).cells (58 * i0.size) = cs ∧ cs.size = 58 ∧ ∀ i, i < 58 → cs[i]? = some (.int .u32 0) := ⟨_, rfl, by rw [hz1]; simp [size_madeCells], fun i hi => by
    have e : madeCells (Value.int .u32 0).cells (58 * 1) = Array.replicate 58 (Value.int .u32 0) := by kernel_rfl
    rw [hz1, e, Array.getElem?_replicate, if_pos hi]⟩
  have hmk : ∀ w : World, (Instr.makeSlice 24 (.int .i64 58) (.int .i64 58)).run Tryd.prog w = .ok (.slice (some ⟨w.heap.size, 0, none⟩) 58 58) (w.alloc (.cells cs 39)) := fun w => by
    have := run_makeSlice (w := w) 24 39 i0 _ Tryd.underlying24 hin hz0 .i64 .i64 58 58 (by omega) (by omega) (by rw [hz1]; decide) (by rw [hz2]; omega) (by omega)
    have e58 : ((58 : Int).toNat) = 58 := rfl
    rw [e58, hcs] at this
    exact this
  have hn0 := fun (w : World) => hc0 0 (by omega)
  have k0 := hc0 0 (by omega)
  have k4 := hc0 4 (by omega)
  have k34 := hc0 34 (by omega)
  have k53 := hc0 53 (by omega)
  clear hn0
  obtain ⟨cs4, hcs4⟩ : ∃ cs4, (((cs.setIfInBounds 0 (Value.int .u32 4)).setIfInBounds 4 (Value.int .u32 1)).setIfInBounds 34 (Value.int .u32 65)).setIfInBounds 53 (Value.int .u32 1) = cs4 := ⟨_, rfl⟩
  have HB4 := hidp (Bnew (Bnew (B0 w) (.cells #[.int .i64 1, .int .i64 4, .int .i64 10] 23)) (.cells cs4 39))
  have HX4 := hidp ((Held.new w 23 #[.int .i64 1, .int .i64 4, .int .i64 10]).alloc (.cells cs4 39))
  have h4 := Held.new2 w (.cells #[.int .i64 1, .int .i64 4, .int .i64 10] 23) 39 cs4
  have hv4 : ∀ i, i < 58 → cs4[i]? = some (.int .u32 (exV i : Nat)) := fun i hi => by
    rw [← hcs4]
    unfold exV
    by_cases e0 : i = 0
    · subst e0; simp [hcl]
    · by_cases e1 : i = 4
      · subst e1; simp [hcl]
      · by_cases e2 : i = 34
        · subst e2; simp [hcl]
        · by_cases e3 : i = 53
          · subst e3; simp [hcl]
          · rw [if_neg e0, if_neg e1, if_neg e2, if_neg e3, Array.getElem?_setIfInBounds_ne (by omega), Array.getElem?_setIfInBounds_ne (by omega), Array.getElem?_setIfInBounds_ne (by omega), Array.getElem?_setIfInBounds_ne (by omega)]
            exact hc0 i hi
  have HV4 : Hid (IsVals ((w.alloc (.cells #[.int .i64 1, .int .i64 4, .int .i64 10] 23)).alloc (.cells cs4 39)) ⟨w.heap.size + 1, 0, none⟩ 58 exV) := hidp ⟨by simp, fun i hi => by rw [adds_at, h4.cell i]; exact hv4 i hi⟩
  obtain ⟨W4, hW4⟩ : ∃ W4, (w.alloc (.cells #[.int .i64 1, .int .i64 4, .int .i64 10] 23)).alloc (.cells cs4 39) = W4 := ⟨_, rfl⟩
  rw [hW4] at HB4 HX4 HV4
  clear h4 hv4
  have HT4 := hidp (hT.below HB4.out)
  have HC1 : Hid (CheckIs W4 1 4 10 (some ⟨w.heap.size + 1, 0, none⟩) 58 58 0 true) := hidp (checkIs_yes ex_heap _ _ HV4.out HT4.out ex_told)
  have HC2 : Hid (∀ W, Below W4.heap.size W4 W → Calls Tryd.prog 8 #[.agg #[.int .i64 1, .int .i64 4, .int .i64 10], .slice (some ⟨w.heap.size + 1, 1, none⟩) 57 57] W fun e w' => e = .returned (.tuple #[.int .i64 1, .bool false]) ∧ Below W.heap.size W w') := hidp (fun W hW => auCheck_no 1 4 10 _ 57 57 (by omega) (by decide) (by decide) W)
  have HPA := hidp (auPartsTop_yes ex_heap ex_tiled ⟨w.heap.size + 1, 0, none⟩ 0)
  have HC1x := hidp (fun W hW => HC1.out W hW)
  obtain ⟨c0, c1, c2⟩ := HX4.out.three
  clear hT hc0 k0 k4 k34 k53
  go_enter Tryd.func5, Tryd.ntmps5
  go_wp2_with (first
    | (go_at_call 8; refine (HC1.out _ (B0 _)).mono ?_; rintro e w5 ⟨rfl, hb5⟩; have HB5 := hidp hb5; have HX5 := hidp (HX4.out.keep hb5); clear hb5 c0 c1 c2; obtain ⟨c0, c1, c2⟩ := HX5.out.three)
    | fail)
  clear hmk
  refine wp_region_held_drew (S := (fun w' => w'.cell? ⟨w.heap.size, 0, none⟩ = some (.int .i64 1) ∧ w'.cell? ⟨w.heap.size, 1, none⟩ = some (.int .i64 4) ∧ w'.cell? ⟨w.heap.size, 2, none⟩ = some (.int .i64 10))) (by kernel_rfl) ?_ (fun hHeld => ?_)
  · (try dsimp only)
    first | exact HX5.out.drew.three | exact HX6.out.three | exact hHeld
  refine wpAnyH_take (i := 0) (oi := _) (v := ?_) rfl (by kernel_rfl) (by kernel_rfl) (by kernel_rfl) (fun _ _ _ h => h) (Or.inl ⟨by rfl, ?_⟩) (by assumption) ?_
  rotate_left
  · intro w hSw; (try dsimp only at hSw); go_simp; (try with_reducible rfl)
  (try simp only [Act.put, List.getElem_toArray, List.getElem_cons_zero, List.getElem_cons_succ, List.setIfInBounds_toArray, List.set_cons_zero, List.set_cons_succ])
  refine wpAnyH_take (i := 1) (oi := _) (v := ?_) rfl (by kernel_rfl) (by kernel_rfl) (by kernel_rfl) (fun _ _ _ h => h) (Or.inl ⟨by rfl, ?_⟩) (by assumption) ?_
  rotate_left
  · intro w hSw; (try dsimp only at hSw); go_simp; (try with_reducible rfl)
  (try simp only [Act.put, List.getElem_toArray, List.getElem_cons_zero, List.getElem_cons_succ, List.setIfInBounds_toArray, List.set_cons_zero, List.set_cons_succ])
  refine wpAnyH_take (i := 2) (oi := _) (v := ?_) rfl (by kernel_rfl) (by kernel_rfl) (by kernel_rfl) (fun _ _ _ h => h) (Or.inl ⟨by rfl, ?_⟩) (by assumption) ?_
  rotate_left
  · intro w hSw; (try dsimp only at hSw); go_simp; (try with_reducible rfl)
  (try simp only [Act.put, List.getElem_toArray, List.getElem_cons_zero, List.getElem_cons_succ, List.setIfInBounds_toArray, List.set_cons_zero, List.set_cons_succ])
  refine wpAnyH_ready (rs := [3]) (by kernel_rfl) (by simp) ?_
  refine AllReadyH.cons (o := _) rfl (fun K hK => ?_) AllReadyH.nil
  go_simp
  (go_at_call 8; refine (HC2.out _ (Bdrew HB5.out)).mono ?_; rintro e w6 ⟨rfl, hb6⟩; have HB6 := hidp (Bgo (Bdrew HB5.out) hb6); have HX6 := hidp (HX5.out.drew.keep hb6); clear hb6)
  refine hK.out _ _ ?_ (fun hHeld => ?_)
  · (try dsimp only)
    first | exact HX5.out.drew.three | exact HX6.out.three | exact hHeld
  clear hK K
  (try simp only [Act.put, List.getElem_toArray, List.getElem_cons_zero, List.getElem_cons_succ, List.setIfInBounds_toArray, List.set_cons_zero, List.set_cons_succ])
  refine wpAnyH_take (i := 4) (oi := _) (v := ?_) rfl (by kernel_rfl) (by kernel_rfl) (by kernel_rfl) (fun _ _ _ h => h) (Or.inl ⟨by rfl, ?_⟩) (by assumption) ?_
  rotate_left
  · intro w hSw; (try dsimp only at hSw); go_simp; (try with_reducible rfl)
  (try simp only [Act.put, List.getElem_toArray, List.getElem_cons_zero, List.getElem_cons_succ, List.setIfInBounds_toArray, List.set_cons_zero, List.set_cons_succ])
  refine wpAnyH_take (i := 5) (oi := _) (v := ?_) rfl (by kernel_rfl) (by kernel_rfl) (by kernel_rfl) (fun _ _ _ h => h) (Or.inl ⟨by rfl, ?_⟩) (by assumption) ?_
  rotate_left
  · intro w hSw; (try dsimp only at hSw); go_simp; (try with_reducible rfl)
  (try simp only [Act.put, List.getElem_toArray, List.getElem_cons_zero, List.getElem_cons_succ, List.setIfInBounds_toArray, List.set_cons_zero, List.set_cons_succ])
  refine wpAnyH_take (i := 6) (oi := _) (v := ?_) rfl (by kernel_rfl) (by kernel_rfl) (by kernel_rfl) (fun _ _ _ h => h) (Or.inl ⟨by rfl, ?_⟩) (by assumption) ?_
  rotate_left
  · intro w hSw; (try dsimp only at hSw); go_simp; (try with_reducible rfl)
  (try simp only [Act.put, List.getElem_toArray, List.getElem_cons_zero, List.getElem_cons_succ, List.setIfInBounds_toArray, List.set_cons_zero, List.set_cons_succ])
  refine wpAnyH_take (i := 7) (oi := _) (v := ?_) rfl (by kernel_rfl) (by kernel_rfl) (by kernel_rfl) (fun _ _ _ h => h) (Or.inl ⟨by rfl, ?_⟩) (by assumption) ?_
  rotate_left
  · intro w hSw; (try dsimp only at hSw); go_simp; (try with_reducible rfl)
  (try simp only [Act.put, List.getElem_toArray, List.getElem_cons_zero, List.getElem_cons_succ, List.setIfInBounds_toArray, List.set_cons_zero, List.set_cons_succ])
  refine wpAnyH_take (i := 8) (oi := _) (v := ?_) rfl (by kernel_rfl) (by kernel_rfl) (by kernel_rfl) (fun _ _ _ h => h) (Or.inl ⟨by rfl, ?_⟩) (by assumption) ?_
  rotate_left
  · intro w hSw; (try dsimp only at hSw); go_simp; (try with_reducible rfl)
  (try simp only [Act.put, List.getElem_toArray, List.getElem_cons_zero, List.getElem_cons_succ, List.setIfInBounds_toArray, List.set_cons_zero, List.set_cons_succ])
  refine wpAnyH_done (by kernel_rfl) ?_ _
  have HVP := hidp (HPA.out w6 (HV4.out.below HB6.out) (HT4.out.below HB6.out) (fun W hW => HC1.out W (Bgo HB6.out hW)))
  rw [ex_parts] at HVP
  obtain ⟨c0, c1, c2⟩ := HX6.out.three
  go_wp2_with (first
    | (go_at_call 6; refine HVP.out.mono ?_; rintro e w7 ⟨u, rfl, hown7, hb7⟩; have HB7 := hidp (Bgo HB6.out hb7); obtain ⟨gu, cu, rfl, _, _⟩ := hown7.form (by decide); obtain ⟨p0, p1, p2⟩ := own_part hown7 rfl (i := 0) (x := (1, 1024, 4096)) rfl; have p3 := own_caps3 hown7; clear hb7 hown7)
    | fail)
  go_ret
  exact ⟨rfl, Bgo HB4.out HB7.out⟩
end Go.Proofs.YtbaofpdjfoaiiaaDoor
