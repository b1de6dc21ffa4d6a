/-
  The document's answer for Views: Writes, Vals, Same. Written by view/gen_ref6.py.
-/
import Derived.Test.YtpndfhdedmdoeaaViewRef5
import Derived.Deep.RegionHeld3
namespace Go.Proofs.Ytpndfhdedmdoeaa
open Go.ChangeShapes Go.WideShapes Go.ChangeAt Go.RowKit Go.Maps
set_option linter.unusedVariables false
set_option maxRecDepth 100000
set_option linter.unusedSimpArgs false

theorem rowV_nat6 {w : World} {base : Nat} {e : TypeId} {v : Value} {l : List Nat} (h : w.ownsRow base e 1 v l.length (ntVs l)) : RowV w v ((l.map fun (i : Nat) => (i : Int)).map (Value.int .i64)) := by
  have e0 : ntVs l = (l.map fun (n : Nat) => (n : Int)).map (Value.int .i64) := by unfold ntVs; rw [List.map_map]; rfl
  rw [e0] at h
  refine RowV.of_own (base := base) (e := e) ?_
  simpa using h
theorem RWrites_c {base b n : Nat} {all : Bool} {v : Nat → Value} {Kn : Nat → Option Nat} {s : Vst} (hlim : s.wr.length < 2 ^ 40) (w : World) (h : IsRefV w base b n all v Kn s) :
    Calls Try.prog 50 #[.pointer (some ⟨b, 0, none⟩)] w fun e w' => ∃ u, e = .returned u ∧ w'.ownsRow w.heap.size 86 2 u s.wr.length (prVs s.wr) ∧ Below w.heap.size w w' := by
  have hn := h.nmax
  have HH := hidp h
  have HO : Hid (w.ownsRow base 3 1 (v 5) s.wr.length (ntVs (s.wr.map (·.1)))) := hidp (h.parts.own.rowAt (by omega) rfl rfl rfl rfl)
  obtain ⟨A, cr, hv5⟩ := own_slice HO.out
  have HO5 : Hid (w.ownsRow base 3 1 (.slice A s.wr.length cr) s.wr.length (ntVs (s.wr.map (·.1)))) := hidp (by have := HO.out; rwa [hv5] at this)
  obtain ⟨hqc, hcr⟩ := vown_caps HO5.out
  have hcr2 : cr ≤ 9223372036854775807 := hcr
  have HC6 : Hid (∀ w', Below w.heap.size w w' → w'.cell? ⟨b, 6, none⟩ = some (.slice A s.wr.length cr)) := hidp (fun w' hb => by
    have := (h.keep hb).cells.2.2.2.2.2.2.1
    rwa [hv5] at this)
  obtain ⟨q, hq⟩ : ∃ q, s.wr.length = q := ⟨_, rfl⟩
  have HQ := hidp hq
  have HP0 : Hid ((w.alloc (.cells #[] 86)).ownsRow w.heap.size 86 2 (.slice (some ⟨w.heap.size, 0, none⟩) 0 0) 0 (prVs (s.wr.take 0))) := hidp (World.ownsRow_made w #[] 0 (Nat.le_refl _) (Nat.zero_le _) (by simp))
  have HB0 := hidp (Bnew (B0 w) (.cells #[] 86))
  obtain ⟨j0, hjn, hjz0, hjz1, hjz2⟩ := info_parts pairInfo
  rw [hq] at HO5 HC6 hqc hlim ⊢
  clear h HO hv5 hq hcr
  go_enter Try.func50, Try.ntmps50
  go_wp2_with fail
  go_loopw [3, 4] (fun u i wr => ∃ k : Nat, k ≤ q ∧ i = .int .i64 k ∧ Hid (wr.ownsRow w.heap.size 86 2 u k (prVs (s.wr.take k))) ∧ Hid (Below w.heap.size w wr)) (fun _ i _ => q - (intOf i).toNat)
  case atStart => exact ⟨0, by omega, rfl, HP0, HB0⟩
  case round =>
    clear HP0 HB0
    obtain ⟨k, hk, rfl, HP, HB⟩ := hrel
    have c6 := HC6.out _ HB.out
    by_cases hlt : k < q
    · have hkl : k < s.wr.length := by have := HQ.out; omega
      have hcn : cellW s.wr k < n := by
        have := (HH.out.ok.wrLt s.wr[k] (List.getElem_mem _)).1
        simpa [cellW, List.getD, List.getElem?_eq_getElem hkl] using this
      obtain ⟨g3, p3, hv3, hp3, hm3, hg3, hl3, hr3⟩ := HH.out.row (i := 3) (by omega) (by omega)
      have hto : toV s.wr (cellW s.wr k) = atW s.wr k := by unfold toV; rw [HH.out.ok.wrNd k hkl]
      have d3 := (hr3 _ hcn).1.trans (rX_3 n Kn s hcn)
      rw [hto] at d3
      obtain ⟨gw, cw, hvw, _, hgw⟩ := HO5.out.form (by omega)
      injection hvw with hvw _ hcc
      subst hvw
      subst hcc
      have d5 : w.cell? ⟨gw, k, none⟩ = some (.int .i64 ((cellW s.wr k : Nat) : Int)) := by
        rw [HO5.out.cellAt k (by omega)]
        unfold ntVs
        rw [List.getElem?_map, List.getElem?_map, List.getElem?_eq_getElem hkl]
        simp [cellW, List.getD, List.getElem?_eq_getElem hkl]
      have HPS : Hid (prVs (s.wr.take (k + 1)) = prVs (s.wr.take k) ++ [.int .i64 ((cellW s.wr k : Nat) : Int), .int .u32 ((atW s.wr k : Nat) : Int)]) := hidp (by
        have e : s.wr.take (k + 1) = s.wr.take k ++ [(cellW s.wr k, atW s.wr k)] := by
          have e0 : (cellW s.wr k, atW s.wr k) = s.wr[k] := by simp [cellW, atW, List.getD, List.getElem?_eq_getElem hkl]
          rw [List.take_add_one, List.getElem?_eq_getElem hkl, e0]
          rfl
        rw [e, prVs_snoc])
      have HS : Hid (∀ w', Below w.heap.size w w' → w'.cell? ⟨b, 6, none⟩ = some (.slice (some ⟨gw, 0, none⟩) q cr) ∧ w'.cell? ⟨gw, k, none⟩ = some (.int .i64 ((cellW s.wr k : Nat) : Int)) ∧ w'.cell? ⟨b, 4, none⟩ = some (.slice (some ⟨g3, 0, none⟩) n p3) ∧ w'.cell? ⟨g3, cellW s.wr k, none⟩ = some (.int .u32 ((atW s.wr k : Nat) : Int))) := hidp (fun w' hb => by
        refine ⟨HC6.out _ hb, (hb.cell (p := ⟨gw, k, none⟩) hgw).trans d5, ?_, (hb.cell (p := ⟨g3, cellW s.wr k, none⟩) hl3).trans d3⟩
        have := (HH.out.keep hb).cells.2.2.2.2.1
        rwa [hv3] at this)
      obtain ⟨y0, y1, y2, y3⟩ := HS.out _ HB.out
      clear hto d3 d5 hr3 hv3 hkl
      generalize cellW s.wr k = cx at *
      generalize atW s.wr k = ax at *
      go_wp2_with fail
      refine wp_region_held_drew (S := (fun w' => w'.cell? ⟨b, 6, none⟩ = some (.slice (some ⟨gw, 0, none⟩) q cr) ∧ w'.cell? ⟨gw, k, none⟩ = some (.int .i64 (cx : Int)) ∧ w'.cell? ⟨b, 4, none⟩ = some (.slice (some ⟨g3, 0, none⟩) n p3) ∧ w'.cell? ⟨g3, cx, none⟩ = some (.int .u32 (ax : Int)))) (by kernel_rfl) ?_ (fun hHeld => ?_)
      · (try dsimp only)
        first | exact ⟨y0, y1, y2, y3⟩ | exact HS.out _ (Bnew (Bdrew HB.out) _) | exact HS.out _ HBq.out | exact hHeld
      refine wpAnyH_take (i := 0) (oi := _) (v := ?_) rfl (by kernel_rfl) (by kernel_rfl) (by kernel_rfl) (fun _ _ _ h => h) (Or.inl ⟨by rfl, ?_⟩) (by assumption) ?_
      rotate_left
      · intro w hSw; (try dsimp only at hSw); go_simp; (try with_reducible rfl)
      (try simp only [Act.put, List.getElem_toArray, List.getElem_cons_zero, List.getElem_cons_succ, List.setIfInBounds_toArray, List.set_cons_zero, List.set_cons_succ])
      refine wpAnyH_take (i := 1) (oi := _) (v := ?_) rfl (by kernel_rfl) (by kernel_rfl) (by kernel_rfl) (fun _ _ _ h => h) (Or.inl ⟨by rfl, ?_⟩) (by assumption) ?_
      rotate_left
      · intro w hSw; (try dsimp only at hSw); go_simp; (try with_reducible rfl)
      (try simp only [Act.put, List.getElem_toArray, List.getElem_cons_zero, List.getElem_cons_succ, List.setIfInBounds_toArray, List.set_cons_zero, List.set_cons_succ])
      refine wpAnyH_take (i := 2) (oi := _) (v := ?_) rfl (by kernel_rfl) (by kernel_rfl) (by kernel_rfl) (fun _ _ _ h => h) (Or.inl ⟨by rfl, ?_⟩) (by assumption) ?_
      rotate_left
      · intro w hSw; (try dsimp only at hSw); go_simp; (try with_reducible rfl)
      (try simp only [Act.put, List.getElem_toArray, List.getElem_cons_zero, List.getElem_cons_succ, List.setIfInBounds_toArray, List.set_cons_zero, List.set_cons_succ])
      refine wpAnyH_take (i := 3) (oi := _) (v := ?_) rfl (by kernel_rfl) (by kernel_rfl) (by kernel_rfl) (fun _ _ _ h => h) (Or.inl ⟨by rfl, ?_⟩) (by assumption) ?_
      rotate_left
      · intro w hSw; (try dsimp only at hSw); go_simp; (try with_reducible rfl)
      (try simp only [Act.put, List.getElem_toArray, List.getElem_cons_zero, List.getElem_cons_succ, List.setIfInBounds_toArray, List.set_cons_zero, List.set_cons_succ])
      refine wpAnyH_take (i := 4) (oi := _) (v := ?_) rfl (by kernel_rfl) (by kernel_rfl) (by kernel_rfl) (fun _ _ _ h => h) (Or.inl ⟨by rfl, ?_⟩) (by assumption) ?_
      rotate_left
      · intro w hSw; (try dsimp only at hSw); go_simp; (try with_reducible rfl)
      (try simp only [Act.put, List.getElem_toArray, List.getElem_cons_zero, List.getElem_cons_succ, List.setIfInBounds_toArray, List.set_cons_zero, List.set_cons_succ])
      refine wpAnyH_take (i := 5) (oi := _) (v := ?_) rfl (by kernel_rfl) (by kernel_rfl) (by kernel_rfl) (fun _ _ _ h => h) (Or.inl ⟨by rfl, ?_⟩) (by assumption) ?_
      rotate_left
      · intro w hSw; (try dsimp only at hSw); go_simp; (try with_reducible rfl)
      (try simp only [Act.put, List.getElem_toArray, List.getElem_cons_zero, List.getElem_cons_succ, List.setIfInBounds_toArray, List.set_cons_zero, List.set_cons_succ])
      refine wpAnyH_take (i := 6) (oi := _) (v := ?_) rfl (by kernel_rfl) (by kernel_rfl) (by kernel_rfl) (fun _ _ _ h => h) (Or.inl ⟨by rfl, ?_⟩) (by assumption) ?_
      rotate_left
      · intro w hSw; (try dsimp only at hSw); go_simp; (try with_reducible rfl)
      (try simp only [Act.put, List.getElem_toArray, List.getElem_cons_zero, List.getElem_cons_succ, List.setIfInBounds_toArray, List.set_cons_zero, List.set_cons_succ])
      refine wpAnyH_take (i := 7) (oi := _) (v := ?_) rfl (by kernel_rfl) (by kernel_rfl) (by kernel_rfl) (fun _ _ _ h => h) (Or.inl ⟨by rfl, ?_⟩) (by assumption) ?_
      rotate_left
      · intro w hSw; (try dsimp only at hSw); go_simp; (try with_reducible rfl)
      (try simp only [Act.put, List.getElem_toArray, List.getElem_cons_zero, List.getElem_cons_succ, List.setIfInBounds_toArray, List.set_cons_zero, List.set_cons_succ])
      refine wpAnyH_take (i := 8) (oi := _) (v := ?_) rfl (by kernel_rfl) (by kernel_rfl) (by kernel_rfl) (fun _ _ _ h => h) (Or.inl ⟨by rfl, ?_⟩) (by assumption) ?_
      rotate_left
      · intro w hSw; (try dsimp only at hSw); go_simp; (try with_reducible rfl)
      (try simp only [Act.put, List.getElem_toArray, List.getElem_cons_zero, List.getElem_cons_succ, List.setIfInBounds_toArray, List.set_cons_zero, List.set_cons_succ])
      refine wpAnyH_take (i := 9) (oi := _) (v := ?_) rfl (by kernel_rfl) (by kernel_rfl) (by kernel_rfl) (fun _ _ _ h => h) (Or.inl ⟨by rfl, ?_⟩) (by assumption) ?_
      rotate_left
      · intro w hSw; (try dsimp only at hSw); go_simp; (try with_reducible rfl)
      (try simp only [Act.put, List.getElem_toArray, List.getElem_cons_zero, List.getElem_cons_succ, List.setIfInBounds_toArray, List.set_cons_zero, List.set_cons_succ])
      refine wpAnyH_take (i := 10) (oi := _) (v := ?_) rfl (by kernel_rfl) (by kernel_rfl) (by kernel_rfl) (fun _ _ _ h => h) (Or.inl ⟨by rfl, ?_⟩) (by assumption) ?_
      rotate_left
      · intro w hSw; (try dsimp only at hSw); go_simp; (try with_reducible rfl)
      (try simp only [Act.put, List.getElem_toArray, List.getElem_cons_zero, List.getElem_cons_succ, List.setIfInBounds_toArray, List.set_cons_zero, List.set_cons_succ])
      refine wpAnyH_take (i := 11) (oi := _) (v := ?_) rfl (by kernel_rfl) (by kernel_rfl) (by kernel_rfl) (fun _ _ _ h => h) (Or.inl ⟨by rfl, ?_⟩) (by assumption) ?_
      rotate_left
      · intro w hSw; (try dsimp only at hSw); go_simp; (try with_reducible rfl)
      (try simp only [Act.put, List.getElem_toArray, List.getElem_cons_zero, List.getElem_cons_succ, List.setIfInBounds_toArray, List.set_cons_zero, List.set_cons_succ])
      refine wpAnyH_take (i := 12) (oi := _) (v := ?_) rfl (by kernel_rfl) (by kernel_rfl) (by kernel_rfl) (fun _ _ _ h => h) (Or.inl ⟨by rfl, ?_⟩) (by assumption) ?_
      rotate_left
      · intro w hSw; (try dsimp only at hSw); go_simp; (try with_reducible rfl)
      (try simp only [Act.put, List.getElem_toArray, List.getElem_cons_zero, List.getElem_cons_succ, List.setIfInBounds_toArray, List.set_cons_zero, List.set_cons_succ])
      refine wpAnyH_take (i := 13) (oi := _) (v := ?_) rfl (by kernel_rfl) (by kernel_rfl) (by kernel_rfl) (fun _ _ _ h => h) (Or.inl ⟨by rfl, ?_⟩) (by assumption) ?_
      rotate_left
      · intro w hSw; (try dsimp only at hSw); go_simp; (try with_reducible rfl)
      (try simp only [Act.put, List.getElem_toArray, List.getElem_cons_zero, List.getElem_cons_succ, List.setIfInBounds_toArray, List.set_cons_zero, List.set_cons_succ])
      refine wpAnyH_take (i := 14) (oi := _) (v := ?_) rfl (by kernel_rfl) (by kernel_rfl) (by kernel_rfl) (fun _ _ _ h => h) (Or.inl ⟨by rfl, ?_⟩) (by assumption) ?_
      rotate_left
      · intro w hSw; (try dsimp only at hSw); go_simp; (try with_reducible rfl)
      (try simp only [Act.put, List.getElem_toArray, List.getElem_cons_zero, List.getElem_cons_succ, List.setIfInBounds_toArray, List.set_cons_zero, List.set_cons_succ])
      refine wpAnyH_take (i := 15) (oi := _) (v := ?_) rfl (by kernel_rfl) (by kernel_rfl) (by kernel_rfl) (fun _ _ _ h => h) (Or.inl ⟨by rfl, ?_⟩) (by assumption) ?_
      rotate_left
      · intro w hSw; (try dsimp only at hSw); go_simp; (try with_reducible rfl)
      (try simp only [Act.put, List.getElem_toArray, List.getElem_cons_zero, List.getElem_cons_succ, List.setIfInBounds_toArray, List.set_cons_zero, List.set_cons_succ])
      refine wpAnyH_take (i := 16) (oi := _) (v := ?_) rfl (by kernel_rfl) (by kernel_rfl) (by kernel_rfl) (fun _ _ _ h => h) (Or.inl ⟨by rfl, ?_⟩) (by assumption) ?_
      rotate_left
      · intro w hSw; (try dsimp only at hSw); go_simp; (try with_reducible rfl)
      (try simp only [Act.put, List.getElem_toArray, List.getElem_cons_zero, List.getElem_cons_succ, List.setIfInBounds_toArray, List.set_cons_zero, List.set_cons_succ])
      refine wpAnyH_take (i := 17) (oi := _) (v := ?_) rfl (by kernel_rfl) (by kernel_rfl) (by kernel_rfl) (fun _ _ _ h => h) (Or.inl ⟨by rfl, ?_⟩) (by assumption) ?_
      rotate_left
      · intro w hSw; (try dsimp only at hSw); go_simp; (try with_reducible rfl)
      (try simp only [Act.put, List.getElem_toArray, List.getElem_cons_zero, List.getElem_cons_succ, List.setIfInBounds_toArray, List.set_cons_zero, List.set_cons_succ])
      refine wpAnyH_take (i := 18) (oi := _) (v := ?_) rfl (by kernel_rfl) (by kernel_rfl) (by kernel_rfl) (fun _ _ _ h => h) (Or.inl ⟨by rfl, ?_⟩) (by assumption) ?_
      rotate_left
      · intro w hSw; (try dsimp only at hSw); go_simp; (try with_reducible rfl)
      (try simp only [Act.put, List.getElem_toArray, List.getElem_cons_zero, List.getElem_cons_succ, List.setIfInBounds_toArray, List.set_cons_zero, List.set_cons_succ])
      refine wpAnyH_take (i := 19) (oi := _) (v := ?_) rfl (by kernel_rfl) (by kernel_rfl) (by kernel_rfl) (fun _ _ _ h => h) (Or.inl ⟨by rfl, ?_⟩) (by assumption) ?_
      rotate_left
      · intro w hSw; (try dsimp only at hSw); go_simp; (try with_reducible rfl)
      (try simp only [Act.put, List.getElem_toArray, List.getElem_cons_zero, List.getElem_cons_succ, List.setIfInBounds_toArray, List.set_cons_zero, List.set_cons_succ])
      refine wpAnyH_take (i := 20) (oi := _) (v := ?_) rfl (by kernel_rfl) (by kernel_rfl) (by kernel_rfl) (fun _ _ _ h => h) (Or.inl ⟨by rfl, ?_⟩) (by assumption) ?_
      rotate_left
      · intro w hSw; (try dsimp only at hSw); go_simp; (try with_reducible rfl)
      (try simp only [Act.put, List.getElem_toArray, List.getElem_cons_zero, List.getElem_cons_succ, List.setIfInBounds_toArray, List.set_cons_zero, List.set_cons_succ])
      refine wpAnyH_take (i := 21) (oi := _) (v := ?_) rfl (by kernel_rfl) (by kernel_rfl) (by kernel_rfl) (fun _ _ _ h => h) (Or.inl ⟨by rfl, ?_⟩) (by assumption) ?_
      rotate_left
      · intro w hSw; (try dsimp only at hSw); go_simp; (try with_reducible rfl)
      (try simp only [Act.put, List.getElem_toArray, List.getElem_cons_zero, List.getElem_cons_succ, List.setIfInBounds_toArray, List.set_cons_zero, List.set_cons_succ])
      refine wpAnyH_ready (rs := [22]) (by kernel_rfl) (by simp) ?_
      refine AllReadyH.cons (o := _) rfl (fun K hK => ?_) AllReadyH.nil
      go_simp
      skip
      refine hK.out _ _ ?_ (fun hHeld => ?_)
      · (try dsimp only)
        first | exact ⟨y0, y1, y2, y3⟩ | exact HS.out _ (Bnew (Bdrew HB.out) _) | exact HS.out _ HBq.out | exact hHeld
      clear hK K
      (try simp only [Act.put, List.getElem_toArray, List.getElem_cons_zero, List.getElem_cons_succ, List.setIfInBounds_toArray, List.set_cons_zero, List.set_cons_succ])
      refine wpAnyH_ready (rs := [23]) (by kernel_rfl) (by simp) ?_
      refine AllReadyH.cons (o := _) rfl (fun K hK => ?_) AllReadyH.nil
      (refine step_append_lies _ (by rfl) _ _ 42 (by rfl) w.heap.size 86 j0 (.agg #[.int .i64 0, .int .u32 0]) 2 16 Try.underlying42 hjn hjz0 hjz1 hjz2 rfl (by decide) u3 k (prVs (s.wr.take k)) (by rfl) ((own_below HP.out (Bdrew (B0 _))).alloc _) ⟨_, 0, none⟩ 1 1 [.int .i64 (cx : Int), .int .u32 (ax : Int)] (by rfl) rfl (fun j y hy => World.news_of_block (w := wr.alloc (.cells #[.int .i64 (cx : Int), .int .u32 (ax : Int)] 86)) (heap_alloc_new wr _) j y (by simpa using hy)) (by simp [Value.oneCell']) (by omega) (by unfold maxLen; omega) (by omega) (by have := HB.out.size; simp; omega) _ rfl ?_; intro g cap w6 hown6 hgrow6 hat6 hlt6; have HBq := hidp ((Bnew HB.out (.cells #[.int .i64 (cx : Int), .int .u32 (ax : Int)] 86)).grown (w' := w6) ⟨hgrow6.os, hgrow6.tape, hgrow6.output, hgrow6.size, hgrow6.block⟩ (by have := HB.out.size; simp; omega) (fun q' hq' => (HP.out.lt q' hq').1)); have HO6 := hidp hown6; clear hown6 hgrow6 hat6 hlt6)
      refine hK.out _ _ ?_ (fun hHeld => ?_)
      · (try dsimp only)
        first | exact ⟨y0, y1, y2, y3⟩ | exact HS.out _ (Bnew (Bdrew HB.out) _) | exact HS.out _ HBq.out | exact hHeld
      clear hK K
      (try simp only [Act.put, List.getElem_toArray, List.getElem_cons_zero, List.getElem_cons_succ, List.setIfInBounds_toArray, List.set_cons_zero, List.set_cons_succ])
      refine wpAnyH_take (i := 24) (oi := _) (v := ?_) rfl (by kernel_rfl) (by kernel_rfl) (by kernel_rfl) (fun _ _ _ h => h) (Or.inl ⟨by rfl, ?_⟩) (by assumption) ?_
      rotate_left
      · intro w hSw; (try dsimp only at hSw); go_simp; (try with_reducible rfl)
      (try simp only [Act.put, List.getElem_toArray, List.getElem_cons_zero, List.getElem_cons_succ, List.setIfInBounds_toArray, List.set_cons_zero, List.set_cons_succ])
      refine wpAnyH_done (by kernel_rfl) ?_ _
      go_wp2
      go_roundw
      case rel => exact ⟨k + 1, by omega, by go_num, hidp (by rw [HPS.out]; exact HO6.out), HBq⟩
      case measure => simp [intOf]; omega
    · obtain rfl : k = q := by omega
      have HPF : Hid (wr.ownsRow w.heap.size 86 2 u3 k (prVs s.wr)) := hidp (by
        have := HP.out
        rwa [List.take_of_length_le (by have := HQ.out; omega)] at this)
      go_wp2
      go_ret
      exact ⟨u3, rfl, HPF.out, HB.out⟩

/-- the values of the first cells, behind what was put -/
def nowL (K : Nat → Option Nat) (wr : List (Nat × Nat)) (k : Nat) : List Nat := (List.range k).map (nowV K wr)
theorem nowL_step (K : Nat → Option Nat) (wr : List (Nat × Nat)) (k : Nat) : valVs (nowL K wr (k + 1)) = valVs (nowL K wr k) ++ [.int .u32 ((nowV K wr k : Nat) : Int)] := by
  unfold nowL valVs
  rw [List.range_succ, List.map_append, List.map_append]
  rfl
theorem nowL_F (K : Nat → Option Nat) (wr : List (Nat × Nat)) (k : Nat) : valVs (nowL K wr k) = (List.range k).map (valF (nowV K wr)) := by
  unfold nowL valVs
  rw [List.map_map]
  rfl

theorem Same_c {base b n : Nat} {all : Bool} {v : Nat → Value} {Kn : Nat → Option Nat} {s : Vst} (h1 : s.rd.length < 2 ^ 40) (h2 : s.wr.length < 2 ^ 40) (u1 u2 : Value) (w : World) (h : IsRefV w base b n all v Kn s)
    (HR : RowV w u1 ((s.rd.map fun (i : Nat) => (i : Int)).map (Value.int .i64))) (HW : RowP w u2 s.wr) :
    Calls Try.prog 16 #[.pointer (some ⟨b, 0, none⟩), u1, u2, .int .i64 (missI s)] w fun e w' => e = .returned (.bool true) ∧ Below w.heap.size w w' := by
  have HH := hidp h
  have c5 := h.cells.2.2.2.2.2.1
  have HV : Hid (RowV w (v 4) ((s.rd.map fun (i : Nat) => (i : Int)).map (Value.int .i64))) := hidp (rowV_nat6 (h.parts.own.rowAt (by omega) rfl rfl rfl rfl))
  have HR := hidp HR
  have HW := hidp HW
  obtain ⟨mi, hmi⟩ : ∃ mi, missI s = mi := ⟨_, rfl⟩
  have HMI := hidp hmi
  rw [hmi]
  clear h hmi
  go_enter Try.func16, Try.ntmps16
  go_wp2_with fail
  refine (Ints_same _ _ _ _ HR.out HV.out).mono ?_
  rintro e w1 ⟨rfl, j1, rfl⟩
  obtain ⟨w2, hw2⟩ : ∃ w2, w.drewN j1 = w2 := ⟨_, rfl⟩
  have hb := Bdraw (B0 w) j1
  rw [hw2] at hb ⊢
  have HH2 := hidp (HH.out.keep hb)
  have HW2 := hidp (HW.out.below hb)
  have HB2 := hidp hb
  clear hb HH HW HR HV c5 hw2
  go_wp2_with fail
  refine (RWrites_c h2 _ HH2.out).mono ?_
  rintro e w3 ⟨u3, rfl, ho, hb⟩
  have HP3 := hidp (RowP.of_own ho)
  have HW3 := hidp (HW2.out.below hb)
  have HH3 := hidp (HH2.out.keep hb)
  have HB3 := hidp (Bgo HB2.out hb)
  clear ho hb HH2 HW2 HB2
  go_wp2_with fail
  refine (Pairs_same s.wr _ _ _ HW3.out HP3.out).mono ?_
  rintro e w4 ⟨rfl, j4, rfl⟩
  have c7 : (w3.drewN j4).cell? ⟨b, 7, none⟩ = some (.int .i64 mi) := by
    have := (HH3.out.keep (Bdraw (B0 w3) j4)).cells.2.2.2.2.2.2.2.1
    rwa [HMI.out] at this
  have HB4 := hidp (Bdraw HB3.out j4)
  obtain ⟨w5, hw5⟩ : ∃ w5, w3.drewN j4 = w5 := ⟨_, rfl⟩
  rw [hw5] at c7 HB4 ⊢
  clear hw5
  go_wp2
  go_ret
  exact ⟨rfl, HB4.out⟩
end Go.Proofs.Ytpndfhdedmdoeaa
