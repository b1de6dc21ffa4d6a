/-
  The parts of a heap. Written by audit/gen_parts2.py.
-/
import Derived.Test.YtbaofpdjfoaiiaaDoorAuditParts
import Derived.Deep.AppendLies
namespace Go.Proofs.YtbaofpdjfoaiiaaDoor
open Go.ChangeShapes Go.WideShapes Go.ChangeAt Go.RowKit Go.Shelf
set_option linter.unusedVariables false
set_option linter.unusedSimpArgs false

theorem own_down {w : World} {base base' : Nat} {e : TypeId} {size : Nat} {v : Value} {n : Nat} {xs : List Value} (h : w.ownsRow base e size v n xs) (hb : base' ≤ base) : w.ownsRow base' e size v n xs :=
  ⟨h.1, h.2.imp id fun ⟨g, cap, cur, h1, h2, h3⟩ => ⟨g, cap, cur, h1, Nat.le_trans hb h2, h3⟩⟩
theorem own_cells {w : World} {base : Nat} {e : TypeId} {size n : Nat} {v : Value} {xs : List Value} (h : w.ownsRow base e size v n xs) {g : Nat} (hg : v.ownBlock = some g) : ∃ o, w.heap[g]? = some o ∧ o.isCells = true := by
  rcases h.2 with ⟨rfl, _⟩ | ⟨g', cap, cur, rfl, hbg, hg', hr⟩
  · simp [Value.ownBlock] at hg
  · have : g' = g := by simpa [Value.ownBlock] using hg
    subst this
    exact ⟨_, hg', rfl⟩
section
attribute [local go_sem] Oper.semAt_some

set_option maxHeartbeats 12800000 in
set_option maxRecDepth 100000 in
theorem auParts_c {H : AuH} {n c : Nat} (HV : HeapV H n c) (ht : H.Tiled) (ad : Addr) (w : World) (hv : IsVals w ad n H.V) (hT : SlotsLaid w) :
    Calls Tryd.prog 10 #[hpV H ad n c] w fun e w' => ∃ u, e = .returned u ∧ w'.ownsRow w.heap.size 35 3 u H.parts.length (ptVs H.parts) ∧ Below w.heap.size w w' := by
  have HTL := hidp hT
  obtain ⟨j0, hjn, hjz0, hjz1, hjz2⟩ := info_parts partInfo
  have HVL := hidp hv
  have HP : H.p ≤ 1024 := HV.nums.2.2.2.1
  refine calls_of_wp_mark Tryd.func10 rfl ?_
  unfold hpV
  simp only [Tryd.ntmps10, List.size_toArray, List.length_cons, List.length_nil, Nat.reduceAdd, Nat.reduceSub, Array.replicate_succ, Array.replicate_zero, List.push_toArray, List.append_toArray, List.nil_append, List.cons_append]
  have HX0 := hidp ((Held.new w 41 #[.int .i64 (H.t : Int), .int .i64 (H.p : Int), .int .i64 (H.s : Int), .slice (some ad) n c]).alloc (.cells #[.slice none 0 0] 27))
  have HX1 := hidp (Held.new (w.alloc (.cells #[.int .i64 (H.t : Int), .int .i64 (H.p : Int), .int .i64 (H.s : Int), .slice (some ad) n c] 41)) 27 #[.slice none 0 0])
  rw [World.size_alloc] at HX1
  have HBW := hidp (Bnew (Bnew (B0 w) (.cells #[.int .i64 (H.t : Int), .int .i64 (H.p : Int), .int .i64 (H.s : Int), .slice (some ad) n c] 41)) (.cells #[.slice none 0 0] 27))
  go_wp2_with fail
  have HBS : Hid (((w.alloc (.cells #[.int .i64 (H.t : Int), .int .i64 (H.p : Int), .int .i64 (H.s : Int), .slice (some ad) n c] 41)).alloc (.cells #[.slice none 0 0] 27)).heap.size = w.heap.size + 1 + 1) := hidp (by simp)
  generalize (w.alloc (.cells #[.int .i64 (H.t : Int), .int .i64 (H.p : Int), .int .i64 (H.s : Int), .slice (some ad) n c] 41)).alloc (.cells #[.slice none 0 0] 27) = W3 at *
  refine wp_seq (w0 := w) (gf := 13) (bound := #[hpV H ad n c]) (enc := encS H) (can := H.can) (next := H.nx) rfl (enters_of Tryd.func13 (by kernel_rfl) rfl) (auSpans_seq HV ad w HVL.out) HBW.out (fun _ => rfl)
    (fun pos F A => ∃ u, F = (fun i => i = (w.heap.size + 1) ∨ (u : Value).ownBlock = some i) ∧ H.At pos ∧ Held A w.heap.size 41 #[.int .i64 (H.t : Int), .int .i64 (H.p : Int), .int .i64 (H.s : Int), .slice (some ad) n c] ∧ Held A (w.heap.size + 1) 27 #[u] ∧ A.ownsRow (w.heap.size + 1 + 1) 35 3 u (AuH.catTo H.partsAt pos).length (ptVs (AuH.catTo H.partsAt pos)) ∧ Below w.heap.size w A)
    (fun c A => False)
    ?hI ?hIx ?hIB ?hIF (F0 := (fun i => i = (w.heap.size + 1) ∨ (.slice none 0 0 : Value).ownBlock = some i)) ⟨_, rfl, .zero, HX0.out, HX1.out, World.ownsRow_nil _ _ _ _, HBW.out⟩ ?round ?done ?stop
  case hI => rintro pos F A B ⟨u, h1, h2, h4, h5, h6, h7⟩ hm; exact ⟨u, h1, h2, hm.held h4, hm.held h5, hm.own h6, hm.below h7 HBW.out.size⟩
  case hIx => rintro c A B h hm; exact h
  case hIB => rintro pos F A ⟨u, h1, h2, h4, h5, h6, h7⟩; exact h7
  case hIF => rintro pos F A ⟨u, rfl, h2, h4, h5, h6, h7⟩ i (rfl | hi); exact ⟨_, h5, rfl⟩; exact own_cells h6 hi
  case round =>
    rintro l0 pos F A hc ⟨u, rfl, hat, x0, x1, x2, hB⟩ hsz
    unfold encS
    have HAB : Hid ((w.heap.size + 1) < A.heap.size ∧ (∀ g, u.ownBlock = some g → (w.heap.size + 1 + 1) ≤ g ∧ g < A.heap.size)) := hidp ⟨x1.lt, fun g h => x2.lt g h⟩
    gi_wp2_with fail
    refine ⟨Bnew (B0 A) _, fun A2 hM hs => ?_⟩
    have HN := hidp (hM.held (Held.new A 50 #[.int .i64 (H.K pos), .int .i64 (H.ln pos : Int), .int .i64 (H.Cl pos)]))
    have HX0 := hidp (hM.held (x0.alloc (.cells #[.int .i64 (H.K pos), .int .i64 (H.ln pos : Int), .int .i64 (H.Cl pos)] 50)))
    have HG := hidp (hM.held (x1.alloc (.cells #[.int .i64 (H.K pos), .int .i64 (H.ln pos : Int), .int .i64 (H.Cl pos)] 50)))
    have HB := hidp (hM.below (Bnew hB (.cells #[.int .i64 (H.K pos), .int .i64 (H.ln pos : Int), .int .i64 (H.Cl pos)] 50)) HBW.out.size)
    have HO0 := hidp (hM.own (own_below x2 (Bnew (B0 A) (.cells #[.int .i64 (H.K pos), .int .i64 (H.ln pos : Int), .int .i64 (H.Cl pos)] 50))))
    have HAT0 := hidp hat
    have HC := hidp hc
    obtain ⟨hlt, hk0, hle⟩ := (H.can_iff pos).1 hc
    have HLT := hidp hlt
    have HCT := hidp (ht.cat hat hlt (fun q _ h => AuH.partsAt_no (H := H) h))
    have HVR := hidp (HVL.out.below HB.out)
    have HTLR := hidp (HTL.out.below HB.out)
    have HAS : Hid (A.heap.size < A2.heap.size) := hidp (by rw [hs]; simp)
    clear hM x0 x1 x2 hB hat hc hs hsz hle
    have hpl := AuH.parts_len (H := H) pos
    obtain ⟨l, hll⟩ : ∃ l, AuH.catTo H.partsAt pos = l := ⟨_, rfl⟩
    rw [hll] at HO0 HCT hpl
    obtain ⟨nl, hnl⟩ : ∃ nl, l.length = nl := ⟨_, rfl⟩
    have HLN := hidp hnl
    have HO : Hid (A2.ownsRow (w.heap.size + 1 + 1) 35 3 u nl (ptVs l)) := hidp (by have := HO0.out; rwa [hnl] at this)
    rw [hnl] at hpl
    have hnl9 : nl ≤ 100000 := by omega
    clear hll hnl HO0 hpl
    have hkc := H.K_cases pos
    have hp1 : H.K pos = 1 → H.partsAt pos = [(1, H.first pos, (H.ln pos : Int) * (H.pg : Int))] := fun h => by unfold AuH.partsAt; rw [if_pos h]
    have hp2 : H.K pos = 2 → H.partsAt pos = [(2, H.first pos, (H.ln pos : Int) * (H.pg : Int))] := fun h => by unfold AuH.partsAt; rw [if_neg (by omega), if_pos h]
    have hmk := (H.ln_pos pos hk0).2
    have HPG := hidp (fun (k : Int) (W : World) => auPages_c HV ad k pos (H.ln pos) hlt hmk W)
    have HAS2 := hidp (fun (h3 : H.K pos = 3) (W : World) (h4 : IsVals W ad n H.V) (h5 : SlotsLaid W) (h6 : (w.heap.size + 1 + 1) ≤ W.heap.size) (h7 : W.ownsRow (w.heap.size + 1 + 1) 35 3 u nl (ptVs l)) => auAddSlots_c HV ad hlt h3 (w.heap.size + 1 + 1) nl u l HLN.out hnl9 W h4 h5 h6 h7)
    generalize hfq : H.first pos = fq at *
    clear hfq
    generalize hkk : H.K pos = kk at *
    clear hkk
    generalize H.ln pos = m at *
    generalize H.Cl pos = cl at *
    have HS : Hid (∀ w', Turns (fun i => i = (w.heap.size + 1) ∨ (u : Value).ownBlock = some i) A2 w' → (fun w' => w'.cell? ⟨w.heap.size, 0, none⟩ = some (.int .i64 (H.t : Int)) ∧ w'.cell? ⟨w.heap.size, 1, none⟩ = some (.int .i64 (H.p : Int)) ∧ w'.cell? ⟨w.heap.size, 2, none⟩ = some (.int .i64 (H.s : Int)) ∧ w'.cell? ⟨w.heap.size, 3, none⟩ = some (.slice (some ad) n c) ∧ w'.cell? ⟨A.heap.size, 0, none⟩ = some (.int .i64 kk) ∧ w'.cell? ⟨A.heap.size, 1, none⟩ = some (.int .i64 (m : Int)) ∧ w'.cell? ⟨A.heap.size, 2, none⟩ = some (.int .i64 cl)) w') := hidp (fun w' hT => by
      have hu : ∀ g, u.ownBlock = some g → (w.heap.size + 1 + 1) ≤ g ∧ g < A.heap.size := HAB.out.2
      have h0 := (hT.held HX0.out (fun h => by rcases h with h | h; (omega); have := (hu _ h).1; omega)).four
      have h2 := (hT.held HN.out (fun h => by rcases h with h | h; (have := HAB.out.1; omega); have := (hu _ h).2; omega)).three
      exact ⟨h0.1, h0.2.1, h0.2.2.1, h0.2.2.2, h2.1, h2.2.1, h2.2.2⟩)
    obtain ⟨c0, c1, c2, c3, d0, d1, d2⟩ := HS.out A2 (T0 _ _)
    obtain ⟨c4, f4⟩ := HG.out.one
    have c4d : A2.drew.cell? ⟨(w.heap.size + 1), 0, none⟩ = some u := c4
    rcases hkc with hk | ⟨hk | hk, hl1, hl2, -⟩ | ⟨hk, hl1, hcl1, hcl2⟩
    · exact absurd hk.1 hk0
    · subst hk
      have HPA := hidp (hp1 rfl)
      clear hp1 hp2 hk0 HAS2
      gi_wp2_with fail
      refine wp_region_round (S := (fun w' => w'.cell? ⟨w.heap.size, 0, none⟩ = some (.int .i64 (H.t : Int)) ∧ w'.cell? ⟨w.heap.size, 1, none⟩ = some (.int .i64 (H.p : Int)) ∧ w'.cell? ⟨w.heap.size, 2, none⟩ = some (.int .i64 (H.s : Int)) ∧ w'.cell? ⟨w.heap.size, 3, none⟩ = some (.slice (some ad) n c) ∧ w'.cell? ⟨A.heap.size, 0, none⟩ = some (.int .i64 1) ∧ w'.cell? ⟨A.heap.size, 1, none⟩ = some (.int .i64 (m : Int)) ∧ w'.cell? ⟨A.heap.size, 2, none⟩ = some (.int .i64 cl))) (by kernel_rfl) (by kernel_rfl) (fun _ _ h => h) ?_ (fun hHeld => ?_)
      · (try dsimp only)
        first | exact HS.out _ (T0 _ A2).drew | exact HS.out _ HT4.out | exact HS.out _ (HT4.out.alloc _) | exact HS.out _ HT8.out | exact HS.out _ (HT8.out.put (p := ⟨(w.heap.size + 1), 0, none⟩) (.inl rfl) _) | exact hHeld
      refine wpAnyH_take (i := 1) (oi := _) (v := ?_) rfl (by kernel_rfl) (by kernel_rfl) (by kernel_rfl) (fun _ _ _ h => h) (Or.inl ⟨by rfl, ?_⟩) (by assumption) ?_
      rotate_left
      · intro w hSw; (try dsimp only at hSw); go_simp; (try with_reducible rfl)
      (try simp only [Act.put, List.getElem_toArray, List.getElem_cons_zero, List.getElem_cons_succ, List.setIfInBounds_toArray, List.set_cons_zero, List.set_cons_succ])
      refine wpAnyH_take (i := 2) (oi := _) (v := ?_) rfl (by kernel_rfl) (by kernel_rfl) (by kernel_rfl) (fun _ _ _ h => h) (Or.inl ⟨by rfl, ?_⟩) (by assumption) ?_
      rotate_left
      · intro w hSw; (try dsimp only at hSw); go_simp; (try with_reducible rfl)
      (try simp only [Act.put, List.getElem_toArray, List.getElem_cons_zero, List.getElem_cons_succ, List.setIfInBounds_toArray, List.set_cons_zero, List.set_cons_succ])
      refine wpAnyH_take (i := 3) (oi := _) (v := ?_) rfl (by kernel_rfl) (by kernel_rfl) (by kernel_rfl) (fun _ _ _ h => h) (Or.inl ⟨by rfl, ?_⟩) (by assumption) ?_
      rotate_left
      · intro w hSw; (try dsimp only at hSw); go_simp; (try with_reducible rfl)
      (try simp only [Act.put, List.getElem_toArray, List.getElem_cons_zero, List.getElem_cons_succ, List.setIfInBounds_toArray, List.set_cons_zero, List.set_cons_succ])
      refine wpAnyH_take (i := 4) (oi := _) (v := ?_) rfl (by kernel_rfl) (by kernel_rfl) (by kernel_rfl) (fun _ _ _ h => h) (Or.inl ⟨by rfl, ?_⟩) (by assumption) ?_
      rotate_left
      · intro w hSw; (try dsimp only at hSw); go_simp; (try with_reducible rfl)
      (try simp only [Act.put, List.getElem_toArray, List.getElem_cons_zero, List.getElem_cons_succ, List.setIfInBounds_toArray, List.set_cons_zero, List.set_cons_succ])
      refine wpAnyH_ready (rs := [0, 5]) (by kernel_rfl) (by simp) ?_
      refine (AllReadyH.cons (o := _) rfl (fun K hK => ?_) (AllReadyH.cons (o := _) rfl (fun K hK => ?_) AllReadyH.nil))
      · go_simp
        refine hK.out _ _ ?_ (fun hHeld => ?_)
        · (try dsimp only)
          first | exact HS.out _ (T0 _ A2).drew | exact HS.out _ HT4.out | exact HS.out _ (HT4.out.alloc _) | exact HS.out _ HT8.out | exact HS.out _ (HT8.out.put (p := ⟨(w.heap.size + 1), 0, none⟩) (.inl rfl) _) | exact hHeld
        clear hK K
        (try simp only [Act.put, List.getElem_toArray, List.getElem_cons_zero, List.getElem_cons_succ, List.setIfInBounds_toArray, List.set_cons_zero, List.set_cons_succ])
        refine wpAnyH_ready (rs := [5]) (by kernel_rfl) (by simp) ?_
        refine AllReadyH.cons (o := _) rfl (fun K hK => ?_) AllReadyH.nil
        go_simp
        (go_at_call 14; refine (HPG.out 1 _).mono ?_; rintro e w4 ⟨rfl, hb4⟩; have HT4 := hidp ((T0 (fun i => i = (w.heap.size + 1) ∨ (u : Value).ownBlock = some i) A2).drew.trans (Turns.of_below hb4 _)); have HG4 := hidp (HG.out.drew.keep hb4); have HO4 := hidp (own_below (w := A2.drew) HO.out hb4); clear hb4; have c9 := HG4.out.one.1; have c10 := (HG4.out.alloc (.cells #[.int .i64 1, .int .i64 fq, .int .i64 ((m : Int) * (H.pg : Int))] 35)).one.1)
        refine hK.out _ _ ?_ (fun hHeld => ?_)
        · (try dsimp only)
          first | exact HS.out _ (T0 _ A2).drew | exact HS.out _ HT4.out | exact HS.out _ (HT4.out.alloc _) | exact HS.out _ HT8.out | exact HS.out _ (HT8.out.put (p := ⟨(w.heap.size + 1), 0, none⟩) (.inl rfl) _) | exact hHeld
        clear hK K
        (try simp only [Act.put, List.getElem_toArray, List.getElem_cons_zero, List.getElem_cons_succ, List.setIfInBounds_toArray, List.set_cons_zero, List.set_cons_succ])
        refine wpAnyH_ready (rs := [6]) (by kernel_rfl) (by simp) ?_
        refine AllReadyH.cons (o := _) rfl (fun K hK => ?_) AllReadyH.nil
        go_simp
        skip
        refine hK.out _ _ ?_ (fun hHeld => ?_)
        · (try dsimp only)
          first | exact HS.out _ (T0 _ A2).drew | exact HS.out _ HT4.out | exact HS.out _ (HT4.out.alloc _) | exact HS.out _ HT8.out | exact HS.out _ (HT8.out.put (p := ⟨(w.heap.size + 1), 0, none⟩) (.inl rfl) _) | exact hHeld
        clear hK K
        (try simp only [Act.put, List.getElem_toArray, List.getElem_cons_zero, List.getElem_cons_succ, List.setIfInBounds_toArray, List.set_cons_zero, List.set_cons_succ])
        refine wpAnyH_ready (rs := [7]) (by kernel_rfl) (by simp) ?_
        refine AllReadyH.cons (o := _) rfl (fun K hK => ?_) AllReadyH.nil
        (refine step_append_lies _ (by rfl) _ _ 27 (by rfl) (w.heap.size + 1 + 1) 35 j0 (.agg #[.int .i64 0, .int .i64 0, .int .i64 0]) 3 24 Tryd.underlying27 hjn hjz0 hjz1 hjz2 rfl (by decide) u nl (ptVs l) (by rfl) (HO4.out.alloc _) ⟨_, 0, none⟩ 1 1 [.int .i64 1, .int .i64 fq, .int .i64 ((m : Int) * (H.pg : Int))] (by rfl) rfl (fun jj yy hyy => World.news_of_block (w := w4.alloc (.cells #[.int .i64 1, .int .i64 fq, .int .i64 ((m : Int) * (H.pg : Int))] 35)) (heap_alloc_new w4 _) jj yy (by simpa using hyy)) (by simp [Value.oneCell']) (by omega) (by unfold maxLen; omega) (by omega) (by have := HT4.out.size; have := HAB.out.1; have := HAS.out; simp; omega) _ rfl ?_; intro g cap w8 hown8 hgrow8 hat8 hlt8; have HO8 := hidp hown8; have HAT := hidp hat8; have HT8 := hidp (turns_grown (F := (fun i => i = (w.heap.size + 1) ∨ (u : Value).ownBlock = some i)) (HT4.out.alloc (.cells #[.int .i64 1, .int .i64 fq, .int .i64 ((m : Int) * (H.pg : Int))] 35)) hgrow8 (fun i hi => .inl (.inr hi))); have HG8 := hidp (held_grown (HG4.out.alloc (.cells #[.int .i64 1, .int .i64 fq, .int .i64 ((m : Int) * (H.pg : Int))] 35)) hgrow8 (fun e => by have := (HO.out.lt _ e).1; omega)); clear hown8 hgrow8 hat8 hlt8; obtain ⟨c8, f8⟩ := HG8.out.one)
        refine hK.out _ _ ?_ (fun hHeld => ?_)
        · (try dsimp only)
          first | exact HS.out _ (T0 _ A2).drew | exact HS.out _ HT4.out | exact HS.out _ (HT4.out.alloc _) | exact HS.out _ HT8.out | exact HS.out _ (HT8.out.put (p := ⟨(w.heap.size + 1), 0, none⟩) (.inl rfl) _) | exact hHeld
        clear hK K
        (try simp only [Act.put, List.getElem_toArray, List.getElem_cons_zero, List.getElem_cons_succ, List.setIfInBounds_toArray, List.set_cons_zero, List.set_cons_succ])
        refine wpAnyH_ready (rs := [8]) (by kernel_rfl) (by simp) ?_
        refine AllReadyH.cons (o := _) rfl (fun K hK => ?_) AllReadyH.nil
        go_simp
        skip
        refine hK.out _ _ ?_ (fun hHeld => ?_)
        · (try dsimp only)
          first | exact HS.out _ (T0 _ A2).drew | exact HS.out _ HT4.out | exact HS.out _ (HT4.out.alloc _) | exact HS.out _ HT8.out | exact HS.out _ (HT8.out.put (p := ⟨(w.heap.size + 1), 0, none⟩) (.inl rfl) _) | exact hHeld
        clear hK K
        (try simp only [Act.put, List.getElem_toArray, List.getElem_cons_zero, List.getElem_cons_succ, List.setIfInBounds_toArray, List.set_cons_zero, List.set_cons_succ])
        refine wpAnyH_done (by kernel_rfl) ?_ _
        gi_wp2
        have HT9 := HT8.out.put (p := ⟨(w.heap.size + 1), 0, none⟩) (.inl rfl) (.slice (some ⟨g, 0, none⟩) (nl + 1) cap)
        have hgn : ((w.heap.size + 1 + 1) ≤ g ∧ g ≠ (w.heap.size + 1)) ∧ (u.ownBlock = some g ∨ A.heap.size ≤ g) := by
          have h1 := (HO8.out.lt g rfl).1
          refine ⟨⟨h1, by omega⟩, ?_⟩
          rcases HAT.out with h | h
          · exact .inl h
          · right; have := HT4.out.size; have := HAS.out; simp at h; omega
        refine ⟨HT9, _, ⟨_, rfl, .step HAT0.out HC.out, HT9.held HX0.out (fun h => by rcases h with h | h; (omega); have := (HO.out.lt _ h).1; omega), HG8.out.put1 _, ?_, HT9.below HB.out (fun i hi => by rcases hi with h | h; (omega); have := (HO.out.lt _ h).1; omega)⟩, fun i hi => ?_⟩
        · rw [HCT.out, List.length_append, ptVs_app, HPA.out, ptVs_one, HLN.out]
          exact own_kept HO8.out (fun gg hgg => by
            have hgg : g = gg := by simpa [Value.ownBlock] using hgg
            subst hgg
            exact Below.heap_setCell _ _ _ _ hgn.1.2)
        · rcases hi with hi | hi
          · exact .inl (.inl hi)
          · have hi : g = i := by simpa [Value.ownBlock] using hi
            subst hi
            exact hgn.2.imp .inr id
      · go_simp
        (go_at_call 14; refine (HPG.out 1 _).mono ?_; rintro e w4 ⟨rfl, hb4⟩; have HT4 := hidp ((T0 (fun i => i = (w.heap.size + 1) ∨ (u : Value).ownBlock = some i) A2).drew.trans (Turns.of_below hb4 _)); have HG4 := hidp (HG.out.drew.keep hb4); have HO4 := hidp (own_below (w := A2.drew) HO.out hb4); clear hb4; have c9 := HG4.out.one.1; have c10 := (HG4.out.alloc (.cells #[.int .i64 1, .int .i64 fq, .int .i64 ((m : Int) * (H.pg : Int))] 35)).one.1)
        refine hK.out _ _ ?_ (fun hHeld => ?_)
        · (try dsimp only)
          first | exact HS.out _ (T0 _ A2).drew | exact HS.out _ HT4.out | exact HS.out _ (HT4.out.alloc _) | exact HS.out _ HT8.out | exact HS.out _ (HT8.out.put (p := ⟨(w.heap.size + 1), 0, none⟩) (.inl rfl) _) | exact hHeld
        clear hK K
        (try simp only [Act.put, List.getElem_toArray, List.getElem_cons_zero, List.getElem_cons_succ, List.setIfInBounds_toArray, List.set_cons_zero, List.set_cons_succ])
        refine wpAnyH_ready (rs := [0, 6]) (by kernel_rfl) (by simp) ?_
        refine (AllReadyH.cons (o := _) rfl (fun K hK => ?_) (AllReadyH.cons (o := _) rfl (fun K hK => ?_) AllReadyH.nil))
        · go_simp
          refine hK.out _ _ ?_ (fun hHeld => ?_)
          · (try dsimp only)
            first | exact HS.out _ (T0 _ A2).drew | exact HS.out _ HT4.out | exact HS.out _ (HT4.out.alloc _) | exact HS.out _ HT8.out | exact HS.out _ (HT8.out.put (p := ⟨(w.heap.size + 1), 0, none⟩) (.inl rfl) _) | exact hHeld
          clear hK K
          (try simp only [Act.put, List.getElem_toArray, List.getElem_cons_zero, List.getElem_cons_succ, List.setIfInBounds_toArray, List.set_cons_zero, List.set_cons_succ])
          refine wpAnyH_ready (rs := [6]) (by kernel_rfl) (by simp) ?_
          refine AllReadyH.cons (o := _) rfl (fun K hK => ?_) AllReadyH.nil
          go_simp
          skip
          refine hK.out _ _ ?_ (fun hHeld => ?_)
          · (try dsimp only)
            first | exact HS.out _ (T0 _ A2).drew | exact HS.out _ HT4.out | exact HS.out _ (HT4.out.alloc _) | exact HS.out _ HT8.out | exact HS.out _ (HT8.out.put (p := ⟨(w.heap.size + 1), 0, none⟩) (.inl rfl) _) | exact hHeld
          clear hK K
          (try simp only [Act.put, List.getElem_toArray, List.getElem_cons_zero, List.getElem_cons_succ, List.setIfInBounds_toArray, List.set_cons_zero, List.set_cons_succ])
          refine wpAnyH_ready (rs := [7]) (by kernel_rfl) (by simp) ?_
          refine AllReadyH.cons (o := _) rfl (fun K hK => ?_) AllReadyH.nil
          (refine step_append_lies _ (by rfl) _ _ 27 (by rfl) (w.heap.size + 1 + 1) 35 j0 (.agg #[.int .i64 0, .int .i64 0, .int .i64 0]) 3 24 Tryd.underlying27 hjn hjz0 hjz1 hjz2 rfl (by decide) u nl (ptVs l) (by rfl) (HO4.out.alloc _) ⟨_, 0, none⟩ 1 1 [.int .i64 1, .int .i64 fq, .int .i64 ((m : Int) * (H.pg : Int))] (by rfl) rfl (fun jj yy hyy => World.news_of_block (w := w4.alloc (.cells #[.int .i64 1, .int .i64 fq, .int .i64 ((m : Int) * (H.pg : Int))] 35)) (heap_alloc_new w4 _) jj yy (by simpa using hyy)) (by simp [Value.oneCell']) (by omega) (by unfold maxLen; omega) (by omega) (by have := HT4.out.size; have := HAB.out.1; have := HAS.out; simp; omega) _ rfl ?_; intro g cap w8 hown8 hgrow8 hat8 hlt8; have HO8 := hidp hown8; have HAT := hidp hat8; have HT8 := hidp (turns_grown (F := (fun i => i = (w.heap.size + 1) ∨ (u : Value).ownBlock = some i)) (HT4.out.alloc (.cells #[.int .i64 1, .int .i64 fq, .int .i64 ((m : Int) * (H.pg : Int))] 35)) hgrow8 (fun i hi => .inl (.inr hi))); have HG8 := hidp (held_grown (HG4.out.alloc (.cells #[.int .i64 1, .int .i64 fq, .int .i64 ((m : Int) * (H.pg : Int))] 35)) hgrow8 (fun e => by have := (HO.out.lt _ e).1; omega)); clear hown8 hgrow8 hat8 hlt8; obtain ⟨c8, f8⟩ := HG8.out.one)
          refine hK.out _ _ ?_ (fun hHeld => ?_)
          · (try dsimp only)
            first | exact HS.out _ (T0 _ A2).drew | exact HS.out _ HT4.out | exact HS.out _ (HT4.out.alloc _) | exact HS.out _ HT8.out | exact HS.out _ (HT8.out.put (p := ⟨(w.heap.size + 1), 0, none⟩) (.inl rfl) _) | exact hHeld
          clear hK K
          (try simp only [Act.put, List.getElem_toArray, List.getElem_cons_zero, List.getElem_cons_succ, List.setIfInBounds_toArray, List.set_cons_zero, List.set_cons_succ])
          refine wpAnyH_ready (rs := [8]) (by kernel_rfl) (by simp) ?_
          refine AllReadyH.cons (o := _) rfl (fun K hK => ?_) AllReadyH.nil
          go_simp
          skip
          refine hK.out _ _ ?_ (fun hHeld => ?_)
          · (try dsimp only)
            first | exact HS.out _ (T0 _ A2).drew | exact HS.out _ HT4.out | exact HS.out _ (HT4.out.alloc _) | exact HS.out _ HT8.out | exact HS.out _ (HT8.out.put (p := ⟨(w.heap.size + 1), 0, none⟩) (.inl rfl) _) | exact hHeld
          clear hK K
          (try simp only [Act.put, List.getElem_toArray, List.getElem_cons_zero, List.getElem_cons_succ, List.setIfInBounds_toArray, List.set_cons_zero, List.set_cons_succ])
          refine wpAnyH_done (by kernel_rfl) ?_ _
          gi_wp2
          have HT9 := HT8.out.put (p := ⟨(w.heap.size + 1), 0, none⟩) (.inl rfl) (.slice (some ⟨g, 0, none⟩) (nl + 1) cap)
          have hgn : ((w.heap.size + 1 + 1) ≤ g ∧ g ≠ (w.heap.size + 1)) ∧ (u.ownBlock = some g ∨ A.heap.size ≤ g) := by
            have h1 := (HO8.out.lt g rfl).1
            refine ⟨⟨h1, by omega⟩, ?_⟩
            rcases HAT.out with h | h
            · exact .inl h
            · right; have := HT4.out.size; have := HAS.out; simp at h; omega
          refine ⟨HT9, _, ⟨_, rfl, .step HAT0.out HC.out, HT9.held HX0.out (fun h => by rcases h with h | h; (omega); have := (HO.out.lt _ h).1; omega), HG8.out.put1 _, ?_, HT9.below HB.out (fun i hi => by rcases hi with h | h; (omega); have := (HO.out.lt _ h).1; omega)⟩, fun i hi => ?_⟩
          · rw [HCT.out, List.length_append, ptVs_app, HPA.out, ptVs_one, HLN.out]
            exact own_kept HO8.out (fun gg hgg => by
              have hgg : g = gg := by simpa [Value.ownBlock] using hgg
              subst hgg
              exact Below.heap_setCell _ _ _ _ hgn.1.2)
          · rcases hi with hi | hi
            · exact .inl (.inl hi)
            · have hi : g = i := by simpa [Value.ownBlock] using hi
              subst hi
              exact hgn.2.imp .inr id
        · go_simp
          refine hK.out _ _ ?_ (fun hHeld => ?_)
          · (try dsimp only)
            first | exact HS.out _ (T0 _ A2).drew | exact HS.out _ HT4.out | exact HS.out _ (HT4.out.alloc _) | exact HS.out _ HT8.out | exact HS.out _ (HT8.out.put (p := ⟨(w.heap.size + 1), 0, none⟩) (.inl rfl) _) | exact hHeld
          clear hK K
          (try simp only [Act.put, List.getElem_toArray, List.getElem_cons_zero, List.getElem_cons_succ, List.setIfInBounds_toArray, List.set_cons_zero, List.set_cons_succ])
          refine wpAnyH_ready (rs := [0]) (by kernel_rfl) (by simp) ?_
          refine AllReadyH.cons (o := _) rfl (fun K hK => ?_) AllReadyH.nil
          go_simp
          skip
          refine hK.out _ _ ?_ (fun hHeld => ?_)
          · (try dsimp only)
            first | exact HS.out _ (T0 _ A2).drew | exact HS.out _ HT4.out | exact HS.out _ (HT4.out.alloc _) | exact HS.out _ HT8.out | exact HS.out _ (HT8.out.put (p := ⟨(w.heap.size + 1), 0, none⟩) (.inl rfl) _) | exact hHeld
          clear hK K
          (try simp only [Act.put, List.getElem_toArray, List.getElem_cons_zero, List.getElem_cons_succ, List.setIfInBounds_toArray, List.set_cons_zero, List.set_cons_succ])
          refine wpAnyH_ready (rs := [7]) (by kernel_rfl) (by simp) ?_
          refine AllReadyH.cons (o := _) rfl (fun K hK => ?_) AllReadyH.nil
          (refine step_append_lies _ (by rfl) _ _ 27 (by rfl) (w.heap.size + 1 + 1) 35 j0 (.agg #[.int .i64 0, .int .i64 0, .int .i64 0]) 3 24 Tryd.underlying27 hjn hjz0 hjz1 hjz2 rfl (by decide) u nl (ptVs l) (by rfl) (HO4.out.alloc _) ⟨_, 0, none⟩ 1 1 [.int .i64 1, .int .i64 fq, .int .i64 ((m : Int) * (H.pg : Int))] (by rfl) rfl (fun jj yy hyy => World.news_of_block (w := w4.alloc (.cells #[.int .i64 1, .int .i64 fq, .int .i64 ((m : Int) * (H.pg : Int))] 35)) (heap_alloc_new w4 _) jj yy (by simpa using hyy)) (by simp [Value.oneCell']) (by omega) (by unfold maxLen; omega) (by omega) (by have := HT4.out.size; have := HAB.out.1; have := HAS.out; simp; omega) _ rfl ?_; intro g cap w8 hown8 hgrow8 hat8 hlt8; have HO8 := hidp hown8; have HAT := hidp hat8; have HT8 := hidp (turns_grown (F := (fun i => i = (w.heap.size + 1) ∨ (u : Value).ownBlock = some i)) (HT4.out.alloc (.cells #[.int .i64 1, .int .i64 fq, .int .i64 ((m : Int) * (H.pg : Int))] 35)) hgrow8 (fun i hi => .inl (.inr hi))); have HG8 := hidp (held_grown (HG4.out.alloc (.cells #[.int .i64 1, .int .i64 fq, .int .i64 ((m : Int) * (H.pg : Int))] 35)) hgrow8 (fun e => by have := (HO.out.lt _ e).1; omega)); clear hown8 hgrow8 hat8 hlt8; obtain ⟨c8, f8⟩ := HG8.out.one)
          refine hK.out _ _ ?_ (fun hHeld => ?_)
          · (try dsimp only)
            first | exact HS.out _ (T0 _ A2).drew | exact HS.out _ HT4.out | exact HS.out _ (HT4.out.alloc _) | exact HS.out _ HT8.out | exact HS.out _ (HT8.out.put (p := ⟨(w.heap.size + 1), 0, none⟩) (.inl rfl) _) | exact hHeld
          clear hK K
          (try simp only [Act.put, List.getElem_toArray, List.getElem_cons_zero, List.getElem_cons_succ, List.setIfInBounds_toArray, List.set_cons_zero, List.set_cons_succ])
          refine wpAnyH_ready (rs := [8]) (by kernel_rfl) (by simp) ?_
          refine AllReadyH.cons (o := _) rfl (fun K hK => ?_) AllReadyH.nil
          go_simp
          skip
          refine hK.out _ _ ?_ (fun hHeld => ?_)
          · (try dsimp only)
            first | exact HS.out _ (T0 _ A2).drew | exact HS.out _ HT4.out | exact HS.out _ (HT4.out.alloc _) | exact HS.out _ HT8.out | exact HS.out _ (HT8.out.put (p := ⟨(w.heap.size + 1), 0, none⟩) (.inl rfl) _) | exact hHeld
          clear hK K
          (try simp only [Act.put, List.getElem_toArray, List.getElem_cons_zero, List.getElem_cons_succ, List.setIfInBounds_toArray, List.set_cons_zero, List.set_cons_succ])
          refine wpAnyH_done (by kernel_rfl) ?_ _
          gi_wp2
          have HT9 := HT8.out.put (p := ⟨(w.heap.size + 1), 0, none⟩) (.inl rfl) (.slice (some ⟨g, 0, none⟩) (nl + 1) cap)
          have hgn : ((w.heap.size + 1 + 1) ≤ g ∧ g ≠ (w.heap.size + 1)) ∧ (u.ownBlock = some g ∨ A.heap.size ≤ g) := by
            have h1 := (HO8.out.lt g rfl).1
            refine ⟨⟨h1, by omega⟩, ?_⟩
            rcases HAT.out with h | h
            · exact .inl h
            · right; have := HT4.out.size; have := HAS.out; simp at h; omega
          refine ⟨HT9, _, ⟨_, rfl, .step HAT0.out HC.out, HT9.held HX0.out (fun h => by rcases h with h | h; (omega); have := (HO.out.lt _ h).1; omega), HG8.out.put1 _, ?_, HT9.below HB.out (fun i hi => by rcases hi with h | h; (omega); have := (HO.out.lt _ h).1; omega)⟩, fun i hi => ?_⟩
          · rw [HCT.out, List.length_append, ptVs_app, HPA.out, ptVs_one, HLN.out]
            exact own_kept HO8.out (fun gg hgg => by
              have hgg : g = gg := by simpa [Value.ownBlock] using hgg
              subst hgg
              exact Below.heap_setCell _ _ _ _ hgn.1.2)
          · rcases hi with hi | hi
            · exact .inl (.inl hi)
            · have hi : g = i := by simpa [Value.ownBlock] using hi
              subst hi
              exact hgn.2.imp .inr id
    · subst hk
      have HPA := hidp (hp2 rfl)
      clear hp1 hp2 hk0 HAS2
      gi_wp2_with fail
      refine wp_region_round (S := (fun w' => w'.cell? ⟨w.heap.size, 0, none⟩ = some (.int .i64 (H.t : Int)) ∧ w'.cell? ⟨w.heap.size, 1, none⟩ = some (.int .i64 (H.p : Int)) ∧ w'.cell? ⟨w.heap.size, 2, none⟩ = some (.int .i64 (H.s : Int)) ∧ w'.cell? ⟨w.heap.size, 3, none⟩ = some (.slice (some ad) n c) ∧ w'.cell? ⟨A.heap.size, 0, none⟩ = some (.int .i64 2) ∧ w'.cell? ⟨A.heap.size, 1, none⟩ = some (.int .i64 (m : Int)) ∧ w'.cell? ⟨A.heap.size, 2, none⟩ = some (.int .i64 cl))) (by kernel_rfl) (by kernel_rfl) (fun _ _ h => h) ?_ (fun hHeld => ?_)
      · (try dsimp only)
        first | exact HS.out _ (T0 _ A2).drew | exact HS.out _ HT4.out | exact HS.out _ (HT4.out.alloc _) | exact HS.out _ HT8.out | exact HS.out _ (HT8.out.put (p := ⟨(w.heap.size + 1), 0, none⟩) (.inl rfl) _) | exact hHeld
      refine wpAnyH_take (i := 1) (oi := _) (v := ?_) rfl (by kernel_rfl) (by kernel_rfl) (by kernel_rfl) (fun _ _ _ h => h) (Or.inl ⟨by rfl, ?_⟩) (by assumption) ?_
      rotate_left
      · intro w hSw; (try dsimp only at hSw); go_simp; (try with_reducible rfl)
      (try simp only [Act.put, List.getElem_toArray, List.getElem_cons_zero, List.getElem_cons_succ, List.setIfInBounds_toArray, List.set_cons_zero, List.set_cons_succ])
      refine wpAnyH_take (i := 2) (oi := _) (v := ?_) rfl (by kernel_rfl) (by kernel_rfl) (by kernel_rfl) (fun _ _ _ h => h) (Or.inl ⟨by rfl, ?_⟩) (by assumption) ?_
      rotate_left
      · intro w hSw; (try dsimp only at hSw); go_simp; (try with_reducible rfl)
      (try simp only [Act.put, List.getElem_toArray, List.getElem_cons_zero, List.getElem_cons_succ, List.setIfInBounds_toArray, List.set_cons_zero, List.set_cons_succ])
      refine wpAnyH_take (i := 3) (oi := _) (v := ?_) rfl (by kernel_rfl) (by kernel_rfl) (by kernel_rfl) (fun _ _ _ h => h) (Or.inl ⟨by rfl, ?_⟩) (by assumption) ?_
      rotate_left
      · intro w hSw; (try dsimp only at hSw); go_simp; (try with_reducible rfl)
      (try simp only [Act.put, List.getElem_toArray, List.getElem_cons_zero, List.getElem_cons_succ, List.setIfInBounds_toArray, List.set_cons_zero, List.set_cons_succ])
      refine wpAnyH_take (i := 4) (oi := _) (v := ?_) rfl (by kernel_rfl) (by kernel_rfl) (by kernel_rfl) (fun _ _ _ h => h) (Or.inl ⟨by rfl, ?_⟩) (by assumption) ?_
      rotate_left
      · intro w hSw; (try dsimp only at hSw); go_simp; (try with_reducible rfl)
      (try simp only [Act.put, List.getElem_toArray, List.getElem_cons_zero, List.getElem_cons_succ, List.setIfInBounds_toArray, List.set_cons_zero, List.set_cons_succ])
      refine wpAnyH_ready (rs := [0, 5]) (by kernel_rfl) (by simp) ?_
      refine (AllReadyH.cons (o := _) rfl (fun K hK => ?_) (AllReadyH.cons (o := _) rfl (fun K hK => ?_) AllReadyH.nil))
      · go_simp
        refine hK.out _ _ ?_ (fun hHeld => ?_)
        · (try dsimp only)
          first | exact HS.out _ (T0 _ A2).drew | exact HS.out _ HT4.out | exact HS.out _ (HT4.out.alloc _) | exact HS.out _ HT8.out | exact HS.out _ (HT8.out.put (p := ⟨(w.heap.size + 1), 0, none⟩) (.inl rfl) _) | exact hHeld
        clear hK K
        (try simp only [Act.put, List.getElem_toArray, List.getElem_cons_zero, List.getElem_cons_succ, List.setIfInBounds_toArray, List.set_cons_zero, List.set_cons_succ])
        refine wpAnyH_ready (rs := [5]) (by kernel_rfl) (by simp) ?_
        refine AllReadyH.cons (o := _) rfl (fun K hK => ?_) AllReadyH.nil
        go_simp
        (go_at_call 14; refine (HPG.out 2 _).mono ?_; rintro e w4 ⟨rfl, hb4⟩; have HT4 := hidp ((T0 (fun i => i = (w.heap.size + 1) ∨ (u : Value).ownBlock = some i) A2).drew.trans (Turns.of_below hb4 _)); have HG4 := hidp (HG.out.drew.keep hb4); have HO4 := hidp (own_below (w := A2.drew) HO.out hb4); clear hb4; have c9 := HG4.out.one.1; have c10 := (HG4.out.alloc (.cells #[.int .i64 2, .int .i64 fq, .int .i64 ((m : Int) * (H.pg : Int))] 35)).one.1)
        refine hK.out _ _ ?_ (fun hHeld => ?_)
        · (try dsimp only)
          first | exact HS.out _ (T0 _ A2).drew | exact HS.out _ HT4.out | exact HS.out _ (HT4.out.alloc _) | exact HS.out _ HT8.out | exact HS.out _ (HT8.out.put (p := ⟨(w.heap.size + 1), 0, none⟩) (.inl rfl) _) | exact hHeld
        clear hK K
        (try simp only [Act.put, List.getElem_toArray, List.getElem_cons_zero, List.getElem_cons_succ, List.setIfInBounds_toArray, List.set_cons_zero, List.set_cons_succ])
        refine wpAnyH_ready (rs := [6]) (by kernel_rfl) (by simp) ?_
        refine AllReadyH.cons (o := _) rfl (fun K hK => ?_) AllReadyH.nil
        go_simp
        skip
        refine hK.out _ _ ?_ (fun hHeld => ?_)
        · (try dsimp only)
          first | exact HS.out _ (T0 _ A2).drew | exact HS.out _ HT4.out | exact HS.out _ (HT4.out.alloc _) | exact HS.out _ HT8.out | exact HS.out _ (HT8.out.put (p := ⟨(w.heap.size + 1), 0, none⟩) (.inl rfl) _) | exact hHeld
        clear hK K
        (try simp only [Act.put, List.getElem_toArray, List.getElem_cons_zero, List.getElem_cons_succ, List.setIfInBounds_toArray, List.set_cons_zero, List.set_cons_succ])
        refine wpAnyH_ready (rs := [7]) (by kernel_rfl) (by simp) ?_
        refine AllReadyH.cons (o := _) rfl (fun K hK => ?_) AllReadyH.nil
        (refine step_append_lies _ (by rfl) _ _ 27 (by rfl) (w.heap.size + 1 + 1) 35 j0 (.agg #[.int .i64 0, .int .i64 0, .int .i64 0]) 3 24 Tryd.underlying27 hjn hjz0 hjz1 hjz2 rfl (by decide) u nl (ptVs l) (by rfl) (HO4.out.alloc _) ⟨_, 0, none⟩ 1 1 [.int .i64 2, .int .i64 fq, .int .i64 ((m : Int) * (H.pg : Int))] (by rfl) rfl (fun jj yy hyy => World.news_of_block (w := w4.alloc (.cells #[.int .i64 2, .int .i64 fq, .int .i64 ((m : Int) * (H.pg : Int))] 35)) (heap_alloc_new w4 _) jj yy (by simpa using hyy)) (by simp [Value.oneCell']) (by omega) (by unfold maxLen; omega) (by omega) (by have := HT4.out.size; have := HAB.out.1; have := HAS.out; simp; omega) _ rfl ?_; intro g cap w8 hown8 hgrow8 hat8 hlt8; have HO8 := hidp hown8; have HAT := hidp hat8; have HT8 := hidp (turns_grown (F := (fun i => i = (w.heap.size + 1) ∨ (u : Value).ownBlock = some i)) (HT4.out.alloc (.cells #[.int .i64 2, .int .i64 fq, .int .i64 ((m : Int) * (H.pg : Int))] 35)) hgrow8 (fun i hi => .inl (.inr hi))); have HG8 := hidp (held_grown (HG4.out.alloc (.cells #[.int .i64 2, .int .i64 fq, .int .i64 ((m : Int) * (H.pg : Int))] 35)) hgrow8 (fun e => by have := (HO.out.lt _ e).1; omega)); clear hown8 hgrow8 hat8 hlt8; obtain ⟨c8, f8⟩ := HG8.out.one)
        refine hK.out _ _ ?_ (fun hHeld => ?_)
        · (try dsimp only)
          first | exact HS.out _ (T0 _ A2).drew | exact HS.out _ HT4.out | exact HS.out _ (HT4.out.alloc _) | exact HS.out _ HT8.out | exact HS.out _ (HT8.out.put (p := ⟨(w.heap.size + 1), 0, none⟩) (.inl rfl) _) | exact hHeld
        clear hK K
        (try simp only [Act.put, List.getElem_toArray, List.getElem_cons_zero, List.getElem_cons_succ, List.setIfInBounds_toArray, List.set_cons_zero, List.set_cons_succ])
        refine wpAnyH_ready (rs := [8]) (by kernel_rfl) (by simp) ?_
        refine AllReadyH.cons (o := _) rfl (fun K hK => ?_) AllReadyH.nil
        go_simp
        skip
        refine hK.out _ _ ?_ (fun hHeld => ?_)
        · (try dsimp only)
          first | exact HS.out _ (T0 _ A2).drew | exact HS.out _ HT4.out | exact HS.out _ (HT4.out.alloc _) | exact HS.out _ HT8.out | exact HS.out _ (HT8.out.put (p := ⟨(w.heap.size + 1), 0, none⟩) (.inl rfl) _) | exact hHeld
        clear hK K
        (try simp only [Act.put, List.getElem_toArray, List.getElem_cons_zero, List.getElem_cons_succ, List.setIfInBounds_toArray, List.set_cons_zero, List.set_cons_succ])
        refine wpAnyH_done (by kernel_rfl) ?_ _
        gi_wp2
        have HT9 := HT8.out.put (p := ⟨(w.heap.size + 1), 0, none⟩) (.inl rfl) (.slice (some ⟨g, 0, none⟩) (nl + 1) cap)
        have hgn : ((w.heap.size + 1 + 1) ≤ g ∧ g ≠ (w.heap.size + 1)) ∧ (u.ownBlock = some g ∨ A.heap.size ≤ g) := by
          have h1 := (HO8.out.lt g rfl).1
          refine ⟨⟨h1, by omega⟩, ?_⟩
          rcases HAT.out with h | h
          · exact .inl h
          · right; have := HT4.out.size; have := HAS.out; simp at h; omega
        refine ⟨HT9, _, ⟨_, rfl, .step HAT0.out HC.out, HT9.held HX0.out (fun h => by rcases h with h | h; (omega); have := (HO.out.lt _ h).1; omega), HG8.out.put1 _, ?_, HT9.below HB.out (fun i hi => by rcases hi with h | h; (omega); have := (HO.out.lt _ h).1; omega)⟩, fun i hi => ?_⟩
        · rw [HCT.out, List.length_append, ptVs_app, HPA.out, ptVs_one, HLN.out]
          exact own_kept HO8.out (fun gg hgg => by
            have hgg : g = gg := by simpa [Value.ownBlock] using hgg
            subst hgg
            exact Below.heap_setCell _ _ _ _ hgn.1.2)
        · rcases hi with hi | hi
          · exact .inl (.inl hi)
          · have hi : g = i := by simpa [Value.ownBlock] using hi
            subst hi
            exact hgn.2.imp .inr id
      · go_simp
        (go_at_call 14; refine (HPG.out 2 _).mono ?_; rintro e w4 ⟨rfl, hb4⟩; have HT4 := hidp ((T0 (fun i => i = (w.heap.size + 1) ∨ (u : Value).ownBlock = some i) A2).drew.trans (Turns.of_below hb4 _)); have HG4 := hidp (HG.out.drew.keep hb4); have HO4 := hidp (own_below (w := A2.drew) HO.out hb4); clear hb4; have c9 := HG4.out.one.1; have c10 := (HG4.out.alloc (.cells #[.int .i64 2, .int .i64 fq, .int .i64 ((m : Int) * (H.pg : Int))] 35)).one.1)
        refine hK.out _ _ ?_ (fun hHeld => ?_)
        · (try dsimp only)
          first | exact HS.out _ (T0 _ A2).drew | exact HS.out _ HT4.out | exact HS.out _ (HT4.out.alloc _) | exact HS.out _ HT8.out | exact HS.out _ (HT8.out.put (p := ⟨(w.heap.size + 1), 0, none⟩) (.inl rfl) _) | exact hHeld
        clear hK K
        (try simp only [Act.put, List.getElem_toArray, List.getElem_cons_zero, List.getElem_cons_succ, List.setIfInBounds_toArray, List.set_cons_zero, List.set_cons_succ])
        refine wpAnyH_ready (rs := [0, 6]) (by kernel_rfl) (by simp) ?_
        refine (AllReadyH.cons (o := _) rfl (fun K hK => ?_) (AllReadyH.cons (o := _) rfl (fun K hK => ?_) AllReadyH.nil))
        · go_simp
          refine hK.out _ _ ?_ (fun hHeld => ?_)
          · (try dsimp only)
            first | exact HS.out _ (T0 _ A2).drew | exact HS.out _ HT4.out | exact HS.out _ (HT4.out.alloc _) | exact HS.out _ HT8.out | exact HS.out _ (HT8.out.put (p := ⟨(w.heap.size + 1), 0, none⟩) (.inl rfl) _) | exact hHeld
          clear hK K
          (try simp only [Act.put, List.getElem_toArray, List.getElem_cons_zero, List.getElem_cons_succ, List.setIfInBounds_toArray, List.set_cons_zero, List.set_cons_succ])
          refine wpAnyH_ready (rs := [6]) (by kernel_rfl) (by simp) ?_
          refine AllReadyH.cons (o := _) rfl (fun K hK => ?_) AllReadyH.nil
          go_simp
          skip
          refine hK.out _ _ ?_ (fun hHeld => ?_)
          · (try dsimp only)
            first | exact HS.out _ (T0 _ A2).drew | exact HS.out _ HT4.out | exact HS.out _ (HT4.out.alloc _) | exact HS.out _ HT8.out | exact HS.out _ (HT8.out.put (p := ⟨(w.heap.size + 1), 0, none⟩) (.inl rfl) _) | exact hHeld
          clear hK K
          (try simp only [Act.put, List.getElem_toArray, List.getElem_cons_zero, List.getElem_cons_succ, List.setIfInBounds_toArray, List.set_cons_zero, List.set_cons_succ])
          refine wpAnyH_ready (rs := [7]) (by kernel_rfl) (by simp) ?_
          refine AllReadyH.cons (o := _) rfl (fun K hK => ?_) AllReadyH.nil
          (refine step_append_lies _ (by rfl) _ _ 27 (by rfl) (w.heap.size + 1 + 1) 35 j0 (.agg #[.int .i64 0, .int .i64 0, .int .i64 0]) 3 24 Tryd.underlying27 hjn hjz0 hjz1 hjz2 rfl (by decide) u nl (ptVs l) (by rfl) (HO4.out.alloc _) ⟨_, 0, none⟩ 1 1 [.int .i64 2, .int .i64 fq, .int .i64 ((m : Int) * (H.pg : Int))] (by rfl) rfl (fun jj yy hyy => World.news_of_block (w := w4.alloc (.cells #[.int .i64 2, .int .i64 fq, .int .i64 ((m : Int) * (H.pg : Int))] 35)) (heap_alloc_new w4 _) jj yy (by simpa using hyy)) (by simp [Value.oneCell']) (by omega) (by unfold maxLen; omega) (by omega) (by have := HT4.out.size; have := HAB.out.1; have := HAS.out; simp; omega) _ rfl ?_; intro g cap w8 hown8 hgrow8 hat8 hlt8; have HO8 := hidp hown8; have HAT := hidp hat8; have HT8 := hidp (turns_grown (F := (fun i => i = (w.heap.size + 1) ∨ (u : Value).ownBlock = some i)) (HT4.out.alloc (.cells #[.int .i64 2, .int .i64 fq, .int .i64 ((m : Int) * (H.pg : Int))] 35)) hgrow8 (fun i hi => .inl (.inr hi))); have HG8 := hidp (held_grown (HG4.out.alloc (.cells #[.int .i64 2, .int .i64 fq, .int .i64 ((m : Int) * (H.pg : Int))] 35)) hgrow8 (fun e => by have := (HO.out.lt _ e).1; omega)); clear hown8 hgrow8 hat8 hlt8; obtain ⟨c8, f8⟩ := HG8.out.one)
          refine hK.out _ _ ?_ (fun hHeld => ?_)
          · (try dsimp only)
            first | exact HS.out _ (T0 _ A2).drew | exact HS.out _ HT4.out | exact HS.out _ (HT4.out.alloc _) | exact HS.out _ HT8.out | exact HS.out _ (HT8.out.put (p := ⟨(w.heap.size + 1), 0, none⟩) (.inl rfl) _) | exact hHeld
          clear hK K
          (try simp only [Act.put, List.getElem_toArray, List.getElem_cons_zero, List.getElem_cons_succ, List.setIfInBounds_toArray, List.set_cons_zero, List.set_cons_succ])
          refine wpAnyH_ready (rs := [8]) (by kernel_rfl) (by simp) ?_
          refine AllReadyH.cons (o := _) rfl (fun K hK => ?_) AllReadyH.nil
          go_simp
          skip
          refine hK.out _ _ ?_ (fun hHeld => ?_)
          · (try dsimp only)
            first | exact HS.out _ (T0 _ A2).drew | exact HS.out _ HT4.out | exact HS.out _ (HT4.out.alloc _) | exact HS.out _ HT8.out | exact HS.out _ (HT8.out.put (p := ⟨(w.heap.size + 1), 0, none⟩) (.inl rfl) _) | exact hHeld
          clear hK K
          (try simp only [Act.put, List.getElem_toArray, List.getElem_cons_zero, List.getElem_cons_succ, List.setIfInBounds_toArray, List.set_cons_zero, List.set_cons_succ])
          refine wpAnyH_done (by kernel_rfl) ?_ _
          gi_wp2
          have HT9 := HT8.out.put (p := ⟨(w.heap.size + 1), 0, none⟩) (.inl rfl) (.slice (some ⟨g, 0, none⟩) (nl + 1) cap)
          have hgn : ((w.heap.size + 1 + 1) ≤ g ∧ g ≠ (w.heap.size + 1)) ∧ (u.ownBlock = some g ∨ A.heap.size ≤ g) := by
            have h1 := (HO8.out.lt g rfl).1
            refine ⟨⟨h1, by omega⟩, ?_⟩
            rcases HAT.out with h | h
            · exact .inl h
            · right; have := HT4.out.size; have := HAS.out; simp at h; omega
          refine ⟨HT9, _, ⟨_, rfl, .step HAT0.out HC.out, HT9.held HX0.out (fun h => by rcases h with h | h; (omega); have := (HO.out.lt _ h).1; omega), HG8.out.put1 _, ?_, HT9.below HB.out (fun i hi => by rcases hi with h | h; (omega); have := (HO.out.lt _ h).1; omega)⟩, fun i hi => ?_⟩
          · rw [HCT.out, List.length_append, ptVs_app, HPA.out, ptVs_one, HLN.out]
            exact own_kept HO8.out (fun gg hgg => by
              have hgg : g = gg := by simpa [Value.ownBlock] using hgg
              subst hgg
              exact Below.heap_setCell _ _ _ _ hgn.1.2)
          · rcases hi with hi | hi
            · exact .inl (.inl hi)
            · have hi : g = i := by simpa [Value.ownBlock] using hi
              subst hi
              exact hgn.2.imp .inr id
        · go_simp
          refine hK.out _ _ ?_ (fun hHeld => ?_)
          · (try dsimp only)
            first | exact HS.out _ (T0 _ A2).drew | exact HS.out _ HT4.out | exact HS.out _ (HT4.out.alloc _) | exact HS.out _ HT8.out | exact HS.out _ (HT8.out.put (p := ⟨(w.heap.size + 1), 0, none⟩) (.inl rfl) _) | exact hHeld
          clear hK K
          (try simp only [Act.put, List.getElem_toArray, List.getElem_cons_zero, List.getElem_cons_succ, List.setIfInBounds_toArray, List.set_cons_zero, List.set_cons_succ])
          refine wpAnyH_ready (rs := [0]) (by kernel_rfl) (by simp) ?_
          refine AllReadyH.cons (o := _) rfl (fun K hK => ?_) AllReadyH.nil
          go_simp
          skip
          refine hK.out _ _ ?_ (fun hHeld => ?_)
          · (try dsimp only)
            first | exact HS.out _ (T0 _ A2).drew | exact HS.out _ HT4.out | exact HS.out _ (HT4.out.alloc _) | exact HS.out _ HT8.out | exact HS.out _ (HT8.out.put (p := ⟨(w.heap.size + 1), 0, none⟩) (.inl rfl) _) | exact hHeld
          clear hK K
          (try simp only [Act.put, List.getElem_toArray, List.getElem_cons_zero, List.getElem_cons_succ, List.setIfInBounds_toArray, List.set_cons_zero, List.set_cons_succ])
          refine wpAnyH_ready (rs := [7]) (by kernel_rfl) (by simp) ?_
          refine AllReadyH.cons (o := _) rfl (fun K hK => ?_) AllReadyH.nil
          (refine step_append_lies _ (by rfl) _ _ 27 (by rfl) (w.heap.size + 1 + 1) 35 j0 (.agg #[.int .i64 0, .int .i64 0, .int .i64 0]) 3 24 Tryd.underlying27 hjn hjz0 hjz1 hjz2 rfl (by decide) u nl (ptVs l) (by rfl) (HO4.out.alloc _) ⟨_, 0, none⟩ 1 1 [.int .i64 2, .int .i64 fq, .int .i64 ((m : Int) * (H.pg : Int))] (by rfl) rfl (fun jj yy hyy => World.news_of_block (w := w4.alloc (.cells #[.int .i64 2, .int .i64 fq, .int .i64 ((m : Int) * (H.pg : Int))] 35)) (heap_alloc_new w4 _) jj yy (by simpa using hyy)) (by simp [Value.oneCell']) (by omega) (by unfold maxLen; omega) (by omega) (by have := HT4.out.size; have := HAB.out.1; have := HAS.out; simp; omega) _ rfl ?_; intro g cap w8 hown8 hgrow8 hat8 hlt8; have HO8 := hidp hown8; have HAT := hidp hat8; have HT8 := hidp (turns_grown (F := (fun i => i = (w.heap.size + 1) ∨ (u : Value).ownBlock = some i)) (HT4.out.alloc (.cells #[.int .i64 2, .int .i64 fq, .int .i64 ((m : Int) * (H.pg : Int))] 35)) hgrow8 (fun i hi => .inl (.inr hi))); have HG8 := hidp (held_grown (HG4.out.alloc (.cells #[.int .i64 2, .int .i64 fq, .int .i64 ((m : Int) * (H.pg : Int))] 35)) hgrow8 (fun e => by have := (HO.out.lt _ e).1; omega)); clear hown8 hgrow8 hat8 hlt8; obtain ⟨c8, f8⟩ := HG8.out.one)
          refine hK.out _ _ ?_ (fun hHeld => ?_)
          · (try dsimp only)
            first | exact HS.out _ (T0 _ A2).drew | exact HS.out _ HT4.out | exact HS.out _ (HT4.out.alloc _) | exact HS.out _ HT8.out | exact HS.out _ (HT8.out.put (p := ⟨(w.heap.size + 1), 0, none⟩) (.inl rfl) _) | exact hHeld
          clear hK K
          (try simp only [Act.put, List.getElem_toArray, List.getElem_cons_zero, List.getElem_cons_succ, List.setIfInBounds_toArray, List.set_cons_zero, List.set_cons_succ])
          refine wpAnyH_ready (rs := [8]) (by kernel_rfl) (by simp) ?_
          refine AllReadyH.cons (o := _) rfl (fun K hK => ?_) AllReadyH.nil
          go_simp
          skip
          refine hK.out _ _ ?_ (fun hHeld => ?_)
          · (try dsimp only)
            first | exact HS.out _ (T0 _ A2).drew | exact HS.out _ HT4.out | exact HS.out _ (HT4.out.alloc _) | exact HS.out _ HT8.out | exact HS.out _ (HT8.out.put (p := ⟨(w.heap.size + 1), 0, none⟩) (.inl rfl) _) | exact hHeld
          clear hK K
          (try simp only [Act.put, List.getElem_toArray, List.getElem_cons_zero, List.getElem_cons_succ, List.setIfInBounds_toArray, List.set_cons_zero, List.set_cons_succ])
          refine wpAnyH_done (by kernel_rfl) ?_ _
          gi_wp2
          have HT9 := HT8.out.put (p := ⟨(w.heap.size + 1), 0, none⟩) (.inl rfl) (.slice (some ⟨g, 0, none⟩) (nl + 1) cap)
          have hgn : ((w.heap.size + 1 + 1) ≤ g ∧ g ≠ (w.heap.size + 1)) ∧ (u.ownBlock = some g ∨ A.heap.size ≤ g) := by
            have h1 := (HO8.out.lt g rfl).1
            refine ⟨⟨h1, by omega⟩, ?_⟩
            rcases HAT.out with h | h
            · exact .inl h
            · right; have := HT4.out.size; have := HAS.out; simp at h; omega
          refine ⟨HT9, _, ⟨_, rfl, .step HAT0.out HC.out, HT9.held HX0.out (fun h => by rcases h with h | h; (omega); have := (HO.out.lt _ h).1; omega), HG8.out.put1 _, ?_, HT9.below HB.out (fun i hi => by rcases hi with h | h; (omega); have := (HO.out.lt _ h).1; omega)⟩, fun i hi => ?_⟩
          · rw [HCT.out, List.length_append, ptVs_app, HPA.out, ptVs_one, HLN.out]
            exact own_kept HO8.out (fun gg hgg => by
              have hgg : g = gg := by simpa [Value.ownBlock] using hgg
              subst hgg
              exact Below.heap_setCell _ _ _ _ hgn.1.2)
          · rcases hi with hi | hi
            · exact .inl (.inl hi)
            · have hi : g = i := by simpa [Value.ownBlock] using hi
              subst hi
              exact hgn.2.imp .inr id
    · subst hk
      have HAD := hidp (HAS2.out rfl)
      clear hp1 hp2 hk0 HAS2 HPG
      gi_wp2_with (first
        | (refine ⟨trivial, rfl, ?_⟩; gi_at_call 15; refine (calls_in (HAD.out _ HVR.out HTLR.out (by have := HAS.out; have := HAB.out.1; omega) HO.out)).mono ?_; rintro e w4 ⟨u2, rfl, hown4, hturn4, hat4⟩; obtain ⟨Au, cu, rfl⟩ := own_slice hown4; obtain ⟨lq, hlq⟩ : ∃ lq, (l ++ H.partsAt pos).length = lq := ⟨_, rfl⟩; have HLQ := hidp hlq; rw [hlq] at hown4 hat4 ⊢; clear hlq; have HO4 := hidp hown4; have HT4 := hidp (hturn4.more (G := (fun i => i = (w.heap.size + 1) ∨ (u : Value).ownBlock = some i)) (fun i hi => .inr hi)); have HAT4 := hidp hat4; have HG4 := hidp (hturn4.held HG.out (fun h => by have := (HO.out.lt _ h).1; omega)); clear hown4 hturn4 hat4; obtain ⟨c8, f8⟩ := HG4.out.one)
        | fail)
      have HT9 := HT4.out.put (p := ⟨(w.heap.size + 1), 0, none⟩) (.inl rfl) (.slice Au lq cu)
      refine ⟨HT9, _, ⟨_, rfl, .step HAT0.out HC.out, HT9.held HX0.out (fun h => by rcases h with h | h; (omega); have := (HO.out.lt _ h).1; omega), HG4.out.put1 _, ?_, HT9.below HB.out (fun i hi => by rcases hi with h | h; (omega); have := (HO.out.lt _ h).1; omega)⟩, fun i hi => ?_⟩
      · rw [HCT.out, HLQ.out]
        exact own_kept HO4.out (fun gg hgg => Below.heap_setCell _ _ _ _ (by have := (HO4.out.lt _ hgg).1; simp; omega))
      · rcases hi with hi | hi
        · exact .inl (.inl hi)
        · exact (HAT4.out i hi).imp .inr (fun h => by have := HAS.out; omega)
  case done =>
    rintro D pos F A hD hc ⟨u, rfl, hat, x0, x1, x2, hB⟩ hk
    have HDN : Hid (w.heap.size ≤ D) := hidp (Nat.le_trans HBW.out.size hD)
    have hpe : pos = H.p := by
      rw [ht.can_eq hat] at hc
      have := hat.le
      have := of_decide_eq_false hc
      omega
    subst hpe
    have HK := hidp hk
    have HB := hidp hB
    have HO := hidp x2
    have c0 := x1.one.1
    clear hk x0 x1 x2 hB hD hat hc
    go_wp2_with fail
    refine mark_end rfl HK.out ?_
    refine bodyPost_ret (results_tmp rfl _ _ _) rfl ?_
    exact ⟨u, rfl, own_down ((Mild.put (D := 0) _ (Nat.zero_le _) HK.out rfl).own HO.out) (by omega), shutB HB.out HK.out rfl HDN.out⟩
  case stop =>
    rintro D c A hD h hk
    exact h.elim
end
end Go.Proofs.YtbaofpdjfoaiiaaDoor
