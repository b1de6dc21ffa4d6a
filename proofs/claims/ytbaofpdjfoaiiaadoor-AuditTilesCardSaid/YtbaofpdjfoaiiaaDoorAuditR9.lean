/-
  Rule 9: how many pages are free, and how many blocks live. Written by audit/gen_r9.py.
-/
import Derived.Test.YtbaofpdjfoaiiaaDoorAuditR5
namespace Go.Proofs.YtbaofpdjfoaiiaaDoor
open Go.ChangeShapes Go.WideShapes Go.ChangeAt Go.RowKit Go.Shelf
set_option linter.unusedVariables false
set_option linter.unusedSimpArgs false

namespace AuH
variable (H : AuH)
def freeF (q : Nat) : Nat := if H.K q = 1 then H.ln q else 0
def liveF (q : Nat) : Nat := if H.K q = 2 then 1 else if H.K q = 3 then HM.onesTo (H.cel q 4) 32 else 0
/-- rule 9 -/
def R9 : Prop := H.V 0 = sumTo H.freeF H.p % 4294967296 ∧ H.V 1 = sumTo H.liveF H.p % 4294967296
variable {H}
theorem freeF_no {q : Nat} (h : H.K q = 0) : H.freeF q = 0 := by unfold freeF; rw [if_neg (by omega)]
theorem liveF_no {q : Nat} (h : H.K q = 0) : H.liveF q = 0 := by unfold liveF; rw [if_neg (by omega), if_neg (by omega)]
theorem freeF_le (q : Nat) : H.freeF q ≤ 1024 := by
  unfold freeF
  split
  · exact (H.ln_pos q (by omega)).2
  · omega
theorem liveF_le (q : Nat) : H.liveF q ≤ 32 := by
  unfold liveF
  split
  · omega
  · split
    · exact HM.onesTo_le _ _
    · omega
theorem sums_le (x : Nat) (hx : x ≤ 1024) : sumTo H.freeF x ≤ 1048576 ∧ sumTo H.liveF x ≤ 32768 := by
  have h1 := sumTo_le H.freeF 1024 x (fun q _ => freeF_le q)
  have h2 := sumTo_le H.liveF 32 x (fun q _ => liveF_le q)
  have h3 : x * 1024 ≤ 1024 * 1024 := Nat.mul_le_mul_right _ hx
  have h4 : x * 32 ≤ 1024 * 32 := Nat.mul_le_mul_right _ hx
  omega
end AuH
section
attribute [local go_sem] Oper.semAt_some

set_option maxHeartbeats 3200000 in
set_option maxRecDepth 100000 in
theorem auHasCounts_c {H : AuH} {n c : Nat} (HV : HeapV H n c) (ht : H.Tiled) (ad : Addr) (b : Bool) (hb : b = true ↔ H.R9) (w : World) (hv : IsVals w ad n H.V) :
    Calls Tryd.prog 24 #[hpV H ad n c] w fun e w' => e = .returned (.bool b) ∧ Below w.heap.size w w' := by
  have HVL := hidp hv
  have HP : H.p ≤ 1024 := HV.nums.2.2.2.1
  refine calls_of_wp_mark Tryd.func24 rfl ?_
  unfold hpV
  simp only [Tryd.ntmps24, List.size_toArray, List.length_cons, List.length_nil, Nat.reduceAdd, Nat.reduceSub, Array.replicate_succ, Array.replicate_zero, List.push_toArray, List.append_toArray, List.nil_append, List.cons_append]
  have HX0 := hidp (((Held.new w 41 #[.int .i64 (H.t : Int), .int .i64 (H.p : Int), .int .i64 (H.s : Int), .slice (some ad) n c]).alloc (.cells #[.int .i64 0] 3)).alloc (.cells #[.int .i64 0] 3))
  have HX1 := hidp ((Held.new (w.alloc (.cells #[.int .i64 (H.t : Int), .int .i64 (H.p : Int), .int .i64 (H.s : Int), .slice (some ad) n c] 41)) 3 #[.int .i64 0]).alloc (.cells #[.int .i64 0] 3))
  rw [World.size_alloc] at HX1
  have HX2 := hidp (Held.new ((w.alloc (.cells #[.int .i64 (H.t : Int), .int .i64 (H.p : Int), .int .i64 (H.s : Int), .slice (some ad) n c] 41)).alloc (.cells #[.int .i64 0] 3)) 3 #[.int .i64 0])
  rw [World.size_alloc, World.size_alloc] at HX2
  have HBW := hidp (Bnew (Bnew (Bnew (B0 w) (.cells #[.int .i64 (H.t : Int), .int .i64 (H.p : Int), .int .i64 (H.s : Int), .slice (some ad) n c] 41)) (.cells #[.int .i64 0] 3)) (.cells #[.int .i64 0] 3))
  go_wp2_with fail
  generalize ((w.alloc (.cells #[.int .i64 (H.t : Int), .int .i64 (H.p : Int), .int .i64 (H.s : Int), .slice (some ad) n c] 41)).alloc (.cells #[.int .i64 0] 3)).alloc (.cells #[.int .i64 0] 3) = W3 at *
  refine wp_seq (w0 := w) (gf := 13) (bound := #[hpV H ad n c]) (enc := encS H) (can := H.can) (next := H.nx) rfl (enters_of Tryd.func13 (by kernel_rfl) rfl) (auSpans_seq HV ad w HVL.out) HBW.out (fun _ => rfl)
    (fun pos F A => F = (fun i => i = (w.heap.size + 1) ∨ i = (w.heap.size + 1 + 1)) ∧ H.At pos ∧ Held A w.heap.size 41 #[.int .i64 (H.t : Int), .int .i64 (H.p : Int), .int .i64 (H.s : Int), .slice (some ad) n c] ∧ Held A (w.heap.size + 1) 3 #[.int .i64 (AuH.sumTo H.freeF pos : Nat)] ∧ Held A (w.heap.size + 1 + 1) 3 #[.int .i64 (AuH.sumTo H.liveF pos : Nat)] ∧ Below w.heap.size w A)
    (fun c A => False)
    ?hI ?hIx ?hIB ?hIF (F0 := (fun i => i = (w.heap.size + 1) ∨ i = (w.heap.size + 1 + 1))) ⟨rfl, .zero, HX0.out, HX1.out, HX2.out, HBW.out⟩ ?round ?done ?stop
  case hI => rintro pos F A B ⟨h1, h2, h4, h5, h6, h7⟩ hm; exact ⟨h1, h2, hm.held h4, hm.held h5, hm.held h6, hm.below h7 HBW.out.size⟩
  case hIx => rintro c A B h hm; exact h
  case hIB => rintro pos F A ⟨h1, h2, h4, h5, h6, h7⟩; exact h7
  case hIF => rintro pos F A ⟨rfl, h2, h4, h5, h6, h7⟩ i (rfl | rfl); exact ⟨_, h5, rfl⟩; exact ⟨_, h6, rfl⟩
  case round =>
    rintro l pos F A hc ⟨rfl, hat, x0, x1, x2, hB⟩ hsz
    unfold encS
    gi_wp2_with fail
    refine ⟨Bnew (B0 A) _, fun A2 hM hs => ?_⟩
    have HN := hidp (hM.held (Held.new A 50 #[.int .i64 (H.K pos), .int .i64 (H.ln pos : Int), .int .i64 (H.Cl pos)]))
    have HX0 := hidp (hM.held (x0.alloc (.cells #[.int .i64 (H.K pos), .int .i64 (H.ln pos : Int), .int .i64 (H.Cl pos)] 50)))
    have HX1 := hidp (hM.held (x1.alloc (.cells #[.int .i64 (H.K pos), .int .i64 (H.ln pos : Int), .int .i64 (H.Cl pos)] 50)))
    have HX2 := hidp (hM.held (x2.alloc (.cells #[.int .i64 (H.K pos), .int .i64 (H.ln pos : Int), .int .i64 (H.Cl pos)] 50)))
    have HB := hidp (hM.below (Bnew hB (.cells #[.int .i64 (H.K pos), .int .i64 (H.ln pos : Int), .int .i64 (H.Cl pos)] 50)) HBW.out.size)
    have HAT := hidp hat
    have HC := hidp hc
    obtain ⟨hlt, hk0, hle⟩ := (H.can_iff pos).1 hc
    have HLT := hidp hlt
    have HS1 := hidp (ht.sum hat hlt (fun q _ h => AuH.freeF_no h))
    have HS2 := hidp (ht.sum hat hlt (fun q _ h => AuH.liveF_no h))
    have hs1 := AuH.sums_le (H := H) pos (by omega)
    have hf1 := AuH.freeF_le (H := H) pos
    have hf2 := AuH.liveF_le (H := H) pos
    have HVR := hidp (HVL.out.below HB.out)
    clear hM x0 x1 x2 hB hat hc hs hsz hle
    have hkc := H.K_cases pos
    have hfree : H.K pos = 1 → H.freeF pos = H.ln pos := fun h => by unfold AuH.freeF; rw [if_pos h]
    have hfree0 : H.K pos ≠ 1 → H.freeF pos = 0 := fun h => by unfold AuH.freeF; rw [if_neg h]
    have hlive0 : H.K pos = 1 → H.liveF pos = 0 := fun h => by unfold AuH.liveF; rw [if_neg (by omega), if_neg (by omega)]
    have hlive2 : H.K pos = 2 → H.liveF pos = 1 := fun h => by unfold AuH.liveF; rw [if_pos h]
    have hlive3 : H.K pos = 3 → H.liveF pos = HM.onesTo (H.cel pos 4) 32 := fun h => by unfold AuH.liveF; rw [if_neg (by omega), if_pos h]
    generalize H.freeF pos = f1 at *
    generalize H.liveF pos = f2 at *
    generalize AuH.sumTo H.freeF pos = y1 at *
    generalize AuH.sumTo H.liveF pos = y2 at *
    obtain ⟨c0, c1, c2, c3⟩ := HX0.out.four
    obtain ⟨e1, e2⟩ := HX1.out.one
    obtain ⟨e3, e4⟩ := HX2.out.one
    rcases hkc with hk | ⟨hk | hk, hl1, hl2, _⟩ | ⟨hk, hl1, hcl⟩
    · exact absurd hk.1 hk0
    · obtain rfl := hfree hk
      obtain rfl := hlive0 hk
      clear hfree hfree0 hlive0 hlive2 hlive3 hk0
      rw [hk] at HN
      obtain ⟨d0, d1, d2⟩ := HN.out.three
      generalize H.ln pos = m at *
      gi_wp2_with fail
      have HT5 := (T0 (fun i => i = (w.heap.size + 1) ∨ i = (w.heap.size + 1 + 1)) A2).put (p := ⟨(w.heap.size + 1), 0, none⟩) (.inl rfl) (.int .i64 ((y1 : Int) + m))
      refine ⟨HT5, _, ⟨rfl, .step HAT.out HC.out, HT5.held HX0.out (by omega), ?_, ?_, HT5.below HB.out (by omega)⟩, fun i hi => .inl hi⟩
      · rw [HS1.out]; have := HX1.out.put1 (.int .i64 ((y1 : Int) + m)); push_cast; exact this
      · rw [HS2.out]; exact HX2.out.far (by simp) _
    · obtain rfl := hfree0 (by omega)
      obtain rfl := hlive2 hk
      clear hfree hfree0 hlive0 hlive2 hlive3 hk0
      rw [hk] at HN
      obtain ⟨d0, d1, d2⟩ := HN.out.three
      gi_wp2_with fail
      have HT5 := (T0 (fun i => i = (w.heap.size + 1) ∨ i = (w.heap.size + 1 + 1)) A2).put (p := ⟨(w.heap.size + 1 + 1), 0, none⟩) (.inr rfl) (.int .i64 ((y2 : Int) + 1))
      refine ⟨HT5, _, ⟨rfl, .step HAT.out HC.out, HT5.held HX0.out (by omega), ?_, ?_, HT5.below HB.out (by omega)⟩, fun i hi => .inl hi⟩
      · rw [HS1.out]; exact HX1.out.far (by simp) _
      · rw [HS2.out]; have := HX2.out.put1 (.int .i64 ((y2 : Int) + 1)); push_cast; exact this
    · obtain rfl := hfree0 (by omega)
      obtain rfl := hlive3 hk
      clear hfree hfree0 hlive0 hlive2 hlive3 hk0 hcl
      rw [hk] at HN
      obtain ⟨d0, d1, d2⟩ := HN.out.three
      obtain ⟨sl, hsl⟩ : ∃ sl, H.cel pos 4 = sl := ⟨_, rfl⟩
      have HES := hidp hsl
      have hsl32 := HV.cel_lt HLT.out (show 4 < 6 by omega)
      rw [hsl] at hsl32 HS2
      rw [hsl] at hf2
      clear hsl
      have HON : Hid (∀ W : World, Calls Tryd.prog 45 #[.int .u32 (sl : Int)] W fun e w' => e = .returned (.int .i64 ((HM.onesTo sl 32 : Nat) : Int)) ∧ W = w') := hidp (Ones_c sl hsl32)
      generalize HM.onesTo sl 32 = on at *
      have sw : IntKind.i64.wrap ((y2 : Int) + on) = (y2 : Int) + on := i64_same (by omega) (by omega)
      gi_wp2_with fail
      refine wp_region_round (S := (fun w' => w'.cell? ⟨w.heap.size, 0, none⟩ = some (.int .i64 (H.t : Int)) ∧ w'.cell? ⟨w.heap.size, 1, none⟩ = some (.int .i64 (H.p : Int)) ∧ w'.cell? ⟨w.heap.size, 2, none⟩ = some (.int .i64 (H.s : Int)) ∧ w'.cell? ⟨w.heap.size, 3, none⟩ = some (.slice (some ad) n c))) (by kernel_rfl) (by kernel_rfl) (fun _ _ h => h) ?_ (fun hHeld => ?_)
      · (try dsimp only)
        first | exact HX0.out.drew.four | exact HQ4.out.four | exact (HQ4.out.far (p := ⟨w.heap.size + 1 + 1, 0, none⟩) (by simp; omega) _).four | exact hHeld | trivial
      refine wpAnyH_take (i := 1) (oi := _) (v := ?_) rfl (by kernel_rfl) (by kernel_rfl) (by kernel_rfl) (fun _ _ _ h => h) (Or.inl ⟨by rfl, ?_⟩) (by assumption) ?_
      rotate_left
      · intro w hSw; (try dsimp only at hSw); go_simp; (try with_reducible rfl)
      (try simp only [Act.put, List.getElem_toArray, List.getElem_cons_zero, List.getElem_cons_succ, List.setIfInBounds_toArray, List.set_cons_zero, List.set_cons_succ])
      refine wpAnyH_take (i := 2) (oi := _) (v := ?_) rfl (by kernel_rfl) (by kernel_rfl) (by kernel_rfl) (fun _ _ _ h => h) (Or.inl ⟨by rfl, ?_⟩) (by assumption) ?_
      rotate_left
      · intro w hSw; (try dsimp only at hSw); go_simp; (try with_reducible rfl)
      (try simp only [Act.put, List.getElem_toArray, List.getElem_cons_zero, List.getElem_cons_succ, List.setIfInBounds_toArray, List.set_cons_zero, List.set_cons_succ])
      refine wpAnyH_ready (rs := [0, 3]) (by kernel_rfl) (by simp) ?_
      refine (AllReadyH.cons (o := _) rfl (fun K hK => ?_) (AllReadyH.cons (o := _) rfl (fun K hK => ?_) AllReadyH.nil))
      · go_simp
        refine hK.out _ _ ?_ (fun hHeld => ?_)
        · (try dsimp only)
          first | exact HX0.out.drew.four | exact HQ4.out.four | exact (HQ4.out.far (p := ⟨w.heap.size + 1 + 1, 0, none⟩) (by simp; omega) _).four | exact hHeld | trivial
        clear hK K
        (try simp only [Act.put, List.getElem_toArray, List.getElem_cons_zero, List.getElem_cons_succ, List.setIfInBounds_toArray, List.set_cons_zero, List.set_cons_succ])
        refine wpAnyH_ready (rs := [3]) (by kernel_rfl) (by simp) ?_
        refine AllReadyH.cons (o := _) rfl (fun K hK => ?_) AllReadyH.nil
        go_simp
        (go_at_call 27; refine (auAt_Slots_c HV ad HLT.out _ HVR.out.drew).mono ?_; rintro e w4 ⟨rfl, hb4⟩; rw [HES.out]; have HQ4 := hidp (HX0.out.drew.keep hb4); have HT4 := hidp ((T0 (fun i => i = (w.heap.size + 1) ∨ i = (w.heap.size + 1 + 1)) A2).drew.trans (Turns.of_below hb4 _)); have HY4 := hidp (HX2.out.drew.keep hb4); have HY3 := hidp (HX1.out.drew.keep hb4); clear hb4; obtain ⟨e3, e4⟩ := HY4.out.one)
        refine hK.out _ _ ?_ (fun hHeld => ?_)
        · (try dsimp only)
          first | exact HX0.out.drew.four | exact HQ4.out.four | exact (HQ4.out.far (p := ⟨w.heap.size + 1 + 1, 0, none⟩) (by simp; omega) _).four | exact hHeld | trivial
        clear hK K
        (try simp only [Act.put, List.getElem_toArray, List.getElem_cons_zero, List.getElem_cons_succ, List.setIfInBounds_toArray, List.set_cons_zero, List.set_cons_succ])
        refine wpAnyH_ready (rs := [4]) (by kernel_rfl) (by simp) ?_
        refine AllReadyH.cons (o := _) rfl (fun K hK => ?_) AllReadyH.nil
        go_simp
        (go_at_call 45; refine (HON.out _).mono ?_; rintro e w5 ⟨rfl, rfl⟩)
        refine hK.out _ _ ?_ (fun hHeld => ?_)
        · (try dsimp only)
          first | exact HX0.out.drew.four | exact HQ4.out.four | exact (HQ4.out.far (p := ⟨w.heap.size + 1 + 1, 0, none⟩) (by simp; omega) _).four | exact hHeld | trivial
        clear hK K
        (try simp only [Act.put, List.getElem_toArray, List.getElem_cons_zero, List.getElem_cons_succ, List.setIfInBounds_toArray, List.set_cons_zero, List.set_cons_succ])
        refine wpAnyH_take (i := 5) (oi := _) (v := ?_) rfl (by kernel_rfl) (by kernel_rfl) (by kernel_rfl) (fun _ _ _ h => h) (Or.inl ⟨by rfl, ?_⟩) (by assumption) ?_
        rotate_left
        · intro w hSw; (try dsimp only at hSw); go_simp; (try with_reducible rfl)
        (try simp only [Act.put, List.getElem_toArray, List.getElem_cons_zero, List.getElem_cons_succ, List.setIfInBounds_toArray, List.set_cons_zero, List.set_cons_succ])
        refine wpAnyH_ready (rs := [6]) (by kernel_rfl) (by simp) ?_
        refine AllReadyH.cons (o := _) rfl (fun K hK => ?_) AllReadyH.nil
        go_simp
        skip
        refine hK.out _ _ ?_ (fun hHeld => ?_)
        · (try dsimp only)
          first | exact HX0.out.drew.four | exact HQ4.out.four | exact (HQ4.out.far (p := ⟨w.heap.size + 1 + 1, 0, none⟩) (by simp; omega) _).four | exact hHeld | trivial
        clear hK K
        (try simp only [Act.put, List.getElem_toArray, List.getElem_cons_zero, List.getElem_cons_succ, List.setIfInBounds_toArray, List.set_cons_zero, List.set_cons_succ])
        refine wpAnyH_done (by kernel_rfl) ?_ _
        gi_wp2
        have HT5 := HT4.out.put (p := ⟨(w.heap.size + 1 + 1), 0, none⟩) (.inr rfl) (.int .i64 ((y2 : Int) + on))
        refine ⟨HT5, _, ⟨rfl, .step HAT.out HC.out, HT5.held HX0.out (by omega), ?_, ?_, HT5.below HB.out (by omega)⟩, fun i hi => .inl hi⟩
        · rw [HS1.out]; exact HY3.out.far (by simp) _
        · rw [HS2.out]; have := HY4.out.put1 (.int .i64 ((y2 : Int) + on)); push_cast; exact this
      · go_simp
        (go_at_call 27; refine (auAt_Slots_c HV ad HLT.out _ HVR.out.drew).mono ?_; rintro e w4 ⟨rfl, hb4⟩; rw [HES.out]; have HQ4 := hidp (HX0.out.drew.keep hb4); have HT4 := hidp ((T0 (fun i => i = (w.heap.size + 1) ∨ i = (w.heap.size + 1 + 1)) A2).drew.trans (Turns.of_below hb4 _)); have HY4 := hidp (HX2.out.drew.keep hb4); have HY3 := hidp (HX1.out.drew.keep hb4); clear hb4; obtain ⟨e3, e4⟩ := HY4.out.one)
        refine hK.out _ _ ?_ (fun hHeld => ?_)
        · (try dsimp only)
          first | exact HX0.out.drew.four | exact HQ4.out.four | exact (HQ4.out.far (p := ⟨w.heap.size + 1 + 1, 0, none⟩) (by simp; omega) _).four | exact hHeld | trivial
        clear hK K
        (try simp only [Act.put, List.getElem_toArray, List.getElem_cons_zero, List.getElem_cons_succ, List.setIfInBounds_toArray, List.set_cons_zero, List.set_cons_succ])
        refine wpAnyH_ready (rs := [0, 4]) (by kernel_rfl) (by simp) ?_
        refine (AllReadyH.cons (o := _) rfl (fun K hK => ?_) (AllReadyH.cons (o := _) rfl (fun K hK => ?_) AllReadyH.nil))
        · go_simp
          refine hK.out _ _ ?_ (fun hHeld => ?_)
          · (try dsimp only)
            first | exact HX0.out.drew.four | exact HQ4.out.four | exact (HQ4.out.far (p := ⟨w.heap.size + 1 + 1, 0, none⟩) (by simp; omega) _).four | exact hHeld | trivial
          clear hK K
          (try simp only [Act.put, List.getElem_toArray, List.getElem_cons_zero, List.getElem_cons_succ, List.setIfInBounds_toArray, List.set_cons_zero, List.set_cons_succ])
          refine wpAnyH_ready (rs := [4]) (by kernel_rfl) (by simp) ?_
          refine AllReadyH.cons (o := _) rfl (fun K hK => ?_) AllReadyH.nil
          go_simp
          (go_at_call 45; refine (HON.out _).mono ?_; rintro e w5 ⟨rfl, rfl⟩)
          refine hK.out _ _ ?_ (fun hHeld => ?_)
          · (try dsimp only)
            first | exact HX0.out.drew.four | exact HQ4.out.four | exact (HQ4.out.far (p := ⟨w.heap.size + 1 + 1, 0, none⟩) (by simp; omega) _).four | exact hHeld | trivial
          clear hK K
          (try simp only [Act.put, List.getElem_toArray, List.getElem_cons_zero, List.getElem_cons_succ, List.setIfInBounds_toArray, List.set_cons_zero, List.set_cons_succ])
          refine wpAnyH_take (i := 5) (oi := _) (v := ?_) rfl (by kernel_rfl) (by kernel_rfl) (by kernel_rfl) (fun _ _ _ h => h) (Or.inl ⟨by rfl, ?_⟩) (by assumption) ?_
          rotate_left
          · intro w hSw; (try dsimp only at hSw); go_simp; (try with_reducible rfl)
          (try simp only [Act.put, List.getElem_toArray, List.getElem_cons_zero, List.getElem_cons_succ, List.setIfInBounds_toArray, List.set_cons_zero, List.set_cons_succ])
          refine wpAnyH_ready (rs := [6]) (by kernel_rfl) (by simp) ?_
          refine AllReadyH.cons (o := _) rfl (fun K hK => ?_) AllReadyH.nil
          go_simp
          skip
          refine hK.out _ _ ?_ (fun hHeld => ?_)
          · (try dsimp only)
            first | exact HX0.out.drew.four | exact HQ4.out.four | exact (HQ4.out.far (p := ⟨w.heap.size + 1 + 1, 0, none⟩) (by simp; omega) _).four | exact hHeld | trivial
          clear hK K
          (try simp only [Act.put, List.getElem_toArray, List.getElem_cons_zero, List.getElem_cons_succ, List.setIfInBounds_toArray, List.set_cons_zero, List.set_cons_succ])
          refine wpAnyH_done (by kernel_rfl) ?_ _
          gi_wp2
          have HT5 := HT4.out.put (p := ⟨(w.heap.size + 1 + 1), 0, none⟩) (.inr rfl) (.int .i64 ((y2 : Int) + on))
          refine ⟨HT5, _, ⟨rfl, .step HAT.out HC.out, HT5.held HX0.out (by omega), ?_, ?_, HT5.below HB.out (by omega)⟩, fun i hi => .inl hi⟩
          · rw [HS1.out]; exact HY3.out.far (by simp) _
          · rw [HS2.out]; have := HY4.out.put1 (.int .i64 ((y2 : Int) + on)); push_cast; exact this
        · go_simp
          (go_at_call 45; refine (HON.out _).mono ?_; rintro e w5 ⟨rfl, rfl⟩)
          refine hK.out _ _ ?_ (fun hHeld => ?_)
          · (try dsimp only)
            first | exact HX0.out.drew.four | exact HQ4.out.four | exact (HQ4.out.far (p := ⟨w.heap.size + 1 + 1, 0, none⟩) (by simp; omega) _).four | exact hHeld | trivial
          clear hK K
          (try simp only [Act.put, List.getElem_toArray, List.getElem_cons_zero, List.getElem_cons_succ, List.setIfInBounds_toArray, List.set_cons_zero, List.set_cons_succ])
          refine wpAnyH_ready (rs := [0]) (by kernel_rfl) (by simp) ?_
          refine AllReadyH.cons (o := _) rfl (fun K hK => ?_) AllReadyH.nil
          go_simp
          skip
          refine hK.out _ _ ?_ (fun hHeld => ?_)
          · (try dsimp only)
            first | exact HX0.out.drew.four | exact HQ4.out.four | exact (HQ4.out.far (p := ⟨w.heap.size + 1 + 1, 0, none⟩) (by simp; omega) _).four | exact hHeld | trivial
          clear hK K
          (try simp only [Act.put, List.getElem_toArray, List.getElem_cons_zero, List.getElem_cons_succ, List.setIfInBounds_toArray, List.set_cons_zero, List.set_cons_succ])
          refine wpAnyH_take (i := 5) (oi := _) (v := ?_) rfl (by kernel_rfl) (by kernel_rfl) (by kernel_rfl) (fun _ _ _ h => h) (Or.inl ⟨by rfl, ?_⟩) (by assumption) ?_
          rotate_left
          · intro w hSw; (try dsimp only at hSw); go_simp; (try with_reducible rfl)
          (try simp only [Act.put, List.getElem_toArray, List.getElem_cons_zero, List.getElem_cons_succ, List.setIfInBounds_toArray, List.set_cons_zero, List.set_cons_succ])
          refine wpAnyH_ready (rs := [6]) (by kernel_rfl) (by simp) ?_
          refine AllReadyH.cons (o := _) rfl (fun K hK => ?_) AllReadyH.nil
          go_simp
          skip
          refine hK.out _ _ ?_ (fun hHeld => ?_)
          · (try dsimp only)
            first | exact HX0.out.drew.four | exact HQ4.out.four | exact (HQ4.out.far (p := ⟨w.heap.size + 1 + 1, 0, none⟩) (by simp; omega) _).four | exact hHeld | trivial
          clear hK K
          (try simp only [Act.put, List.getElem_toArray, List.getElem_cons_zero, List.getElem_cons_succ, List.setIfInBounds_toArray, List.set_cons_zero, List.set_cons_succ])
          refine wpAnyH_done (by kernel_rfl) ?_ _
          gi_wp2
          have HT5 := HT4.out.put (p := ⟨(w.heap.size + 1 + 1), 0, none⟩) (.inr rfl) (.int .i64 ((y2 : Int) + on))
          refine ⟨HT5, _, ⟨rfl, .step HAT.out HC.out, HT5.held HX0.out (by omega), ?_, ?_, HT5.below HB.out (by omega)⟩, fun i hi => .inl hi⟩
          · rw [HS1.out]; exact HY3.out.far (by simp) _
          · rw [HS2.out]; have := HY4.out.put1 (.int .i64 ((y2 : Int) + on)); push_cast; exact this
  case done =>
    rintro D pos F A hD hc ⟨rfl, hat, x0, x1, x2, hB⟩ hk
    have HDN : Hid ((w.heap.size + 1) < D ∧ w.heap.size ≤ D) := hidp (by have := HX1.out.lt; omega)
    have hpe : pos = H.p := by
      rw [ht.can_eq hat] at hc
      have := hat.le
      have := of_decide_eq_false hc
      omega
    subst hpe
    have hs1 := AuH.sums_le (H := H) H.p HP
    have hn := HV.len
    have hv0 := (HVL.out.below hB).2 0 (by omega)
    have hv1 := (HVL.out.below hB).2 1 (by omega)
    have hl0 := HV.lt 0 (by omega)
    have hl1 := HV.lt 1 (by omega)
    have hR : b = true ↔ H.V 0 = AuH.sumTo H.freeF H.p ∧ H.V 1 = AuH.sumTo H.liveF H.p := by
      rw [hb]
      unfold AuH.R9
      rw [Nat.mod_eq_of_lt (by omega), Nat.mod_eq_of_lt (by omega)]
    generalize AuH.sumTo H.freeF H.p = y1 at *
    generalize AuH.sumTo H.liveF H.p = y2 at *
    generalize H.V 0 = v0 at *
    generalize H.V 1 = v1 at *
    have w1 : IntKind.u32.wrap (y1 : Int) = (y1 : Int) := wrap_nat32 _ (by omega)
    have w2 : IntKind.u32.wrap (y2 : Int) = (y2 : Int) := wrap_nat32 _ (by omega)
    have hcm : c ≤ 9223372036854775807 := HV.max
    have hnc := HV.cap
    have n0 : 0 < n := by omega
    have n1 : 1 < n := by omega
    have n2 : (1 : Int) < n := by omega
    have hv11 : A.cell? ⟨ad.block, ad.off + 1, none⟩ = some (.int .u32 (v1 : Int)) := hv1
    have hv00 : A.cell? ad = some (.int .u32 (v0 : Int)) := hv0
    have HK := hidp hk
    have HB := hidp hB
    have g0 := x0.four.2.2.2
    have g3 := x1.one.1
    have g4 := x2.one.1
    have HR := hidp hR
    clear hk x0 x1 x2 hB hD hat hc hn hR hb
    have HBE : Hid (Below w.heap.size w (A.drew.putObj D (.deferred none))) := hidp (shutB (Bdrew HB.out) HK.out rfl HDN.out.2)
    by_cases h1 : v0 = y1
    · have q0 : ((v0 : Int) == y1) = true := by simp; omega
      by_cases h2 : v1 = y2
      · have HBB : Hid (b = true) := hidp (bool_yes HR.out ⟨h1, h2⟩)
        have q1 : ((v1 : Int) == y2) = true := by simp; omega
        clear h1 h2
        go_wp2_with fail
        refine wp_region_held_drew (S := (fun w' => w'.cell? ⟨w.heap.size, 3, none⟩ = some (.slice (some ad) n c) ∧ w'.cell? ad = some (.int .u32 (v0 : Int)) ∧ w'.cell? ⟨ad.block, ad.off + 1, none⟩ = some (.int .u32 (v1 : Int)) ∧ w'.cell? ⟨(w.heap.size + 1), 0, none⟩ = some (.int .i64 (y1 : Int)) ∧ w'.cell? ⟨(w.heap.size + 1 + 1), 0, none⟩ = some (.int .i64 (y2 : Int)))) (by kernel_rfl) ?_ (fun hHeld => ?_)
        · (try dsimp only)
          first | exact ⟨g0, hv00, hv11, g3, g4⟩ | exact hHeld
        refine wpAnyH_take (i := 0) (oi := _) (v := ?_) rfl (by kernel_rfl) (by kernel_rfl) (by kernel_rfl) (fun _ _ _ h => h) (Or.inl ⟨by rfl, ?_⟩) (by assumption) ?_
        rotate_left
        · intro w hSw; (try dsimp only at hSw); go_simp; (try with_reducible rfl)
        (try simp only [Act.put, List.getElem_toArray, List.getElem_cons_zero, List.getElem_cons_succ, List.setIfInBounds_toArray, List.set_cons_zero, List.set_cons_succ])
        refine wpAnyH_take (i := 1) (oi := _) (v := ?_) rfl (by kernel_rfl) (by kernel_rfl) (by kernel_rfl) (fun _ _ _ h => h) (Or.inl ⟨by rfl, ?_⟩) (by assumption) ?_
        rotate_left
        · intro w hSw; (try dsimp only at hSw); go_simp; (try with_reducible rfl)
        (try simp only [Act.put, List.getElem_toArray, List.getElem_cons_zero, List.getElem_cons_succ, List.setIfInBounds_toArray, List.set_cons_zero, List.set_cons_succ])
        refine wpAnyH_take (i := 2) (oi := _) (v := ?_) rfl (by kernel_rfl) (by kernel_rfl) (by kernel_rfl) (fun _ _ _ h => h) (Or.inl ⟨by rfl, ?_⟩) (by assumption) ?_
        rotate_left
        · intro w hSw; (try dsimp only at hSw); go_simp; (try with_reducible rfl)
        (try simp only [Act.put, List.getElem_toArray, List.getElem_cons_zero, List.getElem_cons_succ, List.setIfInBounds_toArray, List.set_cons_zero, List.set_cons_succ])
        refine wpAnyH_take (i := 3) (oi := _) (v := ?_) rfl (by kernel_rfl) (by kernel_rfl) (by kernel_rfl) (fun _ _ _ h => h) (Or.inl ⟨by rfl, ?_⟩) (by assumption) ?_
        rotate_left
        · intro w hSw; (try dsimp only at hSw); go_simp; (try with_reducible rfl)
        (try simp only [Act.put, List.getElem_toArray, List.getElem_cons_zero, List.getElem_cons_succ, List.setIfInBounds_toArray, List.set_cons_zero, List.set_cons_succ])
        refine wpAnyH_take (i := 4) (oi := _) (v := ?_) rfl (by kernel_rfl) (by kernel_rfl) (by kernel_rfl) (fun _ _ _ h => h) (Or.inl ⟨by rfl, ?_⟩) (by assumption) ?_
        rotate_left
        · intro w hSw; (try dsimp only at hSw); go_simp; (try with_reducible rfl)
        (try simp only [Act.put, List.getElem_toArray, List.getElem_cons_zero, List.getElem_cons_succ, List.setIfInBounds_toArray, List.set_cons_zero, List.set_cons_succ])
        refine wpAnyH_take (i := 5) (oi := _) (v := ?_) rfl (by kernel_rfl) (by kernel_rfl) (by kernel_rfl) (fun _ _ _ h => h) (Or.inl ⟨by rfl, ?_⟩) (by assumption) ?_
        rotate_left
        · intro w hSw; (try dsimp only at hSw); go_simp; (try with_reducible rfl)
        (try simp only [Act.put, List.getElem_toArray, List.getElem_cons_zero, List.getElem_cons_succ, List.setIfInBounds_toArray, List.set_cons_zero, List.set_cons_succ])
        refine wpAnyH_take (i := 6) (oi := _) (v := ?_) rfl (by kernel_rfl) (by kernel_rfl) (by kernel_rfl) (fun _ _ _ h => h) (Or.inl ⟨by rfl, ?_⟩) (by assumption) ?_
        rotate_left
        · intro w hSw; (try dsimp only at hSw); go_simp; (try with_reducible rfl)
        (try simp only [Act.put, List.getElem_toArray, List.getElem_cons_zero, List.getElem_cons_succ, List.setIfInBounds_toArray, List.set_cons_zero, List.set_cons_succ])
        refine wpAnyH_take (i := 7) (oi := _) (v := ?_) rfl (by kernel_rfl) (by kernel_rfl) (by kernel_rfl) (fun _ _ _ h => h) (Or.inl ⟨by rfl, ?_⟩) (by assumption) ?_
        rotate_left
        · intro w hSw; (try dsimp only at hSw); go_simp; (try with_reducible rfl)
        (try simp only [Act.put, List.getElem_toArray, List.getElem_cons_zero, List.getElem_cons_succ, List.setIfInBounds_toArray, List.set_cons_zero, List.set_cons_succ])
        refine wpAnyH_take (i := 8) (oi := _) (v := ?_) rfl (by kernel_rfl) (by kernel_rfl) (by kernel_rfl) (fun _ _ _ h => h) (Or.inl ⟨by rfl, ?_⟩) (by assumption) ?_
        rotate_left
        · intro w hSw; (try dsimp only at hSw); go_simp; (try with_reducible rfl)
        (try simp only [Act.put, List.getElem_toArray, List.getElem_cons_zero, List.getElem_cons_succ, List.setIfInBounds_toArray, List.set_cons_zero, List.set_cons_succ])
        refine wpAnyH_take (i := 9) (oi := _) (v := ?_) rfl (by kernel_rfl) (by kernel_rfl) (by kernel_rfl) (fun _ _ _ h => h) (Or.inl ⟨by rfl, ?_⟩) (by assumption) ?_
        rotate_left
        · intro w hSw; (try dsimp only at hSw); go_simp; (try with_reducible rfl)
        (try simp only [Act.put, List.getElem_toArray, List.getElem_cons_zero, List.getElem_cons_succ, List.setIfInBounds_toArray, List.set_cons_zero, List.set_cons_succ])
        refine wpAnyH_take (i := 10) (oi := _) (v := ?_) rfl (by kernel_rfl) (by kernel_rfl) (by kernel_rfl) (fun _ _ _ h => h) (Or.inl ⟨by rfl, ?_⟩) (by assumption) ?_
        rotate_left
        · intro w hSw; (try dsimp only at hSw); go_simp; (try with_reducible rfl)
        (try simp only [Act.put, List.getElem_toArray, List.getElem_cons_zero, List.getElem_cons_succ, List.setIfInBounds_toArray, List.set_cons_zero, List.set_cons_succ])
        refine wpAnyH_take (i := 11) (oi := _) (v := ?_) rfl (by kernel_rfl) (by kernel_rfl) (by kernel_rfl) (fun _ _ _ h => h) (Or.inl ⟨by rfl, ?_⟩) (by assumption) ?_
        rotate_left
        · intro w hSw; (try dsimp only at hSw); go_simp; (try with_reducible rfl)
        (try simp only [Act.put, List.getElem_toArray, List.getElem_cons_zero, List.getElem_cons_succ, List.setIfInBounds_toArray, List.set_cons_zero, List.set_cons_succ])
        refine wpAnyH_take (i := 12) (oi := _) (v := ?_) rfl (by kernel_rfl) (by kernel_rfl) (by kernel_rfl) (fun _ _ _ h => h) (Or.inl ⟨by rfl, ?_⟩) (by assumption) ?_
        rotate_left
        · intro w hSw; (try dsimp only at hSw); go_simp; (try with_reducible rfl)
        (try simp only [Act.put, List.getElem_toArray, List.getElem_cons_zero, List.getElem_cons_succ, List.setIfInBounds_toArray, List.set_cons_zero, List.set_cons_succ])
        refine wpAnyH_take (i := 13) (oi := _) (v := ?_) rfl (by kernel_rfl) (by kernel_rfl) (by kernel_rfl) (fun _ _ _ h => h) (Or.inl ⟨by rfl, ?_⟩) (by assumption) ?_
        rotate_left
        · intro w hSw; (try dsimp only at hSw); go_simp; (try with_reducible rfl)
        (try simp only [Act.put, List.getElem_toArray, List.getElem_cons_zero, List.getElem_cons_succ, List.setIfInBounds_toArray, List.set_cons_zero, List.set_cons_succ])
        refine wpAnyH_take (i := 14) (oi := _) (v := ?_) rfl (by kernel_rfl) (by kernel_rfl) (by kernel_rfl) (fun _ _ _ h => h) (Or.inl ⟨by rfl, ?_⟩) (by assumption) ?_
        rotate_left
        · intro w hSw; (try dsimp only at hSw); go_simp; (try with_reducible rfl)
        (try simp only [Act.put, List.getElem_toArray, List.getElem_cons_zero, List.getElem_cons_succ, List.setIfInBounds_toArray, List.set_cons_zero, List.set_cons_succ])
        refine wpAnyH_take (i := 15) (oi := _) (v := ?_) rfl (by kernel_rfl) (by kernel_rfl) (by kernel_rfl) (fun _ _ _ h => h) (Or.inl ⟨by rfl, ?_⟩) (by assumption) ?_
        rotate_left
        · intro w hSw; (try dsimp only at hSw); go_simp; (try with_reducible rfl)
        (try simp only [Act.put, List.getElem_toArray, List.getElem_cons_zero, List.getElem_cons_succ, List.setIfInBounds_toArray, List.set_cons_zero, List.set_cons_succ])
        refine wpAnyH_take (i := 16) (oi := _) (v := ?_) rfl (by kernel_rfl) (by kernel_rfl) (by kernel_rfl) (fun _ _ _ h => h) (Or.inl ⟨by rfl, ?_⟩) (by assumption) ?_
        rotate_left
        · intro w hSw; (try dsimp only at hSw); go_simp; (try with_reducible rfl)
        (try simp only [Act.put, List.getElem_toArray, List.getElem_cons_zero, List.getElem_cons_succ, List.setIfInBounds_toArray, List.set_cons_zero, List.set_cons_succ])
        refine wpAnyH_done (by kernel_rfl) ?_ _
        go_wp2
        refine mark_end rfl HK.out ?_
        refine bodyPost_ret (results_tmp rfl _ _ _) rfl ?_
        exact ⟨by rw [HBB.out]; first | rfl | simp, HBE.out⟩
      · have HBB : Hid (b = false) := hidp (bool_no HR.out (fun h => h2 h.2))
        have q1 : ((v1 : Int) == y2) = false := by simp; omega
        clear h1 h2
        go_wp2_with fail
        refine wp_region_held_drew (S := (fun w' => w'.cell? ⟨w.heap.size, 3, none⟩ = some (.slice (some ad) n c) ∧ w'.cell? ad = some (.int .u32 (v0 : Int)) ∧ w'.cell? ⟨ad.block, ad.off + 1, none⟩ = some (.int .u32 (v1 : Int)) ∧ w'.cell? ⟨(w.heap.size + 1), 0, none⟩ = some (.int .i64 (y1 : Int)) ∧ w'.cell? ⟨(w.heap.size + 1 + 1), 0, none⟩ = some (.int .i64 (y2 : Int)))) (by kernel_rfl) ?_ (fun hHeld => ?_)
        · (try dsimp only)
          first | exact ⟨g0, hv00, hv11, g3, g4⟩ | exact hHeld
        refine wpAnyH_take (i := 0) (oi := _) (v := ?_) rfl (by kernel_rfl) (by kernel_rfl) (by kernel_rfl) (fun _ _ _ h => h) (Or.inl ⟨by rfl, ?_⟩) (by assumption) ?_
        rotate_left
        · intro w hSw; (try dsimp only at hSw); go_simp; (try with_reducible rfl)
        (try simp only [Act.put, List.getElem_toArray, List.getElem_cons_zero, List.getElem_cons_succ, List.setIfInBounds_toArray, List.set_cons_zero, List.set_cons_succ])
        refine wpAnyH_take (i := 1) (oi := _) (v := ?_) rfl (by kernel_rfl) (by kernel_rfl) (by kernel_rfl) (fun _ _ _ h => h) (Or.inl ⟨by rfl, ?_⟩) (by assumption) ?_
        rotate_left
        · intro w hSw; (try dsimp only at hSw); go_simp; (try with_reducible rfl)
        (try simp only [Act.put, List.getElem_toArray, List.getElem_cons_zero, List.getElem_cons_succ, List.setIfInBounds_toArray, List.set_cons_zero, List.set_cons_succ])
        refine wpAnyH_take (i := 2) (oi := _) (v := ?_) rfl (by kernel_rfl) (by kernel_rfl) (by kernel_rfl) (fun _ _ _ h => h) (Or.inl ⟨by rfl, ?_⟩) (by assumption) ?_
        rotate_left
        · intro w hSw; (try dsimp only at hSw); go_simp; (try with_reducible rfl)
        (try simp only [Act.put, List.getElem_toArray, List.getElem_cons_zero, List.getElem_cons_succ, List.setIfInBounds_toArray, List.set_cons_zero, List.set_cons_succ])
        refine wpAnyH_take (i := 3) (oi := _) (v := ?_) rfl (by kernel_rfl) (by kernel_rfl) (by kernel_rfl) (fun _ _ _ h => h) (Or.inl ⟨by rfl, ?_⟩) (by assumption) ?_
        rotate_left
        · intro w hSw; (try dsimp only at hSw); go_simp; (try with_reducible rfl)
        (try simp only [Act.put, List.getElem_toArray, List.getElem_cons_zero, List.getElem_cons_succ, List.setIfInBounds_toArray, List.set_cons_zero, List.set_cons_succ])
        refine wpAnyH_take (i := 4) (oi := _) (v := ?_) rfl (by kernel_rfl) (by kernel_rfl) (by kernel_rfl) (fun _ _ _ h => h) (Or.inl ⟨by rfl, ?_⟩) (by assumption) ?_
        rotate_left
        · intro w hSw; (try dsimp only at hSw); go_simp; (try with_reducible rfl)
        (try simp only [Act.put, List.getElem_toArray, List.getElem_cons_zero, List.getElem_cons_succ, List.setIfInBounds_toArray, List.set_cons_zero, List.set_cons_succ])
        refine wpAnyH_take (i := 5) (oi := _) (v := ?_) rfl (by kernel_rfl) (by kernel_rfl) (by kernel_rfl) (fun _ _ _ h => h) (Or.inl ⟨by rfl, ?_⟩) (by assumption) ?_
        rotate_left
        · intro w hSw; (try dsimp only at hSw); go_simp; (try with_reducible rfl)
        (try simp only [Act.put, List.getElem_toArray, List.getElem_cons_zero, List.getElem_cons_succ, List.setIfInBounds_toArray, List.set_cons_zero, List.set_cons_succ])
        refine wpAnyH_take (i := 6) (oi := _) (v := ?_) rfl (by kernel_rfl) (by kernel_rfl) (by kernel_rfl) (fun _ _ _ h => h) (Or.inl ⟨by rfl, ?_⟩) (by assumption) ?_
        rotate_left
        · intro w hSw; (try dsimp only at hSw); go_simp; (try with_reducible rfl)
        (try simp only [Act.put, List.getElem_toArray, List.getElem_cons_zero, List.getElem_cons_succ, List.setIfInBounds_toArray, List.set_cons_zero, List.set_cons_succ])
        refine wpAnyH_take (i := 7) (oi := _) (v := ?_) rfl (by kernel_rfl) (by kernel_rfl) (by kernel_rfl) (fun _ _ _ h => h) (Or.inl ⟨by rfl, ?_⟩) (by assumption) ?_
        rotate_left
        · intro w hSw; (try dsimp only at hSw); go_simp; (try with_reducible rfl)
        (try simp only [Act.put, List.getElem_toArray, List.getElem_cons_zero, List.getElem_cons_succ, List.setIfInBounds_toArray, List.set_cons_zero, List.set_cons_succ])
        refine wpAnyH_take (i := 8) (oi := _) (v := ?_) rfl (by kernel_rfl) (by kernel_rfl) (by kernel_rfl) (fun _ _ _ h => h) (Or.inl ⟨by rfl, ?_⟩) (by assumption) ?_
        rotate_left
        · intro w hSw; (try dsimp only at hSw); go_simp; (try with_reducible rfl)
        (try simp only [Act.put, List.getElem_toArray, List.getElem_cons_zero, List.getElem_cons_succ, List.setIfInBounds_toArray, List.set_cons_zero, List.set_cons_succ])
        refine wpAnyH_take (i := 9) (oi := _) (v := ?_) rfl (by kernel_rfl) (by kernel_rfl) (by kernel_rfl) (fun _ _ _ h => h) (Or.inl ⟨by rfl, ?_⟩) (by assumption) ?_
        rotate_left
        · intro w hSw; (try dsimp only at hSw); go_simp; (try with_reducible rfl)
        (try simp only [Act.put, List.getElem_toArray, List.getElem_cons_zero, List.getElem_cons_succ, List.setIfInBounds_toArray, List.set_cons_zero, List.set_cons_succ])
        refine wpAnyH_take (i := 10) (oi := _) (v := ?_) rfl (by kernel_rfl) (by kernel_rfl) (by kernel_rfl) (fun _ _ _ h => h) (Or.inl ⟨by rfl, ?_⟩) (by assumption) ?_
        rotate_left
        · intro w hSw; (try dsimp only at hSw); go_simp; (try with_reducible rfl)
        (try simp only [Act.put, List.getElem_toArray, List.getElem_cons_zero, List.getElem_cons_succ, List.setIfInBounds_toArray, List.set_cons_zero, List.set_cons_succ])
        refine wpAnyH_take (i := 11) (oi := _) (v := ?_) rfl (by kernel_rfl) (by kernel_rfl) (by kernel_rfl) (fun _ _ _ h => h) (Or.inl ⟨by rfl, ?_⟩) (by assumption) ?_
        rotate_left
        · intro w hSw; (try dsimp only at hSw); go_simp; (try with_reducible rfl)
        (try simp only [Act.put, List.getElem_toArray, List.getElem_cons_zero, List.getElem_cons_succ, List.setIfInBounds_toArray, List.set_cons_zero, List.set_cons_succ])
        refine wpAnyH_take (i := 12) (oi := _) (v := ?_) rfl (by kernel_rfl) (by kernel_rfl) (by kernel_rfl) (fun _ _ _ h => h) (Or.inl ⟨by rfl, ?_⟩) (by assumption) ?_
        rotate_left
        · intro w hSw; (try dsimp only at hSw); go_simp; (try with_reducible rfl)
        (try simp only [Act.put, List.getElem_toArray, List.getElem_cons_zero, List.getElem_cons_succ, List.setIfInBounds_toArray, List.set_cons_zero, List.set_cons_succ])
        refine wpAnyH_take (i := 13) (oi := _) (v := ?_) rfl (by kernel_rfl) (by kernel_rfl) (by kernel_rfl) (fun _ _ _ h => h) (Or.inl ⟨by rfl, ?_⟩) (by assumption) ?_
        rotate_left
        · intro w hSw; (try dsimp only at hSw); go_simp; (try with_reducible rfl)
        (try simp only [Act.put, List.getElem_toArray, List.getElem_cons_zero, List.getElem_cons_succ, List.setIfInBounds_toArray, List.set_cons_zero, List.set_cons_succ])
        refine wpAnyH_take (i := 14) (oi := _) (v := ?_) rfl (by kernel_rfl) (by kernel_rfl) (by kernel_rfl) (fun _ _ _ h => h) (Or.inl ⟨by rfl, ?_⟩) (by assumption) ?_
        rotate_left
        · intro w hSw; (try dsimp only at hSw); go_simp; (try with_reducible rfl)
        (try simp only [Act.put, List.getElem_toArray, List.getElem_cons_zero, List.getElem_cons_succ, List.setIfInBounds_toArray, List.set_cons_zero, List.set_cons_succ])
        refine wpAnyH_take (i := 15) (oi := _) (v := ?_) rfl (by kernel_rfl) (by kernel_rfl) (by kernel_rfl) (fun _ _ _ h => h) (Or.inl ⟨by rfl, ?_⟩) (by assumption) ?_
        rotate_left
        · intro w hSw; (try dsimp only at hSw); go_simp; (try with_reducible rfl)
        (try simp only [Act.put, List.getElem_toArray, List.getElem_cons_zero, List.getElem_cons_succ, List.setIfInBounds_toArray, List.set_cons_zero, List.set_cons_succ])
        refine wpAnyH_take (i := 16) (oi := _) (v := ?_) rfl (by kernel_rfl) (by kernel_rfl) (by kernel_rfl) (fun _ _ _ h => h) (Or.inl ⟨by rfl, ?_⟩) (by assumption) ?_
        rotate_left
        · intro w hSw; (try dsimp only at hSw); go_simp; (try with_reducible rfl)
        (try simp only [Act.put, List.getElem_toArray, List.getElem_cons_zero, List.getElem_cons_succ, List.setIfInBounds_toArray, List.set_cons_zero, List.set_cons_succ])
        refine wpAnyH_done (by kernel_rfl) ?_ _
        go_wp2
        refine mark_end rfl HK.out ?_
        refine bodyPost_ret (results_tmp rfl _ _ _) rfl ?_
        exact ⟨by rw [HBB.out]; first | rfl | simp, HBE.out⟩
    · have HBB : Hid (b = false) := hidp (bool_no HR.out (fun h => h1 h.1))
      have q0 : ((v0 : Int) == y1) = false := by simp; omega
      clear h1
      go_wp2_with fail
      refine wp_region_held_drew (S := (fun w' => w'.cell? ⟨w.heap.size, 3, none⟩ = some (.slice (some ad) n c) ∧ w'.cell? ad = some (.int .u32 (v0 : Int)) ∧ w'.cell? ⟨ad.block, ad.off + 1, none⟩ = some (.int .u32 (v1 : Int)) ∧ w'.cell? ⟨(w.heap.size + 1), 0, none⟩ = some (.int .i64 (y1 : Int)) ∧ w'.cell? ⟨(w.heap.size + 1 + 1), 0, none⟩ = some (.int .i64 (y2 : Int)))) (by kernel_rfl) ?_ (fun hHeld => ?_)
      · (try dsimp only)
        first | exact ⟨g0, hv00, hv11, g3, g4⟩ | exact hHeld
      refine wpAnyH_take (i := 0) (oi := _) (v := ?_) rfl (by kernel_rfl) (by kernel_rfl) (by kernel_rfl) (fun _ _ _ h => h) (Or.inl ⟨by rfl, ?_⟩) (by assumption) ?_
      rotate_left
      · intro w hSw; (try dsimp only at hSw); go_simp; (try with_reducible rfl)
      (try simp only [Act.put, List.getElem_toArray, List.getElem_cons_zero, List.getElem_cons_succ, List.setIfInBounds_toArray, List.set_cons_zero, List.set_cons_succ])
      refine wpAnyH_take (i := 1) (oi := _) (v := ?_) rfl (by kernel_rfl) (by kernel_rfl) (by kernel_rfl) (fun _ _ _ h => h) (Or.inl ⟨by rfl, ?_⟩) (by assumption) ?_
      rotate_left
      · intro w hSw; (try dsimp only at hSw); go_simp; (try with_reducible rfl)
      (try simp only [Act.put, List.getElem_toArray, List.getElem_cons_zero, List.getElem_cons_succ, List.setIfInBounds_toArray, List.set_cons_zero, List.set_cons_succ])
      refine wpAnyH_take (i := 2) (oi := _) (v := ?_) rfl (by kernel_rfl) (by kernel_rfl) (by kernel_rfl) (fun _ _ _ h => h) (Or.inl ⟨by rfl, ?_⟩) (by assumption) ?_
      rotate_left
      · intro w hSw; (try dsimp only at hSw); go_simp; (try with_reducible rfl)
      (try simp only [Act.put, List.getElem_toArray, List.getElem_cons_zero, List.getElem_cons_succ, List.setIfInBounds_toArray, List.set_cons_zero, List.set_cons_succ])
      refine wpAnyH_take (i := 3) (oi := _) (v := ?_) rfl (by kernel_rfl) (by kernel_rfl) (by kernel_rfl) (fun _ _ _ h => h) (Or.inl ⟨by rfl, ?_⟩) (by assumption) ?_
      rotate_left
      · intro w hSw; (try dsimp only at hSw); go_simp; (try with_reducible rfl)
      (try simp only [Act.put, List.getElem_toArray, List.getElem_cons_zero, List.getElem_cons_succ, List.setIfInBounds_toArray, List.set_cons_zero, List.set_cons_succ])
      refine wpAnyH_take (i := 4) (oi := _) (v := ?_) rfl (by kernel_rfl) (by kernel_rfl) (by kernel_rfl) (fun _ _ _ h => h) (Or.inl ⟨by rfl, ?_⟩) (by assumption) ?_
      rotate_left
      · intro w hSw; (try dsimp only at hSw); go_simp; (try with_reducible rfl)
      (try simp only [Act.put, List.getElem_toArray, List.getElem_cons_zero, List.getElem_cons_succ, List.setIfInBounds_toArray, List.set_cons_zero, List.set_cons_succ])
      refine wpAnyH_take (i := 5) (oi := _) (v := ?_) rfl (by kernel_rfl) (by kernel_rfl) (by kernel_rfl) (fun _ _ _ h => h) (Or.inl ⟨by rfl, ?_⟩) (by assumption) ?_
      rotate_left
      · intro w hSw; (try dsimp only at hSw); go_simp; (try with_reducible rfl)
      (try simp only [Act.put, List.getElem_toArray, List.getElem_cons_zero, List.getElem_cons_succ, List.setIfInBounds_toArray, List.set_cons_zero, List.set_cons_succ])
      refine wpAnyH_take (i := 6) (oi := _) (v := ?_) rfl (by kernel_rfl) (by kernel_rfl) (by kernel_rfl) (fun _ _ _ h => h) (Or.inl ⟨by rfl, ?_⟩) (by assumption) ?_
      rotate_left
      · intro w hSw; (try dsimp only at hSw); go_simp; (try with_reducible rfl)
      (try simp only [Act.put, List.getElem_toArray, List.getElem_cons_zero, List.getElem_cons_succ, List.setIfInBounds_toArray, List.set_cons_zero, List.set_cons_succ])
      refine wpAnyH_take (i := 7) (oi := _) (v := ?_) rfl (by kernel_rfl) (by kernel_rfl) (by kernel_rfl) (fun _ _ _ h => h) (Or.inl ⟨by rfl, ?_⟩) (by assumption) ?_
      rotate_left
      · intro w hSw; (try dsimp only at hSw); go_simp; (try with_reducible rfl)
      (try simp only [Act.put, List.getElem_toArray, List.getElem_cons_zero, List.getElem_cons_succ, List.setIfInBounds_toArray, List.set_cons_zero, List.set_cons_succ])
      refine wpAnyH_take (i := 8) (oi := _) (v := undef) rfl (by kernel_rfl) (by kernel_rfl) (by kernel_rfl) (fun _ _ _ h => h) (Or.inr ⟨by rfl, rfl⟩) (by assumption) ?_
      (try simp only [Act.put, List.getElem_toArray, List.getElem_cons_zero, List.getElem_cons_succ, List.setIfInBounds_toArray, List.set_cons_zero, List.set_cons_succ])
      refine wpAnyH_take (i := 9) (oi := _) (v := undef) rfl (by kernel_rfl) (by kernel_rfl) (by kernel_rfl) (fun _ _ _ h => h) (Or.inr ⟨by rfl, rfl⟩) (by assumption) ?_
      (try simp only [Act.put, List.getElem_toArray, List.getElem_cons_zero, List.getElem_cons_succ, List.setIfInBounds_toArray, List.set_cons_zero, List.set_cons_succ])
      refine wpAnyH_take (i := 10) (oi := _) (v := undef) rfl (by kernel_rfl) (by kernel_rfl) (by kernel_rfl) (fun _ _ _ h => h) (Or.inr ⟨by rfl, rfl⟩) (by assumption) ?_
      (try simp only [Act.put, List.getElem_toArray, List.getElem_cons_zero, List.getElem_cons_succ, List.setIfInBounds_toArray, List.set_cons_zero, List.set_cons_succ])
      refine wpAnyH_take (i := 11) (oi := _) (v := undef) rfl (by kernel_rfl) (by kernel_rfl) (by kernel_rfl) (fun _ _ _ h => h) (Or.inr ⟨by rfl, rfl⟩) (by assumption) ?_
      (try simp only [Act.put, List.getElem_toArray, List.getElem_cons_zero, List.getElem_cons_succ, List.setIfInBounds_toArray, List.set_cons_zero, List.set_cons_succ])
      refine wpAnyH_take (i := 12) (oi := _) (v := undef) rfl (by kernel_rfl) (by kernel_rfl) (by kernel_rfl) (fun _ _ _ h => h) (Or.inr ⟨by rfl, rfl⟩) (by assumption) ?_
      (try simp only [Act.put, List.getElem_toArray, List.getElem_cons_zero, List.getElem_cons_succ, List.setIfInBounds_toArray, List.set_cons_zero, List.set_cons_succ])
      refine wpAnyH_take (i := 13) (oi := _) (v := undef) rfl (by kernel_rfl) (by kernel_rfl) (by kernel_rfl) (fun _ _ _ h => h) (Or.inr ⟨by rfl, rfl⟩) (by assumption) ?_
      (try simp only [Act.put, List.getElem_toArray, List.getElem_cons_zero, List.getElem_cons_succ, List.setIfInBounds_toArray, List.set_cons_zero, List.set_cons_succ])
      refine wpAnyH_take (i := 14) (oi := _) (v := undef) rfl (by kernel_rfl) (by kernel_rfl) (by kernel_rfl) (fun _ _ _ h => h) (Or.inr ⟨by rfl, rfl⟩) (by assumption) ?_
      (try simp only [Act.put, List.getElem_toArray, List.getElem_cons_zero, List.getElem_cons_succ, List.setIfInBounds_toArray, List.set_cons_zero, List.set_cons_succ])
      refine wpAnyH_take (i := 15) (oi := _) (v := ?_) rfl (by kernel_rfl) (by kernel_rfl) (by kernel_rfl) (fun _ _ _ h => h) (Or.inl ⟨by rfl, ?_⟩) (by assumption) ?_
      rotate_left
      · intro w hSw; (try dsimp only at hSw); go_simp; (try with_reducible rfl)
      (try simp only [Act.put, List.getElem_toArray, List.getElem_cons_zero, List.getElem_cons_succ, List.setIfInBounds_toArray, List.set_cons_zero, List.set_cons_succ])
      refine wpAnyH_take (i := 16) (oi := _) (v := ?_) rfl (by kernel_rfl) (by kernel_rfl) (by kernel_rfl) (fun _ _ _ h => h) (Or.inl ⟨by rfl, ?_⟩) (by assumption) ?_
      rotate_left
      · intro w hSw; (try dsimp only at hSw); go_simp; (try with_reducible rfl)
      (try simp only [Act.put, List.getElem_toArray, List.getElem_cons_zero, List.getElem_cons_succ, List.setIfInBounds_toArray, List.set_cons_zero, List.set_cons_succ])
      refine wpAnyH_done (by kernel_rfl) ?_ _
      go_wp2
      refine mark_end rfl HK.out ?_
      refine bodyPost_ret (results_tmp rfl _ _ _) rfl ?_
      exact ⟨by rw [HBB.out]; first | rfl | simp, HBE.out⟩
  case stop =>
    rintro D c A hD h hk
    exact h.elim
end
end Go.Proofs.YtbaofpdjfoaiiaaDoor
