/-
  The walk of AddrApart.
-/
import Derived.Test.YtnbocmnfcgjimaaDoorAddrBack
namespace Go.Proofs.YtnbocmnfcgjimaaDoor
open Go.ChangeShapes Go.WideShapes Go.ChangeAt Go.RowKit
set_option linter.unusedVariables false
set_option linter.unusedSimpArgs false

/-- the address of a slot that there is -/
theorem at_parts {t p s k i j : Int} (h : atB t p s k i j = true) : ∃ g z : Nat, pageN t p s = g ∧ sizeN s k = z ∧ (0 ≤ j ∧ j < (slotI k : Int)) ∧ addrB t p s i (j * (z : Int)) = true ∧ atI t p s k i j = addrI t p s i (j * (z : Int)) ∧
    atI t p s k i j = (i + 1) * (g : Int) + j * (z : Int) ∧ 0 ≤ j * (z : Int) ∧ j * (z : Int) + z ≤ (g : Int) ∧ 16 ≤ z ∧ z ≤ 1048576 ∧ 1024 ≤ g ∧ g ≤ 1048576 ∧ g = 2 ^ s.toNat ∧ 10 ≤ s ∧ s ≤ 20 ∧ (0 ≤ k ∧ k < 9) ∧ rightB t p s = true ∧ z = g / slotI k - g / slotI k % 16 ∧ (0 ≤ i ∧ i < 1024) := by
  have hj : 0 ≤ j ∧ j < (slotI k : Int) := by
    by_cases hj : 0 ≤ j ∧ j < (slotI k : Int)
    · exact hj
    · rw [(at_out hj).1] at h; cases h
  have hin := at_in (t := t) (p := p) (s := s) (k := k) (i := i) hj
  rw [hin.1] at h
  obtain ⟨hr, ⟨hi, hi'⟩, ho, ho'⟩ := addr_parts h
  obtain ⟨g, q, hg, rfl, hb, q1, q2, g1, g2, gs, s1, s2, qg⟩ := right_nums hr
  obtain ⟨l, rfl⟩ : ∃ l : Nat, j = l := ⟨j.toNat, by omega⟩
  have hsl := slot_in (s := s) ⟨s1, s2⟩ (k := k) (i := l) (by omega)
  have hps : pageS s = g := by rw [pageS_yes ⟨s1, s2⟩, gs]
  rw [hps] at hsl
  have hk : 0 ≤ k ∧ k < 9 := by
    have := mt (slotI_zero (k := k)).2 (by omega)
    omega
  have e : (((l + 1) * sizeN s k : Nat) : Int) = (l : Int) * (sizeN s k : Int) + (sizeN s k : Int) := by rw [Nat.add_mul, Nat.one_mul]; push_cast; rfl
  refine ⟨g, sizeN s k, hg, rfl, hj, h, hin.2, ?_, ho, by omega, hsl.2.1, sizeN_le s k, g1, g2, gs, s1, s2, hk, hr, ?_, ⟨hi, by omega⟩⟩
  · rw [hin.2]
    unfold addrI
    rw [if_pos h, hg]
  · unfold sizeN; rw [hps]
/-- slots that are unlike have no byte in common -/
theorem slots_apart {t p s k i j k' i' j' : Int} (h : atB t p s k i j = true) (h' : atB t p s k' i' j' = true) (hne : ¬ (k = k' ∧ i = i' ∧ j = j')) (hk : ¬ (k ≠ k' ∧ i = i')) :
    atI t p s k i j + (sizeN s k : Int) ≤ atI t p s k' i' j' ∨ atI t p s k' i' j' + (sizeN s k' : Int) ≤ atI t p s k i j := by
  obtain ⟨g, z, hg, hz, ⟨j0, j1⟩, -, -, ha, a0, a1, z1, -, g1, -⟩ := at_parts h
  obtain ⟨g', y, hg', hy, ⟨j0', j1'⟩, -, -, hb, b0, b1, y1, -, -⟩ := at_parts h'
  obtain rfl : g' = g := hg'.symm.trans hg
  rw [hz, hy, ha, hb]
  rcases Int.lt_trichotomy i i' with hl | hl | hl
  · exact .inl (apart_math (y := 0) hl a0 a1 b0 (by omega))
  · subst hl
    have hkk : k = k' := by
      by_cases e : k = k'
      · exact e
      · exact absurd ⟨e, rfl⟩ hk
    subst hkk
    obtain rfl : y = z := hy.symm.trans hz
    have hjj : j ≠ j' := fun e => hne ⟨rfl, rfl, e⟩
    rcases Int.lt_or_gt_of_ne hjj with hl | hl
    · have := Int.mul_le_mul_of_nonneg_right (show j + 1 ≤ j' by omega) (show (0 : Int) ≤ (y : Int) by omega)
      rw [Int.add_mul, Int.one_mul] at this
      omega
    · have := Int.mul_le_mul_of_nonneg_right (show j' + 1 ≤ j by omega) (show (0 : Int) ≤ (y : Int) by omega)
      rw [Int.add_mul, Int.one_mul] at this
      omega
  · exact .inr (apart_math (y := 0) hl b0 b1 a0 (by omega))
/-- the slot that begins where it is told -/
theorem at_back {t p s k i j : Int} (h : atB t p s k i j = true) : ∃ o : Int, spotP t p s (atI t p s k i j) = i ∧ spotO t p s (atI t p s k i j) = o ∧ spotB t p s (atI t p s k i j) = true ∧ slotR t p s k o = j ∧ slotB t p s k o = true ∧ 0 ≤ o ∧ o ≤ 1048576 ∧ 1024 ≤ atI t p s k i j ∧ atI t p s k i j ≤ 1075838976 := by
  obtain ⟨g, z, hg, hz, ⟨j0, j1⟩, hb, hI, -, a0, a1, -, -, -, g2, -, -, -, -, hr, -⟩ := at_parts h
  obtain ⟨-, c1, c2, c3, c4, c5⟩ := addr_yes hb
  rw [← hI] at c1 c2 c3 c4 c5
  obtain ⟨l, rfl⟩ : ∃ l : Nat, j = l := ⟨j.toNat, by omega⟩
  obtain ⟨s1, s2⟩ := slot_at (k := k) (o := (l : Int) * (z : Int)) hr l (by omega) (by rw [hz])
  exact ⟨_, c2, c3, c1, s2, s1, a0, by omega, c4, c5⟩

set_option maxHeartbeats 1600000 in
theorem lawSlots_c (k : Nat) (hk : k < 9) (w : World) :
    Calls Tryd.prog 18 #[.int .i64 (k : Int)] w fun e w' => e = .returned (.int .i64 ((slotN k : Nat) : Int)) ∧ Below w.heap.size w w' := by
  match k, hk with
  | 0, _ | 1, _ | 2, _ | 3, _ | 4, _ | 5, _ | 6, _ | 7, _ | 8, _ =>
    go_enter Tryd.func18, Tryd.ntmps18
    go_wp2
    go_ret
    exact ⟨rfl, Bnew (B0 _) _⟩

set_option maxHeartbeats 1600000 in
theorem AddrApart_none (t p s k i j k' i' j' : Int) (hk0 : -9223372036854775808 ≤ k) (hk1 : k ≤ 9223372036854775807) (hl0 : -9223372036854775808 ≤ k') (hl1 : k' ≤ 9223372036854775807) (ha : atB t p s k i j = false) (w : World) (hT : SlotsLaid w) :
    Calls Tryd.prog 6 #[.agg #[.int .i64 t, .int .i64 p, .int .i64 s], .agg #[.int .i64 k, .int .i64 i, .int .i64 j], .agg #[.int .i64 k', .int .i64 i', .int .i64 j']] w (Keeps w) := by
  have HA := hidp ha
  clear ha
  have HT0 := hidp (((hT.alloc (.cells #[.int .i64 t, .int .i64 p, .int .i64 s] 23)).alloc (.cells #[.int .i64 k, .int .i64 i, .int .i64 j] 31)).alloc (.cells #[.int .i64 k', .int .i64 i', .int .i64 j'] 31))
  clear hT
  have hc0 := ((Held.new w 23 #[.int .i64 t, .int .i64 p, .int .i64 s]).alloc (.cells #[.int .i64 k, .int .i64 i, .int .i64 j] 31)).alloc (.cells #[.int .i64 k', .int .i64 i', .int .i64 j'] 31)
  have hs0 := (Held.new2 w (.cells #[.int .i64 t, .int .i64 p, .int .i64 s] 23) 31 #[.int .i64 k, .int .i64 i, .int .i64 j]).alloc (.cells #[.int .i64 k', .int .i64 i', .int .i64 j'] 31)
  have ht0 : Held (((w.alloc (.cells #[.int .i64 t, .int .i64 p, .int .i64 s] 23)).alloc (.cells #[.int .i64 k, .int .i64 i, .int .i64 j] 31)).alloc (.cells #[.int .i64 k', .int .i64 i', .int .i64 j'] 31)) (w.heap.size + 1 + 1) 31 #[.int .i64 k', .int .i64 i', .int .i64 j'] := by
    have h := Held.new2 (w.alloc (.cells #[.int .i64 t, .int .i64 p, .int .i64 s] 23)) (.cells #[.int .i64 k, .int .i64 i, .int .i64 j] 31) 31 #[.int .i64 k', .int .i64 i', .int .i64 j']
    rw [show (w.alloc (.cells #[.int .i64 t, .int .i64 p, .int .i64 s] 23)).heap.size = w.heap.size + 1 from by simp] at h
    exact h
  have c1 := hc0.three
  have c2 := hs0.three
  have c3 := ht0.three
  go_enter Tryd.func6, Tryd.ntmps6
  go_wp2_with fail
  refine (adAt_c t p s k i j hk0 hk1 _ HT0.out).mono ?_
  rintro e w1 ⟨rfl, hb1⟩
  rw [HA.out]
  have HT1 := hidp (HT0.out.below hb1)
  have hc1 := hc0.keep hb1
  have hs1 := hs0.keep hb1
  have ht1 := ht0.keep hb1
  clear c1 c2 c3
  have c1 := hc1.three
  have c2 := hs1.three
  have c3 := ht1.three
  go_wp2_with fail
  refine (adAt_c t p s k' i' j' hl0 hl1 _ HT1.out).mono ?_
  rintro e w2 ⟨rfl, hb2⟩
  have HT2 := hidp (HT1.out.below hb2)
  have hc2 := hc1.keep hb2
  have hs2 := hs1.keep hb2
  have ht2 := ht1.keep hb2
  clear c1 c2 c3
  have c1 := hc2.three
  have c2 := hs2.three
  have c3 := ht2.three
  go_wp2_with fail
  refine (live_c _ HT2.out).mono ?_
  rintro e wl ⟨rfl, hbl⟩
  go_wp2
  go_ret
  refine ⟨by first | rfl | simp, ?_⟩
  repeat (first | exact B0 _ | (with_reducible refine Bgo ?_ (by assumption)) | (with_reducible refine Bdrew ?_) | (with_reducible refine Bdraw ?_ _) | (with_reducible refine Bnew ?_ _) | (with_reducible refine Bput ?_ (by first | (simp; done) | (simp; omega)) _))

set_option maxHeartbeats 1600000 in
theorem AddrApart_one (t p s k i j k' i' j' : Int) (hk0 : -9223372036854775808 ≤ k) (hk1 : k ≤ 9223372036854775807) (hl0 : -9223372036854775808 ≤ k') (hl1 : k' ≤ 9223372036854775807) (ha : atB t p s k i j = true) (hb : atB t p s k' i' j' = false) (w : World) (hT : SlotsLaid w) :
    Calls Tryd.prog 6 #[.agg #[.int .i64 t, .int .i64 p, .int .i64 s], .agg #[.int .i64 k, .int .i64 i, .int .i64 j], .agg #[.int .i64 k', .int .i64 i', .int .i64 j']] w (Keeps w) := by
  have HT0 := hidp (((hT.alloc (.cells #[.int .i64 t, .int .i64 p, .int .i64 s] 23)).alloc (.cells #[.int .i64 k, .int .i64 i, .int .i64 j] 31)).alloc (.cells #[.int .i64 k', .int .i64 i', .int .i64 j'] 31))
  clear hT
  have hc0 := ((Held.new w 23 #[.int .i64 t, .int .i64 p, .int .i64 s]).alloc (.cells #[.int .i64 k, .int .i64 i, .int .i64 j] 31)).alloc (.cells #[.int .i64 k', .int .i64 i', .int .i64 j'] 31)
  have hs0 := (Held.new2 w (.cells #[.int .i64 t, .int .i64 p, .int .i64 s] 23) 31 #[.int .i64 k, .int .i64 i, .int .i64 j]).alloc (.cells #[.int .i64 k', .int .i64 i', .int .i64 j'] 31)
  have ht0 : Held (((w.alloc (.cells #[.int .i64 t, .int .i64 p, .int .i64 s] 23)).alloc (.cells #[.int .i64 k, .int .i64 i, .int .i64 j] 31)).alloc (.cells #[.int .i64 k', .int .i64 i', .int .i64 j'] 31)) (w.heap.size + 1 + 1) 31 #[.int .i64 k', .int .i64 i', .int .i64 j'] := by
    have h := Held.new2 (w.alloc (.cells #[.int .i64 t, .int .i64 p, .int .i64 s] 23)) (.cells #[.int .i64 k, .int .i64 i, .int .i64 j] 31) 31 #[.int .i64 k', .int .i64 i', .int .i64 j']
    rw [show (w.alloc (.cells #[.int .i64 t, .int .i64 p, .int .i64 s] 23)).heap.size = w.heap.size + 1 from by simp] at h
    exact h
  have c1 := hc0.three
  have c2 := hs0.three
  have c3 := ht0.three
  obtain ⟨o, e1, e2, e3, e4, e5, o1, o2, a1, a2⟩ := at_back ha
  obtain ⟨a, hA⟩ : ∃ a, atI t p s k i j = a := ⟨_, rfl⟩
  rw [hA] at e1 e2 e3 a1 a2
  have HA := hidp ha
  have HI := hidp hA
  have E1 := hidp e1
  have E2 := hidp e2
  have E3 := hidp e3
  have E4 := hidp e4
  have E5 := hidp e5
  have HB := hidp hb
  clear ha hb hA e1 e2 e3 e4 e5
  go_enter Tryd.func6, Tryd.ntmps6
  go_wp2_with fail
  refine (adAt_c t p s k i j hk0 hk1 _ HT0.out).mono ?_
  rintro e w1 ⟨rfl, hb1⟩
  rw [HI.out, HA.out]
  have HT1 := hidp (HT0.out.below hb1)
  have hc1 := hc0.keep hb1
  have hs1 := hs0.keep hb1
  have ht1 := ht0.keep hb1
  clear c1 c2 c3
  have c1 := hc1.three
  have c2 := hs1.three
  have c3 := ht1.three
  go_wp2_with fail
  refine (adAt_c t p s k' i' j' hl0 hl1 _ HT1.out).mono ?_
  rintro e w2 ⟨rfl, hb2⟩
  rw [HB.out]
  have HT2 := hidp (HT1.out.below hb2)
  have hc2 := hc1.keep hb2
  have hs2 := hs1.keep hb2
  have ht2 := ht1.keep hb2
  clear c1 c2 c3
  have c1 := hc2.three
  have c2 := hs2.three
  have c3 := ht2.three
  go_wp2_with fail
  refine (adPage_c t p s a (by omega) (by omega) _).mono ?_
  rintro e w3 ⟨rfl, hb3⟩
  rw [E1.out, E2.out, E3.out]
  have HT3 := hidp (HT2.out.below hb3)
  have hc3 := hc2.keep hb3
  have hs3 := hs2.keep hb3
  have ht3 := ht2.keep hb3
  clear c1 c2 c3
  have c1 := hc3.three
  have c2 := hs3.three
  have c3 := ht3.three
  go_wp2_with fail
  refine (adSlot_c t p s k o hk0 hk1 (by omega) (by omega) _ HT3.out).mono ?_
  rintro e w4 ⟨rfl, hb4⟩
  rw [E4.out, E5.out]
  have HT4 := hidp (HT3.out.below hb4)
  have hc4 := hc3.keep hb4
  have hs4 := hs3.keep hb4
  have ht4 := ht3.keep hb4
  clear c1 c2 c3
  have c1 := hc4.three
  have c2 := hs4.three
  have c3 := ht4.three
  go_wp2_with fail
  refine (live_c _ HT4.out).mono ?_
  rintro e wl ⟨rfl, hbl⟩
  go_wp2
  go_ret
  refine ⟨by first | rfl | simp, ?_⟩
  repeat (first | exact B0 _ | (with_reducible refine Bgo ?_ (by assumption)) | (with_reducible refine Bdrew ?_) | (with_reducible refine Bdraw ?_ _) | (with_reducible refine Bnew ?_ _) | (with_reducible refine Bput ?_ (by first | (simp; done) | (simp; omega)) _))

set_option maxHeartbeats 1600000 in
theorem AddrApart_same (t p s k i j : Int) (hk0 : -9223372036854775808 ≤ k) (hk1 : k ≤ 9223372036854775807) (ha : atB t p s k i j = true) (w : World) (hT : SlotsLaid w) :
    Calls Tryd.prog 6 #[.agg #[.int .i64 t, .int .i64 p, .int .i64 s], .agg #[.int .i64 k, .int .i64 i, .int .i64 j], .agg #[.int .i64 k, .int .i64 i, .int .i64 j]] w (Keeps w) := by
  have HT0 := hidp (((hT.alloc (.cells #[.int .i64 t, .int .i64 p, .int .i64 s] 23)).alloc (.cells #[.int .i64 k, .int .i64 i, .int .i64 j] 31)).alloc (.cells #[.int .i64 k, .int .i64 i, .int .i64 j] 31))
  clear hT
  have hc0 := ((Held.new w 23 #[.int .i64 t, .int .i64 p, .int .i64 s]).alloc (.cells #[.int .i64 k, .int .i64 i, .int .i64 j] 31)).alloc (.cells #[.int .i64 k, .int .i64 i, .int .i64 j] 31)
  have hs0 := (Held.new2 w (.cells #[.int .i64 t, .int .i64 p, .int .i64 s] 23) 31 #[.int .i64 k, .int .i64 i, .int .i64 j]).alloc (.cells #[.int .i64 k, .int .i64 i, .int .i64 j] 31)
  have ht0 : Held (((w.alloc (.cells #[.int .i64 t, .int .i64 p, .int .i64 s] 23)).alloc (.cells #[.int .i64 k, .int .i64 i, .int .i64 j] 31)).alloc (.cells #[.int .i64 k, .int .i64 i, .int .i64 j] 31)) (w.heap.size + 1 + 1) 31 #[.int .i64 k, .int .i64 i, .int .i64 j] := by
    have h := Held.new2 (w.alloc (.cells #[.int .i64 t, .int .i64 p, .int .i64 s] 23)) (.cells #[.int .i64 k, .int .i64 i, .int .i64 j] 31) 31 #[.int .i64 k, .int .i64 i, .int .i64 j]
    rw [show (w.alloc (.cells #[.int .i64 t, .int .i64 p, .int .i64 s] 23)).heap.size = w.heap.size + 1 from by simp] at h
    exact h
  have c1 := hc0.three
  have c2 := hs0.three
  have c3 := ht0.three
  obtain ⟨o, e1, e2, e3, e4, e5, o1, o2, a1, a2⟩ := at_back ha
  obtain ⟨a, hA⟩ : ∃ a, atI t p s k i j = a := ⟨_, rfl⟩
  rw [hA] at e1 e2 e3 a1 a2
  have HA := hidp ha
  have HI := hidp hA
  have E1 := hidp e1
  have E2 := hidp e2
  have E3 := hidp e3
  have E4 := hidp e4
  have E5 := hidp e5
  clear ha hA e1 e2 e3 e4 e5
  go_enter Tryd.func6, Tryd.ntmps6
  go_wp2_with fail
  refine (adAt_c t p s k i j hk0 hk1 _ HT0.out).mono ?_
  rintro e w1 ⟨rfl, hb1⟩
  rw [HI.out, HA.out]
  have HT1 := hidp (HT0.out.below hb1)
  have hc1 := hc0.keep hb1
  have hs1 := hs0.keep hb1
  have ht1 := ht0.keep hb1
  clear c1 c2 c3
  have c1 := hc1.three
  have c2 := hs1.three
  have c3 := ht1.three
  go_wp2_with fail
  refine (adAt_c t p s k i j hk0 hk1 _ HT1.out).mono ?_
  rintro e w2 ⟨rfl, hb2⟩
  rw [HI.out, HA.out]
  have HT2 := hidp (HT1.out.below hb2)
  have hc2 := hc1.keep hb2
  have hs2 := hs1.keep hb2
  have ht2 := ht1.keep hb2
  clear c1 c2 c3
  have c1 := hc2.three
  have c2 := hs2.three
  have c3 := ht2.three
  go_wp2_with fail
  refine (adPage_c t p s a (by omega) (by omega) _).mono ?_
  rintro e w3 ⟨rfl, hb3⟩
  rw [E1.out, E2.out, E3.out]
  have HT3 := hidp (HT2.out.below hb3)
  have hc3 := hc2.keep hb3
  have hs3 := hs2.keep hb3
  have ht3 := ht2.keep hb3
  clear c1 c2 c3
  have c1 := hc3.three
  have c2 := hs3.three
  have c3 := ht3.three
  go_wp2_with fail
  refine (adSlot_c t p s k o hk0 hk1 (by omega) (by omega) _ HT3.out).mono ?_
  rintro e w4 ⟨rfl, hb4⟩
  rw [E4.out, E5.out]
  have HT4 := hidp (HT3.out.below hb4)
  have hc4 := hc3.keep hb4
  have hs4 := hs3.keep hb4
  have ht4 := ht3.keep hb4
  clear c1 c2 c3
  have c1 := hc4.three
  have c2 := hs4.three
  have c3 := ht4.three
  go_wp2_with fail
  refine (live_c _ HT4.out).mono ?_
  rintro e wl ⟨rfl, hbl⟩
  go_wp2
  go_ret
  refine ⟨by first | rfl | simp, ?_⟩
  repeat (first | exact B0 _ | (with_reducible refine Bgo ?_ (by assumption)) | (with_reducible refine Bdrew ?_) | (with_reducible refine Bdraw ?_ _) | (with_reducible refine Bnew ?_ _) | (with_reducible refine Bput ?_ (by first | (simp; done) | (simp; omega)) _))

set_option maxHeartbeats 1600000 in
theorem AddrApart_page (t p s k i j k' j' : Int) (hk0 : -9223372036854775808 ≤ k) (hk1 : k ≤ 9223372036854775807) (hl0 : -9223372036854775808 ≤ k') (hl1 : k' ≤ 9223372036854775807) (ha : atB t p s k i j = true) (hb : atB t p s k' i j' = true) (hne : k ≠ k') (w : World) (hT : SlotsLaid w) :
    Calls Tryd.prog 6 #[.agg #[.int .i64 t, .int .i64 p, .int .i64 s], .agg #[.int .i64 k, .int .i64 i, .int .i64 j], .agg #[.int .i64 k', .int .i64 i, .int .i64 j']] w (Keeps w) := by
  have HT0 := hidp (((hT.alloc (.cells #[.int .i64 t, .int .i64 p, .int .i64 s] 23)).alloc (.cells #[.int .i64 k, .int .i64 i, .int .i64 j] 31)).alloc (.cells #[.int .i64 k', .int .i64 i, .int .i64 j'] 31))
  clear hT
  have hc0 := ((Held.new w 23 #[.int .i64 t, .int .i64 p, .int .i64 s]).alloc (.cells #[.int .i64 k, .int .i64 i, .int .i64 j] 31)).alloc (.cells #[.int .i64 k', .int .i64 i, .int .i64 j'] 31)
  have hs0 := (Held.new2 w (.cells #[.int .i64 t, .int .i64 p, .int .i64 s] 23) 31 #[.int .i64 k, .int .i64 i, .int .i64 j]).alloc (.cells #[.int .i64 k', .int .i64 i, .int .i64 j'] 31)
  have ht0 : Held (((w.alloc (.cells #[.int .i64 t, .int .i64 p, .int .i64 s] 23)).alloc (.cells #[.int .i64 k, .int .i64 i, .int .i64 j] 31)).alloc (.cells #[.int .i64 k', .int .i64 i, .int .i64 j'] 31)) (w.heap.size + 1 + 1) 31 #[.int .i64 k', .int .i64 i, .int .i64 j'] := by
    have h := Held.new2 (w.alloc (.cells #[.int .i64 t, .int .i64 p, .int .i64 s] 23)) (.cells #[.int .i64 k, .int .i64 i, .int .i64 j] 31) 31 #[.int .i64 k', .int .i64 i, .int .i64 j']
    rw [show (w.alloc (.cells #[.int .i64 t, .int .i64 p, .int .i64 s] 23)).heap.size = w.heap.size + 1 from by simp] at h
    exact h
  have c1 := hc0.three
  have c2 := hs0.three
  have c3 := ht0.three
  obtain ⟨o, e1, e2, e3, e4, e5, o1, o2, a1, a2⟩ := at_back ha
  obtain ⟨a, hA⟩ : ∃ a, atI t p s k i j = a := ⟨_, rfl⟩
  rw [hA] at e1 e2 e3 a1 a2
  have HA := hidp ha
  have HI := hidp hA
  have E1 := hidp e1
  have E2 := hidp e2
  have E3 := hidp e3
  have E4 := hidp e4
  have E5 := hidp e5
  have HB := hidp hb
  have n1 : (k == k') = false := by simpa using hne
  have n2 : (k != k') = true := by simpa using hne
  clear ha hb hA e1 e2 e3 e4 e5 hne
  go_enter Tryd.func6, Tryd.ntmps6
  go_wp2_with fail
  refine (adAt_c t p s k i j hk0 hk1 _ HT0.out).mono ?_
  rintro e w1 ⟨rfl, hb1⟩
  rw [HI.out, HA.out]
  have HT1 := hidp (HT0.out.below hb1)
  have hc1 := hc0.keep hb1
  have hs1 := hs0.keep hb1
  have ht1 := ht0.keep hb1
  clear c1 c2 c3
  have c1 := hc1.three
  have c2 := hs1.three
  have c3 := ht1.three
  go_wp2_with fail
  refine (adAt_c t p s k' i j' hl0 hl1 _ HT1.out).mono ?_
  rintro e w2 ⟨rfl, hb2⟩
  rw [HB.out]
  have HT2 := hidp (HT1.out.below hb2)
  have hc2 := hc1.keep hb2
  have hs2 := hs1.keep hb2
  have ht2 := ht1.keep hb2
  clear c1 c2 c3
  have c1 := hc2.three
  have c2 := hs2.three
  have c3 := ht2.three
  go_wp2_with fail
  refine (adPage_c t p s a (by omega) (by omega) _).mono ?_
  rintro e w3 ⟨rfl, hb3⟩
  rw [E1.out, E2.out, E3.out]
  have HT3 := hidp (HT2.out.below hb3)
  have hc3 := hc2.keep hb3
  have hs3 := hs2.keep hb3
  have ht3 := ht2.keep hb3
  clear c1 c2 c3
  have c1 := hc3.three
  have c2 := hs3.three
  have c3 := ht3.three
  go_wp2_with fail
  refine (adSlot_c t p s k o hk0 hk1 (by omega) (by omega) _ HT3.out).mono ?_
  rintro e w4 ⟨rfl, hb4⟩
  rw [E4.out, E5.out]
  have HT4 := hidp (HT3.out.below hb4)
  have hc4 := hc3.keep hb4
  have hs4 := hs3.keep hb4
  have ht4 := ht3.keep hb4
  clear c1 c2 c3
  have c1 := hc4.three
  have c2 := hs4.three
  have c3 := ht4.three
  go_wp2_with fail
  refine (live_c _ HT4.out).mono ?_
  rintro e wl ⟨rfl, hbl⟩
  go_wp2
  go_ret
  refine ⟨by first | rfl | simp, ?_⟩
  repeat (first | exact B0 _ | (with_reducible refine Bgo ?_ (by assumption)) | (with_reducible refine Bdrew ?_) | (with_reducible refine Bdraw ?_ _) | (with_reducible refine Bnew ?_ _) | (with_reducible refine Bput ?_ (by first | (simp; done) | (simp; omega)) _))

end Go.Proofs.YtnbocmnfcgjimaaDoor
