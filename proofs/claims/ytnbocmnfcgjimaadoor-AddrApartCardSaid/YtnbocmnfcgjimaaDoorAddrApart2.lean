/-
  The walk of AddrApart where both slots are there, and unlike.
-/
import Derived.Test.YtnbocmnfcgjimaaDoorAddrApart
namespace Go.Proofs.YtnbocmnfcgjimaaDoor
open Go.ChangeShapes Go.WideShapes Go.ChangeAt Go.RowKit
set_option linter.unusedVariables false
set_option linter.unusedSimpArgs false

theorem cut16 {g n z : Nat} (hz : z = g / n - g / n % 16) : ∃ q : Nat, (g : Int).tdiv (n : Int) = (q : Int) ∧ (q : Int) / 16 * 16 = (z : Int) ∧ q ≤ g := by
  have h1 : (g : Int).tdiv (n : Int) = ((g / n : Nat) : Int) := by rw [Int.tdiv_eq_ediv_of_nonneg (by omega)]; norm_cast
  have h2 := Nat.div_le_self g n
  generalize g / n = q at *
  exact ⟨q, h1, by omega, h2⟩

set_option maxHeartbeats 3200000 in
theorem AddrApart_aL (t p a b : Int) (u g z y n m : Nat) (k : Nat) (i j i' j' : Int) (ha : atB t p (u : Int) (k : Int) i j = true) (hb : atB t p (u : Int) (k : Int) i' j' = true) (hA : atI t p (u : Int) (k : Int) i j = a) (hB : atI t p (u : Int) (k : Int) i' j' = b) (hk9 : k < 9) (hl9 : k < 9) (b1 : 1024 ≤ b) (b2 : b ≤ 1075838976) (hg : (g : Int) = 2 ^ u) (g1 : 1024 ≤ g) (g2 : g ≤ 1048576) (hu : u ≤ 20)
    (z2 : z ≤ 1048576) (y2 : y ≤ 1048576) (n1 : 2 ≤ n) (n2 : n ≤ 32) (m1 : 2 ≤ m) (m2 : m ≤ 32) (hn : slotN k = n) (hm : slotN k = m) (q1 : Nat) (hq : (g : Int).tdiv (n : Int) = (q1 : Int)) (hq16 : (q1 : Int) / 16 * 16 = (z : Int)) (hq2 : q1 ≤ 1048576) (r1 : Nat) (hr : (g : Int).tdiv (m : Int) = (r1 : Int)) (hr16 : (r1 : Int) / 16 * 16 = (y : Int)) (hr2 : r1 ≤ 1048576) (hii : ¬ i = i') (hlt : a + (z : Int) ≤ b) (w : World) (hT : SlotsLaid w) :
    Calls Tryd.prog 6 #[.agg #[.int .i64 t, .int .i64 p, .int .i64 (u : Int)], .agg #[.int .i64 (k : Int), .int .i64 i, .int .i64 j], .agg #[.int .i64 (k : Int), .int .i64 i', .int .i64 j']] w (Keeps w) := by
  have HT0 := hidp (((hT.alloc (.cells #[.int .i64 t, .int .i64 p, .int .i64 (u : Int)] 23)).alloc (.cells #[.int .i64 (k : Int), .int .i64 i, .int .i64 j] 31)).alloc (.cells #[.int .i64 (k : Int), .int .i64 i', .int .i64 j'] 31))
  clear hT
  have hc0 := ((Held.new w 23 #[.int .i64 t, .int .i64 p, .int .i64 (u : Int)]).alloc (.cells #[.int .i64 (k : Int), .int .i64 i, .int .i64 j] 31)).alloc (.cells #[.int .i64 (k : Int), .int .i64 i', .int .i64 j'] 31)
  have hs0 := (Held.new2 w (.cells #[.int .i64 t, .int .i64 p, .int .i64 (u : Int)] 23) 31 #[.int .i64 (k : Int), .int .i64 i, .int .i64 j]).alloc (.cells #[.int .i64 (k : Int), .int .i64 i', .int .i64 j'] 31)
  have ht0 : Held (((w.alloc (.cells #[.int .i64 t, .int .i64 p, .int .i64 (u : Int)] 23)).alloc (.cells #[.int .i64 (k : Int), .int .i64 i, .int .i64 j] 31)).alloc (.cells #[.int .i64 (k : Int), .int .i64 i', .int .i64 j'] 31)) (w.heap.size + 1 + 1) 31 #[.int .i64 (k : Int), .int .i64 i', .int .i64 j'] := by
    have h := Held.new2 (w.alloc (.cells #[.int .i64 t, .int .i64 p, .int .i64 (u : Int)] 23)) (.cells #[.int .i64 (k : Int), .int .i64 i, .int .i64 j] 31) 31 #[.int .i64 (k : Int), .int .i64 i', .int .i64 j']
    rw [show (w.alloc (.cells #[.int .i64 t, .int .i64 p, .int .i64 (u : Int)] 23)).heap.size = w.heap.size + 1 from by simp] at h
    exact h
  have c1 := hc0.three
  have c2 := hs0.three
  have c3 := ht0.three
  obtain ⟨o, e1, e2, e3, e4, e5, o1, o2, a1, a2⟩ := at_back ha
  rw [hA] at e1 e2 e3 a1 a2
  have HA := hidp ha
  have HI := hidp hA
  have HB := hidp hb
  have HJ := hidp hB
  have E1 := hidp e1
  have E2 := hidp e2
  have E3 := hidp e3
  have E4 := hidp e4
  have E5 := hidp e5
  have HN := hidp hn
  have HM := hidp hm
  have hs := shl_one u hu
  have hg' : ((2 ^ u : Nat) : Int) = (g : Int) := by rw [hg]; norm_cast
  rw [hg'] at hs
  have hw := (IntWalk.i64_left _).symm.trans hs
  have n3 : ¬ n = 0 := by omega
  have n4 : ((n : Int) == 0) = false := by simp; omega
  have m3 : ¬ m = 0 := by omega
  have m4 : ((m : Int) == 0) = false := by simp; omega
  have t1 : decide (a + (z : Int) ≤ b) = true := by simpa using hlt
  
  have s1 : (i == i') = false := by simpa using hii
  clear ha hb hA hB e1 e2 e3 e4 e5 hn hm hg hg' hs
  go_enter Tryd.func6, Tryd.ntmps6
  go_wp2_with fail
  refine (adAt_c t p (u : Int) (k : Int) i j (by omega) (by omega) _ HT0.out).mono ?_
  rintro e w1 ⟨rfl, hb1⟩
  rw [HI.out, HA.out]
  have HT1 := hidp (HT0.out.below hb1)
  have hc1 := hc0.keep hb1
  have hs1 := hs0.keep hb1
  have ht1 := ht0.keep hb1
  clear c1 c2 c3
  have c1 := hc1.three
  have c2 := hs1.three
  have c3 := ht1.three
  go_wp2_with fail
  refine (adAt_c t p (u : Int) (k : Int) i' j' (by omega) (by omega) _ HT1.out).mono ?_
  rintro e w2 ⟨rfl, hb2⟩
  rw [HJ.out, HB.out]
  have HT2 := hidp (HT1.out.below hb2)
  have hc2 := hc1.keep hb2
  have hs2 := hs1.keep hb2
  have ht2 := ht1.keep hb2
  clear c1 c2 c3
  have c1 := hc2.three
  have c2 := hs2.three
  have c3 := ht2.three
  go_wp2_with fail
  refine (adPage_c t p (u : Int) a (by omega) (by omega) _).mono ?_
  rintro e w3 ⟨rfl, hb3⟩
  rw [E1.out, E2.out, E3.out]
  have HT3 := hidp (HT2.out.below hb3)
  have hc3 := hc2.keep hb3
  have hs3 := hs2.keep hb3
  have ht3 := ht2.keep hb3
  clear c1 c2 c3
  have c1 := hc3.three
  have c2 := hs3.three
  have c3 := ht3.three
  go_wp2_with fail
  refine (adSlot_c t p (u : Int) (k : Int) o (by omega) (by omega) (by omega) (by omega) _ HT3.out).mono ?_
  rintro e w4 ⟨rfl, hb4⟩
  rw [E4.out, E5.out]
  have HT4 := hidp (HT3.out.below hb4)
  have hc4 := hc3.keep hb4
  have hs4 := hs3.keep hb4
  have ht4 := ht3.keep hb4
  clear c1 c2 c3
  have c1 := hc4.three
  have c2 := hs4.three
  have c3 := ht4.three
  go_wp2_with fail
  refine (lawSlots_c k hk9 _).mono ?_
  rintro e w5 ⟨rfl, hb5⟩
  rw [HN.out]
  have HT5 := hidp (HT4.out.below hb5)
  have hc5 := hc4.keep hb5
  have hs5 := hs4.keep hb5
  have ht5 := ht4.keep hb5
  clear c1 c2 c3
  have c1 := hc5.three
  have c2 := hs5.three
  have c3 := ht5.three
  go_wp2_with fail
  refine (lawSlots_c k hl9 _).mono ?_
  rintro e w6 ⟨rfl, hb6⟩
  rw [HM.out]
  have HT6 := hidp (HT5.out.below hb6)
  have hc6 := hc5.keep hb6
  have hs6 := hs5.keep hb6
  have ht6 := ht5.keep hb6
  clear c1 c2 c3
  have c1 := hc6.three
  have c2 := hs6.three
  have c3 := ht6.three
  go_wp2_with fail
  refine (live_c _ HT6.out).mono ?_
  rintro e wl ⟨rfl, hbl⟩
  go_wp2
  go_ret
  refine ⟨by first | rfl | simp, ?_⟩
  repeat (first | exact B0 _ | (with_reducible refine Bgo ?_ (by assumption)) | (with_reducible refine Bdrew ?_) | (with_reducible refine Bdraw ?_ _) | (with_reducible refine Bnew ?_ _) | (with_reducible refine Bput ?_ (by first | (simp; done) | (simp; omega)) _))

set_option maxHeartbeats 3200000 in
theorem AddrApart_bL (t p a b : Int) (u g z y n m : Nat) (k k' : Nat) (i j i' j' : Int) (ha : atB t p (u : Int) (k : Int) i j = true) (hb : atB t p (u : Int) (k' : Int) i' j' = true) (hA : atI t p (u : Int) (k : Int) i j = a) (hB : atI t p (u : Int) (k' : Int) i' j' = b) (hk9 : k < 9) (hl9 : k' < 9) (b1 : 1024 ≤ b) (b2 : b ≤ 1075838976) (hg : (g : Int) = 2 ^ u) (g1 : 1024 ≤ g) (g2 : g ≤ 1048576) (hu : u ≤ 20)
    (z2 : z ≤ 1048576) (y2 : y ≤ 1048576) (n1 : 2 ≤ n) (n2 : n ≤ 32) (m1 : 2 ≤ m) (m2 : m ≤ 32) (hn : slotN k = n) (hm : slotN k' = m) (q1 : Nat) (hq : (g : Int).tdiv (n : Int) = (q1 : Int)) (hq16 : (q1 : Int) / 16 * 16 = (z : Int)) (hq2 : q1 ≤ 1048576) (r1 : Nat) (hr : (g : Int).tdiv (m : Int) = (r1 : Int)) (hr16 : (r1 : Int) / 16 * 16 = (y : Int)) (hr2 : r1 ≤ 1048576) (hkk : ¬ k = k') (hii : ¬ i = i') (hlt : a + (z : Int) ≤ b) (w : World) (hT : SlotsLaid w) :
    Calls Tryd.prog 6 #[.agg #[.int .i64 t, .int .i64 p, .int .i64 (u : Int)], .agg #[.int .i64 (k : Int), .int .i64 i, .int .i64 j], .agg #[.int .i64 (k' : Int), .int .i64 i', .int .i64 j']] w (Keeps w) := by
  have HT0 := hidp (((hT.alloc (.cells #[.int .i64 t, .int .i64 p, .int .i64 (u : Int)] 23)).alloc (.cells #[.int .i64 (k : Int), .int .i64 i, .int .i64 j] 31)).alloc (.cells #[.int .i64 (k' : Int), .int .i64 i', .int .i64 j'] 31))
  clear hT
  have hc0 := ((Held.new w 23 #[.int .i64 t, .int .i64 p, .int .i64 (u : Int)]).alloc (.cells #[.int .i64 (k : Int), .int .i64 i, .int .i64 j] 31)).alloc (.cells #[.int .i64 (k' : Int), .int .i64 i', .int .i64 j'] 31)
  have hs0 := (Held.new2 w (.cells #[.int .i64 t, .int .i64 p, .int .i64 (u : Int)] 23) 31 #[.int .i64 (k : Int), .int .i64 i, .int .i64 j]).alloc (.cells #[.int .i64 (k' : Int), .int .i64 i', .int .i64 j'] 31)
  have ht0 : Held (((w.alloc (.cells #[.int .i64 t, .int .i64 p, .int .i64 (u : Int)] 23)).alloc (.cells #[.int .i64 (k : Int), .int .i64 i, .int .i64 j] 31)).alloc (.cells #[.int .i64 (k' : Int), .int .i64 i', .int .i64 j'] 31)) (w.heap.size + 1 + 1) 31 #[.int .i64 (k' : Int), .int .i64 i', .int .i64 j'] := by
    have h := Held.new2 (w.alloc (.cells #[.int .i64 t, .int .i64 p, .int .i64 (u : Int)] 23)) (.cells #[.int .i64 (k : Int), .int .i64 i, .int .i64 j] 31) 31 #[.int .i64 (k' : Int), .int .i64 i', .int .i64 j']
    rw [show (w.alloc (.cells #[.int .i64 t, .int .i64 p, .int .i64 (u : Int)] 23)).heap.size = w.heap.size + 1 from by simp] at h
    exact h
  have c1 := hc0.three
  have c2 := hs0.three
  have c3 := ht0.three
  obtain ⟨o, e1, e2, e3, e4, e5, o1, o2, a1, a2⟩ := at_back ha
  rw [hA] at e1 e2 e3 a1 a2
  have HA := hidp ha
  have HI := hidp hA
  have HB := hidp hb
  have HJ := hidp hB
  have E1 := hidp e1
  have E2 := hidp e2
  have E3 := hidp e3
  have E4 := hidp e4
  have E5 := hidp e5
  have HN := hidp hn
  have HM := hidp hm
  have hs := shl_one u hu
  have hg' : ((2 ^ u : Nat) : Int) = (g : Int) := by rw [hg]; norm_cast
  rw [hg'] at hs
  have hw := (IntWalk.i64_left _).symm.trans hs
  have n3 : ¬ n = 0 := by omega
  have n4 : ((n : Int) == 0) = false := by simp; omega
  have m3 : ¬ m = 0 := by omega
  have m4 : ((m : Int) == 0) = false := by simp; omega
  have t1 : decide (a + (z : Int) ≤ b) = true := by simpa using hlt
  
  have s1 : (i == i') = false := by simpa using hii
  have s2 : ((k : Int) == (k' : Int)) = false := by simp; omega
  have s3 : ((k : Int) != (k' : Int)) = true := by simp; omega
  have s4 : (k == k') = false := by simpa using hkk
  clear ha hb hA hB e1 e2 e3 e4 e5 hn hm hg hg' hs
  go_enter Tryd.func6, Tryd.ntmps6
  go_wp2_with fail
  refine (adAt_c t p (u : Int) (k : Int) i j (by omega) (by omega) _ HT0.out).mono ?_
  rintro e w1 ⟨rfl, hb1⟩
  rw [HI.out, HA.out]
  have HT1 := hidp (HT0.out.below hb1)
  have hc1 := hc0.keep hb1
  have hs1 := hs0.keep hb1
  have ht1 := ht0.keep hb1
  clear c1 c2 c3
  have c1 := hc1.three
  have c2 := hs1.three
  have c3 := ht1.three
  go_wp2_with fail
  refine (adAt_c t p (u : Int) (k' : Int) i' j' (by omega) (by omega) _ HT1.out).mono ?_
  rintro e w2 ⟨rfl, hb2⟩
  rw [HJ.out, HB.out]
  have HT2 := hidp (HT1.out.below hb2)
  have hc2 := hc1.keep hb2
  have hs2 := hs1.keep hb2
  have ht2 := ht1.keep hb2
  clear c1 c2 c3
  have c1 := hc2.three
  have c2 := hs2.three
  have c3 := ht2.three
  go_wp2_with fail
  refine (adPage_c t p (u : Int) a (by omega) (by omega) _).mono ?_
  rintro e w3 ⟨rfl, hb3⟩
  rw [E1.out, E2.out, E3.out]
  have HT3 := hidp (HT2.out.below hb3)
  have hc3 := hc2.keep hb3
  have hs3 := hs2.keep hb3
  have ht3 := ht2.keep hb3
  clear c1 c2 c3
  have c1 := hc3.three
  have c2 := hs3.three
  have c3 := ht3.three
  go_wp2_with fail
  refine (adSlot_c t p (u : Int) (k : Int) o (by omega) (by omega) (by omega) (by omega) _ HT3.out).mono ?_
  rintro e w4 ⟨rfl, hb4⟩
  rw [E4.out, E5.out]
  have HT4 := hidp (HT3.out.below hb4)
  have hc4 := hc3.keep hb4
  have hs4 := hs3.keep hb4
  have ht4 := ht3.keep hb4
  clear c1 c2 c3
  have c1 := hc4.three
  have c2 := hs4.three
  have c3 := ht4.three
  go_wp2_with fail
  refine (lawSlots_c k hk9 _).mono ?_
  rintro e w5 ⟨rfl, hb5⟩
  rw [HN.out]
  have HT5 := hidp (HT4.out.below hb5)
  have hc5 := hc4.keep hb5
  have hs5 := hs4.keep hb5
  have ht5 := ht4.keep hb5
  clear c1 c2 c3
  have c1 := hc5.three
  have c2 := hs5.three
  have c3 := ht5.three
  go_wp2_with fail
  refine (lawSlots_c k' hl9 _).mono ?_
  rintro e w6 ⟨rfl, hb6⟩
  rw [HM.out]
  have HT6 := hidp (HT5.out.below hb6)
  have hc6 := hc5.keep hb6
  have hs6 := hs5.keep hb6
  have ht6 := ht5.keep hb6
  clear c1 c2 c3
  have c1 := hc6.three
  have c2 := hs6.three
  have c3 := ht6.three
  go_wp2_with fail
  refine (live_c _ HT6.out).mono ?_
  rintro e wl ⟨rfl, hbl⟩
  go_wp2
  go_ret
  refine ⟨by first | rfl | simp, ?_⟩
  repeat (first | exact B0 _ | (with_reducible refine Bgo ?_ (by assumption)) | (with_reducible refine Bdrew ?_) | (with_reducible refine Bdraw ?_ _) | (with_reducible refine Bnew ?_ _) | (with_reducible refine Bput ?_ (by first | (simp; done) | (simp; omega)) _))

set_option maxHeartbeats 3200000 in
theorem AddrApart_cL (t p a b : Int) (u g z y n m : Nat) (k : Nat) (i j j' : Int) (ha : atB t p (u : Int) (k : Int) i j = true) (hb : atB t p (u : Int) (k : Int) i j' = true) (hA : atI t p (u : Int) (k : Int) i j = a) (hB : atI t p (u : Int) (k : Int) i j' = b) (hk9 : k < 9) (hl9 : k < 9) (b1 : 1024 ≤ b) (b2 : b ≤ 1075838976) (hg : (g : Int) = 2 ^ u) (g1 : 1024 ≤ g) (g2 : g ≤ 1048576) (hu : u ≤ 20)
    (z2 : z ≤ 1048576) (y2 : y ≤ 1048576) (n1 : 2 ≤ n) (n2 : n ≤ 32) (m1 : 2 ≤ m) (m2 : m ≤ 32) (hn : slotN k = n) (hm : slotN k = m) (q1 : Nat) (hq : (g : Int).tdiv (n : Int) = (q1 : Int)) (hq16 : (q1 : Int) / 16 * 16 = (z : Int)) (hq2 : q1 ≤ 1048576) (r1 : Nat) (hr : (g : Int).tdiv (m : Int) = (r1 : Int)) (hr16 : (r1 : Int) / 16 * 16 = (y : Int)) (hr2 : r1 ≤ 1048576) (hjj : ¬ j = j') (hlt : a + (z : Int) ≤ b) (w : World) (hT : SlotsLaid w) :
    Calls Tryd.prog 6 #[.agg #[.int .i64 t, .int .i64 p, .int .i64 (u : Int)], .agg #[.int .i64 (k : Int), .int .i64 i, .int .i64 j], .agg #[.int .i64 (k : Int), .int .i64 i, .int .i64 j']] w (Keeps w) := by
  have HT0 := hidp (((hT.alloc (.cells #[.int .i64 t, .int .i64 p, .int .i64 (u : Int)] 23)).alloc (.cells #[.int .i64 (k : Int), .int .i64 i, .int .i64 j] 31)).alloc (.cells #[.int .i64 (k : Int), .int .i64 i, .int .i64 j'] 31))
  clear hT
  have hc0 := ((Held.new w 23 #[.int .i64 t, .int .i64 p, .int .i64 (u : Int)]).alloc (.cells #[.int .i64 (k : Int), .int .i64 i, .int .i64 j] 31)).alloc (.cells #[.int .i64 (k : Int), .int .i64 i, .int .i64 j'] 31)
  have hs0 := (Held.new2 w (.cells #[.int .i64 t, .int .i64 p, .int .i64 (u : Int)] 23) 31 #[.int .i64 (k : Int), .int .i64 i, .int .i64 j]).alloc (.cells #[.int .i64 (k : Int), .int .i64 i, .int .i64 j'] 31)
  have ht0 : Held (((w.alloc (.cells #[.int .i64 t, .int .i64 p, .int .i64 (u : Int)] 23)).alloc (.cells #[.int .i64 (k : Int), .int .i64 i, .int .i64 j] 31)).alloc (.cells #[.int .i64 (k : Int), .int .i64 i, .int .i64 j'] 31)) (w.heap.size + 1 + 1) 31 #[.int .i64 (k : Int), .int .i64 i, .int .i64 j'] := by
    have h := Held.new2 (w.alloc (.cells #[.int .i64 t, .int .i64 p, .int .i64 (u : Int)] 23)) (.cells #[.int .i64 (k : Int), .int .i64 i, .int .i64 j] 31) 31 #[.int .i64 (k : Int), .int .i64 i, .int .i64 j']
    rw [show (w.alloc (.cells #[.int .i64 t, .int .i64 p, .int .i64 (u : Int)] 23)).heap.size = w.heap.size + 1 from by simp] at h
    exact h
  have c1 := hc0.three
  have c2 := hs0.three
  have c3 := ht0.three
  obtain ⟨o, e1, e2, e3, e4, e5, o1, o2, a1, a2⟩ := at_back ha
  rw [hA] at e1 e2 e3 a1 a2
  have HA := hidp ha
  have HI := hidp hA
  have HB := hidp hb
  have HJ := hidp hB
  have E1 := hidp e1
  have E2 := hidp e2
  have E3 := hidp e3
  have E4 := hidp e4
  have E5 := hidp e5
  have HN := hidp hn
  have HM := hidp hm
  have hs := shl_one u hu
  have hg' : ((2 ^ u : Nat) : Int) = (g : Int) := by rw [hg]; norm_cast
  rw [hg'] at hs
  have hw := (IntWalk.i64_left _).symm.trans hs
  have n3 : ¬ n = 0 := by omega
  have n4 : ((n : Int) == 0) = false := by simp; omega
  have m3 : ¬ m = 0 := by omega
  have m4 : ((m : Int) == 0) = false := by simp; omega
  have t1 : decide (a + (z : Int) ≤ b) = true := by simpa using hlt
  
  have s1 : (j == j') = false := by simpa using hjj
  clear ha hb hA hB e1 e2 e3 e4 e5 hn hm hg hg' hs
  go_enter Tryd.func6, Tryd.ntmps6
  go_wp2_with fail
  refine (adAt_c t p (u : Int) (k : Int) i j (by omega) (by omega) _ HT0.out).mono ?_
  rintro e w1 ⟨rfl, hb1⟩
  rw [HI.out, HA.out]
  have HT1 := hidp (HT0.out.below hb1)
  have hc1 := hc0.keep hb1
  have hs1 := hs0.keep hb1
  have ht1 := ht0.keep hb1
  clear c1 c2 c3
  have c1 := hc1.three
  have c2 := hs1.three
  have c3 := ht1.three
  go_wp2_with fail
  refine (adAt_c t p (u : Int) (k : Int) i j' (by omega) (by omega) _ HT1.out).mono ?_
  rintro e w2 ⟨rfl, hb2⟩
  rw [HJ.out, HB.out]
  have HT2 := hidp (HT1.out.below hb2)
  have hc2 := hc1.keep hb2
  have hs2 := hs1.keep hb2
  have ht2 := ht1.keep hb2
  clear c1 c2 c3
  have c1 := hc2.three
  have c2 := hs2.three
  have c3 := ht2.three
  go_wp2_with fail
  refine (adPage_c t p (u : Int) a (by omega) (by omega) _).mono ?_
  rintro e w3 ⟨rfl, hb3⟩
  rw [E1.out, E2.out, E3.out]
  have HT3 := hidp (HT2.out.below hb3)
  have hc3 := hc2.keep hb3
  have hs3 := hs2.keep hb3
  have ht3 := ht2.keep hb3
  clear c1 c2 c3
  have c1 := hc3.three
  have c2 := hs3.three
  have c3 := ht3.three
  go_wp2_with fail
  refine (adSlot_c t p (u : Int) (k : Int) o (by omega) (by omega) (by omega) (by omega) _ HT3.out).mono ?_
  rintro e w4 ⟨rfl, hb4⟩
  rw [E4.out, E5.out]
  have HT4 := hidp (HT3.out.below hb4)
  have hc4 := hc3.keep hb4
  have hs4 := hs3.keep hb4
  have ht4 := ht3.keep hb4
  clear c1 c2 c3
  have c1 := hc4.three
  have c2 := hs4.three
  have c3 := ht4.three
  go_wp2_with fail
  refine (lawSlots_c k hk9 _).mono ?_
  rintro e w5 ⟨rfl, hb5⟩
  rw [HN.out]
  have HT5 := hidp (HT4.out.below hb5)
  have hc5 := hc4.keep hb5
  have hs5 := hs4.keep hb5
  have ht5 := ht4.keep hb5
  clear c1 c2 c3
  have c1 := hc5.three
  have c2 := hs5.three
  have c3 := ht5.three
  go_wp2_with fail
  refine (lawSlots_c k hl9 _).mono ?_
  rintro e w6 ⟨rfl, hb6⟩
  rw [HM.out]
  have HT6 := hidp (HT5.out.below hb6)
  have hc6 := hc5.keep hb6
  have hs6 := hs5.keep hb6
  have ht6 := ht5.keep hb6
  clear c1 c2 c3
  have c1 := hc6.three
  have c2 := hs6.three
  have c3 := ht6.three
  go_wp2_with fail
  refine (live_c _ HT6.out).mono ?_
  rintro e wl ⟨rfl, hbl⟩
  go_wp2
  go_ret
  refine ⟨by first | rfl | simp, ?_⟩
  repeat (first | exact B0 _ | (with_reducible refine Bgo ?_ (by assumption)) | (with_reducible refine Bdrew ?_) | (with_reducible refine Bdraw ?_ _) | (with_reducible refine Bnew ?_ _) | (with_reducible refine Bput ?_ (by first | (simp; done) | (simp; omega)) _))

set_option maxHeartbeats 3200000 in
theorem AddrApart_aR (t p a b : Int) (u g z y n m : Nat) (k : Nat) (i j i' j' : Int) (ha : atB t p (u : Int) (k : Int) i j = true) (hb : atB t p (u : Int) (k : Int) i' j' = true) (hA : atI t p (u : Int) (k : Int) i j = a) (hB : atI t p (u : Int) (k : Int) i' j' = b) (hk9 : k < 9) (hl9 : k < 9) (b1 : 1024 ≤ b) (b2 : b ≤ 1075838976) (hg : (g : Int) = 2 ^ u) (g1 : 1024 ≤ g) (g2 : g ≤ 1048576) (hu : u ≤ 20)
    (z2 : z ≤ 1048576) (y2 : y ≤ 1048576) (n1 : 2 ≤ n) (n2 : n ≤ 32) (m1 : 2 ≤ m) (m2 : m ≤ 32) (hn : slotN k = n) (hm : slotN k = m) (q1 : Nat) (hq : (g : Int).tdiv (n : Int) = (q1 : Int)) (hq16 : (q1 : Int) / 16 * 16 = (z : Int)) (hq2 : q1 ≤ 1048576) (r1 : Nat) (hr : (g : Int).tdiv (m : Int) = (r1 : Int)) (hr16 : (r1 : Int) / 16 * 16 = (y : Int)) (hr2 : r1 ≤ 1048576) (hii : ¬ i = i') (hnlt : ¬ a + (z : Int) ≤ b) (hlt : b + (y : Int) ≤ a) (w : World) (hT : SlotsLaid w) :
    Calls Tryd.prog 6 #[.agg #[.int .i64 t, .int .i64 p, .int .i64 (u : Int)], .agg #[.int .i64 (k : Int), .int .i64 i, .int .i64 j], .agg #[.int .i64 (k : Int), .int .i64 i', .int .i64 j']] w (Keeps w) := by
  have HT0 := hidp (((hT.alloc (.cells #[.int .i64 t, .int .i64 p, .int .i64 (u : Int)] 23)).alloc (.cells #[.int .i64 (k : Int), .int .i64 i, .int .i64 j] 31)).alloc (.cells #[.int .i64 (k : Int), .int .i64 i', .int .i64 j'] 31))
  clear hT
  have hc0 := ((Held.new w 23 #[.int .i64 t, .int .i64 p, .int .i64 (u : Int)]).alloc (.cells #[.int .i64 (k : Int), .int .i64 i, .int .i64 j] 31)).alloc (.cells #[.int .i64 (k : Int), .int .i64 i', .int .i64 j'] 31)
  have hs0 := (Held.new2 w (.cells #[.int .i64 t, .int .i64 p, .int .i64 (u : Int)] 23) 31 #[.int .i64 (k : Int), .int .i64 i, .int .i64 j]).alloc (.cells #[.int .i64 (k : Int), .int .i64 i', .int .i64 j'] 31)
  have ht0 : Held (((w.alloc (.cells #[.int .i64 t, .int .i64 p, .int .i64 (u : Int)] 23)).alloc (.cells #[.int .i64 (k : Int), .int .i64 i, .int .i64 j] 31)).alloc (.cells #[.int .i64 (k : Int), .int .i64 i', .int .i64 j'] 31)) (w.heap.size + 1 + 1) 31 #[.int .i64 (k : Int), .int .i64 i', .int .i64 j'] := by
    have h := Held.new2 (w.alloc (.cells #[.int .i64 t, .int .i64 p, .int .i64 (u : Int)] 23)) (.cells #[.int .i64 (k : Int), .int .i64 i, .int .i64 j] 31) 31 #[.int .i64 (k : Int), .int .i64 i', .int .i64 j']
    rw [show (w.alloc (.cells #[.int .i64 t, .int .i64 p, .int .i64 (u : Int)] 23)).heap.size = w.heap.size + 1 from by simp] at h
    exact h
  have c1 := hc0.three
  have c2 := hs0.three
  have c3 := ht0.three
  obtain ⟨o, e1, e2, e3, e4, e5, o1, o2, a1, a2⟩ := at_back ha
  rw [hA] at e1 e2 e3 a1 a2
  have HA := hidp ha
  have HI := hidp hA
  have HB := hidp hb
  have HJ := hidp hB
  have E1 := hidp e1
  have E2 := hidp e2
  have E3 := hidp e3
  have E4 := hidp e4
  have E5 := hidp e5
  have HN := hidp hn
  have HM := hidp hm
  have hs := shl_one u hu
  have hg' : ((2 ^ u : Nat) : Int) = (g : Int) := by rw [hg]; norm_cast
  rw [hg'] at hs
  have hw := (IntWalk.i64_left _).symm.trans hs
  have n3 : ¬ n = 0 := by omega
  have n4 : ((n : Int) == 0) = false := by simp; omega
  have m3 : ¬ m = 0 := by omega
  have m4 : ((m : Int) == 0) = false := by simp; omega
  have t1 : decide (a + (z : Int) ≤ b) = false := by simpa using hnlt
  have t2 : decide (b + (y : Int) ≤ a) = true := by simpa using hlt
  have s1 : (i == i') = false := by simpa using hii
  clear ha hb hA hB e1 e2 e3 e4 e5 hn hm hg hg' hs
  go_enter Tryd.func6, Tryd.ntmps6
  go_wp2_with fail
  refine (adAt_c t p (u : Int) (k : Int) i j (by omega) (by omega) _ HT0.out).mono ?_
  rintro e w1 ⟨rfl, hb1⟩
  rw [HI.out, HA.out]
  have HT1 := hidp (HT0.out.below hb1)
  have hc1 := hc0.keep hb1
  have hs1 := hs0.keep hb1
  have ht1 := ht0.keep hb1
  clear c1 c2 c3
  have c1 := hc1.three
  have c2 := hs1.three
  have c3 := ht1.three
  go_wp2_with fail
  refine (adAt_c t p (u : Int) (k : Int) i' j' (by omega) (by omega) _ HT1.out).mono ?_
  rintro e w2 ⟨rfl, hb2⟩
  rw [HJ.out, HB.out]
  have HT2 := hidp (HT1.out.below hb2)
  have hc2 := hc1.keep hb2
  have hs2 := hs1.keep hb2
  have ht2 := ht1.keep hb2
  clear c1 c2 c3
  have c1 := hc2.three
  have c2 := hs2.three
  have c3 := ht2.three
  go_wp2_with fail
  refine (adPage_c t p (u : Int) a (by omega) (by omega) _).mono ?_
  rintro e w3 ⟨rfl, hb3⟩
  rw [E1.out, E2.out, E3.out]
  have HT3 := hidp (HT2.out.below hb3)
  have hc3 := hc2.keep hb3
  have hs3 := hs2.keep hb3
  have ht3 := ht2.keep hb3
  clear c1 c2 c3
  have c1 := hc3.three
  have c2 := hs3.three
  have c3 := ht3.three
  go_wp2_with fail
  refine (adSlot_c t p (u : Int) (k : Int) o (by omega) (by omega) (by omega) (by omega) _ HT3.out).mono ?_
  rintro e w4 ⟨rfl, hb4⟩
  rw [E4.out, E5.out]
  have HT4 := hidp (HT3.out.below hb4)
  have hc4 := hc3.keep hb4
  have hs4 := hs3.keep hb4
  have ht4 := ht3.keep hb4
  clear c1 c2 c3
  have c1 := hc4.three
  have c2 := hs4.three
  have c3 := ht4.three
  go_wp2_with fail
  refine (lawSlots_c k hk9 _).mono ?_
  rintro e w5 ⟨rfl, hb5⟩
  rw [HN.out]
  have HT5 := hidp (HT4.out.below hb5)
  have hc5 := hc4.keep hb5
  have hs5 := hs4.keep hb5
  have ht5 := ht4.keep hb5
  clear c1 c2 c3
  have c1 := hc5.three
  have c2 := hs5.three
  have c3 := ht5.three
  go_wp2_with fail
  refine (lawSlots_c k hl9 _).mono ?_
  rintro e w6 ⟨rfl, hb6⟩
  rw [HM.out]
  have HT6 := hidp (HT5.out.below hb6)
  have hc6 := hc5.keep hb6
  have hs6 := hs5.keep hb6
  have ht6 := ht5.keep hb6
  clear c1 c2 c3
  have c1 := hc6.three
  have c2 := hs6.three
  have c3 := ht6.three
  go_wp2_with fail
  refine (live_c _ HT6.out).mono ?_
  rintro e wl ⟨rfl, hbl⟩
  go_wp2
  go_ret
  refine ⟨by first | rfl | simp, ?_⟩
  repeat (first | exact B0 _ | (with_reducible refine Bgo ?_ (by assumption)) | (with_reducible refine Bdrew ?_) | (with_reducible refine Bdraw ?_ _) | (with_reducible refine Bnew ?_ _) | (with_reducible refine Bput ?_ (by first | (simp; done) | (simp; omega)) _))

set_option maxHeartbeats 3200000 in
theorem AddrApart_bR (t p a b : Int) (u g z y n m : Nat) (k k' : Nat) (i j i' j' : Int) (ha : atB t p (u : Int) (k : Int) i j = true) (hb : atB t p (u : Int) (k' : Int) i' j' = true) (hA : atI t p (u : Int) (k : Int) i j = a) (hB : atI t p (u : Int) (k' : Int) i' j' = b) (hk9 : k < 9) (hl9 : k' < 9) (b1 : 1024 ≤ b) (b2 : b ≤ 1075838976) (hg : (g : Int) = 2 ^ u) (g1 : 1024 ≤ g) (g2 : g ≤ 1048576) (hu : u ≤ 20)
    (z2 : z ≤ 1048576) (y2 : y ≤ 1048576) (n1 : 2 ≤ n) (n2 : n ≤ 32) (m1 : 2 ≤ m) (m2 : m ≤ 32) (hn : slotN k = n) (hm : slotN k' = m) (q1 : Nat) (hq : (g : Int).tdiv (n : Int) = (q1 : Int)) (hq16 : (q1 : Int) / 16 * 16 = (z : Int)) (hq2 : q1 ≤ 1048576) (r1 : Nat) (hr : (g : Int).tdiv (m : Int) = (r1 : Int)) (hr16 : (r1 : Int) / 16 * 16 = (y : Int)) (hr2 : r1 ≤ 1048576) (hkk : ¬ k = k') (hii : ¬ i = i') (hnlt : ¬ a + (z : Int) ≤ b) (hlt : b + (y : Int) ≤ a) (w : World) (hT : SlotsLaid w) :
    Calls Tryd.prog 6 #[.agg #[.int .i64 t, .int .i64 p, .int .i64 (u : Int)], .agg #[.int .i64 (k : Int), .int .i64 i, .int .i64 j], .agg #[.int .i64 (k' : Int), .int .i64 i', .int .i64 j']] w (Keeps w) := by
  have HT0 := hidp (((hT.alloc (.cells #[.int .i64 t, .int .i64 p, .int .i64 (u : Int)] 23)).alloc (.cells #[.int .i64 (k : Int), .int .i64 i, .int .i64 j] 31)).alloc (.cells #[.int .i64 (k' : Int), .int .i64 i', .int .i64 j'] 31))
  clear hT
  have hc0 := ((Held.new w 23 #[.int .i64 t, .int .i64 p, .int .i64 (u : Int)]).alloc (.cells #[.int .i64 (k : Int), .int .i64 i, .int .i64 j] 31)).alloc (.cells #[.int .i64 (k' : Int), .int .i64 i', .int .i64 j'] 31)
  have hs0 := (Held.new2 w (.cells #[.int .i64 t, .int .i64 p, .int .i64 (u : Int)] 23) 31 #[.int .i64 (k : Int), .int .i64 i, .int .i64 j]).alloc (.cells #[.int .i64 (k' : Int), .int .i64 i', .int .i64 j'] 31)
  have ht0 : Held (((w.alloc (.cells #[.int .i64 t, .int .i64 p, .int .i64 (u : Int)] 23)).alloc (.cells #[.int .i64 (k : Int), .int .i64 i, .int .i64 j] 31)).alloc (.cells #[.int .i64 (k' : Int), .int .i64 i', .int .i64 j'] 31)) (w.heap.size + 1 + 1) 31 #[.int .i64 (k' : Int), .int .i64 i', .int .i64 j'] := by
    have h := Held.new2 (w.alloc (.cells #[.int .i64 t, .int .i64 p, .int .i64 (u : Int)] 23)) (.cells #[.int .i64 (k : Int), .int .i64 i, .int .i64 j] 31) 31 #[.int .i64 (k' : Int), .int .i64 i', .int .i64 j']
    rw [show (w.alloc (.cells #[.int .i64 t, .int .i64 p, .int .i64 (u : Int)] 23)).heap.size = w.heap.size + 1 from by simp] at h
    exact h
  have c1 := hc0.three
  have c2 := hs0.three
  have c3 := ht0.three
  obtain ⟨o, e1, e2, e3, e4, e5, o1, o2, a1, a2⟩ := at_back ha
  rw [hA] at e1 e2 e3 a1 a2
  have HA := hidp ha
  have HI := hidp hA
  have HB := hidp hb
  have HJ := hidp hB
  have E1 := hidp e1
  have E2 := hidp e2
  have E3 := hidp e3
  have E4 := hidp e4
  have E5 := hidp e5
  have HN := hidp hn
  have HM := hidp hm
  have hs := shl_one u hu
  have hg' : ((2 ^ u : Nat) : Int) = (g : Int) := by rw [hg]; norm_cast
  rw [hg'] at hs
  have hw := (IntWalk.i64_left _).symm.trans hs
  have n3 : ¬ n = 0 := by omega
  have n4 : ((n : Int) == 0) = false := by simp; omega
  have m3 : ¬ m = 0 := by omega
  have m4 : ((m : Int) == 0) = false := by simp; omega
  have t1 : decide (a + (z : Int) ≤ b) = false := by simpa using hnlt
  have t2 : decide (b + (y : Int) ≤ a) = true := by simpa using hlt
  have s1 : (i == i') = false := by simpa using hii
  have s2 : ((k : Int) == (k' : Int)) = false := by simp; omega
  have s3 : ((k : Int) != (k' : Int)) = true := by simp; omega
  have s4 : (k == k') = false := by simpa using hkk
  clear ha hb hA hB e1 e2 e3 e4 e5 hn hm hg hg' hs
  go_enter Tryd.func6, Tryd.ntmps6
  go_wp2_with fail
  refine (adAt_c t p (u : Int) (k : Int) i j (by omega) (by omega) _ HT0.out).mono ?_
  rintro e w1 ⟨rfl, hb1⟩
  rw [HI.out, HA.out]
  have HT1 := hidp (HT0.out.below hb1)
  have hc1 := hc0.keep hb1
  have hs1 := hs0.keep hb1
  have ht1 := ht0.keep hb1
  clear c1 c2 c3
  have c1 := hc1.three
  have c2 := hs1.three
  have c3 := ht1.three
  go_wp2_with fail
  refine (adAt_c t p (u : Int) (k' : Int) i' j' (by omega) (by omega) _ HT1.out).mono ?_
  rintro e w2 ⟨rfl, hb2⟩
  rw [HJ.out, HB.out]
  have HT2 := hidp (HT1.out.below hb2)
  have hc2 := hc1.keep hb2
  have hs2 := hs1.keep hb2
  have ht2 := ht1.keep hb2
  clear c1 c2 c3
  have c1 := hc2.three
  have c2 := hs2.three
  have c3 := ht2.three
  go_wp2_with fail
  refine (adPage_c t p (u : Int) a (by omega) (by omega) _).mono ?_
  rintro e w3 ⟨rfl, hb3⟩
  rw [E1.out, E2.out, E3.out]
  have HT3 := hidp (HT2.out.below hb3)
  have hc3 := hc2.keep hb3
  have hs3 := hs2.keep hb3
  have ht3 := ht2.keep hb3
  clear c1 c2 c3
  have c1 := hc3.three
  have c2 := hs3.three
  have c3 := ht3.three
  go_wp2_with fail
  refine (adSlot_c t p (u : Int) (k : Int) o (by omega) (by omega) (by omega) (by omega) _ HT3.out).mono ?_
  rintro e w4 ⟨rfl, hb4⟩
  rw [E4.out, E5.out]
  have HT4 := hidp (HT3.out.below hb4)
  have hc4 := hc3.keep hb4
  have hs4 := hs3.keep hb4
  have ht4 := ht3.keep hb4
  clear c1 c2 c3
  have c1 := hc4.three
  have c2 := hs4.three
  have c3 := ht4.three
  go_wp2_with fail
  refine (lawSlots_c k hk9 _).mono ?_
  rintro e w5 ⟨rfl, hb5⟩
  rw [HN.out]
  have HT5 := hidp (HT4.out.below hb5)
  have hc5 := hc4.keep hb5
  have hs5 := hs4.keep hb5
  have ht5 := ht4.keep hb5
  clear c1 c2 c3
  have c1 := hc5.three
  have c2 := hs5.three
  have c3 := ht5.three
  go_wp2_with fail
  refine (lawSlots_c k' hl9 _).mono ?_
  rintro e w6 ⟨rfl, hb6⟩
  rw [HM.out]
  have HT6 := hidp (HT5.out.below hb6)
  have hc6 := hc5.keep hb6
  have hs6 := hs5.keep hb6
  have ht6 := ht5.keep hb6
  clear c1 c2 c3
  have c1 := hc6.three
  have c2 := hs6.three
  have c3 := ht6.three
  go_wp2_with fail
  refine (live_c _ HT6.out).mono ?_
  rintro e wl ⟨rfl, hbl⟩
  go_wp2
  go_ret
  refine ⟨by first | rfl | simp, ?_⟩
  repeat (first | exact B0 _ | (with_reducible refine Bgo ?_ (by assumption)) | (with_reducible refine Bdrew ?_) | (with_reducible refine Bdraw ?_ _) | (with_reducible refine Bnew ?_ _) | (with_reducible refine Bput ?_ (by first | (simp; done) | (simp; omega)) _))

set_option maxHeartbeats 3200000 in
theorem AddrApart_cR (t p a b : Int) (u g z y n m : Nat) (k : Nat) (i j j' : Int) (ha : atB t p (u : Int) (k : Int) i j = true) (hb : atB t p (u : Int) (k : Int) i j' = true) (hA : atI t p (u : Int) (k : Int) i j = a) (hB : atI t p (u : Int) (k : Int) i j' = b) (hk9 : k < 9) (hl9 : k < 9) (b1 : 1024 ≤ b) (b2 : b ≤ 1075838976) (hg : (g : Int) = 2 ^ u) (g1 : 1024 ≤ g) (g2 : g ≤ 1048576) (hu : u ≤ 20)
    (z2 : z ≤ 1048576) (y2 : y ≤ 1048576) (n1 : 2 ≤ n) (n2 : n ≤ 32) (m1 : 2 ≤ m) (m2 : m ≤ 32) (hn : slotN k = n) (hm : slotN k = m) (q1 : Nat) (hq : (g : Int).tdiv (n : Int) = (q1 : Int)) (hq16 : (q1 : Int) / 16 * 16 = (z : Int)) (hq2 : q1 ≤ 1048576) (r1 : Nat) (hr : (g : Int).tdiv (m : Int) = (r1 : Int)) (hr16 : (r1 : Int) / 16 * 16 = (y : Int)) (hr2 : r1 ≤ 1048576) (hjj : ¬ j = j') (hnlt : ¬ a + (z : Int) ≤ b) (hlt : b + (y : Int) ≤ a) (w : World) (hT : SlotsLaid w) :
    Calls Tryd.prog 6 #[.agg #[.int .i64 t, .int .i64 p, .int .i64 (u : Int)], .agg #[.int .i64 (k : Int), .int .i64 i, .int .i64 j], .agg #[.int .i64 (k : Int), .int .i64 i, .int .i64 j']] w (Keeps w) := by
  have HT0 := hidp (((hT.alloc (.cells #[.int .i64 t, .int .i64 p, .int .i64 (u : Int)] 23)).alloc (.cells #[.int .i64 (k : Int), .int .i64 i, .int .i64 j] 31)).alloc (.cells #[.int .i64 (k : Int), .int .i64 i, .int .i64 j'] 31))
  clear hT
  have hc0 := ((Held.new w 23 #[.int .i64 t, .int .i64 p, .int .i64 (u : Int)]).alloc (.cells #[.int .i64 (k : Int), .int .i64 i, .int .i64 j] 31)).alloc (.cells #[.int .i64 (k : Int), .int .i64 i, .int .i64 j'] 31)
  have hs0 := (Held.new2 w (.cells #[.int .i64 t, .int .i64 p, .int .i64 (u : Int)] 23) 31 #[.int .i64 (k : Int), .int .i64 i, .int .i64 j]).alloc (.cells #[.int .i64 (k : Int), .int .i64 i, .int .i64 j'] 31)
  have ht0 : Held (((w.alloc (.cells #[.int .i64 t, .int .i64 p, .int .i64 (u : Int)] 23)).alloc (.cells #[.int .i64 (k : Int), .int .i64 i, .int .i64 j] 31)).alloc (.cells #[.int .i64 (k : Int), .int .i64 i, .int .i64 j'] 31)) (w.heap.size + 1 + 1) 31 #[.int .i64 (k : Int), .int .i64 i, .int .i64 j'] := by
    have h := Held.new2 (w.alloc (.cells #[.int .i64 t, .int .i64 p, .int .i64 (u : Int)] 23)) (.cells #[.int .i64 (k : Int), .int .i64 i, .int .i64 j] 31) 31 #[.int .i64 (k : Int), .int .i64 i, .int .i64 j']
    rw [show (w.alloc (.cells #[.int .i64 t, .int .i64 p, .int .i64 (u : Int)] 23)).heap.size = w.heap.size + 1 from by simp] at h
    exact h
  have c1 := hc0.three
  have c2 := hs0.three
  have c3 := ht0.three
  obtain ⟨o, e1, e2, e3, e4, e5, o1, o2, a1, a2⟩ := at_back ha
  rw [hA] at e1 e2 e3 a1 a2
  have HA := hidp ha
  have HI := hidp hA
  have HB := hidp hb
  have HJ := hidp hB
  have E1 := hidp e1
  have E2 := hidp e2
  have E3 := hidp e3
  have E4 := hidp e4
  have E5 := hidp e5
  have HN := hidp hn
  have HM := hidp hm
  have hs := shl_one u hu
  have hg' : ((2 ^ u : Nat) : Int) = (g : Int) := by rw [hg]; norm_cast
  rw [hg'] at hs
  have hw := (IntWalk.i64_left _).symm.trans hs
  have n3 : ¬ n = 0 := by omega
  have n4 : ((n : Int) == 0) = false := by simp; omega
  have m3 : ¬ m = 0 := by omega
  have m4 : ((m : Int) == 0) = false := by simp; omega
  have t1 : decide (a + (z : Int) ≤ b) = false := by simpa using hnlt
  have t2 : decide (b + (y : Int) ≤ a) = true := by simpa using hlt
  have s1 : (j == j') = false := by simpa using hjj
  clear ha hb hA hB e1 e2 e3 e4 e5 hn hm hg hg' hs
  go_enter Tryd.func6, Tryd.ntmps6
  go_wp2_with fail
  refine (adAt_c t p (u : Int) (k : Int) i j (by omega) (by omega) _ HT0.out).mono ?_
  rintro e w1 ⟨rfl, hb1⟩
  rw [HI.out, HA.out]
  have HT1 := hidp (HT0.out.below hb1)
  have hc1 := hc0.keep hb1
  have hs1 := hs0.keep hb1
  have ht1 := ht0.keep hb1
  clear c1 c2 c3
  have c1 := hc1.three
  have c2 := hs1.three
  have c3 := ht1.three
  go_wp2_with fail
  refine (adAt_c t p (u : Int) (k : Int) i j' (by omega) (by omega) _ HT1.out).mono ?_
  rintro e w2 ⟨rfl, hb2⟩
  rw [HJ.out, HB.out]
  have HT2 := hidp (HT1.out.below hb2)
  have hc2 := hc1.keep hb2
  have hs2 := hs1.keep hb2
  have ht2 := ht1.keep hb2
  clear c1 c2 c3
  have c1 := hc2.three
  have c2 := hs2.three
  have c3 := ht2.three
  go_wp2_with fail
  refine (adPage_c t p (u : Int) a (by omega) (by omega) _).mono ?_
  rintro e w3 ⟨rfl, hb3⟩
  rw [E1.out, E2.out, E3.out]
  have HT3 := hidp (HT2.out.below hb3)
  have hc3 := hc2.keep hb3
  have hs3 := hs2.keep hb3
  have ht3 := ht2.keep hb3
  clear c1 c2 c3
  have c1 := hc3.three
  have c2 := hs3.three
  have c3 := ht3.three
  go_wp2_with fail
  refine (adSlot_c t p (u : Int) (k : Int) o (by omega) (by omega) (by omega) (by omega) _ HT3.out).mono ?_
  rintro e w4 ⟨rfl, hb4⟩
  rw [E4.out, E5.out]
  have HT4 := hidp (HT3.out.below hb4)
  have hc4 := hc3.keep hb4
  have hs4 := hs3.keep hb4
  have ht4 := ht3.keep hb4
  clear c1 c2 c3
  have c1 := hc4.three
  have c2 := hs4.three
  have c3 := ht4.three
  go_wp2_with fail
  refine (lawSlots_c k hk9 _).mono ?_
  rintro e w5 ⟨rfl, hb5⟩
  rw [HN.out]
  have HT5 := hidp (HT4.out.below hb5)
  have hc5 := hc4.keep hb5
  have hs5 := hs4.keep hb5
  have ht5 := ht4.keep hb5
  clear c1 c2 c3
  have c1 := hc5.three
  have c2 := hs5.three
  have c3 := ht5.three
  go_wp2_with fail
  refine (lawSlots_c k hl9 _).mono ?_
  rintro e w6 ⟨rfl, hb6⟩
  rw [HM.out]
  have HT6 := hidp (HT5.out.below hb6)
  have hc6 := hc5.keep hb6
  have hs6 := hs5.keep hb6
  have ht6 := ht5.keep hb6
  clear c1 c2 c3
  have c1 := hc6.three
  have c2 := hs6.three
  have c3 := ht6.three
  go_wp2_with fail
  refine (live_c _ HT6.out).mono ?_
  rintro e wl ⟨rfl, hbl⟩
  go_wp2
  go_ret
  refine ⟨by first | rfl | simp, ?_⟩
  repeat (first | exact B0 _ | (with_reducible refine Bgo ?_ (by assumption)) | (with_reducible refine Bdrew ?_) | (with_reducible refine Bdraw ?_ _) | (with_reducible refine Bnew ?_ _) | (with_reducible refine Bput ?_ (by first | (simp; done) | (simp; omega)) _))

theorem AddrApart_calls (t p s k i j k' i' j' : Int) (hk0 : -9223372036854775808 ≤ k) (hk1 : k ≤ 9223372036854775807) (hi0 : -9223372036854775808 ≤ i) (hi1 : i ≤ 9223372036854775807) (hj0 : -9223372036854775808 ≤ j) (hj1 : j ≤ 9223372036854775807) (hl0 : -9223372036854775808 ≤ k') (hl1 : k' ≤ 9223372036854775807) (hm0 : -9223372036854775808 ≤ i') (hm1 : i' ≤ 9223372036854775807) (ho0 : -9223372036854775808 ≤ j') (ho1 : j' ≤ 9223372036854775807) (w : World) (hT : SlotsLaid w) :
    Calls Tryd.prog 6 #[.agg #[.int .i64 t, .int .i64 p, .int .i64 s], .agg #[.int .i64 k, .int .i64 i, .int .i64 j], .agg #[.int .i64 k', .int .i64 i', .int .i64 j']] w (Keeps w) := by
  cases ha : atB t p s k i j
  · exact AddrApart_none t p s k i j k' i' j' hk0 hk1 hl0 hl1 ha w hT
  cases hb : atB t p s k' i' j'
  · exact AddrApart_one t p s k i j k' i' j' hk0 hk1 hl0 hl1 ha hb w hT
  by_cases hkk : k = k'
  · subst hkk
    by_cases hii : i = i'
    · subst hii
      by_cases hjj : j = j'
      · subst hjj
        exact AddrApart_same t p s k i j hk0 hk1 ha w hT
      · obtain ⟨g, z, hg0, hz, -, -, -, -, -, -, -, z2, g1, g2, gs, s1, s2, ⟨k1, k2⟩, -, hcz, -⟩ := at_parts ha
        obtain ⟨g', y, hg0', hy, -, -, -, -, -, -, -, y2, -, -, -, -, -, ⟨l1, l2⟩, -, hcy, -⟩ := at_parts hb
        obtain rfl : g' = g := hg0'.symm.trans hg0
        obtain ⟨u, rfl⟩ : ∃ u : Nat, s = u := ⟨s.toNat, by omega⟩
        obtain ⟨-, -, -, -, -, -, -, -, b1, b2⟩ := at_back hb
        obtain ⟨k, rfl⟩ : ∃ n : Nat, k = n := ⟨k.toNat, by omega⟩
        skip
        have hap := slots_apart ha hb (fun h => hjj h.2.2) (fun h => h.1 rfl)
        have hyz : y = z := hy.symm.trans hz
        rw [hz] at hap
        obtain ⟨a, hI⟩ : ∃ a, atI t p (u : Int) (k : Int) i j = a := ⟨_, rfl⟩
        obtain ⟨b, hJ⟩ : ∃ b, atI t p (u : Int) (k : Int) i j' = b := ⟨_, rfl⟩
        rw [hI, hJ] at hap
        rw [hJ] at b1 b2
        rw [slotI_nat] at hcz hcy
        obtain ⟨n1, n2⟩ := slotN_in (k := k) (by omega)
        obtain ⟨m1, m2⟩ := slotN_in (k := k) (by omega)
        obtain ⟨n, hn⟩ : ∃ n, slotN k = n := ⟨_, rfl⟩
        obtain ⟨m, hm⟩ : ∃ m, slotN k = m := ⟨_, rfl⟩
        rw [hn] at n1 n2 hcz
        rw [hm] at m1 m2 hcy
        obtain ⟨q1, hq, hq16, hq2⟩ := cut16 hcz
        obtain ⟨r1, hr, hr16, hr2⟩ := cut16 hcy
        have hk9 : k < 9 := by omega
        have hl9 : k < 9 := by omega
        have hg : (g' : Int) = 2 ^ u := by rw [gs, Int.toNat_natCast]; norm_cast
        by_cases hlt : a + (z : Int) ≤ b
        · exact AddrApart_cL t p a b u g' z y n m k i j j' ha hb hI hJ hk9 hl9 b1 b2 hg g1 g2 (by omega) z2 y2 n1 n2 m1 m2 hn hm q1 hq hq16 (by omega) r1 hr hr16 (by omega) hjj hlt w hT
        · exact AddrApart_cR t p a b u g' z y n m k i j j' ha hb hI hJ hk9 hl9 b1 b2 hg g1 g2 (by omega) z2 y2 n1 n2 m1 m2 hn hm q1 hq hq16 (by omega) r1 hr hr16 (by omega) hjj hlt (by have := hap.resolve_left hlt; omega) w hT
    · obtain ⟨g, z, hg0, hz, -, -, -, -, -, -, -, z2, g1, g2, gs, s1, s2, ⟨k1, k2⟩, -, hcz, -⟩ := at_parts ha
      obtain ⟨g', y, hg0', hy, -, -, -, -, -, -, -, y2, -, -, -, -, -, ⟨l1, l2⟩, -, hcy, -⟩ := at_parts hb
      obtain rfl : g' = g := hg0'.symm.trans hg0
      obtain ⟨u, rfl⟩ : ∃ u : Nat, s = u := ⟨s.toNat, by omega⟩
      obtain ⟨-, -, -, -, -, -, -, -, b1, b2⟩ := at_back hb
      obtain ⟨k, rfl⟩ : ∃ n : Nat, k = n := ⟨k.toNat, by omega⟩
      skip
      have hap := slots_apart ha hb (fun h => hii h.2.1) (fun h => h.1 rfl)
      have hyz : y = z := hy.symm.trans hz
      rw [hz] at hap
      obtain ⟨a, hI⟩ : ∃ a, atI t p (u : Int) (k : Int) i j = a := ⟨_, rfl⟩
      obtain ⟨b, hJ⟩ : ∃ b, atI t p (u : Int) (k : Int) i' j' = b := ⟨_, rfl⟩
      rw [hI, hJ] at hap
      rw [hJ] at b1 b2
      rw [slotI_nat] at hcz hcy
      obtain ⟨n1, n2⟩ := slotN_in (k := k) (by omega)
      obtain ⟨m1, m2⟩ := slotN_in (k := k) (by omega)
      obtain ⟨n, hn⟩ : ∃ n, slotN k = n := ⟨_, rfl⟩
      obtain ⟨m, hm⟩ : ∃ m, slotN k = m := ⟨_, rfl⟩
      rw [hn] at n1 n2 hcz
      rw [hm] at m1 m2 hcy
      obtain ⟨q1, hq, hq16, hq2⟩ := cut16 hcz
      obtain ⟨r1, hr, hr16, hr2⟩ := cut16 hcy
      have hk9 : k < 9 := by omega
      have hl9 : k < 9 := by omega
      have hg : (g' : Int) = 2 ^ u := by rw [gs, Int.toNat_natCast]; norm_cast
      by_cases hlt : a + (z : Int) ≤ b
      · exact AddrApart_aL t p a b u g' z y n m k i j i' j' ha hb hI hJ hk9 hl9 b1 b2 hg g1 g2 (by omega) z2 y2 n1 n2 m1 m2 hn hm q1 hq hq16 (by omega) r1 hr hr16 (by omega) hii hlt w hT
      · exact AddrApart_aR t p a b u g' z y n m k i j i' j' ha hb hI hJ hk9 hl9 b1 b2 hg g1 g2 (by omega) z2 y2 n1 n2 m1 m2 hn hm q1 hq hq16 (by omega) r1 hr hr16 (by omega) hii hlt (by have := hap.resolve_left hlt; omega) w hT
  · by_cases hii : i = i'
    · subst hii
      exact AddrApart_page t p s k i j k' j' hk0 hk1 hl0 hl1 ha hb hkk w hT
    · obtain ⟨g, z, hg0, hz, -, -, -, -, -, -, -, z2, g1, g2, gs, s1, s2, ⟨k1, k2⟩, -, hcz, -⟩ := at_parts ha
      obtain ⟨g', y, hg0', hy, -, -, -, -, -, -, -, y2, -, -, -, -, -, ⟨l1, l2⟩, -, hcy, -⟩ := at_parts hb
      obtain rfl : g' = g := hg0'.symm.trans hg0
      obtain ⟨u, rfl⟩ : ∃ u : Nat, s = u := ⟨s.toNat, by omega⟩
      obtain ⟨-, -, -, -, -, -, -, -, b1, b2⟩ := at_back hb
      obtain ⟨k, rfl⟩ : ∃ n : Nat, k = n := ⟨k.toNat, by omega⟩
      obtain ⟨k', rfl⟩ : ∃ n : Nat, k' = n := ⟨k'.toNat, by omega⟩
      have hap := slots_apart ha hb (fun h => hii h.2.1) (fun h => hii h.2)
      rw [hz, hy] at hap
      obtain ⟨a, hI⟩ : ∃ a, atI t p (u : Int) (k : Int) i j = a := ⟨_, rfl⟩
      obtain ⟨b, hJ⟩ : ∃ b, atI t p (u : Int) (k' : Int) i' j' = b := ⟨_, rfl⟩
      rw [hI, hJ] at hap
      rw [hJ] at b1 b2
      rw [slotI_nat] at hcz hcy
      obtain ⟨n1, n2⟩ := slotN_in (k := k) (by omega)
      obtain ⟨m1, m2⟩ := slotN_in (k := k') (by omega)
      obtain ⟨n, hn⟩ : ∃ n, slotN k = n := ⟨_, rfl⟩
      obtain ⟨m, hm⟩ : ∃ m, slotN k' = m := ⟨_, rfl⟩
      rw [hn] at n1 n2 hcz
      rw [hm] at m1 m2 hcy
      obtain ⟨q1, hq, hq16, hq2⟩ := cut16 hcz
      obtain ⟨r1, hr, hr16, hr2⟩ := cut16 hcy
      have hk9 : k < 9 := by omega
      have hl9 : k' < 9 := by omega
      have hg : (g' : Int) = 2 ^ u := by rw [gs, Int.toNat_natCast]; norm_cast
      by_cases hlt : a + (z : Int) ≤ b
      · exact AddrApart_bL t p a b u g' z y n m k k' i j i' j' ha hb hI hJ hk9 hl9 b1 b2 hg g1 g2 (by omega) z2 y2 n1 n2 m1 m2 hn hm q1 hq hq16 (by omega) r1 hr hr16 (by omega) (by omega) hii hlt w hT
      · exact AddrApart_bR t p a b u g' z y n m k k' i j i' j' ha hb hI hJ hk9 hl9 b1 b2 hg g1 g2 (by omega) z2 y2 n1 n2 m1 m2 hn hm q1 hq hq16 (by omega) r1 hr hr16 (by omega) (by omega) hii hlt (by have := hap.resolve_left hlt; omega) w hT

end Go.Proofs.YtnbocmnfcgjimaaDoor
