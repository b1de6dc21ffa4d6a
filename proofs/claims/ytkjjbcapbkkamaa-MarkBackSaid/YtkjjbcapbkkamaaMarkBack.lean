/-
  The walk of MarkBack: every word, note and pair.
-/
import Derived.Test.YtkjjbcapbkkamaaMarkLaws
namespace Go.Proofs.Ytkjjbcapbkkamaa
open Go.ChangeShapes Go.WideShapes Go.ChangeAt Go.RowKit
set_option linter.unusedVariables false

theorem note_round (s k : Nat) (o : Bool) (hs : s < 2 ^ 32) (hk : k ≤ 96) : notN s o k < 2 ^ 64 ∧ noteOf (notN s o k) = (s, o, k, true) := by
  rw [(not_yes s o k hk).2]
  unfold noteOf
  cases o
  · simp only [Bool.false_eq_true, if_false]
    have h1 : (s * 4294967296 + k) % 2147483648 = k := by omega
    have h2 : (s * 4294967296 + k) / 4294967296 = s := by omega
    have h3 : (s * 4294967296 + k) % 4294967296 = k := by omega
    rw [h1, h2, h3, if_pos hk]
    exact ⟨by omega, by simp; omega⟩
  · simp only [if_true]
    have h1 : (s * 4294967296 + (2147483648 + k)) % 2147483648 = k := by omega
    have h2 : (s * 4294967296 + (2147483648 + k)) / 4294967296 = s := by omega
    have h3 : (s * 4294967296 + (2147483648 + k)) % 4294967296 = 2147483648 + k := by omega
    rw [h1, h2, h3, if_pos hk]
    exact ⟨by omega, by simp⟩
theorem note_back {x s c : Nat} {o : Bool} (hx : x < 2 ^ 64) (h : noteOf x = (s, o, c, true)) : s < 2 ^ 32 ∧ c ≤ 96 ∧ notN s o c = x ∧ notB c = true := by
  unfold noteOf at h
  by_cases h1 : x % 2147483648 ≤ 96
  · rw [if_pos h1] at h
    simp only [Prod.mk.injEq, and_true] at h
    obtain ⟨rfl, rfl, rfl⟩ := h
    have y := not_yes (x / 4294967296) (decide (2147483648 ≤ x % 4294967296)) (x % 2147483648) h1
    refine ⟨by omega, h1, y.2.trans ?_, y.1⟩
    by_cases h2 : 2147483648 ≤ x % 4294967296
    · simp only [h2, decide_true, if_true]; omega
    · simp only [h2, decide_false, Bool.false_eq_true, if_false]; omega
  · rw [if_neg h1] at h
    simp at h
theorem xor_one (s : Nat) (hs : s < 2 ^ 32) : bits .xor .u32 (s : Int) 1 = ((s ^^^ 1 : Nat) : Int) := u32_xor_nat s 1 hs (by omega)
theorem xor_one_lt (s : Nat) (hs : s < 2 ^ 32) : s ^^^ 1 < 2 ^ 32 := Nat.xor_lt_two_pow hs (by omega)
theorem xor_one_ne (s : Nat) : (s == s ^^^ 1) = false := by
  have : s ^^^ 1 ≠ s := by
    intro h
    have := congrArg (fun y => s ^^^ y) h
    simp [← Nat.xor_assoc] at this
  simpa using fun e => this e.symm
theorem mkOfEntry_of (g j v : Nat) (hg : g < 2 ^ 64) (hj : g / 4294967296 = j) (hv : g % 4294967296 = v) (h : j < 65536) (w : World) :
    Calls Try.prog 12 #[.int .u64 (g : Int)] w fun e w' => e = .returned (.tuple #[.agg #[.int .i64 (j : Int), .int .u32 (v : Int)], .bool true]) ∧ Below w.heap.size w w' := by
  subst hj hv
  exact mkOfEntry_yes g hg h w


set_option maxHeartbeats 1000000 in
theorem MarkBack_nff (x s v : Nat) (hx : x < 2 ^ 64) (hs : s < 2 ^ 32) (hv : v < 2 ^ 32) (o : Bool) (m : Int) (h0 : -9223372036854775808 ≤ m) (h1 : m ≤ 9223372036854775807) (a : Nat) (HA : Hid (notN s o m = a)) (HB : Hid (notB m = false)) (s' c' : Nat) (o' : Bool) (HN : Hid (noteOf x = (s', o', c', false))) (g : Nat) (i : Int) (i0 : -9223372036854775808 ≤ i) (i1 : i ≤ 9223372036854775807) (HE : Hid (entB i = false)) (HEN : Hid (entN i v = g)) (w : World) :
    Calls Try.prog 5 #[.int .u64 (x : Int), .agg #[.int .u32 (s : Int), .bool o, .int .i64 m], .agg #[.int .i64 i, .int .u32 (v : Int)]] w (Keeps w) := by
  go_enter Try.func5, Try.ntmps5
  go_wp2_with fail
  refine (mkNote_c s o m hs (by omega) (by omega) _).mono ?_
  rintro e w1 ⟨rfl, hb1⟩
  rw [HA.out, HB.out]
  have n1 := ((Held.new w _ _).alloc _).keep hb1
  have p1 := (Held.new2 w _ _ _).keep hb1
  have z1 := n1.three
  go_wp2_with fail
  refine (mkOfNote_c x s' c' o' false hx HN.out _).mono ?_
  rintro e w5 ⟨rfl, hb5⟩
  have p5 := (p1.keep hb5).alloc (.cells #[.int .u32 (s' : Int), .bool o', .int .i64 (c' : Int)] 38)
  have z5 := p5.two
  go_wp2_with fail
  refine (mkEntry_c i v hv (by omega) (by omega) _).mono ?_
  rintro e w7 ⟨rfl, hb7⟩
  rw [HE.out, HEN.out]
  have p7 := p5.keep hb7
  have z7 := p7.two
  go_wp2_with fail
  refine (live_c _).mono ?_
  rintro e w9 ⟨rfl, hb9⟩
  go_wp2
  go_ret
  exact ⟨rfl, Bgo (Bgo (Bnew (Bgo (Bgo (Bnew (Bnew (B0 _) _) _) hb1) hb5) _) hb7) hb9⟩


set_option maxHeartbeats 1000000 in
theorem MarkBack_nft (x s v : Nat) (hx : x < 2 ^ 64) (hs : s < 2 ^ 32) (hv : v < 2 ^ 32) (o : Bool) (m : Int) (h0 : -9223372036854775808 ≤ m) (h1 : m ≤ 9223372036854775807) (a : Nat) (HA : Hid (notN s o m = a)) (HB : Hid (notB m = false)) (s' c' : Nat) (o' : Bool) (HN : Hid (noteOf x = (s', o', c', false))) (g : Nat) (j : Nat) (hj : j < 65536) (hg : g < 2 ^ 64) (HE : Hid (entB (j : Int) = true)) (HEN : Hid (entN (j : Int) v = g)) (HG1 : Hid (g / 4294967296 = j)) (HG2 : Hid (g % 4294967296 = v)) (w : World) :
    Calls Try.prog 5 #[.int .u64 (x : Int), .agg #[.int .u32 (s : Int), .bool o, .int .i64 m], .agg #[.int .i64 (j : Int), .int .u32 (v : Int)]] w (Keeps w) := by
  go_enter Try.func5, Try.ntmps5
  go_wp2_with fail
  refine (mkNote_c s o m hs (by omega) (by omega) _).mono ?_
  rintro e w1 ⟨rfl, hb1⟩
  rw [HA.out, HB.out]
  have n1 := ((Held.new w _ _).alloc _).keep hb1
  have p1 := (Held.new2 w _ _ _).keep hb1
  have z1 := n1.three
  go_wp2_with fail
  refine (mkOfNote_c x s' c' o' false hx HN.out _).mono ?_
  rintro e w5 ⟨rfl, hb5⟩
  have p5 := (p1.keep hb5).alloc (.cells #[.int .u32 (s' : Int), .bool o', .int .i64 (c' : Int)] 38)
  have z5 := p5.two
  go_wp2_with fail
  refine (mkEntry_c (j : Int) v hv (by omega) (by omega) _).mono ?_
  rintro e w7 ⟨rfl, hb7⟩
  rw [HE.out, HEN.out]
  have p7 := p5.keep hb7
  have z7 := p7.two
  go_wp2_with fail
  refine (mkOfEntry_of g j v hg HG1.out HG2.out hj _).mono ?_
  rintro e w8 ⟨rfl, hb8⟩
  have p8 := ((p7.keep hb8).alloc (.cells #[.int .i64 (j : Int), .int .u32 (v : Int)] 25)).two
  have l8 := (Held.new w8 25 #[.int .i64 (j : Int), .int .u32 (v : Int)]).two
  go_wp2_with fail
  refine (live_c _).mono ?_
  rintro e w9 ⟨rfl, hb9⟩
  go_wp2
  go_ret
  exact ⟨rfl, Bgo (Bnew (Bgo (Bgo (Bnew (Bgo (Bgo (Bnew (Bnew (B0 _) _) _) hb1) hb5) _) hb7) hb8) _) hb9⟩


set_option maxHeartbeats 1000000 in
theorem MarkBack_ntf (x s v : Nat) (hx : x < 2 ^ 64) (hs : s < 2 ^ 32) (hv : v < 2 ^ 32) (o : Bool) (m : Int) (h0 : -9223372036854775808 ≤ m) (h1 : m ≤ 9223372036854775807) (a : Nat) (HA : Hid (notN s o m = a)) (HB : Hid (notB m = false)) (s' c' : Nat) (o' : Bool) (HN : Hid (noteOf x = (s', o', c', true))) (hs2 : s' < 2 ^ 32) (hc2 : c' ≤ 96) (HY : Hid (notN s' o' (c' : Int) = x)) (HYB : Hid (notB (c' : Int) = true)) (g : Nat) (i : Int) (i0 : -9223372036854775808 ≤ i) (i1 : i ≤ 9223372036854775807) (HE : Hid (entB i = false)) (HEN : Hid (entN i v = g)) (w : World) :
    Calls Try.prog 5 #[.int .u64 (x : Int), .agg #[.int .u32 (s : Int), .bool o, .int .i64 m], .agg #[.int .i64 i, .int .u32 (v : Int)]] w (Keeps w) := by
  go_enter Try.func5, Try.ntmps5
  go_wp2_with fail
  refine (mkNote_c s o m hs (by omega) (by omega) _).mono ?_
  rintro e w1 ⟨rfl, hb1⟩
  rw [HA.out, HB.out]
  have n1 := ((Held.new w _ _).alloc _).keep hb1
  have p1 := (Held.new2 w _ _ _).keep hb1
  have z1 := n1.three
  go_wp2_with fail
  refine (mkOfNote_c x s' c' o' true hx HN.out _).mono ?_
  rintro e w5 ⟨rfl, hb5⟩
  have p5 := (p1.keep hb5).alloc (.cells #[.int .u32 (s' : Int), .bool o', .int .i64 (c' : Int)] 38)
  have z5 := p5.two
  have l5 := (Held.new w5 38 #[.int .u32 (s' : Int), .bool o', .int .i64 (c' : Int)]).three
  go_wp2_with fail
  refine (mkNote_c s' o' (c' : Int) hs2 (by omega) (by omega) _).mono ?_
  rintro e w6 ⟨rfl, hb6⟩
  rw [HY.out, HYB.out]
  have p6 := p5.keep hb6
  have z6 := p6.two
  go_wp2_with fail
  refine (mkEntry_c i v hv (by omega) (by omega) _).mono ?_
  rintro e w7 ⟨rfl, hb7⟩
  rw [HE.out, HEN.out]
  have p7 := p6.keep hb7
  have z7 := p7.two
  go_wp2_with fail
  refine (live_c _).mono ?_
  rintro e w9 ⟨rfl, hb9⟩
  go_wp2
  go_ret
  exact ⟨rfl, Bgo (Bgo (Bgo (Bnew (Bgo (Bgo (Bnew (Bnew (B0 _) _) _) hb1) hb5) _) hb6) hb7) hb9⟩


set_option maxHeartbeats 1000000 in
theorem MarkBack_ntt (x s v : Nat) (hx : x < 2 ^ 64) (hs : s < 2 ^ 32) (hv : v < 2 ^ 32) (o : Bool) (m : Int) (h0 : -9223372036854775808 ≤ m) (h1 : m ≤ 9223372036854775807) (a : Nat) (HA : Hid (notN s o m = a)) (HB : Hid (notB m = false)) (s' c' : Nat) (o' : Bool) (HN : Hid (noteOf x = (s', o', c', true))) (hs2 : s' < 2 ^ 32) (hc2 : c' ≤ 96) (HY : Hid (notN s' o' (c' : Int) = x)) (HYB : Hid (notB (c' : Int) = true)) (g : Nat) (j : Nat) (hj : j < 65536) (hg : g < 2 ^ 64) (HE : Hid (entB (j : Int) = true)) (HEN : Hid (entN (j : Int) v = g)) (HG1 : Hid (g / 4294967296 = j)) (HG2 : Hid (g % 4294967296 = v)) (w : World) :
    Calls Try.prog 5 #[.int .u64 (x : Int), .agg #[.int .u32 (s : Int), .bool o, .int .i64 m], .agg #[.int .i64 (j : Int), .int .u32 (v : Int)]] w (Keeps w) := by
  go_enter Try.func5, Try.ntmps5
  go_wp2_with fail
  refine (mkNote_c s o m hs (by omega) (by omega) _).mono ?_
  rintro e w1 ⟨rfl, hb1⟩
  rw [HA.out, HB.out]
  have n1 := ((Held.new w _ _).alloc _).keep hb1
  have p1 := (Held.new2 w _ _ _).keep hb1
  have z1 := n1.three
  go_wp2_with fail
  refine (mkOfNote_c x s' c' o' true hx HN.out _).mono ?_
  rintro e w5 ⟨rfl, hb5⟩
  have p5 := (p1.keep hb5).alloc (.cells #[.int .u32 (s' : Int), .bool o', .int .i64 (c' : Int)] 38)
  have z5 := p5.two
  have l5 := (Held.new w5 38 #[.int .u32 (s' : Int), .bool o', .int .i64 (c' : Int)]).three
  go_wp2_with fail
  refine (mkNote_c s' o' (c' : Int) hs2 (by omega) (by omega) _).mono ?_
  rintro e w6 ⟨rfl, hb6⟩
  rw [HY.out, HYB.out]
  have p6 := p5.keep hb6
  have z6 := p6.two
  go_wp2_with fail
  refine (mkEntry_c (j : Int) v hv (by omega) (by omega) _).mono ?_
  rintro e w7 ⟨rfl, hb7⟩
  rw [HE.out, HEN.out]
  have p7 := p6.keep hb7
  have z7 := p7.two
  go_wp2_with fail
  refine (mkOfEntry_of g j v hg HG1.out HG2.out hj _).mono ?_
  rintro e w8 ⟨rfl, hb8⟩
  have p8 := ((p7.keep hb8).alloc (.cells #[.int .i64 (j : Int), .int .u32 (v : Int)] 25)).two
  have l8 := (Held.new w8 25 #[.int .i64 (j : Int), .int .u32 (v : Int)]).two
  go_wp2_with fail
  refine (live_c _).mono ?_
  rintro e w9 ⟨rfl, hb9⟩
  go_wp2
  go_ret
  exact ⟨rfl, Bgo (Bnew (Bgo (Bgo (Bgo (Bnew (Bgo (Bgo (Bnew (Bnew (B0 _) _) _) hb1) hb5) _) hb6) hb7) hb8) _) hb9⟩


set_option maxHeartbeats 1000000 in
theorem MarkBack_fff (x s v : Nat) (hx : x < 2 ^ 64) (hs : s < 2 ^ 32) (hv : v < 2 ^ 32) (k a : Nat) (hk : k ≤ 96) (ha : a < 2 ^ 64) (HA : Hid (notN s false (k : Int) = a)) (HB : Hid (notB (k : Int) = true)) (HN1 : Hid (noteOf a = (s, false, k, true))) (c1 : Nat) (HO1 : Hid (openB a s = false)) (HC1 : Hid (openN a s = c1)) (hc1 : True) (u d : Nat) (hu : u < 2 ^ 32) (HU : Hid (bits .xor .u32 (s : Int) 1 = (u : Int))) (HO2 : Hid (openB a u = false)) (HC2 : Hid (openN a u = d)) (s' c' : Nat) (o' : Bool) (HN : Hid (noteOf x = (s', o', c', false))) (g : Nat) (i : Int) (i0 : -9223372036854775808 ≤ i) (i1 : i ≤ 9223372036854775807) (HE : Hid (entB i = false)) (HEN : Hid (entN i v = g)) (w : World) :
    Calls Try.prog 5 #[.int .u64 (x : Int), .agg #[.int .u32 (s : Int), .bool false, .int .i64 (k : Int)], .agg #[.int .i64 i, .int .u32 (v : Int)]] w (Keeps w) := by
  go_enter Try.func5, Try.ntmps5
  go_wp2_with fail
  refine (mkNote_c s false (k : Int) hs (by omega) (by omega) _).mono ?_
  rintro e w1 ⟨rfl, hb1⟩
  rw [HA.out, HB.out]
  have n1 := ((Held.new w _ _).alloc _).keep hb1
  have p1 := (Held.new2 w _ _ _).keep hb1
  have z1 := n1.three
  go_wp2_with fail
  refine (mkOfNote_c a s k false true ha HN1.out _).mono ?_
  rintro e w2 ⟨rfl, hb2⟩
  have n2 := (n1.keep hb2).alloc (.cells #[.int .u32 (s : Int), .bool false, .int .i64 (k : Int)] 38)
  have p2 := (p1.keep hb2).alloc (.cells #[.int .u32 (s : Int), .bool false, .int .i64 (k : Int)] 38)
  have l2 := Held.new w2 38 #[.int .u32 (s : Int), .bool false, .int .i64 (k : Int)]
  have z2 := n2.three
  go_wp2_with fail
  refine (mkOpen_c a s ha hs _).mono ?_
  rintro e w3 ⟨rfl, hb3⟩
  rw [HO1.out, HC1.out]
  have n3 := n2.keep hb3
  have p3 := p2.keep hb3
  have l3 := l2.keep hb3
  have z3 := n3.three
  go_wp2_with fail
  rw [HU.out]
  refine (mkOpen_c a u ha hu _).mono ?_
  rintro e w4 ⟨rfl, hb4⟩
  rw [HO2.out, HC2.out]
  have n4 := n3.keep hb4
  have p4 := p3.keep hb4
  have l4 := l3.keep hb4
  have z4 := n4.three
  have y4 := l4.three
  go_wp2_with fail
  refine (mkOfNote_c x s' c' o' false hx HN.out _).mono ?_
  rintro e w5 ⟨rfl, hb5⟩
  have p5 := (p4.keep hb5).alloc (.cells #[.int .u32 (s' : Int), .bool o', .int .i64 (c' : Int)] 38)
  have z5 := p5.two
  go_wp2_with fail
  refine (mkEntry_c i v hv (by omega) (by omega) _).mono ?_
  rintro e w7 ⟨rfl, hb7⟩
  rw [HE.out, HEN.out]
  have p7 := p5.keep hb7
  have z7 := p7.two
  go_wp2_with fail
  refine (live_c _).mono ?_
  rintro e w9 ⟨rfl, hb9⟩
  go_wp2
  go_ret
  exact ⟨rfl, Bgo (Bgo (Bnew (Bgo (Bgo (Bgo (Bnew (Bgo (Bgo (Bnew (Bnew (B0 _) _) _) hb1) hb2) _) hb3) hb4) hb5) _) hb7) hb9⟩


set_option maxHeartbeats 1000000 in
theorem MarkBack_fft (x s v : Nat) (hx : x < 2 ^ 64) (hs : s < 2 ^ 32) (hv : v < 2 ^ 32) (k a : Nat) (hk : k ≤ 96) (ha : a < 2 ^ 64) (HA : Hid (notN s false (k : Int) = a)) (HB : Hid (notB (k : Int) = true)) (HN1 : Hid (noteOf a = (s, false, k, true))) (c1 : Nat) (HO1 : Hid (openB a s = false)) (HC1 : Hid (openN a s = c1)) (hc1 : True) (u d : Nat) (hu : u < 2 ^ 32) (HU : Hid (bits .xor .u32 (s : Int) 1 = (u : Int))) (HO2 : Hid (openB a u = false)) (HC2 : Hid (openN a u = d)) (s' c' : Nat) (o' : Bool) (HN : Hid (noteOf x = (s', o', c', false))) (g : Nat) (j : Nat) (hj : j < 65536) (hg : g < 2 ^ 64) (HE : Hid (entB (j : Int) = true)) (HEN : Hid (entN (j : Int) v = g)) (HG1 : Hid (g / 4294967296 = j)) (HG2 : Hid (g % 4294967296 = v)) (w : World) :
    Calls Try.prog 5 #[.int .u64 (x : Int), .agg #[.int .u32 (s : Int), .bool false, .int .i64 (k : Int)], .agg #[.int .i64 (j : Int), .int .u32 (v : Int)]] w (Keeps w) := by
  go_enter Try.func5, Try.ntmps5
  go_wp2_with fail
  refine (mkNote_c s false (k : Int) hs (by omega) (by omega) _).mono ?_
  rintro e w1 ⟨rfl, hb1⟩
  rw [HA.out, HB.out]
  have n1 := ((Held.new w _ _).alloc _).keep hb1
  have p1 := (Held.new2 w _ _ _).keep hb1
  have z1 := n1.three
  go_wp2_with fail
  refine (mkOfNote_c a s k false true ha HN1.out _).mono ?_
  rintro e w2 ⟨rfl, hb2⟩
  have n2 := (n1.keep hb2).alloc (.cells #[.int .u32 (s : Int), .bool false, .int .i64 (k : Int)] 38)
  have p2 := (p1.keep hb2).alloc (.cells #[.int .u32 (s : Int), .bool false, .int .i64 (k : Int)] 38)
  have l2 := Held.new w2 38 #[.int .u32 (s : Int), .bool false, .int .i64 (k : Int)]
  have z2 := n2.three
  go_wp2_with fail
  refine (mkOpen_c a s ha hs _).mono ?_
  rintro e w3 ⟨rfl, hb3⟩
  rw [HO1.out, HC1.out]
  have n3 := n2.keep hb3
  have p3 := p2.keep hb3
  have l3 := l2.keep hb3
  have z3 := n3.three
  go_wp2_with fail
  rw [HU.out]
  refine (mkOpen_c a u ha hu _).mono ?_
  rintro e w4 ⟨rfl, hb4⟩
  rw [HO2.out, HC2.out]
  have n4 := n3.keep hb4
  have p4 := p3.keep hb4
  have l4 := l3.keep hb4
  have z4 := n4.three
  have y4 := l4.three
  go_wp2_with fail
  refine (mkOfNote_c x s' c' o' false hx HN.out _).mono ?_
  rintro e w5 ⟨rfl, hb5⟩
  have p5 := (p4.keep hb5).alloc (.cells #[.int .u32 (s' : Int), .bool o', .int .i64 (c' : Int)] 38)
  have z5 := p5.two
  go_wp2_with fail
  refine (mkEntry_c (j : Int) v hv (by omega) (by omega) _).mono ?_
  rintro e w7 ⟨rfl, hb7⟩
  rw [HE.out, HEN.out]
  have p7 := p5.keep hb7
  have z7 := p7.two
  go_wp2_with fail
  refine (mkOfEntry_of g j v hg HG1.out HG2.out hj _).mono ?_
  rintro e w8 ⟨rfl, hb8⟩
  have p8 := ((p7.keep hb8).alloc (.cells #[.int .i64 (j : Int), .int .u32 (v : Int)] 25)).two
  have l8 := (Held.new w8 25 #[.int .i64 (j : Int), .int .u32 (v : Int)]).two
  go_wp2_with fail
  refine (live_c _).mono ?_
  rintro e w9 ⟨rfl, hb9⟩
  go_wp2
  go_ret
  exact ⟨rfl, Bgo (Bnew (Bgo (Bgo (Bnew (Bgo (Bgo (Bgo (Bnew (Bgo (Bgo (Bnew (Bnew (B0 _) _) _) hb1) hb2) _) hb3) hb4) hb5) _) hb7) hb8) _) hb9⟩


set_option maxHeartbeats 1000000 in
theorem MarkBack_ftf (x s v : Nat) (hx : x < 2 ^ 64) (hs : s < 2 ^ 32) (hv : v < 2 ^ 32) (k a : Nat) (hk : k ≤ 96) (ha : a < 2 ^ 64) (HA : Hid (notN s false (k : Int) = a)) (HB : Hid (notB (k : Int) = true)) (HN1 : Hid (noteOf a = (s, false, k, true))) (c1 : Nat) (HO1 : Hid (openB a s = false)) (HC1 : Hid (openN a s = c1)) (hc1 : True) (u d : Nat) (hu : u < 2 ^ 32) (HU : Hid (bits .xor .u32 (s : Int) 1 = (u : Int))) (HO2 : Hid (openB a u = false)) (HC2 : Hid (openN a u = d)) (s' c' : Nat) (o' : Bool) (HN : Hid (noteOf x = (s', o', c', true))) (hs2 : s' < 2 ^ 32) (hc2 : c' ≤ 96) (HY : Hid (notN s' o' (c' : Int) = x)) (HYB : Hid (notB (c' : Int) = true)) (g : Nat) (i : Int) (i0 : -9223372036854775808 ≤ i) (i1 : i ≤ 9223372036854775807) (HE : Hid (entB i = false)) (HEN : Hid (entN i v = g)) (w : World) :
    Calls Try.prog 5 #[.int .u64 (x : Int), .agg #[.int .u32 (s : Int), .bool false, .int .i64 (k : Int)], .agg #[.int .i64 i, .int .u32 (v : Int)]] w (Keeps w) := by
  go_enter Try.func5, Try.ntmps5
  go_wp2_with fail
  refine (mkNote_c s false (k : Int) hs (by omega) (by omega) _).mono ?_
  rintro e w1 ⟨rfl, hb1⟩
  rw [HA.out, HB.out]
  have n1 := ((Held.new w _ _).alloc _).keep hb1
  have p1 := (Held.new2 w _ _ _).keep hb1
  have z1 := n1.three
  go_wp2_with fail
  refine (mkOfNote_c a s k false true ha HN1.out _).mono ?_
  rintro e w2 ⟨rfl, hb2⟩
  have n2 := (n1.keep hb2).alloc (.cells #[.int .u32 (s : Int), .bool false, .int .i64 (k : Int)] 38)
  have p2 := (p1.keep hb2).alloc (.cells #[.int .u32 (s : Int), .bool false, .int .i64 (k : Int)] 38)
  have l2 := Held.new w2 38 #[.int .u32 (s : Int), .bool false, .int .i64 (k : Int)]
  have z2 := n2.three
  go_wp2_with fail
  refine (mkOpen_c a s ha hs _).mono ?_
  rintro e w3 ⟨rfl, hb3⟩
  rw [HO1.out, HC1.out]
  have n3 := n2.keep hb3
  have p3 := p2.keep hb3
  have l3 := l2.keep hb3
  have z3 := n3.three
  go_wp2_with fail
  rw [HU.out]
  refine (mkOpen_c a u ha hu _).mono ?_
  rintro e w4 ⟨rfl, hb4⟩
  rw [HO2.out, HC2.out]
  have n4 := n3.keep hb4
  have p4 := p3.keep hb4
  have l4 := l3.keep hb4
  have z4 := n4.three
  have y4 := l4.three
  go_wp2_with fail
  refine (mkOfNote_c x s' c' o' true hx HN.out _).mono ?_
  rintro e w5 ⟨rfl, hb5⟩
  have p5 := (p4.keep hb5).alloc (.cells #[.int .u32 (s' : Int), .bool o', .int .i64 (c' : Int)] 38)
  have z5 := p5.two
  have l5 := (Held.new w5 38 #[.int .u32 (s' : Int), .bool o', .int .i64 (c' : Int)]).three
  go_wp2_with fail
  refine (mkNote_c s' o' (c' : Int) hs2 (by omega) (by omega) _).mono ?_
  rintro e w6 ⟨rfl, hb6⟩
  rw [HY.out, HYB.out]
  have p6 := p5.keep hb6
  have z6 := p6.two
  go_wp2_with fail
  refine (mkEntry_c i v hv (by omega) (by omega) _).mono ?_
  rintro e w7 ⟨rfl, hb7⟩
  rw [HE.out, HEN.out]
  have p7 := p6.keep hb7
  have z7 := p7.two
  go_wp2_with fail
  refine (live_c _).mono ?_
  rintro e w9 ⟨rfl, hb9⟩
  go_wp2
  go_ret
  exact ⟨rfl, Bgo (Bgo (Bgo (Bnew (Bgo (Bgo (Bgo (Bnew (Bgo (Bgo (Bnew (Bnew (B0 _) _) _) hb1) hb2) _) hb3) hb4) hb5) _) hb6) hb7) hb9⟩


set_option maxHeartbeats 1000000 in
theorem MarkBack_ftt (x s v : Nat) (hx : x < 2 ^ 64) (hs : s < 2 ^ 32) (hv : v < 2 ^ 32) (k a : Nat) (hk : k ≤ 96) (ha : a < 2 ^ 64) (HA : Hid (notN s false (k : Int) = a)) (HB : Hid (notB (k : Int) = true)) (HN1 : Hid (noteOf a = (s, false, k, true))) (c1 : Nat) (HO1 : Hid (openB a s = false)) (HC1 : Hid (openN a s = c1)) (hc1 : True) (u d : Nat) (hu : u < 2 ^ 32) (HU : Hid (bits .xor .u32 (s : Int) 1 = (u : Int))) (HO2 : Hid (openB a u = false)) (HC2 : Hid (openN a u = d)) (s' c' : Nat) (o' : Bool) (HN : Hid (noteOf x = (s', o', c', true))) (hs2 : s' < 2 ^ 32) (hc2 : c' ≤ 96) (HY : Hid (notN s' o' (c' : Int) = x)) (HYB : Hid (notB (c' : Int) = true)) (g : Nat) (j : Nat) (hj : j < 65536) (hg : g < 2 ^ 64) (HE : Hid (entB (j : Int) = true)) (HEN : Hid (entN (j : Int) v = g)) (HG1 : Hid (g / 4294967296 = j)) (HG2 : Hid (g % 4294967296 = v)) (w : World) :
    Calls Try.prog 5 #[.int .u64 (x : Int), .agg #[.int .u32 (s : Int), .bool false, .int .i64 (k : Int)], .agg #[.int .i64 (j : Int), .int .u32 (v : Int)]] w (Keeps w) := by
  go_enter Try.func5, Try.ntmps5
  go_wp2_with fail
  refine (mkNote_c s false (k : Int) hs (by omega) (by omega) _).mono ?_
  rintro e w1 ⟨rfl, hb1⟩
  rw [HA.out, HB.out]
  have n1 := ((Held.new w _ _).alloc _).keep hb1
  have p1 := (Held.new2 w _ _ _).keep hb1
  have z1 := n1.three
  go_wp2_with fail
  refine (mkOfNote_c a s k false true ha HN1.out _).mono ?_
  rintro e w2 ⟨rfl, hb2⟩
  have n2 := (n1.keep hb2).alloc (.cells #[.int .u32 (s : Int), .bool false, .int .i64 (k : Int)] 38)
  have p2 := (p1.keep hb2).alloc (.cells #[.int .u32 (s : Int), .bool false, .int .i64 (k : Int)] 38)
  have l2 := Held.new w2 38 #[.int .u32 (s : Int), .bool false, .int .i64 (k : Int)]
  have z2 := n2.three
  go_wp2_with fail
  refine (mkOpen_c a s ha hs _).mono ?_
  rintro e w3 ⟨rfl, hb3⟩
  rw [HO1.out, HC1.out]
  have n3 := n2.keep hb3
  have p3 := p2.keep hb3
  have l3 := l2.keep hb3
  have z3 := n3.three
  go_wp2_with fail
  rw [HU.out]
  refine (mkOpen_c a u ha hu _).mono ?_
  rintro e w4 ⟨rfl, hb4⟩
  rw [HO2.out, HC2.out]
  have n4 := n3.keep hb4
  have p4 := p3.keep hb4
  have l4 := l3.keep hb4
  have z4 := n4.three
  have y4 := l4.three
  go_wp2_with fail
  refine (mkOfNote_c x s' c' o' true hx HN.out _).mono ?_
  rintro e w5 ⟨rfl, hb5⟩
  have p5 := (p4.keep hb5).alloc (.cells #[.int .u32 (s' : Int), .bool o', .int .i64 (c' : Int)] 38)
  have z5 := p5.two
  have l5 := (Held.new w5 38 #[.int .u32 (s' : Int), .bool o', .int .i64 (c' : Int)]).three
  go_wp2_with fail
  refine (mkNote_c s' o' (c' : Int) hs2 (by omega) (by omega) _).mono ?_
  rintro e w6 ⟨rfl, hb6⟩
  rw [HY.out, HYB.out]
  have p6 := p5.keep hb6
  have z6 := p6.two
  go_wp2_with fail
  refine (mkEntry_c (j : Int) v hv (by omega) (by omega) _).mono ?_
  rintro e w7 ⟨rfl, hb7⟩
  rw [HE.out, HEN.out]
  have p7 := p6.keep hb7
  have z7 := p7.two
  go_wp2_with fail
  refine (mkOfEntry_of g j v hg HG1.out HG2.out hj _).mono ?_
  rintro e w8 ⟨rfl, hb8⟩
  have p8 := ((p7.keep hb8).alloc (.cells #[.int .i64 (j : Int), .int .u32 (v : Int)] 25)).two
  have l8 := (Held.new w8 25 #[.int .i64 (j : Int), .int .u32 (v : Int)]).two
  go_wp2_with fail
  refine (live_c _).mono ?_
  rintro e w9 ⟨rfl, hb9⟩
  go_wp2
  go_ret
  exact ⟨rfl, Bgo (Bnew (Bgo (Bgo (Bgo (Bnew (Bgo (Bgo (Bgo (Bnew (Bgo (Bgo (Bnew (Bnew (B0 _) _) _) hb1) hb2) _) hb3) hb4) hb5) _) hb6) hb7) hb8) _) hb9⟩


set_option maxHeartbeats 1000000 in
theorem MarkBack_tff (x s v : Nat) (hx : x < 2 ^ 64) (hs : s < 2 ^ 32) (hv : v < 2 ^ 32) (k a : Nat) (hk : k ≤ 96) (ha : a < 2 ^ 64) (HA : Hid (notN s true (k : Int) = a)) (HB : Hid (notB (k : Int) = true)) (HN1 : Hid (noteOf a = (s, true, k, true))) (c1 : Nat) (HO1 : Hid (openB a s = true)) (HC1 : Hid (openN a s = c1)) (hc1 : c1 = k) (u d : Nat) (hu : u < 2 ^ 32) (HU : Hid (bits .xor .u32 (s : Int) 1 = (u : Int))) (HO2 : Hid (openB a u = false)) (HC2 : Hid (openN a u = d)) (s' c' : Nat) (o' : Bool) (HN : Hid (noteOf x = (s', o', c', false))) (g : Nat) (i : Int) (i0 : -9223372036854775808 ≤ i) (i1 : i ≤ 9223372036854775807) (HE : Hid (entB i = false)) (HEN : Hid (entN i v = g)) (w : World) :
    Calls Try.prog 5 #[.int .u64 (x : Int), .agg #[.int .u32 (s : Int), .bool true, .int .i64 (k : Int)], .agg #[.int .i64 i, .int .u32 (v : Int)]] w (Keeps w) := by
  go_enter Try.func5, Try.ntmps5
  go_wp2_with fail
  refine (mkNote_c s true (k : Int) hs (by omega) (by omega) _).mono ?_
  rintro e w1 ⟨rfl, hb1⟩
  rw [HA.out, HB.out]
  have n1 := ((Held.new w _ _).alloc _).keep hb1
  have p1 := (Held.new2 w _ _ _).keep hb1
  have z1 := n1.three
  go_wp2_with fail
  refine (mkOfNote_c a s k true true ha HN1.out _).mono ?_
  rintro e w2 ⟨rfl, hb2⟩
  have n2 := (n1.keep hb2).alloc (.cells #[.int .u32 (s : Int), .bool true, .int .i64 (k : Int)] 38)
  have p2 := (p1.keep hb2).alloc (.cells #[.int .u32 (s : Int), .bool true, .int .i64 (k : Int)] 38)
  have l2 := Held.new w2 38 #[.int .u32 (s : Int), .bool true, .int .i64 (k : Int)]
  have z2 := n2.three
  go_wp2_with fail
  refine (mkOpen_c a s ha hs _).mono ?_
  rintro e w3 ⟨rfl, hb3⟩
  rw [HO1.out, HC1.out]
  have n3 := n2.keep hb3
  have p3 := p2.keep hb3
  have l3 := l2.keep hb3
  have z3 := n3.three
  go_wp2_with fail
  rw [HU.out]
  refine (mkOpen_c a u ha hu _).mono ?_
  rintro e w4 ⟨rfl, hb4⟩
  rw [HO2.out, HC2.out]
  have n4 := n3.keep hb4
  have p4 := p3.keep hb4
  have l4 := l3.keep hb4
  have z4 := n4.three
  have y4 := l4.three
  go_wp2_with fail
  refine (mkOfNote_c x s' c' o' false hx HN.out _).mono ?_
  rintro e w5 ⟨rfl, hb5⟩
  have p5 := (p4.keep hb5).alloc (.cells #[.int .u32 (s' : Int), .bool o', .int .i64 (c' : Int)] 38)
  have z5 := p5.two
  go_wp2_with fail
  refine (mkEntry_c i v hv (by omega) (by omega) _).mono ?_
  rintro e w7 ⟨rfl, hb7⟩
  rw [HE.out, HEN.out]
  have p7 := p5.keep hb7
  have z7 := p7.two
  go_wp2_with fail
  refine (live_c _).mono ?_
  rintro e w9 ⟨rfl, hb9⟩
  go_wp2
  go_ret
  exact ⟨rfl, Bgo (Bgo (Bnew (Bgo (Bgo (Bgo (Bnew (Bgo (Bgo (Bnew (Bnew (B0 _) _) _) hb1) hb2) _) hb3) hb4) hb5) _) hb7) hb9⟩


set_option maxHeartbeats 1000000 in
theorem MarkBack_tft (x s v : Nat) (hx : x < 2 ^ 64) (hs : s < 2 ^ 32) (hv : v < 2 ^ 32) (k a : Nat) (hk : k ≤ 96) (ha : a < 2 ^ 64) (HA : Hid (notN s true (k : Int) = a)) (HB : Hid (notB (k : Int) = true)) (HN1 : Hid (noteOf a = (s, true, k, true))) (c1 : Nat) (HO1 : Hid (openB a s = true)) (HC1 : Hid (openN a s = c1)) (hc1 : c1 = k) (u d : Nat) (hu : u < 2 ^ 32) (HU : Hid (bits .xor .u32 (s : Int) 1 = (u : Int))) (HO2 : Hid (openB a u = false)) (HC2 : Hid (openN a u = d)) (s' c' : Nat) (o' : Bool) (HN : Hid (noteOf x = (s', o', c', false))) (g : Nat) (j : Nat) (hj : j < 65536) (hg : g < 2 ^ 64) (HE : Hid (entB (j : Int) = true)) (HEN : Hid (entN (j : Int) v = g)) (HG1 : Hid (g / 4294967296 = j)) (HG2 : Hid (g % 4294967296 = v)) (w : World) :
    Calls Try.prog 5 #[.int .u64 (x : Int), .agg #[.int .u32 (s : Int), .bool true, .int .i64 (k : Int)], .agg #[.int .i64 (j : Int), .int .u32 (v : Int)]] w (Keeps w) := by
  go_enter Try.func5, Try.ntmps5
  go_wp2_with fail
  refine (mkNote_c s true (k : Int) hs (by omega) (by omega) _).mono ?_
  rintro e w1 ⟨rfl, hb1⟩
  rw [HA.out, HB.out]
  have n1 := ((Held.new w _ _).alloc _).keep hb1
  have p1 := (Held.new2 w _ _ _).keep hb1
  have z1 := n1.three
  go_wp2_with fail
  refine (mkOfNote_c a s k true true ha HN1.out _).mono ?_
  rintro e w2 ⟨rfl, hb2⟩
  have n2 := (n1.keep hb2).alloc (.cells #[.int .u32 (s : Int), .bool true, .int .i64 (k : Int)] 38)
  have p2 := (p1.keep hb2).alloc (.cells #[.int .u32 (s : Int), .bool true, .int .i64 (k : Int)] 38)
  have l2 := Held.new w2 38 #[.int .u32 (s : Int), .bool true, .int .i64 (k : Int)]
  have z2 := n2.three
  go_wp2_with fail
  refine (mkOpen_c a s ha hs _).mono ?_
  rintro e w3 ⟨rfl, hb3⟩
  rw [HO1.out, HC1.out]
  have n3 := n2.keep hb3
  have p3 := p2.keep hb3
  have l3 := l2.keep hb3
  have z3 := n3.three
  go_wp2_with fail
  rw [HU.out]
  refine (mkOpen_c a u ha hu _).mono ?_
  rintro e w4 ⟨rfl, hb4⟩
  rw [HO2.out, HC2.out]
  have n4 := n3.keep hb4
  have p4 := p3.keep hb4
  have l4 := l3.keep hb4
  have z4 := n4.three
  have y4 := l4.three
  go_wp2_with fail
  refine (mkOfNote_c x s' c' o' false hx HN.out _).mono ?_
  rintro e w5 ⟨rfl, hb5⟩
  have p5 := (p4.keep hb5).alloc (.cells #[.int .u32 (s' : Int), .bool o', .int .i64 (c' : Int)] 38)
  have z5 := p5.two
  go_wp2_with fail
  refine (mkEntry_c (j : Int) v hv (by omega) (by omega) _).mono ?_
  rintro e w7 ⟨rfl, hb7⟩
  rw [HE.out, HEN.out]
  have p7 := p5.keep hb7
  have z7 := p7.two
  go_wp2_with fail
  refine (mkOfEntry_of g j v hg HG1.out HG2.out hj _).mono ?_
  rintro e w8 ⟨rfl, hb8⟩
  have p8 := ((p7.keep hb8).alloc (.cells #[.int .i64 (j : Int), .int .u32 (v : Int)] 25)).two
  have l8 := (Held.new w8 25 #[.int .i64 (j : Int), .int .u32 (v : Int)]).two
  go_wp2_with fail
  refine (live_c _).mono ?_
  rintro e w9 ⟨rfl, hb9⟩
  go_wp2
  go_ret
  exact ⟨rfl, Bgo (Bnew (Bgo (Bgo (Bnew (Bgo (Bgo (Bgo (Bnew (Bgo (Bgo (Bnew (Bnew (B0 _) _) _) hb1) hb2) _) hb3) hb4) hb5) _) hb7) hb8) _) hb9⟩


set_option maxHeartbeats 1000000 in
theorem MarkBack_ttf (x s v : Nat) (hx : x < 2 ^ 64) (hs : s < 2 ^ 32) (hv : v < 2 ^ 32) (k a : Nat) (hk : k ≤ 96) (ha : a < 2 ^ 64) (HA : Hid (notN s true (k : Int) = a)) (HB : Hid (notB (k : Int) = true)) (HN1 : Hid (noteOf a = (s, true, k, true))) (c1 : Nat) (HO1 : Hid (openB a s = true)) (HC1 : Hid (openN a s = c1)) (hc1 : c1 = k) (u d : Nat) (hu : u < 2 ^ 32) (HU : Hid (bits .xor .u32 (s : Int) 1 = (u : Int))) (HO2 : Hid (openB a u = false)) (HC2 : Hid (openN a u = d)) (s' c' : Nat) (o' : Bool) (HN : Hid (noteOf x = (s', o', c', true))) (hs2 : s' < 2 ^ 32) (hc2 : c' ≤ 96) (HY : Hid (notN s' o' (c' : Int) = x)) (HYB : Hid (notB (c' : Int) = true)) (g : Nat) (i : Int) (i0 : -9223372036854775808 ≤ i) (i1 : i ≤ 9223372036854775807) (HE : Hid (entB i = false)) (HEN : Hid (entN i v = g)) (w : World) :
    Calls Try.prog 5 #[.int .u64 (x : Int), .agg #[.int .u32 (s : Int), .bool true, .int .i64 (k : Int)], .agg #[.int .i64 i, .int .u32 (v : Int)]] w (Keeps w) := by
  go_enter Try.func5, Try.ntmps5
  go_wp2_with fail
  refine (mkNote_c s true (k : Int) hs (by omega) (by omega) _).mono ?_
  rintro e w1 ⟨rfl, hb1⟩
  rw [HA.out, HB.out]
  have n1 := ((Held.new w _ _).alloc _).keep hb1
  have p1 := (Held.new2 w _ _ _).keep hb1
  have z1 := n1.three
  go_wp2_with fail
  refine (mkOfNote_c a s k true true ha HN1.out _).mono ?_
  rintro e w2 ⟨rfl, hb2⟩
  have n2 := (n1.keep hb2).alloc (.cells #[.int .u32 (s : Int), .bool true, .int .i64 (k : Int)] 38)
  have p2 := (p1.keep hb2).alloc (.cells #[.int .u32 (s : Int), .bool true, .int .i64 (k : Int)] 38)
  have l2 := Held.new w2 38 #[.int .u32 (s : Int), .bool true, .int .i64 (k : Int)]
  have z2 := n2.three
  go_wp2_with fail
  refine (mkOpen_c a s ha hs _).mono ?_
  rintro e w3 ⟨rfl, hb3⟩
  rw [HO1.out, HC1.out]
  have n3 := n2.keep hb3
  have p3 := p2.keep hb3
  have l3 := l2.keep hb3
  have z3 := n3.three
  go_wp2_with fail
  rw [HU.out]
  refine (mkOpen_c a u ha hu _).mono ?_
  rintro e w4 ⟨rfl, hb4⟩
  rw [HO2.out, HC2.out]
  have n4 := n3.keep hb4
  have p4 := p3.keep hb4
  have l4 := l3.keep hb4
  have z4 := n4.three
  have y4 := l4.three
  go_wp2_with fail
  refine (mkOfNote_c x s' c' o' true hx HN.out _).mono ?_
  rintro e w5 ⟨rfl, hb5⟩
  have p5 := (p4.keep hb5).alloc (.cells #[.int .u32 (s' : Int), .bool o', .int .i64 (c' : Int)] 38)
  have z5 := p5.two
  have l5 := (Held.new w5 38 #[.int .u32 (s' : Int), .bool o', .int .i64 (c' : Int)]).three
  go_wp2_with fail
  refine (mkNote_c s' o' (c' : Int) hs2 (by omega) (by omega) _).mono ?_
  rintro e w6 ⟨rfl, hb6⟩
  rw [HY.out, HYB.out]
  have p6 := p5.keep hb6
  have z6 := p6.two
  go_wp2_with fail
  refine (mkEntry_c i v hv (by omega) (by omega) _).mono ?_
  rintro e w7 ⟨rfl, hb7⟩
  rw [HE.out, HEN.out]
  have p7 := p6.keep hb7
  have z7 := p7.two
  go_wp2_with fail
  refine (live_c _).mono ?_
  rintro e w9 ⟨rfl, hb9⟩
  go_wp2
  go_ret
  exact ⟨rfl, Bgo (Bgo (Bgo (Bnew (Bgo (Bgo (Bgo (Bnew (Bgo (Bgo (Bnew (Bnew (B0 _) _) _) hb1) hb2) _) hb3) hb4) hb5) _) hb6) hb7) hb9⟩


set_option maxHeartbeats 1000000 in
theorem MarkBack_ttt (x s v : Nat) (hx : x < 2 ^ 64) (hs : s < 2 ^ 32) (hv : v < 2 ^ 32) (k a : Nat) (hk : k ≤ 96) (ha : a < 2 ^ 64) (HA : Hid (notN s true (k : Int) = a)) (HB : Hid (notB (k : Int) = true)) (HN1 : Hid (noteOf a = (s, true, k, true))) (c1 : Nat) (HO1 : Hid (openB a s = true)) (HC1 : Hid (openN a s = c1)) (hc1 : c1 = k) (u d : Nat) (hu : u < 2 ^ 32) (HU : Hid (bits .xor .u32 (s : Int) 1 = (u : Int))) (HO2 : Hid (openB a u = false)) (HC2 : Hid (openN a u = d)) (s' c' : Nat) (o' : Bool) (HN : Hid (noteOf x = (s', o', c', true))) (hs2 : s' < 2 ^ 32) (hc2 : c' ≤ 96) (HY : Hid (notN s' o' (c' : Int) = x)) (HYB : Hid (notB (c' : Int) = true)) (g : Nat) (j : Nat) (hj : j < 65536) (hg : g < 2 ^ 64) (HE : Hid (entB (j : Int) = true)) (HEN : Hid (entN (j : Int) v = g)) (HG1 : Hid (g / 4294967296 = j)) (HG2 : Hid (g % 4294967296 = v)) (w : World) :
    Calls Try.prog 5 #[.int .u64 (x : Int), .agg #[.int .u32 (s : Int), .bool true, .int .i64 (k : Int)], .agg #[.int .i64 (j : Int), .int .u32 (v : Int)]] w (Keeps w) := by
  go_enter Try.func5, Try.ntmps5
  go_wp2_with fail
  refine (mkNote_c s true (k : Int) hs (by omega) (by omega) _).mono ?_
  rintro e w1 ⟨rfl, hb1⟩
  rw [HA.out, HB.out]
  have n1 := ((Held.new w _ _).alloc _).keep hb1
  have p1 := (Held.new2 w _ _ _).keep hb1
  have z1 := n1.three
  go_wp2_with fail
  refine (mkOfNote_c a s k true true ha HN1.out _).mono ?_
  rintro e w2 ⟨rfl, hb2⟩
  have n2 := (n1.keep hb2).alloc (.cells #[.int .u32 (s : Int), .bool true, .int .i64 (k : Int)] 38)
  have p2 := (p1.keep hb2).alloc (.cells #[.int .u32 (s : Int), .bool true, .int .i64 (k : Int)] 38)
  have l2 := Held.new w2 38 #[.int .u32 (s : Int), .bool true, .int .i64 (k : Int)]
  have z2 := n2.three
  go_wp2_with fail
  refine (mkOpen_c a s ha hs _).mono ?_
  rintro e w3 ⟨rfl, hb3⟩
  rw [HO1.out, HC1.out]
  have n3 := n2.keep hb3
  have p3 := p2.keep hb3
  have l3 := l2.keep hb3
  have z3 := n3.three
  go_wp2_with fail
  rw [HU.out]
  refine (mkOpen_c a u ha hu _).mono ?_
  rintro e w4 ⟨rfl, hb4⟩
  rw [HO2.out, HC2.out]
  have n4 := n3.keep hb4
  have p4 := p3.keep hb4
  have l4 := l3.keep hb4
  have z4 := n4.three
  have y4 := l4.three
  go_wp2_with fail
  refine (mkOfNote_c x s' c' o' true hx HN.out _).mono ?_
  rintro e w5 ⟨rfl, hb5⟩
  have p5 := (p4.keep hb5).alloc (.cells #[.int .u32 (s' : Int), .bool o', .int .i64 (c' : Int)] 38)
  have z5 := p5.two
  have l5 := (Held.new w5 38 #[.int .u32 (s' : Int), .bool o', .int .i64 (c' : Int)]).three
  go_wp2_with fail
  refine (mkNote_c s' o' (c' : Int) hs2 (by omega) (by omega) _).mono ?_
  rintro e w6 ⟨rfl, hb6⟩
  rw [HY.out, HYB.out]
  have p6 := p5.keep hb6
  have z6 := p6.two
  go_wp2_with fail
  refine (mkEntry_c (j : Int) v hv (by omega) (by omega) _).mono ?_
  rintro e w7 ⟨rfl, hb7⟩
  rw [HE.out, HEN.out]
  have p7 := p6.keep hb7
  have z7 := p7.two
  go_wp2_with fail
  refine (mkOfEntry_of g j v hg HG1.out HG2.out hj _).mono ?_
  rintro e w8 ⟨rfl, hb8⟩
  have p8 := ((p7.keep hb8).alloc (.cells #[.int .i64 (j : Int), .int .u32 (v : Int)] 25)).two
  have l8 := (Held.new w8 25 #[.int .i64 (j : Int), .int .u32 (v : Int)]).two
  go_wp2_with fail
  refine (live_c _).mono ?_
  rintro e w9 ⟨rfl, hb9⟩
  go_wp2
  go_ret
  exact ⟨rfl, Bgo (Bnew (Bgo (Bgo (Bgo (Bnew (Bgo (Bgo (Bgo (Bnew (Bgo (Bgo (Bnew (Bnew (B0 _) _) _) hb1) hb2) _) hb3) hb4) hb5) _) hb6) hb7) hb8) _) hb9⟩

end Go.Proofs.Ytkjjbcapbkkamaa
