/-
  The law NvmFences: the walk.
-/
import Derived.Test.YtobeapibiebpaaaNvmKeeps
import Derived.BigQuiet
namespace Go.Proofs.Ytobeapibiebpaaa
open Go.ChangeShapes Go.WideShapes Go.ChangeAt Go.RowKit Go.Maps
set_option linter.unusedVariables false
set_option linter.unusedSimpArgs false

theorem step_P {n : Nat} {s : Mst} {a : ActV} {who : Int} {l : Nat} (h7 : a.d ≠ 7) (h5 : a.d ≠ 5 ∨ a.who ≠ who) (h : s.P who l = true) : (stepS n s a).P who l = true := by
  unfold stepS
  rw [if_neg h7]
  split
  · unfold storeS; split <;> exact h
  split
  · unfold swapS; split
    · unfold storeS; split <;> exact h
    · exact h
  split
  · unfold flushS putP; split
    · show (_ || s.P who l) = true
      rw [h, Bool.or_true]
    · exact h
  split
  · rename_i h5'
    show (!(who == a.who && _) && s.P who l) = true
    have : (who == a.who) = false := by
      rcases h5 with h5 | h5
      · exact absurd h5' h5
      · simp; exact fun e => h5 e.symm
    rw [this, h]
    rfl
  split
  · unfold evictS; split <;> exact h
  · exact h
theorem flush_P {n : Nat} {s : Mst} {who : Int} {k : Nat} (h : flushB n who (k : Int) = true) : (flushS n s who (k : Int)).P who (k / 8) = true := by
  unfold flushS
  rw [if_pos h]
  unfold putP
  simp
theorem flushB_yes {n : Nat} {who : Int} {k : Nat} (h : k < n) (h0 : 0 ≤ who) (h1 : who ≤ 16) : flushB n who (k : Int) = true := by
  unfold flushB
  rw [hasW_yes h, decide_eq_true ⟨h0, h1⟩]
  rfl
theorem fence_K {n : Nat} {s : Mst} {who : Int} {k : Nat} (hk : k < n) (hn : n % 8 = 0) (h : s.P who (k / 8) = true) : (fenceS n s who).K k = s.W k ∧ 1 ≤ (pendL (n / 8) s.P who).length := by
  have hm : k / 8 ∈ pendL (n / 8) s.P who := by
    unfold pendL
    rw [List.mem_filter, List.mem_range]
    exact ⟨by omega, h⟩
  refine ⟨?_, List.length_pos_of_mem hm⟩
  show keepAll s.W s.K _ k = s.W k
  unfold keepAll
  rw [if_pos (by simpa using hm)]

theorem NvmFences_few (A B : Option Addr) (n c m d : Nat) (x : ActV) (HFEW : Hid (decide (n ≤ 64 ∧ m ≤ 200) = false)) (w : World) :
    Calls Try.prog 5 #[.slice A n c, .slice B m d, .agg #[.int .i64 x.d, .int .i64 x.who, .int .i64 x.at_, .int .i64 x.mask, .int .u64 (x.old : Int), .int .u64 (x.val : Int)]] w (Keeps w) := by
  go_enter Try.func5, Try.ntmps5
  go_wp2_with fail
  refine (few_c A B n c m d _).mono ?_
  rintro e w1 ⟨rfl, rfl⟩
  rw [HFEW.out]
  go_wp2_with fail
  refine (live_c _).mono ?_
  rintro e w3 ⟨rfl, hb3⟩
  go_wp2
  go_ret
  exact ⟨rfl, Bgo (Bnew (B0 _) _) hb3⟩

theorem NvmFences_none (A B : Option Addr) (c m d : Nat) (x : ActV) (HFEW : Hid (decide (0 ≤ 64 ∧ m ≤ 200) = true)) (w : World) :
    Calls Try.prog 5 #[.slice A 0 c, .slice B m d, .agg #[.int .i64 x.d, .int .i64 x.who, .int .i64 x.at_, .int .i64 x.mask, .int .u64 (x.old : Int), .int .u64 (x.val : Int)]] w (Keeps w) := by
  go_enter Try.func5, Try.ntmps5
  go_wp2_with fail
  refine (few_c A B 0 c m d _).mono ?_
  rintro e w1 ⟨rfl, rfl⟩
  rw [HFEW.out]
  go_wp2_with fail
  refine (live_c _).mono ?_
  rintro e w3 ⟨rfl, hb3⟩
  go_wp2
  go_ret
  exact ⟨rfl, Bgo (Bnew (B0 _) _) hb3⟩

theorem NvmFences_mod (A B : Option Addr) (n c m d : Nat) (x : ActV) (HFEW : Hid (decide (n ≤ 64 ∧ m ≤ 200) = true)) (h0 : n ≠ 0) (hmod : n % 8 ≠ 0) (w : World) :
    Calls Try.prog 5 #[.slice A n c, .slice B m d, .agg #[.int .i64 x.d, .int .i64 x.who, .int .i64 x.at_, .int .i64 x.mask, .int .u64 (x.old : Int), .int .u64 (x.val : Int)]] w (Keeps w) := by
  obtain ⟨t1, t2, t3, t4⟩ := mod8_no hmod
  have t5 : ((n : Int) == 0) = false := by simp; omega
  have t6 : (n == 0) = false := by simp; omega
  clear h0 hmod
  go_enter Try.func5, Try.ntmps5
  go_wp2_with fail
  refine (few_c A B n c m d _).mono ?_
  rintro e w1 ⟨rfl, rfl⟩
  rw [HFEW.out]
  go_wp2_with fail
  refine (live_c _).mono ?_
  rintro e w3 ⟨rfl, hb3⟩
  go_wp2
  go_ret
  exact ⟨rfl, Bgo (Bnew (B0 _) _) hb3⟩

theorem NvmFences_low (A B : Option Addr) (n c m d : Nat) (x : ActV) (HFEW : Hid (decide (n ≤ 64 ∧ m ≤ 200) = true)) (h0 : n ≠ 0) (hmod : n % 8 = 0) (h : x.at_ < 0) (w : World) :
    Calls Try.prog 5 #[.slice A n c, .slice B m d, .agg #[.int .i64 x.d, .int .i64 x.who, .int .i64 x.at_, .int .i64 x.mask, .int .u64 (x.old : Int), .int .u64 (x.val : Int)]] w (Keeps w) := by
  obtain ⟨t1, t2, t3, t4⟩ := mod8 hmod
  have t5 : ((n : Int) == 0) = false := by simp; omega
  have t6 : (n == 0) = false := by simp; omega
  have u1 : decide (x.at_ < 0) = true := decide_eq_true h
  clear h h0 hmod
  go_enter Try.func5, Try.ntmps5
  go_wp2_with fail
  refine (few_c A B n c m d _).mono ?_
  rintro e w1 ⟨rfl, rfl⟩
  rw [HFEW.out]
  go_wp2_with fail
  refine (live_c _).mono ?_
  rintro e w3 ⟨rfl, hb3⟩
  go_wp2
  go_ret
  exact ⟨rfl, Bgo (Bnew (B0 _) _) hb3⟩

theorem NvmFences_high (A B : Option Addr) (n c m d : Nat) (x : ActV) (HFEW : Hid (decide (n ≤ 64 ∧ m ≤ 200) = true)) (h0 : n ≠ 0) (hmod : n % 8 = 0) (h1 : 0 ≤ x.at_) (h : (n : Int) ≤ x.at_) (w : World) :
    Calls Try.prog 5 #[.slice A n c, .slice B m d, .agg #[.int .i64 x.d, .int .i64 x.who, .int .i64 x.at_, .int .i64 x.mask, .int .u64 (x.old : Int), .int .u64 (x.val : Int)]] w (Keeps w) := by
  obtain ⟨t1, t2, t3, t4⟩ := mod8 hmod
  have t5 : ((n : Int) == 0) = false := by simp; omega
  have t6 : (n == 0) = false := by simp; omega
  have u1 : decide (x.at_ < 0) = false := decide_eq_false (by omega)
  have u2 : decide ((n : Int) ≤ x.at_) = true := decide_eq_true h
  clear h h1 h0 hmod
  go_enter Try.func5, Try.ntmps5
  go_wp2_with fail
  refine (few_c A B n c m d _).mono ?_
  rintro e w1 ⟨rfl, rfl⟩
  rw [HFEW.out]
  go_wp2_with fail
  refine (live_c _).mono ?_
  rintro e w3 ⟨rfl, hb3⟩
  go_wp2
  go_ret
  exact ⟨rfl, Bgo (Bnew (B0 _) _) hb3⟩

theorem NvmFences_who0 (A B : Option Addr) (n c m d : Nat) (x : ActV) (HFEW : Hid (decide (n ≤ 64 ∧ m ≤ 200) = true)) (h0 : n ≠ 0) (hmod : n % 8 = 0) (h1 : 0 ≤ x.at_) (h2 : x.at_ < n) (h : x.who < 0) (w : World) :
    Calls Try.prog 5 #[.slice A n c, .slice B m d, .agg #[.int .i64 x.d, .int .i64 x.who, .int .i64 x.at_, .int .i64 x.mask, .int .u64 (x.old : Int), .int .u64 (x.val : Int)]] w (Keeps w) := by
  obtain ⟨t1, t2, t3, t4⟩ := mod8 hmod
  have t5 : ((n : Int) == 0) = false := by simp; omega
  have t6 : (n == 0) = false := by simp; omega
  have u1 : decide (x.at_ < 0) = false := decide_eq_false (by omega)
  have u2 : decide ((n : Int) ≤ x.at_) = false := decide_eq_false (by omega)
  have u3 : decide (x.who < 0) = true := decide_eq_true h
  clear h h1 h2 h0 hmod
  go_enter Try.func5, Try.ntmps5
  go_wp2_with fail
  refine (few_c A B n c m d _).mono ?_
  rintro e w1 ⟨rfl, rfl⟩
  rw [HFEW.out]
  go_wp2_with fail
  refine (live_c _).mono ?_
  rintro e w3 ⟨rfl, hb3⟩
  go_wp2
  go_ret
  exact ⟨rfl, Bgo (Bnew (B0 _) _) hb3⟩

theorem NvmFences_who16 (A B : Option Addr) (n c m d : Nat) (x : ActV) (HFEW : Hid (decide (n ≤ 64 ∧ m ≤ 200) = true)) (h0 : n ≠ 0) (hmod : n % 8 = 0) (h1 : 0 ≤ x.at_) (h2 : x.at_ < n) (h3 : 0 ≤ x.who) (h : 16 < x.who) (w : World) :
    Calls Try.prog 5 #[.slice A n c, .slice B m d, .agg #[.int .i64 x.d, .int .i64 x.who, .int .i64 x.at_, .int .i64 x.mask, .int .u64 (x.old : Int), .int .u64 (x.val : Int)]] w (Keeps w) := by
  obtain ⟨t1, t2, t3, t4⟩ := mod8 hmod
  have t5 : ((n : Int) == 0) = false := by simp; omega
  have t6 : (n == 0) = false := by simp; omega
  have u1 : decide (x.at_ < 0) = false := decide_eq_false (by omega)
  have u2 : decide ((n : Int) ≤ x.at_) = false := decide_eq_false (by omega)
  have u3 : decide (x.who < 0) = false := decide_eq_false (by omega)
  have u4 : decide ((16 : Int) < x.who) = true := decide_eq_true h
  clear h h1 h2 h3 h0 hmod
  go_enter Try.func5, Try.ntmps5
  go_wp2_with fail
  refine (few_c A B n c m d _).mono ?_
  rintro e w1 ⟨rfl, rfl⟩
  rw [HFEW.out]
  go_wp2_with fail
  refine (live_c _).mono ?_
  rintro e w3 ⟨rfl, hb3⟩
  go_wp2
  go_ret
  exact ⟨rfl, Bgo (Bnew (B0 _) _) hb3⟩


set_option maxRecDepth 100000 in
set_option maxHeartbeats 3200000 in
theorem NvmFences_main (A B : Option Addr) (c d m : Nat) (ws : List Nat) (l : List ActV) (x : ActV) (n q : Nat) (hcd : m ≤ d) (hdm : d ≤ maxLen) (HNN : Hid (ws.length = n)) (HMM : Hid (l.length = m)) (HWS : Hid (∀ y ∈ ws, y < 2 ^ 64)) (HLL : Hid (∀ a ∈ l, a.Ok)) (HX : Hid x.Ok)
    (hfew : n ≤ 64 ∧ m ≤ 200) (h0 : n ≠ 0) (hmod : n % 8 = 0) (hq : x.at_ = q) (hqn : q < n) (h3 : 0 ≤ x.who) (h4 : x.who ≤ 16) (W : World) (HR : Hid (Reads W W.heap.size 1 A n (wordVs ws))) (HA : Hid (ActsAt W B l)) :
    Calls Try.prog 5 #[.slice A n c, .slice B m d, .agg #[.int .i64 x.d, .int .i64 x.who, .int .i64 x.at_, .int .i64 x.mask, .int .u64 (x.old : Int), .int .u64 (x.val : Int)]] W (Keeps W) := by
  obtain ⟨t1, t2, t3, t4⟩ := mod8 hmod
  have t5 : ((n : Int) == 0) = false := by simp; omega
  have t6 : (n == 0) = false := by simp; omega
  obtain ⟨xd, xw, xq, xm, xo, xv⟩ := x
  simp only at hq h3 h4 HX ⊢
  subst hq
  have u1 : decide ((n : Int) ≤ (q : Int)) = false := decide_eq_false (by omega)
  have u2 : decide (n ≤ q) = false := decide_eq_false (by omega)
  have u3 : decide (xw < 0) = false := decide_eq_false (by omega)
  have u4 : decide ((16 : Int) < xw) = false := decide_eq_false (by omega)
  have HR1 : Hid (Reads (W.alloc (.cells #[.int .i64 xd, .int .i64 xw, .int .i64 (q : Int), .int .i64 xm, .int .u64 (xo : Int), .int .u64 (xv : Int)] 34)) (W.alloc (.cells #[.int .i64 xd, .int .i64 xw, .int .i64 (q : Int), .int .i64 xm, .int .u64 (xo : Int), .int .u64 (xv : Int)] 34)).heap.size 1 A n (wordVs ws)) :=
    hidp ((HR.out.alloc (Nat.le_refl _) _).more (by simp))
  have HX1 : Hid (Held (W.alloc (.cells #[.int .i64 xd, .int .i64 xw, .int .i64 (q : Int), .int .i64 xm, .int .u64 (xo : Int), .int .u64 (xv : Int)] 34)) W.heap.size 34 #[.int .i64 xd, .int .i64 xw, .int .i64 (q : Int), .int .i64 xm, .int .u64 (xo : Int), .int .u64 (xv : Int)]) := hidp (Held.new _ _ _)
  have HB1 : Hid (Below W.heap.size W (W.alloc (.cells #[.int .i64 xd, .int .i64 xw, .int .i64 (q : Int), .int .i64 xm, .int .u64 (xo : Int), .int .u64 (xv : Int)] 34))) := hidp (Bnew (B0 _) _)
  have hsz : (W.alloc (.cells #[.int .i64 xd, .int .i64 xw, .int .i64 (q : Int), .int .i64 xm, .int .u64 (xo : Int), .int .u64 (xv : Int)] 34)).heap.size = W.heap.size + 1 := by simp
  go_enter Try.func5, Try.ntmps5
  go_wp2_with fail
  refine (few_c A B n c m d _).mono ?_
  rintro e w1 ⟨rfl, rfl⟩
  rw [decide_eq_true hfew]
  go_wp2_with fail
  have hnew := New_ws A c ws (by have := HNN.out; omega) (by have := HNN.out; omega) (by have := HNN.out; omega) HWS.out _ (by rw [HNN.out]; exact HR1.out)
  rw [HNN.out] at hnew
  refine hnew.mono ?_
  rintro e w2 ⟨o, hon, rfl, hI, ob, og, oh, om, hB⟩
  subst hon
  rw [hsz] at ob og oh om
  have HO : Hid (o.New (W.heap.size + 1)) := hidp ⟨ob, og, oh, om⟩
  have HI2 := hidp hI
  have HB2 := hidp (Bgo HB1.out hB)
  have HX2 := hidp (HX1.out.keep hB)
  clear hnew hI ob og oh om hB HB1 HX1 HR1 hsz
  have hx2 := HX2.out.cell 1
  have hx3 := HX2.out.cell 2
  have hx6 := HX2.out.cell 5
  simp at hx2 hx3 hx6
  go_wp2_with fail
  refine (Store_c o 0 _ (q : Int) xv HX.out.val _ HI2.out).mono ?_
  rintro e w3 ⟨rfl, hI3, hT3⟩
  rw [hasW_yes hqn]
  have HI3 := hidp hI3
  have HB3 := hidp (hT3.below HB2.out (fun i hi => by have := HO.out.F i hi; omega))
  have HX3 := hidp (hT3.held HX2.out (fun hf => by have := HO.out.F _ hf; omega))
  clear hI3 hT3 hx2 hx3 hx6
  have hx2 := HX3.out.cell 1
  have hx3 := HX3.out.cell 2
  simp at hx2 hx3
  go_wp2_with fail
  refine (Flush_c o 0 _ xw (q : Int) _ (by omega) HI3.out).mono ?_
  rintro e w4 ⟨rfl, hI4, hT4⟩
  have HFB := hidp (flushB_yes hqn h3 h4)
  rw [HFB.out]
  have HP4 := hidp (flush_P (s := storeS o.n (newS (wsF ws)) (q : Int) xv) HFB.out)
  have HI4 := hidp hI4
  have HB4 := hidp (hT4.below HB3.out (fun i hi => by have := HO.out.F i hi; omega))
  have HX4 := hidp (hT4.held HX3.out (fun hf => by have := HO.out.F _ hf; omega))
  clear hI4 hT4 hx2 hx3
  go_wp2_with fail
  go_loopw [8] (fun i wr => ∃ (k : Nat) (s : Mst), k ≤ m ∧ i = .int .i64 k ∧ Hid (IsMem wr o (k + 1) s) ∧ Hid (s.P xw (q / 8) = true) ∧ Hid (Below W.heap.size W wr) ∧ Hid (Held wr W.heap.size 34 #[.int .i64 xd, .int .i64 xw, .int .i64 (q : Int), .int .i64 xm, .int .u64 (xo : Int), .int .u64 (xv : Int)])) (fun i _ => m - (intOf i).toNat)
  case atStart => exact ⟨0, _, by omega, rfl, HI4, HP4, HB4, HX4⟩
  case round =>
    obtain ⟨k, s, hk, rfl, HI, HP, HB, HXX⟩ := hrel
    clear HI2 HI3 HI4 HB2 HB3 HB4 HX2 HX3 HX4 HP4 HFB t1 t2 t3 t4 t5 t6 u1 u2 u3 u4
    by_cases hlt : k < m
    · obtain ⟨a, ha⟩ : ∃ a, l[k]? = some a := ⟨_, List.getElem?_eq_getElem (by rw [HMM.out]; exact hlt)⟩
      have HAO := hidp (HLL.out a (List.mem_of_getElem? ha))
      obtain ⟨ad, rfl, _, _⟩ := HA.out k a ha
      obtain ⟨x0, x1, x2, x3, x4, x5⟩ := (HA.out.below HB.out).cells ha
      have hx2 := HXX.out.cell 1
      simp at hx2
      have HST : Hid (a.d ≠ 7 → (a.d ≠ 5 ∨ a.who ≠ xw) → (stepS o.n s a).P xw (q / 8) = true) := hidp (fun h7 h5 => step_P h7 h5 HP.out)
      by_cases d7 : a.d = 7
      · skip
        have u7 : (a.d != 7) = false := by simp [d7]
        have v7 : (a.d == 7) = true := by simp [d7]
        clear HST d7
        clear x2 x3 x4 x5
        go_wp2
        go_big_quiet (fail)
        go_wp2
        have HI6 := hidp (HI.out.more (Nat.le_succ (k + 1)))
        have HB6 := HB
        have HX6 := HXX
        have HP6 := HP
        go_roundw
        case rel => exact ⟨k + 1, _, by omega, by go_num, hidp (HI6.out.keep (by repeat (first | with_reducible exact B0 _ | refine Bdraw ?_ _ | refine Bdrew ?_))), HP6, hidp (Bgo HB6.out (by repeat (first | with_reducible exact B0 _ | refine Bdraw ?_ _ | refine Bdrew ?_))), hidp (HX6.out.keep (by repeat (first | with_reducible exact B0 _ | refine Bdraw ?_ _ | refine Bdrew ?_)))⟩
        case measure => simp [intOf]; omega
      have u7 : (a.d != 7) = true := by simp [d7]
      have v7 : (a.d == 7) = false := by simp [d7]
      by_cases d5 : a.d = 5
      · have u5 : (a.d != 5) = false := by simp [d5]
        have v5 : (a.d == 5) = true := by simp [d5]
        by_cases dw : a.who = xw
        · have uw : (a.who != xw) = false := by simp [dw]
          have vw : (a.who == xw) = true := by simp [dw]
          clear HST d7 d5 dw
          clear x2 x3 x4 x5
          go_wp2
          go_big_quiet (fail)
          go_wp2
          have HI6 := hidp (HI.out.more (Nat.le_succ (k + 1)))
          have HB6 := HB
          have HX6 := HXX
          have HP6 := HP
          go_roundw
          case rel => exact ⟨k + 1, _, by omega, by go_num, hidp (HI6.out.keep (by repeat (first | with_reducible exact B0 _ | refine Bdraw ?_ _ | refine Bdrew ?_))), HP6, hidp (Bgo HB6.out (by repeat (first | with_reducible exact B0 _ | refine Bdraw ?_ _ | refine Bdrew ?_))), hidp (HX6.out.keep (by repeat (first | with_reducible exact B0 _ | refine Bdraw ?_ _ | refine Bdrew ?_)))⟩
          case measure => simp [intOf]; omega
        · have uw : (a.who != xw) = true := by simp [dw]
          have vw : (a.who == xw) = false := by simp [dw]
          have HP6 := hidp (HST.out d7 (.inr dw))
          clear HST d7 d5 dw
          go_wp2
          go_big_quiet (fail)
          go_wp2_with fail
          refine (Do_m o (k + 1) s a HAO.out (by omega) _ (HI.out.keep (by repeat (first | with_reducible exact B0 _ | refine Bdraw ?_ _ | refine Bdrew ?_)))).mono ?_
          rintro e w6 ⟨rfl, hI6, hT6⟩
          have HI6 := hidp hI6
          have HB6 := hidp (hT6.below (Bgo HB.out (by repeat (first | with_reducible exact B0 _ | refine Bdraw ?_ _ | refine Bdrew ?_))) (fun i hi => by have := HO.out.F i hi; omega))
          have HX6 := hidp (hT6.held (HXX.out.keep (by repeat (first | with_reducible exact B0 _ | refine Bdraw ?_ _ | refine Bdrew ?_))) (fun hf => by have := HO.out.F _ hf; omega))
          clear hI6 hT6 x0 x1 x2 x3 x4 x5 hx2
          go_wp2
          go_roundw
          case rel => exact ⟨k + 1, _, by omega, by go_num, hidp (HI6.out.keep (by repeat (first | with_reducible exact B0 _ | refine Bdraw ?_ _ | refine Bdrew ?_))), HP6, hidp (Bgo HB6.out (by repeat (first | with_reducible exact B0 _ | refine Bdraw ?_ _ | refine Bdrew ?_))), hidp (HX6.out.keep (by repeat (first | with_reducible exact B0 _ | refine Bdraw ?_ _ | refine Bdrew ?_)))⟩
          case measure => simp [intOf]; omega
      have u5 : (a.d != 5) = true := by simp [d5]
      have v5 : (a.d == 5) = false := by simp [d5]
      have HP6 := hidp (HST.out d7 (.inl d5))
      clear HST d7 d5
      go_wp2
      go_big_quiet (fail)
      go_wp2_with fail
      refine (Do_m o (k + 1) s a HAO.out (by omega) _ (HI.out.keep (by repeat (first | with_reducible exact B0 _ | refine Bdraw ?_ _ | refine Bdrew ?_)))).mono ?_
      rintro e w6 ⟨rfl, hI6, hT6⟩
      have HI6 := hidp hI6
      have HB6 := hidp (hT6.below (Bgo HB.out (by repeat (first | with_reducible exact B0 _ | refine Bdraw ?_ _ | refine Bdrew ?_))) (fun i hi => by have := HO.out.F i hi; omega))
      have HX6 := hidp (hT6.held (HXX.out.keep (by repeat (first | with_reducible exact B0 _ | refine Bdraw ?_ _ | refine Bdrew ?_))) (fun hf => by have := HO.out.F _ hf; omega))
      clear hI6 hT6 x0 x1 x2 x3 x4 x5 hx2
      go_wp2
      go_roundw
      case rel => exact ⟨k + 1, _, by omega, by go_num, hidp (HI6.out.keep (by repeat (first | with_reducible exact B0 _ | refine Bdraw ?_ _ | refine Bdrew ?_))), HP6, hidp (Bgo HB6.out (by repeat (first | with_reducible exact B0 _ | refine Bdraw ?_ _ | refine Bdrew ?_))), hidp (HX6.out.keep (by repeat (first | with_reducible exact B0 _ | refine Bdraw ?_ _ | refine Bdrew ?_)))⟩
      case measure => simp [intOf]; omega
    · obtain rfl : k = m := by omega
      have hx2 := HXX.out.cell 1
      have hx3 := HXX.out.cell 2
      simp at hx2 hx3
      have hlim : k + 1 < 2 ^ 40 := by omega
      have hns := HI.out.nmax
      have HV := hidp (loadV_yes (s := s) hqn)
      have HFK := hidp (fence_K hqn HI.out.nmod HP.out)
      go_wp2_with fail
      refine (Load_c o _ s (q : Int) _ HI.out).mono ?_
      rintro e w5 ⟨rfl, rfl⟩
      rw [hasW_yes hqn, HV.out]
      go_wp2_with fail
      refine (Fence_m o _ s xw HX.out.who hlim _ HI.out).mono ?_
      rintro e w6 ⟨rfl, hI6, hT6⟩
      have HI6 := hidp hI6
      have HB6 := hidp (hT6.below HB.out (fun i hi => by have := HO.out.F i hi; omega))
      have HX6 := hidp (hT6.held HXX.out (fun hf => by have := HO.out.F _ hf; omega))
      clear hI6 hT6 hx2 hx3
      have hz := HFK.out.2
      generalize (pendL (o.n / 8) s.P xw).length = z at *
      have tz : decide ((1 : Int) ≤ z) = true := decide_eq_true (by omega)
      have tz2 : decide (1 ≤ z) = true := decide_eq_true (by omega)
      go_wp2_with fail
      refine (Crash_m o _ _ _ HI6.out).mono ?_
      rintro e w7 ⟨rfl, hI7, hT7⟩
      have HI7 := hidp hI7
      have HB7 := hidp (hT7.below HB6.out (fun i hi => by have := HO.out.F i hi; omega))
      have HX7 := hidp (hT7.held HX6.out (fun hf => by have := HO.out.F _ hf; omega))
      clear hI7 hT7
      have hx3 := HX7.out.cell 2
      simp at hx3
      have HV2 : Hid (loadV o.n (newS (fenceS o.n s xw).K) (q : Int) = s.W q) := hidp ((loadV_yes (s := newS (fenceS o.n s xw).K) hqn).trans HFK.out.1)
      have HKq : Hid (wordF (newS (fenceS o.n s xw).K).K q = .int .u64 ((s.W q : Nat) : Int)) := hidp (by
        unfold wordF
        rw [show (newS (fenceS o.n s xw).K).K q = (fenceS o.n s xw).K q from rfl, HFK.out.1])
      generalize s.W q = v at *
      go_wp2_with fail
      refine (Load_c o _ _ (q : Int) _ HI7.out).mono ?_
      rintro e w8 ⟨rfl, rfl⟩
      rw [hasW_yes hqn, HV2.out]
      go_wp2_with fail
      refine wp_region_held_drew (S := (fun w' => w'.cell? ⟨W.heap.size, 2, none⟩ = some (.int .i64 (q : Int)))) (by kernel_rfl) ?_ (fun hHeld => ?_)
      · (try dsimp only)
        first | exact hx3 | exact hst _ _ hHeld | exact hHeld
      refine wpAnyH_take (i := 0) (oi := _) (v := ?_) rfl (by kernel_rfl) (by kernel_rfl) (by kernel_rfl) (fun _ _ _ h => h) (Or.inl ⟨by rfl, ?_⟩) (by assumption) ?_
      rotate_left
      · intro w hSw; (try dsimp only at hSw); go_simp; (try with_reducible rfl)
      (try simp only [Act.put, List.getElem_toArray, List.getElem_cons_zero, List.getElem_cons_succ, List.setIfInBounds_toArray, List.set_cons_zero, List.set_cons_succ])
      refine wpAnyH_take (i := 1) (oi := _) (v := ?_) rfl (by kernel_rfl) (by kernel_rfl) (by kernel_rfl) (fun _ _ _ h => h) (Or.inl ⟨by rfl, ?_⟩) (by assumption) ?_
      rotate_left
      · intro w hSw; (try dsimp only at hSw); go_simp; (try with_reducible rfl)
      (try simp only [Act.put, List.getElem_toArray, List.getElem_cons_zero, List.getElem_cons_succ, List.setIfInBounds_toArray, List.set_cons_zero, List.set_cons_succ])
      refine wpAnyH_take (i := 2) (oi := _) (v := ?_) rfl (by kernel_rfl) (by kernel_rfl) (by kernel_rfl) (fun _ _ _ h => h) (Or.inl ⟨by rfl, ?_⟩) (by assumption) ?_
      rotate_left
      · intro w hSw; (try dsimp only at hSw); go_simp; (try with_reducible rfl)
      (try simp only [Act.put, List.getElem_toArray, List.getElem_cons_zero, List.getElem_cons_succ, List.setIfInBounds_toArray, List.set_cons_zero, List.set_cons_succ])
      refine wpAnyH_take (i := 3) (oi := _) (v := ?_) rfl (by kernel_rfl) (by kernel_rfl) (by kernel_rfl) (fun _ _ _ h => h) (Or.inl ⟨by rfl, ?_⟩) (by assumption) ?_
      rotate_left
      · intro w hSw; (try dsimp only at hSw); go_simp; (try with_reducible rfl)
      (try simp only [Act.put, List.getElem_toArray, List.getElem_cons_zero, List.getElem_cons_succ, List.setIfInBounds_toArray, List.set_cons_zero, List.set_cons_succ])
      refine wpAnyH_take (i := 4) (oi := _) (v := ?_) rfl (by kernel_rfl) (by kernel_rfl) (by kernel_rfl) (fun _ _ _ h => h) (Or.inl ⟨by rfl, ?_⟩) (by assumption) ?_
      rotate_left
      · intro w hSw; (try dsimp only at hSw); go_simp; (try with_reducible rfl)
      (try simp only [Act.put, List.getElem_toArray, List.getElem_cons_zero, List.getElem_cons_succ, List.setIfInBounds_toArray, List.set_cons_zero, List.set_cons_succ])
      refine wpAnyH_take (i := 5) (oi := _) (v := ?_) rfl (by kernel_rfl) (by kernel_rfl) (by kernel_rfl) (fun _ _ _ h => h) (Or.inl ⟨by rfl, ?_⟩) (by assumption) ?_
      rotate_left
      · intro w hSw; (try dsimp only at hSw); go_simp; (try with_reducible rfl)
      (try simp only [Act.put, List.getElem_toArray, List.getElem_cons_zero, List.getElem_cons_succ, List.setIfInBounds_toArray, List.set_cons_zero, List.set_cons_succ])
      refine wpAnyH_take (i := 6) (oi := _) (v := ?_) rfl (by kernel_rfl) (by kernel_rfl) (by kernel_rfl) (fun _ _ _ h => h) (Or.inl ⟨by rfl, ?_⟩) (by assumption) ?_
      rotate_left
      · intro w hSw; (try dsimp only at hSw); go_simp; (try with_reducible rfl)
      (try simp only [Act.put, List.getElem_toArray, List.getElem_cons_zero, List.getElem_cons_succ, List.setIfInBounds_toArray, List.set_cons_zero, List.set_cons_succ])
      refine wpAnyH_take (i := 7) (oi := _) (v := ?_) rfl (by kernel_rfl) (by kernel_rfl) (by kernel_rfl) (fun _ _ _ h => h) (Or.inl ⟨by rfl, ?_⟩) (by assumption) ?_
      rotate_left
      · intro w hSw; (try dsimp only at hSw); go_simp; (try with_reducible rfl)
      (try simp only [Act.put, List.getElem_toArray, List.getElem_cons_zero, List.getElem_cons_succ, List.setIfInBounds_toArray, List.set_cons_zero, List.set_cons_succ])
      refine wpAnyH_take (i := 8) (oi := _) (v := ?_) rfl (by kernel_rfl) (by kernel_rfl) (by kernel_rfl) (fun _ _ _ h => h) (Or.inl ⟨by rfl, ?_⟩) (by assumption) ?_
      rotate_left
      · intro w hSw; (try dsimp only at hSw); go_simp; (try with_reducible rfl)
      (try simp only [Act.put, List.getElem_toArray, List.getElem_cons_zero, List.getElem_cons_succ, List.setIfInBounds_toArray, List.set_cons_zero, List.set_cons_succ])
      refine wpAnyH_take (i := 9) (oi := _) (v := ?_) rfl (by kernel_rfl) (by kernel_rfl) (by kernel_rfl) (fun _ _ _ h => h) (Or.inl ⟨by rfl, ?_⟩) (by assumption) ?_
      rotate_left
      · intro w hSw; (try dsimp only at hSw); go_simp; (try with_reducible rfl)
      (try simp only [Act.put, List.getElem_toArray, List.getElem_cons_zero, List.getElem_cons_succ, List.setIfInBounds_toArray, List.set_cons_zero, List.set_cons_succ])
      refine wpAnyH_take (i := 10) (oi := _) (v := ?_) rfl (by kernel_rfl) (by kernel_rfl) (by kernel_rfl) (fun _ _ _ h => h) (Or.inl ⟨by rfl, ?_⟩) (by assumption) ?_
      rotate_left
      · intro w hSw; (try dsimp only at hSw); go_simp; (try with_reducible rfl)
      (try simp only [Act.put, List.getElem_toArray, List.getElem_cons_zero, List.getElem_cons_succ, List.setIfInBounds_toArray, List.set_cons_zero, List.set_cons_succ])
      refine wpAnyH_take (i := 11) (oi := _) (v := ?_) rfl (by kernel_rfl) (by kernel_rfl) (by kernel_rfl) (fun _ _ _ h => h) (Or.inl ⟨by rfl, ?_⟩) (by assumption) ?_
      rotate_left
      · intro w hSw; (try dsimp only at hSw); go_simp; (try with_reducible rfl)
      (try simp only [Act.put, List.getElem_toArray, List.getElem_cons_zero, List.getElem_cons_succ, List.setIfInBounds_toArray, List.set_cons_zero, List.set_cons_succ])
      refine wpAnyH_take (i := 13) (oi := _) (v := ?_) rfl (by kernel_rfl) (by kernel_rfl) (by kernel_rfl) (fun _ _ _ h => h) (Or.inl ⟨by rfl, ?_⟩) (by assumption) ?_
      rotate_left
      · intro w hSw; (try dsimp only at hSw); go_simp; (try with_reducible rfl)
      (try simp only [Act.put, List.getElem_toArray, List.getElem_cons_zero, List.getElem_cons_succ, List.setIfInBounds_toArray, List.set_cons_zero, List.set_cons_succ])
      refine wpAnyH_take (i := 14) (oi := _) (v := ?_) rfl (by kernel_rfl) (by kernel_rfl) (by kernel_rfl) (fun _ _ _ h => h) (Or.inl ⟨by rfl, ?_⟩) (by assumption) ?_
      rotate_left
      · intro w hSw; (try dsimp only at hSw); go_simp; (try with_reducible rfl)
      (try simp only [Act.put, List.getElem_toArray, List.getElem_cons_zero, List.getElem_cons_succ, List.setIfInBounds_toArray, List.set_cons_zero, List.set_cons_succ])
      refine wpAnyH_take (i := 17) (oi := _) (v := ?_) rfl (by kernel_rfl) (by kernel_rfl) (by kernel_rfl) (fun _ _ _ h => h) (Or.inl ⟨by rfl, ?_⟩) (by assumption) ?_
      rotate_left
      · intro w hSw; (try dsimp only at hSw); go_simp; (try with_reducible rfl)
      (try simp only [Act.put, List.getElem_toArray, List.getElem_cons_zero, List.getElem_cons_succ, List.setIfInBounds_toArray, List.set_cons_zero, List.set_cons_succ])
      refine wpAnyH_ready (rs := [12]) (by kernel_rfl) (by simp) ?_
      refine AllReadyH.cons (o := _) rfl (fun K hK => ?_) AllReadyH.nil
      go_simp
      refine (Kept_m o _ _ _ (HI7.out.keep (Bdrew (B0 _)))).mono ?_; rintro e w9 ⟨g9, c9, rfl, hg9, hr9, hb9⟩; have hst := cells_stay hb9; have hk9 := (hr9.cell hqn).trans (congrArg some HKq.out); have hl9 := hr9.le; have hm9 := hr9.max; have HB9 := hidp hb9; clear hr9 hb9; unfold maxLen at hm9
      refine hK.out _ _ ?_ (fun hHeld => ?_)
      · (try dsimp only)
        first | exact hx3 | exact hst _ _ hHeld | exact hHeld
      clear hK K
      (try simp only [Act.put, List.getElem_toArray, List.getElem_cons_zero, List.getElem_cons_succ, List.setIfInBounds_toArray, List.set_cons_zero, List.set_cons_succ])
      refine wpAnyH_take (i := 15) (oi := _) (v := ?_) rfl (by kernel_rfl) (by kernel_rfl) (by kernel_rfl) (fun _ _ _ h => h) (Or.inl ⟨by rfl, ?_⟩) (by assumption) ?_
      rotate_left
      · intro w hSw; (try dsimp only at hSw); go_simp; (try with_reducible rfl)
      (try simp only [Act.put, List.getElem_toArray, List.getElem_cons_zero, List.getElem_cons_succ, List.setIfInBounds_toArray, List.set_cons_zero, List.set_cons_succ])
      refine wpAnyH_ready (rs := [16]) (by kernel_rfl) (by simp) ?_
      refine AllReadyH.cons (o := _) rfl (fun K hK => ?_) AllReadyH.nil
      go_simp
      skip
      refine hK.out _ _ ?_ (fun hHeld => ?_)
      · (try dsimp only)
        first | exact hx3 | exact hst _ _ hHeld | exact hHeld
      clear hK K
      (try simp only [Act.put, List.getElem_toArray, List.getElem_cons_zero, List.getElem_cons_succ, List.setIfInBounds_toArray, List.set_cons_zero, List.set_cons_succ])
      refine wpAnyH_take (i := 18) (oi := _) (v := ?_) rfl (by kernel_rfl) (by kernel_rfl) (by kernel_rfl) (fun _ _ _ h => h) (Or.inl ⟨by rfl, ?_⟩) (by assumption) ?_
      rotate_left
      · intro w hSw; (try dsimp only at hSw); go_simp; (try with_reducible rfl)
      (try simp only [Act.put, List.getElem_toArray, List.getElem_cons_zero, List.getElem_cons_succ, List.setIfInBounds_toArray, List.set_cons_zero, List.set_cons_succ])
      refine wpAnyH_take (i := 19) (oi := _) (v := ?_) rfl (by kernel_rfl) (by kernel_rfl) (by kernel_rfl) (fun _ _ _ h => h) (Or.inl ⟨by rfl, ?_⟩) (by assumption) ?_
      rotate_left
      · intro w hSw; (try dsimp only at hSw); go_simp; (try with_reducible rfl)
      (try simp only [Act.put, List.getElem_toArray, List.getElem_cons_zero, List.getElem_cons_succ, List.setIfInBounds_toArray, List.set_cons_zero, List.set_cons_succ])
      refine wpAnyH_take (i := 20) (oi := _) (v := ?_) rfl (by kernel_rfl) (by kernel_rfl) (by kernel_rfl) (fun _ _ _ h => h) (Or.inl ⟨by rfl, ?_⟩) (by assumption) ?_
      rotate_left
      · intro w hSw; (try dsimp only at hSw); go_simp; (try with_reducible rfl)
      (try simp only [Act.put, List.getElem_toArray, List.getElem_cons_zero, List.getElem_cons_succ, List.setIfInBounds_toArray, List.set_cons_zero, List.set_cons_succ])
      refine wpAnyH_ready (rs := [21]) (by kernel_rfl) (by simp) ?_
      refine AllReadyH.cons (o := _) rfl (fun K hK => ?_) AllReadyH.nil
      go_simp
      refine (live_c _).mono ?_; rintro e w10 ⟨rfl, hb10⟩; have hst := cells_stay hb10
      refine hK.out _ _ ?_ (fun hHeld => ?_)
      · (try dsimp only)
        first | exact hx3 | exact hst _ _ hHeld | exact hHeld
      clear hK K
      (try simp only [Act.put, List.getElem_toArray, List.getElem_cons_zero, List.getElem_cons_succ, List.setIfInBounds_toArray, List.set_cons_zero, List.set_cons_succ])
      refine wpAnyH_take (i := 22) (oi := _) (v := ?_) rfl (by kernel_rfl) (by kernel_rfl) (by kernel_rfl) (fun _ _ _ h => h) (Or.inl ⟨by rfl, ?_⟩) (by assumption) ?_
      rotate_left
      · intro w hSw; (try dsimp only at hSw); go_simp; (try with_reducible rfl)
      (try simp only [Act.put, List.getElem_toArray, List.getElem_cons_zero, List.getElem_cons_succ, List.setIfInBounds_toArray, List.set_cons_zero, List.set_cons_succ])
      refine wpAnyH_take (i := 23) (oi := _) (v := ?_) rfl (by kernel_rfl) (by kernel_rfl) (by kernel_rfl) (fun _ _ _ h => h) (Or.inl ⟨by rfl, ?_⟩) (by assumption) ?_
      rotate_left
      · intro w hSw; (try dsimp only at hSw); go_simp; (try with_reducible rfl)
      (try simp only [Act.put, List.getElem_toArray, List.getElem_cons_zero, List.getElem_cons_succ, List.setIfInBounds_toArray, List.set_cons_zero, List.set_cons_succ])
      refine wpAnyH_done (by kernel_rfl) ?_ _
      go_wp2
      go_ret
      exact ⟨rfl, Bgo (Bgo (Bgo HB7.out (Bdrew (B0 _))) HB9.out) hb10⟩

theorem NvmFences_calls (A B : Option Addr) (c d : Nat) (ws : List Nat) (l : List ActV) (x : ActV) (hcd : l.length ≤ d) (hdm : d ≤ maxLen) (hw : ∀ y ∈ ws, y < 2 ^ 64) (hl : ∀ a ∈ l, a.Ok) (hx : x.Ok) (W : World) (HR : Hid (Reads W W.heap.size 1 A ws.length (wordVs ws))) (HA : Hid (ActsAt W B l)) :
    Calls Try.prog 5 #[.slice A ws.length c, .slice B l.length d, x.v] W (Keeps W) := by
  unfold ActV.v
  by_cases hfew : ws.length ≤ 64 ∧ l.length ≤ 200
  · have HF := hidp (decide_eq_true hfew)
    by_cases h0 : ws.length = 0
    · rw [h0] at HF ⊢
      exact NvmFences_none A B c _ d x HF W
    · by_cases hmod : ws.length % 8 = 0
      · rcases Int.lt_or_le x.at_ 0 with h1 | h1
        · exact NvmFences_low A B _ c _ d x HF h0 hmod h1 W
        · rcases Int.lt_or_le x.at_ ws.length with h2 | h2
          · rcases Int.lt_or_le x.who 0 with h3 | h3
            · exact NvmFences_who0 A B _ c _ d x HF h0 hmod h1 h2 h3 W
            · rcases Int.lt_or_le 16 x.who with h4 | h4
              · exact NvmFences_who16 A B _ c _ d x HF h0 hmod h1 h2 h3 h4 W
              · obtain ⟨q, hq⟩ := Int.eq_ofNat_of_zero_le h1
                exact NvmFences_main A B c d _ ws l x _ q hcd hdm (hidp rfl) (hidp rfl) (hidp hw) (hidp hl) (hidp hx) hfew h0 hmod hq (by omega) h3 h4 W HR HA
          · exact NvmFences_high A B _ c _ d x HF h0 hmod h1 h2 W
      · exact NvmFences_mod A B _ c _ d x HF h0 hmod W
  · exact NvmFences_few A B _ c _ d x (hidp (decide_eq_false hfew)) W
end Go.Proofs.Ytobeapibiebpaaa
