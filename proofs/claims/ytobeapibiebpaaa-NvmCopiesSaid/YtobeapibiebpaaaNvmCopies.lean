/-
  The law NvmCopies: the walk.
-/
import Derived.Test.YtobeapibiebpaaaNvmKeeps
import Derived.Test.YtobeapibiebpaaaNvmNil
namespace Go.Proofs.Ytobeapibiebpaaa
open Go.ChangeShapes Go.WideShapes Go.ChangeAt Go.RowKit Go.Maps
set_option linter.unusedVariables false
set_option linter.unusedSimpArgs false

/-- what a memory holds behind the acts from h on, up to j -/
def runS (n : Nat) (s : Mst) (l : List ActV) (h j : Nat) : Mst := ((l.take j).drop h).foldl (stepS n) s
theorem runS_self (n : Nat) (s : Mst) (l : List ActV) (h : Nat) : runS n s l h h = s := by
  unfold runS
  rw [List.drop_eq_nil_of_le (by simp; omega)]
  rfl
theorem runS_step {n : Nat} {s : Mst} {l : List ActV} {h j : Nat} {a : ActV} (hj : h ≤ j) (ha : l[j]? = some a) : runS n s l h (j + 1) = stepS n (runS n s l h j) a := by
  unfold runS
  have hl : j < l.length := by
    rcases Nat.lt_or_ge j l.length with h1 | h1
    · exact h1
    · rw [List.getElem?_eq_none h1] at ha; cases ha
  rw [List.take_add_one, ha]
  rw [List.drop_append_of_le_length (by simp; omega)]
  simp

set_option maxRecDepth 100000 in
theorem NvmCopies_few (A B : Option Addr) (n c m d : Nat) (HFEW : Hid (decide (n ≤ 64 ∧ m ≤ 200) = false)) (w : World) :
    Calls Try.prog 6 #[.slice A n c, .slice B m d] w (Keeps w) := by
  go_enter Try.func6, Try.ntmps6
  go_wp2_with fail
  refine (few_c A B n c m d _).mono ?_
  rintro e w1 ⟨rfl, rfl⟩
  rw [HFEW.out]
  go_wp2_with fail
  refine (live_c _).mono ?_
  rintro e w3 ⟨rfl, hb3⟩
  go_wp2
  go_ret
  exact ⟨rfl, hb3⟩

set_option maxRecDepth 100000 in
theorem NvmCopies_none (A B : Option Addr) (c m d : Nat) (HFEW : Hid (decide (0 ≤ 64 ∧ m ≤ 200) = true)) (w : World) :
    Calls Try.prog 6 #[.slice A 0 c, .slice B m d] w (Keeps w) := by
  go_enter Try.func6, Try.ntmps6
  go_wp2_with fail
  refine (few_c A B 0 c m d _).mono ?_
  rintro e w1 ⟨rfl, rfl⟩
  rw [HFEW.out]
  go_wp2_with fail
  refine (live_c _).mono ?_
  rintro e w3 ⟨rfl, hb3⟩
  go_wp2
  go_ret
  exact ⟨rfl, hb3⟩

set_option maxRecDepth 100000 in
theorem NvmCopies_mod (A B : Option Addr) (n c m d : Nat) (HFEW : Hid (decide (n ≤ 64 ∧ m ≤ 200) = true)) (h0 : n ≠ 0) (hmod : n % 8 ≠ 0) (w : World) :
    Calls Try.prog 6 #[.slice A n c, .slice B m d] w (Keeps w) := by
  obtain ⟨t1, t2, t3, t4⟩ := mod8_no hmod
  have t5 : ((n : Int) == 0) = false := by simp; omega
  have t6 : (n == 0) = false := by simp; omega
  clear h0 hmod
  go_enter Try.func6, Try.ntmps6
  go_wp2_with fail
  refine (few_c A B n c m d _).mono ?_
  rintro e w1 ⟨rfl, rfl⟩
  rw [HFEW.out]
  go_wp2_with fail
  refine (live_c _).mono ?_
  rintro e w3 ⟨rfl, hb3⟩
  go_wp2
  go_ret
  exact ⟨rfl, hb3⟩


set_option maxRecDepth 100000 in
set_option maxHeartbeats 6400000 in
theorem NvmCopies_main (A B : Option Addr) (c d m : Nat) (ws : List Nat) (l : List ActV) (n h : Nat) (hcd : m ≤ d) (hdm : d ≤ maxLen) (HNN : Hid (ws.length = n)) (HMM : Hid (l.length = m)) (HWS : Hid (∀ y ∈ ws, y < 2 ^ 64)) (HLL : Hid (∀ a ∈ l, a.Ok))
    (hfew : n ≤ 64 ∧ m ≤ 200) (h0 : n ≠ 0) (hmod : n % 8 = 0) (hh : m / 2 = h) (W : World) (HR : Hid (Reads W W.heap.size 1 A n (wordVs ws))) (HA : Hid (ActsAt W B l)) :
    Calls Try.prog 6 #[.slice A n c, .slice B m d] W (Keeps W) := by
  obtain ⟨t1, t2, t3, t4⟩ := mod8 hmod
  have t5 : ((n : Int) == 0) = false := by simp; omega
  have t6 : (n == 0) = false := by simp; omega
  have tq : (m : Int) / 2 = (h : Int) := by omega
  have hhm : h ≤ m := by omega
  have hm2 : m ≤ 200 := hfew.2
  go_enter Try.func6, Try.ntmps6
  go_wp2_with fail
  refine (few_c A B n c m d _).mono ?_
  rintro e w1 ⟨rfl, rfl⟩
  rw [decide_eq_true hfew]
  clear hh
  go_wp2_with fail
  have hnew := New_ws A c ws (by have := HNN.out; omega) (by have := HNN.out; omega) (by have := HNN.out; omega) HWS.out w1 (by have := HR.out; rw [HNN.out]; exact this)
  rw [HNN.out] at hnew
  refine hnew.mono ?_
  rintro e w2 ⟨o, hon, rfl, hI, ob, og, oh, om, hB⟩
  subst hon
  have HO : Hid (o.New w1.heap.size) := hidp ⟨ob, og, oh, om⟩
  have HI2 := hidp hI
  have HB2 := hidp hB
  clear hnew hI ob og oh om hB t1 t2 t3 t4 t5 t6 HR
  go_wp2_with fail
  go_loopw [6] (fun i wr => ∃ (k : Nat), k ≤ h ∧ i = .int .i64 k ∧ Hid (IsMem wr o k (runS o.n (newS (wsF ws)) l 0 k)) ∧ Hid (Below w1.heap.size w1 wr)) (fun i _ => m - (intOf i).toNat)
  case atStart => exact ⟨0, by omega, rfl, by rw [runS_self]; exact HI2, HB2⟩
  case round =>
    obtain ⟨k, hk, rfl, HI, HB⟩ := hrel
    clear HI2 HB2
    by_cases hlt : k < h
    · have u1 : decide ((k : Int) < (h : Int)) = true := decide_eq_true (by omega)
      have u2 : decide (k < h) = true := decide_eq_true hlt
      obtain ⟨a, ha⟩ : ∃ a, l[k]? = some a := ⟨_, List.getElem?_eq_getElem (by rw [HMM.out]; omega)⟩
      have HAO := hidp (HLL.out a (List.mem_of_getElem? ha))
      have HST := hidp (runS_step (n := o.n) (s := newS (wsF ws)) (Nat.zero_le k) ha)
      obtain ⟨ad, rfl, _, _⟩ := HA.out k a ha
      obtain ⟨x0, x1, x2, x3, x4, x5⟩ := (HA.out.below HB.out).cells ha
      clear ha
      have hkm : k < m := by omega
      go_wp2_with fail
      refine (Do_m o k _ a HAO.out (by omega) _ HI.out).mono ?_
      rintro e w6 ⟨rfl, hI6, hT6⟩
      rw [← HST.out] at hI6
      have HI6 := hidp hI6
      have HB6 := hidp (hT6.below HB.out HO.out.F)
      clear hI6 hT6 x0 x1 x2 x3 x4 x5
      go_wp2
      go_roundw
      case rel => exact ⟨k + 1, by omega, by go_num, HI6, HB6⟩
      case measure => simp [intOf]; omega
    · obtain rfl : k = h := by omega
      have u1 : decide ((k : Int) < (k : Int)) = false := decide_eq_false (by omega)
      obtain ⟨b0, hb0⟩ : ∃ b0, decide ((k : Int) < (m : Int)) = b0 := ⟨_, rfl⟩
      have hb1 : decide (k < m) = b0 := by rw [← hb0, decide_eq_decide]; omega
      cases b0
      all_goals (
        obtain ⟨s1, hs1⟩ : ∃ s1, runS o.n (newS (wsF ws)) l 0 k = s1 := ⟨_, rfl⟩
        rw [hs1] at HI
        clear hs1
        go_wp2_with fail
        refine (Copy_m o k s1 _ HI.out).mono ?_
        rintro e w3 ⟨o', hon', rfl, hI3, ob, og, oh, om, hB3⟩
        have HO1 : Hid (o'.New w1.heap.size) := hidp (by have := HB.out.size; exact ⟨by omega, by omega, by omega, by omega⟩)
        have HD1 : Hid (¬ o'.F o.b ∧ ¬ o'.F o.g ∧ ¬ o'.F o.h ∧ ¬ o'.F o.m) := hidp (by
          have q1 := HI.out.head.lt
          have q2 := HI.out.words.lt
          have q3 := HI.out.kept.lt
          have q4 := HI.out.mlt
          have hN : o'.New _ := ⟨ob, og, oh, om⟩
          refine ⟨fun hf => ?_, fun hf => ?_, fun hf => ?_, fun hf => ?_⟩ <;> have := hN.F _ hf <;> omega)
        have HD2 : Hid (¬ o.F o'.b ∧ ¬ o.F o'.g ∧ ¬ o.F o'.h ∧ ¬ o.F o'.m) := hidp (by
          refine ⟨fun hf => ?_, fun hf => ?_, fun hf => ?_, fun hf => ?_⟩ <;> have := HI.out.Flt _ hf <;> omega)
        have HI3 := hidp (HI.out.keep hB3)
        have HJ3 := hidp hI3
        have HB3 := hidp (Bgo HB.out hB3)
        have HON := hidp hon'
        clear hI3 hB3 ob og oh om hon' HI HB
        go_wp2_with fail
        refine (Words_m o _ s1 _ HI3.out).mono ?_
        rintro e w4 ⟨g4, c4, rfl, hg4, hr4, hb4⟩
        have HR4 := hidp hr4
        have HN4 : Hid (¬ o.F g4 ∧ ¬ o'.F g4) := hidp ⟨fun hf => by have := HI3.out.Flt _ hf; omega, fun hf => by have := HJ3.out.Flt _ hf; omega⟩
        have HI4 := hidp (HI3.out.keep hb4)
        have HJ4 := hidp (HJ3.out.keep hb4)
        have HB4 := hidp (Bgo HB3.out hb4)
        clear hr4 hg4 hb4 HI3 HJ3 HB3
        go_wp2_with fail
        refine (Kept_m o _ s1 _ HI4.out).mono ?_
        rintro e w5 ⟨g5, c5, rfl, hg5, hr5, hb5⟩
        have HR5 := hidp hr5
        have HN5 : Hid (¬ o.F g5 ∧ ¬ o'.F g5) := hidp ⟨fun hf => by have := HI4.out.Flt _ hf; omega, fun hf => by have := HJ4.out.Flt _ hf; omega⟩
        have HI5 := hidp (HI4.out.keep hb5)
        have HJ5 := hidp (HJ4.out.keep hb5)
        have HR4' := hidp (HR4.out.keep hb5)
        have HB5 := hidp (Bgo HB4.out hb5)
        clear hr5 hg5 hb5 HI4 HJ4 HB4 HR4
        have hnx := HI5.out.nmax
        go_wp2_with fail
        go_loopw [10] (fun i wr => ∃ (j : Nat), k ≤ j ∧ j ≤ m ∧ i = .int .i64 j ∧ Hid (IsMem wr o k s1) ∧ Hid (IsMem wr o' j (runS o.n s1 l k j)) ∧ Hid (RowF wr g4 30 o.n c4 (wordF s1.W)) ∧ Hid (RowF wr g5 30 o.n c5 (wordF s1.K)) ∧ Hid (Below w1.heap.size w1 wr)) (fun i _ => m - (intOf i).toNat)
        case atStart => exact ⟨k, by omega, by omega, rfl, HI5, by rw [runS_self]; exact HJ5, HR4', HR5, HB5⟩
        case round =>
          obtain ⟨j, hkj, hj, rfl, HI, HJ, HRW, HRK, HB⟩ := hrel
          clear HI5 HJ5 HR4' HR5 HB5
          by_cases hlt : j < m
          · obtain ⟨a, ha⟩ : ∃ a, l[j]? = some a := ⟨_, List.getElem?_eq_getElem (by rw [HMM.out]; omega)⟩
            have HAO := hidp (HLL.out a (List.mem_of_getElem? ha))
            have HST := hidp (runS_step (n := o.n) (s := s1) hkj ha)
            obtain ⟨ad, rfl, _, _⟩ := HA.out j a ha
            obtain ⟨x0, x1, x2, x3, x4, x5⟩ := (HA.out.below HB.out).cells ha
            clear ha
            go_wp2_with fail
            refine (Do_m o' j _ a HAO.out (by omega) _ HJ.out).mono ?_
            rintro e w6 ⟨rfl, hJ6, hT6⟩
            rw [HON.out, ← HST.out] at hJ6
            have HJ6 := hidp hJ6
            have HI6 := hidp (HI.out.turns hT6 HD1.out.1 HD1.out.2.1 HD1.out.2.2.1 HD1.out.2.2.2)
            have HW6 := hidp (HRW.out.turns hT6 HN4.out.2)
            have HK6 := hidp (HRK.out.turns hT6 HN5.out.2)
            have HB6 := hidp (hT6.below HB.out HO1.out.F)
            clear hJ6 hT6 x0 x1 x2 x3 x4 x5
            go_wp2
            go_roundw
            case rel => exact ⟨j + 1, by omega, by omega, by go_num, HI6, HJ6, HW6, HK6, HB6⟩
            case measure => simp [intOf]; omega
          · obtain rfl : j = m := by omega
            obtain ⟨s2, hs2⟩ : ∃ s2, runS o.n s1 l k j = s2 := ⟨_, rfl⟩
            have HS2 := hidp hs2
            rw [hs2] at HJ
            clear hs2
            go_wp2_with fail
            refine (Words_m o _ s1 _ HI.out).mono ?_
            rintro e w7 ⟨g7, c7, rfl, hg7, hr7, hb7⟩
            have HR7 := hidp hr7
            have HI7 := hidp (HI.out.keep hb7)
            have HJ7 := hidp (HJ.out.keep hb7)
            have HW7 := hidp (HRW.out.keep hb7)
            have HK7 := hidp (HRK.out.keep hb7)
            have HB7 := hidp (Bgo HB.out hb7)
            clear hg7 hr7 hb7 HI HJ HRW HRK HB
            go_wp2_with fail
            refine (WordsRow_c g7 g4 o.n c7 c4 s1.W hnx _ HR7.out HW7.out).mono ?_
            rintro e w8 ⟨rfl, j8, rfl⟩
            go_wp2_with fail
            refine (Kept_m o _ s1 _ (HI7.out.keep (by repeat (first | with_reducible exact B0 _ | refine Bdraw ?_ _ | refine Bdrew ?_)))).mono ?_
            rintro e w9 ⟨g9, c9, rfl, hg9, hr9, hb9⟩
            have HR9 := hidp hr9
            have HI9 := hidp ((HI7.out.keep (by repeat (first | with_reducible exact B0 _ | refine Bdraw ?_ _ | refine Bdrew ?_))).keep hb9)
            have HJ9 := hidp ((HJ7.out.keep (by repeat (first | with_reducible exact B0 _ | refine Bdraw ?_ _ | refine Bdrew ?_))).keep hb9)
            have HK9 := hidp ((HK7.out.keep (by repeat (first | with_reducible exact B0 _ | refine Bdraw ?_ _ | refine Bdrew ?_))).keep hb9)
            have HB9 := hidp (Bgo (Bgo HB7.out (by repeat (first | with_reducible exact B0 _ | refine Bdraw ?_ _ | refine Bdrew ?_))) hb9)
            clear hg9 hr9 hb9 HI7 HJ7 HW7 HK7 HB7 HR7
            go_wp2_with fail
            refine (WordsRow_c g9 g5 o.n c9 c5 s1.K hnx _ HR9.out HK9.out).mono ?_
            rintro e w10 ⟨rfl, j10, rfl⟩
            have HI10 := hidp (HI9.out.draw j10)
            have HJ10 := hidp (HJ9.out.draw j10)
            have HB10 := hidp (Bdraw HB9.out j10)
            clear HI9 HJ9 HK9 HB9 HR9
            go_wp2_with fail
            go_loopw [11] (fun i wr => ∃ (q : Nat), k ≤ q ∧ q ≤ j ∧ i = .int .i64 q ∧ Hid (IsMem wr o q (runS o.n s1 l k q)) ∧ Hid (IsMem wr o' j s2) ∧ Hid (Below w1.heap.size w1 wr)) (fun i _ => j - (intOf i).toNat)
            case atStart => exact ⟨k, by omega, by omega, rfl, by rw [runS_self]; exact HI10, HJ10, HB10⟩
            case round =>
              obtain ⟨q, hkq, hq, rfl, HI, HJ, HB⟩ := hrel
              clear HI10 HJ10 HB10
              by_cases hlt : q < j
              · obtain ⟨a, ha⟩ : ∃ a, l[q]? = some a := ⟨_, List.getElem?_eq_getElem (by rw [HMM.out]; omega)⟩
                have HAO := hidp (HLL.out a (List.mem_of_getElem? ha))
                have HST := hidp (runS_step (n := o.n) (s := s1) hkq ha)
                obtain ⟨ad, rfl, _, _⟩ := HA.out q a ha
                obtain ⟨x0, x1, x2, x3, x4, x5⟩ := (HA.out.below HB.out).cells ha
                clear ha
                go_wp2_with fail
                refine (Do_m o q _ a HAO.out (by omega) _ HI.out).mono ?_
                rintro e w11 ⟨rfl, hI11, hT11⟩
                rw [← HST.out] at hI11
                have HI11 := hidp hI11
                have HJ11 := hidp (HJ.out.turns hT11 HD2.out.1 HD2.out.2.1 HD2.out.2.2.1 HD2.out.2.2.2)
                have HB11 := hidp (hT11.below HB.out HO.out.F)
                clear hI11 hT11 x0 x1 x2 x3 x4 x5
                go_wp2
                go_roundw
                case rel => exact ⟨q + 1, by omega, by omega, by go_num, HI11, HJ11, HB11⟩
                case measure => simp [intOf]; omega
              · obtain rfl : q = j := by omega
                rw [HS2.out] at HI
                go_wp2_with fail
                refine (Words_m o _ s2 _ HI.out).mono ?_
                rintro e w11 ⟨g11, c11, rfl, hg11, hr11, hb11⟩
                have HR11 := hidp hr11
                have HI11 := hidp (HI.out.keep hb11)
                have HJ11 := hidp (HJ.out.keep hb11)
                have HB11 := hidp (Bgo HB.out hb11)
                clear hg11 hr11 hb11 HI HJ HB
                go_wp2_with fail
                refine (Words_m o' _ s2 _ HJ11.out).mono ?_
                rintro e w12 ⟨g12, c12, rfl, hg12, hr12, hb12⟩
                rw [HON.out] at hr12 ⊢
                have HR12 := hidp hr12
                have HR11' := hidp (HR11.out.keep hb12)
                have HI12 := hidp (HI11.out.keep hb12)
                have HJ12 := hidp (HJ11.out.keep hb12)
                have HB12 := hidp (Bgo HB11.out hb12)
                clear hg12 hr12 hb12 HI11 HJ11 HB11 HR11
                go_wp2_with fail
                refine (WordsRow_c g11 g12 o.n c11 c12 s2.W hnx _ HR11'.out HR12.out).mono ?_
                rintro e w13 ⟨rfl, j13, rfl⟩
                go_wp2_with fail
                refine (Kept_m o _ s2 _ (HI12.out.keep (by repeat (first | with_reducible exact B0 _ | refine Bdraw ?_ _ | refine Bdrew ?_)))).mono ?_
                rintro e w14 ⟨g14, c14, rfl, hg14, hr14, hb14⟩
                have HR14 := hidp hr14
                have HJ14 := hidp ((HJ12.out.keep (by repeat (first | with_reducible exact B0 _ | refine Bdraw ?_ _ | refine Bdrew ?_))).keep hb14)
                have HB14 := hidp (Bgo (Bgo HB12.out (by repeat (first | with_reducible exact B0 _ | refine Bdraw ?_ _ | refine Bdrew ?_))) hb14)
                clear hg14 hr14 hb14 HI12 HJ12 HB12 HR11' HR12
                go_wp2_with fail
                refine (Kept_m o' _ s2 _ HJ14.out).mono ?_
                rintro e w15 ⟨g15, c15, rfl, hg15, hr15, hb15⟩
                rw [HON.out] at hr15 ⊢
                have HR15 := hidp hr15
                have HR14' := hidp (HR14.out.keep hb15)
                have HB15 := hidp (Bgo HB14.out hb15)
                clear hg15 hr15 hb15 HJ14 HB14 HR14
                go_wp2_with fail
                refine (WordsRow_c g14 g15 o.n c14 c15 s2.K hnx _ HR14'.out HR15.out).mono ?_
                rintro e w16 ⟨rfl, j16, rfl⟩
                go_wp2_with fail
                refine (Crash_nil _).mono ?_
                rintro e w17 ⟨rfl, rfl⟩
                go_wp2_with fail
                refine (Load_nil _ _).mono ?_
                rintro e w18 ⟨rfl, rfl⟩
                go_wp2_with fail
                have HB16 := hidp (Bdraw HB15.out j16)
                clear HB15 HR14' HR15 HA HWS HLL HMM HNN HS2 HN4 HN5 HD1 HD2 HO HO1 HON
                refine (Load_zero w15.heap.size _ (NoMem.at_ (w15.drewN j16) rfl)).mono ?_
                rintro e w19 ⟨rfl, rfl⟩
                go_wp2_with fail
                refine (Store_nil _ _ _).mono ?_
                rintro e w20 ⟨rfl, rfl⟩
                go_wp2_with fail
                refine (Flush_zero (w15.heap.size + 1) _ (NoMem.at_ _ (by simp))).mono ?_
                rintro e w21 ⟨rfl, rfl⟩
                go_wp2_with fail
                refine (Fence_nil _ _).mono ?_
                rintro e w22 ⟨rfl, rfl⟩
                go_wp2_with fail
                refine (Words_nil _).mono ?_
                rintro e w23 ⟨rfl, rfl⟩
                go_wp2_with fail
                refine (Kept_zero (w15.heap.size + 1 + 1) _ (NoMem.at_ _ (by simp))).mono ?_
                rintro e w24 ⟨rfl, rfl⟩
                go_wp2_with fail
                refine (Evict_nil _ _ _).mono ?_
                rintro e w25 ⟨rfl, rfl⟩
                go_wp2_with fail
                refine (live_c _).mono ?_
                rintro e w26 ⟨rfl, hb26⟩
                go_wp2
                go_ret
                exact ⟨rfl, Bgo (by repeat (first | exact HB16.out | refine Bdraw ?_ _ | refine Bdrew ?_ | refine Bnew ?_ _)) hb26⟩)

theorem NvmCopies_calls (A B : Option Addr) (c d : Nat) (ws : List Nat) (l : List ActV) (hcd : l.length ≤ d) (hdm : d ≤ maxLen) (hw : ∀ y ∈ ws, y < 2 ^ 64) (hl : ∀ a ∈ l, a.Ok) (W : World) (HR : Hid (Reads W W.heap.size 1 A ws.length (wordVs ws))) (HA : Hid (ActsAt W B l)) :
    Calls Try.prog 6 #[.slice A ws.length c, .slice B l.length d] W (Keeps W) := by
  by_cases hfew : ws.length ≤ 64 ∧ l.length ≤ 200
  · have HF := hidp (decide_eq_true hfew)
    by_cases h0 : ws.length = 0
    · rw [h0] at HF ⊢
      exact NvmCopies_none A B c _ d HF W
    · by_cases hmod : ws.length % 8 = 0
      · exact NvmCopies_main A B c d _ ws l _ _ hcd hdm (hidp rfl) (hidp rfl) (hidp hw) (hidp hl) hfew h0 hmod rfl W HR HA
      · exact NvmCopies_mod A B _ c _ d HF h0 hmod W
  · exact NvmCopies_few A B _ c _ d (hidp (decide_eq_false hfew)) W
end Go.Proofs.Ytobeapibiebpaaa
