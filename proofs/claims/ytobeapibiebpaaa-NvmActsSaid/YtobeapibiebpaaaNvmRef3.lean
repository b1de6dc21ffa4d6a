/-
  The document's answer for memories (nacreref10.M): Flush, Evict, Fence, Pending.
-/
import Derived.Test.YtobeapibiebpaaaNvmRef2
import Derived.Test.YtobeapibiebpaaaHalf
import Derived.BigRegion
namespace Go.Proofs.Ytobeapibiebpaaa
open Go.ChangeShapes Go.WideShapes Go.ChangeAt Go.RowKit Go.Maps
set_option linter.unusedVariables false
set_option linter.unusedSimpArgs false

theorem RFlush_no (o : RGeo) (s : Mst) (who a : Int) (hB : flushB o.n who a = false) (w : World) (h : IsRef w o s) :
    Calls Try.prog 33 #[.pointer (some ⟨o.b, 0, none⟩), .int .i64 who, .int .i64 a] w fun e w' => e = .returned (.bool false) ∧ w' = w := by
  have c0 := h.c0
  have hmx := h.words.max
  have hle := h.words.le
  unfold maxLen at hmx
  clear h
  unfold flushB hasW at hB
  rcases Int.lt_or_le who 0 with h1 | h1
  · have u1 : decide (who < 0) = true := decide_eq_true h1
    clear hB
    go_enter Try.func33, Try.ntmps33
    go_wp2
    go_ret
    exact ⟨rfl, rfl⟩
  · have u1 : decide (who < 0) = false := decide_eq_false (by omega)
    rcases Int.lt_or_le 16 who with h2 | h2
    · have u2 : decide ((16 : Int) < who) = true := decide_eq_true h2
      clear hB
      go_enter Try.func33, Try.ntmps33
      go_wp2
      go_ret
      exact ⟨rfl, rfl⟩
    · have u2 : decide ((16 : Int) < who) = false := decide_eq_false (by omega)
      rcases Int.lt_or_le a 0 with h3 | h3
      · have u3 : decide (a < 0) = true := decide_eq_true h3
        clear hB
        go_enter Try.func33, Try.ntmps33
        go_wp2
        go_ret
        exact ⟨rfl, rfl⟩
      · have u3 : decide (a < 0) = false := decide_eq_false (by omega)
        have h4 : (o.n : Int) ≤ a := by
          rcases Int.lt_or_le a o.n with h5 | h5
          · rw [decide_eq_true (p := 0 ≤ a ∧ a < (o.n : Int)) ⟨h3, h5⟩, decide_eq_true (p := 0 ≤ who ∧ who ≤ 16) ⟨h1, h2⟩] at hB
            cases hB
          · exact h5
        have u4 : decide ((o.n : Int) ≤ a) = true := decide_eq_true h4
        clear hB
        go_enter Try.func33, Try.ntmps33
        go_wp2
        go_ret
        exact ⟨rfl, rfl⟩
theorem RFlush_c (o : RGeo) (s : Mst) (who a : Int) (w : World) (h : IsRef w o s) :
    Calls Try.prog 33 #[.pointer (some ⟨o.b, 0, none⟩), .int .i64 who, .int .i64 a] w fun e w' => e = .returned (.bool (flushB o.n who a)) ∧ IsRef w' o (flushS o.n s who a) ∧ Turns o.F w w' := by
  cases hB : flushB o.n who a
  · unfold flushS
    rw [hB, if_neg (by simp)]
    refine (RFlush_no o s who a hB w h).mono ?_
    rintro e w' ⟨he, rfl⟩
    exact ⟨he, h, T0 _ _⟩
  · unfold flushS
    rw [hB, if_pos rfl]
    unfold flushB hasW at hB
    have hB := Bool.and_eq_true_iff.1 hB
    have hB1 := of_decide_eq_true hB.1
    have hB2 := of_decide_eq_true hB.2
    obtain ⟨k, rfl⟩ := Int.eq_ofNat_of_zero_le hB1.1
    obtain ⟨m, rfl⟩ := Int.eq_ofNat_of_zero_le hB2.1
    have hk : k < o.n := by omega
    have hm : m < 17 := by omega
    obtain ⟨q, hq⟩ : ∃ q, k / 8 = q := ⟨_, rfl⟩
    have tq : (k : Int) / 8 = (q : Int) := by omega
    have hql : q < o.k := by have := h.nk; omega
    have hkm : o.k ≤ 8192 := by have := h.nk; have := h.nmax; omega
    have c0 := h.c0
    have c1 := h.cp hm
    have c2 := (h.rows m hm).cell hql
    have f2 := (h.rows m hm).thawed q
    have hmx := h.words.max
    have hle := h.words.le
    have hnm := h.nmax
    unfold maxLen at hmx
    have u1 : decide ((16 : Int) < m) = false := decide_eq_false (by omega)
    have u2 : decide (16 < m) = false := decide_eq_false (by omega)
    have u3 : decide ((o.n : Int) ≤ k) = false := decide_eq_false (by omega)
    have u4 : decide (o.n ≤ k) = false := decide_eq_false (by omega)
    have HH := hidp h
    rw [Int.toNat_natCast, hq, ← setP_put]
    clear h hB hB1 hB2 hq
    go_enter Try.func33, Try.ntmps33
    go_wp2
    go_ret
    exact ⟨rfl, HH.out.setPend hm hql true, (T0 _ _).put (p := ⟨o.p m, q, none⟩) (.inr (.inr (.inr ⟨m, hm, rfl⟩))) _⟩

theorem REvict_no (o : RGeo) (s : Mst) (a m : Int) (hB : evictB o.n a m = false) (w : World) (h : IsRef w o s) :
    Calls Try.prog 35 #[.pointer (some ⟨o.b, 0, none⟩), .int .i64 a, .int .i64 m] w fun e w' => e = .returned (.bool false) ∧ w' = w := by
  have c0 := h.c0
  have hnm := h.nmax
  have hnk := h.nk
  obtain ⟨k, hk⟩ : ∃ k, o.n / 8 = k := ⟨_, rfl⟩
  have tq : (o.n : Int) / 8 = (k : Int) := by omega
  clear h
  unfold evictB hasL at hB
  rw [hk] at hB
  rcases Int.lt_or_le a 0 with h1 | h1
  · have u1 : decide (a < 0) = true := decide_eq_true h1
    clear hB
    go_enter Try.func35, Try.ntmps35
    go_wp2
    go_ret
    exact ⟨rfl, rfl⟩
  · have u1 : decide (a < 0) = false := decide_eq_false (by omega)
    rcases Int.lt_or_le a k with h2 | h2
    · have u2 : decide ((k : Int) ≤ a) = false := decide_eq_false (by omega)
      rcases Int.lt_or_le m 1 with h3 | h3
      · have u3 : decide (m < 1) = true := decide_eq_true h3
        clear hB
        go_enter Try.func35, Try.ntmps35
        go_wp2
        go_ret
        exact ⟨rfl, rfl⟩
      · have u3 : decide (m < 1) = false := decide_eq_false (by omega)
        have h4 : 255 < m := by
          rcases Int.lt_or_le 255 m with h5 | h5
          · exact h5
          · rw [decide_eq_true (p := 0 ≤ a ∧ a < (k : Int)) ⟨h1, h2⟩, decide_eq_true (p := 1 ≤ m ∧ m ≤ 255) ⟨h3, h5⟩] at hB
            cases hB
        have u4 : decide ((255 : Int) < m) = true := decide_eq_true h4
        clear hB
        go_enter Try.func35, Try.ntmps35
        go_wp2
        go_ret
        exact ⟨rfl, rfl⟩
    · have u2 : decide ((k : Int) ≤ a) = true := decide_eq_true h2
      clear hB
      go_enter Try.func35, Try.ntmps35
      go_wp2
      go_ret
      exact ⟨rfl, rfl⟩
theorem REvict_yes (o : RGeo) (s : Mst) (l m : Nat) (hl : l < o.k) (h1 : 1 ≤ m) (h2 : m ≤ 255) (w : World) (h : IsRef w o s) :
    Calls Try.prog 35 #[.pointer (some ⟨o.b, 0, none⟩), .int .i64 (l : Int), .int .i64 (m : Int)] w fun e w' => e = .returned (.bool true) ∧ IsRef w' o { s with K := keepK s.W s.K l m 8 } ∧ Turns o.F w w' := by
  have c0 := h.c0
  have hnm := h.nmax
  have hnk := h.nk
  have tq : (o.n : Int) / 8 = (o.k : Int) := by omega
  have u2 : decide ((o.k : Int) ≤ l) = false := decide_eq_false (by omega)
  have u3 : decide (o.k ≤ l) = false := decide_eq_false (by omega)
  have u4 : decide ((m : Int) < 1) = false := decide_eq_false (by omega)
  have u5 : decide ((255 : Int) < m) = false := decide_eq_false (by omega)
  have u6 : decide (255 < m) = false := decide_eq_false (by omega)
  have tw : IntKind.u32.wrap (m : Int) = (m : Int) := wrap_nat32 _ (by omega)
  have H0 : Hid (IsRef w o { s with K := keepK s.W s.K l m 0 }) := hidp (by rw [keepK_zero]; exact h)
  clear h
  go_enter Try.func35, Try.ntmps35
  go_wp2_with fail
  go_loopw [7] (fun i wr => ∃ k : Nat, k ≤ 8 ∧ i = .int .i64 k ∧ Hid (IsRef wr o { s with K := keepK s.W s.K l m k }) ∧ Hid (Turns o.F w wr)) (fun i _ => 8 - (intOf i).toNat)
  case atStart => exact ⟨0, by omega, rfl, H0, hidp (T0 _ _)⟩
  case round =>
    obtain ⟨k, hk, rfl, HI, HT⟩ := hrel
    clear c0 H0
    by_cases hlt : k < 8
    · cases hb : m.testBit k
      · have HK := hidp (keepK_no (W := s.W) (K := s.K) (l := l) hb)
        go_wp2_with fail
        refine (Bit_c m (k : Int) false (by omega) (by omega) (by omega) (by rw [Int.toNat_natCast]; exact hb) _).mono ?_
        rintro e w2 ⟨rfl, rfl⟩
        clear hb
        go_wp2
        go_roundw
        case rel => exact ⟨k + 1, by omega, by go_num, by rw [HK.out]; exact HI, HT⟩
        case measure => simp [intOf]; omega
      · have HK := hidp (keepK_yes (W := s.W) (K := s.K) (l := l) hb)
        have hq : 8 * l + k < o.n := by omega
        have c0 := HI.out.c0
        have c1 := HI.out.c1
        have c2 := HI.out.words.cell hq
        have c3 := HI.out.kept.cell hq
        have f3 := HI.out.kept.thawed (8 * l + k)
        have h5 := HI.out.words.le
        have h6 := HI.out.kept.le
        have h7 := HI.out.words.max
        have h8 := HI.out.kept.max
        unfold maxLen at h7 h8
        unfold wordF at c2 c3
        have HW := hidp (HI.out.setK hq (HI.out.w64 (8 * l + k)))
        have tq1 : 8 * (l : Int) + k = ((8 * l + k : Nat) : Int) := by omega
        go_wp2_with fail
        refine (Bit_c m (k : Int) true (by omega) (by omega) (by omega) (by rw [Int.toNat_natCast]; exact hb) _).mono ?_
        rintro e w2 ⟨rfl, rfl⟩
        clear hb
        generalize 8 * l + k = q at *
        go_wp2
        go_region
        go_wp2
        go_roundw
        case rel => exact ⟨k + 1, by omega, by go_num, by rw [HK.out]; exact hidp (HW.out.keep (Bdrew (B0 _))), hidp (HT.out.put (p := ⟨o.h, q, none⟩) (.inr (.inr (.inl rfl))) _).drew⟩
        case measure => simp [intOf]; omega
    · obtain rfl : k = 8 := by omega
      go_wp2
      go_ret
      exact ⟨rfl, HI.out, HT.out⟩
theorem REvict_c (o : RGeo) (s : Mst) (a m : Int) (w : World) (h : IsRef w o s) :
    Calls Try.prog 35 #[.pointer (some ⟨o.b, 0, none⟩), .int .i64 a, .int .i64 m] w fun e w' => e = .returned (.bool (evictB o.n a m)) ∧ IsRef w' o (evictS o.n s a m) ∧ Turns o.F w w' := by
  cases hB : evictB o.n a m
  · unfold evictS
    rw [hB, if_neg (by simp)]
    refine (REvict_no o s a m hB w h).mono ?_
    rintro e w' ⟨he, rfl⟩
    exact ⟨he, h, T0 _ _⟩
  · unfold evictS
    rw [hB, if_pos rfl]
    unfold evictB hasL at hB
    have hB := Bool.and_eq_true_iff.1 hB
    have hB1 := of_decide_eq_true hB.1
    have hB2 := of_decide_eq_true hB.2
    obtain ⟨l, rfl⟩ := Int.eq_ofNat_of_zero_le hB1.1
    obtain ⟨k, rfl⟩ := Int.eq_ofNat_of_zero_le (show 0 ≤ m by omega)
    exact REvict_yes o s l k (by have := h.nk; omega) (by omega) (by omega) w h
end Go.Proofs.Ytobeapibiebpaaa
