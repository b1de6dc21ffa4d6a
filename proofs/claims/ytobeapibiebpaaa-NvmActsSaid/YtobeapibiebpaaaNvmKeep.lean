/-
  Memories (nvm.Mem): keep, Evict, Flush.
-/
import Derived.Test.YtobeapibiebpaaaNvm
import Derived.RegionTactic
import Derived.ChangeAlike
namespace Go.Proofs.Ytobeapibiebpaaa
open Go.ChangeShapes Go.WideShapes Go.ChangeAt Go.RowKit Go.Maps
set_option linter.unusedVariables false
set_option linter.unusedSimpArgs false

/-- what is kept behind k words of a line were looked at -/
def keepK (W K : Nat → Nat) (l m k : Nat) : Nat → Nat := fun x => if 8 * l ≤ x ∧ x < 8 * l + k ∧ m.testBit (x - 8 * l) = true then W x else K x
theorem keepK_zero (W K : Nat → Nat) (l m : Nat) : keepK W K l m 0 = K := by
  funext x
  unfold keepK
  rw [if_neg (by omega)]
theorem keepK_yes {W K : Nat → Nat} {l m k : Nat} (h : m.testBit k = true) : keepK W K l m (k + 1) = updF (keepK W K l m k) (8 * l + k) (W (8 * l + k)) := by
  funext x
  by_cases e : x = 8 * l + k
  · subst e
    rw [updF_same]
    unfold keepK
    rw [if_pos ⟨by omega, by omega, by rw [show 8 * l + k - 8 * l = k by omega]; exact h⟩]
  · rw [updF_other _ _ e]
    unfold keepK
    have : (x < 8 * l + (k + 1)) ↔ (x < 8 * l + k) := by omega
    simp only [this]
theorem keepK_no {W K : Nat → Nat} {l m k : Nat} (h : m.testBit k = false) : keepK W K l m (k + 1) = keepK W K l m k := by
  funext x
  unfold keepK
  by_cases e : x = 8 * l + k
  · subst e
    rw [if_neg (by rw [show 8 * l + k - 8 * l = k by omega, h]; simp), if_neg (by omega)]
  · have : (x < 8 * l + (k + 1)) ↔ (x < 8 * l + k) := by omega
    simp only [this]
theorem keepK_lt {W K : Nat → Nat} {B : Nat} (hW : ∀ i, W i < B) (hK : ∀ i, K i < B) (l m k : Nat) (i : Nat) : keepK W K l m k i < B := by
  unfold keepK
  split
  · exact hW i
  · exact hK i

theorem mask_bits : ∀ m : Nat, m < 256 → ∀ k : Nat, k < 8 → bits BinOp.and IntKind.i64 ((m : Int) / 2 ^ k) 1 = if m.testBit k then 1 else 0 := by decide +kernel
theorem mask_yes {m k : Nat} (hm : m ≤ 255) (hk : k < 8) (h : m.testBit k = true) : bits BinOp.and IntKind.i64 ((m : Int) / 2 ^ k) 1 = 1 := by rw [mask_bits m (by omega) k hk, h]; rfl
theorem mask_no {m k : Nat} (hm : m ≤ 255) (hk : k < 8) (h : m.testBit k = false) : bits BinOp.and IntKind.i64 ((m : Int) / 2 ^ k) 1 = 0 := by rw [mask_bits m (by omega) k hk, h]; rfl

theorem keep_c (o : Geo) (lim : Nat) (s : Mst) (l m : Nat) (hl : l < o.n / 8) (hm : m ≤ 255) (w : World) (h : IsMem w o lim s) :
    Calls Try.prog 39 #[.pointer (some ⟨o.b, 0, none⟩), .int .i64 (l : Int), .int .i64 (m : Int)] w fun e w' => e = .returned (.tuple #[]) ∧ IsMem w' o lim { s with K := keepK s.W s.K l m 8 } ∧ Turns o.F w w' := by
  have hn := h.nmax
  have H0 : Hid (IsMem w o lim { s with K := keepK s.W s.K l m 0 }) := hidp (by rw [keepK_zero]; exact h)
  clear h
  go_enter Try.func39, Try.ntmps39
  go_wp2_with fail
  go_loopw [6, 7, 8] (fun _ _ i wr => ∃ k : Nat, k ≤ 8 ∧ i = .int .i64 k ∧ IsMem wr o lim { s with K := keepK s.W s.K l m k } ∧ Turns o.F w wr) (fun _ _ i _ => 8 - (intOf i).toNat)
  case atStart => exact ⟨0, by omega, rfl, H0.out, T0 _ _⟩
  case round =>
    obtain ⟨k, hk, rfl, hI, hT⟩ := hrel
    by_cases hlt : k < 8
    · by_cases hb : m.testBit k = true
      · have hq : 8 * l + k < o.n := by omega
        have c0 := hI.cells.1
        have c1 := hI.cells.2.1
        have c2 := hI.words.cell hq
        have c3 := hI.kept.cell hq
        have f3 := hI.kept.thawed (8 * l + k)
        have HI := hidp hI
        have HT := hidp hT
        have h1 := hI.words.le
        have h2 := hI.kept.le
        have h3 := hI.words.max
        have h4 := hI.kept.max
        unfold maxLen at h3 h4
        unfold wordF at c2 c3
        clear hI hT
        have tb := mask_yes hm hlt hb
        have HK := hidp (keepK_yes (W := s.W) (K := s.K) (l := l) hb)
        have tq : (l : Int) * 8 + k = ((8 * l + k : Nat) : Int) := by omega
        have tq2 : l * 8 + k = 8 * l + k := by omega
        have HW := hidp (HI.out.setK hq (HI.out.w64 (8 * l + k)))
        clear hb
        generalize 8 * l + k = q at *
        go_wp2
        go_region
        go_wp2
        go_roundw
        case rel => exact ⟨k + 1, by omega, by go_num, by rw [HK.out]; exact HW.out.keep (Bdrew (B0 _)), (HT.out.put (p := ⟨o.h, q, none⟩) (.inr (.inl rfl)) _).drew⟩
        case measure => simp [intOf]; omega
      · have hb : m.testBit k = false := by simpa using hb
        have tb := mask_no hm hlt hb
        have HK := hidp (keepK_no (W := s.W) (K := s.K) (l := l) hb)
        have HI := hidp hI
        have HT := hidp hT
        clear hb hI hT
        go_wp2
        go_roundw
        case rel => exact ⟨k + 1, by omega, by go_num, by rw [HK.out]; exact HI.out, HT.out⟩
        case measure => simp [intOf]; omega
    · obtain rfl : k = 8 := by omega
      go_wp2
      go_end0
      exact ⟨rfl, hI, hT⟩

/-- whether an Evict is done -/
def evictB (n : Nat) (l m : Int) : Bool := hasL n l && decide (1 ≤ m ∧ m ≤ 255)
def evictS (n : Nat) (s : Mst) (l m : Int) : Mst := if evictB n l m then { s with K := keepK s.W s.K l.toNat m.toNat 8 } else s

theorem Evict_c (o : Geo) (lim : Nat) (s : Mst) (a m : Int) (w : World) (h : IsMem w o lim s) :
    Calls Try.prog 26 #[.pointer (some ⟨o.b, 0, none⟩), .int .i64 a, .int .i64 m] w fun e w' => e = .returned (.bool (evictB o.n a m)) ∧ IsMem w' o lim (evictS o.n s a m) ∧ Turns o.F w w' := by
  have HH := hidp h
  clear h
  by_cases hh : hasL o.n a = true
  · have HL := hidp hh
    have h0 : 0 ≤ a := (of_decide_eq_true hh).1
    obtain ⟨l, rfl⟩ := Int.eq_ofNat_of_zero_le h0
    have hl : l < o.n / 8 := by have := (of_decide_eq_true hh).2; omega
    clear hh h0
    rcases Int.lt_or_le m 1 with h1 | h1
    · have HB : Hid (evictB o.n (l : Int) m = false) := hidp (by unfold evictB; rw [decide_eq_false (p := 1 ≤ m ∧ m ≤ 255) (by omega), Bool.and_false])
      rw [evictS, HB.out, if_neg (by simp)]
      go_enter Try.func26, Try.ntmps26
      go_wp2_with fail
      refine (hasLine_c o lim s _ _ HH.out).mono ?_
      rintro e w1 ⟨rfl, rfl⟩
      rw [HL.out]
      go_wp2
      go_ret
      exact ⟨rfl, HH.out, T0 _ _⟩
    · rcases Int.lt_or_le 255 m with h2 | h2
      · have HB : Hid (evictB o.n (l : Int) m = false) := hidp (by unfold evictB; rw [decide_eq_false (p := 1 ≤ m ∧ m ≤ 255) (by omega), Bool.and_false])
        rw [evictS, HB.out, if_neg (by simp)]
        have t0 : decide (m < 1) = false := decide_eq_false (by omega)
        have t1 : decide ((255 : Int) < m) = true := decide_eq_true (by omega)
        go_enter Try.func26, Try.ntmps26
        go_wp2_with fail
        refine (hasLine_c o lim s _ _ HH.out).mono ?_
        rintro e w1 ⟨rfl, rfl⟩
        rw [HL.out]
        go_wp2
        go_ret
        exact ⟨rfl, HH.out, T0 _ _⟩
      · have HB : Hid (evictB o.n (l : Int) m = true) := hidp (by unfold evictB; rw [HL.out, decide_eq_true (p := 1 ≤ m ∧ m ≤ 255) (by omega)]; rfl)
        obtain ⟨k, rfl⟩ := Int.eq_ofNat_of_zero_le (show 0 ≤ m by omega)
        rw [evictS, HB.out, if_pos rfl]
        have hk : k ≤ 255 := by omega
        have t0 : decide ((k : Int) < 1) = false := decide_eq_false (by omega)
        have t1 : decide ((255 : Int) < k) = false := decide_eq_false (by omega)
        have t2 : decide (255 < k) = false := decide_eq_false (by omega)
        go_enter Try.func26, Try.ntmps26
        go_wp2_with fail
        refine (hasLine_c o lim s _ _ HH.out).mono ?_
        rintro e w1 ⟨rfl, rfl⟩
        rw [HL.out]
        go_wp2_with fail
        refine (keep_c o lim s l k hl hk _ HH.out).mono ?_
        rintro e w2 ⟨rfl, hI, hT⟩
        go_wp2
        go_ret
        exact ⟨rfl, hI, hT⟩
  · have hh : hasL o.n a = false := by simpa using hh
    have HB : Hid (evictB o.n a m = false) := hidp (by unfold evictB; rw [hh]; rfl)
    rw [evictS, HB.out, if_neg (by simp)]
    go_enter Try.func26, Try.ntmps26
    go_wp2_with fail
    refine (hasLine_c o lim s _ _ HH.out).mono ?_
    rintro e w1 ⟨rfl, rfl⟩
    rw [hh]
    go_wp2
    go_ret
    exact ⟨rfl, HH.out, T0 _ _⟩

/-- whether a Flush is done -/
def flushB (n : Nat) (who a : Int) : Bool := hasW n a && decide (0 ≤ who ∧ who ≤ 16)
def flushS (n : Nat) (s : Mst) (who a : Int) : Mst := if flushB n who a then { s with P := putP s.P who (a.toNat / 8) } else s

theorem Flush_c (o : Geo) (lim : Nat) (s : Mst) (who a : Int) (w : World) (hlim : lim < 2 ^ 62) (h : IsMem w o lim s) :
    Calls Try.prog 21 #[.pointer (some ⟨o.b, 0, none⟩), .int .i64 who, .int .i64 a] w fun e w' => e = .returned (.bool (flushB o.n who a)) ∧ IsMem w' o (lim + 1) (flushS o.n s who a) ∧ Turns o.F w w' := by
  have HH := hidp h
  by_cases hh : hasW o.n a = true
  · have HL := hidp hh
    have h0 : 0 ≤ a := (of_decide_eq_true hh).1
    obtain ⟨k, rfl⟩ := Int.eq_ofNat_of_zero_le h0
    have hk : k < o.n := by have := (of_decide_eq_true hh).2; omega
    clear hh h0
    rcases Int.lt_or_le who 0 with h1 | h1
    · have HB : Hid (flushB o.n who (k : Int) = false) := hidp (by unfold flushB; rw [decide_eq_false (p := 0 ≤ who ∧ who ≤ 16) (by omega), Bool.and_false])
      rw [flushS, HB.out, if_neg (by simp)]
      clear h
      go_enter Try.func21, Try.ntmps21
      go_wp2_with fail
      refine (has_c o lim s _ _ HH.out).mono ?_
      rintro e w1 ⟨rfl, rfl⟩
      rw [HL.out]
      go_wp2
      go_ret
      exact ⟨rfl, HH.out.more (by omega), T0 _ _⟩
    · rcases Int.lt_or_le 16 who with h2 | h2
      · have HB : Hid (flushB o.n who (k : Int) = false) := hidp (by unfold flushB; rw [decide_eq_false (p := 0 ≤ who ∧ who ≤ 16) (by omega), Bool.and_false])
        rw [flushS, HB.out, if_neg (by simp)]
        clear h
        have t0 : decide (who < 0) = false := decide_eq_false (by omega)
        have t1 : decide ((16 : Int) < who) = true := decide_eq_true (by omega)
        go_enter Try.func21, Try.ntmps21
        go_wp2_with fail
        refine (has_c o lim s _ _ HH.out).mono ?_
        rintro e w1 ⟨rfl, rfl⟩
        rw [HL.out]
        go_wp2
        go_ret
        exact ⟨rfl, HH.out.more (by omega), T0 _ _⟩
      · have HB : Hid (flushB o.n who (k : Int) = true) := hidp (by unfold flushB; rw [HL.out, decide_eq_true (p := 0 ≤ who ∧ who ≤ 16) (by omega)]; rfl)
        rw [flushS, HB.out, if_pos rfl]
        have t0 : decide (who < 0) = false := decide_eq_false (by omega)
        have t1 : decide ((16 : Int) < who) = false := decide_eq_false (by omega)
        have hn := h.nmax
        obtain ⟨kk, D, hkk, hown, hp⟩ := h.pend
        have c2 := h.cells.2.2
        have hkey : keyOf Try.prog 58 (.agg #[.int .i64 who, .int .i64 ((k : Int) / 8)]) = some (flL who ((k / 8 : Nat) : Int)) := by
          have := fl_key (a := who) (b := ((k / 8 : Nat) : Int)) (wf_small (by omega) (by omega)) (wf_small (by omega) (by omega))
          unfold flV at this
          rwa [show ((k / 8 : Nat) : Int) = (k : Int) / 8 by omega] at this ⊢
        have HP := hidp (hp.put (a := who) (l := k / 8) h1 h2 (by have := h.nmod; omega) (by omega))
        have HO := hidp hown
        clear h hp hown
        go_enter Try.func21, Try.ntmps21
        go_wp2_with fail
        refine (has_c o lim s _ _ HH.out).mono ?_
        rintro e w1 ⟨rfl, rfl⟩
        rw [HL.out]
        go_wp2_with (first
          | (at_mapUpdate; refine wpList_mapUpdate_own _ rfl _ _ _ 52 rfl 58 61 flKey Try.underlying52 _ o.m kk _ rfl HO.out (by unfold maxLen; omega) _ _ _ rfl rfl hkey _ [] unitElem_mk ?_; intro w2 hown1 hgrow1)
          | go_in)
        go_ret
        have hT : Turns o.F w1 w2 := Turns.of_grown hgrow1 (.inr (.inr rfl))
        have hT1 : Turns (fun i => i = o.m) w1 w2 := Turns.of_grown hgrow1 rfl
        refine ⟨rfl, { HH.out with head := hT1.held HH.out.head HH.out.bm, words := HH.out.words.turns hT1 HH.out.gm, kept := HH.out.kept.turns hT1 HH.out.hm, pend := ⟨kk + 1, _, by omega, hown1, HP.out⟩ }, hT⟩
  · have hh : hasW o.n a = false := by simpa using hh
    have HB : Hid (flushB o.n who a = false) := hidp (by unfold flushB; rw [hh]; rfl)
    rw [flushS, HB.out, if_neg (by simp)]
    clear h
    go_enter Try.func21, Try.ntmps21
    go_wp2_with fail
    refine (has_c o lim s _ _ HH.out).mono ?_
    rintro e w1 ⟨rfl, rfl⟩
    rw [hh]
    go_wp2
    go_ret
    exact ⟨rfl, HH.out.more (by omega), T0 _ _⟩
end Go.Proofs.Ytobeapibiebpaaa
