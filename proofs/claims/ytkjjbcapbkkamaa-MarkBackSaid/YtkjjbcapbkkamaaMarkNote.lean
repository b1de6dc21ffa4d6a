/-
  Contracts of the functions of package mark and of the document's answers to it.
-/
import Derived.Test.YtkjjbcapbkkamaaMark
namespace Go.Proofs.Ytkjjbcapbkkamaa
open Go.ChangeShapes Go.WideShapes Go.ChangeAt Go.RowKit
set_option linter.unusedVariables false



theorem mkNote_c (s : Nat) (o : Bool) (m : Int) (hs : s < 2 ^ 32) (h0 : -9223372036854775808 ≤ m) (h1 : m ≤ 9223372036854775807) (w : World) :
    Calls Try.prog 21 #[.agg #[.int .u32 (s : Int), .bool o, .int .i64 m]] w fun e w' => e = .returned (.tuple #[.int .u64 ((notN s o m : Nat) : Int), .bool (notB m)]) ∧ Below w.heap.size w w' := by
  by_cases hm : m < 0
  · have T := hidp (not_no s o m (by omega))
    go_enter Try.func21, Try.ntmps21
    go_wp2
    go_ret2
    exact ⟨by rw [T.out.1, T.out.2]; rfl, (Below.refl _ _).alloc (Nat.le_refl _) _⟩
  · by_cases hm2 : 96 < m
    · have T := hidp (not_no s o m (by omega))
      go_enter Try.func21, Try.ntmps21
      go_wp2
      go_ret2
      exact ⟨by rw [T.out.1, T.out.2]; rfl, (Below.refl _ _).alloc (Nat.le_refl _) _⟩
    · obtain ⟨k, rfl⟩ : ∃ k : Nat, m = k := ⟨m.toNat, by omega⟩
      have T := hidp (not_yes s o k (by omega))
      have hk : k ≤ 96 := by omega
      clear hm hm2
      cases o
      · go_enter Try.func21, Try.ntmps21
        go_wp2_with (go_at_call 27; refine (Join_c s k hs (by omega) _).mono ?_; rintro e w' ⟨rfl, rfl⟩)
        go_ret2
        exact ⟨by rw [T.out.1, T.out.2]; rfl, (Below.refl _ _).alloc (Nat.le_refl _) _⟩
      · have HB := hidp (flag_or k hk)
        go_enter Try.func21, Try.ntmps21
        go_wp2_with (go_at_call 27; rw [HB.out]; refine (Join_c s (2147483648 + k) hs (by omega) _).mono ?_; rintro e w' ⟨rfl, rfl⟩)
        go_ret2
        exact ⟨by rw [T.out.1, T.out.2]; rfl, (Below.refl _ _).alloc (Nat.le_refl _) _⟩


theorem r3Note_c (s : Nat) (o : Bool) (m : Int) (hs : s < 2 ^ 32) (h0 : -9223372036854775808 ≤ m) (h1 : m ≤ 9223372036854775807) (w : World) :
    Calls Try.prog 22 #[.agg #[.int .u32 (s : Int), .bool o, .int .i64 m]] w fun e w' => e = .returned (.tuple #[.int .u64 ((notN s o m : Nat) : Int), .bool (notB m)]) ∧ Below w.heap.size w w' := by
  by_cases hm : m < 0
  · have T := hidp (not_no s o m (by omega))
    go_enter Try.func22, Try.ntmps22
    go_wp2
    go_ret2
    exact ⟨by rw [T.out.1, T.out.2]; rfl, (Below.refl _ _).alloc (Nat.le_refl _) _⟩
  · by_cases hm2 : 96 < m
    · have T := hidp (not_no s o m (by omega))
      go_enter Try.func22, Try.ntmps22
      go_wp2
      go_ret2
      exact ⟨by rw [T.out.1, T.out.2]; rfl, (Below.refl _ _).alloc (Nat.le_refl _) _⟩
    · obtain ⟨k, rfl⟩ : ∃ k : Nat, m = k := ⟨m.toNat, by omega⟩
      have T := hidp (not_yes s o k (by omega))
      have hk : k ≤ 96 := by omega
      clear hm hm2
      cases o
      · go_enter Try.func22, Try.ntmps22
        go_wp2_with (go_at_call 15; refine (RJoin_c s k hs (by omega) _).mono ?_; rintro e w' ⟨rfl, rfl⟩)
        go_ret2
        exact ⟨by rw [T.out.1, T.out.2]; rfl, (Below.refl _ _).alloc (Nat.le_refl _) _⟩
      · have HB : Hid ((k : Int) + 2147483648 = ((2147483648 + k : Nat) : Int)) := hidp (by omega)
        go_enter Try.func22, Try.ntmps22
        go_wp2_with (go_at_call 15; rw [HB.out]; refine (RJoin_c s (2147483648 + k) hs (by omega) _).mono ?_; rintro e w' ⟨rfl, rfl⟩)
        go_ret2
        exact ⟨by rw [T.out.1, T.out.2]; rfl, (Below.refl _ _).alloc (Nat.le_refl _) _⟩


theorem get_low16 (x : Nat) : getI x 0 16 = x % 65536 := by
  unfold getI fieldB HM.getN
  simp
theorem get_mid16 (x : Nat) : getI x 16 16 = x / 65536 % 65536 := by
  unfold getI fieldB HM.getN
  simp


theorem mkOfNote_yes_false (x : Nat) (hx : x < 2 ^ 64) (h : x % 2147483648 ≤ 96) (ho : x % 4294967296 < 2147483648) (w : World) :
    Calls Try.prog 23 #[.int .u64 (x : Int)] w fun e w' => e = .returned (.tuple #[.agg #[.int .u32 ((x / 4294967296 : Nat) : Int), .bool false, .int .i64 ((x % 2147483648 : Nat) : Int)], .bool true]) ∧ Below w.heap.size w w' := by
  have HC : Hid (getI x 0 16 = x % 2147483648) := hidp (by rw [get_low16]; omega)
  have HF : Hid (getI x 16 16 = 0) := hidp (by rw [get_mid16]; omega)
  clear ho
  generalize hl : x / 4294967296 = l at *
  have HL := hidp hl
  clear hl
  generalize x % 2147483648 = c at *
  go_enter Try.func23, Try.ntmps23
  go_wp2_with fail
  refine (Get_c x 0 16 hx (by omega) (by omega) (by omega) (by omega) _).mono ?_
  rintro e w1 ⟨rfl, n1, rfl⟩
  rw [HC.out]
  go_wp2_with fail
  refine (Get_c x 16 16 hx (by omega) (by omega) (by omega) (by omega) _).mono ?_
  rintro e w1 ⟨rfl, n2, rfl⟩
  rw [HF.out]
  go_wp2_with (go_at_call 29; refine (Hi_c x hx _).mono ?_; rintro e w' ⟨rfl, rfl⟩; rw [HL.out])
  refine bodyPost_ret (v := .tuple #[.agg #[.int .u32 (l : Int), .bool false, .int .i64 (c : Int)], .bool true]) (by simp [results, Try.results23, go_sem]) rfl ⟨rfl, ?_⟩
  (repeat (first | exact Below.refl _ _ | (with_reducible refine Below.setCell ?_ (by simp) _) | (with_reducible refine below_draws ?_ _) | (with_reducible refine Below.alloc ?_ (by simp) _)))


theorem mkOfNote_yes_true (x : Nat) (hx : x < 2 ^ 64) (h : x % 2147483648 ≤ 96) (ho : 2147483648 ≤ x % 4294967296) (w : World) :
    Calls Try.prog 23 #[.int .u64 (x : Int)] w fun e w' => e = .returned (.tuple #[.agg #[.int .u32 ((x / 4294967296 : Nat) : Int), .bool true, .int .i64 ((x % 2147483648 : Nat) : Int)], .bool true]) ∧ Below w.heap.size w w' := by
  have HC : Hid (getI x 0 16 = x % 2147483648) := hidp (by rw [get_low16]; omega)
  have HF : Hid (getI x 16 16 = 32768) := hidp (by rw [get_mid16]; omega)
  clear ho
  generalize hl : x / 4294967296 = l at *
  have HL := hidp hl
  clear hl
  generalize x % 2147483648 = c at *
  go_enter Try.func23, Try.ntmps23
  go_wp2_with fail
  refine (Get_c x 0 16 hx (by omega) (by omega) (by omega) (by omega) _).mono ?_
  rintro e w1 ⟨rfl, n1, rfl⟩
  rw [HC.out]
  go_wp2_with fail
  refine (Get_c x 16 16 hx (by omega) (by omega) (by omega) (by omega) _).mono ?_
  rintro e w1 ⟨rfl, n2, rfl⟩
  rw [HF.out]
  go_wp2_with (go_at_call 29; refine (Hi_c x hx _).mono ?_; rintro e w' ⟨rfl, rfl⟩; rw [HL.out])
  refine bodyPost_ret (v := .tuple #[.agg #[.int .u32 (l : Int), .bool true, .int .i64 (c : Int)], .bool true]) (by simp [results, Try.results23, go_sem]) rfl ⟨rfl, ?_⟩
  (repeat (first | exact Below.refl _ _ | (with_reducible refine Below.setCell ?_ (by simp) _) | (with_reducible refine below_draws ?_ _) | (with_reducible refine Below.alloc ?_ (by simp) _)))


theorem mkOfNote_big (x : Nat) (hx : x < 2 ^ 64) (h : 96 < x % 65536) (w : World) :
    Calls Try.prog 23 #[.int .u64 (x : Int)] w fun e w' => e = .returned (.tuple #[.agg #[.int .u32 0, .bool false, .int .i64 0], .bool false]) ∧ Below w.heap.size w w' := by
  have HC : Hid (getI x 0 16 = x % 65536) := hidp (by rw [get_low16])
  have HF : Hid (getI x 16 16 = x / 65536 % 65536) := hidp (by rw [get_mid16])
  generalize x % 65536 = c at *
  generalize x / 65536 % 65536 = g at *
  go_enter Try.func23, Try.ntmps23
  go_wp2_with fail
  refine (Get_c x 0 16 hx (by omega) (by omega) (by omega) (by omega) _).mono ?_
  rintro e w1 ⟨rfl, n1, rfl⟩
  rw [HC.out]
  go_wp2_with fail
  refine (Get_c x 16 16 hx (by omega) (by omega) (by omega) (by omega) _).mono ?_
  rintro e w1 ⟨rfl, n2, rfl⟩
  rw [HF.out]
  go_wp2
  refine bodyPost_ret (v := .tuple #[.agg #[.int .u32 0, .bool false, .int .i64 0], .bool false]) (by simp [results, Try.results23, go_sem]) rfl ⟨rfl, ?_⟩
  (repeat (first | exact Below.refl _ _ | (with_reducible refine Below.setCell ?_ (by simp) _) | (with_reducible refine below_draws ?_ _) | (with_reducible refine Below.alloc ?_ (by simp) _)))


theorem mkOfNote_flag (x : Nat) (hx : x < 2 ^ 64) (h : x % 65536 ≤ 96) (hf : x / 65536 % 65536 ≠ 0 ∧ x / 65536 % 65536 ≠ 32768) (w : World) :
    Calls Try.prog 23 #[.int .u64 (x : Int)] w fun e w' => e = .returned (.tuple #[.agg #[.int .u32 0, .bool false, .int .i64 0], .bool false]) ∧ Below w.heap.size w w' := by
  have HC : Hid (getI x 0 16 = x % 65536) := hidp (by rw [get_low16])
  have HF : Hid (getI x 16 16 = x / 65536 % 65536) := hidp (by rw [get_mid16])
  generalize x % 65536 = c at *
  generalize x / 65536 % 65536 = g at *
  have t0 : ((g : Int) != 0) = true := by simp; omega
  have t1 : ((g : Int) != 32768) = true := by simp; omega
  have t2 : ((g : Int) == 0) = false := by simp; omega
  have t3 : ((g : Int) == 32768) = false := by simp; omega
  clear hf
  go_enter Try.func23, Try.ntmps23
  go_wp2_with fail
  refine (Get_c x 0 16 hx (by omega) (by omega) (by omega) (by omega) _).mono ?_
  rintro e w1 ⟨rfl, n1, rfl⟩
  rw [HC.out]
  go_wp2_with fail
  refine (Get_c x 16 16 hx (by omega) (by omega) (by omega) (by omega) _).mono ?_
  rintro e w1 ⟨rfl, n2, rfl⟩
  rw [HF.out]
  go_wp2
  refine bodyPost_ret (v := .tuple #[.agg #[.int .u32 0, .bool false, .int .i64 0], .bool false]) (by simp [results, Try.results23, go_sem]) rfl ⟨rfl, ?_⟩
  (repeat (first | exact Below.refl _ _ | (with_reducible refine Below.setCell ?_ (by simp) _) | (with_reducible refine below_draws ?_ _) | (with_reducible refine Below.alloc ?_ (by simp) _)))


theorem r3OfNote_yes_false (x : Nat) (hx : x < 2 ^ 64) (h : x % 2147483648 ≤ 96) (ho : x % 4294967296 < 2147483648) (w : World) :
    Calls Try.prog 24 #[.int .u64 (x : Int)] w fun e w' => e = .returned (.tuple #[.agg #[.int .u32 ((x / 4294967296 : Nat) : Int), .bool false, .int .i64 ((x % 2147483648 : Nat) : Int)], .bool true]) ∧ Below w.heap.size w w' := by
  generalize hq : x % 4294967296 = q at *
  have HC := hidp hq
  have hqb : q < 4294967296 := by omega
  have HE : Hid (q = x % 2147483648) := hidp (by omega)
  have hm : q ≤ 96 := by omega
  have hd : decide ((2147483648 : Int) ≤ q) = false := by simp; omega
  clear hq ho
  generalize hl : x / 4294967296 = l at *
  have HL := hidp hl
  clear hl
  generalize x % 2147483648 = c at *
  go_enter Try.func24, Try.ntmps24
  go_wp2_with (first | (go_at_call 19; refine (RLo_c x hx _).mono ?_; rintro e w' ⟨rfl, rfl⟩; rw [HC.out]) | (go_at_call 17; refine (RHi_c x hx _).mono ?_; rintro e w' ⟨rfl, rfl⟩; rw [HL.out]))
  refine bodyPost_ret (v := .tuple #[.agg #[.int .u32 (l : Int), .bool false, .int .i64 ((q : Int))], .bool true]) (by simp [results, Try.results24, go_sem]) rfl ⟨by rw [HE.out], ?_⟩
  (repeat (first | exact Below.refl _ _ | (with_reducible refine Below.setCell ?_ (by simp) _) | (with_reducible refine below_draws ?_ _) | (with_reducible refine Below.alloc ?_ (by simp) _)))


theorem r3OfNote_yes_true (x : Nat) (hx : x < 2 ^ 64) (h : x % 2147483648 ≤ 96) (ho : 2147483648 ≤ x % 4294967296) (w : World) :
    Calls Try.prog 24 #[.int .u64 (x : Int)] w fun e w' => e = .returned (.tuple #[.agg #[.int .u32 ((x / 4294967296 : Nat) : Int), .bool true, .int .i64 ((x % 2147483648 : Nat) : Int)], .bool true]) ∧ Below w.heap.size w w' := by
  generalize hq : x % 4294967296 = q at *
  have HC := hidp hq
  have hqb : q < 4294967296 := by omega
  have HE : Hid ((q : Int) - 2147483648 = (x % 2147483648 : Nat)) := hidp (by omega)
  have hm : ((q : Int) - 2147483648) % 4294967296 ≤ 96 := by omega
  have hd : decide ((2147483648 : Int) ≤ q) = true := by simp; omega
  clear hq ho
  generalize hl : x / 4294967296 = l at *
  have HL := hidp hl
  clear hl
  generalize x % 2147483648 = c at *
  go_enter Try.func24, Try.ntmps24
  go_wp2_with (first | (go_at_call 19; refine (RLo_c x hx _).mono ?_; rintro e w' ⟨rfl, rfl⟩; rw [HC.out]) | (go_at_call 17; refine (RHi_c x hx _).mono ?_; rintro e w' ⟨rfl, rfl⟩; rw [HL.out]))
  refine bodyPost_ret (v := .tuple #[.agg #[.int .u32 (l : Int), .bool true, .int .i64 ((q : Int) - 2147483648)], .bool true]) (by simp [results, Try.results24, go_sem]) rfl ⟨by rw [HE.out], ?_⟩
  (repeat (first | exact Below.refl _ _ | (with_reducible refine Below.setCell ?_ (by simp) _) | (with_reducible refine below_draws ?_ _) | (with_reducible refine Below.alloc ?_ (by simp) _)))


theorem r3OfNote_big (x : Nat) (hx : x < 2 ^ 64) (h : 96 < x % 4294967296) (ho : x % 4294967296 < 2147483648) (w : World) :
    Calls Try.prog 24 #[.int .u64 (x : Int)] w fun e w' => e = .returned (.tuple #[.agg #[.int .u32 0, .bool false, .int .i64 0], .bool false]) ∧ Below w.heap.size w w' := by
  have hb : x % 4294967296 < 4294967296 := by omega
  generalize hq : x % 4294967296 = q at *
  have HC := hidp hq
  have hd : decide ((2147483648 : Int) ≤ q) = false := by simp; omega
  clear hq
  generalize hl : x / 4294967296 = l at *
  have HL := hidp hl
  clear hl
  go_enter Try.func24, Try.ntmps24
  go_wp2_with (first | (go_at_call 19; refine (RLo_c x hx _).mono ?_; rintro e w' ⟨rfl, rfl⟩; rw [HC.out]) | (go_at_call 17; refine (RHi_c x hx _).mono ?_; rintro e w' ⟨rfl, rfl⟩; rw [HL.out]))
  refine bodyPost_ret (v := .tuple #[.agg #[.int .u32 0, .bool false, .int .i64 0], .bool false]) (by simp [results, Try.results24, go_sem]) rfl ⟨rfl, ?_⟩
  (repeat (first | exact Below.refl _ _ | (with_reducible refine Below.setCell ?_ (by simp) _) | (with_reducible refine below_draws ?_ _) | (with_reducible refine Below.alloc ?_ (by simp) _)))


theorem r3OfNote_flag (x : Nat) (hx : x < 2 ^ 64) (h : 2147483744 < x % 4294967296) (w : World) :
    Calls Try.prog 24 #[.int .u64 (x : Int)] w fun e w' => e = .returned (.tuple #[.agg #[.int .u32 0, .bool false, .int .i64 0], .bool false]) ∧ Below w.heap.size w w' := by
  have hb : x % 4294967296 < 4294967296 := by omega
  generalize hq : x % 4294967296 = q at *
  have HC := hidp hq
  have hd : decide ((2147483648 : Int) ≤ q) = true := by simp; omega
  clear hq
  generalize hl : x / 4294967296 = l at *
  have HL := hidp hl
  clear hl
  go_enter Try.func24, Try.ntmps24
  go_wp2_with (first | (go_at_call 19; refine (RLo_c x hx _).mono ?_; rintro e w' ⟨rfl, rfl⟩; rw [HC.out]) | (go_at_call 17; refine (RHi_c x hx _).mono ?_; rintro e w' ⟨rfl, rfl⟩; rw [HL.out]))
  refine bodyPost_ret (v := .tuple #[.agg #[.int .u32 0, .bool false, .int .i64 0], .bool false]) (by simp [results, Try.results24, go_sem]) rfl ⟨rfl, ?_⟩
  (repeat (first | exact Below.refl _ _ | (with_reducible refine Below.setCell ?_ (by simp) _) | (with_reducible refine below_draws ?_ _) | (with_reducible refine Below.alloc ?_ (by simp) _)))


theorem mkOfNote_c (x s c : Nat) (o b : Bool) (hx : x < 2 ^ 64) (h : noteOf x = (s, o, c, b)) (w : World) :
    Calls Try.prog 23 #[.int .u64 (x : Int)] w fun e w' => e = .returned (.tuple #[.agg #[.int .u32 (s : Int), .bool o, .int .i64 (c : Int)], .bool b]) ∧ Below w.heap.size w w' := by
  unfold noteOf at h
  by_cases h1 : x % 2147483648 ≤ 96
  · rw [if_pos h1] at h
    simp only [Prod.mk.injEq] at h
    obtain ⟨rfl, rfl, rfl, rfl⟩ := h
    by_cases h2 : 2147483648 ≤ x % 4294967296
    · rw [decide_eq_true h2]; exact mkOfNote_yes_true x hx h1 h2 w
    · rw [decide_eq_false h2]; exact mkOfNote_yes_false x hx h1 (by omega) w
  · rw [if_neg h1] at h
    simp only [Prod.mk.injEq] at h
    obtain ⟨rfl, rfl, rfl, rfl⟩ := h
    by_cases h2 : 96 < x % 65536
    · exact mkOfNote_big x hx h2 w
    · exact mkOfNote_flag x hx (by omega) (by omega) w


theorem r3OfNote_c (x s c : Nat) (o b : Bool) (hx : x < 2 ^ 64) (h : noteOf x = (s, o, c, b)) (w : World) :
    Calls Try.prog 24 #[.int .u64 (x : Int)] w fun e w' => e = .returned (.tuple #[.agg #[.int .u32 (s : Int), .bool o, .int .i64 (c : Int)], .bool b]) ∧ Below w.heap.size w w' := by
  unfold noteOf at h
  by_cases h1 : x % 2147483648 ≤ 96
  · rw [if_pos h1] at h
    simp only [Prod.mk.injEq] at h
    obtain ⟨rfl, rfl, rfl, rfl⟩ := h
    by_cases h2 : 2147483648 ≤ x % 4294967296
    · rw [decide_eq_true h2]; exact r3OfNote_yes_true x hx h1 h2 w
    · rw [decide_eq_false h2]; exact r3OfNote_yes_false x hx h1 (by omega) w
  · rw [if_neg h1] at h
    simp only [Prod.mk.injEq] at h
    obtain ⟨rfl, rfl, rfl, rfl⟩ := h
    by_cases h2 : x % 4294967296 < 2147483648
    · exact r3OfNote_big x hx (by omega) h2 w
    · exact r3OfNote_flag x hx (by omega)  w

end Go.Proofs.Ytkjjbcapbkkamaa
