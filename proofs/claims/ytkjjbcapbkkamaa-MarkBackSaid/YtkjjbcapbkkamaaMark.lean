/-
  Contracts of the functions of package mark and of the document's answers to it.
-/
import Derived.Test.YtkjjbcapbkkamaaHalf
namespace Go.Proofs.Ytkjjbcapbkkamaa
open Go.ChangeShapes Go.WideShapes Go.ChangeAt Go.RowKit
set_option linter.unusedVariables false

theorem wrap_u32_nat (c : Nat) (h : c < 2 ^ 32) : IntKind.u32.wrap (c : Int) = (c : Int) := wrap_nat32 c h

/-- is there such a maker? -/
def tipB (m : Int) : Bool := decide (0 ≤ m ∧ m ≤ 16)
def tipN (s : Nat) (m : Int) : Nat := if tipB m then s * 4294967296 + m.toNat else 0
theorem tip_yes (s m : Nat) (h : m ≤ 16) : tipB m = true ∧ tipN s m = s * 4294967296 + m := by
  have : tipB m = true := by unfold tipB; simp; omega
  exact ⟨this, by unfold tipN; rw [this, if_pos rfl, Int.toNat_natCast]⟩
theorem tip_no (s : Nat) (m : Int) (h : m < 0 ∨ 16 < m) : tipB m = false ∧ tipN s m = 0 := by
  have : tipB m = false := by unfold tipB; simp; omega
  exact ⟨this, by unfold tipN; rw [this]; rfl⟩
/-- is there such a cell? -/
def entB (m : Int) : Bool := decide (0 ≤ m ∧ m ≤ 65535)
def entN (m : Int) (v : Nat) : Nat := if entB m then m.toNat * 4294967296 + v else 0
theorem ent_yes (m v : Nat) (h : m ≤ 65535) : entB m = true ∧ entN m v = m * 4294967296 + v := by
  have : entB m = true := by unfold entB; simp; omega
  exact ⟨this, by unfold entN; rw [this, if_pos rfl, Int.toNat_natCast]⟩
theorem ent_no (m : Int) (v : Nat) (h : m < 0 ∨ 65535 < m) : entB m = false ∧ entN m v = 0 := by
  have : entB m = false := by unfold entB; simp; omega
  exact ⟨this, by unfold entN; rw [this]; rfl⟩
/-- does a change write so many cells? -/
def notB (m : Int) : Bool := decide (0 ≤ m ∧ m ≤ 96)
def notN (s : Nat) (o : Bool) (m : Int) : Nat := if notB m then s * 4294967296 + (if o then 2147483648 + m.toNat else m.toNat) else 0
theorem not_yes (s : Nat) (o : Bool) (m : Nat) (h : m ≤ 96) : notB m = true ∧ notN s o m = s * 4294967296 + (if o then 2147483648 + m else m) := by
  have : notB m = true := by unfold notB; simp; omega
  exact ⟨this, by unfold notN; rw [this, if_pos rfl, Int.toNat_natCast]⟩
theorem not_no (s : Nat) (o : Bool) (m : Int) (h : m < 0 ∨ 96 < m) : notB m = false ∧ notN s o m = 0 := by
  have : notB m = false := by unfold notB; simp; omega
  exact ⟨this, by unfold notN; rw [this]; rfl⟩
/-- which note a word is: its stamp, whether it is open, its count, and whether it is one -/
def noteOf (x : Nat) : Nat × Bool × Nat × Bool :=
  if x % 2147483648 ≤ 96 then (x / 4294967296, decide (2147483648 ≤ x % 4294967296), x % 2147483648, true) else (0, false, 0, false)
theorem flag_or (k : Nat) (h : k ≤ 96) : bits .or .u32 (k : Int) 2147483648 = ((2147483648 + k : Nat) : Int) := by
  have e := u32_or_nat k 2147483648 (by omega) (by omega)
  rw [show ((2147483648 : Nat) : Int) = 2147483648 from rfl] at e
  rw [e, Nat.or_comm, show (2147483648 : Nat) = 1 * 2147483648 from rfl, nat_join 31 _ _ (by omega) (by omega)]
def openB (x t : Nat) : Bool := (noteOf x).2.2.2 && (noteOf x).2.1 && (noteOf x).1 == t
def openN (x t : Nat) : Nat := if openB x t then (noteOf x).2.2.1 else 0


theorem mkTip_c (s : Nat) (m : Int) (hs : s < 2 ^ 32) (h0 : -9223372036854775808 ≤ m) (h1 : m ≤ 9223372036854775807) (w : World) :
    Calls Try.prog 6 #[.int .u32 (s : Int), .int .i64 m] w fun e w' => e = .returned (.tuple #[.int .u64 ((tipN s m : Nat) : Int), .bool (tipB m)]) ∧ w = w' := by
  by_cases hm : m < 0
  · have T := hidp (tip_no s m (by omega))
    go_enter Try.func6, Try.ntmps6
    go_wp2
    go_ret2
    exact ⟨by rw [T.out.1, T.out.2]; rfl, rfl⟩
  · by_cases hm2 : 16 < m
    · have T := hidp (tip_no s m (by omega))
      go_enter Try.func6, Try.ntmps6
      go_wp2
      go_ret2
      exact ⟨by rw [T.out.1, T.out.2]; rfl, rfl⟩
    · obtain ⟨k, rfl⟩ : ∃ k : Nat, m = k := ⟨m.toNat, by omega⟩
      have T := hidp (tip_yes s k (by omega))
      have hk : k < 2 ^ 32 := by omega
      go_enter Try.func6, Try.ntmps6
      go_wp2_with (go_at_call 27; refine (Join_c s k hs hk _).mono ?_; rintro e w' ⟨rfl, rfl⟩)
      go_ret2
      exact ⟨by rw [T.out.1, T.out.2]; rfl, rfl⟩


theorem mkOfTip_yes (x : Nat) (hx : x < 2 ^ 64) (h : x % 4294967296 ≤ 16) (w : World) :
    Calls Try.prog 8 #[.int .u64 (x : Int)] w fun e w' => e = .returned (.tuple #[.int .u32 ((x / 4294967296 : Nat) : Int), .int .i64 ((x % 4294967296 : Nat) : Int), .bool true]) ∧ w = w' := by
  generalize hl : x % 4294967296 = l at *
  have HL := hidp hl
  clear hl
  go_enter Try.func8, Try.ntmps8
  go_wp2_with (first | (go_at_call 28; refine (Lo_c x hx _).mono ?_; rintro e w' ⟨rfl, rfl⟩; rw [HL.out]) | (go_at_call 29; refine (Hi_c x hx _).mono ?_; rintro e w' ⟨rfl, rfl⟩))
  go_ret3
  exact ⟨rfl, rfl⟩
theorem mkOfTip_no (x : Nat) (hx : x < 2 ^ 64) (h : 16 < x % 4294967296) (w : World) :
    Calls Try.prog 8 #[.int .u64 (x : Int)] w fun e w' => e = .returned (.tuple #[.int .u32 0, .int .i64 0, .bool false]) ∧ w = w' := by
  generalize hl : x % 4294967296 = l at *
  have HL := hidp hl
  clear hl
  go_enter Try.func8, Try.ntmps8
  go_wp2_with (first | (go_at_call 28; refine (Lo_c x hx _).mono ?_; rintro e w' ⟨rfl, rfl⟩; rw [HL.out]) | (go_at_call 29; refine (Hi_c x hx _).mono ?_; rintro e w' ⟨rfl, rfl⟩))
  go_ret3
  exact ⟨rfl, rfl⟩


theorem mkEntry_c (m : Int) (v : Nat) (hv : v < 2 ^ 32) (h0 : -9223372036854775808 ≤ m) (h1 : m ≤ 9223372036854775807) (w : World) :
    Calls Try.prog 10 #[.agg #[.int .i64 m, .int .u32 (v : Int)]] w fun e w' => e = .returned (.tuple #[.int .u64 ((entN m v : Nat) : Int), .bool (entB m)]) ∧ Below w.heap.size w w' := by
  by_cases hm : m < 0
  · have T := hidp (ent_no m v (by omega))
    go_enter Try.func10, Try.ntmps10
    go_wp2
    go_ret2
    exact ⟨by rw [T.out.1, T.out.2]; rfl, (Below.refl _ _).alloc (Nat.le_refl _) _⟩
  · by_cases hm2 : 65535 < m
    · have T := hidp (ent_no m v (by omega))
      go_enter Try.func10, Try.ntmps10
      go_wp2
      go_ret2
      exact ⟨by rw [T.out.1, T.out.2]; rfl, (Below.refl _ _).alloc (Nat.le_refl _) _⟩
    · obtain ⟨k, rfl⟩ : ∃ k : Nat, m = k := ⟨m.toNat, by omega⟩
      have T := hidp (ent_yes k v (by omega))
      have hk : k < 2 ^ 32 := by omega
      have hk3 : k < 65536 := by omega
      clear hm hm2
      go_enter Try.func10, Try.ntmps10
      go_wp2_with (go_at_call 27; refine (Join_c k v hk hv _).mono ?_; rintro e w' ⟨rfl, rfl⟩)
      go_ret2
      exact ⟨by rw [T.out.1, T.out.2]; rfl, (Below.refl _ _).alloc (Nat.le_refl _) _⟩


theorem mkStamp_c (x : Nat) (hx : x < 2 ^ 64) (w : World) :
    Calls Try.prog 16 #[.int .u64 (x : Int)] w fun e w' => e = .returned (.int .u32 ((x / 4294967296 : Nat) : Int)) ∧ w = w' := by
  go_enter Try.func16, Try.ntmps16
  go_wp2_with (go_at_call 29; refine (Hi_c x hx _).mono ?_; rintro e w' ⟨rfl, rfl⟩)
  go_ret
  exact ⟨rfl, rfl⟩


theorem mkVal_c (x : Nat) (hx : x < 2 ^ 64) (w : World) :
    Calls Try.prog 18 #[.int .u64 (x : Int)] w fun e w' => e = .returned (.int .u32 ((x % 4294967296 : Nat) : Int)) ∧ w = w' := by
  go_enter Try.func18, Try.ntmps18
  go_wp2_with (go_at_call 28; refine (Lo_c x hx _).mono ?_; rintro e w' ⟨rfl, rfl⟩)
  go_ret
  exact ⟨rfl, rfl⟩


theorem mkCell_c (h l : Nat) (hh : h < 2 ^ 32) (hl : l < 2 ^ 32) (w : World) :
    Calls Try.prog 14 #[.int .u32 (h : Int), .int .u32 (l : Int)] w fun e w' => e = .returned (.int .u64 ((h * 4294967296 + l : Nat) : Int)) ∧ w = w' := by
  go_enter Try.func14, Try.ntmps14
  go_wp2_with (go_at_call 27; refine (Join_c h l hh hl _).mono ?_; rintro e w' ⟨rfl, rfl⟩)
  go_ret
  exact ⟨rfl, rfl⟩


theorem mkOfEntry_yes (x : Nat) (hx : x < 2 ^ 64) (h : x / 4294967296 < 65536) (w : World) :
    Calls Try.prog 12 #[.int .u64 (x : Int)] w fun e w' => e = .returned (.tuple #[.agg #[.int .i64 ((x / 4294967296 : Nat) : Int), .int .u32 ((x % 4294967296 : Nat) : Int)], .bool true]) ∧ Below w.heap.size w w' := by
  generalize hl : x / 4294967296 = l at *
  have HL := hidp hl
  clear hl
  generalize hl : x % 4294967296 = q at *
  have HQ := hidp hl
  clear hl
  have hb : (l : Int) ≤ 65535 := by omega
  have hh : decide ((65536 : Int) ≤ l) = false := by simp; omega
  clear h
  go_enter Try.func12, Try.ntmps12
  go_wp2_with (first | (go_at_call 29; refine (Hi_c x hx _).mono ?_; rintro e w' ⟨rfl, rfl⟩; rw [HL.out]) | (go_at_call 28; refine (Lo_c x hx _).mono ?_; rintro e w' ⟨rfl, rfl⟩; rw [HQ.out]))
  refine bodyPost_ret (v := .tuple #[.agg #[.int .i64 ((l : Nat) : Int), .int .u32 ((q : Nat) : Int)], .bool true]) (by simp [results, Try.results12, go_sem]) rfl ⟨rfl, ?_⟩
  exact ((Below.refl _ _).alloc (Nat.le_refl _) _)


theorem mkOfEntry_no (x : Nat) (hx : x < 2 ^ 64) (h : 65535 < x / 4294967296) (w : World) :
    Calls Try.prog 12 #[.int .u64 (x : Int)] w fun e w' => e = .returned (.tuple #[.agg #[.int .i64 0, .int .u32 0], .bool false]) ∧ Below w.heap.size w w' := by
  generalize hl : x / 4294967296 = l at *
  have HL := hidp hl
  clear hl
  generalize hl : x % 4294967296 = q at *
  have HQ := hidp hl
  clear hl
  have hh : (65536 : Int) ≤ l := by omega
  clear h
  go_enter Try.func12, Try.ntmps12
  go_wp2_with (first | (go_at_call 29; refine (Hi_c x hx _).mono ?_; rintro e w' ⟨rfl, rfl⟩; rw [HL.out]) | (go_at_call 28; refine (Lo_c x hx _).mono ?_; rintro e w' ⟨rfl, rfl⟩; rw [HQ.out]))
  refine bodyPost_ret (v := .tuple #[.agg #[.int .i64 0, .int .u32 0], .bool false]) (by simp [results, Try.results12, go_sem]) rfl ⟨rfl, ?_⟩
  exact ((Below.refl _ _).alloc (Nat.le_refl _) _)


theorem r3Tip_c (s : Nat) (m : Int) (hs : s < 2 ^ 32) (h0 : -9223372036854775808 ≤ m) (h1 : m ≤ 9223372036854775807) (w : World) :
    Calls Try.prog 7 #[.int .u32 (s : Int), .int .i64 m] w fun e w' => e = .returned (.tuple #[.int .u64 ((tipN s m : Nat) : Int), .bool (tipB m)]) ∧ w = w' := by
  by_cases hm : m < 0
  · have T := hidp (tip_no s m (by omega))
    go_enter Try.func7, Try.ntmps7
    go_wp2
    go_ret2
    exact ⟨by rw [T.out.1, T.out.2]; rfl, rfl⟩
  · by_cases hm2 : 16 < m
    · have T := hidp (tip_no s m (by omega))
      go_enter Try.func7, Try.ntmps7
      go_wp2
      go_ret2
      exact ⟨by rw [T.out.1, T.out.2]; rfl, rfl⟩
    · obtain ⟨k, rfl⟩ : ∃ k : Nat, m = k := ⟨m.toNat, by omega⟩
      have T := hidp (tip_yes s k (by omega))
      have hk : k < 2 ^ 32 := by omega
      go_enter Try.func7, Try.ntmps7
      go_wp2_with (go_at_call 15; refine (RJoin_c s k hs hk _).mono ?_; rintro e w' ⟨rfl, rfl⟩)
      go_ret2
      exact ⟨by rw [T.out.1, T.out.2]; rfl, rfl⟩


theorem r3OfTip_yes (x : Nat) (hx : x < 2 ^ 64) (h : x % 4294967296 ≤ 16) (w : World) :
    Calls Try.prog 9 #[.int .u64 (x : Int)] w fun e w' => e = .returned (.tuple #[.int .u32 ((x / 4294967296 : Nat) : Int), .int .i64 ((x % 4294967296 : Nat) : Int), .bool true]) ∧ w = w' := by
  generalize hl : x % 4294967296 = l at *
  have HL := hidp hl
  clear hl
  go_enter Try.func9, Try.ntmps9
  go_wp2_with (first | (go_at_call 19; refine (RLo_c x hx _).mono ?_; rintro e w' ⟨rfl, rfl⟩; rw [HL.out]) | (go_at_call 17; refine (RHi_c x hx _).mono ?_; rintro e w' ⟨rfl, rfl⟩))
  go_ret3
  exact ⟨rfl, rfl⟩
theorem r3OfTip_no (x : Nat) (hx : x < 2 ^ 64) (h : 16 < x % 4294967296) (w : World) :
    Calls Try.prog 9 #[.int .u64 (x : Int)] w fun e w' => e = .returned (.tuple #[.int .u32 0, .int .i64 0, .bool false]) ∧ w = w' := by
  generalize hl : x % 4294967296 = l at *
  have HL := hidp hl
  clear hl
  go_enter Try.func9, Try.ntmps9
  go_wp2_with (first | (go_at_call 19; refine (RLo_c x hx _).mono ?_; rintro e w' ⟨rfl, rfl⟩; rw [HL.out]) | (go_at_call 17; refine (RHi_c x hx _).mono ?_; rintro e w' ⟨rfl, rfl⟩))
  go_ret3
  exact ⟨rfl, rfl⟩


theorem r3Entry_c (m : Int) (v : Nat) (hv : v < 2 ^ 32) (h0 : -9223372036854775808 ≤ m) (h1 : m ≤ 9223372036854775807) (w : World) :
    Calls Try.prog 11 #[.agg #[.int .i64 m, .int .u32 (v : Int)]] w fun e w' => e = .returned (.tuple #[.int .u64 ((entN m v : Nat) : Int), .bool (entB m)]) ∧ Below w.heap.size w w' := by
  by_cases hm : m < 0
  · have T := hidp (ent_no m v (by omega))
    go_enter Try.func11, Try.ntmps11
    go_wp2
    go_ret2
    exact ⟨by rw [T.out.1, T.out.2]; rfl, (Below.refl _ _).alloc (Nat.le_refl _) _⟩
  · by_cases hm2 : 65535 < m
    · have T := hidp (ent_no m v (by omega))
      go_enter Try.func11, Try.ntmps11
      go_wp2
      go_ret2
      exact ⟨by rw [T.out.1, T.out.2]; rfl, (Below.refl _ _).alloc (Nat.le_refl _) _⟩
    · obtain ⟨k, rfl⟩ : ∃ k : Nat, m = k := ⟨m.toNat, by omega⟩
      have T := hidp (ent_yes k v (by omega))
      have hk : k < 2 ^ 32 := by omega
      have hk3 : k < 65536 := by omega
      clear hm hm2
      go_enter Try.func11, Try.ntmps11
      go_wp2_with (go_at_call 15; refine (RJoin_c k v hk hv _).mono ?_; rintro e w' ⟨rfl, rfl⟩)
      go_ret2
      exact ⟨by rw [T.out.1, T.out.2]; rfl, (Below.refl _ _).alloc (Nat.le_refl _) _⟩


theorem r3OfEntry_yes (x : Nat) (hx : x < 2 ^ 64) (h : x / 4294967296 < 65536) (w : World) :
    Calls Try.prog 13 #[.int .u64 (x : Int)] w fun e w' => e = .returned (.tuple #[.agg #[.int .i64 ((x / 4294967296 : Nat) : Int), .int .u32 ((x % 4294967296 : Nat) : Int)], .bool true]) ∧ Below w.heap.size w w' := by
  generalize hl : x / 4294967296 = l at *
  have HL := hidp hl
  clear hl
  generalize hl : x % 4294967296 = q at *
  have HQ := hidp hl
  clear hl
  have hh : (l : Int) ≤ 65535 := by omega
  clear h
  go_enter Try.func13, Try.ntmps13
  go_wp2_with (first | (go_at_call 17; refine (RHi_c x hx _).mono ?_; rintro e w' ⟨rfl, rfl⟩; rw [HL.out]) | (go_at_call 19; refine (RLo_c x hx _).mono ?_; rintro e w' ⟨rfl, rfl⟩; rw [HQ.out]))
  refine bodyPost_ret (v := .tuple #[.agg #[.int .i64 ((l : Nat) : Int), .int .u32 ((q : Nat) : Int)], .bool true]) (by simp [results, Try.results13, go_sem]) rfl ⟨rfl, ?_⟩
  exact ((Below.refl _ _).alloc (Nat.le_refl _) _)


theorem r3OfEntry_no (x : Nat) (hx : x < 2 ^ 64) (h : 65535 < x / 4294967296) (w : World) :
    Calls Try.prog 13 #[.int .u64 (x : Int)] w fun e w' => e = .returned (.tuple #[.agg #[.int .i64 0, .int .u32 0], .bool false]) ∧ Below w.heap.size w w' := by
  generalize hl : x / 4294967296 = l at *
  have HL := hidp hl
  clear hl
  generalize hl : x % 4294967296 = q at *
  have HQ := hidp hl
  clear hl
  have hh : (65535 : Int) < l := by omega
  clear h
  go_enter Try.func13, Try.ntmps13
  go_wp2_with (first | (go_at_call 17; refine (RHi_c x hx _).mono ?_; rintro e w' ⟨rfl, rfl⟩; rw [HL.out]) | (go_at_call 19; refine (RLo_c x hx _).mono ?_; rintro e w' ⟨rfl, rfl⟩; rw [HQ.out]))
  refine bodyPost_ret (v := .tuple #[.agg #[.int .i64 0, .int .u32 0], .bool false]) (by simp [results, Try.results13, go_sem]) rfl ⟨rfl, ?_⟩
  exact ((Below.refl _ _).alloc (Nat.le_refl _) _)

end Go.Proofs.Ytkjjbcapbkkamaa
