/-
  Package audit's small functions: links, bits of slots, kinds of parts.
-/
import Derived.Test.YtbaofpdjfoaiiaaDoorAuditAt
import Derived.Laws.BitsAllLaws
namespace Go.Proofs.YtbaofpdjfoaiiaaDoor
open Go.ChangeShapes Go.WideShapes Go.ChangeAt Go.RowKit
set_option linter.unusedVariables false
set_option linter.unusedSimpArgs false

theorem auLink_c (p : Nat) (hp : p < 2000000000) (w : World) :
    Calls Tryd.prog 37 #[.int .i64 (p : Int)] w fun e w' => e = .returned (.int .u32 ((p + 1 : Nat) : Int)) ∧ w = w' := by
  have h1 : IntKind.u32.wrap (p : Int) = (p : Int) := wrap_nat32 p (by omega)
  have h2 : IntKind.u32.wrap ((p : Int) + 1) = (p : Int) + 1 := by have := wrap_nat32 (p + 1) (by omega); push_cast at this; exact this
  go_enter Tryd.func37, Tryd.ntmps37
  go_wp2
  go_ret
  exact ⟨ret_int (by push_cast; rfl), rfl⟩

theorem mask_wrap (n : Nat) (hn : n ≤ 32) : IntKind.u32.wrap (IntKind.u32.wrap (2 ^ n) - 1) = ((2 ^ n - 1 : Nat) : Int) := by
  rcases Nat.lt_or_ge n 32 with h | h
  · have h1 : (2 : Nat) ^ n < 2 ^ 32 := Nat.pow_lt_pow_right (by omega) h
    have h2 : 1 ≤ (2 : Nat) ^ n := Nat.one_le_two_pow
    have e : ((2 : Int) ^ n) = ((2 ^ n : Nat) : Int) := by push_cast; rfl
    rw [e, wrap_nat32 _ h1, show ((2 ^ n : Nat) : Int) - 1 = ((2 ^ n - 1 : Nat) : Int) by omega, wrap_nat32 _ (by omega)]
  · have : n = 32 := by omega
    subst this
    decide
theorem auSlotBits_c (k : Int) (h0 : -9223372036854775808 ≤ k) (h1 : k ≤ 9223372036854775807) (w : World) (hT : SlotsLaid w) :
    Calls Tryd.prog 38 #[.int .i64 k] w fun e w' => e = .returned (.int .u32 ((2 ^ slotI k - 1 : Nat) : Int)) ∧ w = w' := by
  have hs := slotI_le k
  have HM := hidp (mask_wrap (slotI k) hs)
  have HC : Hid (Calls Tryd.prog 33 #[.int .i64 k] w fun e w' => e = .returned (.int .i64 ((slotI k : Nat) : Int)) ∧ w = w') := hidp (clSlots_c k h0 h1 w hT)
  generalize slotI k = n at *
  have q0 : decide ((n : Int) < 0) = false := decide_eq_false (by omega)
  go_enter Tryd.func38, Tryd.ntmps38
  go_wp2_with (first
    | (go_at_call 33; refine HC.out.mono ?_; rintro e w1 ⟨rfl, rfl⟩)
    | fail)
  go_ret
  exact ⟨ret_int (by first | exact HM.out | simpa using HM.out), rfl⟩

theorem auHasSlot_c (v s : Nat) (b : Bool) (hv : v < 2 ^ 32) (hs : s < 32) (hb : v.testBit s = b) (w : World) :
    Calls Tryd.prog 57 #[.int .u32 (v : Int), .int .i64 (s : Int)] w fun e w' => e = .returned (.bool b) ∧ w = w' := by
  have e1 : IntKind.u32.wrap ((v : Int) / 2 ^ s) = ((v / 2 ^ s : Nat) : Int) := by rw [shr_cast]; exact wrap_nat32 _ (Nat.lt_of_le_of_lt (Nat.div_le_self _ _) hv)
  have e2 := shr_cast v s
  have hB := HM.bit_eq v s
  rw [hb] at hB
  have HB : Hid (v / 2 ^ s % 2 = b.toNat) := hidp hB
  have hlt : v / 2 ^ s < 2 ^ 32 := Nat.lt_of_le_of_lt (Nat.div_le_self _ _) hv
  generalize v / 2 ^ s = y at *
  have hA : bits .and .u32 (y : Int) 1 = ((b.toNat : Nat) : Int) := by
    have := u32_and_nat y 1 hlt (by omega)
    rw [Nat.and_one_is_mod, HB.out] at this
    exact this
  have q0 : decide ((s : Int) < 0) = false := decide_eq_false (by omega)
  go_enter Tryd.func57, Tryd.ntmps57
  go_wp2
  go_ret
  refine ⟨ret_bool ?_, rfl⟩
  cases b <;> rfl

/-- the kind of the part that a slot is -/
def slotKd (taken live s : Nat) : Nat := if live.testBit s then 2 else if taken.testBit s then 4 else 3
theorem auSlotKind_c (taken live s : Nat) (ht : taken < 2 ^ 32) (hl : live < 2 ^ 32) (hs : s < 32) (w : World) :
    Calls Tryd.prog 34 #[.int .u32 (taken : Int), .int .u32 (live : Int), .int .i64 (s : Int)] w fun e w' => e = .returned (.int .i64 ((slotKd taken live s : Nat) : Int)) ∧ w = w' := by
  unfold slotKd
  obtain ⟨a, ha⟩ : ∃ a, live.testBit s = a := ⟨_, rfl⟩
  obtain ⟨b, hb⟩ : ∃ b, taken.testBit s = b := ⟨_, rfl⟩
  rw [ha, hb]
  have H1 : Hid (∀ W : World, Calls Tryd.prog 57 #[.int .u32 (live : Int), .int .i64 (s : Int)] W fun e w' => e = .returned (.bool a) ∧ W = w') := hidp (auHasSlot_c live s a hl hs ha)
  have H2 : Hid (∀ W : World, Calls Tryd.prog 57 #[.int .u32 (taken : Int), .int .i64 (s : Int)] W fun e w' => e = .returned (.bool b) ∧ W = w') := hidp (auHasSlot_c taken s b ht hs hb)
  clear ha hb
  cases a <;> cases b
  all_goals
    go_enter Tryd.func34, Tryd.ntmps34
    go_wp2_with (first
      | (go_at_call 57; refine (H1.out _).mono ?_; clear H1; rintro e w1 ⟨rfl, rfl⟩)
      | (go_at_call 57; refine (H2.out _).mono ?_; rintro e w1 ⟨rfl, rfl⟩)
      | fail)
    go_ret
    exact ⟨rfl, rfl⟩

/-- the page that a link leads to -/
theorem auLinked_no {H : AuH} {n c : Nat} (HV : HeapV H n c) (ad : Addr) (v : Nat) (hv : v < 2 ^ 32) (h : v = 0 ∨ H.p < v) (w : World) :
    Calls Tryd.prog 77 #[hpV H ad n c, .int .u32 (v : Int)] w fun e w' => e = .returned (.tuple #[.int .i64 0, .bool false]) ∧ Below w.heap.size w w' := by
  have hp := HV.nums.2.2.2.1
  unfold hpV
  rcases h with rfl | h
  · go_enter Tryd.func77, Tryd.ntmps77
    go_wp2
    go_ret2
    exact ⟨rfl, Bnew (B0 _) _⟩
  · have q0 : ((v : Int) == 0) = false := by simp; omega
    have q1 : decide ((H.p : Int) < v) = true := decide_eq_true (by omega)
    have w1 : IntKind.u64.wrap (H.p : Int) = (H.p : Int) := wrap_nat64 _ (by omega)
    have w2 : IntKind.u64.wrap (v : Int) = (v : Int) := wrap_nat64 _ (by omega)
    go_enter Tryd.func77, Tryd.ntmps77
    go_wp2
    go_ret2
    exact ⟨rfl, Bnew (B0 _) _⟩
theorem auLinked_yes {H : AuH} {n c : Nat} (HV : HeapV H n c) (ad : Addr) (q : Nat) (h : q < H.p) (w : World) :
    Calls Tryd.prog 77 #[hpV H ad n c, .int .u32 ((q + 1 : Nat) : Int)] w fun e w' => e = .returned (.tuple #[.int .i64 (q : Int), .bool true]) ∧ Below w.heap.size w w' := by
  have hp := HV.nums.2.2.2.1
  obtain ⟨v, hv⟩ : ∃ v, q + 1 = v := ⟨_, rfl⟩
  rw [hv]
  unfold hpV
  have q0 : ((v : Int) == 0) = false := by simp; omega
  have q1 : decide ((H.p : Int) < v) = false := decide_eq_false (by omega)
  have w1 : IntKind.u64.wrap (H.p : Int) = (H.p : Int) := wrap_nat64 _ (by omega)
  have w2 : IntKind.u64.wrap (v : Int) = (v : Int) := wrap_nat64 _ (by omega)
  have w3 : IntKind.u32.wrap ((v : Int) - 1) = (q : Int) := by rw [show (v : Int) - 1 = (q : Int) by omega]; exact wrap_nat32 _ (by omega)
  go_enter Tryd.func77, Tryd.ntmps77
  go_wp2
  go_ret2
  refine ⟨?_, Bnew (B0 _) _⟩
  simp [w3]
end Go.Proofs.YtbaofpdjfoaiiaaDoor
