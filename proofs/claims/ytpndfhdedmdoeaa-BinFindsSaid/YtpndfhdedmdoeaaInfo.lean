/-
  Contracts of package info and of nacreref09: which infos are right, their values, and which info a value is.
-/
import Derived.Test.YtpndfhdedmdoeaaHalf
import Derived.Deep.RegionHeld3
import Derived.IntWalk
import Derived.KernelRfl
namespace Go.Proofs.Ytpndfhdedmdoeaa
open Go.ChangeShapes Go.WideShapes Go.ChangeAt Go.RowKit
set_option linter.unusedVariables false
set_option linter.unusedSimpArgs false

/-- is it right? -/
def infoP (k l c : Int) : Prop := (k = 0 ∧ l = 0 ∧ c = 0) ∨ ((k = 1 ∨ k = 2) ∧ 1 ≤ l ∧ l ≤ 1024 ∧ c = 0) ∨ (k = 3 ∧ l = 1 ∧ 0 ≤ c ∧ c ≤ 8)
instance (k l c : Int) : Decidable (infoP k l c) := by unfold infoP; infer_instance
def infoB (k l c : Int) : Bool := decide (infoP k l c)
theorem infoB_yes {k l c : Int} (h : infoP k l c) : infoB k l c = true := decide_eq_true h
theorem infoB_no {k l c : Int} (h : ¬ infoP k l c) : infoB k l c = false := decide_eq_false h
theorem infoB_iff {k l c : Int} (h : infoB k l c = true) : infoP k l c := of_decide_eq_true h
/-- its value; 0 if it is not right -/
def infoV (k l c : Int) : Nat := if infoB k l c then k.toNat + 16 * l.toNat + 65536 * c.toNat else 0
theorem infoV_yes {k l c : Int} (h : infoB k l c = true) : infoV k l c = k.toNat + 16 * l.toNat + 65536 * c.toNat := by unfold infoV; rw [if_pos h]
theorem infoV_no {k l c : Int} (h : infoB k l c = false) : infoV k l c = 0 := by unfold infoV; rw [h]; rfl

set_option maxHeartbeats 1600000 in
theorem inIsRight_c (k l c : Int) (w : World) :
    Calls Try.prog 70 #[.agg #[.int .i64 k, .int .i64 l, .int .i64 c]] w fun e w' => e = .returned (.bool (infoB k l c)) ∧ Below w.heap.size w w' := by
  have hC : ∃ b, infoB k l c = b := ⟨_, rfl⟩
  obtain ⟨b, hb⟩ := hC
  rw [hb]
  have hcase : (k = 3 ∧ l ≠ 1 ∧ b = false) ∨ (k = 3 ∧ l = 1 ∧ c < 0 ∧ b = false) ∨ (k = 3 ∧ l = 1 ∧ 0 ≤ c ∧ 9 ≤ c ∧ b = false) ∨ (k = 3 ∧ l = 1 ∧ 0 ≤ c ∧ c < 9 ∧ b = true) ∨
      ((k = 1 ∨ k = 2) ∧ l < 1 ∧ b = false) ∨ ((k = 1 ∨ k = 2) ∧ 1 ≤ l ∧ 1024 < l ∧ b = false) ∨ ((k = 1 ∨ k = 2) ∧ 1 ≤ l ∧ l ≤ 1024 ∧ c ≠ 0 ∧ b = false) ∨ ((k = 1 ∨ k = 2) ∧ 1 ≤ l ∧ l ≤ 1024 ∧ c = 0 ∧ b = true) ∨
      (k = 0 ∧ l ≠ 0 ∧ b = false) ∨ (k = 0 ∧ l = 0 ∧ c ≠ 0 ∧ b = false) ∨ (k = 0 ∧ l = 0 ∧ c = 0 ∧ b = true) ∨ (k ≠ 0 ∧ k ≠ 1 ∧ k ≠ 2 ∧ k ≠ 3 ∧ b = false) := by
    cases b
    · have h : ¬ infoP k l c := of_decide_eq_false hb
      unfold infoP at h
      simp only [and_true, reduceCtorEq, and_false, or_false, false_or]
      omega
    · have h : infoP k l c := infoB_iff hb
      unfold infoP at h
      simp only [and_true, reduceCtorEq, and_false, or_false, false_or]
      omega
  clear hb
  rcases hcase with ⟨rfl, h1, rfl⟩ | ⟨rfl, rfl, h1, rfl⟩ | ⟨rfl, rfl, h1, h2, rfl⟩ | ⟨rfl, rfl, h1, h2, rfl⟩ | ⟨rfl | rfl, h1, rfl⟩ | ⟨rfl | rfl, h1, h2, rfl⟩ | ⟨rfl | rfl, h1, h2, h3, rfl⟩ | ⟨rfl | rfl, h1, h2, rfl, rfl⟩ | ⟨rfl, h1, rfl⟩ | ⟨rfl, rfl, h1, rfl⟩ | ⟨rfl, rfl, rfl, rfl⟩ | ⟨h0, h1, h2, h3, rfl⟩
  all_goals
    go_enter Try.func70, Try.ntmps70
    go_wp2
    go_ret
    refine ⟨by first | rfl | (refine ret_bool ?_; simp; done) | (refine ret_bool ?_; simp; omega), ?_⟩
    repeat (first | exact B0 _ | (with_reducible refine Bdrew ?_) | (with_reducible refine Bdraw ?_ _) | (with_reducible refine Bnew ?_ _) | (refine Bput ?_ (Nat.le_refl _) _))
set_option maxHeartbeats 1600000 in
theorem r9Right_c (k l c : Int) (w : World) :
    Calls Try.prog 92 #[.agg #[.int .i64 k, .int .i64 l, .int .i64 c]] w fun e w' => e = .returned (.bool (infoB k l c)) ∧ Below w.heap.size w w' := by
  have hC : ∃ b, infoB k l c = b := ⟨_, rfl⟩
  obtain ⟨b, hb⟩ := hC
  rw [hb]
  have hcase : (k = 3 ∧ l ≠ 1 ∧ b = false) ∨ (k = 3 ∧ l = 1 ∧ c < 0 ∧ b = false) ∨ (k = 3 ∧ l = 1 ∧ 0 ≤ c ∧ 8 < c ∧ b = false) ∨ (k = 3 ∧ l = 1 ∧ 0 ≤ c ∧ c ≤ 8 ∧ b = true) ∨
      ((k = 1 ∨ k = 2) ∧ l < 1 ∧ b = false) ∨ ((k = 1 ∨ k = 2) ∧ 1 ≤ l ∧ 1024 < l ∧ b = false) ∨ ((k = 1 ∨ k = 2) ∧ 1 ≤ l ∧ l ≤ 1024 ∧ c ≠ 0 ∧ b = false) ∨ ((k = 1 ∨ k = 2) ∧ 1 ≤ l ∧ l ≤ 1024 ∧ c = 0 ∧ b = true) ∨
      (k = 0 ∧ l ≠ 0 ∧ b = false) ∨ (k = 0 ∧ l = 0 ∧ c ≠ 0 ∧ b = false) ∨ (k = 0 ∧ l = 0 ∧ c = 0 ∧ b = true) ∨ (k ≠ 0 ∧ k ≠ 1 ∧ k ≠ 2 ∧ k ≠ 3 ∧ b = false) := by
    cases b
    · have h : ¬ infoP k l c := of_decide_eq_false hb
      unfold infoP at h
      simp only [and_true, reduceCtorEq, and_false, or_false, false_or]
      omega
    · have h : infoP k l c := infoB_iff hb
      unfold infoP at h
      simp only [and_true, reduceCtorEq, and_false, or_false, false_or]
      omega
  clear hb
  rcases hcase with ⟨rfl, h1, rfl⟩ | ⟨rfl, rfl, h1, rfl⟩ | ⟨rfl, rfl, h1, h2, rfl⟩ | ⟨rfl, rfl, h1, h2, rfl⟩ | ⟨rfl | rfl, h1, rfl⟩ | ⟨rfl | rfl, h1, h2, rfl⟩ | ⟨rfl | rfl, h1, h2, h3, rfl⟩ | ⟨rfl | rfl, h1, h2, rfl, rfl⟩ | ⟨rfl, h1, rfl⟩ | ⟨rfl, rfl, h1, rfl⟩ | ⟨rfl, rfl, rfl, rfl⟩ | ⟨h0, h1, h2, h3, rfl⟩
  all_goals
    go_enter Try.func92, Try.ntmps92
    go_wp2
    go_ret
    refine ⟨by first | rfl | (refine ret_bool ?_; simp; done) | (refine ret_bool ?_; simp; omega), ?_⟩
    repeat (first | exact B0 _ | (with_reducible refine Bdrew ?_) | (with_reducible refine Bdraw ?_ _) | (with_reducible refine Bnew ?_ _) | (refine Bput ?_ (Nat.le_refl _) _))
end Go.Proofs.Ytpndfhdedmdoeaa
