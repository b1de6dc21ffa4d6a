/-
  The walk of HalfBack where the second field does not meet the first.
-/
import Derived.Test.YtjiedkfmbgfolaaHalfBackA
namespace Go.Proofs.Ytjiedkfmbgfolaa
open Go.ChangeShapes Go.WideShapes Go.ChangeAt Go.RowKit
set_option linter.unusedVariables false

set_option maxHeartbeats 1000000 in
theorem HalfBack_far0 (x v u p q : Nat) (a k : Nat) (b m : Int) (hx : x < 2 ^ 64) (hv : v < 2 ^ 64) (hp : p < 2 ^ 64) (hq : q < 2 ^ 64) (h1 : 1 ≤ k) (h2 : a + k ≤ 64)
    (hb : -9223372036854775808 ≤ b) (hb' : b ≤ 9223372036854775807) (hm : -9223372036854775808 ≤ m) (hm' : m ≤ 9223372036854775807) (hc0 : 0 ≤ b) (hc1 : b ≤ 63) (hc2 : 1 ≤ m) (hc3 : m ≤ 64 - b) (hc : a + k ≤ b) (c : Nat) (HF : Hid (∀ (y : Nat) (W : World), (y = p ∨ y = x) → Calls Try.prog 16 #[.int .u64 (y : Int), .int .i64 b, .int .i64 m] W fun e r => e = .returned (.int .u64 (c : Int)) ∧ ∃ n, r = W.drewN n))
    (HO : Hid (putOk a k v = true)) (HP : Hid (putI x a k v = p)) (HG : Hid (getI p a k = v)) (HQ : Hid (getI x a k = q)) (HO2 : Hid (putOk a k q = true)) (HP2 : Hid (putI p a k q = x)) (w : World) :
    Calls Try.prog 5 #[.int .u64 (x : Int), .agg #[.int .i64 a, .int .i64 k, .int .u64 (v : Int)], .agg #[.int .i64 b, .int .i64 m, .int .u64 (u : Int)]] w (Keeps w) := by
  go_enter Try.func5, Try.ntmps5
  go_wp2_with fail
  refine (Put_c x v a k hx hv (by omega) (by omega) (by omega) (by omega) _).mono ?_
  rintro e w1 ⟨rfl, n1, rfl⟩
  rw [HP.out, HO.out]
  go_wp2_with fail
  go_region_held3 (fun w' => w'.cell? ⟨w.heap.size, 0, none⟩ = some (.int .i64 (a : Int)) ∧ w'.cell? ⟨w.heap.size, 1, none⟩ = some (.int .i64 (k : Int)) ∧ w'.cell? ⟨w.heap.size, 2, none⟩ = some (.int .u64 (v : Int))) (go_keep)
    (first
      | (go_at_call 16; refine (Get_c p a k hp (by omega) (by omega) (by omega) (by omega) _).mono ?_; rintro e w' ⟨rfl, n2, rfl⟩; rw [HG.out]))
  go_wp2_with fail
  go_region_held3 (fun w' => w'.cell? ⟨w.heap.size, 0, none⟩ = some (.int .i64 (a : Int)) ∧ w'.cell? ⟨w.heap.size, 1, none⟩ = some (.int .i64 (k : Int)) ∧ w'.cell? ⟨w.heap.size, 2, none⟩ = some (.int .u64 (v : Int))) (go_keep)
    (first
      | (go_at_call 16; refine (Get_c x a k hx (by omega) (by omega) (by omega) (by omega) _).mono ?_; rintro e w' ⟨rfl, n3, rfl⟩; rw [HQ.out])
      | (go_at_call 14; refine (Put_c p q a k hp hq (by omega) (by omega) (by omega) (by omega) _).mono ?_; rintro e w' ⟨rfl, n4, rfl⟩; rw [HP2.out, HO2.out]))
  go_wp2_with fail
  go_region_held3 (fun w' => w'.cell? ⟨w.heap.size + 1, 0, none⟩ = some (.int .i64 b) ∧ w'.cell? ⟨w.heap.size + 1, 1, none⟩ = some (.int .i64 m)) (first | go_keep | exact ⟨hst _ _ (by assumption), hst _ _ (by assumption)⟩)
    (first
      | (go_at_call 16; refine (HF.out _ _ (by first | exact .inl rfl | exact .inr rfl)).mono ?_; rintro e w' ⟨rfl, n5, rfl⟩)
      | (go_at_call 13; refine (live_c _).mono ?_; rintro e w' ⟨rfl, hbl⟩; have hst := cells_stay hbl))
  go_wp2
  go_ret
  exact ⟨rfl, below_new2 hbl⟩

set_option maxHeartbeats 1000000 in
theorem HalfBack_far1 (x v u p q : Nat) (a k : Nat) (b m : Int) (hx : x < 2 ^ 64) (hv : v < 2 ^ 64) (hp : p < 2 ^ 64) (hq : q < 2 ^ 64) (h1 : 1 ≤ k) (h2 : a + k ≤ 64)
    (hb : -9223372036854775808 ≤ b) (hb' : b ≤ 9223372036854775807) (hm : -9223372036854775808 ≤ m) (hm' : m ≤ 9223372036854775807) (hc0 : 0 ≤ b) (hc1 : b ≤ 63) (hc2 : 1 ≤ m) (hc3 : m ≤ 64 - b) (hc : b < a + k) (hd : b + m ≤ a) (c : Nat) (HF : Hid (∀ (y : Nat) (W : World), (y = p ∨ y = x) → Calls Try.prog 16 #[.int .u64 (y : Int), .int .i64 b, .int .i64 m] W fun e r => e = .returned (.int .u64 (c : Int)) ∧ ∃ n, r = W.drewN n))
    (HO : Hid (putOk a k v = true)) (HP : Hid (putI x a k v = p)) (HG : Hid (getI p a k = v)) (HQ : Hid (getI x a k = q)) (HO2 : Hid (putOk a k q = true)) (HP2 : Hid (putI p a k q = x)) (w : World) :
    Calls Try.prog 5 #[.int .u64 (x : Int), .agg #[.int .i64 a, .int .i64 k, .int .u64 (v : Int)], .agg #[.int .i64 b, .int .i64 m, .int .u64 (u : Int)]] w (Keeps w) := by
  go_enter Try.func5, Try.ntmps5
  go_wp2_with fail
  refine (Put_c x v a k hx hv (by omega) (by omega) (by omega) (by omega) _).mono ?_
  rintro e w1 ⟨rfl, n1, rfl⟩
  rw [HP.out, HO.out]
  go_wp2_with fail
  go_region_held3 (fun w' => w'.cell? ⟨w.heap.size, 0, none⟩ = some (.int .i64 (a : Int)) ∧ w'.cell? ⟨w.heap.size, 1, none⟩ = some (.int .i64 (k : Int)) ∧ w'.cell? ⟨w.heap.size, 2, none⟩ = some (.int .u64 (v : Int))) (go_keep)
    (first
      | (go_at_call 16; refine (Get_c p a k hp (by omega) (by omega) (by omega) (by omega) _).mono ?_; rintro e w' ⟨rfl, n2, rfl⟩; rw [HG.out]))
  go_wp2_with fail
  go_region_held3 (fun w' => w'.cell? ⟨w.heap.size, 0, none⟩ = some (.int .i64 (a : Int)) ∧ w'.cell? ⟨w.heap.size, 1, none⟩ = some (.int .i64 (k : Int)) ∧ w'.cell? ⟨w.heap.size, 2, none⟩ = some (.int .u64 (v : Int))) (go_keep)
    (first
      | (go_at_call 16; refine (Get_c x a k hx (by omega) (by omega) (by omega) (by omega) _).mono ?_; rintro e w' ⟨rfl, n3, rfl⟩; rw [HQ.out])
      | (go_at_call 14; refine (Put_c p q a k hp hq (by omega) (by omega) (by omega) (by omega) _).mono ?_; rintro e w' ⟨rfl, n4, rfl⟩; rw [HP2.out, HO2.out]))
  go_wp2_with fail
  go_region_held3 (fun w' => w'.cell? ⟨w.heap.size + 1, 0, none⟩ = some (.int .i64 b) ∧ w'.cell? ⟨w.heap.size + 1, 1, none⟩ = some (.int .i64 m)) (first | go_keep | exact ⟨hst _ _ (by assumption), hst _ _ (by assumption)⟩)
    (first
      | (go_at_call 16; refine (HF.out _ _ (by first | exact .inl rfl | exact .inr rfl)).mono ?_; rintro e w' ⟨rfl, n5, rfl⟩)
      | (go_at_call 13; refine (live_c _).mono ?_; rintro e w' ⟨rfl, hbl⟩; have hst := cells_stay hbl))
  go_wp2
  go_ret
  exact ⟨rfl, below_new2 hbl⟩

end Go.Proofs.Ytjiedkfmbgfolaa
