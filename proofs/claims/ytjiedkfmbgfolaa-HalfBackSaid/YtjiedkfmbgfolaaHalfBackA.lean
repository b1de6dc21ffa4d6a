/-
  The walk of HalfBack: every word, every two fields.
-/
import Derived.Test.YtjiedkfmbgfolaaHalfFields
namespace Go.Proofs.Ytjiedkfmbgfolaa
open Go.ChangeShapes Go.WideShapes Go.ChangeAt Go.RowKit
set_option linter.unusedVariables false

theorem below_new2 {w w' : World} {o o' : Obj} {n : Nat} (h : Below (((w.alloc o).alloc o').drewN n).heap.size (((w.alloc o).alloc o').drewN n) w') : Below w.heap.size w w' := by
  have h1 : Below w.heap.size w ((w.alloc o).alloc o') := ((Below.refl _ _).alloc (Nat.le_refl _) o).alloc (by simp) o'
  exact h1.trans ((below_draws_left h).mono h1.size)

theorem HalfBack_no (x v u : Nat) (a k b m : Int) (hx : x < 2 ^ 64) (hv : v < 2 ^ 64) (ha : -9223372036854775808 ≤ a) (ha' : a ≤ 9223372036854775807) (hk : -9223372036854775808 ≤ k) (hk' : k ≤ 9223372036854775807)
    (HO : Hid (putOk a k v = false)) (w : World) :
    Calls Try.prog 5 #[.int .u64 (x : Int), .agg #[.int .i64 a, .int .i64 k, .int .u64 (v : Int)], .agg #[.int .i64 b, .int .i64 m, .int .u64 (u : Int)]] w (Keeps w) := by
  have HP : Hid (putI x a k v = 0) := hidp (by unfold putI; rw [HO.out]; rfl)
  go_enter Try.func5, Try.ntmps5
  go_wp2_with fail
  refine (Put_c x v a k hx hv ha ha' hk hk' _).mono ?_
  rintro e w1 ⟨rfl, n1, rfl⟩
  rw [HP.out, HO.out]
  go_wp2_with fail
  refine (live_c _).mono ?_
  rintro e w5 ⟨rfl, hb5⟩
  go_wp2
  go_ret
  exact ⟨rfl, below_new2 hb5⟩

/-- what the walk knows of a field that goes, and of its word -/
structure Goes (x a k v p : Nat) : Prop where
  ok : putOk a k v = true
  put : putI x a k v = p
  got : getI p a k = v
  was : ∃ q : Nat, getI x a k = q ∧ q < 2 ^ 64 ∧ putOk a k q = true ∧ putI p a k q = x
  lt : p < 2 ^ 64

theorem goes (x v : Nat) (a k : Nat) (hx : x < 2 ^ 64) (h1 : 1 ≤ k) (h2 : a + k ≤ 64) (hv : v < 2 ^ k) : Goes x a k v (HM.putN x a k v) := by
  have hf : fieldB a k = true := fieldB_yes (by omega) (by omega) (by omega)
  have hok : ∀ q : Nat, q < 2 ^ k → putOk a k q = true := fun q hq => by unfold putOk; rw [hf, Int.toNat_natCast]; simp [hq]
  have hput : ∀ y q : Nat, q < 2 ^ k → putI y a k q = HM.putN y a k q := fun y q hq => by unfold putI; rw [hok q hq, if_pos rfl, Int.toNat_natCast, Int.toNat_natCast]
  have hget : ∀ y : Nat, getI y a k = HM.getN y a k := fun y => by unfold getI; rw [hf, if_pos rfl, Int.toNat_natCast, Int.toNat_natCast]
  refine ⟨hok v hv, hput x v hv, (hget _).trans (HM.get_put x a k v h2 hv), ⟨HM.getN x a k, hget x, Nat.lt_of_le_of_lt (HM.getN_le x a k) hx, hok _ (HM.getN_lt x a k), ?_⟩, HM.putN_lt x a k v h2 hv⟩
  rw [hput _ _ (HM.getN_lt x a k)]
  exact HM.put_back x a k v hx h2 hv

set_option maxHeartbeats 1000000 in
theorem HalfBack_b0 (x v u p q : Nat) (a k : Nat) (b m : Int) (hx : x < 2 ^ 64) (hv : v < 2 ^ 64) (hp : p < 2 ^ 64) (hq : q < 2 ^ 64) (h1 : 1 ≤ k) (h2 : a + k ≤ 64)
    (hb : -9223372036854775808 ≤ b) (hb' : b ≤ 9223372036854775807) (hm : -9223372036854775808 ≤ m) (hm' : m ≤ 9223372036854775807) (hc : b < 0)
    (HO : Hid (putOk a k v = true)) (HP : Hid (putI x a k v = p)) (HG : Hid (getI p a k = v)) (HQ : Hid (getI x a k = q)) (HO2 : Hid (putOk a k q = true)) (HP2 : Hid (putI p a k q = x)) (w : World) :
    Calls Try.prog 5 #[.int .u64 (x : Int), .agg #[.int .i64 a, .int .i64 k, .int .u64 (v : Int)], .agg #[.int .i64 b, .int .i64 m, .int .u64 (u : Int)]] w (Keeps w) := by
  go_enter Try.func5, Try.ntmps5
  go_wp2_with fail
  refine (Put_c x v a k hx hv (by omega) (by omega) (by omega) (by omega) _).mono ?_
  rintro e w1 ⟨rfl, n1, rfl⟩
  rw [HP.out, HO.out]
  go_wp2_with fail
  go_region_held3 (fun w' => w'.cell? ⟨w.heap.size, 0, none⟩ = some (.int .i64 (a : Int)) ∧ w'.cell? ⟨w.heap.size, 1, none⟩ = some (.int .i64 (k : Int)) ∧ w'.cell? ⟨w.heap.size, 2, none⟩ = some (.int .u64 (v : Int))) (go_keep)
    (first
      | (go_at_call 16; refine (Get_c p a k hp (by omega) (by omega) (by omega) (by omega) _).mono ?_; rintro e w' ⟨rfl, n2, rfl⟩; rw [HG.out]))
  go_wp2_with fail
  go_region_held3 (fun w' => w'.cell? ⟨w.heap.size, 0, none⟩ = some (.int .i64 (a : Int)) ∧ w'.cell? ⟨w.heap.size, 1, none⟩ = some (.int .i64 (k : Int)) ∧ w'.cell? ⟨w.heap.size, 2, none⟩ = some (.int .u64 (v : Int))) (go_keep)
    (first
      | (go_at_call 16; refine (Get_c x a k hx (by omega) (by omega) (by omega) (by omega) _).mono ?_; rintro e w' ⟨rfl, n3, rfl⟩; rw [HQ.out])
      | (go_at_call 14; refine (Put_c p q a k hp hq (by omega) (by omega) (by omega) (by omega) _).mono ?_; rintro e w' ⟨rfl, n4, rfl⟩; rw [HP2.out, HO2.out]))
  go_wp2_with fail
  refine (live_c _).mono ?_
  rintro e w5 ⟨rfl, hb5⟩
  go_wp2
  go_ret
  exact ⟨rfl, below_new2 hb5⟩

set_option maxHeartbeats 1000000 in
theorem HalfBack_b1 (x v u p q : Nat) (a k : Nat) (b m : Int) (hx : x < 2 ^ 64) (hv : v < 2 ^ 64) (hp : p < 2 ^ 64) (hq : q < 2 ^ 64) (h1 : 1 ≤ k) (h2 : a + k ≤ 64)
    (hb : -9223372036854775808 ≤ b) (hb' : b ≤ 9223372036854775807) (hm : -9223372036854775808 ≤ m) (hm' : m ≤ 9223372036854775807) (hc0 : 0 ≤ b) (hc : 63 < b)
    (HO : Hid (putOk a k v = true)) (HP : Hid (putI x a k v = p)) (HG : Hid (getI p a k = v)) (HQ : Hid (getI x a k = q)) (HO2 : Hid (putOk a k q = true)) (HP2 : Hid (putI p a k q = x)) (w : World) :
    Calls Try.prog 5 #[.int .u64 (x : Int), .agg #[.int .i64 a, .int .i64 k, .int .u64 (v : Int)], .agg #[.int .i64 b, .int .i64 m, .int .u64 (u : Int)]] w (Keeps w) := by
  go_enter Try.func5, Try.ntmps5
  go_wp2_with fail
  refine (Put_c x v a k hx hv (by omega) (by omega) (by omega) (by omega) _).mono ?_
  rintro e w1 ⟨rfl, n1, rfl⟩
  rw [HP.out, HO.out]
  go_wp2_with fail
  go_region_held3 (fun w' => w'.cell? ⟨w.heap.size, 0, none⟩ = some (.int .i64 (a : Int)) ∧ w'.cell? ⟨w.heap.size, 1, none⟩ = some (.int .i64 (k : Int)) ∧ w'.cell? ⟨w.heap.size, 2, none⟩ = some (.int .u64 (v : Int))) (go_keep)
    (first
      | (go_at_call 16; refine (Get_c p a k hp (by omega) (by omega) (by omega) (by omega) _).mono ?_; rintro e w' ⟨rfl, n2, rfl⟩; rw [HG.out]))
  go_wp2_with fail
  go_region_held3 (fun w' => w'.cell? ⟨w.heap.size, 0, none⟩ = some (.int .i64 (a : Int)) ∧ w'.cell? ⟨w.heap.size, 1, none⟩ = some (.int .i64 (k : Int)) ∧ w'.cell? ⟨w.heap.size, 2, none⟩ = some (.int .u64 (v : Int))) (go_keep)
    (first
      | (go_at_call 16; refine (Get_c x a k hx (by omega) (by omega) (by omega) (by omega) _).mono ?_; rintro e w' ⟨rfl, n3, rfl⟩; rw [HQ.out])
      | (go_at_call 14; refine (Put_c p q a k hp hq (by omega) (by omega) (by omega) (by omega) _).mono ?_; rintro e w' ⟨rfl, n4, rfl⟩; rw [HP2.out, HO2.out]))
  go_wp2_with fail
  refine (live_c _).mono ?_
  rintro e w5 ⟨rfl, hb5⟩
  go_wp2
  go_ret
  exact ⟨rfl, below_new2 hb5⟩

set_option maxHeartbeats 1000000 in
theorem HalfBack_m0 (x v u p q : Nat) (a k : Nat) (b m : Int) (hx : x < 2 ^ 64) (hv : v < 2 ^ 64) (hp : p < 2 ^ 64) (hq : q < 2 ^ 64) (h1 : 1 ≤ k) (h2 : a + k ≤ 64)
    (hb : -9223372036854775808 ≤ b) (hb' : b ≤ 9223372036854775807) (hm : -9223372036854775808 ≤ m) (hm' : m ≤ 9223372036854775807) (hc0 : 0 ≤ b) (hc1 : b ≤ 63) (hc : m < 1)
    (HO : Hid (putOk a k v = true)) (HP : Hid (putI x a k v = p)) (HG : Hid (getI p a k = v)) (HQ : Hid (getI x a k = q)) (HO2 : Hid (putOk a k q = true)) (HP2 : Hid (putI p a k q = x)) (w : World) :
    Calls Try.prog 5 #[.int .u64 (x : Int), .agg #[.int .i64 a, .int .i64 k, .int .u64 (v : Int)], .agg #[.int .i64 b, .int .i64 m, .int .u64 (u : Int)]] w (Keeps w) := by
  go_enter Try.func5, Try.ntmps5
  go_wp2_with fail
  refine (Put_c x v a k hx hv (by omega) (by omega) (by omega) (by omega) _).mono ?_
  rintro e w1 ⟨rfl, n1, rfl⟩
  rw [HP.out, HO.out]
  go_wp2_with fail
  go_region_held3 (fun w' => w'.cell? ⟨w.heap.size, 0, none⟩ = some (.int .i64 (a : Int)) ∧ w'.cell? ⟨w.heap.size, 1, none⟩ = some (.int .i64 (k : Int)) ∧ w'.cell? ⟨w.heap.size, 2, none⟩ = some (.int .u64 (v : Int))) (go_keep)
    (first
      | (go_at_call 16; refine (Get_c p a k hp (by omega) (by omega) (by omega) (by omega) _).mono ?_; rintro e w' ⟨rfl, n2, rfl⟩; rw [HG.out]))
  go_wp2_with fail
  go_region_held3 (fun w' => w'.cell? ⟨w.heap.size, 0, none⟩ = some (.int .i64 (a : Int)) ∧ w'.cell? ⟨w.heap.size, 1, none⟩ = some (.int .i64 (k : Int)) ∧ w'.cell? ⟨w.heap.size, 2, none⟩ = some (.int .u64 (v : Int))) (go_keep)
    (first
      | (go_at_call 16; refine (Get_c x a k hx (by omega) (by omega) (by omega) (by omega) _).mono ?_; rintro e w' ⟨rfl, n3, rfl⟩; rw [HQ.out])
      | (go_at_call 14; refine (Put_c p q a k hp hq (by omega) (by omega) (by omega) (by omega) _).mono ?_; rintro e w' ⟨rfl, n4, rfl⟩; rw [HP2.out, HO2.out]))
  go_wp2_with fail
  refine (live_c _).mono ?_
  rintro e w5 ⟨rfl, hb5⟩
  go_wp2
  go_ret
  exact ⟨rfl, below_new2 hb5⟩

set_option maxHeartbeats 1000000 in
theorem HalfBack_m1 (x v u p q : Nat) (a k : Nat) (b m : Int) (hx : x < 2 ^ 64) (hv : v < 2 ^ 64) (hp : p < 2 ^ 64) (hq : q < 2 ^ 64) (h1 : 1 ≤ k) (h2 : a + k ≤ 64)
    (hb : -9223372036854775808 ≤ b) (hb' : b ≤ 9223372036854775807) (hm : -9223372036854775808 ≤ m) (hm' : m ≤ 9223372036854775807) (hc0 : 0 ≤ b) (hc1 : b ≤ 63) (hc2 : 1 ≤ m) (hc : 64 - b < m)
    (HO : Hid (putOk a k v = true)) (HP : Hid (putI x a k v = p)) (HG : Hid (getI p a k = v)) (HQ : Hid (getI x a k = q)) (HO2 : Hid (putOk a k q = true)) (HP2 : Hid (putI p a k q = x)) (w : World) :
    Calls Try.prog 5 #[.int .u64 (x : Int), .agg #[.int .i64 a, .int .i64 k, .int .u64 (v : Int)], .agg #[.int .i64 b, .int .i64 m, .int .u64 (u : Int)]] w (Keeps w) := by
  go_enter Try.func5, Try.ntmps5
  go_wp2_with fail
  refine (Put_c x v a k hx hv (by omega) (by omega) (by omega) (by omega) _).mono ?_
  rintro e w1 ⟨rfl, n1, rfl⟩
  rw [HP.out, HO.out]
  go_wp2_with fail
  go_region_held3 (fun w' => w'.cell? ⟨w.heap.size, 0, none⟩ = some (.int .i64 (a : Int)) ∧ w'.cell? ⟨w.heap.size, 1, none⟩ = some (.int .i64 (k : Int)) ∧ w'.cell? ⟨w.heap.size, 2, none⟩ = some (.int .u64 (v : Int))) (go_keep)
    (first
      | (go_at_call 16; refine (Get_c p a k hp (by omega) (by omega) (by omega) (by omega) _).mono ?_; rintro e w' ⟨rfl, n2, rfl⟩; rw [HG.out]))
  go_wp2_with fail
  go_region_held3 (fun w' => w'.cell? ⟨w.heap.size, 0, none⟩ = some (.int .i64 (a : Int)) ∧ w'.cell? ⟨w.heap.size, 1, none⟩ = some (.int .i64 (k : Int)) ∧ w'.cell? ⟨w.heap.size, 2, none⟩ = some (.int .u64 (v : Int))) (go_keep)
    (first
      | (go_at_call 16; refine (Get_c x a k hx (by omega) (by omega) (by omega) (by omega) _).mono ?_; rintro e w' ⟨rfl, n3, rfl⟩; rw [HQ.out])
      | (go_at_call 14; refine (Put_c p q a k hp hq (by omega) (by omega) (by omega) (by omega) _).mono ?_; rintro e w' ⟨rfl, n4, rfl⟩; rw [HP2.out, HO2.out]))
  go_wp2_with fail
  refine (live_c _).mono ?_
  rintro e w5 ⟨rfl, hb5⟩
  go_wp2
  go_ret
  exact ⟨rfl, below_new2 hb5⟩

set_option maxHeartbeats 1000000 in
theorem HalfBack_meet (x v u p q : Nat) (a k : Nat) (b m : Int) (hx : x < 2 ^ 64) (hv : v < 2 ^ 64) (hp : p < 2 ^ 64) (hq : q < 2 ^ 64) (h1 : 1 ≤ k) (h2 : a + k ≤ 64)
    (hb : -9223372036854775808 ≤ b) (hb' : b ≤ 9223372036854775807) (hm : -9223372036854775808 ≤ m) (hm' : m ≤ 9223372036854775807) (hc0 : 0 ≤ b) (hc1 : b ≤ 63) (hc2 : 1 ≤ m) (hc3 : m ≤ 64 - b) (hc : b < a + k) (hd : a < b + m)
    (HO : Hid (putOk a k v = true)) (HP : Hid (putI x a k v = p)) (HG : Hid (getI p a k = v)) (HQ : Hid (getI x a k = q)) (HO2 : Hid (putOk a k q = true)) (HP2 : Hid (putI p a k q = x)) (w : World) :
    Calls Try.prog 5 #[.int .u64 (x : Int), .agg #[.int .i64 a, .int .i64 k, .int .u64 (v : Int)], .agg #[.int .i64 b, .int .i64 m, .int .u64 (u : Int)]] w (Keeps w) := by
  go_enter Try.func5, Try.ntmps5
  go_wp2_with fail
  refine (Put_c x v a k hx hv (by omega) (by omega) (by omega) (by omega) _).mono ?_
  rintro e w1 ⟨rfl, n1, rfl⟩
  rw [HP.out, HO.out]
  go_wp2_with fail
  go_region_held3 (fun w' => w'.cell? ⟨w.heap.size, 0, none⟩ = some (.int .i64 (a : Int)) ∧ w'.cell? ⟨w.heap.size, 1, none⟩ = some (.int .i64 (k : Int)) ∧ w'.cell? ⟨w.heap.size, 2, none⟩ = some (.int .u64 (v : Int))) (go_keep)
    (first
      | (go_at_call 16; refine (Get_c p a k hp (by omega) (by omega) (by omega) (by omega) _).mono ?_; rintro e w' ⟨rfl, n2, rfl⟩; rw [HG.out]))
  go_wp2_with fail
  go_region_held3 (fun w' => w'.cell? ⟨w.heap.size, 0, none⟩ = some (.int .i64 (a : Int)) ∧ w'.cell? ⟨w.heap.size, 1, none⟩ = some (.int .i64 (k : Int)) ∧ w'.cell? ⟨w.heap.size, 2, none⟩ = some (.int .u64 (v : Int))) (go_keep)
    (first
      | (go_at_call 16; refine (Get_c x a k hx (by omega) (by omega) (by omega) (by omega) _).mono ?_; rintro e w' ⟨rfl, n3, rfl⟩; rw [HQ.out])
      | (go_at_call 14; refine (Put_c p q a k hp hq (by omega) (by omega) (by omega) (by omega) _).mono ?_; rintro e w' ⟨rfl, n4, rfl⟩; rw [HP2.out, HO2.out]))
  go_wp2_with fail
  refine (live_c _).mono ?_
  rintro e w5 ⟨rfl, hb5⟩
  go_wp2
  go_ret
  exact ⟨rfl, below_new2 hb5⟩

end Go.Proofs.Ytjiedkfmbgfolaa
