/-
  The walk of HalfFields: every word, every field.
-/
import Derived.Test.YtjiedkfmbgfolaaHalfBits
import Derived.Deep.RegionHeld3
import Derived.Lib.SmallJoins
namespace Go.Proofs.Ytjiedkfmbgfolaa
open Go.ChangeShapes Go.WideShapes Go.ChangeAt Go.RowKit
set_option linter.unusedVariables false

theorem below_new {w w' : World} {o : Obj} {n : Nat} (h : Below ((w.alloc o).drewN n).heap.size ((w.alloc o).drewN n) w') : Below w.heap.size w w' := by
  have h1 : Below w.heap.size w (w.alloc o) := (Below.refl _ _).alloc (Nat.le_refl _) o
  exact h1.trans ((below_draws_left h).mono h1.size)

/-- a struct of a field and a number for it, opened -/
theorem open_field {H : Type} {enc : TypeId × Value → H} {W : World} {b base : Nat} {sp : Nat → Bool} {held : Bool} {v : Value} {d : DataW H} {p : List MemPlace}
    (hv : Value.okWide Try.prog W .any b 29 v) (h : DataW.Trod enc Try.prog W base sp held 29 v d p) :
    ∃ (a k : Int) (n : Nat), v = .agg #[.int .i64 a, .int .i64 k, .int .u64 (n : Int)] ∧ n < 2 ^ 64 ∧ -9223372036854775808 ≤ a ∧ a ≤ 9223372036854775807 ∧ -9223372036854775808 ≤ k ∧ k ≤ 9223372036854775807 := by
  obtain ⟨v0, v1, v2, y0, y1, y2, m, rfl, rfl, rfl, h0, h1, h2⟩ := Joins.open_agg3 Try.underlying29 (by kernel_rfl) (by kernel_rfl) hv h
  obtain ⟨a, e0, _, w0⟩ := DataW.trod_int Try.underlying3 h0
  obtain ⟨k, e1, _, w1⟩ := DataW.trod_int Try.underlying3 h1
  obtain ⟨c, e2, _, w2⟩ := DataW.trod_int Try.underlying22 h2
  simp at e0 e1 e2
  subst e0 e1 e2
  obtain ⟨n, rfl, hn⟩ := u64_nat w2
  exact ⟨a, k, n, rfl, hn, (i64_bounds w0).1, (i64_bounds w0).2, (i64_bounds w1).1, (i64_bounds w1).2⟩

theorem HalfFields_calls (x v : Nat) (a k : Int) (hx : x < 2 ^ 64) (hv : v < 2 ^ 64) (ha : -9223372036854775808 ≤ a) (ha' : a ≤ 9223372036854775807) (hk : -9223372036854775808 ≤ k) (hk' : k ≤ 9223372036854775807) (w : World) :
    Calls Try.prog 4 #[.int .u64 (x : Int), .agg #[.int .i64 a, .int .i64 k, .int .u64 (v : Int)]] w (Keeps w) := by
  go_enter Try.func4, Try.ntmps4
  go_wp2_with fail
  refine (Put_c x v a k hx hv ha ha' hk hk' _).mono ?_
  rintro e w1 ⟨rfl, n1, rfl⟩
  generalize hg : putI x a k v = p at *
  have HP := hidp hg
  generalize hg2 : putOk a k v = ok at *
  have HO := hidp hg2
  clear hg hg2
  go_wp2_with fail
  refine (RPut_c x v a k hx hv ha ha' hk hk' _).mono ?_
  rintro e w1 ⟨rfl, rfl⟩
  rw [HP.out, HO.out]
  have hgr : ∀ (W : World), Calls Try.prog 16 #[.int .u64 (x : Int), .int .i64 a, .int .i64 k] W fun e w' => e = .returned (.int .u64 ((getI x a k : Nat) : Int)) ∧ ∃ n, w' = W.drewN n := fun W => Get_c x a k hx ha ha' hk hk' W
  have hrg : ∀ (W : World), Calls Try.prog 17 #[.int .u64 (x : Int), .int .i64 a, .int .i64 k] W fun e w' => e = .returned (.int .u64 ((getI x a k : Nat) : Int)) ∧ W = w' := fun W => RGet_c x a k hx ha ha' hk hk' W
  have HG := hidp hgr
  have HR := hidp hrg
  clear hgr hrg
  generalize getI x a k = gv at *
  go_wp2_with fail
  go_region_held3 (fun w' => w'.cell? ⟨w.heap.size, 0, none⟩ = some (.int .i64 a) ∧ w'.cell? ⟨w.heap.size, 1, none⟩ = some (.int .i64 k)) (first | go_keep | exact ⟨hst _ _ (by assumption), hst _ _ (by assumption)⟩ | exact ⟨hst _ _ hS.1, hst _ _ hS.2⟩ | (trace_state; fail))
    (first
      | (go_at_call 16; refine (HG.out _).mono ?_; rintro e w' ⟨rfl, n2, rfl⟩)
      | (go_at_call 17; refine (HR.out _).mono ?_; rintro e w' ⟨rfl, rfl⟩)
      | (go_at_call 13; refine (live_c _).mono ?_; rintro e w' ⟨rfl, hbl⟩; have hst := cells_stay hbl))
  go_wp2
  go_ret
  exact ⟨rfl, below_new hbl⟩

theorem HalfFields_walk {H : Type} {enc : TypeId × Value → H} {W : World} {base : Nat} {args : Array Value} {ds : List (DataW H)} {ps : List MemPlace}
    (g : Given enc Try.prog Try.f4 W base args ds ps) : Calls Try.prog 4 args W (Keeps W) := by
  have hval := g.ok
  have hA := g.trod
  rw [Try.params4] at hA hval
  obtain ⟨v0, vs0, d0, ds0, p0, q0, hargs, rfl, rfl, h0, r0⟩ := trodAll_cons hA
  obtain ⟨v1, vs1, d1, ds1, p1, q1, rfl, rfl, rfl, h1, r1⟩ := trodAll_cons r0
  obtain ⟨rfl, rfl, rfl⟩ := trodAll_nil r1
  obtain rfl : args = #[v0, v1] := by cases args; simp_all
  obtain ⟨a0, rfl, rfl, rfl, w0⟩ := open_int Try.underlying22 (hval 0 22 v0 rfl rfl) h0
  obtain ⟨x, rfl, hx⟩ := u64_nat w0
  obtain ⟨a, k, n, rfl, hn, ha, ha', hk, hk'⟩ := open_field (hval 1 29 v1 rfl rfl) h1
  exact HalfFields_calls x n a k hx hn ha ha' hk hk' W

end Go.Proofs.Ytjiedkfmbgfolaa
