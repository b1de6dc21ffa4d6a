/-
  The walk of HalfJoins: every word, every two halves.
-/
import Derived.Test.YtjiedkfmbgfolaaHalfBits
namespace Go.Proofs.Ytjiedkfmbgfolaa
open Go.ChangeShapes Go.WideShapes Go.ChangeAt Go.RowKit
set_option linter.unusedVariables false

theorem HalfJoins_calls (x h l j : Nat) (EJ : Hid (h * 4294967296 + l = j)) (hx : x < 2 ^ 64) (hh : h < 2 ^ 32) (hl : l < 2 ^ 32) (w : World) :
    Calls Try.prog 3 #[.int .u64 (x : Int), .int .u32 (h : Int), .int .u32 (l : Int)] w (Keeps w) := by
  have hj : j < 2 ^ 64 := by have := EJ.out; omega
  have E1 := hidp (show j / 4294967296 = h from by have := EJ.out; omega)
  have E2 := hidp (show j % 4294967296 = l from by have := EJ.out; omega)
  have E3 := hidp (show x / 4294967296 * 4294967296 + x % 4294967296 = x from by omega)
  go_enter Try.func3, Try.ntmps3
  go_wp2_with fail
  refine (Join_c h l hh hl _).mono ?_
  rintro e w1 ⟨rfl, rfl⟩
  rw [EJ.out]
  go_wp2_with fail
  refine (RJoin_c h l hh hl _).mono ?_
  rintro e w1 ⟨rfl, rfl⟩
  rw [EJ.out]
  go_wp2_with fail
  refine (Hi_c x hx _).mono ?_
  rintro e w1 ⟨rfl, rfl⟩
  go_wp2_with fail
  refine (RHi_c x hx _).mono ?_
  rintro e w1 ⟨rfl, rfl⟩
  go_wp2_with fail
  refine (Lo_c x hx _).mono ?_
  rintro e w1 ⟨rfl, rfl⟩
  go_wp2_with fail
  refine (RLo_c x hx _).mono ?_
  rintro e w1 ⟨rfl, rfl⟩
  go_wp2_with fail
  refine (Hi_c j hj _).mono ?_
  rintro e w1 ⟨rfl, rfl⟩
  rw [E1.out]
  go_wp2_with fail
  refine (Lo_c j hj _).mono ?_
  rintro e w1 ⟨rfl, rfl⟩
  rw [E2.out]
  go_wp2_with fail
  refine (Hi_c x hx _).mono ?_
  rintro e w1 ⟨rfl, rfl⟩
  go_wp2_with fail
  refine (Lo_c x hx _).mono ?_
  rintro e w1 ⟨rfl, rfl⟩
  go_wp2_with fail
  refine (Join_c (x / 4294967296) (x % 4294967296) (by omega) (by omega) _).mono ?_
  rintro e w1 ⟨rfl, rfl⟩
  rw [E3.out]
  go_wp2_with fail
  refine (live_c _).mono ?_
  rintro e w5 ⟨rfl, hb5⟩
  go_wp2
  go_ret
  exact ⟨rfl, hb5⟩

theorem HalfJoins_walk {H : Type} {enc : TypeId × Value → H} {W : World} {base : Nat} {args : Array Value} {ds : List (DataW H)} {ps : List MemPlace}
    (g : Given enc Try.prog Try.f3 W base args ds ps) : Calls Try.prog 3 args W (Keeps W) := by
  have hval := g.ok
  have hA := g.trod
  rw [Try.params3] at hA hval
  obtain ⟨v0, vs0, d0, ds0, p0, q0, hargs, rfl, rfl, h0, r0⟩ := trodAll_cons hA
  obtain ⟨v1, vs1, d1, ds1, p1, q1, rfl, rfl, rfl, h1, r1⟩ := trodAll_cons r0
  obtain ⟨v2, vs2, d2, ds2, p2, q2, rfl, rfl, rfl, h2, r2⟩ := trodAll_cons r1
  obtain ⟨rfl, rfl, rfl⟩ := trodAll_nil r2
  obtain rfl : args = #[v0, v1, v2] := by cases args; simp_all
  obtain ⟨a0, rfl, rfl, rfl, w0⟩ := open_int Try.underlying22 (hval 0 22 v0 rfl rfl) h0
  obtain ⟨n0, rfl, b0⟩ := u64_nat w0
  obtain ⟨a1, rfl, rfl, rfl, w1⟩ := open_int Try.underlying23 (hval 1 23 v1 rfl rfl) h1
  obtain ⟨n1, rfl, b1⟩ := u32_nat w1
  obtain ⟨a2, rfl, rfl, rfl, w2⟩ := open_int Try.underlying23 (hval 2 23 v2 rfl rfl) h2
  obtain ⟨n2, rfl, b2⟩ := u32_nat w2
  exact HalfJoins_calls n0 n1 n2 _ (hidp rfl) b0 b1 b2 W

end Go.Proofs.Ytjiedkfmbgfolaa
