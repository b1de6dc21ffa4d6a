/-
  AddrBack and AddrApart, from their arguments.
-/
import Derived.Test.YtnbocmnfcgjimaaDoorAddrApart2
namespace Go.Proofs.YtnbocmnfcgjimaaDoor
open Go.ChangeShapes Go.WideShapes Go.ChangeAt Go.RowKit
set_option linter.unusedVariables false

theorem AddrBack_walk {H : Type} {enc : TypeId × Value → H} {W : World} {base : Nat} {args : Array Value} {ds : List (DataW H)} {ps : List MemPlace} (hL : laidMetH Tryd.prog Rows.addrBackRow.laid W)
    (g : Given enc Tryd.prog Tryd.f5 W base args ds ps) : Calls Tryd.prog 5 args W (Keeps W) := by
  have hval := g.ok
  have hA := g.trod
  rw [Tryd.params5] at hA hval
  obtain ⟨v0, vs0, d0, ds0, p0, q0, hargs, rfl, rfl, h0, r0⟩ := trodAll_cons hA
  obtain ⟨v1, vs1, d1, ds1, p1, q1, rfl, rfl, rfl, h1, r1⟩ := trodAll_cons r0
  obtain ⟨v2, vs2, d2, ds2, p2, q2, rfl, rfl, rfl, h2, r2⟩ := trodAll_cons r1
  obtain ⟨rfl, rfl, rfl⟩ := trodAll_nil r2
  obtain rfl : args = #[v0, v1, v2] := by cases args; simp_all
  obtain ⟨t, p, s, rfl⟩ := open_conf (hval 0 23 v0 rfl rfl) h0
  obtain ⟨i, rfl, rfl, rfl, w1⟩ := open_int Tryd.underlying3 (hval 1 3 v1 rfl rfl) h1
  have b1 := i64_bounds w1
  obtain ⟨n, rfl, rfl, rfl, w2⟩ := open_int Tryd.underlying2 (hval 2 2 v2 rfl rfl) h2
  have b2 := i64_bounds w2
  have hT := slots_laid hL (by kernel_rfl)
  exact AddrBack_calls t p s i n b1.1 b1.2 b2.1 b2.2 W hT

theorem AddrApart_walk {H : Type} {enc : TypeId × Value → H} {W : World} {base : Nat} {args : Array Value} {ds : List (DataW H)} {ps : List MemPlace} (hL : laidMetH Tryd.prog Rows.addrApartRow.laid W)
    (g : Given enc Tryd.prog Tryd.f6 W base args ds ps) : Calls Tryd.prog 6 args W (Keeps W) := by
  have hval := g.ok
  have hA := g.trod
  rw [Tryd.params6] at hA hval
  obtain ⟨v0, vs0, d0, ds0, p0, q0, hargs, rfl, rfl, h0, r0⟩ := trodAll_cons hA
  obtain ⟨v1, vs1, d1, ds1, p1, q1, rfl, rfl, rfl, h1, r1⟩ := trodAll_cons r0
  obtain ⟨v2, vs2, d2, ds2, p2, q2, rfl, rfl, rfl, h2, r2⟩ := trodAll_cons r1
  obtain ⟨rfl, rfl, rfl⟩ := trodAll_nil r2
  obtain rfl : args = #[v0, v1, v2] := by cases args; simp_all
  obtain ⟨t, p, s, rfl⟩ := open_conf (hval 0 23 v0 rfl rfl) h0
  obtain ⟨xk, xi, xj, rfl, x1, x2, x3, x4, x5, x6⟩ := open_slot (hval 1 31 v1 rfl rfl) h1
  obtain ⟨yk, yi, yj, rfl, y1, y2, y3, y4, y5, y6⟩ := open_slot (hval 2 31 v2 rfl rfl) h2
  have hT := slots_laid hL (by kernel_rfl)
  exact AddrApart_calls t p s xk xi xj yk yi yj x1 x2 x3 x4 x5 x6 y1 y2 y3 y4 y5 y6 W hT

end Go.Proofs.YtnbocmnfcgjimaaDoor
