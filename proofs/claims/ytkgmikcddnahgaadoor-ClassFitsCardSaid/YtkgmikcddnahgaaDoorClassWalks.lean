/-
  ClassTables and ClassOf, from their arguments.
-/
import Derived.Test.YtkgmikcddnahgaaDoorClassLaws
namespace Go.Proofs.YtkgmikcddnahgaaDoor
open Go.ChangeShapes Go.WideShapes Go.ChangeAt Go.RowKit
set_option linter.unusedVariables false

theorem slots_laid {W : World} {laid : List (String × DataW Unit)} (h : laidMetH Tryd.prog laid W)
    (hf : (laid.filter fun x => x.1 == "nacre/class.slots") = [("nacre/class.slots", Lib.tabData .i64 [32, 21, 16, 10, 8, 5, 4, 3, 2])]) : SlotsLaid W := by
  have h1 := tab_of_laid h hf (g := 0) (t := 33) (e := 3) (n := 9) (by kernel_rfl) (by kernel_rfl) Tryd.underlying33 Tryd.underlying3 (by kernel_rfl) (by kernel_rfl)
  intro k hk
  rw [h1 k (by simpa using hk)]
  have : ∀ j, j < 9 → ([32, 21, 16, 10, 8, 5, 4, 3, 2] : List Int).getD j 0 = ((slotN j : Nat) : Int) := by decide
  rw [this k hk]

theorem ClassTables_walk {H : Type} {enc : TypeId × Value → H} {W : World} {base : Nat} {args : Array Value} {ds : List (DataW H)} {ps : List MemPlace} (hL : laidMetH Tryd.prog Rows.classTablesRow.laid W)
    (g : Given enc Tryd.prog Tryd.f3 W base args ds ps) : Calls Tryd.prog 3 args W (Keeps W) := by
  have hval := g.ok
  have hA := g.trod
  rw [Tryd.params3] at hA hval
  obtain ⟨v0, vs0, d0, ds0, p0, q0, hargs, rfl, rfl, h0, r0⟩ := trodAll_cons hA
  obtain ⟨v1, vs1, d1, ds1, p1, q1, rfl, rfl, rfl, h1, r1⟩ := trodAll_cons r0
  obtain ⟨rfl, rfl, rfl⟩ := trodAll_nil r1
  obtain rfl : args = #[v0, v1] := by cases args; simp_all
  obtain ⟨s, rfl, rfl, rfl, w0⟩ := open_int Tryd.underlying3 (hval 0 3 v0 rfl rfl) h0
  obtain ⟨z, rfl, rfl, rfl, w1⟩ := open_int Tryd.underlying3 (hval 1 3 v1 rfl rfl) h1
  have b0 := i64_bounds w0
  have b1 := i64_bounds w1
  have hT := slots_laid hL (by kernel_rfl)
  exact ClassTables_calls s z b1.1 b1.2 W hT

theorem ClassOf_walk {H : Type} {enc : TypeId × Value → H} {W : World} {base : Nat} {args : Array Value} {ds : List (DataW H)} {ps : List MemPlace} (hL : laidMetH Tryd.prog Rows.classOfRow.laid W)
    (g : Given enc Tryd.prog Tryd.f4 W base args ds ps) : Calls Tryd.prog 4 args W (Keeps W) := by
  have hval := g.ok
  have hA := g.trod
  rw [Tryd.params4] at hA hval
  obtain ⟨v0, vs0, d0, ds0, p0, q0, hargs, rfl, rfl, h0, r0⟩ := trodAll_cons hA
  obtain ⟨v1, vs1, d1, ds1, p1, q1, rfl, rfl, rfl, h1, r1⟩ := trodAll_cons r0
  obtain ⟨rfl, rfl, rfl⟩ := trodAll_nil r1
  obtain rfl : args = #[v0, v1] := by cases args; simp_all
  obtain ⟨s, rfl, rfl, rfl, w0⟩ := open_int Tryd.underlying3 (hval 0 3 v0 rfl rfl) h0
  obtain ⟨z, rfl, rfl, rfl, w1⟩ := open_int Tryd.underlying2 (hval 1 2 v1 rfl rfl) h1
  have b0 := i64_bounds w0
  have b1 := i64_bounds w1
  have hT := slots_laid hL (by kernel_rfl)
  exact ClassOf_calls s z W hT

end Go.Proofs.YtkgmikcddnahgaaDoor
