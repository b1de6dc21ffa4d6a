/-
  The page's example (nacrelaw22.live). Written by op/gen_laws.py.
-/
import Derived.Test.YtgfaefhkoaccbaaOp
import Derived.Test.YtgfaefhkoaccbaaOpEq
namespace Go.Proofs.Ytgfaefhkoaccbaa
open Go.ChangeShapes Go.WideShapes Go.ChangeAt Go.RowKit Go.Maps
set_option linter.unusedVariables false
set_option linter.unusedSimpArgs false
set_option maxRecDepth 100000

theorem live22_c (w : World) : Calls Try.prog 12 #[] w fun e w' => e = .returned (.bool true) ∧ Below w.heap.size w w' := by
  have he := fun W => eq3_same 2 18446744073709551615 0 W
  have w0 : Hid (wdI 2 = 2 ∧ wdI (-1) = 18446744073709551615 ∧ wdI 0 = 0) := hidp (by decide)
  have r0 : Hid (opB 2 (-1) 0 = true) := hidp (by decide)
  have r1 : Hid (opB 8 1 0 = false) := hidp (by decide)
  go_enter Try.func12, Try.ntmps12
  go_wp2_with fail
  refine (opWords_c 2 (-1) 0 (by omega) (by omega) (by omega) _).mono ?_
  rintro e w1 ⟨rfl, hb⟩
  rw [w0.out.1, w0.out.2.1, w0.out.2.2]
  have HX := hidp (Held.new w1 25 #[.int .u64 2, .int .u64 18446744073709551615, .int .u64 0])
  have HB := hidp (Bnew hb (.cells #[.int .u64 2, .int .u64 18446744073709551615, .int .u64 0] 25))
  clear hb
  go_wp2_with fail
  refine (opRight_c 2 (-1) 0 (by omega) (by omega) (by omega) _).mono ?_
  rintro e w2 ⟨rfl, hb⟩
  rw [r0.out]
  replace HX := hidp (HX.out.keep hb)
  replace HB := hidp (Bgo HB.out hb)
  clear hb
  obtain ⟨x0, x1, x2⟩ := HX.out.three
  go_wp2_with fail
  refine (opRight_c 8 1 0 (by omega) (by omega) (by omega) _).mono ?_
  rintro e w3 ⟨rfl, hb⟩
  rw [r1.out]
  replace HB := hidp (Bgo HB.out hb)
  clear hb
  go_wp2
  go_ret
  exact ⟨rfl, HB.out⟩
end Go.Proofs.Ytgfaefhkoaccbaa
