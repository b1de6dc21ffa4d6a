/-
  Stage 4's laws: their example.
-/
import Derived.Test.YtfkcpkjeoamlmaaConfRef
namespace Go.Proofs.Ytfkcpkjeoamlmaa
open Go.ChangeShapes Go.WideShapes Go.ChangeAt Go.RowKit
set_option linter.unusedVariables false
set_option linter.unusedSimpArgs false

theorem right_ex : rightB 2 64 10 = true := by decide +kernel
theorem word_ex : wordN 2 64 10 = 42953867266 := by decide +kernel
theorem bytes_ex : bytesN 2 64 10 = 65536 := by decide +kernel
theorem live_c (w : World) : Calls Try.prog 13 #[] w (Keeps w) := by
  have HR := hidp right_ex
  have HW := hidp word_ex
  have HB := hidp bytes_ex
  go_enter Try.func13, Try.ntmps13
  go_wp2_with fail
  have hc := Held.new w 23 #[.int .i64 2, .int .i64 64, .int .i64 10]
  refine (cfWord_c 2 64 10 _).mono ?_
  rintro e w1 ⟨rfl, hb⟩
  rw [HR.out, HW.out]
  have hc1 := (hc.keep hb).three
  go_wp2_with fail
  refine (cfBytes_c 2 64 10 _).mono ?_
  rintro e w2 ⟨rfl, hb2⟩
  rw [HB.out]
  go_wp2
  go_ret
  exact ⟨rfl, Bgo (Bgo (Bnew (B0 _) _) hb) hb2⟩
theorem num_c (a : Int) (w : World) : Calls Try.prog 6 #[.int .i64 a] w fun e w' => e = .returned (.int .i64 a) ∧ w = w' := by
  go_enter Try.func6, Try.ntmps6
  go_wp2
  go_ret
  exact ⟨rfl, rfl⟩

end Go.Proofs.Ytfkcpkjeoamlmaa
