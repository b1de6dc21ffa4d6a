/-
  The law ViewNobody: the walk.
-/
import Derived.Test.YtcfljejeceikbaaViewLive2
namespace Go.Proofs.Ytcfljejeceikbaa
open Go.ChangeShapes Go.WideShapes Go.ChangeAt Go.RowKit Go.Maps
set_option linter.unusedVariables false
set_option linter.unusedSimpArgs false

theorem ViewNobody_calls (a v : Int) (W : World) : Calls Try.prog 5 #[.int .i64 a, .int .u32 v] W (Keeps W) := by
  have HN : Hid (NoView (W.alloc (.cells #[.int .i64 0, .nilIface, .slice none 0 0, .map none, .slice none 0 0, .map none, .bool false, .int .i64 0] 55)) W.heap.size) := hidp (Held.new _ _ _)
  have HB : Hid (Below W.heap.size W (W.alloc (.cells #[.int .i64 0, .nilIface, .slice none 0 0, .map none, .slice none 0 0, .map none, .bool false, .int .i64 0] 55))) := hidp (Bnew (B0 _) _)
  go_enter Try.func5, Try.ntmps5
  go_wp2_with fail
  refine (vPut_nil a v _).mono ?_
  rintro e w1 ⟨rfl, hw1⟩
  rw [← hw1] at HN HB
  clear hw1
  go_wp2_with fail
  refine (vPut_zero _ a v _ HN.out).mono ?_
  rintro e w2 ⟨rfl, rfl⟩
  go_wp2_with fail
  refine (vGet_nil a _).mono ?_
  rintro e w3 ⟨rfl, rfl⟩
  go_wp2_with fail
  refine (vGet_zero _ a _ HN.out).mono ?_
  rintro e w4 ⟨rfl, rfl⟩
  go_wp2_with fail
  refine (vReads_nil _).mono ?_
  rintro e w5 ⟨rfl, rfl⟩
  go_wp2_with fail
  refine (vWrites_zero _ _ HN.out).mono ?_
  rintro e w6 ⟨rfl, hb6⟩
  have HN6 : Hid (NoView w6 W.heap.size) := hidp (Held.keep HN.out hb6)
  have HB6 := hidp (Bgo HB.out hb6)
  clear hb6
  go_wp2_with fail
  refine (vMissing_nil _).mono ?_
  rintro e w7 ⟨rfl, rfl⟩
  go_wp2_with fail
  refine (vMissing_zero _ _ HN6.out).mono ?_
  rintro e w8 ⟨rfl, rfl⟩
  go_wp2_with fail
  refine (vVals_none _ _ HN6.out).mono ?_
  rintro e w9 ⟨rfl, rfl⟩
  go_wp2_with fail
  refine (live_c _).mono ?_
  rintro e w10 ⟨rfl, hb10⟩
  go_wp2
  go_ret
  exact ⟨rfl, Bgo HB6.out hb10⟩
end Go.Proofs.Ytcfljejeceikbaa
