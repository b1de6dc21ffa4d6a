/-
  The walks of MarkWords and MarkNotes: every word, stamp, pair and note.
-/
import Derived.Test.YtkjjbcapbkkamaaMarkOpen
import Derived.Deep.RegionHeld3
import Derived.Lib.SmallJoins
namespace Go.Proofs.Ytkjjbcapbkkamaa
open Go.ChangeShapes Go.WideShapes Go.ChangeAt Go.RowKit
set_option linter.unusedVariables false

theorem live_note (w : World) : Calls Try.prog 21 #[.agg #[.int .u32 2, .bool true, .int .i64 4]] w fun e w' => e = .returned (.tuple #[.int .u64 10737418244, .bool true]) ∧ Below w.heap.size w w' := by
  have h := mkNote_c 2 true 4 (by omega) (by omega) (by omega) w
  rw [show notN 2 true 4 = 10737418244 from by decide, show notB 4 = true from by decide] at h
  exact h
theorem live_join1 (w : World) : Calls Try.prog 15 #[.int .u32 1, .int .u32 17] w fun e w' => e = .returned (.int .u64 4294967313) ∧ w = w' := RJoin_c 1 17 (by omega) (by omega) w
theorem live_join2 (w : World) : Calls Try.prog 15 #[.int .u32 2, .int .u32 2147483652] w fun e w' => e = .returned (.int .u64 10737418244) ∧ w = w' := RJoin_c 2 2147483652 (by omega) (by omega) w
theorem live_tip (w : World) : Calls Try.prog 8 #[.int .u64 4294967313] w fun e w' => e = .returned (.tuple #[.int .u32 0, .int .i64 0, .bool false]) ∧ w = w' := mkOfTip_no 4294967313 (by omega) (by omega) w

theorem live_c (w : World) : Calls Try.prog 20 #[] w (Keeps w) := by
  go_enter Try.func20, Try.ntmps20
  go_wp2_with fail
  refine (live_note _).mono ?_
  rintro e w1 ⟨rfl, hb⟩
  go_wp2_with fail
  refine (live_join1 _).mono ?_
  rintro e w2 ⟨rfl, rfl⟩
  go_wp2_with fail
  refine (live_tip _).mono ?_
  rintro e w2 ⟨rfl, rfl⟩
  go_wp2_with fail
  refine (live_join2 _).mono ?_
  rintro e w2 ⟨rfl, rfl⟩
  go_wp2
  go_ret
  exact ⟨rfl, hb⟩

/-- a pair of numbers, opened -/
theorem open_pair {H : Type} {enc : TypeId × Value → H} {W : World} {b base : Nat} {sp : Nat → Bool} {held : Bool} {v : Value} {d : DataW H} {p : List MemPlace}
    (hv : Value.okWide Try.prog W .any b 25 v) (h : DataW.Trod enc Try.prog W base sp held 25 v d p) :
    ∃ (m : Int) (n : Nat), v = .agg #[.int .i64 m, .int .u32 (n : Int)] ∧ n < 2 ^ 32 ∧ -9223372036854775808 ≤ m ∧ m ≤ 9223372036854775807 := by
  obtain ⟨v0, v1, y0, y1, m, rfl, rfl, rfl, h0, h1⟩ := Joins.open_agg2 Try.underlying25 (by kernel_rfl) (by kernel_rfl) hv h
  obtain ⟨a, e0, _, w0⟩ := DataW.trod_int Try.underlying3 h0
  obtain ⟨c, e1, _, w1⟩ := DataW.trod_int Try.underlying23 h1
  simp at e0 e1
  subst e0 e1
  obtain ⟨n, rfl, hn⟩ := u32_nat w1
  exact ⟨a, n, rfl, hn, (i64_bounds w0).1, (i64_bounds w0).2⟩
/-- a note, opened -/
theorem open_note {H : Type} {enc : TypeId × Value → H} {W : World} {b base : Nat} {sp : Nat → Bool} {held : Bool} {v : Value} {d : DataW H} {p : List MemPlace}
    (hv : Value.okWide Try.prog W .any b 38 v) (h : DataW.Trod enc Try.prog W base sp held 38 v d p) :
    ∃ (s : Nat) (o : Bool) (m : Int), v = .agg #[.int .u32 (s : Int), .bool o, .int .i64 m] ∧ s < 2 ^ 32 ∧ -9223372036854775808 ≤ m ∧ m ≤ 9223372036854775807 := by
  obtain ⟨v0, v1, v2, y0, y1, y2, m, rfl, rfl, rfl, h0, h1, h2⟩ := Joins.open_agg3 Try.underlying38 (by kernel_rfl) (by kernel_rfl) hv h
  obtain ⟨a, e0, _, w0⟩ := DataW.trod_int Try.underlying23 h0
  obtain ⟨c, e1, _⟩ := DataW.trod_bool Try.underlying4 h1
  obtain ⟨k, e2, _, w2⟩ := DataW.trod_int Try.underlying3 h2
  simp at e0 e1 e2
  subst e0 e1 e2
  obtain ⟨n, rfl, hn⟩ := u32_nat w0
  exact ⟨n, c, k, rfl, hn, (i64_bounds w2).1, (i64_bounds w2).2⟩

theorem MarkNotes_calls (x s t : Nat) (o : Bool) (m : Int) (hx : x < 2 ^ 64) (hs : s < 2 ^ 32) (ht : t < 2 ^ 32) (h0 : -9223372036854775808 ≤ m) (h1 : m ≤ 9223372036854775807) (w : World) :
    Calls Try.prog 4 #[.int .u64 (x : Int), .agg #[.int .u32 (s : Int), .bool o, .int .i64 m], .int .u32 (t : Int)] w (Keeps w) := by
  obtain ⟨s', o', c', b', hn⟩ : ∃ s o c b, noteOf x = (s, o, c, b) := ⟨_, _, _, _, rfl⟩
  have HN := hidp hn
  clear hn
  go_enter Try.func4, Try.ntmps4
  go_wp2_with fail
  refine (mkNote_c s o m hs h0 h1 _).mono ?_
  rintro e w1 ⟨rfl, hb1⟩
  obtain ⟨hc1, hf1⟩ := bcell hb1
  have z1 := hb1.size
  simp at z1
  go_wp2_with fail
  refine (r3Note_c s o m hs h0 h1 _).mono ?_
  rintro e w2 ⟨rfl, hb2⟩
  have z2 := hb2.size
  go_wp2_with fail
  refine (mkOfNote_c x s' c' o' b' hx HN.out _).mono ?_
  rintro e w3 ⟨rfl, hb3⟩
  have z3 := hb3.size
  go_wp2_with fail
  refine (r3OfNote_c x s' c' o' b' hx HN.out _).mono ?_
  rintro e w4 ⟨rfl, hb4⟩
  have k4 := (Held.new _ _ _).keep hb4
  go_wp2_with fail
  refine (mkOpen_c x t hx ht _).mono ?_
  rintro e w5 ⟨rfl, hb5⟩
  have k5 := (k4.alloc _).keep hb5
  have l5 := (Held.new _ _ _).keep hb5
  go_wp2_with fail
  refine (r3Open_c x t hx ht _).mono ?_
  rintro e w6 ⟨rfl, hb6⟩
  have k6 := (k5.keep hb6).three
  have l6 := (l5.keep hb6).three
  go_wp2_with fail
  refine (live_c _).mono ?_
  rintro e w7 ⟨rfl, hb7⟩
  go_wp2
  go_ret
  refine ⟨rfl, ?_⟩
  exact Bgo (Bgo (Bgo (Bnew (Bgo (Bnew (Bgo (Bgo (Bgo (Bnew (B0 _) _) hb1) hb2) hb3) _) hb4) _) hb5) hb6) hb7

theorem MarkNotes_walk {H : Type} {enc : TypeId × Value → H} {W : World} {base : Nat} {args : Array Value} {ds : List (DataW H)} {ps : List MemPlace}
    (g : Given enc Try.prog Try.f4 W base args ds ps) : Calls Try.prog 4 args W (Keeps W) := by
  have hval := g.ok
  have hA := g.trod
  rw [Try.params4] at hA hval
  obtain ⟨v0, vs0, d0, ds0, p0, q0, hargs, rfl, rfl, h0, r0⟩ := trodAll_cons hA
  obtain ⟨v1, vs1, d1, ds1, p1, q1, rfl, rfl, rfl, h1, r1⟩ := trodAll_cons r0
  obtain ⟨v2, vs2, d2, ds2, p2, q2, rfl, rfl, rfl, h2, r2⟩ := trodAll_cons r1
  obtain ⟨rfl, rfl, rfl⟩ := trodAll_nil r2
  obtain rfl : args = #[v0, v1, v2] := by cases args; simp_all
  obtain ⟨a0, rfl, rfl, rfl, w0⟩ := open_int Try.underlying22 (hval 0 22 v0 rfl rfl) h0
  obtain ⟨x, rfl, hx⟩ := u64_nat w0
  obtain ⟨a1, rfl, rfl, rfl, w1⟩ := open_int Try.underlying23 (hval 2 23 v2 rfl rfl) h2
  obtain ⟨t, rfl, ht⟩ := u32_nat w1
  obtain ⟨s, o, m, rfl, hs, hm, hm'⟩ := open_note (hval 1 38 v1 rfl rfl) h1
  exact MarkNotes_calls x s t o m hx hs ht hm hm' W
end Go.Proofs.Ytkjjbcapbkkamaa
