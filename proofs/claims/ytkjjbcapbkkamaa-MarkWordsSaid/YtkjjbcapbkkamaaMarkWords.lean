/-
  The walk of MarkWords: every word, stamp and pair.
-/
import Derived.Test.YtkjjbcapbkkamaaMarkLaws
import Derived.Deep.RegionHeld3
import Derived.Lib.SmallJoins
namespace Go.Proofs.Ytkjjbcapbkkamaa
open Go.ChangeShapes Go.WideShapes Go.ChangeAt Go.RowKit
set_option linter.unusedVariables false

set_option maxHeartbeats 4000000 in
theorem MarkWords_calls (x s v : Nat) (m : Int) (hx : x < 2 ^ 64) (hs : s < 2 ^ 32) (hv : v < 2 ^ 32) (h0 : -9223372036854775808 ≤ m) (h1 : m ≤ 9223372036854775807)
    (l : Nat) (k : Int) (b : Bool) (c q : Nat) (d : Bool)
    (HT : Hid (∀ w, Calls Try.prog 8 #[.int .u64 (x : Int)] w fun e w' => e = .returned (.tuple #[.int .u32 (l : Int), .int .i64 k, .bool b]) ∧ w = w'))
    (HR : Hid (∀ w, Calls Try.prog 9 #[.int .u64 (x : Int)] w fun e w' => e = .returned (.tuple #[.int .u32 (l : Int), .int .i64 k, .bool b]) ∧ w = w'))
    (HE : Hid (∀ w, Calls Try.prog 12 #[.int .u64 (x : Int)] w fun e w' => e = .returned (.tuple #[.agg #[.int .i64 (c : Int), .int .u32 (q : Int)], .bool d]) ∧ Below w.heap.size w w'))
    (HF : Hid (∀ w, Calls Try.prog 13 #[.int .u64 (x : Int)] w fun e w' => e = .returned (.tuple #[.agg #[.int .i64 (c : Int), .int .u32 (q : Int)], .bool d]) ∧ Below w.heap.size w w')) (w : World) :
    Calls Try.prog 3 #[.int .u64 (x : Int), .int .u32 (s : Int), .agg #[.int .i64 m, .int .u32 (v : Int)]] w (Keeps w) := by
  go_enter Try.func3, Try.ntmps3
  go_wp2_with fail
  refine (mkTip_c s m hs h0 h1 _).mono ?_
  rintro e w0 ⟨rfl, rfl⟩
  go_wp2_with fail
  refine (r3Tip_c s m hs h0 h1 _).mono ?_
  rintro e w0 ⟨rfl, rfl⟩
  go_wp2_with fail
  refine (HT.out _).mono ?_
  rintro e w0 ⟨rfl, rfl⟩
  go_wp2_with fail
  refine (HR.out _).mono ?_
  rintro e w0 ⟨rfl, rfl⟩
  go_wp2_with fail
  refine (mkEntry_c m v hv h0 h1 _).mono ?_
  rintro e w1 ⟨rfl, hb1⟩
  have k1 := (Held.new _ _ _).keep hb1
  have r1 := k1.two
  go_wp2_with fail
  refine (r3Entry_c m v hv h0 h1 _).mono ?_
  rintro e w2 ⟨rfl, hb2⟩
  have k2 := k1.keep hb2
  go_wp2_with fail
  refine (HE.out _).mono ?_
  rintro e w3 ⟨rfl, hb3⟩
  have k3 := k2.keep hb3
  go_wp2_with fail
  refine (HF.out _).mono ?_
  rintro e w4 ⟨rfl, hb4⟩
  have k4 := (k3.alloc _).keep hb4
  have l4 := (Held.new _ _ _).keep hb4
  have r4 := (k4.alloc (.cells #[.int .i64 (c : Int), .int .u32 (q : Int)] 25)).two
  have q4 := (l4.alloc (.cells #[.int .i64 (c : Int), .int .u32 (q : Int)] 25)).two
  have t4 := (Held.new w4 25 #[.int .i64 (c : Int), .int .u32 (q : Int)]).two
  go_wp2_with fail
  go_region_held3 (fun w' => w'.cell? ⟨w.heap.size, 1, none⟩ = some (.int .u32 (v : Int)) ∧ w'.cell? ⟨w3.heap.size, 0, none⟩ = some (.int .i64 (c : Int)) ∧ w'.cell? ⟨w3.heap.size, 1, none⟩ = some (.int .u32 (q : Int)) ∧
      w'.cell? ⟨w4.heap.size, 0, none⟩ = some (.int .i64 (c : Int)) ∧ w'.cell? ⟨w4.heap.size, 1, none⟩ = some (.int .u32 (q : Int)))
    (first | exact ⟨r4.2, q4.1, q4.2, t4.1, t4.2⟩ | go_keep | exact ⟨hst _ _ (by assumption), hst _ _ (by assumption), hst _ _ (by assumption), hst _ _ (by assumption), hst _ _ (by assumption)⟩)
    (first
      | (go_at_call 14; refine (mkCell_c s v hs hv _).mono ?_; rintro e w' ⟨rfl, rfl⟩)
      | (go_at_call 15; refine (RJoin_c s v hs hv _).mono ?_; rintro e w' ⟨rfl, rfl⟩)
      | (go_at_call 16; refine (mkStamp_c x hx _).mono ?_; rintro e w' ⟨rfl, rfl⟩)
      | (go_at_call 17; refine (RHi_c x hx _).mono ?_; rintro e w' ⟨rfl, rfl⟩)
      | (go_at_call 18; refine (mkVal_c x hx _).mono ?_; rintro e w' ⟨rfl, rfl⟩)
      | (go_at_call 19; refine (RLo_c x hx _).mono ?_; rintro e w' ⟨rfl, rfl⟩)
      | (go_at_call 20; refine (live_c _).mono ?_; rintro e w' ⟨rfl, hbl⟩; have hst := cells_stay hbl))
  go_wp2
  go_ret
  refine ⟨rfl, ?_⟩
  exact Bgo (Bdraw (Bnew (Bgo (Bnew (Bgo (Bgo (Bgo (Bnew (B0 _) _) hb1) hb2) hb3) _) hb4) _) _) hbl

theorem MarkWords_walk {H : Type} {enc : TypeId × Value → H} {W : World} {base : Nat} {args : Array Value} {ds : List (DataW H)} {ps : List MemPlace}
    (g : Given enc Try.prog Try.f3 W base args ds ps) : Calls Try.prog 3 args W (Keeps W) := by
  have hval := g.ok
  have hA := g.trod
  rw [Try.params3] at hA hval
  obtain ⟨v0, vs0, d0, ds0, p0, q0, hargs, rfl, rfl, h0, r0⟩ := trodAll_cons hA
  obtain ⟨v1, vs1, d1, ds1, p1, q1, rfl, rfl, rfl, h1, r1⟩ := trodAll_cons r0
  obtain ⟨v2, vs2, d2, ds2, p2, q2, rfl, rfl, rfl, h2, r2⟩ := trodAll_cons r1
  obtain ⟨rfl, rfl, rfl⟩ := trodAll_nil r2
  obtain rfl : args = #[v0, v1, v2] := by cases args; simp_all
  obtain ⟨a0, rfl, rfl, rfl, w0⟩ := open_int Try.underlying22 (hval 0 22 v0 rfl rfl) h0
  obtain ⟨x, rfl, hx⟩ := u64_nat w0
  obtain ⟨a1, rfl, rfl, rfl, w1⟩ := open_int Try.underlying23 (hval 1 23 v1 rfl rfl) h1
  obtain ⟨s, rfl, hs⟩ := u32_nat w1
  obtain ⟨m, v, rfl, hv, hm, hm'⟩ := open_pair (hval 2 25 v2 rfl rfl) h2
  by_cases ht : x % 4294967296 ≤ 16
  · by_cases he : x / 4294967296 ≤ 65535
    · exact MarkWords_calls x s v m hx hs hv hm hm' _ _ _ _ _ _ (hidp fun w => mkOfTip_yes x hx ht w) (hidp fun w => r3OfTip_yes x hx ht w) (hidp fun w => mkOfEntry_yes x hx (by omega) w) (hidp fun w => r3OfEntry_yes x hx (by omega) w) W
    · exact MarkWords_calls x s v m hx hs hv hm hm' _ _ _ 0 0 _ (hidp fun w => mkOfTip_yes x hx ht w) (hidp fun w => r3OfTip_yes x hx ht w) (hidp fun w => mkOfEntry_no x hx (by omega) w) (hidp fun w => r3OfEntry_no x hx (by omega) w) W
  · by_cases he : x / 4294967296 ≤ 65535
    · exact MarkWords_calls x s v m hx hs hv hm hm' 0 _ _ _ _ _ (hidp fun w => mkOfTip_no x hx (by omega) w) (hidp fun w => r3OfTip_no x hx (by omega) w) (hidp fun w => mkOfEntry_yes x hx (by omega) w) (hidp fun w => r3OfEntry_yes x hx (by omega) w) W
    · exact MarkWords_calls x s v m hx hs hv hm hm' 0 _ _ 0 0 _ (hidp fun w => mkOfTip_no x hx (by omega) w) (hidp fun w => r3OfTip_no x hx (by omega) w) (hidp fun w => mkOfEntry_no x hx (by omega) w) (hidp fun w => r3OfEntry_no x hx (by omega) w) W
end Go.Proofs.Ytkjjbcapbkkamaa
