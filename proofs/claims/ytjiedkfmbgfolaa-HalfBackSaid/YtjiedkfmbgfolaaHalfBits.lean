/-
  The walk of HalfBits: every v, every n.
-/
import Derived.Test.YtjiedkfmbgfolaaHalfLists
namespace Go.Proofs.Ytjiedkfmbgfolaa
open Go.ChangeShapes Go.WideShapes Go.ChangeAt Go.RowKit
set_option linter.unusedVariables false

theorem u32_nat {a : Int} (h : (Lit.int .u32 a).wf = true) : ∃ n : Nat, a = n ∧ n < 2 ^ 32 := by
  simp only [Lit.wf, Bool.and_eq_true, IntKind.min, IntKind.max, IntKind.signed, IntKind.bits] at h
  simp at h
  exact ⟨a.toNat, by omega, by omega⟩
theorem u64_nat {a : Int} (h : (Lit.int .u64 a).wf = true) : ∃ n : Nat, a = n ∧ n < 2 ^ 64 := by
  simp only [Lit.wf, Bool.and_eq_true, IntKind.min, IntKind.max, IntKind.signed, IntKind.bits] at h
  simp at h
  exact ⟨a.toNat, by omega, by omega⟩
theorem i64_bounds {a : Int} (h : (Lit.int .i64 a).wf = true) : -9223372036854775808 ≤ a ∧ a ≤ 9223372036854775807 := by
  simp only [Lit.wf, Bool.and_eq_true, IntKind.min, IntKind.max, IntKind.signed, IntKind.bits] at h
  simp at h
  omega

theorem HalfBits_calls (v : Nat) (n : Int) (hv : v < 2 ^ 32) (h0 : -9223372036854775808 ≤ n) (h1 : n ≤ 9223372036854775807) (w : World) :
    Calls Try.prog 6 #[.int .u32 (v : Int), .int .i64 n] w (Keeps w) := by
  have HL := hidp (HM.ones_free v 32)
  go_enter Try.func6, Try.ntmps6
  go_wp2_with fail
  refine (Ones_c v hv _).mono ?_
  rintro e w1 ⟨rfl, rfl⟩
  go_wp2_with fail
  refine (ROnes_c v hv _).mono ?_
  rintro e w1 ⟨rfl, rfl⟩
  go_wp2_with fail
  refine (Lowest_c v hv _).mono ?_
  rintro e w1 ⟨rfl, rfl⟩
  go_wp2_with fail
  refine (RLowest_c v hv _).mono ?_
  rintro e w1 ⟨rfl, rfl⟩
  go_wp2_with fail
  refine (Log_c n h0 h1 _).mono ?_
  rintro e w1 ⟨rfl, rfl⟩
  go_wp2_with fail
  refine (RLog_c n h0 h1 _).mono ?_
  rintro e w1 ⟨rfl, rfl⟩
  go_wp2_with fail
  refine (Free_c v n hv h0 h1 _).mono ?_
  rintro e w1 ⟨u1, rfl, hown1, hb1⟩
  have R1 := hidp (RowV.of_own hown1)
  have B1 := hidp hb1
  clear hown1 hb1
  go_wp2_with fail
  refine (RFree_c v n hv h0 h1 _).mono ?_
  rintro e w2 ⟨u2, rfl, hown2, hb2⟩
  have R2 := hidp (RowV.of_own hown2)
  have R3 := hidp (R1.out.below hb2)
  have B2 := hidp (B1.out.trans (hb2.mono B1.out.size))
  clear hown2 hb2
  go_wp2_with fail
  refine (Ints_same ((HM.freeTo v (upTo n)).map fun (i : Nat) => (i : Int)) _ _ _ (by rw [List.map_map]; exact R3.out) (by rw [List.map_map]; exact R2.out)).mono ?_
  rintro e w3 ⟨rfl, n3, rfl⟩
  go_wp2_with fail
  refine (Ones_c v hv _).mono ?_
  rintro e w4 ⟨rfl, rfl⟩
  go_wp2_with fail
  refine (Free_c v 32 hv (by omega) (by omega) _).mono ?_
  rintro e w4 ⟨u4, rfl, hown4, hb4⟩
  have hl : (freeV v (upTo 32)).length = (HM.freeTo v 32).length := freeV_len v 32
  have hA : ∃ A c, u4 = .slice A (HM.freeTo v 32).length c := by
    rw [← hl]
    rcases hown4.2 with ⟨rfl, hz⟩ | ⟨g, cap, cur, rfl, _⟩
    · exact ⟨_, _, by rw [hz]⟩
    · exact ⟨_, _, rfl⟩
  obtain ⟨A, c, rfl⟩ := hA
  have B4 := hidp (B2.out.trans ((below_draws_left hb4).mono B2.out.size))
  have h32 := HL.out
  have HS : Hid (((HM.onesTo v 32 : Nat) : Int) + (((HM.freeTo v 32).length : Nat) : Int) = 32) := hidp (by omega)
  have hle1 := HM.onesTo_le v 32
  have hle2 := HM.freeTo_le v 32
  have hT : (((HM.onesTo v 32 : Nat) : Int) + (((HM.freeTo v 32).length : Nat) : Int) == 32) = true := beq_iff_eq.2 HS.out
  clear hown4 hb4 hl h32
  go_wp2_with fail
  refine (live_c _).mono ?_
  rintro e w5 ⟨rfl, hb5⟩
  go_wp2
  go_ret
  exact ⟨rfl, B4.out.trans (hb5.mono B4.out.size)⟩

theorem HalfBits_walk {H : Type} {enc : TypeId × Value → H} {W : World} {base : Nat} {args : Array Value} {ds : List (DataW H)} {ps : List MemPlace}
    (g : Given enc Try.prog Try.f6 W base args ds ps) : Calls Try.prog 6 args W (Keeps W) := by
  have hval := g.ok
  have hA := g.trod
  rw [Try.params6] at hA hval
  obtain ⟨v0, vs0, d0, ds0, p0, q0, hargs, rfl, rfl, h0, r0⟩ := trodAll_cons hA
  obtain ⟨v1, vs1, d1, ds1, p1, q1, rfl, rfl, rfl, h1, r1⟩ := trodAll_cons r0
  obtain ⟨rfl, rfl, rfl⟩ := trodAll_nil r1
  obtain rfl : args = #[v0, v1] := by cases args; simp_all
  obtain ⟨a0, rfl, rfl, rfl, w0⟩ := open_int Try.underlying23 (hval 0 23 v0 rfl rfl) h0
  obtain ⟨a1, rfl, rfl, rfl, w1⟩ := open_int Try.underlying3 (hval 1 3 v1 rfl rfl) h1
  obtain ⟨v, rfl, hv⟩ := u32_nat w0
  obtain ⟨h0, h1⟩ := i64_bounds w1
  exact HalfBits_calls v a1 hv h0 h1 W

end Go.Proofs.Ytjiedkfmbgfolaa
