/-
  The walk of HalfBack, all ways together.
-/
import Derived.Test.YtjiedkfmbgfolaaHalfBackB
namespace Go.Proofs.Ytjiedkfmbgfolaa
open Go.ChangeShapes Go.WideShapes Go.ChangeAt Go.RowKit
set_option linter.unusedVariables false

theorem get_same (x v a k : Nat) (b m : Int) (hv : v < 2 ^ k) (h2 : a + k ≤ 64) (hc0 : 0 ≤ b) (hc2 : 1 ≤ m) (hc3 : m ≤ 64 - b) (hd : b + m ≤ a ∨ (a : Int) + k ≤ b) :
    getI (HM.putN x a k v) b m = getI x b m := by
  have hf : fieldB b m = true := fieldB_yes (by omega) (by omega) (by omega)
  unfold getI
  rw [hf, if_pos rfl, if_pos rfl]
  exact HM.get_far x a k v b.toNat m.toNat h2 hv (by omega) (by omega)

theorem HalfBack_calls (x v u : Nat) (a k b m : Int) (hx : x < 2 ^ 64) (hv : v < 2 ^ 64) (ha : -9223372036854775808 ≤ a) (ha' : a ≤ 9223372036854775807) (hk : -9223372036854775808 ≤ k) (hk' : k ≤ 9223372036854775807)
    (hb : -9223372036854775808 ≤ b) (hb' : b ≤ 9223372036854775807) (hm : -9223372036854775808 ≤ m) (hm' : m ≤ 9223372036854775807) (w : World) :
    Calls Try.prog 5 #[.int .u64 (x : Int), .agg #[.int .i64 a, .int .i64 k, .int .u64 (v : Int)], .agg #[.int .i64 b, .int .i64 m, .int .u64 (u : Int)]] w (Keeps w) := by
  cases hok : putOk a k v
  · exact HalfBack_no x v u a k b m hx hv ha ha' hk hk' (hidp hok) w
  · have hf : fieldB a k = true ∧ v < 2 ^ k.toNat := by
      unfold putOk at hok
      simpa using hok
    obtain ⟨a', k', rfl, rfl, h1, h2⟩ := field_nat hf.1
    have hvk : v < 2 ^ k' := by have := hf.2; rwa [Int.toNat_natCast] at this
    have g := goes x v a' k' hx h1 h2 hvk
    obtain ⟨q, hq1, hq, hq2, hq3⟩ := g.was
    by_cases c0 : b < 0
    · exact HalfBack_b0 x v u _ q a' k' b m hx hv g.lt hq h1 h2 hb hb' hm hm' c0 (hidp g.ok) (hidp g.put) (hidp g.got) (hidp hq1) (hidp hq2) (hidp hq3) w
    by_cases c1 : 63 < b
    · exact HalfBack_b1 x v u _ q a' k' b m hx hv g.lt hq h1 h2 hb hb' hm hm' (by omega) c1 (hidp g.ok) (hidp g.put) (hidp g.got) (hidp hq1) (hidp hq2) (hidp hq3) w
    by_cases c2 : m < 1
    · exact HalfBack_m0 x v u _ q a' k' b m hx hv g.lt hq h1 h2 hb hb' hm hm' (by omega) (by omega) c2 (hidp g.ok) (hidp g.put) (hidp g.got) (hidp hq1) (hidp hq2) (hidp hq3) w
    by_cases c3 : 64 - b < m
    · exact HalfBack_m1 x v u _ q a' k' b m hx hv g.lt hq h1 h2 hb hb' hm hm' (by omega) (by omega) (by omega) c3 (hidp g.ok) (hidp g.put) (hidp g.got) (hidp hq1) (hidp hq2) (hidp hq3) w
    by_cases c4 : b < a' + k' ∧ (a' : Int) < b + m
    · exact HalfBack_meet x v u _ q a' k' b m hx hv g.lt hq h1 h2 hb hb' hm hm' (by omega) (by omega) (by omega) (by omega) c4.1 c4.2 (hidp g.ok) (hidp g.put) (hidp g.got) (hidp hq1) (hidp hq2) (hidp hq3) w
    have HF : Hid (∀ (y : Nat) (W : World), (y = HM.putN x a' k' v ∨ y = x) → Calls Try.prog 16 #[.int .u64 (y : Int), .int .i64 b, .int .i64 m] W fun e r => e = .returned (.int .u64 (getI x b m : Int)) ∧ ∃ n, r = W.drewN n) := by
      refine hidp (fun y W hy => ?_)
      rcases hy with rfl | rfl
      · refine (Get_c _ b m g.lt hb hb' hm hm' W).mono ?_
        rintro e r ⟨rfl, h⟩
        exact ⟨by rw [get_same x v a' k' b m hvk h2 (by omega) (by omega) (by omega) (by omega)], h⟩
      · exact Get_c _ b m hx hb hb' hm hm' W
    by_cases c5 : (a' : Int) + k' ≤ b
    · exact HalfBack_far0 x v u _ q a' k' b m hx hv g.lt hq h1 h2 hb hb' hm hm' (by omega) (by omega) (by omega) (by omega) c5 _ HF (hidp g.ok) (hidp g.put) (hidp g.got) (hidp hq1) (hidp hq2) (hidp hq3) w
    · exact HalfBack_far1 x v u _ q a' k' b m hx hv g.lt hq h1 h2 hb hb' hm hm' (by omega) (by omega) (by omega) (by omega) (by omega) (by omega) _ HF (hidp g.ok) (hidp g.put) (hidp g.got) (hidp hq1) (hidp hq2) (hidp hq3) w

theorem HalfBack_walk {H : Type} {enc : TypeId × Value → H} {W : World} {base : Nat} {args : Array Value} {ds : List (DataW H)} {ps : List MemPlace}
    (g : Given enc Try.prog Try.f5 W base args ds ps) : Calls Try.prog 5 args W (Keeps W) := by
  have hval := g.ok
  have hA := g.trod
  rw [Try.params5] at hA hval
  obtain ⟨v0, vs0, d0, ds0, p0, q0, hargs, rfl, rfl, h0, r0⟩ := trodAll_cons hA
  obtain ⟨v1, vs1, d1, ds1, p1, q1, rfl, rfl, rfl, h1, r1⟩ := trodAll_cons r0
  obtain ⟨v2, vs2, d2, ds2, p2, q2, rfl, rfl, rfl, h2, r2⟩ := trodAll_cons r1
  obtain ⟨rfl, rfl, rfl⟩ := trodAll_nil r2
  obtain rfl : args = #[v0, v1, v2] := by cases args; simp_all
  obtain ⟨a0, rfl, rfl, rfl, w0⟩ := open_int Try.underlying22 (hval 0 22 v0 rfl rfl) h0
  obtain ⟨x, rfl, hx⟩ := u64_nat w0
  obtain ⟨a, k, n, rfl, hn, ha, ha', hk, hk'⟩ := open_field (hval 1 29 v1 rfl rfl) h1
  obtain ⟨b, m, u, rfl, hu, hb, hb', hm, hm'⟩ := open_field (hval 2 29 v2 rfl rfl) h2
  exact HalfBack_calls x n u a k b m hx hn ha ha' hk hk' hb hb' hm hm' W

end Go.Proofs.Ytjiedkfmbgfolaa
