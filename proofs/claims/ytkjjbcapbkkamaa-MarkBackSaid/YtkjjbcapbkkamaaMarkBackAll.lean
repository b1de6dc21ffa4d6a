/-
  MarkBack, from its arguments: the cases put together.
-/
import Derived.Test.YtkjjbcapbkkamaaMarkBack
namespace Go.Proofs.Ytkjjbcapbkkamaa
open Go.ChangeShapes Go.WideShapes Go.ChangeAt Go.RowKit
set_option linter.unusedVariables false

theorem MarkBack_calls (x s v : Nat) (o : Bool) (m i : Int) (hx : x < 2 ^ 64) (hs : s < 2 ^ 32) (hv : v < 2 ^ 32) (h0 : -9223372036854775808 ≤ m) (h1 : m ≤ 9223372036854775807) (i0 : -9223372036854775808 ≤ i) (i1 : i ≤ 9223372036854775807) (w : World) :
    Calls Try.prog 5 #[.int .u64 (x : Int), .agg #[.int .u32 (s : Int), .bool o, .int .i64 m], .agg #[.int .i64 i, .int .u32 (v : Int)]] w (Keeps w) := by
  obtain ⟨s', o', c', b', hn⟩ : ∃ s o c b, noteOf x = (s, o, c, b) := ⟨_, _, _, _, rfl⟩
  have HN := hidp hn
  have hy := fun h : b' = true => note_back hx (h ▸ hn)
  clear hn
  by_cases hm : m < 0 ∨ 96 < m
  · have T := not_no s o m hm
    cases b'
    · by_cases hi : i < 0 ∨ 65535 < i
      · have T2 := ent_no i v hi
        exact MarkBack_nff x s v hx hs hv o m h0 h1 _ (hidp rfl) (hidp T.1) s' c' o' HN _ i i0 i1 (hidp T2.1) (hidp rfl) w
      · obtain ⟨j, rfl⟩ : ∃ j : Nat, i = j := ⟨i.toNat, by omega⟩
        have T2 := ent_yes j v (by omega)
        exact MarkBack_nft x s v hx hs hv o m h0 h1 _ (hidp rfl) (hidp T.1) s' c' o' HN _ j (by omega) (by rw [T2.2]; omega) (hidp T2.1) (hidp rfl) (hidp (by rw [T2.2]; omega)) (hidp (by rw [T2.2]; omega)) w
    · obtain ⟨y1, y2, y3, y4⟩ := hy rfl
      by_cases hi : i < 0 ∨ 65535 < i
      · have T2 := ent_no i v hi
        exact MarkBack_ntf x s v hx hs hv o m h0 h1 _ (hidp rfl) (hidp T.1) s' c' o' HN y1 y2 (hidp y3) (hidp y4) _ i i0 i1 (hidp T2.1) (hidp rfl) w
      · obtain ⟨j, rfl⟩ : ∃ j : Nat, i = j := ⟨i.toNat, by omega⟩
        have T2 := ent_yes j v (by omega)
        exact MarkBack_ntt x s v hx hs hv o m h0 h1 _ (hidp rfl) (hidp T.1) s' c' o' HN y1 y2 (hidp y3) (hidp y4) _ j (by omega) (by rw [T2.2]; omega) (hidp T2.1) (hidp rfl) (hidp (by rw [T2.2]; omega)) (hidp (by rw [T2.2]; omega)) w
  · obtain ⟨k, rfl⟩ : ∃ k : Nat, m = k := ⟨m.toNat, by omega⟩
    have hk : k ≤ 96 := by omega
    have N := not_yes s o k hk
    have R := note_round s k o hs hk
    have O1 := open_of (t := s) R.2
    have O2 := open_of (t := s ^^^ 1) R.2
    rw [xor_one_ne] at O2
    simp only [Bool.and_false, Bool.false_eq_true, if_false] at O2
    simp only [beq_self_eq_true, Bool.and_true, Bool.true_and] at O1
    cases o
    · cases b'
      · by_cases hi : i < 0 ∨ 65535 < i
        · have T2 := ent_no i v hi
          exact MarkBack_fff x s v hx hs hv k _ hk R.1 (hidp rfl) (hidp N.1) (hidp R.2) _ (hidp O1.1) (hidp rfl) trivial (s ^^^ 1) _ (xor_one_lt s hs) (hidp (xor_one s hs)) (hidp O2.1) (hidp rfl) s' c' o' HN _ i i0 i1 (hidp T2.1) (hidp rfl) w
        · obtain ⟨j, rfl⟩ : ∃ j : Nat, i = j := ⟨i.toNat, by omega⟩
          have T2 := ent_yes j v (by omega)
          exact MarkBack_fft x s v hx hs hv k _ hk R.1 (hidp rfl) (hidp N.1) (hidp R.2) _ (hidp O1.1) (hidp rfl) trivial (s ^^^ 1) _ (xor_one_lt s hs) (hidp (xor_one s hs)) (hidp O2.1) (hidp rfl) s' c' o' HN _ j (by omega) (by rw [T2.2]; omega) (hidp T2.1) (hidp rfl) (hidp (by rw [T2.2]; omega)) (hidp (by rw [T2.2]; omega)) w
      · obtain ⟨y1, y2, y3, y4⟩ := hy rfl
        by_cases hi : i < 0 ∨ 65535 < i
        · have T2 := ent_no i v hi
          exact MarkBack_ftf x s v hx hs hv k _ hk R.1 (hidp rfl) (hidp N.1) (hidp R.2) _ (hidp O1.1) (hidp rfl) trivial (s ^^^ 1) _ (xor_one_lt s hs) (hidp (xor_one s hs)) (hidp O2.1) (hidp rfl) s' c' o' HN y1 y2 (hidp y3) (hidp y4) _ i i0 i1 (hidp T2.1) (hidp rfl) w
        · obtain ⟨j, rfl⟩ : ∃ j : Nat, i = j := ⟨i.toNat, by omega⟩
          have T2 := ent_yes j v (by omega)
          exact MarkBack_ftt x s v hx hs hv k _ hk R.1 (hidp rfl) (hidp N.1) (hidp R.2) _ (hidp O1.1) (hidp rfl) trivial (s ^^^ 1) _ (xor_one_lt s hs) (hidp (xor_one s hs)) (hidp O2.1) (hidp rfl) s' c' o' HN y1 y2 (hidp y3) (hidp y4) _ j (by omega) (by rw [T2.2]; omega) (hidp T2.1) (hidp rfl) (hidp (by rw [T2.2]; omega)) (hidp (by rw [T2.2]; omega)) w
    · cases b'
      · by_cases hi : i < 0 ∨ 65535 < i
        · have T2 := ent_no i v hi
          exact MarkBack_tff x s v hx hs hv k _ hk R.1 (hidp rfl) (hidp N.1) (hidp R.2) _ (hidp O1.1) (hidp rfl) (by rw [O1.2]; rfl) (s ^^^ 1) _ (xor_one_lt s hs) (hidp (xor_one s hs)) (hidp O2.1) (hidp rfl) s' c' o' HN _ i i0 i1 (hidp T2.1) (hidp rfl) w
        · obtain ⟨j, rfl⟩ : ∃ j : Nat, i = j := ⟨i.toNat, by omega⟩
          have T2 := ent_yes j v (by omega)
          exact MarkBack_tft x s v hx hs hv k _ hk R.1 (hidp rfl) (hidp N.1) (hidp R.2) _ (hidp O1.1) (hidp rfl) (by rw [O1.2]; rfl) (s ^^^ 1) _ (xor_one_lt s hs) (hidp (xor_one s hs)) (hidp O2.1) (hidp rfl) s' c' o' HN _ j (by omega) (by rw [T2.2]; omega) (hidp T2.1) (hidp rfl) (hidp (by rw [T2.2]; omega)) (hidp (by rw [T2.2]; omega)) w
      · obtain ⟨y1, y2, y3, y4⟩ := hy rfl
        by_cases hi : i < 0 ∨ 65535 < i
        · have T2 := ent_no i v hi
          exact MarkBack_ttf x s v hx hs hv k _ hk R.1 (hidp rfl) (hidp N.1) (hidp R.2) _ (hidp O1.1) (hidp rfl) (by rw [O1.2]; rfl) (s ^^^ 1) _ (xor_one_lt s hs) (hidp (xor_one s hs)) (hidp O2.1) (hidp rfl) s' c' o' HN y1 y2 (hidp y3) (hidp y4) _ i i0 i1 (hidp T2.1) (hidp rfl) w
        · obtain ⟨j, rfl⟩ : ∃ j : Nat, i = j := ⟨i.toNat, by omega⟩
          have T2 := ent_yes j v (by omega)
          exact MarkBack_ttt x s v hx hs hv k _ hk R.1 (hidp rfl) (hidp N.1) (hidp R.2) _ (hidp O1.1) (hidp rfl) (by rw [O1.2]; rfl) (s ^^^ 1) _ (xor_one_lt s hs) (hidp (xor_one s hs)) (hidp O2.1) (hidp rfl) s' c' o' HN y1 y2 (hidp y3) (hidp y4) _ j (by omega) (by rw [T2.2]; omega) (hidp T2.1) (hidp rfl) (hidp (by rw [T2.2]; omega)) (hidp (by rw [T2.2]; omega)) w

theorem MarkBack_walk {H : Type} {enc : TypeId × Value → H} {W : World} {base : Nat} {args : Array Value} {ds : List (DataW H)} {ps : List MemPlace}
    (g : Given enc Try.prog Try.f5 W base args ds ps) : Calls Try.prog 5 args W (Keeps W) := by
  have hval := g.ok
  have hA := g.trod
  rw [Try.params5] at hA hval
  obtain ⟨v0, vs0, d0, ds0, p0, q0, hargs, rfl, rfl, h0, r0⟩ := trodAll_cons hA
  obtain ⟨v1, vs1, d1, ds1, p1, q1, rfl, rfl, rfl, h1, r1⟩ := trodAll_cons r0
  obtain ⟨v2, vs2, d2, ds2, p2, q2, rfl, rfl, rfl, h2, r2⟩ := trodAll_cons r1
  obtain ⟨rfl, rfl, rfl⟩ := trodAll_nil r2
  obtain rfl : args = #[v0, v1, v2] := by cases args; simp_all
  obtain ⟨a0, rfl, rfl, rfl, w0⟩ := open_int Try.underlying22 (hval 0 22 v0 rfl rfl) h0
  obtain ⟨x, rfl, hx⟩ := u64_nat w0
  obtain ⟨s, o, m, rfl, hs, hm, hm'⟩ := open_note (hval 1 38 v1 rfl rfl) h1
  obtain ⟨i, v, rfl, hv, hi, hi'⟩ := open_pair (hval 2 25 v2 rfl rfl) h2
  exact MarkBack_calls x s v o m i hx hs hv hm hm' hi hi' W
end Go.Proofs.Ytkjjbcapbkkamaa
