/-
  The example of the page, and the calls of HeadEncodes and HeadDecodes.
-/
import Derived.Test.YtdhpjlbcldcfjaaHeadDec
import Derived.Lib.SmallJoins
namespace Go.Proofs.Ytdhpjlbcldcfjaa
open Go.ChangeShapes Go.WideShapes Go.ChangeAt Go.RowKit
set_option linter.unusedVariables false
set_option linter.unusedSimpArgs false

set_option maxHeartbeats 1600000 in
theorem live_c (w : World) : Calls Try.prog 10 #[] w fun e w' => e = .returned (.bool true) ∧ Below w.heap.size w w' := by
  have HE := hidp (encL_yes (t := 2) (p := 4) (s := 10) (by decide))
  have H3 : (headL 2 4 10).getD 3 0 = 440 := rfl
  have H1 : (headL 2 4 10).getD 1 0 = 1 := rfl
  go_enter Try.func10, Try.ntmps10
  go_wp2_with fail
  refine (hdEncode_c 2 4 10 _).mono ?_
  rintro e w1 ⟨u, rfl, hown, hb1⟩
  rw [HE.out, headL_len] at hown
  obtain ⟨g, cap, rfl, hg1, hg2⟩ := hown.form (by omega)
  have HR := Reads.of_own hown
  obtain ⟨ad, had, _, c3⟩ := words_at (headL_len 2 4 10) HR (show 3 < 8 by omega)
  obtain rfl : ad = ⟨g, 0, none⟩ := by injection had with had; exact had.symm
  obtain ⟨ad, had, _, c1⟩ := words_at (headL_len 2 4 10) HR (show 1 < 8 by omega)
  obtain rfl : ad = ⟨g, 0, none⟩ := by injection had with had; exact had.symm
  rw [H3, add_blk] at c3
  rw [H1, add_blk] at c1
  clear had hown HR H1 H3
  go_wp2
  go_ret
  refine ⟨by first | rfl | trivial, ?_⟩
  repeat (first | exact B0 _ | (with_reducible refine Bgo ?_ (by assumption)) | (with_reducible refine Bdrew ?_) | (with_reducible refine Bdraw ?_ _) | (with_reducible refine Bnew ?_ _))

theorem num_c (k : Int) (h0 : 0 ≤ k) (h9 : k ≤ 9) (w : World) : Calls Try.prog 13 #[.int .i64 k] w fun e w' => e = .returned (.int .i64 k) ∧ w = w' := by
  go_enter Try.func13, Try.ntmps13
  go_wp2
  go_ret
  exact ⟨rfl, rfl⟩
theorem decL_err {ws : List Nat} {a b d k : Int} (h : decL ws = (a, b, d, k)) : 0 ≤ k ∧ k ≤ 9 := by
  unfold decL at h
  split at h <;> simp only [Prod.mk.injEq] at h <;> omega

set_option maxHeartbeats 1600000 in
theorem HeadEncodes_calls (t p s : Int) (w : World) : Calls Try.prog 3 #[.agg #[.int .i64 t, .int .i64 p, .int .i64 s]] w (Keeps w) := by
  have hc := Held.new w 23 #[.int .i64 t, .int .i64 p, .int .i64 s]
  have hc3 := hc.three
  obtain ⟨n, hn⟩ : ∃ n, (encL t p s).length = n := ⟨_, rfl⟩
  have hn8 : n ≤ 8 := by rw [← hn]; exact encL_le t p s
  have HN := hidp hn
  clear hn
  go_enter Try.func3, Try.ntmps3
  go_wp2_with fail
  go_region_held3 (fun w' => w'.cell? ⟨w.heap.size, 0, none⟩ = some (.int .i64 t) ∧ w'.cell? ⟨w.heap.size, 1, none⟩ = some (.int .i64 p) ∧ w'.cell? ⟨w.heap.size, 2, none⟩ = some (.int .i64 s))
    (first | exact hc3 | go_keep | exact ⟨hst _ _ (by assumption), hst _ _ (by assumption), hst _ _ (by assumption)⟩)
    (first
      | (go_at_call 8; refine (hdEncode_c t p s _).mono ?_; rintro e w2 ⟨u, rfl, hown, hb2⟩; rw [HN.out] at hown; obtain ⟨A1, c1, rfl⟩ := own_slice hown; have HR1 := hidp (Reads.of_own hown); clear hown; have hst := cells_stay hb2)
      | (go_at_call 9; refine (r8Encode_c t p s _).mono ?_; rintro e w3 ⟨u, rfl, hown, hb3⟩; rw [HN.out] at hown; obtain ⟨A2, c2, rfl⟩ := own_slice hown; have HR2 := hidp (Reads.of_own hown); have HR3 := hidp (HR1.out.below hb3); clear hown hst; have hst := cells_stay hb3)
      | (go_at_call 7; refine (Words_same (encL t p s) n HN _ _ _ _ (by unfold maxLen; omega) _ _ _ HR3 HR2).mono ?_; rintro e w4 ⟨rfl, n4, rfl⟩; clear hst; have hst : ∀ (p : Addr) (u : Value), w3.cell? p = some u → (w3.drewN n4).cell? p = some u := fun _ _ h => h)
      | (go_at_call 10; refine (live_c _).mono ?_; rintro e w5 ⟨rfl, hb5⟩; clear hst; have hst := cells_stay hb5))
  go_wp2
  go_ret
  refine ⟨rfl, ?_⟩
  repeat (first | exact B0 _ | (with_reducible refine Bgo ?_ (by assumption)) | (with_reducible refine Bdrew ?_) | (with_reducible refine Bdraw ?_ _) | (with_reducible refine Bnew ?_ _))
set_option maxHeartbeats 1600000 in
theorem HeadDecodes_calls (A : Option Addr) (c n : Nat) (ws : List Nat) (HN : Hid (ws.length = n)) (hc : n ≤ c) (hm : c ≤ maxLen) (H64 : Hid (∀ x ∈ ws, x < 2 ^ 64)) (w : World) (HR : Hid (Reads w w.heap.size 1 A n (wordVs ws))) :
    Calls Try.prog 4 #[.slice A n c] w (Keeps w) := by
  obtain ⟨a, b, d, k, hd⟩ : ∃ a b d k, decL ws = (a, b, d, k) := ⟨_, _, _, _, rfl⟩
  have HD := hidp hd
  obtain ⟨hk0, hk9⟩ := decL_err hd
  clear hd
  go_enter Try.func4, Try.ntmps4
  go_wp2_with fail
  refine (hdDecode_c A c n ws HN hc hm H64 _ HR a b d k HD).mono ?_
  rintro e w1 ⟨rfl, hb1⟩
  have hc1 := Held.new w1 23 #[.int .i64 a, .int .i64 b, .int .i64 d]
  have HR1 : Hid (Reads (w1.alloc (.cells #[.int .i64 a, .int .i64 b, .int .i64 d] 23)) (w1.alloc (.cells #[.int .i64 a, .int .i64 b, .int .i64 d] 23)).heap.size 1 A n (wordVs ws)) :=
    hidp (((HR.out.below hb1).alloc hb1.size _).more (by have := hb1.size; simp; omega))
  go_wp2_with fail
  refine (r8Decode_c A c n ws HN hc hm H64 _ HR1 a b d k HD).mono ?_
  rintro e w2 ⟨rfl, hb2⟩
  have hc2 := (hc1.keep hb2).three
  have hc3 := ((hc1.keep hb2).alloc (.cells #[.int .i64 a, .int .i64 b, .int .i64 d] 23)).three
  have hd3 := (Held.new w2 23 #[.int .i64 a, .int .i64 b, .int .i64 d]).three
  go_wp2_with fail
  refine (num_c k hk0 hk9 _).mono ?_
  rintro e w3 ⟨rfl, rfl⟩
  go_wp2_with fail
  refine (live_c _).mono ?_
  rintro e w4 ⟨rfl, hb4⟩
  go_wp2
  go_ret
  refine ⟨rfl, ?_⟩
  repeat (first | exact B0 _ | (with_reducible refine Bgo ?_ (by assumption)) | (with_reducible refine Bdrew ?_) | (with_reducible refine Bdraw ?_ _) | (with_reducible refine Bnew ?_ _))
end Go.Proofs.Ytdhpjlbcldcfjaa
