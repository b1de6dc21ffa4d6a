/-
  The calls of HeadTorn.
-/
import Derived.Test.YtdhpjlbcldcfjaaHeadBack
import Derived.Test.YtdhpjlbcldcfjaaTurn
namespace Go.Proofs.Ytdhpjlbcldcfjaa
open Go.ChangeShapes Go.WideShapes Go.ChangeAt Go.RowKit
set_option linter.unusedVariables false
set_option linter.unusedSimpArgs false

theorem turned_none {t p s : Int} (a q : Nat) (hq : q < 2 ^ 32) (h0 : q ≠ 0) (ha : a ≤ 480) : decL (SM.turned (headL t p s) a q 32) = (0, 0, 0, 9) := by
  obtain ⟨x, y, z, k, hd⟩ : ∃ x y z k, decL (SM.turned (headL t p s) a q 32) = (x, y, z, k) := ⟨_, _, _, _, rfl⟩
  by_cases hk : k = 0
  · subst hk
    obtain ⟨_, h2, _⟩ := decL_zero hd
    have hl : (SM.turned (headL t p s) a q 32).length = 8 := (SM.turned_len _ _ _ _).trans (headL_len t p s)
    rw [List.take_of_length_le (by omega)] at h2
    have hne := SM.turned_ne (headL t p s) a q hq h0 (by rw [headL_len]; omega)
    rw [h2] at hne
    exact absurd ((ofN_own (head7 x y z)).trans (ofN_own (head7 t p s)).symm) hne
  · obtain ⟨rfl, rfl, rfl, rfl⟩ := decL_nine hd hk
    exact hd

set_option maxHeartbeats 1600000 in
theorem HeadTorn_no (t p s a : Int) (q : Nat) (hr : rightB t p s = false) (w : World) :
    Calls Try.prog 6 #[.agg #[.int .i64 t, .int .i64 p, .int .i64 s], .int .i64 a, .int .u32 (q : Int)] w (Keeps w) := by
  have HE := hidp (encL_no hr)
  go_enter Try.func6, Try.ntmps6
  go_wp2_with fail
  refine (hdEncode_c t p s _).mono ?_
  rintro e w1 ⟨u, rfl, hown, hb1⟩
  rw [HE.out] at hown
  obtain ⟨A1, c1, rfl⟩ := own_slice hown
  simp only [List.length_nil] at *
  go_wp2_with fail
  refine (live_c _).mono ?_
  rintro e w8 ⟨rfl, hb8⟩
  go_wp2
  go_ret
  refine ⟨rfl, ?_⟩
  repeat (first | exact B0 _ | (with_reducible refine Bgo ?_ (by assumption)) | (with_reducible refine Bdrew ?_) | (with_reducible refine Bdraw ?_ _) | (with_reducible refine Bnew ?_ _))

set_option maxHeartbeats 1600000 in
theorem HeadTorn_z (t p s a : Int) (q : Nat) (hr : rightB t p s = true) (h : q = 0) (ha : -9223372036854775808 ≤ a) (ha' : a ≤ 9223372036854775807) (hq : q < 2 ^ 32) (w : World) :
    Calls Try.prog 6 #[.agg #[.int .i64 t, .int .i64 p, .int .i64 s], .int .i64 a, .int .u32 (q : Int)] w (Keeps w) := by
  have HE := hidp (encL_yes hr)
  subst h
  go_enter Try.func6, Try.ntmps6
  go_wp2_with fail
  refine (hdEncode_c t p s _).mono ?_
  rintro e w1 ⟨u, rfl, hown, hb1⟩
  rw [HE.out, headL_len] at hown
  obtain ⟨g0, cap0, rfl, hg1, hg2, hcp1, hcp2⟩ := own_form hown (by omega)
  clear hown
  go_wp2_with fail
  refine (live_c _).mono ?_
  rintro e w8 ⟨rfl, hb8⟩
  go_wp2
  go_ret
  refine ⟨rfl, ?_⟩
  repeat (first | exact B0 _ | (with_reducible refine Bgo ?_ (by assumption)) | (with_reducible refine Bdrew ?_) | (with_reducible refine Bdraw ?_ _) | (with_reducible refine Bnew ?_ _))

set_option maxHeartbeats 1600000 in
theorem HeadTorn_l (t p s a : Int) (q : Nat) (hr : rightB t p s = true) (h0 : ((q : Int) == 0) = false) (h : a < 0) (ha : -9223372036854775808 ≤ a) (ha' : a ≤ 9223372036854775807) (hq : q < 2 ^ 32) (w : World) :
    Calls Try.prog 6 #[.agg #[.int .i64 t, .int .i64 p, .int .i64 s], .int .i64 a, .int .u32 (q : Int)] w (Keeps w) := by
  have HE := hidp (encL_yes hr)
  go_enter Try.func6, Try.ntmps6
  go_wp2_with fail
  refine (hdEncode_c t p s _).mono ?_
  rintro e w1 ⟨u, rfl, hown, hb1⟩
  rw [HE.out, headL_len] at hown
  obtain ⟨g0, cap0, rfl, hg1, hg2, hcp1, hcp2⟩ := own_form hown (by omega)
  clear hown
  go_wp2_with fail
  refine (live_c _).mono ?_
  rintro e w8 ⟨rfl, hb8⟩
  go_wp2
  go_ret
  refine ⟨rfl, ?_⟩
  repeat (first | exact B0 _ | (with_reducible refine Bgo ?_ (by assumption)) | (with_reducible refine Bdrew ?_) | (with_reducible refine Bdraw ?_ _) | (with_reducible refine Bnew ?_ _))

set_option maxHeartbeats 1600000 in
theorem HeadTorn_g (t p s a : Int) (q : Nat) (hr : rightB t p s = true) (h0 : ((q : Int) == 0) = false) (h : 480 < a) (ha : -9223372036854775808 ≤ a) (ha' : a ≤ 9223372036854775807) (hq : q < 2 ^ 32) (w : World) :
    Calls Try.prog 6 #[.agg #[.int .i64 t, .int .i64 p, .int .i64 s], .int .i64 a, .int .u32 (q : Int)] w (Keeps w) := by
  have HE := hidp (encL_yes hr)
  go_enter Try.func6, Try.ntmps6
  go_wp2_with fail
  refine (hdEncode_c t p s _).mono ?_
  rintro e w1 ⟨u, rfl, hown, hb1⟩
  rw [HE.out, headL_len] at hown
  obtain ⟨g0, cap0, rfl, hg1, hg2, hcp1, hcp2⟩ := own_form hown (by omega)
  clear hown
  go_wp2_with fail
  refine (live_c _).mono ?_
  rintro e w8 ⟨rfl, hb8⟩
  go_wp2
  go_ret
  refine ⟨rfl, ?_⟩
  repeat (first | exact B0 _ | (with_reducible refine Bgo ?_ (by assumption)) | (with_reducible refine Bdrew ?_) | (with_reducible refine Bdraw ?_ _) | (with_reducible refine Bnew ?_ _))

set_option maxHeartbeats 3200000 in
theorem HeadTorn_main (t p s : Int) (a q : Nat) (hr : rightB t p s = true) (ha : a ≤ 480) (hq : q < 2 ^ 32) (hq0 : Hid (q ≠ 0)) (hq1 : ((q : Int) == 0) = false) (w : World) :
    Calls Try.prog 6 #[.agg #[.int .i64 t, .int .i64 p, .int .i64 s], .int .i64 (a : Int), .int .u32 (q : Int)] w (Keeps w) := by
  obtain ⟨i0, hi, hz0, hz1, hz2⟩ := info_parts wordInfo
  have HE := hidp (encL_yes hr)
  have HNO := hidp (turned_none (t := t) (p := p) (s := s) a q hq hq0.out ha)
  have HL : Hid (∀ k, (SM.turned (headL t p s) a q k).length = 8) := hidp (fun k => (SM.turned_len _ a q k).trans (headL_len t p s))
  have HW : Hid (∀ k, ∀ x ∈ SM.turned (headL t p s) a q k, x < 2 ^ 64) := hidp (fun k => SM.turned_lt _ a q k (headL_lt t p s))
  clear hr
  go_enter Try.func6, Try.ntmps6
  go_wp2_with fail
  refine (hdEncode_c t p s _).mono ?_
  rintro e w1 ⟨u, rfl, hown, hb1⟩
  rw [HE.out, headL_len] at hown
  obtain ⟨g0, cap0, rfl, hg1, hg2, hcp1, hcp2⟩ := own_form hown (by omega)
  have HRA := hidp ((Reads.of_own hown).alloc (Nat.le_refl _) (.cells #[] 39))
  have hb1' : Below w.heap.size w w1 := Bgo (Bnew (B0 _) _) hb1
  have HOWN0 := hidp (World.ownsRow_lit (base := w.heap.size) (e := 39) (size := 1) w1 #[] 0 hb1'.size (by unfold maxLen; omega) rfl)
  clear hown
  go_wp2_with
    (at_builtin
     refine wpList_append_own _ rfl _ _ 25 rfl w.heap.size 39 i0 (.int .u64 0) 1 8 Try.underlying25 hi hz0 hz1 hz2 rfl (by decide) _ 0 [] rfl HOWN0.out ⟨g0, 0, none⟩ 8 cap0 (wordVs (headL t p s)) rfl ?c1 ?c2 ?c3 ?c4 ?c5 ?c6 ?_
     case c1 => exact HRA.out.1
     case c2 =>
       obtain ⟨ad', e, _, h⟩ := HRA.out.2 (by omega)
       injection e with e
       subst e
       exact h
     case c3 => intro u hu; unfold wordVs at hu; obtain ⟨z, _, rfl⟩ := List.mem_map.1 hu; rfl
     case c4 => unfold maxLen; omega
     case c5 => omega
     case c6 => have := hb1'.size; simp; omega
     intro v1 w2 hown1 hgrow _)
  rw [Nat.zero_add, List.nil_append] at hown1
  obtain ⟨g, cap, rfl, hg3, hg4, hcp3, hcp4⟩ := own_form hown1 (by omega)
  have hB : Below w.heap.size w w2 := (Bnew hb1' _).grown hgrow (by have := hb1'.size; simp; omega) (fun j hj => (HOWN0.out.lt j hj).1)
  have HT0 := hidp hown1
  clear hgrow HOWN0 HRA hown1 hi hz0 hz1 hz2 hb1 hb1' hg1 hg2 hcp1 hcp2
  go_loopw [9] (fun i wr => ∃ k : Nat, k ≤ 32 ∧ i = .int .i64 k ∧ Hid (wr.ownsRow w.heap.size 39 1 (.slice (some ⟨g, 0, none⟩) 8 cap) 8 (wordVs (SM.turned (headL t p s) a q k))) ∧ Below w.heap.size w wr) (fun i _ => 32 - (intOf i).toNat)
  case atStart => exact ⟨0, by omega, rfl, HT0, hB⟩
  case round =>
    obtain ⟨k, hk, rfl, HO, hb⟩ := hrel
    by_cases hlt : k < 32
    · have HS : Hid (SM.turned (headL t p s) a q (k + 1) = if q.testBit k then SM.flip (SM.turned (headL t p s) a q k) (a + k) else SM.turned (headL t p s) a q k) := hidp rfl
      have hodd := odd_bit q k
      rw [← shr_cast'] at hodd
      cases hbit : q.testBit k
      · rw [hbit] at hodd HS
        have HS2 : Hid (SM.turned (headL t p s) a q (k + 1) = SM.turned (headL t p s) a q k) := hidp (by rw [HS.out]; rfl)
        clear hbit HS
        go_wp2
        go_roundw
        case rel => exact ⟨k + 1, by omega, by go_num, by rw [HS2.out]; exact HO, hb⟩
        case measure => simp [intOf]; omega
      · rw [hbit] at hodd HS
        have HS2 : Hid (SM.turned (headL t p s) a q (k + 1) = SM.flip (SM.turned (headL t p s) a q k) (a + k)) := hidp (by rw [HS.out]; rfl)
        clear hbit HS
        have hj : (a + k) / 64 < 8 := by omega
        have hm : (a + k) % 64 < 64 := Nat.mod_lt _ (by omega)
        have hcell := HO.out.cellAt ((a + k) / 64) (by omega)
        rw [wordVs_at _ _ (by rw [HL.out k]; exact hj)] at hcell
        have hfr := HO.out.frozenAt ((a + k) / 64)
        have hx := getD_lt (by omega) (HW.out k) ((a + k) / 64)
        have HF := hidp (flip_vs (SM.turned (headL t p s) a q k) (a + k))
        generalize (SM.turned (headL t p s) a q k).getD ((a + k) / 64) 0 = x at *
        have HX := hidp (turn_math x ((a + k) % 64) hx hm)
        go_wp2
        go_roundw
        case rel =>
          rw [HX.out]
          exact ⟨k + 1, by omega, by go_num, hidp (by rw [HS2.out, ← HF.out]; exact (HO.out.stored _ _).1), hb.setCell (by exact (HO.out.lt g rfl).1) _⟩
        case measure => simp [intOf]; omega
    · obtain rfl : k = 32 := by omega
      have HR2 := hidp (Reads.of_own HO.out)
      have HL2 := hidp (HL.out 32)
      have HW2 := hidp (HW.out 32)
      clear HT0
      go_wp2_with fail
      refine (hdDecode_c (some ⟨g, 0, none⟩) cap 8 (SM.turned (headL t p s) a q 32) HL2 hcp3 hcp4 HW2 _ HR2 0 0 0 9 HNO).mono ?_
      rintro e w3 ⟨rfl, hb3⟩
      go_wp2_with fail
      refine (num_c 9 (by omega) (by omega) _).mono ?_
      rintro e w4 ⟨rfl, rfl⟩
      go_wp2_with fail
      refine (live_c _).mono ?_
      rintro e w8 ⟨rfl, hb8⟩
      go_wp2
      go_ret
      refine ⟨rfl, ?_⟩
      repeat (first | assumption | (with_reducible refine Bgo ?_ (by assumption)) | (with_reducible refine Bdrew ?_) | (with_reducible refine Bdraw ?_ _) | (with_reducible refine Bnew ?_ _))

theorem HeadTorn_calls (t p s a : Int) (q : Nat) (ha : -9223372036854775808 ≤ a) (ha' : a ≤ 9223372036854775807) (hq : q < 2 ^ 32) (w : World) :
    Calls Try.prog 6 #[.agg #[.int .i64 t, .int .i64 p, .int .i64 s], .int .i64 a, .int .u32 (q : Int)] w (Keeps w) := by
  cases hr : rightB t p s
  · exact HeadTorn_no t p s a q hr w
  · by_cases h1 : q = 0
    · exact HeadTorn_z t p s a q hr h1 ha ha' hq w
    · have h1' : ((q : Int) == 0) = false := by simp; omega
      by_cases h2 : a < 0
      · exact HeadTorn_l t p s a q hr h1' h2 ha ha' hq w
      · by_cases h3 : 480 < a
        · exact HeadTorn_g t p s a q hr h1' h3 ha ha' hq w
        · obtain ⟨b, rfl⟩ := Int.eq_ofNat_of_zero_le (show 0 ≤ a by omega)
          exact HeadTorn_main t p s b q hr (by omega) hq (hidp h1) h1' w

end Go.Proofs.Ytdhpjlbcldcfjaa
