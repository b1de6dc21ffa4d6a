/-
  The walk of ConfBack.
-/
import Derived.Test.YtfkcpkjeoamlmaaConfLaws
namespace Go.Proofs.Ytfkcpkjeoamlmaa
open Go.ChangeShapes Go.WideShapes Go.ChangeAt Go.RowKit
set_option linter.unusedVariables false
set_option linter.unusedSimpArgs false

theorem conf_back {t p s : Int} (h : rightB t p s = true) : wordN t p s < 2 ^ 64 ∧ confOf (wordN t p s) = (t, p, s, true) := by
  have h' := (rightB_iff t p s).1 h
  obtain ⟨t, rfl⟩ : ∃ n : Nat, t = n := ⟨t.toNat, by omega⟩
  obtain ⟨p, rfl⟩ : ∃ n : Nat, p = n := ⟨p.toNat, by omega⟩
  obtain ⟨s, rfl⟩ : ∃ n : Nat, s = n := ⟨s.toNat, by omega⟩
  rw [word_yes h]
  simp only [Int.toNat_natCast]
  have e1 : (t + p * 65536 + s * 4294967296) % 65536 = t := by omega
  have e2 : (t + p * 65536 + s * 4294967296) / 65536 % 65536 = p := by omega
  have e3 : (t + p * 65536 + s * 4294967296) / 4294967296 = s := by omega
  refine ⟨by omega, ?_⟩
  unfold confOf
  rw [e1, e2, e3, if_pos h]
theorem conf_forth {x : Nat} {y1 y2 y3 : Int} {b : Bool} (hx : x < 2 ^ 64) (h : confOf x = (y1, y2, y3, b)) : b = true → rightB y1 y2 y3 = true ∧ wordN y1 y2 y3 = x := by
  rintro rfl
  cases hr : rightB (x % 65536 : Nat) (x / 65536 % 65536 : Nat) (x / 4294967296 : Nat)
  · rw [confOf_no hr] at h
    simp at h
  · rw [confOf_yes hr] at h
    simp only [Prod.mk.injEq] at h
    obtain ⟨rfl, rfl, rfl, _⟩ := h
    obtain ⟨h2, h3⟩ := (confOf_split hx).2 hr
    have h' := (rightB_iff _ _ _).1 hr
    have e : x / 4294967296 % 65536 = x / 4294967296 := by omega
    rw [e] at h3
    exact ⟨hr, h3⟩
theorem conf_great {t p s : Int} (h : rightB t p s = true) : ∃ b g : Nat, bytesN t p s = b ∧ pageN t p s = g ∧ 4096 ≤ b ∧ b ≤ 1073741824 ∧ 0 < g ∧ ((b : Int).tmod g) = 0 := by
  have h' := (rightB_iff t p s).1 h
  refine ⟨_, _, rfl, rfl, ?_⟩
  rw [bytes_yes h, page_yes h]
  have h1 := Nat.pow_le_pow_right (show 0 < 2 by omega) (show 10 ≤ s.toNat by omega)
  have h2 := Nat.pow_le_pow_right (show 0 < 2 by omega) (show s.toNat ≤ 20 by omega)
  generalize 2 ^ s.toNat = g at *
  have h3 : 4 * 2 ^ 10 ≤ p.toNat * g := Nat.mul_le_mul (by omega) h1
  have h4 : p.toNat * g ≤ 1024 * 2 ^ 20 := Nat.mul_le_mul (by omega) h2
  refine ⟨by omega, by omega, by omega, ?_⟩
  rw [Int.tmod_eq_emod_of_nonneg (by omega)]
  norm_cast
  exact Nat.mul_mod_left _ _

set_option maxHeartbeats 4000000 in
theorem ConfBack_no (t p s : Int) (x : Nat) (hx : x < 2 ^ 64) (hr : rightB t p s = false) (w : World) : Calls Try.prog 5 #[.agg #[.int .i64 t, .int .i64 p, .int .i64 s], .int .u64 (x : Int)] w (Keeps w) := by
  have hc := Held.new w 23 #[.int .i64 t, .int .i64 p, .int .i64 s]
  obtain ⟨y1, y2, y3, b, hn⟩ : ∃ y1 y2 y3 b, confOf x = (y1, y2, y3, b) := ⟨_, _, _, _, rfl⟩
  have HY := hidp (conf_forth hx hn)
  have HN := hidp hn
  clear hn
  have HR := hidp hr
  have HK := hidp (check_no hr)
  have HW := hidp (word_no hr)
  clear hr
  go_enter Try.func5, Try.ntmps5
  go_wp2_with fail
  refine (cfWord_c t p s _).mono ?_
  rintro e w1 ⟨rfl, hb1⟩
  rw [HR.out, HW.out]
  have hc1 := hc.keep hb1
  have l1 := hc1.three
  go_wp2_with fail
  refine (cfCheck_c t p s _).mono ?_
  rintro e w2 ⟨rfl, hb2⟩
  rw [HK.out]
  have hc2 := hc1.keep hb2
  have l2 := hc2.three
  go_wp2_with fail
  refine (num_c _ _).mono ?_
  rintro e w3 ⟨rfl, rfl⟩
  go_wp2_with fail
  refine (cfOf_c x y1 y2 y3 b hx HN.out _).mono ?_
  rintro e w8 ⟨rfl, hb8⟩
  cases b
  · go_wp2_with (go_at_call 13; refine (live_c _).mono ?_; rintro e w' ⟨rfl, hbl9⟩)
    go_ret
    refine ⟨rfl, ?_⟩
    repeat (first | exact B0 _ | (with_reducible refine Bgo ?_ (by assumption)) | (with_reducible refine Bdrew ?_) | (with_reducible refine Bdraw ?_ _) | (with_reducible refine Bnew ?_ _))
  · obtain ⟨hr2, hw2⟩ := HY.out rfl
    have HR2 := hidp hr2
    have HW2 := hidp hw2
    clear hr2 hw2
    go_wp2_with fail
    refine (cfWord_c y1 y2 y3 _).mono ?_
    rintro e w9 ⟨rfl, hb9⟩
    rw [HR2.out, HW2.out]
    go_wp2_with (go_at_call 13; refine (live_c _).mono ?_; rintro e w' ⟨rfl, hbl9⟩)
    go_ret
    refine ⟨rfl, ?_⟩
    repeat (first | exact B0 _ | (with_reducible refine Bgo ?_ (by assumption)) | (with_reducible refine Bdrew ?_) | (with_reducible refine Bdraw ?_ _) | (with_reducible refine Bnew ?_ _))

set_option maxHeartbeats 4000000 in
theorem ConfBack_yes (t p s : Int) (x : Nat) (hx : x < 2 ^ 64) (hr : rightB t p s = true) (w : World) : Calls Try.prog 5 #[.agg #[.int .i64 t, .int .i64 p, .int .i64 s], .int .u64 (x : Int)] w (Keeps w) := by
  have hc := Held.new w 23 #[.int .i64 t, .int .i64 p, .int .i64 s]
  obtain ⟨y1, y2, y3, b, hn⟩ : ∃ y1 y2 y3 b, confOf x = (y1, y2, y3, b) := ⟨_, _, _, _, rfl⟩
  have HY := hidp (conf_forth hx hn)
  have HN := hidp hn
  clear hn
  have HR := hidp hr
  have HK := hidp (check_yes hr)
  obtain ⟨m, hm⟩ : ∃ m, wordN t p s = m := ⟨_, rfl⟩
  have hmb := conf_back hr
  obtain ⟨bb, gg, e1, e2, e3, e4, e5, e6⟩ := conf_great hr
  rw [hm] at hmb
  obtain ⟨hm64, hmo⟩ := hmb
  have HW := hidp hm
  have HO := hidp hmo
  have HB := hidp e1
  have HG := hidp e2
  have d1 : decide ((bb : Int) < 4096) = false := by simp; omega
  have d2 : decide ((1073741824 : Int) < bb) = false := by simp; omega
  have d3 : ((gg : Int) == 0) = false := by simp; omega
  have d4 : ¬ gg = 0 := by omega
  clear hm hmo e1 e2 hr
  go_enter Try.func5, Try.ntmps5
  go_wp2_with fail
  refine (cfWord_c t p s _).mono ?_
  rintro e w1 ⟨rfl, hb1⟩
  rw [HR.out, HW.out]
  have hc1 := hc.keep hb1
  have l1 := hc1.three
  go_wp2_with fail
  refine (cfCheck_c t p s _).mono ?_
  rintro e w2 ⟨rfl, hb2⟩
  rw [HK.out]
  have hc2 := hc1.keep hb2
  have l2 := hc2.three
  go_wp2_with fail
  refine (num_c _ _).mono ?_
  rintro e w3 ⟨rfl, rfl⟩
  go_wp2_with fail
  refine (cfOf_c m t p s true hm64 HO.out _).mono ?_
  rintro e w4 ⟨rfl, hb4⟩
  have l4 := ((hc2.keep hb4).alloc (.cells #[.int .i64 t, .int .i64 p, .int .i64 s] 23)).three
  have t4 := (Held.new w4 23 #[.int .i64 t, .int .i64 p, .int .i64 s]).three
  go_wp2_with fail
  go_region_held3 (fun w' => w'.cell? ⟨w.heap.size, 0, none⟩ = some (.int .i64 t) ∧ w'.cell? ⟨w.heap.size, 1, none⟩ = some (.int .i64 p) ∧ w'.cell? ⟨w.heap.size, 2, none⟩ = some (.int .i64 s) ∧
      w'.cell? ⟨w4.heap.size, 0, none⟩ = some (.int .i64 t) ∧ w'.cell? ⟨w4.heap.size, 1, none⟩ = some (.int .i64 p) ∧ w'.cell? ⟨w4.heap.size, 2, none⟩ = some (.int .i64 s))
    (first | exact ⟨l4.1, l4.2.1, l4.2.2, t4.1, t4.2.1, t4.2.2⟩ | go_keep | exact ⟨hst _ _ (by assumption), hst _ _ (by assumption), hst _ _ (by assumption), hst _ _ (by assumption), hst _ _ (by assumption), hst _ _ (by assumption)⟩)
    (first
      | (go_at_call 9; refine (cfPage_c t p s _).mono ?_; rintro e w' ⟨rfl, hbl⟩; rw [HG.out]; have hst := cells_stay hbl)
      | (go_at_call 11; refine (cfBytes_c t p s _).mono ?_; rintro e w' ⟨rfl, hbl⟩; rw [HB.out]; have hst := cells_stay hbl))
  go_wp2_with fail
  refine (cfOf_c x y1 y2 y3 b hx HN.out _).mono ?_
  rintro e w8 ⟨rfl, hb8⟩
  cases b
  · go_wp2_with (go_at_call 13; refine (live_c _).mono ?_; rintro e w' ⟨rfl, hbl9⟩)
    go_ret
    refine ⟨rfl, ?_⟩
    repeat (first | exact B0 _ | (with_reducible refine Bgo ?_ (by assumption)) | (with_reducible refine Bdrew ?_) | (with_reducible refine Bdraw ?_ _) | (with_reducible refine Bnew ?_ _))
  · obtain ⟨hr2, hw2⟩ := HY.out rfl
    have HR2 := hidp hr2
    have HW2 := hidp hw2
    clear hr2 hw2
    go_wp2_with fail
    refine (cfWord_c y1 y2 y3 _).mono ?_
    rintro e w9 ⟨rfl, hb9⟩
    rw [HR2.out, HW2.out]
    go_wp2_with (go_at_call 13; refine (live_c _).mono ?_; rintro e w' ⟨rfl, hbl9⟩)
    go_ret
    refine ⟨rfl, ?_⟩
    repeat (first | exact B0 _ | (with_reducible refine Bgo ?_ (by assumption)) | (with_reducible refine Bdrew ?_) | (with_reducible refine Bdraw ?_ _) | (with_reducible refine Bnew ?_ _))

theorem ConfBack_calls (t p s : Int) (x : Nat) (hx : x < 2 ^ 64) (w : World) : Calls Try.prog 5 #[.agg #[.int .i64 t, .int .i64 p, .int .i64 s], .int .u64 (x : Int)] w (Keeps w) := by
  cases hr : rightB t p s
  · exact ConfBack_no t p s x hx hr w
  · exact ConfBack_yes t p s x hx hr w

theorem ConfBack_walk {H : Type} {enc : TypeId × Value → H} {W : World} {base : Nat} {args : Array Value} {ds : List (DataW H)} {ps : List MemPlace}
    (g : Given enc Try.prog Try.f5 W base args ds ps) : Calls Try.prog 5 args W (Keeps W) := by
  have hval := g.ok
  have hA := g.trod
  rw [Try.params5] at hA hval
  obtain ⟨v0, vs0, d0, ds0, p0, q0, hargs, rfl, rfl, h0, r0⟩ := trodAll_cons hA
  obtain ⟨v1, vs1, d1, ds1, p1, q1, rfl, rfl, rfl, h1, r1⟩ := trodAll_cons r0
  obtain ⟨rfl, rfl, rfl⟩ := trodAll_nil r1
  obtain rfl : args = #[v0, v1] := by cases args; simp_all
  obtain ⟨t, p, s, rfl⟩ := open_conf (hval 0 23 v0 rfl rfl) h0
  obtain ⟨a1, rfl, rfl, rfl, w1⟩ := open_int Try.underlying31 (hval 1 31 v1 rfl rfl) h1
  obtain ⟨x, rfl, hx⟩ := u64_nat w1
  exact ConfBack_calls t p s x hx W

end Go.Proofs.Ytfkcpkjeoamlmaa
