/-
  The example of the page, and the calls of InfoPuts, InfoGets and InfoBack.
-/
import Derived.Test.YtceeilpobdgfdaaInfoGet
import Derived.Lib.SmallJoins
namespace Go.Proofs.Ytceeilpobdgfdaa
open Go.ChangeShapes Go.WideShapes Go.ChangeAt Go.RowKit
set_option linter.unusedVariables false
set_option linter.unusedSimpArgs false

theorem live_c (w : World) : Calls Try.prog 8 #[] w fun e w' => e = .returned (.bool true) ∧ Below w.heap.size w w' := by
  have E1 : infoV 1 4 0 = 65 := by decide
  have E2 : infoV 3 1 2 = 131091 := by decide
  have B1 : infoB 1 4 0 = true := by decide
  have B2 : infoB 3 1 2 = true := by decide
  have F1 := hidp E1
  have F2 := hidp E2
  have F3 := hidp B1
  have F4 := hidp B2
  clear E1 E2 B1 B2
  go_enter Try.func8, Try.ntmps8
  go_wp2_with fail
  refine (inPut_c 1 4 0 _).mono ?_
  rintro e w1 ⟨rfl, hb1⟩
  rw [F1.out, F3.out]
  go_wp2_with fail
  refine (inPut_c 3 1 2 _).mono ?_
  rintro e w2 ⟨rfl, hb2⟩
  rw [F2.out, F4.out]
  go_wp2
  go_ret
  refine ⟨by first | rfl | trivial, ?_⟩
  repeat (first | exact B0 _ | (with_reducible refine Bgo ?_ (by assumption)) | (with_reducible refine Bdrew ?_) | (with_reducible refine Bdraw ?_ _) | (with_reducible refine Bnew ?_ _))

theorem InfoPuts_calls (k l c : Int) (w : World) : Calls Try.prog 3 #[.agg #[.int .i64 k, .int .i64 l, .int .i64 c]] w (Keeps w) := by
  have hc := Held.new w 23 #[.int .i64 k, .int .i64 l, .int .i64 c]
  go_enter Try.func3, Try.ntmps3
  go_wp2_with fail
  refine (inPut_c k l c _).mono ?_
  rintro e w1 ⟨rfl, hb1⟩
  have hc1 := hc.keep hb1
  have l1 := hc1.three
  go_wp2_with fail
  refine (r9Put_c k l c _).mono ?_
  rintro e w2 ⟨rfl, hb2⟩
  go_wp2_with (go_at_call 8; refine (live_c _).mono ?_; rintro e w' ⟨rfl, hbl⟩)
  go_ret
  refine ⟨rfl, ?_⟩
  repeat (first | exact B0 _ | (with_reducible refine Bgo ?_ (by assumption)) | (with_reducible refine Bdrew ?_) | (with_reducible refine Bdraw ?_ _) | (with_reducible refine Bnew ?_ _))

theorem InfoGets_calls (v : Nat) (hv : v < 2 ^ 32) (w : World) : Calls Try.prog 4 #[.int .u32 (v : Int)] w (Keeps w) := by
  obtain ⟨k, l, c, b, hn⟩ : ∃ k l c b, infoG v = (k, l, c, b) := ⟨_, _, _, _, rfl⟩
  have HN := hidp hn
  clear hn
  go_enter Try.func4, Try.ntmps4
  go_wp2_with fail
  refine (inGet_c v k l c b hv HN.out _).mono ?_
  rintro e w3 ⟨rfl, hb3⟩
  have hk := (Held.new w3 23 #[.int .i64 k, .int .i64 l, .int .i64 c])
  go_wp2_with fail
  refine (r9Get_c v k l c b hv HN.out _).mono ?_
  rintro e w4 ⟨rfl, hb4⟩
  have l4 := ((hk.keep hb4).alloc (.cells #[.int .i64 k, .int .i64 l, .int .i64 c] 23)).three
  have t4 := (Held.new w4 23 #[.int .i64 k, .int .i64 l, .int .i64 c]).three
  go_wp2_with (go_at_call 8; refine (live_c _).mono ?_; rintro e w' ⟨rfl, hbl⟩)
  go_ret
  refine ⟨rfl, ?_⟩
  repeat (first | exact B0 _ | (with_reducible refine Bgo ?_ (by assumption)) | (with_reducible refine Bdrew ?_) | (with_reducible refine Bdraw ?_ _) | (with_reducible refine Bnew ?_ _))

theorem InfoBack_calls (k l c : Int) (v : Nat) (hv : v < 2 ^ 32) (w : World) : Calls Try.prog 5 #[.agg #[.int .i64 k, .int .i64 l, .int .i64 c], .int .u32 (v : Int)] w (Keeps w) := by
  have hc := Held.new w 23 #[.int .i64 k, .int .i64 l, .int .i64 c]
  obtain ⟨k1, l1, c1, b, hn⟩ : ∃ k l c b, infoG v = (k, l, c, b) := ⟨_, _, _, _, rfl⟩
  have HN := hidp hn
  cases hr : infoB k l c
  · have HR := hidp hr
    clear hr
    cases b
    · obtain ⟨rfl, rfl, rfl⟩ := infoG_none hn
      clear hn
      go_enter Try.func5, Try.ntmps5
      go_wp2_with fail
      refine (inPut_c k l c _).mono ?_
      rintro e w1 ⟨rfl, hb1⟩
      rw [HR.out]
      go_wp2_with fail
      refine (inGet_c v 0 0 0 false hv HN.out _).mono ?_
      rintro e w2 ⟨rfl, hb2⟩
      have t2 := (Held.new w2 23 #[.int .i64 0, .int .i64 0, .int .i64 0]).three
      go_wp2_with (go_at_call 8; refine (live_c _).mono ?_; rintro e w' ⟨rfl, hbl⟩)
      go_ret
      refine ⟨rfl, ?_⟩
      repeat (first | exact B0 _ | (with_reducible refine Bgo ?_ (by assumption)) | (with_reducible refine Bdrew ?_) | (with_reducible refine Bdraw ?_ _) | (with_reducible refine Bnew ?_ _))
    · obtain ⟨h1, h2⟩ := infoG_back hn
      have H1 := hidp h1
      have H2 := hidp h2
      clear hn h1 h2
      go_enter Try.func5, Try.ntmps5
      go_wp2_with fail
      refine (inPut_c k l c _).mono ?_
      rintro e w1 ⟨rfl, hb1⟩
      rw [HR.out]
      go_wp2_with fail
      refine (inGet_c v k1 l1 c1 true hv HN.out _).mono ?_
      rintro e w2 ⟨rfl, hb2⟩
      have t2 := (Held.new w2 23 #[.int .i64 k1, .int .i64 l1, .int .i64 c1]).three
      go_wp2_with fail
      refine (inPut_c k1 l1 c1 _).mono ?_
      rintro e w3 ⟨rfl, hb3⟩
      rw [H1.out, H2.out]
      go_wp2_with (go_at_call 8; refine (live_c _).mono ?_; rintro e w' ⟨rfl, hbl⟩)
      go_ret
      refine ⟨rfl, ?_⟩
      repeat (first | exact B0 _ | (with_reducible refine Bgo ?_ (by assumption)) | (with_reducible refine Bdrew ?_) | (with_reducible refine Bdraw ?_ _) | (with_reducible refine Bnew ?_ _))
  · have HR := hidp hr
    have HG := hidp (infoG_put hr)
    have hlt := infoV_lt k l c
    obtain ⟨m, hm⟩ : ∃ m, infoV k l c = m := ⟨_, rfl⟩
    rw [hm] at HG hlt
    have HM := hidp hm
    clear hr hm
    cases b
    · obtain ⟨rfl, rfl, rfl⟩ := infoG_none hn
      clear hn
      go_enter Try.func5, Try.ntmps5
      go_wp2_with fail
      refine (inPut_c k l c _).mono ?_
      rintro e w1 ⟨rfl, hb1⟩
      rw [HR.out, HM.out]
      have hc1 := hc.keep hb1
      go_wp2_with fail
      refine (inGet_c m k l c true hlt HG.out _).mono ?_
      rintro e w2 ⟨rfl, hb2⟩
      have hc2 := ((hc1.keep hb2).alloc (.cells #[.int .i64 k, .int .i64 l, .int .i64 c] 23)).three
      have t2 := (Held.new w2 23 #[.int .i64 k, .int .i64 l, .int .i64 c]).three
      go_wp2_with fail
      refine (inGet_c v 0 0 0 false hv HN.out _).mono ?_
      rintro e w3 ⟨rfl, hb3⟩
      have t3 := (Held.new w3 23 #[.int .i64 0, .int .i64 0, .int .i64 0]).three
      go_wp2_with (go_at_call 8; refine (live_c _).mono ?_; rintro e w' ⟨rfl, hbl⟩)
      go_ret
      refine ⟨rfl, ?_⟩
      repeat (first | exact B0 _ | (with_reducible refine Bgo ?_ (by assumption)) | (with_reducible refine Bdrew ?_) | (with_reducible refine Bdraw ?_ _) | (with_reducible refine Bnew ?_ _))
    · obtain ⟨h1, h2⟩ := infoG_back hn
      have H1 := hidp h1
      have H2 := hidp h2
      clear hn h1 h2
      go_enter Try.func5, Try.ntmps5
      go_wp2_with fail
      refine (inPut_c k l c _).mono ?_
      rintro e w1 ⟨rfl, hb1⟩
      rw [HR.out, HM.out]
      have hc1 := hc.keep hb1
      go_wp2_with fail
      refine (inGet_c m k l c true hlt HG.out _).mono ?_
      rintro e w2 ⟨rfl, hb2⟩
      have hc2 := ((hc1.keep hb2).alloc (.cells #[.int .i64 k, .int .i64 l, .int .i64 c] 23)).three
      have t2 := (Held.new w2 23 #[.int .i64 k, .int .i64 l, .int .i64 c]).three
      go_wp2_with fail
      refine (inGet_c v k1 l1 c1 true hv HN.out _).mono ?_
      rintro e w3 ⟨rfl, hb3⟩
      have t3 := (Held.new w3 23 #[.int .i64 k1, .int .i64 l1, .int .i64 c1]).three
      go_wp2_with fail
      refine (inPut_c k1 l1 c1 _).mono ?_
      rintro e w4 ⟨rfl, hb4⟩
      rw [H1.out, H2.out]
      go_wp2_with (go_at_call 8; refine (live_c _).mono ?_; rintro e w' ⟨rfl, hbl⟩)
      go_ret
      refine ⟨rfl, ?_⟩
      repeat (first | exact B0 _ | (with_reducible refine Bgo ?_ (by assumption)) | (with_reducible refine Bdrew ?_) | (with_reducible refine Bdraw ?_ _) | (with_reducible refine Bnew ?_ _))

theorem open_info {H : Type} {enc : TypeId × Value → H} {W : World} {b base : Nat} {sp : Nat → Bool} {held : Bool} {v : Value} {d : DataW H} {p : List MemPlace}
    (hv : Value.okWide Try.prog W .any b 23 v) (h : DataW.Trod enc Try.prog W base sp held 23 v d p) :
    ∃ (t q s : Int), v = .agg #[.int .i64 t, .int .i64 q, .int .i64 s] := by
  obtain ⟨v0, v1, v2, y0, y1, y2, m, rfl, rfl, rfl, h0, h1, h2⟩ := Joins.open_agg3 Try.underlying23 (by kernel_rfl) (by kernel_rfl) hv h
  obtain ⟨a, e0, _, w0⟩ := DataW.trod_int Try.underlying3 h0
  obtain ⟨c, e1, _, w1⟩ := DataW.trod_int Try.underlying3 h1
  obtain ⟨k, e2, _, w2⟩ := DataW.trod_int Try.underlying3 h2
  simp at e0 e1 e2
  subst e0 e1 e2
  exact ⟨a, c, k, rfl⟩
end Go.Proofs.Ytceeilpobdgfdaa
