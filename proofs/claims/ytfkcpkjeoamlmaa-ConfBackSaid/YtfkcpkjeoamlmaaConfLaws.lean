/-
  The walks of ConfChecks and ConfWords, and how a configuration is opened.
-/
import Derived.Test.YtfkcpkjeoamlmaaConfLive
import Derived.Lib.SmallJoins
namespace Go.Proofs.Ytfkcpkjeoamlmaa
open Go.ChangeShapes Go.WideShapes Go.ChangeAt Go.RowKit
set_option linter.unusedVariables false
set_option linter.unusedSimpArgs false

set_option maxHeartbeats 4000000 in
theorem ConfChecks_calls (t p s : Int) (w : World) : Calls Try.prog 3 #[.agg #[.int .i64 t, .int .i64 p, .int .i64 s]] w (Keeps w) := by
  have hc := (Held.new w 23 #[.int .i64 t, .int .i64 p, .int .i64 s]).three
  go_enter Try.func3, Try.ntmps3
  go_wp2_with fail
  go_region_held3 (fun w' => w'.cell? ⟨w.heap.size, 0, none⟩ = some (.int .i64 t) ∧ w'.cell? ⟨w.heap.size, 1, none⟩ = some (.int .i64 p) ∧ w'.cell? ⟨w.heap.size, 2, none⟩ = some (.int .i64 s))
    (first | exact hc | go_keep | exact ⟨hst _ _ (by assumption), hst _ _ (by assumption), hst _ _ (by assumption)⟩)
    (first
      | (go_at_call 7; refine (cfCheck_c t p s _).mono ?_; rintro e w' ⟨rfl, hbl⟩; have hst := cells_stay hbl)
      | (go_at_call 6; refine (num_c (checkI t p s) _).mono ?_; rintro e w' ⟨rfl, rfl⟩)
      | (go_at_call 8; refine (r4Check_c t p s _).mono ?_; rintro e w' ⟨rfl, hbl⟩; have hst := cells_stay hbl)
      | (go_at_call 9; refine (cfPage_c t p s _).mono ?_; rintro e w' ⟨rfl, hbl⟩; have hst := cells_stay hbl)
      | (go_at_call 10; refine (r4Page_c t p s _).mono ?_; rintro e w' ⟨rfl, hbl⟩; have hst := cells_stay hbl)
      | (go_at_call 11; refine (cfBytes_c t p s _).mono ?_; rintro e w' ⟨rfl, hbl⟩; have hst := cells_stay hbl)
      | (go_at_call 12; refine (r4Bytes_c t p s _).mono ?_; rintro e w' ⟨rfl, hbl⟩; have hst := cells_stay hbl)
      | (go_at_call 13; refine (live_c _).mono ?_; rintro e w' ⟨rfl, hbl⟩; have hst := cells_stay hbl))
  go_wp2
  go_ret
  refine ⟨rfl, ?_⟩
  repeat (first | exact B0 _ | (with_reducible refine Bgo ?_ (by assumption)) | (with_reducible refine Bdrew ?_) | (with_reducible refine Bdraw ?_ _) | (with_reducible refine Bnew ?_ _))

set_option maxHeartbeats 2000000 in
theorem ConfWords_calls (t p s : Int) (x : Nat) (hx : x < 2 ^ 64) (w : World) : Calls Try.prog 4 #[.agg #[.int .i64 t, .int .i64 p, .int .i64 s], .int .u64 (x : Int)] w (Keeps w) := by
  have hc := Held.new w 23 #[.int .i64 t, .int .i64 p, .int .i64 s]
  obtain ⟨y1, y2, y3, b, hn⟩ : ∃ y1 y2 y3 b, confOf x = (y1, y2, y3, b) := ⟨_, _, _, _, rfl⟩
  have HN := hidp hn
  clear hn
  go_enter Try.func4, Try.ntmps4
  go_wp2_with fail
  refine (cfWord_c t p s _).mono ?_
  rintro e w1 ⟨rfl, hb1⟩
  have hc1 := hc.keep hb1
  have l1 := hc1.three
  go_wp2_with fail
  refine (r4Word_c t p s _).mono ?_
  rintro e w2 ⟨rfl, hb2⟩
  go_wp2_with fail
  refine (cfOf_c x y1 y2 y3 b hx HN.out _).mono ?_
  rintro e w3 ⟨rfl, hb3⟩
  have hk := (Held.new w3 23 #[.int .i64 y1, .int .i64 y2, .int .i64 y3])
  go_wp2_with fail
  refine (r4Of_c x y1 y2 y3 b hx HN.out _).mono ?_
  rintro e w4 ⟨rfl, hb4⟩
  have l4 := ((hk.keep hb4).alloc (.cells #[.int .i64 y1, .int .i64 y2, .int .i64 y3] 23)).three
  have t4 := (Held.new w4 23 #[.int .i64 y1, .int .i64 y2, .int .i64 y3]).three
  go_wp2_with (go_at_call 13; refine (live_c _).mono ?_; rintro e w' ⟨rfl, hbl⟩)
  go_ret
  refine ⟨rfl, ?_⟩
  repeat (first | exact B0 _ | (with_reducible refine Bgo ?_ (by assumption)) | (with_reducible refine Bdrew ?_) | (with_reducible refine Bdraw ?_ _) | (with_reducible refine Bnew ?_ _))

theorem open_conf {H : Type} {enc : TypeId × Value → H} {W : World} {b base : Nat} {sp : Nat → Bool} {held : Bool} {v : Value} {d : DataW H} {p : List MemPlace}
    (hv : Value.okWide Try.prog W .any b 23 v) (h : DataW.Trod enc Try.prog W base sp held 23 v d p) :
    ∃ (t q s : Int), v = .agg #[.int .i64 t, .int .i64 q, .int .i64 s] := by
  obtain ⟨v0, v1, v2, y0, y1, y2, m, rfl, rfl, rfl, h0, h1, h2⟩ := Joins.open_agg3 Try.underlying23 (by kernel_rfl) (by kernel_rfl) hv h
  obtain ⟨a, e0, _, w0⟩ := DataW.trod_int Try.underlying3 h0
  obtain ⟨c, e1, _, w1⟩ := DataW.trod_int Try.underlying3 h1
  obtain ⟨k, e2, _, w2⟩ := DataW.trod_int Try.underlying3 h2
  simp at e0 e1 e2
  subst e0 e1 e2
  exact ⟨a, c, k, rfl⟩

end Go.Proofs.Ytfkcpkjeoamlmaa
