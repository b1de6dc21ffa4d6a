/-
  The example of the page, and the calls of PlaceCells and PlaceWords.
-/
import Derived.Test.YtiinomkppehkjaaPlaceRefAt
import Derived.Lib.SmallJoins
namespace Go.Proofs.Ytiinomkppehkjaa
open Go.ChangeShapes Go.WideShapes Go.ChangeAt Go.RowKit
set_option linter.unusedVariables false
set_option linter.unusedSimpArgs false

set_option maxHeartbeats 1600000 in
theorem live_c (w : World) : Calls Try.prog 29 #[] w fun e w' => e = .returned (.bool true) ∧ Below w.heap.size w w' := by
  have H1 := hidp (show lC 2 4 10 = 62 by decide)
  have H2 := hidp (show lW 2 4 10 = 440 by decide)
  have H3 := hidp (show noteI 2 4 10 0 = 96 by decide)
  have H4 := hidp (show atT 2 4 10 8 = (2, 0, 0) by decide)
  have hc := Held.new w 23 #[.int .i64 2, .int .i64 4, .int .i64 10]
  go_enter Try.func29, Try.ntmps29
  go_wp2_with fail
  refine (plCells_c 2 4 10 _).mono ?_
  rintro e w1 ⟨rfl, hb1⟩
  rw [H1.out]
  have hc1 := hc.keep hb1
  obtain ⟨x0, x1, x2⟩ := hc1.three
  go_wp2_with fail
  refine (plWords_c 2 4 10 _).mono ?_
  rintro e w2 ⟨rfl, hb2⟩
  rw [H2.out]
  have hc2 := hc1.keep hb2
  clear x0 x1 x2
  obtain ⟨x0, x1, x2⟩ := hc2.three
  go_wp2_with fail
  refine (plNote_c 2 4 10 0 _).mono ?_
  rintro e w3 ⟨rfl, hb3⟩
  rw [H3.out]
  have hc3 := hc2.keep hb3
  clear x0 x1 x2
  obtain ⟨x0, x1, x2⟩ := hc3.three
  go_wp2_with fail
  refine (plAt_c 2 4 10 8 _ _ _ H4.out _).mono ?_
  rintro e w4 ⟨rfl, hb4⟩
  go_wp2
  go_ret
  exact ⟨by first | rfl | trivial, Bgo (Bgo (Bgo (Bgo (Bnew (B0 _) _) hb1) hb2) hb3) hb4⟩

set_option maxHeartbeats 8000000 in
theorem PlaceCells_calls (t p s i f : Int) (w : World) : Calls Try.prog 3 #[.agg #[.int .i64 t, .int .i64 p, .int .i64 s], .int .i64 i, .int .i64 f] w (Keeps w) := by
  have hc := (Held.new w 23 #[.int .i64 t, .int .i64 p, .int .i64 s]).three
  go_enter Try.func3, Try.ntmps3
  go_wp2_with fail
  go_region_held3 (fun w' => w'.cell? ⟨w.heap.size, 0, none⟩ = some (.int .i64 t) ∧ w'.cell? ⟨w.heap.size, 1, none⟩ = some (.int .i64 p) ∧ w'.cell? ⟨w.heap.size, 2, none⟩ = some (.int .i64 s))
    (first | exact hc | go_keep | exact ⟨hst _ _ (by assumption), hst _ _ (by assumption), hst _ _ (by assumption)⟩)
    (first
      | (go_at_call 7; refine (plBin_c i _).mono ?_; rintro e w' ⟨rfl, rfl⟩)
      | (go_at_call 9; refine (plRack_c i _).mono ?_; rintro e w' ⟨rfl, rfl⟩)
      | (go_at_call 11; refine (plRoot_c i _).mono ?_; rintro e w' ⟨rfl, rfl⟩)
      | (go_at_call 8; refine (r7Bin_c i _).mono ?_; rintro e w' ⟨rfl, rfl⟩)
      | (go_at_call 10; refine (r7Rack_c i _).mono ?_; rintro e w' ⟨rfl, rfl⟩)
      | (go_at_call 12; refine (r7Root_c i _).mono ?_; rintro e w' ⟨rfl, rfl⟩)
      | (go_at_call 13; refine (plDone_c t p s i f _).mono ?_; rintro e w' ⟨rfl, hbl⟩; have hst := cells_stay hbl)
      | (go_at_call 14; refine (r7Done_c t p s i f _).mono ?_; rintro e w' ⟨rfl, hbl⟩; have hst := cells_stay hbl)
      | (go_at_call 15; refine (plCells_c t p s _).mono ?_; rintro e w' ⟨rfl, hbl⟩; have hst := cells_stay hbl)
      | (go_at_call 16; refine (r7Cells_c t p s _).mono ?_; rintro e w' ⟨rfl, hbl⟩; have hst := cells_stay hbl))
  go_wp2_with fail
  go_region_held3 (fun w' => w'.cell? ⟨w.heap.size, 0, none⟩ = some (.int .i64 t) ∧ w'.cell? ⟨w.heap.size, 1, none⟩ = some (.int .i64 p) ∧ w'.cell? ⟨w.heap.size, 2, none⟩ = some (.int .i64 s))
    (first | exact ⟨by assumption, by assumption, by assumption⟩ | go_keep | exact ⟨hst _ _ (by assumption), hst _ _ (by assumption), hst _ _ (by assumption)⟩)
    (first
      | (go_at_call 17; refine (plInfo_c t p s i _).mono ?_; rintro e w' ⟨rfl, hbl⟩; have hst := cells_stay hbl)
      | (go_at_call 19; refine (plFoot_c t p s i _).mono ?_; rintro e w' ⟨rfl, hbl⟩; have hst := cells_stay hbl)
      | (go_at_call 21; refine (plNext_c t p s i _).mono ?_; rintro e w' ⟨rfl, hbl⟩; have hst := cells_stay hbl)
      | (go_at_call 23; refine (plPrev_c t p s i _).mono ?_; rintro e w' ⟨rfl, hbl⟩; have hst := cells_stay hbl)
      | (go_at_call 18; refine (r7Info_c t p s i _).mono ?_; rintro e w' ⟨rfl, hbl⟩; have hst := cells_stay hbl)
      | (go_at_call 20; refine (r7Foot_c t p s i _).mono ?_; rintro e w' ⟨rfl, hbl⟩; have hst := cells_stay hbl)
      | (go_at_call 22; refine (r7Next_c t p s i _).mono ?_; rintro e w' ⟨rfl, hbl⟩; have hst := cells_stay hbl)
      | (go_at_call 24; refine (r7Prev_c t p s i _).mono ?_; rintro e w' ⟨rfl, hbl⟩; have hst := cells_stay hbl))
  go_wp2_with fail
  go_region_held3 (fun w' => w'.cell? ⟨w.heap.size, 0, none⟩ = some (.int .i64 t) ∧ w'.cell? ⟨w.heap.size, 1, none⟩ = some (.int .i64 p) ∧ w'.cell? ⟨w.heap.size, 2, none⟩ = some (.int .i64 s))
    (first | exact ⟨by assumption, by assumption, by assumption⟩ | go_keep | exact ⟨hst _ _ (by assumption), hst _ _ (by assumption), hst _ _ (by assumption)⟩)
    (first
      | (go_at_call 25; refine (plSlots_c t p s i _).mono ?_; rintro e w' ⟨rfl, hbl⟩; have hst := cells_stay hbl)
      | (go_at_call 27; refine (plTaken_c t p s i _).mono ?_; rintro e w' ⟨rfl, hbl⟩; have hst := cells_stay hbl)
      | (go_at_call 26; refine (r7Slots_c t p s i _).mono ?_; rintro e w' ⟨rfl, hbl⟩; have hst := cells_stay hbl)
      | (go_at_call 28; refine (r7Taken_c t p s i _).mono ?_; rintro e w' ⟨rfl, hbl⟩; have hst := cells_stay hbl)
      | (go_at_call 29; refine (live_c _).mono ?_; rintro e w' ⟨rfl, hbl⟩; have hst := cells_stay hbl))
  go_wp2
  go_ret
  refine ⟨rfl, ?_⟩
  repeat (first | exact B0 _ | (with_reducible refine Bgo ?_ (by assumption)) | (with_reducible refine Bdrew ?_) | (with_reducible refine Bdraw ?_ _) | (with_reducible refine Bnew ?_ _))

set_option maxHeartbeats 8000000 in
theorem PlaceWords_calls (t p s m i : Int) (w : World) : Calls Try.prog 4 #[.agg #[.int .i64 t, .int .i64 p, .int .i64 s], .int .i64 m, .int .i64 i] w (Keeps w) := by
  have hc := (Held.new w 23 #[.int .i64 t, .int .i64 p, .int .i64 s]).three
  obtain ⟨k, a, b, ha⟩ : ∃ k a b, atT t p s i = (k, a, b) := ⟨_, _, _, rfl⟩
  have HA := hidp ha
  clear ha
  go_enter Try.func4, Try.ntmps4
  go_wp2_with fail
  go_region_held3 (fun w' => w'.cell? ⟨w.heap.size, 0, none⟩ = some (.int .i64 t) ∧ w'.cell? ⟨w.heap.size, 1, none⟩ = some (.int .i64 p) ∧ w'.cell? ⟨w.heap.size, 2, none⟩ = some (.int .i64 s))
    (first | exact hc | go_keep | exact ⟨hst _ _ (by assumption), hst _ _ (by assumption), hst _ _ (by assumption)⟩)
    (first
      | (go_at_call 30; refine (plWords_c t p s _).mono ?_; rintro e w' ⟨rfl, hbl⟩; have hst := cells_stay hbl)
      | (go_at_call 32; refine (plWord_c t p s i _).mono ?_; rintro e w' ⟨rfl, hbl⟩; have hst := cells_stay hbl)
      | (go_at_call 34; refine (plCall_c t p s m i _).mono ?_; rintro e w' ⟨rfl, hbl⟩; have hst := cells_stay hbl)
      | (go_at_call 36; refine (plNote_c t p s m _).mono ?_; rintro e w' ⟨rfl, hbl⟩; have hst := cells_stay hbl)
      | (go_at_call 38; refine (plLog_c t p s m i _).mono ?_; rintro e w' ⟨rfl, hbl⟩; have hst := cells_stay hbl)
      | (go_at_call 31; refine (r7Words_c t p s _).mono ?_; rintro e w' ⟨rfl, hbl⟩; have hst := cells_stay hbl)
      | (go_at_call 33; refine (r7Word_c t p s i _).mono ?_; rintro e w' ⟨rfl, hbl⟩; have hst := cells_stay hbl)
      | (go_at_call 35; refine (r7Call_c t p s m i _).mono ?_; rintro e w' ⟨rfl, hbl⟩; have hst := cells_stay hbl)
      | (go_at_call 37; refine (r7Note_c t p s m _).mono ?_; rintro e w' ⟨rfl, hbl⟩; have hst := cells_stay hbl)
      | (go_at_call 39; refine (r7Log_c t p s m i _).mono ?_; rintro e w' ⟨rfl, hbl⟩; have hst := cells_stay hbl))
  go_wp2_with fail
  go_region_held3 (fun w' => w'.cell? ⟨w.heap.size, 0, none⟩ = some (.int .i64 t) ∧ w'.cell? ⟨w.heap.size, 1, none⟩ = some (.int .i64 p) ∧ w'.cell? ⟨w.heap.size, 2, none⟩ = some (.int .i64 s))
    (first | exact ⟨by assumption, by assumption, by assumption⟩ | go_keep | exact ⟨hst _ _ (by assumption), hst _ _ (by assumption), hst _ _ (by assumption)⟩)
    (first
      | (go_at_call 40; refine (plAt_c t p s i k a b HA.out _).mono ?_; rintro e w' ⟨rfl, hbl⟩; have hst := cells_stay hbl)
      | (go_at_call 41; refine (r7At_c t p s i k a b HA.out _).mono ?_; rintro e w' ⟨rfl, hbl⟩; have hst := cells_stay hbl)
      | (go_at_call 29; refine (live_c _).mono ?_; rintro e w' ⟨rfl, hbl⟩; have hst := cells_stay hbl))
  go_wp2
  go_ret
  refine ⟨rfl, ?_⟩
  repeat (first | exact B0 _ | (with_reducible refine Bgo ?_ (by assumption)) | (with_reducible refine Bdrew ?_) | (with_reducible refine Bdraw ?_ _) | (with_reducible refine Bnew ?_ _))

end Go.Proofs.Ytiinomkppehkjaa
