/-
  The page's examples; the walks of AddrOf and AddrSlots.
-/
import Derived.Test.YtnbocmnfcgjimaaDoorAddrRef2
import Derived.Test.YtnbocmnfcgjimaaDoorLaid
import Derived.Lib.SmallJoins
namespace Go.Proofs.YtnbocmnfcgjimaaDoor
open Go.ChangeShapes Go.WideShapes Go.ChangeAt Go.RowKit
set_option linter.unusedVariables false
set_option linter.unusedSimpArgs false

theorem open_conf {H : Type} {enc : TypeId × Value → H} {W : World} {b base : Nat} {sp : Nat → Bool} {held : Bool} {v : Value} {d : DataW H} {p : List MemPlace}
    (hv : Value.okWide Tryd.prog W .any b 23 v) (h : DataW.Trod enc Tryd.prog W base sp held 23 v d p) :
    ∃ (t q s : Int), v = .agg #[.int .i64 t, .int .i64 q, .int .i64 s] := by
  obtain ⟨v0, v1, v2, y0, y1, y2, m, rfl, rfl, rfl, h0, h1, h2⟩ := Joins.open_agg3 Tryd.underlying23 (by kernel_rfl) (by kernel_rfl) hv h
  obtain ⟨a, e0, _, w0⟩ := DataW.trod_int Tryd.underlying3 h0
  obtain ⟨c, e1, _, w1⟩ := DataW.trod_int Tryd.underlying3 h1
  obtain ⟨k, e2, _, w2⟩ := DataW.trod_int Tryd.underlying3 h2
  simp at e0 e1 e2
  subst e0 e1 e2
  exact ⟨a, c, k, rfl⟩
theorem open_slot {H : Type} {enc : TypeId × Value → H} {W : World} {b base : Nat} {sp : Nat → Bool} {held : Bool} {v : Value} {d : DataW H} {p : List MemPlace}
    (hv : Value.okWide Tryd.prog W .any b 31 v) (h : DataW.Trod enc Tryd.prog W base sp held 31 v d p) :
    ∃ (k i j : Int), v = .agg #[.int .i64 k, .int .i64 i, .int .i64 j] ∧ -9223372036854775808 ≤ k ∧ k ≤ 9223372036854775807 ∧ -9223372036854775808 ≤ i ∧ i ≤ 9223372036854775807 ∧ -9223372036854775808 ≤ j ∧ j ≤ 9223372036854775807 := by
  obtain ⟨v0, v1, v2, y0, y1, y2, m, rfl, rfl, rfl, h0, h1, h2⟩ := Joins.open_agg3 Tryd.underlying31 (by kernel_rfl) (by kernel_rfl) hv h
  obtain ⟨a, e0, _, w0⟩ := DataW.trod_int Tryd.underlying3 h0
  obtain ⟨c, e1, _, w1⟩ := DataW.trod_int Tryd.underlying3 h1
  obtain ⟨k, e2, _, w2⟩ := DataW.trod_int Tryd.underlying3 h2
  simp at e0 e1 e2
  subst e0 e1 e2
  exact ⟨a, c, k, rfl, (i64_bounds w0).1, (i64_bounds w0).2, (i64_bounds w1).1, (i64_bounds w1).2, (i64_bounds w2).1, (i64_bounds w2).2⟩

theorem slots_laid {W : World} {laid : List (String × DataW Unit)} (h : laidMetH Tryd.prog laid W)
    (hf : (laid.filter fun x => x.1 == "nacre/class.slots") = [("nacre/class.slots", Lib.tabData .i64 [32, 21, 16, 10, 8, 5, 4, 3, 2])]) : SlotsLaid W := by
  have h1 := tab_of_laid h hf (g := 0) (t := 53) (e := 3) (n := 9) (by kernel_rfl) (by kernel_rfl) Tryd.underlying53 Tryd.underlying3 (by kernel_rfl) (by kernel_rfl)
  intro k hk
  rw [h1 k (by simpa using hk)]
  have : ∀ j, j < 9 → ([32, 21, 16, 10, 8, 5, 4, 3, 2] : List Int).getD j 0 = ((slotN j : Nat) : Int) := by decide
  rw [this k hk]

theorem ex_of : addrI 1 4 10 0 5 = 1029 ∧ addrB 1 4 10 0 5 = true := by decide +kernel
theorem ex_slot : slotR 1 4 10 1 48 = 1 ∧ slotB 1 4 10 1 48 = true := by decide +kernel

set_option maxHeartbeats 800000 in
theorem live_c (w : World) (hT : SlotsLaid w) : Calls Tryd.prog 11 #[] w (Keeps w) := by
  have HT := hidp hT
  clear hT
  go_enter Tryd.func11, Tryd.ntmps11
  go_wp2_with fail
  refine (adOf_c 1 4 10 0 5 _).mono ?_
  rintro e w1 ⟨rfl, hb1⟩
  rw [ex_of.1, ex_of.2]
  have hc1 := (Held.new w 23 #[.int .i64 1, .int .i64 4, .int .i64 10]).keep hb1
  have HT1 := hidp ((HT.out.alloc _).below hb1)
  have c3 := hc1.three
  go_wp2_with fail
  refine (adSlot_c 1 4 10 1 48 (by omega) (by omega) (by omega) (by omega) _ HT1.out).mono ?_
  rintro e w2 ⟨rfl, hb2⟩
  rw [ex_slot.1, ex_slot.2]
  go_wp2
  go_ret
  refine ⟨rfl, ?_⟩
  repeat (first | exact B0 _ | (with_reducible refine Bgo ?_ (by assumption)) | (with_reducible refine Bdrew ?_) | (with_reducible refine Bdraw ?_ _) | (with_reducible refine Bnew ?_ _) | (with_reducible refine Bput ?_ (by first | (simp; done) | (simp; omega)) _))

set_option maxHeartbeats 1600000 in
theorem AddrOf_calls (t p s i n : Int) (hn0 : -9223372036854775808 ≤ n) (hn1 : n ≤ 9223372036854775807) (w : World) (hT : SlotsLaid w) :
    Calls Tryd.prog 3 #[.agg #[.int .i64 t, .int .i64 p, .int .i64 s], .int .i64 i, .int .i64 n] w (Keeps w) := by
  have HT := hidp hT
  clear hT
  have hc := Held.new w 23 #[.int .i64 t, .int .i64 p, .int .i64 s]
  go_enter Tryd.func3, Tryd.ntmps3
  go_wp2_with fail
  refine (adOf_c t p s i n _).mono ?_
  rintro e w1 ⟨rfl, hb1⟩
  have HT1 := hidp ((HT.out.alloc _).below hb1)
  have hc1 := hc.keep hb1
  have c1 := hc1.three
  go_wp2_with fail
  refine (r6Of_c t p s i n _).mono ?_
  rintro e w2 ⟨rfl, hb2⟩
  have HT2 := hidp (HT1.out.below hb2)
  have hc2 := hc1.keep hb2
  clear c1
  have c1 := hc2.three
  go_wp2_with fail
  refine (adPage_c t p s n hn0 hn1 _).mono ?_
  rintro e w3 ⟨rfl, hb3⟩
  have HT3 := hidp (HT2.out.below hb3)
  have hc3 := hc2.keep hb3
  clear c1
  have c1 := hc3.three
  go_wp2_with fail
  refine (r6Page_c t p s n hn0 hn1 _).mono ?_
  rintro e w4 ⟨rfl, hb4⟩
  have HT4 := hidp (HT3.out.below hb4)
  go_wp2_with fail
  refine (live_c _ HT4.out).mono ?_
  rintro e w5 ⟨rfl, hb5⟩
  go_wp2
  go_ret
  refine ⟨by first | rfl | simp, ?_⟩
  repeat (first | exact B0 _ | (with_reducible refine Bgo ?_ (by assumption)) | (with_reducible refine Bdrew ?_) | (with_reducible refine Bdraw ?_ _) | (with_reducible refine Bnew ?_ _) | (with_reducible refine Bput ?_ (by first | (simp; done) | (simp; omega)) _))

set_option maxHeartbeats 1600000 in
theorem AddrSlots_calls (t p s k i j n : Int) (hk0 : -9223372036854775808 ≤ k) (hk1 : k ≤ 9223372036854775807) (hn0 : -9223372036854775808 ≤ n) (hn1 : n ≤ 9223372036854775807) (w : World) (hT : SlotsLaid w) :
    Calls Tryd.prog 4 #[.agg #[.int .i64 t, .int .i64 p, .int .i64 s], .agg #[.int .i64 k, .int .i64 i, .int .i64 j], .int .i64 n] w (Keeps w) := by
  have HT := hidp hT
  clear hT
  have hc := (Held.new w 23 #[.int .i64 t, .int .i64 p, .int .i64 s]).alloc (.cells #[.int .i64 k, .int .i64 i, .int .i64 j] 31)
  have hz := Held.new2 w (.cells #[.int .i64 t, .int .i64 p, .int .i64 s] 23) 31 #[.int .i64 k, .int .i64 i, .int .i64 j]
  go_enter Tryd.func4, Tryd.ntmps4
  go_wp2_with fail
  refine (adAt_c t p s k i j hk0 hk1 _ ((HT.out.alloc _).alloc _)).mono ?_
  rintro e w1 ⟨rfl, hb1⟩
  have HT1 := hidp (((HT.out.alloc _).alloc _).below hb1)
  have hc1 := hc.keep hb1
  have hz1 := hz.keep hb1
  have c1 := hc1.three
  have d1 := hz1.three
  go_wp2_with fail
  refine (r6At_c t p s k i j hk0 hk1 _).mono ?_
  rintro e w2 ⟨rfl, hb2⟩
  have HT2 := hidp (HT1.out.below hb2)
  have hc2 := hc1.keep hb2
  have hz2 := hz1.keep hb2
  clear c1 d1
  have c1 := hc2.three
  have d1 := hz2.three
  go_wp2_with fail
  refine (adSlot_c t p s k n hk0 hk1 hn0 hn1 _ HT2.out).mono ?_
  rintro e w3 ⟨rfl, hb3⟩
  have HT3 := hidp (HT2.out.below hb3)
  have hc3 := hc2.keep hb3
  have hz3 := hz2.keep hb3
  clear c1 d1
  have c1 := hc3.three
  have d1 := hz3.three
  go_wp2_with fail
  refine (r6Slot_c t p s k n hk0 hk1 _).mono ?_
  rintro e w4 ⟨rfl, hb4⟩
  have HT4 := hidp (HT3.out.below hb4)
  have hc4 := hc3.keep hb4
  clear c1 d1
  have c1 := hc4.three
  go_wp2_with fail
  refine (adPages_c t p s n hn0 hn1 _).mono ?_
  rintro e w5 ⟨rfl, hb5⟩
  have HT5 := hidp (HT4.out.below hb5)
  have hc5 := hc4.keep hb5
  clear c1
  have c1 := hc5.three
  go_wp2_with fail
  refine (r6Pages_c t p s n hn0 hn1 _).mono ?_
  rintro e w6 ⟨rfl, hb6⟩
  have HT6 := hidp (HT5.out.below hb6)
  go_wp2_with fail
  refine (live_c _ HT6.out).mono ?_
  rintro e w7 ⟨rfl, hb7⟩
  go_wp2
  go_ret
  refine ⟨by first | rfl | simp, ?_⟩
  repeat (first | exact B0 _ | (with_reducible refine Bgo ?_ (by assumption)) | (with_reducible refine Bdrew ?_) | (with_reducible refine Bdraw ?_ _) | (with_reducible refine Bnew ?_ _) | (with_reducible refine Bput ?_ (by first | (simp; done) | (simp; omega)) _))

end Go.Proofs.YtnbocmnfcgjimaaDoor
