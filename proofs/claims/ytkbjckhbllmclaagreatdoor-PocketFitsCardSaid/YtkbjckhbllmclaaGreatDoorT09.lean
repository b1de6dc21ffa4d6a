/-
  Contracts of the document's answers to place (nacreref07).
-/
import Derived.Test.YtkbjckhbllmclaaGreatDoorT02
import Derived.Deep.RegionHeld3
import Derived.IntWalk
import Derived.KernelRfl
import Derived.Test.YtkbjckhbllmclaaGreatDoorT08
import Derived.Deep.RegionWith
import Derived.Deep.CutRange
import Derived.Test.YtkbjckhbllmclaaGreatDoorT01
import Derived.Test.YtkbjckhbllmclaaGreatDoorT05
namespace Go.Proofs.YtkbjckhbllmclaaGreatDoor
open Go.ChangeShapes Go.WideShapes Go.ChangeAt Go.RowKit
set_option linter.unusedVariables false
set_option linter.unusedSimpArgs false
section
theorem r7Bin_c (k : Int) (w : World) :
    Calls Tryz.prog 63 #[.int .i64 k] w fun z w' => z = .returned (.int .i64 (nthI 2 11 1 k)) ∧ w = w' := by
  by_cases c0 : k < 0
  · have HN := hidp (nth_off (f := 2) (n := 11) (e := 1) (.inr (.inl c0)))
    go_enter Tryz.func63, Tryz.ntmps63
    go_wp2
    go_ret
    exact ⟨by rw [HN.out]; rfl, rfl⟩
  · by_cases c1 : 11 ≤ k
    · have HN := hidp (nth_off (f := 2) (n := 11) (e := 1) (.inr (.inr c1)))
      go_enter Tryz.func63, Tryz.ntmps63
      go_wp2
      go_ret
      exact ⟨by rw [HN.out]; rfl, rfl⟩
    · have HN := hidp (show nthI 2 11 1 k = 2 + k by rw [nth_on (by omega) (by omega) (by omega)]; omega)
      go_enter Tryz.func63, Tryz.ntmps63
      go_wp2
      go_ret
      exact ⟨by rw [HN.out]; rfl, rfl⟩

theorem r7Rack_c (k : Int) (w : World) :
    Calls Tryz.prog 66 #[.int .i64 k] w fun z w' => z = .returned (.int .i64 (nthI 13 9 1 k)) ∧ w = w' := by
  by_cases c0 : k < 0
  · have HN := hidp (nth_off (f := 13) (n := 9) (e := 1) (.inr (.inl c0)))
    go_enter Tryz.func66, Tryz.ntmps66
    go_wp2
    go_ret
    exact ⟨by rw [HN.out]; rfl, rfl⟩
  · by_cases c1 : 9 ≤ k
    · have HN := hidp (nth_off (f := 13) (n := 9) (e := 1) (.inr (.inr c1)))
      go_enter Tryz.func66, Tryz.ntmps66
      go_wp2
      go_ret
      exact ⟨by rw [HN.out]; rfl, rfl⟩
    · have HN := hidp (show nthI 13 9 1 k = 13 + k by rw [nth_on (by omega) (by omega) (by omega)]; omega)
      go_enter Tryz.func66, Tryz.ntmps66
      go_wp2
      go_ret
      exact ⟨by rw [HN.out]; rfl, rfl⟩

theorem r7Root_c (k : Int) (w : World) :
    Calls Tryz.prog 73 #[.int .i64 k] w fun z w' => z = .returned (.int .i64 (nthI 22 8 1 k)) ∧ w = w' := by
  by_cases c0 : k < 0
  · have HN := hidp (nth_off (f := 22) (n := 8) (e := 1) (.inr (.inl c0)))
    go_enter Tryz.func73, Tryz.ntmps73
    go_wp2
    go_ret
    exact ⟨by rw [HN.out]; rfl, rfl⟩
  · by_cases c1 : 8 ≤ k
    · have HN := hidp (nth_off (f := 22) (n := 8) (e := 1) (.inr (.inr c1)))
      go_enter Tryz.func73, Tryz.ntmps73
      go_wp2
      go_ret
      exact ⟨by rw [HN.out]; rfl, rfl⟩
    · have HN := hidp (show nthI 22 8 1 k = 22 + k by rw [nth_on (by omega) (by omega) (by omega)]; omega)
      go_enter Tryz.func73, Tryz.ntmps73
      go_wp2
      go_ret
      exact ⟨by rw [HN.out]; rfl, rfl⟩

theorem r7Cells_c (t p s : Int) (w : World) :
    Calls Tryz.prog 34 #[.agg #[.int .i64 t, .int .i64 p, .int .i64 s]] w fun z w' => z = .returned (.int .i64 (lC t p s)) ∧ Below w.heap.size w w' := by
  have hc := Held.new w 23 #[.int .i64 t, .int .i64 p, .int .i64 s]
  cases hr : rightB t p s
  · have HR := hidp hr
    have HN := hidp (lay_no hr).hC
    clear hr
    go_enter Tryz.func34, Tryz.ntmps34
    go_wp2_with fail
    refine (r4Right_c t p s _).mono ?_
    rintro e w1 ⟨rfl, hb1⟩
    rw [HR.out]
    have hc1 := hc.keep hb1
    obtain ⟨x0, x1, x2⟩ := hc1.three
    go_wp2
    go_ret
    exact ⟨by rw [HN.out]; rfl, Bgo (Bnew (B0 _) _) hb1⟩
  · have HR := hidp hr
    have HN := hidp (lay_yes hr).hC
    have hn := (rightB_iff t p s).1 hr
    have t0 : 1 ≤ t := by omega
    have t1 : t ≤ 16 := by omega
    have p0 : 4 ≤ p := by omega
    have p1 : p ≤ 1024 := by omega
    clear hn
    clear hr
    go_enter Tryz.func34, Tryz.ntmps34
    go_wp2_with fail
    refine (r4Right_c t p s _).mono ?_
    rintro e w1 ⟨rfl, hb1⟩
    rw [HR.out]
    have hc1 := hc.keep hb1
    obtain ⟨x0, x1, x2⟩ := hc1.three
    go_wp2
    go_ret
    exact ⟨by rw [HN.out]; rfl, Bgo (Bnew (B0 _) _) hb1⟩

set_option maxHeartbeats 1600000 in
theorem r7Page_c (t p s q b : Int) (b0 : 0 ≤ b) (b1 : b < 6) (w : World) :
    Calls Tryz.prog 97 #[.agg #[.int .i64 t, .int .i64 p, .int .i64 s], .int .i64 q, .int .i64 b] w fun z w' => z = .returned (.int .i64 (pageI t p s q b)) ∧ Below w.heap.size w w' := by
  have hc := Held.new w 23 #[.int .i64 t, .int .i64 p, .int .i64 s]
  cases hr : rightB t p s
  · have HR := hidp hr
    have HN := hidp (show pageI t p s q b = -1 from pcell_no (by intro h; rw [h.1] at hr; cases hr))
    clear hr
    go_enter Tryz.func97, Tryz.ntmps97
    go_wp2_with fail
    refine (r4Right_c t p s _).mono ?_
    rintro e w1 ⟨rfl, hb1⟩
    rw [HR.out]
    have hc1 := hc.keep hb1
    obtain ⟨x0, x1, x2⟩ := hc1.three
    go_wp2
    go_ret
    refine ⟨by rw [HN.out]; rfl, ?_⟩
    repeat (first | exact B0 _ | (with_reducible refine Bgo ?_ (by assumption)) | (with_reducible refine Bdrew ?_) | (with_reducible refine Bdraw ?_ _) | (with_reducible refine Bnew ?_ _) | (with_reducible refine Bput ?_ (by first | (simp; done) | (simp; omega)) _))
  · have HR := hidp hr
    have hn := (rightB_iff t p s).1 hr
    have t0 : 1 ≤ t := by omega
    have t1 : t ≤ 16 := by omega
    have p0 : 4 ≤ p := by omega
    have p1 : p ≤ 1024 := by omega
    clear hn
    by_cases c0 : q < 0
    · clear hr
      have HN := hidp (show pageI t p s q b = -1 from pcell_no (by intro h; omega))
      go_enter Tryz.func97, Tryz.ntmps97
      go_wp2_with fail
      refine (r4Right_c t p s _).mono ?_
      rintro e w1 ⟨rfl, hb1⟩
      rw [HR.out]
      have hc1 := hc.keep hb1
      obtain ⟨x0, x1, x2⟩ := hc1.three
      go_wp2
      go_ret
      refine ⟨by rw [HN.out]; rfl, ?_⟩
      repeat (first | exact B0 _ | (with_reducible refine Bgo ?_ (by assumption)) | (with_reducible refine Bdrew ?_) | (with_reducible refine Bdraw ?_ _) | (with_reducible refine Bnew ?_ _) | (with_reducible refine Bput ?_ (by first | (simp; done) | (simp; omega)) _))
    · skip
      by_cases c1 : p ≤ q
      · clear hr
        have HN := hidp (show pageI t p s q b = -1 from pcell_no (by intro h; omega))
        go_enter Tryz.func97, Tryz.ntmps97
        go_wp2_with fail
        refine (r4Right_c t p s _).mono ?_
        rintro e w1 ⟨rfl, hb1⟩
        rw [HR.out]
        have hc1 := hc.keep hb1
        obtain ⟨x0, x1, x2⟩ := hc1.three
        go_wp2
        go_ret
        refine ⟨by rw [HN.out]; rfl, ?_⟩
        repeat (first | exact B0 _ | (with_reducible refine Bgo ?_ (by assumption)) | (with_reducible refine Bdrew ?_) | (with_reducible refine Bdraw ?_ _) | (with_reducible refine Bnew ?_ _) | (with_reducible refine Bput ?_ (by first | (simp; done) | (simp; omega)) _))
      · skip
        have HN := hidp (show pageI t p s q b = 30 + 4 * t + 6 * q + b from pcell_yes hr (by omega) (by omega) b0 b1)
        clear hr
        go_enter Tryz.func97, Tryz.ntmps97
        go_wp2_with fail
        refine (r4Right_c t p s _).mono ?_
        rintro e w1 ⟨rfl, hb1⟩
        rw [HR.out]
        have hc1 := hc.keep hb1
        obtain ⟨x0, x1, x2⟩ := hc1.three
        go_wp2
        go_ret
        refine ⟨by rw [HN.out]; rfl, ?_⟩
        repeat (first | exact B0 _ | (with_reducible refine Bgo ?_ (by assumption)) | (with_reducible refine Bdrew ?_) | (with_reducible refine Bdraw ?_ _) | (with_reducible refine Bnew ?_ _) | (with_reducible refine Bput ?_ (by first | (simp; done) | (simp; omega)) _))

theorem r7Info_c (t p s q : Int) (w : World) :
    Calls Tryz.prog 57 #[.agg #[.int .i64 t, .int .i64 p, .int .i64 s], .int .i64 q] w fun z w' => z = .returned (.int .i64 (pageI t p s q 0)) ∧ Below w.heap.size w w' := by
  go_enter Tryz.func57, Tryz.ntmps57
  go_wp2_with fail
  refine (r7Page_c t p s q 0 (by omega) (by omega) _).mono ?_
  rintro e w1 ⟨rfl, hb1⟩
  go_wp2
  go_ret
  exact ⟨by first | rfl | trivial, Bgo (Bnew (B0 _) _) hb1⟩

theorem r7Foot_c (t p s q : Int) (w : World) :
    Calls Tryz.prog 58 #[.agg #[.int .i64 t, .int .i64 p, .int .i64 s], .int .i64 q] w fun z w' => z = .returned (.int .i64 (pageI t p s q 1)) ∧ Below w.heap.size w w' := by
  go_enter Tryz.func58, Tryz.ntmps58
  go_wp2_with fail
  refine (r7Page_c t p s q 1 (by omega) (by omega) _).mono ?_
  rintro e w1 ⟨rfl, hb1⟩
  go_wp2
  go_ret
  exact ⟨by first | rfl | trivial, Bgo (Bnew (B0 _) _) hb1⟩

theorem r7Next_c (t p s q : Int) (w : World) :
    Calls Tryz.prog 69 #[.agg #[.int .i64 t, .int .i64 p, .int .i64 s], .int .i64 q] w fun z w' => z = .returned (.int .i64 (pageI t p s q 2)) ∧ Below w.heap.size w w' := by
  go_enter Tryz.func69, Tryz.ntmps69
  go_wp2_with fail
  refine (r7Page_c t p s q 2 (by omega) (by omega) _).mono ?_
  rintro e w1 ⟨rfl, hb1⟩
  go_wp2
  go_ret
  exact ⟨by first | rfl | trivial, Bgo (Bnew (B0 _) _) hb1⟩

theorem r7Prev_c (t p s q : Int) (w : World) :
    Calls Tryz.prog 70 #[.agg #[.int .i64 t, .int .i64 p, .int .i64 s], .int .i64 q] w fun z w' => z = .returned (.int .i64 (pageI t p s q 3)) ∧ Below w.heap.size w w' := by
  go_enter Tryz.func70, Tryz.ntmps70
  go_wp2_with fail
  refine (r7Page_c t p s q 3 (by omega) (by omega) _).mono ?_
  rintro e w1 ⟨rfl, hb1⟩
  go_wp2
  go_ret
  exact ⟨by first | rfl | trivial, Bgo (Bnew (B0 _) _) hb1⟩

theorem r7Slots_c (t p s q : Int) (w : World) :
    Calls Tryz.prog 98 #[.agg #[.int .i64 t, .int .i64 p, .int .i64 s], .int .i64 q] w fun z w' => z = .returned (.int .i64 (pageI t p s q 4)) ∧ Below w.heap.size w w' := by
  go_enter Tryz.func98, Tryz.ntmps98
  go_wp2_with fail
  refine (r7Page_c t p s q 4 (by omega) (by omega) _).mono ?_
  rintro e w1 ⟨rfl, hb1⟩
  go_wp2
  go_ret
  exact ⟨by first | rfl | trivial, Bgo (Bnew (B0 _) _) hb1⟩

theorem r7Taken_c (t p s q : Int) (w : World) :
    Calls Tryz.prog 99 #[.agg #[.int .i64 t, .int .i64 p, .int .i64 s], .int .i64 q] w fun z w' => z = .returned (.int .i64 (pageI t p s q 5)) ∧ Below w.heap.size w w' := by
  go_enter Tryz.func99, Tryz.ntmps99
  go_wp2_with fail
  refine (r7Page_c t p s q 5 (by omega) (by omega) _).mono ?_
  rintro e w1 ⟨rfl, hb1⟩
  go_wp2
  go_ret
  exact ⟨by first | rfl | trivial, Bgo (Bnew (B0 _) _) hb1⟩
end
end Go.Proofs.YtkbjckhbllmclaaGreatDoor

namespace Go.Proofs.YtkbjckhbllmclaaGreatDoor
open Go.ChangeShapes Go.WideShapes Go.ChangeAt Go.RowKit Go.Shelf
set_option linter.unusedVariables false
set_option linter.unusedSimpArgs false
section
set_option maxHeartbeats 1600000 in
theorem xSlots_c {H : AuH} {n c : Nat} (HV : HeapV H n c) (ad : Addr) {q : Nat} (hq : q < H.p) (w : World) (hv : IsVals w ad n H.V) :
    Calls Tryz.prog 60 #[hpV H ad n c, .int .i64 (q : Int)] w fun e w' => e = .returned (.int .u32 (H.cel q 4 : Nat)) ∧ Below w.heap.size w w' := by
  obtain ⟨i, hii⟩ : ∃ i, 30 + 4 * H.t + 6 * q + 4 = i := ⟨_, rfl⟩
  have hini : i < n := by have := HV.len; omega
  have HI : Hid (pageI H.t H.p H.s q 4 = (i : Int)) := hidp (by have h := HV.page (b := 4) hq (by omega); rw [hii] at h; exact h)
  have h32i := HV.cel_lt hq (show 4 < 6 by omega)
  have hceli : H.cel q 4 = H.V i := by unfold AuH.cel; rw [hii]
  obtain ⟨v, hvvv⟩ : ∃ v, H.cel q 4 = v := ⟨_, rfl⟩
  have HCv := hidp hvvv
  rw [hvvv] at h32i
  have hci := (hv).2 i hini
  rw [← hceli, hvvv] at hci
  have hbli : (ad.add i).block < w.heap.size := by rw [block_of_add]; exact (hv).1
  have hn := HV.nums
  have hcx : c ≤ 9223372036854775807 := hn.2.2.2.2.2.2.2.2
  have hni : n ≤ 6238 := hn.2.2.2.2.2.2.1
  have hnc := HV.cap
  rw [hvvv]
  have hc := Held.new w 58 #[.int .i64 (H.t : Int), .int .i64 (H.p : Int), .int .i64 (H.s : Int), .slice (some ad) n c]
  have HS : Hid (∀ w', Below w.heap.size w w' → Held w' w.heap.size 58 #[.int .i64 (H.t : Int), .int .i64 (H.p : Int), .int .i64 (H.s : Int), .slice (some ad) n c] → (fun w' => w'.cell? ⟨w.heap.size, 0, none⟩ = some (.int .i64 (H.t : Int)) ∧ w'.cell? ⟨w.heap.size, 1, none⟩ = some (.int .i64 (H.p : Int)) ∧ w'.cell? ⟨w.heap.size, 2, none⟩ = some (.int .i64 (H.s : Int)) ∧ w'.cell? ⟨w.heap.size, 3, none⟩ = some (.slice (some ad) n c) ∧ w'.cell? (ad.add i) = some (.int .u32 (v : Int))) w') := hidp (fun w' hb hh => ⟨hh.four.1, hh.four.2.1, hh.four.2.2.1, hh.four.2.2.2, (hb.cell hbli).trans hci⟩)
  clear hv hci hbli hceli hvvv hii hn hq HCv h32i
  unfold hpV
  go_enter Tryz.func60, Tryz.ntmps60
  go_wp2_with fail
  refine wp_region_held_drew (S := (fun w' => w'.cell? ⟨w.heap.size, 0, none⟩ = some (.int .i64 (H.t : Int)) ∧ w'.cell? ⟨w.heap.size, 1, none⟩ = some (.int .i64 (H.p : Int)) ∧ w'.cell? ⟨w.heap.size, 2, none⟩ = some (.int .i64 (H.s : Int)) ∧ w'.cell? ⟨w.heap.size, 3, none⟩ = some (.slice (some ad) n c) ∧ w'.cell? (ad.add i) = some (.int .u32 (v : Int)))) (by kernel_rfl) ?_ (fun hHeld => ?_)
  · (try dsimp only)
    first | exact HS.out _ (Bdrew (Bnew (B0 w) _)) hc | exact HS.out _ HB1.out HC1.out | exact hHeld
  refine tkz 0 ?_
  refine tkz 1 ?_
  refine tkz 2 ?_
  refine tkz 3 ?_
  refine tkz 4 ?_
  refine wpAnyH_ready (rs := [5]) (by kernel_rfl) (by simp) ?_
  refine AllReadyH.cons (o := _) rfl (fun K hK => ?_) AllReadyH.nil
  go_simp
  (go_at_call 98; refine (r7Slots_c _ _ _ _ _).mono ?_; rintro e w1 ⟨rfl, hb1⟩; rw [HI.out]; have HB1 := hidp (Bgo (Bdrew (Bnew (B0 w) _)) hb1); have HC1 := hidp (hc.drew.keep hb1); clear hb1)
  refine hK.out _ _ ?_ (fun hHeld => ?_)
  · (try dsimp only)
    first | exact HS.out _ (Bdrew (Bnew (B0 w) _)) hc | exact HS.out _ HB1.out HC1.out | exact hHeld
  clear hK K
  (try simp only [Act.put, gA, gB, gC, sA, sB, sC])
  refine tkz 6 ?_
  refine tkz 7 ?_
  refine tkz 8 ?_
  refine wpAnyH_done (by kernel_rfl) ?_ _
  go_wp2
  go_ret
  exact ⟨rfl, HB1.out⟩

set_option maxHeartbeats 1600000 in
theorem xTaken_c {H : AuH} {n c : Nat} (HV : HeapV H n c) (ad : Addr) {q : Nat} (hq : q < H.p) (w : World) (hv : IsVals w ad n H.V) :
    Calls Tryz.prog 61 #[hpV H ad n c, .int .i64 (q : Int)] w fun e w' => e = .returned (.int .u32 (H.cel q 5 : Nat)) ∧ Below w.heap.size w w' := by
  obtain ⟨i, hii⟩ : ∃ i, 30 + 4 * H.t + 6 * q + 5 = i := ⟨_, rfl⟩
  have hini : i < n := by have := HV.len; omega
  have HI : Hid (pageI H.t H.p H.s q 5 = (i : Int)) := hidp (by have h := HV.page (b := 5) hq (by omega); rw [hii] at h; exact h)
  have h32i := HV.cel_lt hq (show 5 < 6 by omega)
  have hceli : H.cel q 5 = H.V i := by unfold AuH.cel; rw [hii]
  obtain ⟨v, hvvv⟩ : ∃ v, H.cel q 5 = v := ⟨_, rfl⟩
  have HCv := hidp hvvv
  rw [hvvv] at h32i
  have hci := (hv).2 i hini
  rw [← hceli, hvvv] at hci
  have hbli : (ad.add i).block < w.heap.size := by rw [block_of_add]; exact (hv).1
  have hn := HV.nums
  have hcx : c ≤ 9223372036854775807 := hn.2.2.2.2.2.2.2.2
  have hni : n ≤ 6238 := hn.2.2.2.2.2.2.1
  have hnc := HV.cap
  rw [hvvv]
  have hc := Held.new w 58 #[.int .i64 (H.t : Int), .int .i64 (H.p : Int), .int .i64 (H.s : Int), .slice (some ad) n c]
  have HS : Hid (∀ w', Below w.heap.size w w' → Held w' w.heap.size 58 #[.int .i64 (H.t : Int), .int .i64 (H.p : Int), .int .i64 (H.s : Int), .slice (some ad) n c] → (fun w' => w'.cell? ⟨w.heap.size, 0, none⟩ = some (.int .i64 (H.t : Int)) ∧ w'.cell? ⟨w.heap.size, 1, none⟩ = some (.int .i64 (H.p : Int)) ∧ w'.cell? ⟨w.heap.size, 2, none⟩ = some (.int .i64 (H.s : Int)) ∧ w'.cell? ⟨w.heap.size, 3, none⟩ = some (.slice (some ad) n c) ∧ w'.cell? (ad.add i) = some (.int .u32 (v : Int))) w') := hidp (fun w' hb hh => ⟨hh.four.1, hh.four.2.1, hh.four.2.2.1, hh.four.2.2.2, (hb.cell hbli).trans hci⟩)
  clear hv hci hbli hceli hvvv hii hn hq HCv h32i
  unfold hpV
  go_enter Tryz.func61, Tryz.ntmps61
  go_wp2_with fail
  refine wp_region_held_drew (S := (fun w' => w'.cell? ⟨w.heap.size, 0, none⟩ = some (.int .i64 (H.t : Int)) ∧ w'.cell? ⟨w.heap.size, 1, none⟩ = some (.int .i64 (H.p : Int)) ∧ w'.cell? ⟨w.heap.size, 2, none⟩ = some (.int .i64 (H.s : Int)) ∧ w'.cell? ⟨w.heap.size, 3, none⟩ = some (.slice (some ad) n c) ∧ w'.cell? (ad.add i) = some (.int .u32 (v : Int)))) (by kernel_rfl) ?_ (fun hHeld => ?_)
  · (try dsimp only)
    first | exact HS.out _ (Bdrew (Bnew (B0 w) _)) hc | exact HS.out _ HB1.out HC1.out | exact hHeld
  refine tkz 0 ?_
  refine tkz 1 ?_
  refine tkz 2 ?_
  refine tkz 3 ?_
  refine tkz 4 ?_
  refine wpAnyH_ready (rs := [5]) (by kernel_rfl) (by simp) ?_
  refine AllReadyH.cons (o := _) rfl (fun K hK => ?_) AllReadyH.nil
  go_simp
  (go_at_call 99; refine (r7Taken_c _ _ _ _ _).mono ?_; rintro e w1 ⟨rfl, hb1⟩; rw [HI.out]; have HB1 := hidp (Bgo (Bdrew (Bnew (B0 w) _)) hb1); have HC1 := hidp (hc.drew.keep hb1); clear hb1)
  refine hK.out _ _ ?_ (fun hHeld => ?_)
  · (try dsimp only)
    first | exact HS.out _ (Bdrew (Bnew (B0 w) _)) hc | exact HS.out _ HB1.out HC1.out | exact hHeld
  clear hK K
  (try simp only [Act.put, gA, gB, gC, sA, sB, sC])
  refine tkz 6 ?_
  refine tkz 7 ?_
  refine tkz 8 ?_
  refine wpAnyH_done (by kernel_rfl) ?_ _
  go_wp2
  go_ret
  exact ⟨rfl, HB1.out⟩

set_option maxHeartbeats 3200000 in
set_option maxRecDepth 100000 in
theorem xInfo_c {H : AuH} {n c : Nat} (HV : HeapV H n c) (ad : Addr) {q : Nat} (hq : q < H.p) (w : World) (hv : IsVals w ad n H.V) :
    Calls Tryz.prog 44 #[hpV H ad n c, .int .i64 (q : Int)] w fun e w' => e = .returned (.agg #[.int .i64 (H.K q), .int .i64 (H.ln q : Int), .int .i64 (H.Cl q)]) ∧ Below w.heap.size w w' := by
  obtain ⟨i, hii⟩ : ∃ i, 30 + 4 * H.t + 6 * q + 0 = i := ⟨_, rfl⟩
  have hini : i < n := by have := HV.len; omega
  have HI : Hid (pageI H.t H.p H.s q 0 = (i : Int)) := hidp (by have h := HV.page (b := 0) hq (by omega); rw [hii] at h; exact h)
  have h32i := HV.cel_lt hq (show 0 < 6 by omega)
  have hceli : H.cel q 0 = H.V i := by unfold AuH.cel; rw [hii]
  obtain ⟨v, hvvv⟩ : ∃ v, H.cel q 0 = v := ⟨_, rfl⟩
  have HCv := hidp hvvv
  rw [hvvv] at h32i
  have hci := (hv).2 i hini
  rw [← hceli, hvvv] at hci
  have hbli : (ad.add i).block < w.heap.size := by rw [block_of_add]; exact (hv).1
  have hn := HV.nums
  have hcx : c ≤ 9223372036854775807 := hn.2.2.2.2.2.2.2.2
  have hni : n ≤ 6238 := hn.2.2.2.2.2.2.1
  have hnc := HV.cap
  have hie := H.info_eq q
  rw [H.L_ln, hvvv] at hie
  generalize H.K q = k at *
  generalize H.ln q = m at *
  generalize H.Cl q = cl at *
  generalize H.ok q = okb at *
  have HG := hidp hie
  have hc := (Held.new w 58 #[.int .i64 (H.t : Int), .int .i64 (H.p : Int), .int .i64 (H.s : Int), .slice (some ad) n c]).alloc (.cells #[.int .i64 0, .int .i64 0, .int .i64 0] 63)
  have HR := hidp (Held.new2 w (.cells #[.int .i64 (H.t : Int), .int .i64 (H.p : Int), .int .i64 (H.s : Int), .slice (some ad) n c] 58) 63 #[.int .i64 0, .int .i64 0, .int .i64 0])
  have HBW := hidp (Bnew (Bnew (B0 w) (.cells #[.int .i64 (H.t : Int), .int .i64 (H.p : Int), .int .i64 (H.s : Int), .slice (some ad) n c] 58)) (.cells #[.int .i64 0, .int .i64 0, .int .i64 0] 63))
  have HS : Hid (∀ w', Below ((w.alloc (.cells #[.int .i64 (H.t : Int), .int .i64 (H.p : Int), .int .i64 (H.s : Int), .slice (some ad) n c] 58)).alloc (.cells #[.int .i64 0, .int .i64 0, .int .i64 0] 63)).heap.size ((w.alloc (.cells #[.int .i64 (H.t : Int), .int .i64 (H.p : Int), .int .i64 (H.s : Int), .slice (some ad) n c] 58)).alloc (.cells #[.int .i64 0, .int .i64 0, .int .i64 0] 63)) w' → (fun w' => w'.cell? ⟨w.heap.size, 0, none⟩ = some (.int .i64 (H.t : Int)) ∧ w'.cell? ⟨w.heap.size, 1, none⟩ = some (.int .i64 (H.p : Int)) ∧ w'.cell? ⟨w.heap.size, 2, none⟩ = some (.int .i64 (H.s : Int)) ∧ w'.cell? ⟨w.heap.size, 3, none⟩ = some (.slice (some ad) n c) ∧ w'.cell? (ad.add i) = some (.int .u32 (v : Int))) w') := hidp (fun w' hb => by have hh := hc.keep hb; exact ⟨hh.four.1, hh.four.2.1, hh.four.2.2.1, hh.four.2.2.2, ((Bgo HBW.out hb).cell hbli).trans hci⟩)
  clear hv hci hbli hceli hvvv hii hn hq HCv hie hc
  unfold hpV
  go_enter Tryz.func44, Tryz.ntmps44
  go_upto_region 1 with fail
  go_cut [5, 6] from 7 to 18 (fun u5 u6 wx => ∃ g : Nat, u5 = .pointer (some ⟨g, 0, none⟩) ∧ Held wx g 63 #[(.int .i64 k), (.int .i64 (m : Int)), (.int .i64 cl)] ∧ Below ((w.alloc (.cells #[.int .i64 (H.t : Int), .int .i64 (H.p : Int), .int .i64 (H.s : Int), .slice (some ad) n c] 58)).alloc (.cells #[.int .i64 0, .int .i64 0, .int .i64 0] 63)).heap.size ((w.alloc (.cells #[.int .i64 (H.t : Int), .int .i64 (H.p : Int), .int .i64 (H.s : Int), .slice (some ad) n c] 58)).alloc (.cells #[.int .i64 0, .int .i64 0, .int .i64 0] 63)) wx ∧ ((w.alloc (.cells #[.int .i64 (H.t : Int), .int .i64 (H.p : Int), .int .i64 (H.s : Int), .slice (some ad) n c] 58)).alloc (.cells #[.int .i64 0, .int .i64 0, .int .i64 0] 63)).heap.size ≤ g)
  case first =>
    have HB := hidp (Bdrew (B0 (((w.alloc (.cells #[.int .i64 (H.t : Int), .int .i64 (H.p : Int), .int .i64 (H.s : Int), .slice (some ad) n c] 58)).alloc (.cells #[.int .i64 0, .int .i64 0, .int .i64 0] 63)))))
    refine wp_region_held_drew (S := (fun w' => w'.cell? ⟨w.heap.size, 0, none⟩ = some (.int .i64 (H.t : Int)) ∧ w'.cell? ⟨w.heap.size, 1, none⟩ = some (.int .i64 (H.p : Int)) ∧ w'.cell? ⟨w.heap.size, 2, none⟩ = some (.int .i64 (H.s : Int)) ∧ w'.cell? ⟨w.heap.size, 3, none⟩ = some (.slice (some ad) n c) ∧ w'.cell? (ad.add i) = some (.int .u32 (v : Int)))) (by kernel_rfl) ?_ (fun hHeld => ?_)
    · (try dsimp only)
      exact HS.out _ HB.out
    generalize hq0 : (((w.alloc (.cells #[.int .i64 (H.t : Int), .int .i64 (H.p : Int), .int .i64 (H.s : Int), .slice (some ad) n c] 58)).alloc (.cells #[.int .i64 0, .int .i64 0, .int .i64 0] 63))).drew = q0 at HB hHeld ⊢
    clear hq0
    refine tkz 0 ?_
    refine tkz 1 ?_
    refine tkz 2 ?_
    refine tkz 3 ?_
    refine tkz 4 ?_
    refine wpAnyH_ready (rs := [5, 12]) (by kernel_rfl) (by simp) ?_
    refine AllReadyH.cons (o := _) rfl (fun K hK => ?_) (AllReadyH.cons (o := _) rfl (fun K hK => ?_) AllReadyH.nil)
    · skip
      go_simp
      (go_at_call 57; refine (r7Info_c _ _ _ _ _).mono ?_; rintro e q1 ⟨rfl, hb1⟩; rw [HI.out]; have HB := hidp (Bgo HB.out hb1); skip; clear hb1)
      refine hK.out _ _ ?_ (fun hHeld => ?_)
      · (try dsimp only)
        exact HS.out _ HB.out
      clear hK K
      (try simp only [Act.put, gA, gB, gC, sA, sB, sC])
      refine tkz 6 ?_
      refine tkz 7 ?_
      refine wpAnyH_ready (rs := [8, 12]) (by kernel_rfl) (by simp) ?_
      refine AllReadyH.cons (o := _) rfl (fun K hK => ?_) (AllReadyH.cons (o := _) rfl (fun K hK => ?_) AllReadyH.nil)
      · skip
        go_simp
        (go_at_call 75; refine (r9Get_c _ _ _ _ _ h32i HG.out _).mono ?_; rintro e q2 ⟨rfl, hb1⟩; have HB := hidp (Bgo HB.out hb1); skip; clear hb1)
        refine hK.out _ _ ?_ (fun hHeld => ?_)
        · (try dsimp only)
          exact HS.out _ HB.out
        clear hK K
        (try simp only [Act.put, gA, gB, gC, sA, sB, sC])
        refine tkz 9 ?_
        refine tkz 10 ?_
        refine tkz 11 ?_
        refine wpAnyH_ready (rs := [12]) (by kernel_rfl) (by simp) ?_
        refine AllReadyH.cons (o := _) rfl (fun K hK => ?_) AllReadyH.nil
        · skip
          go_simp
          have HLE := hidp HB.out.size
          have HB := hidp (Bnew HB.out (.cells #[.int .i64 0, .int .i64 0, .int .i64 0] 63))
          have HN := hidp (Held.new q2 63 #[.int .i64 0, .int .i64 0, .int .i64 0])
          try simp only [World.heap_drew] at HLE HN
          generalize hq3 : q2.alloc (.cells #[.int .i64 0, .int .i64 0, .int .i64 0] 63) = q3 at HB HN ⊢
          clear hq3
          refine hK.out _ _ ?_ (fun hHeld => ?_)
          · (try dsimp only)
            exact HS.out _ HB.out
          clear hK K
          (try simp only [Act.put, gA, gB, gC, sA, sB, sC])
          refine wpAnyH_ready (rs := [13]) (by kernel_rfl) (by simp) ?_
          refine AllReadyH.cons (o := _) rfl (fun K hK => ?_) AllReadyH.nil
          obtain ⟨z0, z1, z2⟩ := HN.out.three
          have f0 := HN.out.thawed 0
          have f1 := HN.out.thawed 1
          have f2 := HN.out.thawed 2
          go_simp
          have HN := hidp (HN.out.put 0 (.int .i64 k))
          have HN := hidp (HN.out.put 1 (.int .i64 (m : Int)))
          have HN := hidp (HN.out.put 2 (.int .i64 cl))
          have HB := hidp (Bput (p := ⟨_, 2, none⟩) (Bput (p := ⟨_, 1, none⟩) (Bput (p := ⟨_, 0, none⟩) HB.out HLE.out (.int .i64 k)) HLE.out (.int .i64 (m : Int))) HLE.out (.int .i64 cl))
          clear z0 z1 z2 f0 f1 f2
          refine hK.out _ _ ?_ (fun hHeld => ?_)
          · (try dsimp only)
            exact HS.out _ HB.out
          clear hK K
          (try simp only [Act.put, gA, gB, gC, sA, sB, sC])
          refine tkz 14 ?_
          refine wpAnyH_done (by kernel_rfl) ?_ _
          go_wp2_with fail
          go_meet
          case rel => exact ⟨_, rfl, HN.out, HB.out, HLE.out⟩
      · skip
        go_simp
        have HLE := hidp HB.out.size
        have HB := hidp (Bnew HB.out (.cells #[.int .i64 0, .int .i64 0, .int .i64 0] 63))
        have HN := hidp (Held.new q1 63 #[.int .i64 0, .int .i64 0, .int .i64 0])
        try simp only [World.heap_drew] at HLE HN
        generalize hq4 : q1.alloc (.cells #[.int .i64 0, .int .i64 0, .int .i64 0] 63) = q4 at HB HN ⊢
        clear hq4
        refine hK.out _ _ ?_ (fun hHeld => ?_)
        · (try dsimp only)
          exact HS.out _ HB.out
        clear hK K
        (try simp only [Act.put, gA, gB, gC, sA, sB, sC])
        refine wpAnyH_ready (rs := [8]) (by kernel_rfl) (by simp) ?_
        refine AllReadyH.cons (o := _) rfl (fun K hK => ?_) AllReadyH.nil
        · skip
          go_simp
          (go_at_call 75; refine (r9Get_c _ _ _ _ _ h32i HG.out _).mono ?_; rintro e q5 ⟨rfl, hb1⟩; have HB := hidp (Bgo HB.out hb1); have HN := hidp (HN.out.keep hb1); clear hb1)
          refine hK.out _ _ ?_ (fun hHeld => ?_)
          · (try dsimp only)
            exact HS.out _ HB.out
          clear hK K
          (try simp only [Act.put, gA, gB, gC, sA, sB, sC])
          refine tkz 9 ?_
          refine tkz 10 ?_
          refine tkz 11 ?_
          refine wpAnyH_ready (rs := [13]) (by kernel_rfl) (by simp) ?_
          refine AllReadyH.cons (o := _) rfl (fun K hK => ?_) AllReadyH.nil
          obtain ⟨z0, z1, z2⟩ := HN.out.three
          have f0 := HN.out.thawed 0
          have f1 := HN.out.thawed 1
          have f2 := HN.out.thawed 2
          go_simp
          have HN := hidp (HN.out.put 0 (.int .i64 k))
          have HN := hidp (HN.out.put 1 (.int .i64 (m : Int)))
          have HN := hidp (HN.out.put 2 (.int .i64 cl))
          have HB := hidp (Bput (p := ⟨_, 2, none⟩) (Bput (p := ⟨_, 1, none⟩) (Bput (p := ⟨_, 0, none⟩) HB.out HLE.out (.int .i64 k)) HLE.out (.int .i64 (m : Int))) HLE.out (.int .i64 cl))
          clear z0 z1 z2 f0 f1 f2
          refine hK.out _ _ ?_ (fun hHeld => ?_)
          · (try dsimp only)
            exact HS.out _ HB.out
          clear hK K
          (try simp only [Act.put, gA, gB, gC, sA, sB, sC])
          refine tkz 14 ?_
          refine wpAnyH_done (by kernel_rfl) ?_ _
          go_wp2_with fail
          go_meet
          case rel => exact ⟨_, rfl, HN.out, HB.out, HLE.out⟩
    · skip
      go_simp
      have HLE := hidp HB.out.size
      have HB := hidp (Bnew HB.out (.cells #[.int .i64 0, .int .i64 0, .int .i64 0] 63))
      have HN := hidp (Held.new q0 63 #[.int .i64 0, .int .i64 0, .int .i64 0])
      try simp only [World.heap_drew] at HLE HN
      generalize hq6 : q0.alloc (.cells #[.int .i64 0, .int .i64 0, .int .i64 0] 63) = q6 at HB HN ⊢
      clear hq6
      refine hK.out _ _ ?_ (fun hHeld => ?_)
      · (try dsimp only)
        exact HS.out _ HB.out
      clear hK K
      (try simp only [Act.put, gA, gB, gC, sA, sB, sC])
      refine wpAnyH_ready (rs := [5]) (by kernel_rfl) (by simp) ?_
      refine AllReadyH.cons (o := _) rfl (fun K hK => ?_) AllReadyH.nil
      · skip
        go_simp
        (go_at_call 57; refine (r7Info_c _ _ _ _ _).mono ?_; rintro e q7 ⟨rfl, hb1⟩; rw [HI.out]; have HB := hidp (Bgo HB.out hb1); have HN := hidp (HN.out.keep hb1); clear hb1)
        refine hK.out _ _ ?_ (fun hHeld => ?_)
        · (try dsimp only)
          exact HS.out _ HB.out
        clear hK K
        (try simp only [Act.put, gA, gB, gC, sA, sB, sC])
        refine tkz 6 ?_
        refine tkz 7 ?_
        refine wpAnyH_ready (rs := [8]) (by kernel_rfl) (by simp) ?_
        refine AllReadyH.cons (o := _) rfl (fun K hK => ?_) AllReadyH.nil
        · skip
          go_simp
          (go_at_call 75; refine (r9Get_c _ _ _ _ _ h32i HG.out _).mono ?_; rintro e q8 ⟨rfl, hb1⟩; have HB := hidp (Bgo HB.out hb1); have HN := hidp (HN.out.keep hb1); clear hb1)
          refine hK.out _ _ ?_ (fun hHeld => ?_)
          · (try dsimp only)
            exact HS.out _ HB.out
          clear hK K
          (try simp only [Act.put, gA, gB, gC, sA, sB, sC])
          refine tkz 9 ?_
          refine tkz 10 ?_
          refine tkz 11 ?_
          refine wpAnyH_ready (rs := [13]) (by kernel_rfl) (by simp) ?_
          refine AllReadyH.cons (o := _) rfl (fun K hK => ?_) AllReadyH.nil
          obtain ⟨z0, z1, z2⟩ := HN.out.three
          have f0 := HN.out.thawed 0
          have f1 := HN.out.thawed 1
          have f2 := HN.out.thawed 2
          go_simp
          have HN := hidp (HN.out.put 0 (.int .i64 k))
          have HN := hidp (HN.out.put 1 (.int .i64 (m : Int)))
          have HN := hidp (HN.out.put 2 (.int .i64 cl))
          have HB := hidp (Bput (p := ⟨_, 2, none⟩) (Bput (p := ⟨_, 1, none⟩) (Bput (p := ⟨_, 0, none⟩) HB.out HLE.out (.int .i64 k)) HLE.out (.int .i64 (m : Int))) HLE.out (.int .i64 cl))
          clear z0 z1 z2 f0 f1 f2
          refine hK.out _ _ ?_ (fun hHeld => ?_)
          · (try dsimp only)
            exact HS.out _ HB.out
          clear hK K
          (try simp only [Act.put, gA, gB, gC, sA, sB, sC])
          refine tkz 14 ?_
          refine wpAnyH_done (by kernel_rfl) ?_ _
          go_wp2_with fail
          go_meet
          case rel => exact ⟨_, rfl, HN.out, HB.out, HLE.out⟩
  case rest =>
    obtain ⟨g, rfl, h1, h2, h3⟩ := hcut
    obtain ⟨x0, x1, x2⟩ := h1.three
    have z := HR.out.keep h2
    obtain ⟨y0, y1, y2⟩ := z.three
    obtain ⟨v0, v1, v2⟩ := (((z.put 0 (.int .i64 k)).put 1 (.int .i64 (m : Int))).put 2 (.int .i64 cl)).three
    have f0 := z.thawed 0
    have f1 := z.thawed 1
    have f2 := z.thawed 2
    go_wp2_with fail
    refine bodyPost_ret (v := .agg #[(.int .i64 k), (.int .i64 (m : Int)), (.int .i64 cl)]) (by simp [results, Tryz.results44, go_sem, v0, v1, v2]) rfl ⟨rfl, ?_⟩
    exact Bput (Bput (Bput (Bgo HBW.out h2) (by simp) _) (by simp) _) (by simp) _
end
section
namespace AuH
inductive Starts (H : AuH) : List Nat → Nat → Prop where
  | nil : Starts H [] 0
  | snoc {l : List Nat} {q : Nat} : Starts H l q → H.can q = true → Starts H (l ++ [q]) (H.nx q)
variable {H : AuH} {l : List Nat} {x : Nat}
theorem Starts.at_ (h : H.Starts l x) : H.At x := by
  induction h with
  | nil => exact .zero
  | snoc h hc ih => exact .step ih hc
theorem Starts.len (h : H.Starts l x) : l.length ≤ x := by
  induction h with
  | nil => simp
  | snoc h hc ih =>
    have := (H.nx_gt hc).1
    rw [List.length_append]
    simp
    omega
theorem Starts.next (h : H.Starts l x) : ∀ {i a : Nat}, l[i]? = some a → (H.At a ∧ H.can a = true ∧ a < x) ∧ (l[i + 1]? = some (H.nx a) ∨ (i + 1 = l.length ∧ H.nx a = x)) := by
  induction h with
  | nil => intro i a h; simp at h
  | snoc h hc ih =>
    rename_i l q
    intro i a hi
    have hgt := (H.nx_gt hc).1
    rcases Nat.lt_or_ge i l.length with hl | hl
    · rw [List.getElem?_append_left hl] at hi
      obtain ⟨⟨h1, h2, h3⟩, h4⟩ := ih hi
      refine ⟨⟨h1, h2, by omega⟩, .inl ?_⟩
      rcases h4 with h4 | ⟨h4, h5⟩
      · have : i + 1 < l.length := by
          rcases Nat.lt_or_ge (i + 1) l.length with h | h
          · exact h
          · rw [List.getElem?_eq_none h] at h4; cases h4
        rw [List.getElem?_append_left this]
        exact h4
      · rw [List.getElem?_append_right (by omega), h4, Nat.sub_self, h5]
        rfl
    · have hil : i = l.length := by
        rcases Nat.lt_or_ge l.length i with h | h
        · rw [List.getElem?_append_right hl, List.getElem?_eq_none (by simp; omega)] at hi; cases hi
        · omega
      subst hil
      rw [List.getElem?_append_right (Nat.le_refl _), Nat.sub_self] at hi
      have hqa : q = a := by simpa using hi
      subst hqa
      exact ⟨⟨h.at_, hc, hgt⟩, .inr ⟨by simp, rfl⟩⟩
theorem Starts.head (h : H.Starts l x) : (l = [] ∧ x = 0) ∨ l[0]? = some 0 := by
  induction h with
  | nil => exact .inl ⟨rfl, rfl⟩
  | snoc h hc ih =>
    right
    rcases ih with ⟨rfl, rfl⟩ | ih
    · rfl
    · rename_i l q
      have : 0 < l.length := by
        rcases Nat.lt_or_ge 0 l.length with h | h
        · exact h
        · rw [List.getElem?_eq_none h] at ih; cases ih
      rw [List.getElem?_append_left this]
      exact ih
theorem Starts.find (h : H.Starts l x) : ∀ {q : Nat}, H.At q → q < x → ∃ i : Nat, l[i]? = some q := by
  induction h with
  | nil => intro q _ h; omega
  | snoc h hc ih =>
    rename_i l q0
    intro q hq hl
    rcases Nat.lt_trichotomy q q0 with h1 | h1 | h1
    · obtain ⟨i, hi⟩ := ih hq h1
      refine ⟨i, ?_⟩
      have : i < l.length := by
        rcases Nat.lt_or_ge i l.length with h | h
        · exact h
        · rw [List.getElem?_eq_none h] at hi; cases hi
      rw [List.getElem?_append_left this]
      exact hi
    · subst h1
      exact ⟨l.length, by rw [List.getElem?_append_right (Nat.le_refl _), Nat.sub_self]; rfl⟩
    · have := (At.next h.at_ hq h1).2
      omega

def Front (H : AuH) (l : List Nat) (n p : Nat) : Prop := ∃ f, (l[n]? = some f ∨ (n = l.length ∧ f = H.p)) ∧ p ≤ f ∧ ∀ q, H.At q → p ≤ q → f ≤ q
theorem Front.zero (h : H.Starts l H.p) : H.Front l 0 0 := by
  rcases h.head with ⟨rfl, h1⟩ | h1
  · exact ⟨H.p, .inr ⟨rfl, rfl⟩, Nat.zero_le _, fun q _ _ => by omega⟩
  · exact ⟨0, .inl h1, Nat.le_refl _, fun q _ _ => Nat.zero_le _⟩
theorem Front.yes {n p : Nat} (h : H.Starts l H.p) (hf : H.Front l n p) (hn : l[n]? = some p) : H.At p ∧ H.Front l (n + 1) (p + 1) := by
  obtain ⟨⟨h1, h2, h3⟩, h4⟩ := h.next hn
  have hg := (H.nx_gt h2).1
  refine ⟨h1, H.nx p, ?_, hg, fun q hq hp => (At.next h1 hq (by omega)).2⟩
  rcases h4 with h4 | ⟨h4, h5⟩
  · exact .inl h4
  · exact .inr ⟨h4, h5⟩
theorem Front.no {n p : Nat} (h : H.Starts l H.p) (hf : H.Front l n p) (hp : p < H.p) (hn : l[n]? ≠ some p) : ¬ H.At p ∧ H.Front l n (p + 1) := by
  obtain ⟨f, h1, h2, h3⟩ := hf
  have hne : f ≠ p := by
    rintro rfl
    rcases h1 with h1 | ⟨_, h1⟩
    · exact hn h1
    · omega
  exact ⟨fun ha => by have := h3 p ha (Nat.le_refl _); omega, f, h1, by omega, fun q hq hl => h3 q hq (by omega)⟩

theorem tiled_iff (ha : H.At H.p) : H.Tiled ↔ ∀ q, q < H.p → ¬ H.At q → H.cel q 0 = 0 := by
  constructor
  · rintro ⟨_, hb⟩ q hq hn
    obtain ⟨a, h1, h2, h3, h4⟩ := ha.cover q hq
    exact hb a h1 h2 (by omega) q (by rcases Nat.eq_or_lt_of_le h3 with h | h; (subst h; exact absurd h1 hn); exact h) h4
  · intro h
    refine ⟨ha, fun a h1 h2 h3 q h4 h5 => h q (by have := (H.nx_gt h2).2; omega) (fun hq => ?_)⟩
    have := (At.next h1 hq h4).2
    omega
theorem tiled_not {q : Nat} (h : H.Tiled) (hq : q < H.p) (hn : ¬ H.At q) : H.cel q 0 = 0 := (tiled_iff h.1).1 h q hq hn

def FootAt (H : AuH) (a q : Nat) : Prop := H.cel q 1 = if q + 1 = H.nx a then a + 1 else 0
theorem r3_iff (ht : H.Tiled) : H.R3 ↔ ∀ q, q < H.p → ∀ a, H.At a → a ≤ q → q < H.nx a → H.FootAt a q := by
  constructor
  · intro h q hq a ha h1 h2
    have hc := ht.at_can ha (show a < H.p by omega)
    have hk := ht.at_K ha (show a < H.p by omega)
    obtain ⟨h3, h4⟩ := h a (by omega) hk
    unfold FootAt
    have hnx : H.nx a = a + H.ln a := rfl
    by_cases he : q + 1 = H.nx a
    · rw [if_pos he, show q = a + H.ln a - 1 by omega]
      exact h4
    · rw [if_neg he]
      exact h3 q h1 (by omega)
  · intro h q hq hk
    obtain ⟨ha, hc⟩ := ht.start hq hk
    have hg := H.nx_gt hc
    have hl := H.ln_pos q hk
    have hnx : H.nx q = q + H.ln q := rfl
    refine ⟨fun r h1 h2 => ?_, ?_⟩
    · have := h r (by omega) q ha h1 (by omega)
      unfold FootAt at this
      rw [if_neg (by omega)] at this
      exact this
    · have := h (q + H.ln q - 1) (by omega) q ha (by omega) (by omega)
      unfold FootAt at this
      rw [if_pos (by omega)] at this
      exact this

def ApartTo (H : AuH) (l : List Nat) (n : Nat) : Prop := ∀ (i a b : Nat), i + 1 < n → l[i]? = some a → l[i + 1]? = some b → ¬ (H.K b = 1 ∧ H.K a = 1)
theorem apart_all (h : H.Starts l H.p) {n : Nat} (hn : l.length ≤ n) (ha : H.ApartTo l n) : H.R4 := by
  intro q hq hp hk hx h2
  obtain ⟨i, hi⟩ := h.find hq hp
  rcases (h.next hi).2 with h4 | ⟨h4, h5⟩
  · have : i + 1 < l.length := by
      rcases Nat.lt_or_ge (i + 1) l.length with h | h
      · exact h
      · rw [List.getElem?_eq_none h] at h4; cases h4
    exact ha i q _ (by omega) hi h4 ⟨h2, hk⟩
  · omega
theorem apart_not (h : H.Starts l H.p) {i a b : Nat} (h1 : l[i]? = some a) (h2 : l[i + 1]? = some b) (hb : H.K b = 1) (ha : H.K a = 1) : ¬ H.R4 := by
  intro hr
  obtain ⟨⟨g1, g2, g3⟩, g4⟩ := h.next h1
  rcases g4 with g4 | ⟨g4, g5⟩
  · rw [g4] at h2
    have e : H.nx a = b := by simpa using h2
    subst e
    exact hr a g1 g3 ha (h.next g4).1.2.2 hb
  · rw [List.getElem?_eq_none (by omega)] at h2; cases h2
theorem ApartTo.step {n a b : Nat} (h : H.ApartTo l (n + 1)) (h1 : l[n]? = some a) (h2 : l[n + 1]? = some b) (hn : ¬ (H.K b = 1 ∧ H.K a = 1)) : H.ApartTo l (n + 1 + 1) := by
  intro i a' b' hi g1 g2
  rcases Nat.lt_or_ge (i + 1) (n + 1) with h3 | h3
  · exact h i a' b' h3 g1 g2
  · have : i = n := by omega
    subst this
    rw [h1] at g1
    rw [h2] at g2
    simp only [Option.some.injEq] at g1 g2
    subst g1
    subst g2
    exact hn

def SlotBad (H : AuH) (q b : Nat) : Prop := ((H.cel q 4).testBit b = true ∧ (H.cel q 5).testBit b = false) ∨ ((H.cel q 5).testBit b = true ∧ (H.K q ≠ 3 ∨ slotI (H.Cl q) ≤ b))
theorem slot5_iff (q : Nat) (h4 : H.cel q 4 < 2 ^ 32) (h5 : H.cel q 5 < 2 ^ 32) : H.Slot5 q ↔ (∀ b, b < 32 → ¬ H.SlotBad q b) ∧ ¬ (H.K q = 3 ∧ H.cel q 5 = 0) := by
  have hs := slotI_le (H.Cl q)
  constructor
  · rintro ⟨hy, hn⟩
    by_cases hk : H.K q = 3
    · obtain ⟨h1, h2, h3⟩ := hy hk
      refine ⟨fun b hb hbad => ?_, fun h => h1 h.2⟩
      rcases hbad with ⟨g1, g2⟩ | ⟨g1, g2⟩
      · rw [h3 b hb g1] at g2; cases g2
      · rcases g2 with g2 | g2
        · exact g2 hk
        · rw [Nat.testBit_lt_two_pow (Nat.lt_of_lt_of_le h2 (Nat.pow_le_pow_right (by omega) g2))] at g1; cases g1
    · obtain ⟨h1, h2⟩ := hn hk
      refine ⟨fun b hb hbad => ?_, fun h => hk h.1⟩
      rcases hbad with ⟨g1, _⟩ | ⟨g1, _⟩
      · rw [h2] at g1; simp at g1
      · rw [h1] at g1; simp at g1
  · rintro ⟨hb, hz⟩
    have hsub : SubB (H.cel q 4) (H.cel q 5) := fun i hi h => by
      cases hc : (H.cel q 5).testBit i
      · exact absurd (show H.SlotBad q i from .inl ⟨h, hc⟩) (hb i hi)
      · rfl
    refine ⟨fun hk => ⟨fun h => hz ⟨hk, h⟩, (sub_mask _ _ h5 hs).1 (fun i hi h => ?_), hsub⟩, fun hk => ?_⟩
    · have : i < slotI (H.Cl q) := by
        rcases Nat.lt_or_ge i (slotI (H.Cl q)) with g | g
        · exact g
        · exact absurd (show H.SlotBad q i from .inr ⟨h, .inr g⟩) (hb i hi)
      rw [Nat.testBit_two_pow_sub_one]
      simpa using this
    · have h0 : H.cel q 5 = 0 := (sub_zero _ h5).1 (fun i hi h => absurd (show H.SlotBad q i from .inr ⟨h, .inl hk⟩) (hb i hi))
      refine ⟨h0, (sub_zero _ h4).1 (fun i hi h => ?_)⟩
      have := hsub i hi h
      rw [h0] at this
      simp at this

inductive Path (H : AuH) (head : Nat) : List Nat → Nat → Nat → Prop where
  | nil : Path H head [] (H.V head) 0
  | snoc {l : List Nat} {q a : Nat} : Path H head l q a → 1 ≤ q → q ≤ H.p → H.cel (q - 1) 3 = a → Path H head (l ++ [q - 1]) (H.cel (q - 1) 2) q
def cntIn (l : List Nat) (q : Nat) : Nat := (l.filter fun y => decide (y = q)).length
theorem cntIn_snoc (l : List Nat) (y q : Nat) : cntIn (l ++ [y]) q = cntIn l q + if y = q then 1 else 0 := by
  unfold cntIn
  rw [List.filter_append, List.length_append]
  congr 1
  by_cases h : y = q <;> simp [h]
theorem cntIn_pos {l : List Nat} {q : Nat} (h : q ∈ l) : 1 ≤ cntIn l q := by
  unfold cntIn
  exact List.length_pos_of_mem (List.mem_filter.2 ⟨h, by simp⟩)
theorem cntIn_zero {l : List Nat} {q : Nat} (h : ¬ q ∈ l) : cntIn l q = 0 := by
  unfold cntIn
  rw [List.length_eq_zero_iff, List.filter_eq_nil_iff]
  intro y hy
  simp
  rintro rfl
  exact h hy
variable {head q a : Nat}
theorem Path.lt (h : H.Path head l q a) : ∀ y ∈ l, y < H.p := by
  induction h with
  | nil => simp
  | snoc h h1 h2 h3 ih =>
    rename_i l q a
    intro y hy
    rcases List.mem_append.1 hy with hy | hy
    · exact ih y hy
    · have : y = q - 1 := by simpa using hy
      omega
theorem Path.once (h : H.Path head l q a) : (∀ y ∈ l, H.cel y 3 ≠ a) ∧ (∀ y ∈ l, H.cel y 3 = 0 ∨ ∃ z ∈ l, H.cel y 3 = z + 1) ∧ (a = 0 ∨ ∃ z ∈ l, a = z + 1) ∧ ∀ y, cntIn l y ≤ 1 := by
  induction h with
  | nil => exact ⟨by simp, by simp, .inl rfl, fun y => by simp [cntIn]⟩
  | snoc h h1 h2 h3 ih =>
    rename_i l q a
    obtain ⟨i1, i2, i3, i4⟩ := ih
    have hnot : ¬ (q - 1) ∈ l := fun hm => i1 _ hm h3
    have hmem : ∀ y ∈ l ++ [q - 1], H.cel y 3 = 0 ∨ ∃ z ∈ l, H.cel y 3 = z + 1 := by
      intro y hy
      rcases List.mem_append.1 hy with hy | hy
      · exact i2 y hy
      · have : y = q - 1 := by simpa using hy
        subst this
        rw [h3]
        exact i3
    refine ⟨fun y hy he => ?_, fun y hy => ?_, .inr ⟨q - 1, by simp, by omega⟩, fun y => ?_⟩
    · rcases hmem y hy with h | ⟨z, hz, h⟩
      · omega
      · have : z = q - 1 := by omega
        subst this
        exact hnot hz
    · rcases hmem y hy with h | ⟨z, hz, h⟩
      · exact .inl h
      · exact .inr ⟨z, List.mem_append_left _ hz, h⟩
    · rw [cntIn_snoc]
      by_cases he : q - 1 = y
      · subst he
        rw [if_pos rfl, cntIn_zero hnot]
        omega
      · rw [if_neg he]
        exact i4 y
theorem chain_path {m : Nat} (hc : H.chain head m (H.V head) 0) (h : H.Path head l q a) : l.length ≤ m ∧ H.chain head (m - l.length) q a ∧ ∀ y ∈ l, H.tgt y = head := by
  induction h with
  | nil => exact ⟨by simp, hc, by simp⟩
  | snoc h h1 h2 h3 ih =>
    rename_i l q a
    obtain ⟨i1, i2, i3⟩ := ih
    rcases hr : m - l.length with _ | r
    · rw [hr] at i2
      have : q = 0 := i2
      omega
    · rw [hr] at i2
      obtain ⟨⟨_, _, g3, _⟩, g5⟩ := i2
      have e : m - (l ++ [q - 1]).length = r := by rw [List.length_append]; simp; omega
      refine ⟨by rw [List.length_append]; simp; omega, by rw [e]; exact g5, fun y hy => ?_⟩
      rcases List.mem_append.1 hy with hy | hy
      · exact i3 y hy
      · have : y = q - 1 := by simpa using hy
        rw [this]
        exact g3
theorem path_chain (h : H.Path head l q a) : ∀ {m : Nat}, (∀ y ∈ l, H.tgt y = head) → H.chain head m q a → H.chain head (l.length + m) (H.V head) 0 := by
  induction h with
  | nil => intro m _ hc; simpa using hc
  | snoc h h1 h2 h3 ih =>
    rename_i l q a
    intro m hy hc
    have := ih (m := m + 1) (fun y hm => hy y (List.mem_append_left _ hm)) ⟨⟨h1, h2, hy _ (by simp), h3⟩, hc⟩
    rw [List.length_append]
    rw [show l.length + [q - 1].length + m = l.length + (m + 1) by simp; omega]
    exact this
theorem sumTo_add (f g : Nat → Nat) : ∀ n, sumTo (fun q => f q + g q) n = sumTo f n + sumTo g n
  | 0 => rfl
  | n + 1 => by
    show sumTo (fun q => f q + g q) n + (f n + g n) = (sumTo f n + f n) + (sumTo g n + g n)
    rw [sumTo_add f g n]
    omega
theorem sumTo_zero : ∀ n, sumTo (fun _ => 0) n = 0
  | 0 => rfl
  | n + 1 => by show sumTo (fun _ => 0) n + 0 = 0; rw [sumTo_zero n]
theorem sumTo_one (y : Nat) : ∀ n, sumTo (fun q => if y = q then 1 else 0) n = if y < n then 1 else 0
  | 0 => by simp [sumTo]
  | n + 1 => by
    show sumTo _ n + (if y = n then 1 else 0) = _
    rw [sumTo_one y n]
    by_cases h1 : y < n
    · rw [if_pos h1, if_neg (by omega), if_pos (by omega)]
    · rw [if_neg h1]
      by_cases h2 : y = n
      · rw [if_pos h2, if_pos (by omega)]
      · rw [if_neg h2, if_neg (by omega)]
theorem sumTo_congr {f g : Nat → Nat} : ∀ n, (∀ q, q < n → f q = g q) → sumTo f n = sumTo g n
  | 0, _ => rfl
  | n + 1, h => by
    show sumTo f n + f n = sumTo g n + g n
    rw [sumTo_congr n (fun q hq => h q (by omega)), h n (by omega)]
theorem sumTo_mono {f g : Nat → Nat} : ∀ n, (∀ q, q < n → f q ≤ g q) → sumTo f n ≤ sumTo g n
  | 0, _ => Nat.le_refl _
  | n + 1, h => by
    have h1 := sumTo_mono n (fun q hq => h q (by omega))
    have h2 := h n (by omega)
    show sumTo f n + f n ≤ sumTo g n + g n
    omega
theorem sumTo_eq {f g : Nat → Nat} : ∀ n, (∀ q, q < n → f q ≤ g q) → sumTo f n = sumTo g n → ∀ q, q < n → f q = g q
  | 0, _, _, q, hq => by omega
  | n + 1, h, he, q, hq => by
    have h1 := sumTo_mono n (fun q hq => h q (by omega))
    have h2 := h n (by omega)
    have he' : sumTo f n + f n = sumTo g n + g n := he
    rcases Nat.lt_or_ge q n with h3 | h3
    · exact sumTo_eq n (fun q hq => h q (by omega)) (by omega) q h3
    · have : q = n := by omega
      subst this
      omega
theorem sumTo_cntIn (n : Nat) : ∀ l : List Nat, (∀ y ∈ l, y < n) → sumTo (cntIn l) n = l.length
  | [], _ => sumTo_zero n
  | y :: l, h => by
    have e : ∀ q, q < n → cntIn (y :: l) q = (if y = q then 1 else 0) + cntIn l q := fun q _ => by
      unfold cntIn
      rw [List.filter_cons]
      by_cases h : y = q
      · simp [h]; omega
      · simp [h]
    rw [sumTo_congr n e, sumTo_add, sumTo_one, if_pos (h y (by simp)), sumTo_cntIn n l (fun z hz => h z (by simp [hz]))]
    simp
    omega
theorem cnt_le (head : Int) (n : Nat) : H.cnt head n ≤ n := by
  have := sumTo_le (H.isF head) 1 n (fun q _ => by unfold isF; split <;> omega)
  unfold cnt
  omega
theorem listOk_iff (h : H.Path head l 0 a) : H.ListOk head ↔ ∀ q, q < H.p → cntIn l q = H.isF head q := by
  constructor
  · intro hk
    obtain ⟨h1, h2, h3⟩ := chain_path hk h
    have hlen : l.length = H.cnt head H.p := by
      rcases hr : H.cnt head H.p - l.length with _ | r
      · omega
      · rw [hr] at h2
        have := h2.1.1
        omega
    refine sumTo_eq H.p (fun q hq => ?_) (by rw [sumTo_cntIn _ _ h.lt, hlen]; rfl)
    by_cases hm : q ∈ l
    · have := h.once.2.2.2 q
      unfold isF
      rw [if_pos (h3 q hm)]
      exact this
    · rw [cntIn_zero hm]
      exact Nat.zero_le _
  · intro hq
    have hm : ∀ y ∈ l, H.tgt y = head := fun y hy => by
      have h1 := cntIn_pos hy
      rw [hq y (h.lt y hy)] at h1
      unfold isF at h1
      by_cases he : H.tgt y = head
      · exact he
      · rw [if_neg he] at h1; omega
    have hlen : l.length = H.cnt head H.p := by
      rw [← sumTo_cntIn _ _ h.lt]
      exact sumTo_congr _ hq
    have := path_chain h (m := 0) hm rfl
    rw [Nat.add_zero, hlen] at this
    exact this
theorem listOk_goes (hk : H.ListOk head) (h : H.Path head l q a) (hq : q ≠ 0) : 1 ≤ q ∧ q ≤ H.p ∧ H.cel (q - 1) 3 = a ∧ l.length < H.p := by
  obtain ⟨h1, h2, h3⟩ := chain_path hk h
  have hc := cnt_le (H := H) head H.p
  rcases hr : H.cnt head H.p - l.length with _ | r
  · rw [hr] at h2
    exact absurd h2 hq
  · rw [hr] at h2
    obtain ⟨⟨g1, g2, _, g4⟩, _⟩ := h2
    exact ⟨g1, g2, g4, by omega⟩

theorem ones_full {v n : Nat} (hv : v < 2 ^ n) (hn : n ≤ 32) : HM.onesTo v 32 = n ↔ v = 2 ^ n - 1 := by
  have h32 : ∀ k, HM.onesTo v (n + k) = HM.onesTo v n := by
    intro k
    induction k with
    | zero => rfl
    | succ k ih =>
      rw [← Nat.add_assoc, HM.onesTo_succ, ih, Nat.testBit_lt_two_pow (Nat.lt_of_lt_of_le hv (Nat.pow_le_pow_right (by omega) (by omega)))]
      simp
  have e : HM.onesTo v 32 = HM.onesTo v n := by
    have := h32 (32 - n)
    rwa [show n + (32 - n) = 32 by omega] at this
  rw [e]
  have hf := HM.ones_free v n
  constructor
  · intro h
    have h0 : HM.freeTo v n = [] := List.length_eq_zero_iff.1 (by omega)
    apply Nat.eq_of_testBit_eq
    intro i
    rw [Nat.testBit_two_pow_sub_one]
    by_cases hi : i < n
    · unfold HM.freeTo at h0
      rw [List.filter_eq_nil_iff] at h0
      have := h0 i (List.mem_range.2 hi)
      simp at this
      rw [this, decide_eq_true hi]
    · rw [Nat.testBit_lt_two_pow (Nat.lt_of_lt_of_le hv (Nat.pow_le_pow_right (by omega) (by omega))), decide_eq_false hi]
  · intro h
    have h0 : HM.freeTo v n = [] := by
      unfold HM.freeTo
      rw [List.filter_eq_nil_iff]
      intro i hi
      rw [h, Nat.testBit_two_pow_sub_one]
      simpa using List.mem_range.1 hi
    rw [h0] at hf
    simpa using hf
end AuH
end
section
def natVs (l : List Nat) : List Value := l.map fun (n : Nat) => Value.int .i64 (n : Int)
theorem natVs_snoc (l : List Nat) (q : Nat) : natVs (l ++ [q]) = natVs l ++ [.int .i64 (q : Int)] := by unfold natVs; simp
theorem natVs_get {l : List Nat} {i a : Nat} (h : l[i]? = some a) : (natVs l)[i]? = some (.int .i64 (a : Int)) := by unfold natVs; simp [h]
theorem own_nat {w : World} {base n g cap : Nat} {e : TypeId} {l : List Nat} (h : w.ownsRow base e 1 (.slice (some ⟨g, 0, none⟩) n cap) n (natVs l)) (hn : l.length = n) {i a : Nat} (hi : l[i]? = some a) : w.cell? ⟨g, i, none⟩ = some (.int .i64 (a : Int)) := by
  have hl : i < n := by
    rcases Nat.lt_or_ge i n with h1 | h1
    · exact h1
    · rw [List.getElem?_eq_none (by omega)] at hi; cases hi
  exact (h.cellAt _ (by omega)).trans (natVs_get hi)
def StartsIs (H : AuH) (w : World) (u : Value) (b : Bool) (w' : World) : Prop := (b = true ↔ H.At H.p) ∧ (b = true → ∃ l, H.Starts l H.p ∧ w'.ownsRow w.heap.size 3 1 u l.length (natVs l))
def StartsEnd (H : AuH) (w : World) (e : Ending) (w' : World) : Prop := ∃ u b, e = .returned (.tuple #[u, .bool b]) ∧ StartsIs H w u b w' ∧ Below w.heap.size w w'

set_option maxHeartbeats 6400000 in
set_option maxRecDepth 100000 in
theorem xStarts_c {H : AuH} {n c : Nat} (HV : HeapV H n c) (ad : Addr) (w : World) (hv : IsVals w ad n H.V) :
    Calls Tryz.prog 56 #[hpV H ad n c] w (StartsEnd H w) := by
  have HVL := hidp hv
  have HX0 := hidp ((Held.new w 58 #[.int .i64 (H.t : Int), .int .i64 (H.p : Int), .int .i64 (H.s : Int), .slice (some ad) n c]).alloc (.cells #[] 3))
  have HBW := hidp (Bnew (Bnew (B0 w) (.cells #[.int .i64 (H.t : Int), .int .i64 (H.p : Int), .int .i64 (H.s : Int), .slice (some ad) n c] 58)) (.cells #[] 3))
  have HOW : Hid (((w.alloc (.cells #[.int .i64 (H.t : Int), .int .i64 (H.p : Int), .int .i64 (H.s : Int), .slice (some ad) n c] 58)).alloc (.cells #[] 3)).ownsRow (w.heap.size + 1) 3 1 (.slice (some ⟨(w.alloc (.cells #[.int .i64 (H.t : Int), .int .i64 (H.p : Int), .int .i64 (H.s : Int), .slice (some ad) n c] 58)).heap.size, 0, none⟩) 0 0) 0 []) := hidp (World.ownsRow_lit (base := (w.heap.size + 1)) (e := 3) (size := 1) (w.alloc (.cells #[.int .i64 (H.t : Int), .int .i64 (H.p : Int), .int .i64 (H.s : Int), .slice (some ad) n c] 58)) #[] 0 (by simp) (by unfold maxLen; omega) rfl)
  obtain ⟨i0, hi0, hz0, hz1, hz2⟩ := info_parts intInfo
  have hn := HV.nums
  have hcx : c ≤ 9223372036854775807 := hn.2.2.2.2.2.2.2.2
  have hni : n ≤ 6238 := hn.2.2.2.2.2.2.1
  have hnc := HV.cap
  have hp1 := hn.2.2.2.1
  clear hv hn
  unfold hpV
  go_enter Tryz.func56, Tryz.ntmps56
  go_wp2_with fail
  rw [World.size_alloc] at HOW
  generalize (w.alloc (.cells #[.int .i64 (H.t : Int), .int .i64 (H.p : Int), .int .i64 (H.s : Int), .slice (some ad) n c] 58)).alloc (.cells #[] 3) = W0 at *
  go_loopw [4, 5] (fun u4 u5 wr => ∃ (a : Nat) (l : List Nat) (nl : Nat), u5 = .int .i64 (a : Int) ∧ a ≤ 4096 ∧ Hid ((a ≤ H.p ∧ H.Starts l a) ∨ (H.p < a ∧ ¬ H.At H.p)) ∧ nl ≤ 1024 ∧ Hid (l.length = nl) ∧ Hid (wr.ownsRow (w.heap.size + 1) 3 1 u4 nl (natVs l)) ∧ Hid (Held wr w.heap.size 58 #[.int .i64 (H.t : Int), .int .i64 (H.p : Int), .int .i64 (H.s : Int), .slice (some ad) n c]) ∧ Hid (Below w.heap.size w wr)) (fun _ u5 _ => H.p - (intOf u5).toNat)
  case atStart => exact ⟨0, [], 0, rfl, by omega, hidp (.inl ⟨by omega, .nil⟩), by omega, hidp rfl, HOW, HX0, HBW⟩
  case round =>
    clear HOW HX0 HBW
    obtain ⟨a, l, nl, rfl, ha, HST, hnl, HLN, HO, HX, HB⟩ := hrel
    obtain ⟨c0, c1, c2, c3⟩ := HX.out.four
    by_cases hlt : a < H.p
    · have hst : H.Starts l a := by
        rcases HST.out with h | h
        · exact h.2
        · omega
      have HSL := hidp hst
      have hln := hst.len
      have t0 : decide ((a : Int) < H.p) = true := decide_eq_true (by omega)
      have HVR := hidp (HVL.out.below HB.out)
      obtain ⟨i, hii⟩ : ∃ i, 30 + 4 * H.t + 6 * a + 0 = i := ⟨_, rfl⟩
      have hini : i < n := by have := HV.len; omega
      have HI : Hid (pageI H.t H.p H.s a 0 = (i : Int)) := hidp (by have h := HV.page (b := 0) hlt (by omega); rw [hii] at h; exact h)
      have h32i := HV.cel_lt hlt (show 0 < 6 by omega)
      have hceli : H.cel a 0 = H.V i := by unfold AuH.cel; rw [hii]
      obtain ⟨v, hvvv⟩ : ∃ v, H.cel a 0 = v := ⟨_, rfl⟩
      have HCv := hidp hvvv
      rw [hvvv] at h32i
      have hci := (HVR.out).2 i hini
      rw [← hceli, hvvv] at hci
      have hbli : (ad.add i).block < wr.heap.size := by rw [block_of_add]; exact (HVR.out).1
      have HS : Hid (∀ w', Below wr.heap.size wr w' → (fun w' => w'.cell? ⟨w.heap.size, 0, none⟩ = some (.int .i64 (H.t : Int)) ∧ w'.cell? ⟨w.heap.size, 1, none⟩ = some (.int .i64 (H.p : Int)) ∧ w'.cell? ⟨w.heap.size, 2, none⟩ = some (.int .i64 (H.s : Int)) ∧ w'.cell? ⟨w.heap.size, 3, none⟩ = some (.slice (some ad) n c) ∧ w'.cell? (ad.add i) = some (.int .u32 (v : Int))) w') := hidp (fun w' hb => by have hh := HX.out.keep hb; exact ⟨hh.four.1, hh.four.2.1, hh.four.2.2.1, hh.four.2.2.2, (hb.cell hbli).trans hci⟩)
      have hie := H.info_eq a
      rw [H.L_ln, hvvv] at hie
      have hok := H.ok_of a
      have hkc := H.K_cases a
      have HCN : Hid (H.can a = false → ¬ H.At H.p) := hidp (fun h hp => by have := (AuH.At.next hst.at_ hp hlt).1; rw [h] at this; cases this)
      have HCA : Hid (H.K a ≠ 0 → a + H.ln a ≤ H.p → H.can a = true ∧ H.nx a = a + H.ln a) := hidp (fun h1 h2 => ⟨(H.can_iff a).2 ⟨hlt, h1, h2⟩, rfl⟩)
      have HCF : Hid (H.K a = 0 ∨ H.p < a + H.ln a → H.can a = false) := hidp (fun h => (H.can_no a).2 (by omega))
      generalize H.K a = k at *
      generalize H.ln a = m at *
      generalize H.Cl a = cl at *
      generalize H.ok a = okb at *
      have HG := hidp hie
      clear hci hbli hceli hvvv hii HCv hie hst
      go_upto_region 4 with fail
      go_cut [6, 7] from 14 to 25 (fun u6 u7 wx => ∃ g : Nat, u6 = .pointer (some ⟨g, 0, none⟩) ∧ u7 = .bool okb ∧ Held wx g 63 #[(.int .i64 k), (.int .i64 (m : Int)), (.int .i64 cl)] ∧ Below wr.heap.size wr wx ∧ wr.heap.size ≤ g)
      case first =>
        have HB := hidp (Bdrew (B0 (wr)))
        refine wp_region_held_drew (S := (fun w' => w'.cell? ⟨w.heap.size, 0, none⟩ = some (.int .i64 (H.t : Int)) ∧ w'.cell? ⟨w.heap.size, 1, none⟩ = some (.int .i64 (H.p : Int)) ∧ w'.cell? ⟨w.heap.size, 2, none⟩ = some (.int .i64 (H.s : Int)) ∧ w'.cell? ⟨w.heap.size, 3, none⟩ = some (.slice (some ad) n c) ∧ w'.cell? (ad.add i) = some (.int .u32 (v : Int)))) (by kernel_rfl) ?_ (fun hHeld => ?_)
        · (try dsimp only)
          exact HS.out _ HB.out
        generalize hq0 : (wr).drew = q0 at HB hHeld ⊢
        clear hq0
        refine tkz 0 ?_
        refine tkz 1 ?_
        refine tkz 2 ?_
        refine tkz 3 ?_
        refine tkz 4 ?_
        refine wpAnyH_ready (rs := [5, 12]) (by kernel_rfl) (by simp) ?_
        refine AllReadyH.cons (o := _) rfl (fun K hK => ?_) (AllReadyH.cons (o := _) rfl (fun K hK => ?_) AllReadyH.nil)
        · skip
          go_simp
          (go_at_call 57; refine (r7Info_c _ _ _ _ _).mono ?_; rintro e q1 ⟨rfl, hb1⟩; rw [HI.out]; have HB := hidp (Bgo HB.out hb1); skip; clear hb1)
          refine hK.out _ _ ?_ (fun hHeld => ?_)
          · (try dsimp only)
            exact HS.out _ HB.out
          clear hK K
          (try simp only [Act.put, gA, gB, gC, sA, sB, sC])
          refine tkz 6 ?_
          refine tkz 7 ?_
          refine wpAnyH_ready (rs := [8, 12]) (by kernel_rfl) (by simp) ?_
          refine AllReadyH.cons (o := _) rfl (fun K hK => ?_) (AllReadyH.cons (o := _) rfl (fun K hK => ?_) AllReadyH.nil)
          · skip
            go_simp
            (go_at_call 75; refine (r9Get_c _ _ _ _ _ h32i HG.out _).mono ?_; rintro e q2 ⟨rfl, hb1⟩; have HB := hidp (Bgo HB.out hb1); skip; clear hb1)
            refine hK.out _ _ ?_ (fun hHeld => ?_)
            · (try dsimp only)
              exact HS.out _ HB.out
            clear hK K
            (try simp only [Act.put, gA, gB, gC, sA, sB, sC])
            refine tkz 9 ?_
            refine tkz 10 ?_
            refine tkz 11 ?_
            refine wpAnyH_ready (rs := [12]) (by kernel_rfl) (by simp) ?_
            refine AllReadyH.cons (o := _) rfl (fun K hK => ?_) AllReadyH.nil
            · skip
              go_simp
              have HLE := hidp HB.out.size
              have HB := hidp (Bnew HB.out (.cells #[.int .i64 0, .int .i64 0, .int .i64 0] 63))
              have HN := hidp (Held.new q2 63 #[.int .i64 0, .int .i64 0, .int .i64 0])
              try simp only [World.heap_drew] at HLE HN
              generalize hq3 : q2.alloc (.cells #[.int .i64 0, .int .i64 0, .int .i64 0] 63) = q3 at HB HN ⊢
              clear hq3
              refine hK.out _ _ ?_ (fun hHeld => ?_)
              · (try dsimp only)
                exact HS.out _ HB.out
              clear hK K
              (try simp only [Act.put, gA, gB, gC, sA, sB, sC])
              refine wpAnyH_ready (rs := [13]) (by kernel_rfl) (by simp) ?_
              refine AllReadyH.cons (o := _) rfl (fun K hK => ?_) AllReadyH.nil
              obtain ⟨z0, z1, z2⟩ := HN.out.three
              have f0 := HN.out.thawed 0
              have f1 := HN.out.thawed 1
              have f2 := HN.out.thawed 2
              go_simp
              have HN := hidp (HN.out.put 0 (.int .i64 k))
              have HN := hidp (HN.out.put 1 (.int .i64 (m : Int)))
              have HN := hidp (HN.out.put 2 (.int .i64 cl))
              have HB := hidp (Bput (p := ⟨_, 2, none⟩) (Bput (p := ⟨_, 1, none⟩) (Bput (p := ⟨_, 0, none⟩) HB.out HLE.out (.int .i64 k)) HLE.out (.int .i64 (m : Int))) HLE.out (.int .i64 cl))
              clear z0 z1 z2 f0 f1 f2
              refine hK.out _ _ ?_ (fun hHeld => ?_)
              · (try dsimp only)
                exact HS.out _ HB.out
              clear hK K
              (try simp only [Act.put, gA, gB, gC, sA, sB, sC])
              refine tkz 14 ?_
              refine wpAnyH_done (by kernel_rfl) ?_ _
              go_wp2_with fail
              go_meet
              case rel => exact ⟨_, rfl, rfl, HN.out, HB.out, HLE.out⟩
          · skip
            go_simp
            have HLE := hidp HB.out.size
            have HB := hidp (Bnew HB.out (.cells #[.int .i64 0, .int .i64 0, .int .i64 0] 63))
            have HN := hidp (Held.new q1 63 #[.int .i64 0, .int .i64 0, .int .i64 0])
            try simp only [World.heap_drew] at HLE HN
            generalize hq4 : q1.alloc (.cells #[.int .i64 0, .int .i64 0, .int .i64 0] 63) = q4 at HB HN ⊢
            clear hq4
            refine hK.out _ _ ?_ (fun hHeld => ?_)
            · (try dsimp only)
              exact HS.out _ HB.out
            clear hK K
            (try simp only [Act.put, gA, gB, gC, sA, sB, sC])
            refine wpAnyH_ready (rs := [8]) (by kernel_rfl) (by simp) ?_
            refine AllReadyH.cons (o := _) rfl (fun K hK => ?_) AllReadyH.nil
            · skip
              go_simp
              (go_at_call 75; refine (r9Get_c _ _ _ _ _ h32i HG.out _).mono ?_; rintro e q5 ⟨rfl, hb1⟩; have HB := hidp (Bgo HB.out hb1); have HN := hidp (HN.out.keep hb1); clear hb1)
              refine hK.out _ _ ?_ (fun hHeld => ?_)
              · (try dsimp only)
                exact HS.out _ HB.out
              clear hK K
              (try simp only [Act.put, gA, gB, gC, sA, sB, sC])
              refine tkz 9 ?_
              refine tkz 10 ?_
              refine tkz 11 ?_
              refine wpAnyH_ready (rs := [13]) (by kernel_rfl) (by simp) ?_
              refine AllReadyH.cons (o := _) rfl (fun K hK => ?_) AllReadyH.nil
              obtain ⟨z0, z1, z2⟩ := HN.out.three
              have f0 := HN.out.thawed 0
              have f1 := HN.out.thawed 1
              have f2 := HN.out.thawed 2
              go_simp
              have HN := hidp (HN.out.put 0 (.int .i64 k))
              have HN := hidp (HN.out.put 1 (.int .i64 (m : Int)))
              have HN := hidp (HN.out.put 2 (.int .i64 cl))
              have HB := hidp (Bput (p := ⟨_, 2, none⟩) (Bput (p := ⟨_, 1, none⟩) (Bput (p := ⟨_, 0, none⟩) HB.out HLE.out (.int .i64 k)) HLE.out (.int .i64 (m : Int))) HLE.out (.int .i64 cl))
              clear z0 z1 z2 f0 f1 f2
              refine hK.out _ _ ?_ (fun hHeld => ?_)
              · (try dsimp only)
                exact HS.out _ HB.out
              clear hK K
              (try simp only [Act.put, gA, gB, gC, sA, sB, sC])
              refine tkz 14 ?_
              refine wpAnyH_done (by kernel_rfl) ?_ _
              go_wp2_with fail
              go_meet
              case rel => exact ⟨_, rfl, rfl, HN.out, HB.out, HLE.out⟩
        · skip
          go_simp
          have HLE := hidp HB.out.size
          have HB := hidp (Bnew HB.out (.cells #[.int .i64 0, .int .i64 0, .int .i64 0] 63))
          have HN := hidp (Held.new q0 63 #[.int .i64 0, .int .i64 0, .int .i64 0])
          try simp only [World.heap_drew] at HLE HN
          generalize hq6 : q0.alloc (.cells #[.int .i64 0, .int .i64 0, .int .i64 0] 63) = q6 at HB HN ⊢
          clear hq6
          refine hK.out _ _ ?_ (fun hHeld => ?_)
          · (try dsimp only)
            exact HS.out _ HB.out
          clear hK K
          (try simp only [Act.put, gA, gB, gC, sA, sB, sC])
          refine wpAnyH_ready (rs := [5]) (by kernel_rfl) (by simp) ?_
          refine AllReadyH.cons (o := _) rfl (fun K hK => ?_) AllReadyH.nil
          · skip
            go_simp
            (go_at_call 57; refine (r7Info_c _ _ _ _ _).mono ?_; rintro e q7 ⟨rfl, hb1⟩; rw [HI.out]; have HB := hidp (Bgo HB.out hb1); have HN := hidp (HN.out.keep hb1); clear hb1)
            refine hK.out _ _ ?_ (fun hHeld => ?_)
            · (try dsimp only)
              exact HS.out _ HB.out
            clear hK K
            (try simp only [Act.put, gA, gB, gC, sA, sB, sC])
            refine tkz 6 ?_
            refine tkz 7 ?_
            refine wpAnyH_ready (rs := [8]) (by kernel_rfl) (by simp) ?_
            refine AllReadyH.cons (o := _) rfl (fun K hK => ?_) AllReadyH.nil
            · skip
              go_simp
              (go_at_call 75; refine (r9Get_c _ _ _ _ _ h32i HG.out _).mono ?_; rintro e q8 ⟨rfl, hb1⟩; have HB := hidp (Bgo HB.out hb1); have HN := hidp (HN.out.keep hb1); clear hb1)
              refine hK.out _ _ ?_ (fun hHeld => ?_)
              · (try dsimp only)
                exact HS.out _ HB.out
              clear hK K
              (try simp only [Act.put, gA, gB, gC, sA, sB, sC])
              refine tkz 9 ?_
              refine tkz 10 ?_
              refine tkz 11 ?_
              refine wpAnyH_ready (rs := [13]) (by kernel_rfl) (by simp) ?_
              refine AllReadyH.cons (o := _) rfl (fun K hK => ?_) AllReadyH.nil
              obtain ⟨z0, z1, z2⟩ := HN.out.three
              have f0 := HN.out.thawed 0
              have f1 := HN.out.thawed 1
              have f2 := HN.out.thawed 2
              go_simp
              have HN := hidp (HN.out.put 0 (.int .i64 k))
              have HN := hidp (HN.out.put 1 (.int .i64 (m : Int)))
              have HN := hidp (HN.out.put 2 (.int .i64 cl))
              have HB := hidp (Bput (p := ⟨_, 2, none⟩) (Bput (p := ⟨_, 1, none⟩) (Bput (p := ⟨_, 0, none⟩) HB.out HLE.out (.int .i64 k)) HLE.out (.int .i64 (m : Int))) HLE.out (.int .i64 cl))
              clear z0 z1 z2 f0 f1 f2
              refine hK.out _ _ ?_ (fun hHeld => ?_)
              · (try dsimp only)
                exact HS.out _ HB.out
              clear hK K
              (try simp only [Act.put, gA, gB, gC, sA, sB, sC])
              refine tkz 14 ?_
              refine wpAnyH_done (by kernel_rfl) ?_ _
              go_wp2_with fail
              go_meet
              case rel => exact ⟨_, rfl, rfl, HN.out, HB.out, HLE.out⟩
      case rest =>
        obtain ⟨g, rfl, rfl, h1, h2, h3⟩ := hcut
        obtain ⟨d0, d1, d2⟩ := h1.three
        have HBX := hidp (Bgo HB.out h2)
        have HHX := hidp (HX.out.keep h2)
        have HNX := hidp h1
        have HOX := hidp (own_below HO.out h2)
        have HGE := hidp h3
        clear h1 h2 h3 HS c0 c1 c2 c3
        by_cases hk0 : k = 0
        · have HNA := hidp (HCN.out (HCF.out (.inl hk0)))
          subst hk0
          cases okb
          · go_wp2_with fail
            go_ret2
            exact ⟨_, false, rfl, ⟨⟨fun h => (by cases h), fun h => absurd h HNA.out⟩, fun h => (by cases h)⟩, HBX.out⟩
          · go_wp2_with fail
            go_ret2
            exact ⟨_, false, rfl, ⟨⟨fun h => (by cases h), fun h => absurd h HNA.out⟩, fun h => (by cases h)⟩, HBX.out⟩
        · have e : okb = true := hok hk0
          subst e
          have q0 : (k == 0) = false := by simpa using hk0
          have hmm : 1 ≤ m ∧ m ≤ 1024 := by omega
          have sw : IntKind.i64.wrap ((a : Int) + m) = ((a + m : Nat) : Int) := by rw [i64_same (by omega) (by omega)]; push_cast; rfl
          clear hkc hok
          go_wp2_with (first
            | (at_builtin
               refine wpList_append_own _ rfl _ _ 81 rfl (w.heap.size + 1) 3 i0 (.int .i64 0) 1 8 Tryz.underlying81 hi0 hz0 hz1 hz2 rfl (by decide) _ _ _ rfl (HOX.out.alloc _) ⟨_, 0, none⟩ 1 1 [.int .i64 (a : Int)] rfl rfl ?c1 ?c2 ?c3 ?c4 ?c5 ?_
               case c1 => intro j y hy; rcases j with _ | j; (· simp at hy; subst hy; simp [Addr.add]); (· simp at hy)
               case c2 => simp [Value.oneCell']
               case c3 => unfold maxLen; omega
               case c4 => omega
               case c5 => have := HBX.out.size; have := HX.out.lt; simp; omega
               intro u1 w3 hown3 hgrow hat3
               have HO3 : Hid (w3.ownsRow (w.heap.size + 1) 3 1 u1 (nl + 1) (natVs (l ++ [a]))) := hidp (by rw [natVs_snoc]; exact hown3)
               have hnb : ∀ j, u4.ownBlock = some j → (w.heap.size + 1) ≤ j := fun j hj => (HOX.out.lt j hj).1
               have HB3 := hidp ((Bnew HBX.out (.cells #[.int .i64 (a : Int)] 3)).grown hgrow (by have := HBX.out.size; simp; omega) (fun j hj => by have := hnb j hj; omega))
               have HX3 := hidp (held_grown (HHX.out.alloc (.cells #[.int .i64 (a : Int)] 3)) hgrow (fun e => by have := hnb _ e; omega))
               have HN3 := hidp (held_grown (HNX.out.alloc (.cells #[.int .i64 (a : Int)] 3)) hgrow (fun e => by have := (HO.out.lt _ e).2; have := HGE.out; omega))
               clear hown3 hgrow hat3 hnb d0 d1 d2
               obtain ⟨d0, d1, d2⟩ := HN3.out.three)
            | fail)
          go_roundw
          case rel =>
            refine ⟨a + m, l ++ [a], nl + 1, by go_num, by omega, ?_, by have := HSL.out.len; have := HLN.out; omega, hidp (by rw [List.length_append, HLN.out]; rfl), HO3, HX3, HB3⟩
            rcases Nat.lt_or_ge H.p (a + m) with h | h
            · exact hidp (.inr ⟨h, HCN.out (HCF.out (.inr h))⟩)
            · have h4 := HCA.out hk0 h
              exact hidp (.inl ⟨h, by rw [← h4.2]; exact .snoc HSL.out h4.1⟩)
          case measure => simp [intOf]; omega
    · have t0 : decide ((a : Int) < H.p) = false := decide_eq_false (by omega)
      obtain ⟨b, hb⟩ : ∃ b : Bool, ((a : Int) == H.p) = b := ⟨_, rfl⟩
      have HSI : Hid (StartsIs H w u4 b wr) := hidp (by
        rcases HST.out with ⟨h1, h2⟩ | ⟨h1, h2⟩
        · have hap : a = H.p := by omega
          have hbt : b = true := by rw [← hb]; simp; omega
          subst hbt
          refine ⟨⟨fun _ => by rw [← hap]; exact h2.at_, fun _ => rfl⟩, fun _ => ⟨l, by rw [← hap]; exact h2, by rw [HLN.out]; exact own_down HO.out (by omega)⟩⟩
        · have hbt : b = false := by rw [← hb]; simp; omega
          subst hbt
          exact ⟨⟨fun h => (by cases h), fun h => absurd h h2⟩, fun h => (by cases h)⟩)
      clear HST
      go_wp2_with fail
      refine wp_region_held_drew (S := (fun w' => w'.cell? ⟨w.heap.size, 0, none⟩ = some (.int .i64 (H.t : Int)) ∧ w'.cell? ⟨w.heap.size, 1, none⟩ = some (.int .i64 (H.p : Int)) ∧ w'.cell? ⟨w.heap.size, 2, none⟩ = some (.int .i64 (H.s : Int)) ∧ w'.cell? ⟨w.heap.size, 3, none⟩ = some (.slice (some ad) n c))) (by kernel_rfl) ?_ (fun hHeld => ?_)
      · (try dsimp only)
        first | exact ⟨c0, c1, c2, c3⟩ | exact hHeld
      refine tkz 0 ?_
      refine tkz 1 ?_
      refine tkz 2 ?_
      refine tkz 3 ?_
      refine tkz 4 ?_
      refine tkz 5 ?_
      refine tkz 6 ?_
      refine tkz 7 ?_
      refine wpAnyH_done (by kernel_rfl) ?_ _
      go_wp2_with fail
      go_ret2
      exact ⟨_, _, rfl, HSI.out, Bdrew HB.out⟩
end
end Go.Proofs.YtkbjckhbllmclaaGreatDoor
