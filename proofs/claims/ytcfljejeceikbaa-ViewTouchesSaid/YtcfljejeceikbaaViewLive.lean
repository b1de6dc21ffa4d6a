/-
  A touch of a View (nacrelaw11.touch), what is no View, and the page's examples (nacrelaw11.live).
-/
import Derived.Test.YtcfljejeceikbaaViewVals
import Derived.Test.YtcfljejeceikbaaSame
import Derived.Test.YtcfljejeceikbaaTouch
namespace Go.Proofs.Ytcfljejeceikbaa
open Go.ChangeShapes Go.WideShapes Go.ChangeAt Go.RowKit Go.Maps
set_option linter.unusedVariables false
set_option linter.unusedSimpArgs false

/-! what is no View: nil, and one that neither Whole nor Known made -/
theorem vopen_nil (a : Int) (w : World) : Calls Try.prog 32 #[.pointer none, .int .i64 a] w fun e w' => e = .returned (.bool false) ∧ w' = w := by
  go_enter Try.func32, Try.ntmps32
  go_wp2
  go_ret
  exact ⟨rfl, rfl⟩
def NoView (w : World) (b : Nat) : Prop := Held w b 55 #[.int .i64 0, .nilIface, .slice none 0 0, .map none, .slice none 0 0, .map none, .bool false, .int .i64 0]
theorem NoView.cells {w : World} {b : Nat} (h : NoView w b) : w.cell? ⟨b, 0, none⟩ = some (.int .i64 0) ∧ w.cell? ⟨b, 1, none⟩ = some .nilIface ∧ w.cell? ⟨b, 4, none⟩ = some (.slice none 0 0) ∧ w.cell? ⟨b, 6, none⟩ = some (.bool false) :=
  ⟨Held.cell h 0, Held.cell h 1, Held.cell h 4, Held.cell h 6⟩
theorem vopen_zero (b : Nat) (a : Int) (w : World) (h : NoView w b) : Calls Try.prog 32 #[.pointer (some ⟨b, 0, none⟩), .int .i64 a] w fun e w' => e = .returned (.bool false) ∧ w' = w := by
  obtain ⟨c0, _, _, c6⟩ := h.cells
  clear h
  rcases Int.lt_or_le a 0 with h1 | h1
  · have t0 : decide ((0 : Int) ≤ a) = false := decide_eq_false (by omega)
    go_enter Try.func32, Try.ntmps32
    go_wp2
    go_ret
    exact ⟨rfl, rfl⟩
  · have t0 : decide ((0 : Int) ≤ a) = true := decide_eq_true h1
    have t1 : decide (a < (0 : Int)) = false := decide_eq_false (by omega)
    go_enter Try.func32, Try.ntmps32
    go_wp2
    go_ret
    exact ⟨rfl, rfl⟩
theorem vGet_nil (a : Int) (w : World) : Calls Try.prog 23 #[.pointer none, .int .i64 a] w fun e w' => e = .returned (.int .u32 0) ∧ w' = w := by
  go_enter Try.func23, Try.ntmps23
  go_wp2_with fail
  refine (vopen_nil _ _).mono ?_
  rintro e w1 ⟨rfl, rfl⟩
  go_wp2
  go_ret
  exact ⟨rfl, rfl⟩
theorem vGet_zero (b : Nat) (a : Int) (w : World) (h : NoView w b) : Calls Try.prog 23 #[.pointer (some ⟨b, 0, none⟩), .int .i64 a] w fun e w' => e = .returned (.int .u32 0) ∧ w' = w := by
  go_enter Try.func23, Try.ntmps23
  go_wp2_with fail
  refine (vopen_zero _ _ _ h).mono ?_
  rintro e w1 ⟨rfl, rfl⟩
  go_wp2
  go_ret
  exact ⟨rfl, rfl⟩
theorem vPut_nil (a v : Int) (w : World) : Calls Try.prog 22 #[.pointer none, .int .i64 a, .int .u32 v] w fun e w' => e = .returned (.tuple #[]) ∧ w' = w := by
  go_enter Try.func22, Try.ntmps22
  go_wp2_with fail
  refine (vopen_nil _ _).mono ?_
  rintro e w1 ⟨rfl, rfl⟩
  go_wp2
  (try simp only [Exit.inBlock, Exit.then])
  refine bodyPost_ret (results_none rfl _ _ _) rfl ?_
  exact ⟨rfl, rfl⟩
theorem vPut_zero (b : Nat) (a v : Int) (w : World) (h : NoView w b) : Calls Try.prog 22 #[.pointer (some ⟨b, 0, none⟩), .int .i64 a, .int .u32 v] w fun e w' => e = .returned (.tuple #[]) ∧ w' = w := by
  go_enter Try.func22, Try.ntmps22
  go_wp2_with fail
  refine (vopen_zero _ _ _ h).mono ?_
  rintro e w1 ⟨rfl, rfl⟩
  go_wp2
  (try simp only [Exit.inBlock, Exit.then])
  refine bodyPost_ret (results_none rfl _ _ _) rfl ?_
  exact ⟨rfl, rfl⟩
theorem vReads_nil (w : World) : Calls Try.prog 14 #[.pointer none] w fun e w' => e = .returned (.slice none 0 0) ∧ w' = w := by
  go_enter Try.func14, Try.ntmps14
  go_wp2
  go_ret
  exact ⟨rfl, rfl⟩
theorem vMissing_nil (w : World) : Calls Try.prog 16 #[.pointer none] w fun e w' => e = .returned (.int .i64 (-1)) ∧ w' = w := by
  go_enter Try.func16, Try.ntmps16
  go_wp2
  go_ret
  exact ⟨rfl, rfl⟩
theorem vMissing_zero (b : Nat) (w : World) (h : NoView w b) : Calls Try.prog 16 #[.pointer (some ⟨b, 0, none⟩)] w fun e w' => e = .returned (.int .i64 (-1)) ∧ w' = w := by
  obtain ⟨c0, _, _, c6⟩ := h.cells
  go_enter Try.func16, Try.ntmps16
  go_wp2
  go_ret
  exact ⟨rfl, rfl⟩
theorem vWrites_zero (b : Nat) (w : World) (h : NoView w b) : Calls Try.prog 15 #[.pointer (some ⟨b, 0, none⟩)] w fun e w' => e = .returned (.slice none 0 0) ∧ Below w.heap.size w w' := by
  obtain ⟨c0, _, c4, c6⟩ := h.cells
  clear h
  go_enter Try.func15, Try.ntmps15
  go_wp2_with fail
  refine (ClonePairs_c none 0 0 [] rfl (by omega) (by simp) _ (fun h => by omega)).mono ?_
  rintro e w1 ⟨v, rfl, ho, hv, hb⟩
  obtain rfl := hv rfl
  have HB := hidp hb
  clear ho hb hv
  go_wp2
  go_ret
  exact ⟨rfl, HB.out⟩
theorem vVals_none (b : Nat) (w : World) (h : NoView w b) : Calls Try.prog 18 #[.pointer (some ⟨b, 0, none⟩)] w fun e w' => e = .returned (.slice none 0 0) ∧ w' = w := by
  obtain ⟨c0, c1, c4, c6⟩ := h.cells
  clear h
  go_enter Try.func18, Try.ntmps18
  go_wp2
  go_ret
  exact ⟨rfl, rfl⟩

/-! a touch -/
def tchV (n : Nat) (K : Nat → Option Nat) (s : Vst) (t : TouchV) : Nat := if t.put then 0 else getV n K s t.cell
def tchS (n : Nat) (K : Nat → Option Nat) (s : Vst) (t : TouchV) : Vst := if t.put then putS n s t.cell t.val else getS n K s t.cell
theorem tch_len (n : Nat) (K : Nat → Option Nat) (s : Vst) (t : TouchV) : (tchS n K s t).rd.length ≤ s.rd.length + 1 ∧ (tchS n K s t).wr.length ≤ s.wr.length + 1 := by
  unfold tchS
  split
  · have := put_len n s t.cell t.val
    exact ⟨by rw [this.2]; omega, this.1⟩
  · have := get_len n K s t.cell
    exact ⟨this.1, by rw [this.2]; omega⟩
theorem Left11.of_alloc {w : World} {base b n : Nat} {wh : Bool} {o : VGeo} {K : Nat → Option Nat} {s : Vst} {w' : World} (ob : Obj) (h : Left11 (w.alloc ob) base b n wh o K s w') : Left11 w base b n wh o K s w' := by
  obtain ⟨o', h1, h2, h3⟩ := h
  refine ⟨o', h1, fun g hg => ?_, ((T0 _ _).alloc _).trans h3⟩
  rcases h2 g hg with h4 | h4
  · exact .inl h4
  · simp at h4; exact .inr (by omega)
theorem touch_c {base b n : Nat} {wh : Bool} {o : VGeo} {K : Nat → Option Nat} {s : Vst} (t : TouchV) (ht : t.Ok) (h1 : s.rd.length < 2 ^ 40) (h2 : s.wr.length < 2 ^ 40) (w : World) (h : IsView w base b n wh o K s) :
    Calls Try.prog 11 #[.pointer (some ⟨b, 0, none⟩), t.v] w fun e w' => e = .returned (.int .u32 ((tchV n K s t : Nat) : Int)) ∧ Left11 w base b n wh o K (tchS n K s t) w' := by
  obtain ⟨p, c, v⟩ := t
  have HV := hidp ht.val
  unfold TouchV.v tchV tchS
  simp only at HV ⊢
  have HH : Hid (IsView (w.alloc (.cells #[.bool p, .int .i64 c, .int .u32 (v : Int)] 35)) base b n wh o K s) := hidp (h.keep (Bnew (B0 _) _))
  clear h ht
  cases p with
  | true =>
    go_enter Try.func11, Try.ntmps11
    go_wp2_with fail
    refine (Put_c c v HV.out h2 _ HH.out).mono ?_
    rintro e w1 ⟨rfl, hL⟩
    have HL := hidp hL.of_alloc
    clear hL
    go_wp2
    go_ret
    exact ⟨rfl, HL.out⟩
  | false =>
    go_enter Try.func11, Try.ntmps11
    go_wp2_with fail
    refine (Get_c c h1 h2 _ HH.out).mono ?_
    rintro e w1 ⟨rfl, hL⟩
    have HL := hidp hL.of_alloc
    clear hL
    go_wp2
    go_ret
    exact ⟨rfl, HL.out⟩
end Go.Proofs.Ytcfljejeceikbaa
