/-
  The page's examples (nacrelaw11.live).
-/
import Derived.Test.YtcfljejeceikbaaViewLive
namespace Go.Proofs.Ytcfljejeceikbaa
open Go.ChangeShapes Go.WideShapes Go.ChangeAt Go.RowKit Go.Maps
set_option linter.unusedVariables false
set_option linter.unusedSimpArgs false

def liveK : Nat → Option Nat := fun i => [5, 6][i]?
def liveN : Nat → Option Nat := kOf 2 [⟨0, 5⟩]
def live1 : Vst := ⟨[1], [], false, 0⟩
def live2 : Vst := ⟨[1], [(1, 7)], false, 0⟩
def live3 : Vst := ⟨[], [], true, 1⟩
theorem live_a : getV 2 liveK freshS 1 = 6 ∧ getS 2 liveK freshS 1 = live1 := ⟨by decide, by rfl⟩
theorem live_b : putS 2 live1 1 7 = live2 := by rfl
theorem live_c2 : getV 2 liveK live2 1 = 7 ∧ getS 2 liveK live2 1 = live2 := ⟨by decide, by rfl⟩
theorem live_d : getV 2 liveN freshS 1 = 0 ∧ getS 2 liveN freshS 1 = live3 := ⟨by decide, by rfl⟩
theorem live_e : getV 2 liveN live3 0 = 0 ∧ getS 2 liveN live3 0 = live3 := ⟨by decide, by rfl⟩
theorem live_f : (List.range 2).map (valF (nowV liveK live2.wr)) = valVs [5, 7] := by rfl

/-- blocks that are new above a world -/
theorem IsView.new_apart {w w' : World} {base b n : Nat} {wh : Bool} {o : VGeo} {K : Nat → Option Nat} {s : Vst} (h : IsView w' base b n wh o K s) {w0 : World} (hb : w0.heap.size ≤ base) : ∀ i, o.A b i → w0.heap.size ≤ i := fun i hi => Nat.le_trans hb (h.ge i hi)
theorem Left11.below {w : World} {base b n : Nat} {wh : Bool} {o : VGeo} {K : Nat → Option Nat} {s s0 : Vst} {w' W : World} (h : Left11 w base b n wh o K s w') (hv : IsView w base b n wh o K s0) (hb : Below W.heap.size W w) (hW : W.heap.size ≤ base) :
    ∃ o', IsView w' base b n wh o' K s ∧ Below W.heap.size W w' ∧ Turns (o.F b) w w' ∧ (∀ g, o'.A b g → o.A b g ∨ w.heap.size ≤ g) := by
  obtain ⟨o', h1, h2, h3⟩ := h
  exact ⟨o', h1, h3.below hb (fun i hi => Nat.le_trans hW (hv.ge i (.inl hi))), h3, h2⟩

theorem RowV.lit (w : World) (cs : Array Value) (t : TypeId) (n : Nat) (h : cs.size = n) (hm : n ≤ maxLen) : RowV (w.alloc (.cells cs t)) (.slice (some ⟨w.heap.size, 0, none⟩) n n) cs.toList := by
  subst h
  refine ⟨by simpa using hm, .inr ⟨w.heap.size, 0, cs.size, by simp, by simp, fun i u hu => ?_⟩⟩
  rw [Nat.zero_add, (Held.new w t cs).cell i]
  simpa using hu
theorem RowV.of_rowF {w : World} {g n c : Nat} {t : TypeId} {f : Nat → Value} (h : RowF w g t n c f) : RowV w (.slice (some ⟨g, 0, none⟩) n c) ((List.range n).map f) := by
  refine ⟨by have := h.le; have := h.max; simp; omega, .inr ⟨g, 0, c, by simp, h.lt, fun i u hu => ?_⟩⟩
  have hi : i < n := by
    rcases Nat.lt_or_ge i n with h1 | h1
    · exact h1
    · rw [List.getElem?_eq_none (by simpa using h1)] at hu; cases hu
  rw [List.getElem?_map, List.getElem?_range hi] at hu
  rw [Nat.zero_add, h.cell hi]
  exact hu
theorem natVs_ints (l : List Nat) : natVs l = (l.map fun (n : Nat) => (n : Int)).map (Value.int .i64) := by unfold natVs; rw [List.map_map]; rfl

theorem live_c (w : World) : Calls Try.prog 6 #[] w fun e w' => e = .returned (.bool true) ∧ Below w.heap.size w w' := by
  go_enter Try.func6, Try.ntmps6
  have hh0 := Held.new w 32 #[.int .u32 5, .int .u32 6]
  have HB0 := hidp (Bnew (B0 w) (.cells #[.int .u32 5, .int .u32 6] 32))
  have HWH := hidp (Whole_c (some ⟨w.heap.size, 0, none⟩) 2 [5, 6] 2 rfl (by omega) (by simp) (w.alloc (.cells #[.int .u32 5, .int .u32 6] 32)) (fun _ => ⟨_, rfl, fun j u hu => by
    have e : (⟨w.heap.size, 0, none⟩ : Addr).add j = ⟨w.heap.size, j, none⟩ := by
      unfold Addr.add
      by_cases hz : j = 0
      · rw [if_pos hz, hz]
      · rw [if_neg hz]; simp
    rw [e, hh0.cell j]
    rcases j with _ | _ | j
    · simpa [valVs] using hu
    · simpa [valVs] using hu
    · simp [valVs] at hu⟩))
  clear hh0
  go_wp2_with fail
  refine HWH.out.mono ?_
  rintro e w1 ⟨b, o, rfl, hI, hB⟩
  have HI1 := hidp hI
  have HB1 := hidp (Bgo HB0.out hB)
  have hsz : (w.alloc (.cells #[.int .u32 5, .int .u32 6] 32)).heap.size = w.heap.size + 1 := by simp
  rw [hsz] at HI1
  clear hI hB HWH HB0 hsz
  go_wp2_with fail
  refine (Get_c (1 : Int) (by simp [freshS]) (by simp [freshS]) _ HI1.out).mono ?_
  rintro e w2 ⟨rfl, hL⟩
  rw [show (fun i => [5, 6][i]?) = liveK from rfl, live_a.1]
  obtain ⟨o2, hI2, hB2, _, _⟩ := hL.below HI1.out HB1.out (by omega)
  have HI2 := hidp hI2
  rw [show (fun i => [5, 6][i]?) = liveK from rfl, live_a.2] at HI2
  have HB2 := hidp hB2
  clear hL hI2 hB2 HI1 HB1
  go_wp2_with fail
  refine (Put_c (1 : Int) 7 (by omega) (by simp [live1]) _ HI2.out).mono ?_
  rintro e w3 ⟨rfl, hL⟩
  obtain ⟨o3, hI3, hB3, _, _⟩ := hL.below HI2.out HB2.out (by omega)
  rw [live_b] at hI3
  have HI3 := hidp hI3
  have HB3 := hidp hB3
  clear hL hI3 hB3 HI2 HB2
  have hhw := Held.new w3 46 #[.int .i64 0, .int .u32 5]
  have HKN := hidp (Known_c (some ⟨w3.heap.size, 0, none⟩) 1 1 2 [⟨0, 5⟩] rfl (by omega) (by unfold maxLen; omega) (by omega) (by omega) (by
    intro p hp
    simp at hp
    subst hp
    exact ⟨by decide, by decide⟩) (w3.alloc (.cells #[.int .i64 0, .int .u32 5] 46)) (fun i a ha => by
    have hi : i = 0 := by
      rcases i with _ | i
      · rfl
      · simp at ha
    subst hi
    simp at ha
    subst ha
    refine ⟨_, rfl, by simp, fun j u hu => ?_⟩
    have e : (⟨w3.heap.size, 0, none⟩ : Addr).add (0 * 2 + j) = ⟨w3.heap.size, j, none⟩ := by
      unfold Addr.add
      by_cases hz : j = 0
      · subst hz; simp
      · simp [hz]
    rw [e, hhw.cell j]
    unfold PairV.cells at hu
    rcases j with _ | _ | j
    · simpa using hu
    · simpa using hu
    · simp at hu))
  have HBN := hidp (Bnew (B0 w3) (.cells #[.int .i64 0, .int .u32 5] 46))
  clear hhw
  go_wp2_with fail
  refine HKN.out.mono ?_
  rintro e w4 ⟨b2, p, rfl, hJ, hB4⟩
  have hb34 := Bgo HBN.out hB4
  have HI4 := hidp (HI3.out.keep hb34)
  have HJ4 := hidp (hJ.base (base' := w3.heap.size) (by simp))
  have HB4 := hidp (Bgo HB3.out hb34)
  have HLT : Hid (∀ i, o3.A b i → i < w3.heap.size) := hidp HI3.out.lt
  have HS3 : Hid (w.heap.size ≤ w3.heap.size) := hidp HB3.out.size
  clear hJ hB4 hb34 HKN HBN HI3 HB3
  go_wp2_with fail
  refine (Get_c (1 : Int) (by simp [live2]) (by simp [live2]) _ HI4.out).mono ?_
  rintro e w5 ⟨rfl, hL⟩
  obtain ⟨o5, hI5, hB5, hT5, _⟩ := hL.below HI4.out HB4.out (by omega)
  have HJ5 := hidp (HJ4.out.turns hT5 (fun i hi hf => by
    have h1 := HJ4.out.ge i hi
    have h2 := HLT.out i (.inl hf)
    omega))
  rw [live_c2.2] at hI5
  rw [live_c2.1]
  have HI5 := hidp hI5
  have HB5 := hidp hB5
  clear hL hI5 hB5 hT5 HI4 HJ4 HB4 HLT
  go_wp2_with fail
  refine (vReads_c (by simp [live2]) _ HI5.out).mono ?_
  rintro e w6 ⟨v6, rfl, ho, hb⟩
  have HI6 := hidp (HI5.out.keep hb)
  have HJ6 := hidp (HJ5.out.keep hb)
  have HB6 := hidp (Bgo HB5.out hb)
  have HR1 : Hid (RowV (w6.alloc (.cells #[.int .i64 1] 3)) v6 ([1].map (Value.int .i64))) := hidp ((RowV.of_own ho).alloc _)
  have HR2 : Hid (RowV (w6.alloc (.cells #[.int .i64 1] 3)) (.slice (some ⟨w6.heap.size, 0, none⟩) 1 1) ([1].map (Value.int .i64))) := hidp (RowV.lit w6 #[.int .i64 1] _ 1 rfl (by unfold maxLen; omega))
  clear ho hb HI5 HJ5 HB5
  go_wp2_with fail
  refine (Ints_same [1] _ _ _ HR1.out HR2.out).mono ?_
  rintro e w7 ⟨rfl, j7, rfl⟩
  have hb7 : Below w6.heap.size w6 ((w6.alloc (.cells #[.int .i64 1] 3)).drewN j7) := Bdraw (Bnew (B0 _) _) _
  have HI7 := hidp (HI6.out.keep hb7)
  have HJ7 := hidp (HJ6.out.keep hb7)
  have HB7 := hidp (Bgo HB6.out hb7)
  clear hb7 HI6 HJ6 HB6 HR1 HR2
  go_wp2_with fail
  refine (vVals_some (by omega) (by simp [live2]) _ HI7.out).mono ?_
  rintro e w8 ⟨g8, c8, rfl, hg8, hr8, hb8⟩
  have HJ8 := hidp (HJ7.out.keep hb8)
  have HB8 := hidp (Bgo HB7.out hb8)
  have hr9 := RowV.of_rowF hr8
  rw [live_f] at hr9
  have HR1 := hidp (hr9.alloc (.cells #[.int .u32 5, .int .u32 7] 32))
  have HR2 : Hid (RowV (w8.alloc (.cells #[.int .u32 5, .int .u32 7] 32)) (.slice (some ⟨w8.heap.size, 0, none⟩) 2 2) (valVs [5, 7])) := hidp (RowV.lit w8 #[.int .u32 5, .int .u32 7] _ 2 rfl (by unfold maxLen; omega))
  clear hr8 hb8 hr9 hg8 HI7 HJ7 HB7
  go_wp2_with fail
  refine (Vals_same [5, 7] _ _ _ HR1.out HR2.out).mono ?_
  rintro e w9 ⟨rfl, j9, rfl⟩
  have hb9 : Below w8.heap.size w8 ((w8.alloc (.cells #[.int .u32 5, .int .u32 7] 32)).drewN j9) := Bdraw (Bnew (B0 _) _) _
  have HJ9 := hidp (HJ8.out.keep hb9)
  have HB9 := hidp (Bgo HB8.out hb9)
  clear hb9 HJ8 HB8 HR1 HR2
  go_wp2_with fail
  refine (Get_c (1 : Int) (by simp [freshS]) (by simp [freshS]) _ HJ9.out).mono ?_
  rintro e w10 ⟨rfl, hL⟩
  obtain ⟨p10, hI10, hB10, _, _⟩ := hL.below HJ9.out HB9.out HS3.out
  rw [show kOf 2 [⟨0, 5⟩] = liveN from rfl, live_d.2] at hI10
  rw [show kOf 2 [⟨0, 5⟩] = liveN from rfl, live_d.1]
  have HJ10 := hidp hI10
  have HB10 := hidp hB10
  clear hL hI10 hB10 HJ9 HB9
  go_wp2_with fail
  refine (vMissing_c _ HJ10.out).mono ?_
  rintro e w11 ⟨rfl, rfl⟩
  rw [show missI live3 = 1 from rfl]
  go_wp2_with fail
  refine (Get_c (0 : Int) (by simp [live3]) (by simp [live3]) _ HJ10.out).mono ?_
  rintro e w12 ⟨rfl, hL⟩
  obtain ⟨p12, hI12, hB12, _, _⟩ := hL.below HJ10.out HB10.out HS3.out
  rw [live_e.1]
  have HB12 := hidp hB12
  clear hL hI12 hB12 HJ10 HB10
  go_wp2
  go_ret
  exact ⟨rfl, HB12.out⟩
end Go.Proofs.Ytcfljejeceikbaa
