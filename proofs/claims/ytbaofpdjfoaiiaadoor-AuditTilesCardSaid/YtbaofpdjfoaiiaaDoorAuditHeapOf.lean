/-
  Check at whatever values, and heapOf. Written by audit/gen_heapof.py.
-/
import Derived.Test.YtbaofpdjfoaiiaaDoorAuditCheck
namespace Go.Proofs.YtbaofpdjfoaiiaaDoor
open Go.ChangeShapes Go.WideShapes Go.ChangeAt Go.RowKit Go.Shelf
set_option linter.unusedVariables false
set_option linter.unusedSimpArgs false

set_option maxHeartbeats 1600000 in
set_option maxRecDepth 100000 in
theorem auCheck_no (t q s : Int) (A : Option Addr) (n c : Nat) (hnc : n ≤ c) (hc : c ≤ maxLen) (h : ¬ (lC t q s ≠ 0 ∧ (n : Int) = lC t q s)) (w : World) :
    Calls Tryd.prog 8 #[.agg #[.int .i64 t, .int .i64 q, .int .i64 s], .slice A n c] w fun e w' => e = .returned (.tuple #[.int .i64 1, .bool false]) ∧ Below w.heap.size w w' := by
  have hx := Held.new w 23 #[.int .i64 t, .int .i64 q, .int .i64 s]
  obtain ⟨c0, c1, c2⟩ := hx.three
  have HBW := hidp (Bnew (B0 w) (.cells #[.int .i64 t, .int .i64 q, .int .i64 s] 23))
  have HRU := hidp (fun W => auRules_c t q s A n c W)
  have HOF := hidp (fun W => auIsOf_c t q s A n c hnc hc false ⟨fun h2 => (by cases h2), fun h2 => absurd h2 h⟩ W)
  clear hx h
  unfold cfV at HRU HOF
  go_enter Tryd.func8, Tryd.ntmps8
  go_wp2_with (first
    | (go_at_call 12; refine (HRU.out _).mono ?_; rintro e w2 ⟨g, rfl, hh2, hg2, hb2⟩; have HR2 := hidp hh2; have HB2 := hidp (Bgo HBW.out hb2); clear hh2 hg2 hb2)
    | fail)
  clear c0 c1 c2 HBW HRU
  refine wp_loop_rounds 1 ?_
  rw [rounds_succ]
  have e0 := HR2.out.cell 0
  simp only [rulesC, List.getElem?_toArray, List.getElem?_cons_zero, List.getElem?_cons_succ] at e0
  go_wp2_with (first
    | (go_at_call 16; refine (HOF.out _).mono ?_; rintro e w3 ⟨rfl, hb3⟩; have HB3 := hidp (Bgo HB2.out hb3); clear hb3)
    | fail)
  go_ret2
  exact ⟨rfl, HB3.out⟩

/-- what Check tells of a configuration and values, in every world that has grown -/
def CheckIs (w : World) (t q s : Int) (A : Option Addr) (n c : Nat) (m : Nat) (b : Bool) : Prop :=
  ∀ W, Below w.heap.size w W → Calls Tryd.prog 8 #[.agg #[.int .i64 t, .int .i64 q, .int .i64 s], .slice A n c] W fun e w' => e = .returned (.tuple #[.int .i64 (m : Int), .bool b]) ∧ Below W.heap.size W w'
theorem CheckIs.grown {w w1 : World} {t q s : Int} {A : Option Addr} {n c m : Nat} {b : Bool} (h : CheckIs w t q s A n c m b) (hb : Below w.heap.size w w1) : CheckIs w1 t q s A n c m b :=
  fun W hW => h W (Bgo hb hW)
theorem checkIs_no (w : World) (t q s : Int) (A : Option Addr) (n c : Nat) (hnc : n ≤ c) (hc : c ≤ maxLen) (h : ¬ (lC t q s ≠ 0 ∧ (n : Int) = lC t q s)) : CheckIs w t q s A n c 1 false :=
  fun W _ => auCheck_no t q s A n c hnc hc h W
theorem checkIs_yes {H : AuH} {n c : Nat} (HV : HeapV H n c) (ad : Addr) (w : World) (hv : IsVals w ad n H.V) (hT : SlotsLaid w) {m : Nat} {b : Bool} (h : H.Told m b) : CheckIs w H.t H.p H.s (some ad) n c m b :=
  fun W hW => (auCheck_c HV ad W (hv.below hW) (hT.below hW)).mono (by
    rintro e w' ⟨m', b', rfl, h', hb⟩
    obtain ⟨rfl, rfl⟩ := h.one h'
    exact ⟨rfl, hb⟩)

set_option maxHeartbeats 1600000 in
theorem auHeapOf_c (t q s : Int) (A : Option Addr) (n c m : Nat) (b : Bool) (w : World) (hC : CheckIs w t q s A n c m b) :
    Calls Tryd.prog 9 #[.agg #[.int .i64 t, .int .i64 q, .int .i64 s], .slice A n c] w fun e w' => e = .returned (.tuple #[cfV t q s A n c, .bool b]) ∧ Below w.heap.size w w' := by
  have hx := (Held.new w 23 #[.int .i64 t, .int .i64 q, .int .i64 s]).alloc (.cells #[.int .i64 0, .int .i64 0, .int .i64 0, .slice none 0 0] 41)
  obtain ⟨c0, c1, c2⟩ := hx.three
  have HX := hidp hx
  have h4 := Held.new2 w (.cells #[.int .i64 t, .int .i64 q, .int .i64 s] 23) 41 #[.int .i64 0, .int .i64 0, .int .i64 0, .slice none 0 0]
  have HX4 := hidp h4
  have HBW := hidp (Bnew (Bnew (B0 w) (.cells #[.int .i64 t, .int .i64 q, .int .i64 s] 23)) (.cells #[.int .i64 0, .int .i64 0, .int .i64 0, .slice none 0 0] 41))
  have HCK := hidp hC
  clear hx hC h4
  go_enter Tryd.func9, Tryd.ntmps9
  go_wp2_with (first
    | (go_at_call 8; refine (HCK.out _ HBW.out).mono ?_; rintro e w2 ⟨rfl, hb2⟩; have HB2 := hidp (Bgo HBW.out hb2); have HX2 := hidp (HX.out.keep hb2); have HX42 := hidp (HX4.out.keep hb2); clear hb2 c0 c1 c2; obtain ⟨c0, c1, c2⟩ := HX2.out.three; obtain ⟨d0, d1, d2, d3⟩ := HX42.out.four; have f0 := HX42.out.thawed 0; have f1 := HX42.out.thawed 1; have f2 := HX42.out.thawed 2; have f3 := HX42.out.thawed 3)
    | fail)
  have z := (((HX42.out.put 0 (.int .i64 t)).put 1 (.int .i64 q)).put 2 (.int .i64 s)).put 3 (.slice A n c)
  have y0 := z.cell 0
  have y1 := z.cell 1
  have y2 := z.cell 2
  have y3 := z.cell 3
  simp at y0 y1 y2 y3
  refine bodyPost_ret (v := .tuple #[cfV t q s A n c, .bool b]) (by simp [results, Tryd.results9, go_sem, cfV, y0, y1, y2, y3]) rfl ⟨rfl, ?_⟩
  exact Bput (Bput (Bput (Bput HB2.out (by simp) _) (by simp) _) (by simp) _) (by simp) _

end Go.Proofs.YtbaofpdjfoaiiaaDoor
