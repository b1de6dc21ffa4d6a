/-
  audit.State. Written by audit/gen_state.py.
-/
import Derived.Test.YtpndfhdedmdoeaaGreatG18
import Derived.Test.YtpndfhdedmdoeaaGreatG01
import Derived.Test.YtpndfhdedmdoeaaGreatG27
namespace Go.Proofs.YtpndfhdedmdoeaaGreat
open Go.ChangeShapes Go.WideShapes Go.ChangeAt Go.RowKit Go.Shelf
set_option linter.unusedVariables false
set_option linter.unusedSimpArgs false

/-- a box of nine cells, written whole -/
def set9 (w : World) (g : Nat) (a0 a1 a2 a3 a4 a5 a6 a7 a8 : Value) : World := ((((((((w.setCell ⟨g, 0, none⟩ a0).setCell ⟨g, 1, none⟩ a1).setCell ⟨g, 2, none⟩ a2).setCell ⟨g, 3, none⟩ a3).setCell ⟨g, 4, none⟩ a4).setCell ⟨g, 5, none⟩ a5).setCell ⟨g, 6, none⟩ a6).setCell ⟨g, 7, none⟩ a7).setCell ⟨g, 8, none⟩ a8
section
variable {w : World} {g : Nat} {t : TypeId} {c0 c1 c2 c3 c4 c5 c6 c7 c8 : Value}
theorem Held.nine (h : Held w g t #[c0, c1, c2, c3, c4, c5, c6, c7, c8]) : w.cell? ⟨g, 0, none⟩ = some c0 ∧ w.cell? ⟨g, 1, none⟩ = some c1 ∧ w.cell? ⟨g, 2, none⟩ = some c2 ∧ w.cell? ⟨g, 3, none⟩ = some c3 ∧ w.cell? ⟨g, 4, none⟩ = some c4 ∧ w.cell? ⟨g, 5, none⟩ = some c5 ∧ w.cell? ⟨g, 6, none⟩ = some c6 ∧ w.cell? ⟨g, 7, none⟩ = some c7 ∧ w.cell? ⟨g, 8, none⟩ = some c8 := ⟨h.cell 0, h.cell 1, h.cell 2, h.cell 3, h.cell 4, h.cell 5, h.cell 6, h.cell 7, h.cell 8⟩
theorem Held.thawed9 {cs : Array Value} (h : Held w g t cs) : w.frozen? ⟨g, 0, none⟩ = false ∧ w.frozen? ⟨g, 1, none⟩ = false ∧ w.frozen? ⟨g, 2, none⟩ = false ∧ w.frozen? ⟨g, 3, none⟩ = false ∧ w.frozen? ⟨g, 4, none⟩ = false ∧ w.frozen? ⟨g, 5, none⟩ = false ∧ w.frozen? ⟨g, 6, none⟩ = false ∧ w.frozen? ⟨g, 7, none⟩ = false ∧ w.frozen? ⟨g, 8, none⟩ = false := ⟨h.thawed 0, h.thawed 1, h.thawed 2, h.thawed 3, h.thawed 4, h.thawed 5, h.thawed 6, h.thawed 7, h.thawed 8⟩
theorem Held.set9 (h : Held w g t #[c0, c1, c2, c3, c4, c5, c6, c7, c8]) (a0 a1 a2 a3 a4 a5 a6 a7 a8 : Value) : Held (set9 w g a0 a1 a2 a3 a4 a5 a6 a7 a8) g t #[a0, a1, a2, a3, a4, a5, a6, a7, a8] := by
  have h0 : Held _ g t #[a0, c1, c2, c3, c4, c5, c6, c7, c8] := h.put 0 a0
  have h1 : Held _ g t #[a0, a1, c2, c3, c4, c5, c6, c7, c8] := h0.put 1 a1
  have h2 : Held _ g t #[a0, a1, a2, c3, c4, c5, c6, c7, c8] := h1.put 2 a2
  have h3 : Held _ g t #[a0, a1, a2, a3, c4, c5, c6, c7, c8] := h2.put 3 a3
  have h4 : Held _ g t #[a0, a1, a2, a3, a4, c5, c6, c7, c8] := h3.put 4 a4
  have h5 : Held _ g t #[a0, a1, a2, a3, a4, a5, c6, c7, c8] := h4.put 5 a5
  have h6 : Held _ g t #[a0, a1, a2, a3, a4, a5, a6, c7, c8] := h5.put 6 a6
  have h7 : Held _ g t #[a0, a1, a2, a3, a4, a5, a6, a7, c8] := h6.put 7 a7
  have h8 : Held _ g t #[a0, a1, a2, a3, a4, a5, a6, a7, a8] := h7.put 8 a8
  exact h8
theorem below_set9 {W : World} (h : Below W.heap.size W w) (hg : W.heap.size ≤ g) (a0 a1 a2 a3 a4 a5 a6 a7 a8 : Value) : Below W.heap.size W (set9 w g a0 a1 a2 a3 a4 a5 a6 a7 a8) :=
  Bput (Bput (Bput (Bput (Bput (Bput (Bput (Bput (Bput h (p := ⟨g, 0, none⟩) hg a0) (p := ⟨g, 1, none⟩) hg a1) (p := ⟨g, 2, none⟩) hg a2) (p := ⟨g, 3, none⟩) hg a3) (p := ⟨g, 4, none⟩) hg a4) (p := ⟨g, 5, none⟩) hg a5) (p := ⟨g, 6, none⟩) hg a6) (p := ⟨g, 7, none⟩) hg a7) (p := ⟨g, 8, none⟩) hg a8
theorem heap_set9 {j : Nat} (hj : j ≠ g) (a0 a1 a2 a3 a4 a5 a6 a7 a8 : Value) : (set9 w g a0 a1 a2 a3 a4 a5 a6 a7 a8).heap[j]? = w.heap[j]? := by
  unfold _root_.Go.Proofs.YtpndfhdedmdoeaaGreat.set9
  repeat rw [Below.heap_setCell _ _ _ _ hj]
theorem own_set9 {base : Nat} {e : TypeId} {size : Nat} {v : Value} {n : Nat} {xs : List Value} (h : w.ownsRow base e size v n xs) (hg : ∀ j, v.ownBlock = some j → j ≠ g) (a0 a1 a2 a3 a4 a5 a6 a7 a8 : Value) : (set9 w g a0 a1 a2 a3 a4 a5 a6 a7 a8).ownsRow base e size v n xs :=
  own_kept h (fun j hj => heap_set9 (hg j hj) _ _ _ _ _ _ _ _ _)
end
theorem rootsV_eq (H : AuH) : ∃ (r0 r1 r2 r3 r4 r5 r6 r7 : Nat), rootsV H = .agg #[.int .i64 (r0 : Int), .int .i64 (r1 : Int), .int .i64 (r2 : Int), .int .i64 (r3 : Int), .int .i64 (r4 : Int), .int .i64 (r5 : Int), .int .i64 (r6 : Int), .int .i64 (r7 : Int)] ∧ H.V 22 = r0 ∧ H.V 23 = r1 ∧ H.V 24 = r2 ∧ H.V 25 = r3 ∧ H.V 26 = r4 ∧ H.V 27 = r5 ∧ H.V 28 = r6 ∧ H.V 29 = r7 := ⟨_, _, _, _, _, _, _, _, rfl, rfl, rfl, rfl, rfl, rfl, rfl, rfl, rfl⟩

end Go.Proofs.YtpndfhdedmdoeaaGreat

/-
  The document's State. Written by audit/gen_state.py.
-/
namespace Go.Proofs.YtpndfhdedmdoeaaGreat
open Go.ChangeShapes Go.WideShapes Go.ChangeAt Go.RowKit Go.Shelf
set_option linter.unusedVariables false
set_option linter.unusedSimpArgs false

set_option maxHeartbeats 3200000 in
theorem xState_no (t q s : Int) (A : Option Addr) (n c m : Nat) (w : World) (hC : XCheckIs w t q s A n c m false) :
    Calls Tryz.prog 12 #[.agg #[.int .i64 t, .int .i64 q, .int .i64 s], .slice A n c] w fun e w' => e = .returned (.tuple #[.agg #[.slice none 0 0, .int .i64 0, .int .i64 0, .int .i64 0, .int .i64 0, .int .i64 0, .int .i64 0, .int .i64 0, .int .i64 0], .bool false]) ∧ Below w.heap.size w w' := by
  have HX := hidp ((Held.new w 23 #[.int .i64 t, .int .i64 q, .int .i64 s]).alloc (.cells #[.slice none 0 0, .int .i64 0, .int .i64 0, .int .i64 0, .int .i64 0, .int .i64 0, .int .i64 0, .int .i64 0, .int .i64 0] 42))
  obtain ⟨c0, c1, c2⟩ := HX.out.three
  have HS := hidp (Held.new2 w (.cells #[.int .i64 t, .int .i64 q, .int .i64 s] 23) 42 #[.slice none 0 0, .int .i64 0, .int .i64 0, .int .i64 0, .int .i64 0, .int .i64 0, .int .i64 0, .int .i64 0, .int .i64 0])
  have HBW := hidp (Bnew (Bnew (B0 w) (.cells #[.int .i64 t, .int .i64 q, .int .i64 s] 23)) (.cells #[.slice none 0 0, .int .i64 0, .int .i64 0, .int .i64 0, .int .i64 0, .int .i64 0, .int .i64 0, .int .i64 0, .int .i64 0] 42))
  have HSO := hidp (xSound_c t q s A n c m false _ (hC.grown HBW.out))
  clear hC
  go_enter Tryz.func12, Tryz.ntmps12
  go_wp2_with (first
    | (go_at_call 5; refine HSO.out.mono ?_; rintro e w2 ⟨rfl, hb2⟩; have HB2 := hidp (Bgo HBW.out hb2); have HS2 := hidp (HS.out.keep hb2); have HX2 := hidp (HX.out.keep hb2); clear hb2 c0 c1 c2; obtain ⟨c0, c1, c2⟩ := HX2.out.three; obtain ⟨z0, z1, z2, z3, z4, z5, z6, z7, z8⟩ := HS2.out.nine; obtain ⟨f0, f1, f2, f3, f4, f5, f6, f7, f8⟩ := HS2.out.thawed9)
    | fail)
  obtain ⟨WF, hWF⟩ : ∃ WF, set9 (w2) (w.heap.size + 1) (.slice none 0 0) (.int .i64 0) (.int .i64 0) (.int .i64 0) (.int .i64 0) (.int .i64 0) (.int .i64 0) (.int .i64 0) (.int .i64 0) = WF := ⟨_, rfl⟩
  have zz := HS2.out.set9 (.slice none 0 0) (.int .i64 0) (.int .i64 0) (.int .i64 0) (.int .i64 0) (.int .i64 0) (.int .i64 0) (.int .i64 0) (.int .i64 0)
  have hBF := below_set9 (g := (w.heap.size + 1)) HB2.out (by omega) (.slice none 0 0) (.int .i64 0) (.int .i64 0) (.int .i64 0) (.int .i64 0) (.int .i64 0) (.int .i64 0) (.int .i64 0) (.int .i64 0)
  rw [hWF] at zz hBF
  unfold set9 at hWF
  rw [hWF]
  obtain ⟨y0, y1, y2, y3, y4, y5, y6, y7, y8⟩ := zz.nine
  exact bodyPost_ret (v := .tuple #[.agg #[.slice none 0 0, .int .i64 0, .int .i64 0, .int .i64 0, .int .i64 0, .int .i64 0, .int .i64 0, .int .i64 0, .int .i64 0], .bool false]) (by simp [results, Tryz.results12, go_sem, y0, y1, y2, y3, y4, y5, y6, y7, y8]) rfl ⟨rfl, hBF⟩

/-- the document's state as it is filled: the slice, then roots as far as k -/
def stF (H : AuH) (u : Value) (k : Nat) (i : Nat) : Value := if i = 0 then u else if i ≤ k then .int .i64 (H.V (21 + i) : Nat) else .int .i64 0
set_option maxHeartbeats 6400000 in
set_option maxRecDepth 100000 in
theorem xState_yes {H : AuH} {n c : Nat} (HV : HeapV H n c) (ad : Addr) (m : Nat) (w : World) (hv : IsVals w ad n H.V) (hC : XCheckIs w H.t H.p H.s (some ad) n c m true) :
    Calls Tryz.prog 12 #[.agg #[.int .i64 (H.t : Int), .int .i64 (H.p : Int), .int .i64 (H.s : Int)], .slice (some ad) n c] w fun e w' => ∃ u, e = .returned (.tuple #[.agg #[u, .int .i64 (H.V 22 : Nat), .int .i64 (H.V 23 : Nat), .int .i64 (H.V 24 : Nat), .int .i64 (H.V 25 : Nat), .int .i64 (H.V 26 : Nat), .int .i64 (H.V 27 : Nat), .int .i64 (H.V 28 : Nat), .int .i64 (H.V 29 : Nat)], .bool true]) ∧ w'.ownsRow w.heap.size 79 2 u (blocksOf H.parts).length (bkVs (blocksOf H.parts)) ∧ Below w.heap.size w w' := by
  have HVL := hidp hv
  have HXK0 := hC
  have HX := hidp ((Held.new w 23 #[.int .i64 (H.t : Int), .int .i64 (H.p : Int), .int .i64 (H.s : Int)]).alloc (.cells #[.slice none 0 0, .int .i64 0, .int .i64 0, .int .i64 0, .int .i64 0, .int .i64 0, .int .i64 0, .int .i64 0, .int .i64 0] 42))
  obtain ⟨c0, c1, c2⟩ := HX.out.three
  have HS := hidp (Held.new2 w (.cells #[.int .i64 (H.t : Int), .int .i64 (H.p : Int), .int .i64 (H.s : Int)] 23) 42 #[.slice none 0 0, .int .i64 0, .int .i64 0, .int .i64 0, .int .i64 0, .int .i64 0, .int .i64 0, .int .i64 0, .int .i64 0])
  have HBW := hidp (Bnew (Bnew (B0 w) (.cells #[.int .i64 (H.t : Int), .int .i64 (H.p : Int), .int .i64 (H.s : Int)] 23)) (.cells #[.slice none 0 0, .int .i64 0, .int .i64 0, .int .i64 0, .int .i64 0, .int .i64 0, .int .i64 0, .int .i64 0, .int .i64 0] 42))
  have HSO := hidp (xSound_c (H.t : Int) (H.p : Int) (H.s : Int) (some ad) n c m true _ (hC.grown HBW.out))
  have HXK := hidp hC
  have hn := HV.nums
  have hcx : c ≤ 9223372036854775807 := hn.2.2.2.2.2.2.2.2
  have hni : n ≤ 6238 := hn.2.2.2.2.2.2.1
  have hnc := HV.cap
  have hn30 : 30 ≤ n := by have := HV.len; omega
  have hbl : ad.block < w.heap.size := hv.1
  obtain ⟨l, hl⟩ : ∃ l, blocksOf H.parts = l := ⟨_, rfl⟩
  have HLB := hidp hl
  obtain ⟨nb, hnb⟩ : ∃ nb, l.length = nb := ⟨_, rfl⟩
  have HNB := hidp hnb
  clear hC hv hl hnb HXK0 hn
  go_enter Tryz.func12, Tryz.ntmps12
  go_wp2_with (first
    | (go_at_call 5; refine HSO.out.mono ?_; rintro e w2 ⟨rfl, hb2⟩; have HB2 := hidp (Bgo HBW.out hb2); have HS2 := hidp (HS.out.keep hb2); have HX2 := hidp (HX.out.keep hb2); clear hb2 c0 c1 c2; obtain ⟨c0, c1, c2⟩ := HX2.out.three)
    | (go_at_call 33; refine (xLiveTop_yes HV ad m _ (HVL.out.below HB2.out) (HXK.out.grown HB2.out)).mono ?_; rintro e w3 ⟨u, rfl, hown3, hb3⟩; rw [HLB.out, HNB.out] at hown3; obtain ⟨Ab, cb, rfl⟩ := own_slice hown3; have HG6 : Hid (w.heap.size + 1 < w3.heap.size) := hidp (by have h1 := hb3.size; have h2 := HS2.out.lt; omega); have HO3 := hidp (hown3.alloc (.cells #[.slice Ab nb cb, .int .i64 0, .int .i64 0, .int .i64 0, .int .i64 0, .int .i64 0, .int .i64 0, .int .i64 0, .int .i64 0] 42)); have HB3 := hidp (Bnew (Bgo HB2.out hb3) (.cells #[.slice Ab nb cb, .int .i64 0, .int .i64 0, .int .i64 0, .int .i64 0, .int .i64 0, .int .i64 0, .int .i64 0, .int .i64 0] 42)); have HS3 := hidp ((HS2.out.keep hb3).alloc (.cells #[.slice Ab nb cb, .int .i64 0, .int .i64 0, .int .i64 0, .int .i64 0, .int .i64 0, .int .i64 0, .int .i64 0, .int .i64 0] 42)); have HN3 := hidp (Held.new w3 42 #[.slice Ab nb cb, .int .i64 0, .int .i64 0, .int .i64 0, .int .i64 0, .int .i64 0, .int .i64 0, .int .i64 0, .int .i64 0]); have HOL : Hid (∀ j, (Value.slice Ab nb cb).ownBlock = some j → w2.heap.size ≤ j ∧ j < w3.heap.size) := hidp (fun j hj => hown3.lt j hj); clear hown3 hb3 c0 c1 c2)
    | fail)
  generalize hg6 : w3.heap.size = g6 at *
  generalize hw4 : w3.alloc (.cells #[.slice Ab nb cb, .int .i64 0, .int .i64 0, .int .i64 0, .int .i64 0, .int .i64 0, .int .i64 0, .int .i64 0, .int .i64 0] 42) = W4 at *
  have HR0 : Hid (RowF W4 g6 42 9 9 (stF H (.slice Ab nb cb) 0)) := hidp ⟨_, HN3.out, by simp, by omega, by unfold maxLen; omega, fun i hi => by
    rcases (by omega : i = 0 ∨ i = 1 ∨ i = 2 ∨ i = 3 ∨ i = 4 ∨ i = 5 ∨ i = 6 ∨ i = 7 ∨ i = 8) with rfl | rfl | rfl | rfl | rfl | rfl | rfl | rfl | rfl <;> rfl⟩
  have hgw := HG6.out
  clear hg6 hw4
  go_loopw [7] (fun u7 wr => ∃ k : Nat, k ≤ 8 ∧ u7 = .int .i64 (k : Int) ∧ Hid (Turns (fun i => i = g6) W4 wr) ∧ Hid (RowF wr g6 42 9 9 (stF H (.slice Ab nb cb) k))) (fun u7 _ => 8 - (intOf u7).toNat)
  case atStart => exact ⟨0, by omega, rfl, hidp (T0 _ _), HR0⟩
  case round =>
    clear HR0
    obtain ⟨k, hk, rfl, HT0, HR⟩ := hrel
    have HB := hidp (HT0.out.below HB3.out (by omega))
    by_cases hlt : k < 8
    · have t0 : decide ((k : Int) < 8) = true := decide_eq_true (by omega)
      have t8 : (k : Int) < 8 := by omega
      have HRT : Hid (nthI 22 8 1 (k : Int) = ((22 + k : Nat) : Int)) := hidp (by rw [nth_on (by omega) (by omega) (by omega)]; push_cast; omega)
      have hin : 22 + k < n := by omega
      have hvk := (HVL.out.below HB.out).2 (22 + k) hin
      have hv32 := HV.lt (22 + k) hin
      have hrc := HR.out.cell (show 1 + k < 9 by omega)
      have hrf := HR.out.thawed (1 + k)
      have HUP : Hid (∀ i, i < 9 → updF (stF H (.slice Ab nb cb) k) (1 + k) (.int .i64 (H.V (22 + k) : Nat)) i = stF H (.slice Ab nb cb) (k + 1) i) := hidp (fun i hi => by
        unfold updF stF
        by_cases e : i = 1 + k
        · subst e; rw [if_pos rfl, if_neg (by omega), if_pos (by omega), show 21 + (1 + k) = 22 + k by omega]
        · rw [if_neg e]
          by_cases e0 : i = 0
          · rw [if_pos e0, if_pos e0]
          · rw [if_neg e0, if_neg e0]
            by_cases e2 : i ≤ k
            · rw [if_pos e2, if_pos (by omega)]
            · rw [if_neg e2, if_neg (by omega)])
      have hr0 : stF H (.slice Ab nb cb) k (1 + k) = .int .i64 0 := by unfold stF; rw [if_neg (by omega), if_neg (by omega)]
      rw [hr0] at hrc
      obtain ⟨v, hvv⟩ : ∃ v, H.V (22 + k) = v := ⟨_, rfl⟩
      obtain ⟨ix, hHIX⟩ : ∃ ix, 22 + k = ix := ⟨_, rfl⟩
      rw [hHIX] at hin hvk HRT
      rw [← hHIX, hvv, hHIX] at hvk
      rw [hvv] at hv32 HUP
      have hin2 : (ix : Int) < n := by omega
      have wv : IntKind.i64.wrap (v : Int) = (v : Int) := i64_same (by omega) (by omega)
      have HT9 : Hid (Turns (fun i => i = g6) wr (wr.setCell ⟨g6, 1 + k, none⟩ (.int .i64 (v : Int)))) := hidp ((T0 (fun i => i = g6) wr).put (p := ⟨g6, 1 + k, none⟩) rfl _)
      clear hvv hHIX
      go_wp2_with (first
        | (go_at_call 34; refine (r7Root_c _ _).mono ?_; rintro e w9 ⟨rfl, rfl⟩; rw [HRT.out])
        | fail)
      go_roundw
      case rel => exact ⟨k + 1, by omega, by go_num, hidp (HT0.out.trans HT9.out), hidp ((HR.out.put (show 1 + k < 9 by omega) (.int .i64 (v : Int))).congr HUP.out)⟩
      case measure => simp [intOf]; omega
    · have t0 : decide ((k : Int) < 8) = false := decide_eq_false (by omega)
      have hk8 : k = 8 := by omega
      subst hk8
      obtain ⟨r0, r1, r2, r3, r4, r5, r6, r7, hrv, e0, e1, e2, e3, e4, e5, e6, e7⟩ := rootsV_eq H
      have hf0 : stF H (.slice Ab nb cb) 8 0 = .slice Ab nb cb := rfl
      have hf1 : stF H (.slice Ab nb cb) 8 1 = .int .i64 (r0 : Int) := by rw [← e0]; rfl
      have hf2 : stF H (.slice Ab nb cb) 8 2 = .int .i64 (r1 : Int) := by rw [← e1]; rfl
      have hf3 : stF H (.slice Ab nb cb) 8 3 = .int .i64 (r2 : Int) := by rw [← e2]; rfl
      have hf4 : stF H (.slice Ab nb cb) 8 4 = .int .i64 (r3 : Int) := by rw [← e3]; rfl
      have hf5 : stF H (.slice Ab nb cb) 8 5 = .int .i64 (r4 : Int) := by rw [← e4]; rfl
      have hf6 : stF H (.slice Ab nb cb) 8 6 = .int .i64 (r5 : Int) := by rw [← e5]; rfl
      have hf7 : stF H (.slice Ab nb cb) 8 7 = .int .i64 (r6 : Int) := by rw [← e6]; rfl
      have hf8 : stF H (.slice Ab nb cb) 8 8 = .int .i64 (r7 : Int) := by rw [← e7]; rfl
      have q0 := (HR.out.cell (show 0 < 9 by omega)).trans (congrArg some hf0)
      have q1 := (HR.out.cell (show 1 < 9 by omega)).trans (congrArg some hf1)
      have q2 := (HR.out.cell (show 2 < 9 by omega)).trans (congrArg some hf2)
      have q3 := (HR.out.cell (show 3 < 9 by omega)).trans (congrArg some hf3)
      have q4 := (HR.out.cell (show 4 < 9 by omega)).trans (congrArg some hf4)
      have q5 := (HR.out.cell (show 5 < 9 by omega)).trans (congrArg some hf5)
      have q6 := (HR.out.cell (show 6 < 9 by omega)).trans (congrArg some hf6)
      have q7 := (HR.out.cell (show 7 < 9 by omega)).trans (congrArg some hf7)
      have q8 := (HR.out.cell (show 8 < 9 by omega)).trans (congrArg some hf8)
      have HS4 := hidp (HT0.out.held HS3.out (by omega))
      obtain ⟨z0, z1, z2, z3, z4, z5, z6, z7, z8⟩ := HS4.out.nine
      obtain ⟨f0, f1, f2, f3, f4, f5, f6, f7, f8⟩ := HS4.out.thawed9
      have HO4 := hidp (own_kept HO3.out (fun j hj => HT0.out.block j (HO3.out.lt j hj).2 (by have := (HOL.out j hj).2; omega)))
      have HRE := hidp (And.intro e0 (And.intro e1 (And.intro e2 (And.intro e3 (And.intro e4 (And.intro e5 (And.intro e6 e7)))))))
      clear hrv e0 e1 e2 e3 e4 e5 e6 e7 hf0 hf1 hf2 hf3 hf4 hf5 hf6 hf7 hf8
      go_wp2_with fail
      obtain ⟨WF, hWF⟩ : ∃ WF, set9 (wr) (w.heap.size + 1) (.slice Ab nb cb) (.int .i64 (r0 : Int)) (.int .i64 (r1 : Int)) (.int .i64 (r2 : Int)) (.int .i64 (r3 : Int)) (.int .i64 (r4 : Int)) (.int .i64 (r5 : Int)) (.int .i64 (r6 : Int)) (.int .i64 (r7 : Int)) = WF := ⟨_, rfl⟩
      have zz := HS4.out.set9 (.slice Ab nb cb) (.int .i64 (r0 : Int)) (.int .i64 (r1 : Int)) (.int .i64 (r2 : Int)) (.int .i64 (r3 : Int)) (.int .i64 (r4 : Int)) (.int .i64 (r5 : Int)) (.int .i64 (r6 : Int)) (.int .i64 (r7 : Int))
      have hBF := below_set9 (g := (w.heap.size + 1)) HB.out (by omega) (.slice Ab nb cb) (.int .i64 (r0 : Int)) (.int .i64 (r1 : Int)) (.int .i64 (r2 : Int)) (.int .i64 (r3 : Int)) (.int .i64 (r4 : Int)) (.int .i64 (r5 : Int)) (.int .i64 (r6 : Int)) (.int .i64 (r7 : Int))
      have hOF := own_set9 (g := (w.heap.size + 1)) (own_down HO4.out HB2.out.size) (fun j hj => by have h1 := (HOL.out j hj).1; have h2 := HS2.out.lt; omega) (.slice Ab nb cb) (.int .i64 (r0 : Int)) (.int .i64 (r1 : Int)) (.int .i64 (r2 : Int)) (.int .i64 (r3 : Int)) (.int .i64 (r4 : Int)) (.int .i64 (r5 : Int)) (.int .i64 (r6 : Int)) (.int .i64 (r7 : Int))
      rw [hWF] at zz hBF hOF
      unfold set9 at hWF
      rw [hWF]
      obtain ⟨y0, y1, y2, y3, y4, y5, y6, y7, y8⟩ := zz.nine
      refine bodyPost_ret (v := .tuple #[.agg #[.slice Ab nb cb, .int .i64 (r0 : Int), .int .i64 (r1 : Int), .int .i64 (r2 : Int), .int .i64 (r3 : Int), .int .i64 (r4 : Int), .int .i64 (r5 : Int), .int .i64 (r6 : Int), .int .i64 (r7 : Int)], .bool true]) (by simp [results, Tryz.results12, go_sem, y0, y1, y2, y3, y4, y5, y6, y7, y8]) rfl ⟨.slice Ab nb cb, by obtain ⟨e0, e1, e2, e3, e4, e5, e6, e7⟩ := HRE.out; simp only [e0, e1, e2, e3, e4, e5, e6, e7], ?_, hBF⟩
      rw [HLB.out, HNB.out]
      exact hOF
end Go.Proofs.YtpndfhdedmdoeaaGreat

/-
  slices.Equal of blocks; audit.Same. Written by audit/gen_same.py.
-/
namespace Go.Proofs.YtpndfhdedmdoeaaGreat
open Go.ChangeShapes Go.WideShapes Go.ChangeAt Go.RowKit Go.Shelf
set_option linter.unusedVariables false
set_option linter.unusedSimpArgs false

theorem eqStep (d : Nat) (xs ys : Array Value) (i : Nat) (a b : Int) (is : List Nat) (w : World) (hx : xs[i]? = some (.int .i64 a)) (hy : ys[i]? = some (.int .i64 b)) :
    (Op.eqItems (d + 1) 2 1 xs ys (i :: is)).run Tryz.prog w = if (a == b) = true then (Op.eqItems (d + 1) 2 1 xs ys is).run Tryz.prog w else .ok false w := by
  have p1 := run_part_plain (P := Tryz.prog) w (e := 2) (by kernel_rfl) (off := i * 1) (by rw [Nat.mul_one]; exact hx)
  have p2 := run_part_plain (P := Tryz.prog) w (e := 2) (by kernel_rfl) (off := i * 1) (by rw [Nat.mul_one]; exact hy)
  have p3 := run_equalIn_int (P := Tryz.prog) w d 2 .i64 .i64 a b Tryz.underlying2
  simp only [Op.eqItems, Sem.run_bind, p1, p2, p3, Result.andThen_ok]
  cases a == b <;> simp
theorem eq8_run (r0 r1 r2 r3 r4 r5 r6 r7 p0 p1 p2 p3 p4 p5 p6 p7 : Int) (w : World) :
    (Op.equalIn 10000 40 (.agg #[.int .i64 r0, .int .i64 r1, .int .i64 r2, .int .i64 r3, .int .i64 r4, .int .i64 r5, .int .i64 r6, .int .i64 r7]) (.agg #[.int .i64 p0, .int .i64 p1, .int .i64 p2, .int .i64 p3, .int .i64 p4, .int .i64 p5, .int .i64 p6, .int .i64 p7])).run Tryz.prog w = .ok (r0 == p0 && (r1 == p1 && (r2 == p2 && (r3 == p3 && (r4 == p4 && (r5 == p5 && (r6 == p6 && (r7 == p7)))))))) w := by
  obtain ⟨i, hi⟩ : ∃ i, Tryz.prog.info? 2 = some i := Option.isSome_iff_exists.1 (by kernel_rfl)
  have hc : Tryz.prog.cellsOf 2 = 1 := by kernel_rfl
  show (Op.equalIn (9999 + 1) _ _ _).run _ _ = _
  rw [run_equalIn_array w 9999 _ _ Tryz.underlying40 hi, hc]
  show (Op.eqItems (9998 + 1) 2 1 _ _ [0, 1, 2, 3, 4, 5, 6, 7]).run _ _ = _
  rw [eqStep 9998 _ _ 0 r0 p0 _ w rfl rfl]
  rw [eqStep 9998 _ _ 1 r1 p1 _ w rfl rfl]
  rw [eqStep 9998 _ _ 2 r2 p2 _ w rfl rfl]
  rw [eqStep 9998 _ _ 3 r3 p3 _ w rfl rfl]
  rw [eqStep 9998 _ _ 4 r4 p4 _ w rfl rfl]
  rw [eqStep 9998 _ _ 5 r5 p5 _ w rfl rfl]
  rw [eqStep 9998 _ _ 6 r6 p6 _ w rfl rfl]
  rw [eqStep 9998 _ _ 7 r7 p7 _ w rfl rfl]
  have hn : ∀ xs ys : Array Value, (Op.eqItems (9998 + 1) 2 1 xs ys []).run Tryz.prog w = .ok true w := fun xs ys => by simp [Op.eqItems]
  rw [hn]
  generalize (r0 == p0) = e0
  generalize (r1 == p1) = e1
  generalize (r2 == p2) = e2
  generalize (r3 == p3) = e3
  generalize (r4 == p4) = e4
  generalize (r5 == p5) = e5
  generalize (r6 == p6) = e6
  generalize (r7 == p7) = e7
  cases e0
  · rfl
  cases e1
  · rfl
  cases e2
  · rfl
  cases e3
  · rfl
  cases e4
  · rfl
  cases e5
  · rfl
  cases e6
  · rfl
  cases e7
  · rfl
  · rfl

theorem eq8_iff (r0 r1 r2 r3 r4 r5 r6 r7 p0 p1 p2 p3 p4 p5 p6 p7 : Int) : (r0 == p0 && (r1 == p1 && (r2 == p2 && (r3 == p3 && (r4 == p4 && (r5 == p5 && (r6 == p6 && (r7 == p7)))))))) = true ↔ [r0, r1, r2, r3, r4, r5, r6, r7] = [p0, p1, p2, p3, p4, p5, p6, p7] := by simp

end Go.Proofs.YtpndfhdedmdoeaaGreat

/-
  The document's Same. Written by audit/gen_same.py.
-/
namespace Go.Proofs.YtpndfhdedmdoeaaGreat
open Go.ChangeShapes Go.WideShapes Go.ChangeAt Go.RowKit Go.Shelf
set_option linter.unusedVariables false
set_option linter.unusedSimpArgs false

set_option maxHeartbeats 6400000 in
set_option maxRecDepth 100000 in
theorem xSame_len (l1 l2 : List (Int × Int)) (A1 A2 : Option Addr) (nl c1 c2 b1 b2 : Nat) (r0 r1 r2 r3 r4 r5 r6 r7 p0 p1 p2 p3 p4 p5 p6 p7 : Int) (w : World) (h1 : l1.length = nl) (h2 : l2.length = nl) (hnl : nl ≤ 100000) (hnl : nl ≤ 100000)
    (hO1 : w.ownsRow b1 79 2 (.slice A1 nl c1) nl (bkVs l1)) (hO2 : w.ownsRow b2 79 2 (.slice A2 nl c2) nl (bkVs l2)) (b : Bool) (hb : b = true ↔ [r0, r1, r2, r3, r4, r5, r6, r7] = [p0, p1, p2, p3, p4, p5, p6, p7] ∧ l1 = l2) :
    Calls Tryz.prog 14 #[.agg #[.slice A1 nl c1, .int .i64 r0, .int .i64 r1, .int .i64 r2, .int .i64 r3, .int .i64 r4, .int .i64 r5, .int .i64 r6, .int .i64 r7], .agg #[.slice A2 nl c2, .int .i64 p0, .int .i64 p1, .int .i64 p2, .int .i64 p3, .int .i64 p4, .int .i64 p5, .int .i64 p6, .int .i64 p7]] w fun e w' => e = .returned (.bool b) ∧ Below w.heap.size w w' := by
  have HX1 := hidp ((Held.new w 42 #[.slice A1 nl c1, .int .i64 r0, .int .i64 r1, .int .i64 r2, .int .i64 r3, .int .i64 r4, .int .i64 r5, .int .i64 r6, .int .i64 r7]).alloc (.cells #[.slice A2 nl c2, .int .i64 p0, .int .i64 p1, .int .i64 p2, .int .i64 p3, .int .i64 p4, .int .i64 p5, .int .i64 p6, .int .i64 p7] 42))
  have HX2 := hidp (Held.new2 w (.cells #[.slice A1 nl c1, .int .i64 r0, .int .i64 r1, .int .i64 r2, .int .i64 r3, .int .i64 r4, .int .i64 r5, .int .i64 r6, .int .i64 r7] 42) 42 #[.slice A2 nl c2, .int .i64 p0, .int .i64 p1, .int .i64 p2, .int .i64 p3, .int .i64 p4, .int .i64 p5, .int .i64 p6, .int .i64 p7])
  obtain ⟨x0, x1, x2, x3, x4, x5, x6, x7, x8⟩ := HX1.out.nine
  obtain ⟨y0, y1, y2, y3, y4, y5, y6, y7, y8⟩ := HX2.out.nine
  have HBW := hidp (Bnew (Bnew (B0 w) (.cells #[.slice A1 nl c1, .int .i64 r0, .int .i64 r1, .int .i64 r2, .int .i64 r3, .int .i64 r4, .int .i64 r5, .int .i64 r6, .int .i64 r7] 42)) (.cells #[.slice A2 nl c2, .int .i64 p0, .int .i64 p1, .int .i64 p2, .int .i64 p3, .int .i64 p4, .int .i64 p5, .int .i64 p6, .int .i64 p7] 42))
  have HO1 := hidp ((hO1.alloc (.cells #[.slice A1 nl c1, .int .i64 r0, .int .i64 r1, .int .i64 r2, .int .i64 r3, .int .i64 r4, .int .i64 r5, .int .i64 r6, .int .i64 r7] 42)).alloc (.cells #[.slice A2 nl c2, .int .i64 p0, .int .i64 p1, .int .i64 p2, .int .i64 p3, .int .i64 p4, .int .i64 p5, .int .i64 p6, .int .i64 p7] 42))
  have HO2 := hidp ((hO2.alloc (.cells #[.slice A1 nl c1, .int .i64 r0, .int .i64 r1, .int .i64 r2, .int .i64 r3, .int .i64 r4, .int .i64 r5, .int .i64 r6, .int .i64 r7] 42)).alloc (.cells #[.slice A2 nl c2, .int .i64 p0, .int .i64 p1, .int .i64 p2, .int .i64 p3, .int .i64 p4, .int .i64 p5, .int .i64 p6, .int .i64 p7] 42))
  have HL1 := hidp h1
  have HL2 := hidp h2
  obtain ⟨h11, h12⟩ := own_caps3 hO1
  obtain ⟨h21, h22⟩ := own_caps3 hO2
  have h12 : c1 ≤ 9223372036854775807 := h12
  have h22 : c2 ≤ 9223372036854775807 := h22
  have hei := eq8_iff r0 r1 r2 r3 r4 r5 r6 r7 p0 p1 p2 p3 p4 p5 p6 p7
  have he := fun W => eq8_run r0 r1 r2 r3 r4 r5 r6 r7 p0 p1 p2 p3 p4 p5 p6 p7 W
  obtain ⟨eb, heb⟩ : ∃ eb, (r0 == p0 && (r1 == p1 && (r2 == p2 && (r3 == p3 && (r4 == p4 && (r5 == p5 && (r6 == p6 && (r7 == p7)))))))) = eb := ⟨_, rfl⟩
  rw [heb] at hei
  simp only [heb] at he
  have q0 : ((nl : Int) != (nl : Int)) = false := by simp
  cases eb
  · have HBF : Hid (b = false) := hidp (bool_no hb (fun h => by have := hei.2 h.1; cases this))
    clear hei heb hb h1 h2 hO1 hO2
    go_enter Tryz.func14, Tryz.ntmps14
    go_wp2_with fail
    go_ret
    exact ⟨by rw [HBF.out]; rfl, HBW.out⟩
  · have HBC : Hid (b = true ↔ l1 = l2) := hidp (hb.trans ⟨fun h => h.2, fun h => ⟨hei.1 rfl, h⟩⟩)
    clear hei heb hb h1 h2 hO1 hO2
    go_enter Tryz.func14, Tryz.ntmps14
    go_wp2_with fail
    generalize (w.alloc (.cells #[.slice A1 nl c1, .int .i64 r0, .int .i64 r1, .int .i64 r2, .int .i64 r3, .int .i64 r4, .int .i64 r5, .int .i64 r6, .int .i64 r7] 42)).alloc (.cells #[.slice A2 nl c2, .int .i64 p0, .int .i64 p1, .int .i64 p2, .int .i64 p3, .int .i64 p4, .int .i64 p5, .int .i64 p6, .int .i64 p7] 42) = WL at *
    clear he x1 x2 x3 x4 x5 x6 x7 x8 y1 y2 y3 y4 y5 y6 y7 y8 q0
    go_loopw [5] (fun u5 wr => ∃ (i d : Nat), i ≤ nl ∧ u5 = .int .i64 (i : Int) ∧ Hid (l1.take i = l2.take i) ∧ wr = WL.drewN d) (fun u5 _ => nl - (intOf u5).toNat)
    case atStart => exact ⟨0, 0, by omega, rfl, hidp rfl, rfl⟩
    case round =>
      obtain ⟨i, d, hi, rfl, HTE, rfl⟩ := hrel
      by_cases hlt : i < nl
      · obtain ⟨x, hx⟩ : ∃ x, l1[i]? = some x := ⟨_, List.getElem?_eq_getElem (by have := HL1.out; omega)⟩
        obtain ⟨y, hy⟩ : ∃ y, l2[i]? = some y := ⟨_, List.getElem?_eq_getElem (by have := HL2.out; omega)⟩
        obtain ⟨g1, cv1, hv1, _, _⟩ := HO1.out.form (by omega)
        injection hv1 with hv1 _ hc1
        subst hv1
        subst hc1
        obtain ⟨g2, cv2, hv2, _, _⟩ := HO2.out.form (by omega)
        injection hv2 with hv2 _ hc2
        subst hv2
        subst hc2
        obtain ⟨p0, p1⟩ := own_block0 HO1.out HL1.out hx
        obtain ⟨q0, q1⟩ := own_block0 HO2.out HL2.out hy
        have HNE : Hid (x ≠ y → ¬ l1 = l2) := hidp (fun h e => h (by rw [e, hy] at hx; exact (Option.some.inj hx).symm))
        have HSU : Hid (x = y → l1.take (i + 1) = l2.take (i + 1)) := hidp (fun h => by rw [List.take_add_one, List.take_add_one, HTE.out, hx, hy, h])
        obtain ⟨a1, z1⟩ := x
        obtain ⟨a2, z2⟩ := y
        have t0 : decide ((i : Int) < nl) = true := decide_eq_true (by omega)
        have t0n : decide (i < nl) = true := decide_eq_true hlt
        simp only at p0 p1 q0 q1
        clear hx hy
        by_cases ha : a1 = a2
        · subst ha
          by_cases hz : z1 = z2
          · subst hz
            have HT1 := hidp (HSU.out rfl)
            go_wp2_with fail
            refine wp_region_held_drew (S := (fun w' => w'.cell? ⟨g1, i * 2, none⟩ = some (.int .i64 a1) ∧ w'.cell? ⟨g1, i * 2 + 1, none⟩ = some (.int .i64 z1) ∧ w'.cell? ⟨g2, i * 2, none⟩ = some (.int .i64 a1) ∧ w'.cell? ⟨g2, i * 2 + 1, none⟩ = some (.int .i64 z1) ∧ w'.cell? ⟨w.heap.size, 0, none⟩ = some (.slice (some ⟨g1, 0, none⟩) nl c1) ∧ w'.cell? ⟨w.heap.size + 1, 0, none⟩ = some (.slice (some ⟨g2, 0, none⟩) nl c2))) (by kernel_rfl) ?_ (fun hHeld => ?_)
            · (try dsimp only)
              first | exact ⟨p0, p1, q0, q1, x0, y0⟩ | exact hHeld
            refine tkO (i := 0) (v := ?_) rfl (by kernel_rfl) (fun _ _ _ h => h) (by rfl) ?_ (by assumption) ?_
            rotate_left
            · intro w hSw; (try dsimp only at hSw); go_simp; (try with_reducible rfl)
            (try simp only [Act.put, gA, gB, gC, sA, sB, sC])
            refine tkO (i := 1) (v := ?_) rfl (by kernel_rfl) (fun _ _ _ h => h) (by rfl) ?_ (by assumption) ?_
            rotate_left
            · intro w hSw; (try dsimp only at hSw); go_simp; (try with_reducible rfl)
            (try simp only [Act.put, gA, gB, gC, sA, sB, sC])
            refine tkO (i := 2) (v := ?_) rfl (by kernel_rfl) (fun _ _ _ h => h) (by rfl) ?_ (by assumption) ?_
            rotate_left
            · intro w hSw; (try dsimp only at hSw); go_simp; (try with_reducible rfl)
            (try simp only [Act.put, gA, gB, gC, sA, sB, sC])
            refine tkO (i := 3) (v := ?_) rfl (by kernel_rfl) (fun _ _ _ h => h) (by rfl) ?_ (by assumption) ?_
            rotate_left
            · intro w hSw; (try dsimp only at hSw); go_simp; (try with_reducible rfl)
            (try simp only [Act.put, gA, gB, gC, sA, sB, sC])
            refine tkO (i := 4) (v := ?_) rfl (by kernel_rfl) (fun _ _ _ h => h) (by rfl) ?_ (by assumption) ?_
            rotate_left
            · intro w hSw; (try dsimp only at hSw); go_simp; (try with_reducible rfl)
            (try simp only [Act.put, gA, gB, gC, sA, sB, sC])
            refine tkO (i := 5) (v := ?_) rfl (by kernel_rfl) (fun _ _ _ h => h) (by rfl) ?_ (by assumption) ?_
            rotate_left
            · intro w hSw; (try dsimp only at hSw); go_simp; (try with_reducible rfl)
            (try simp only [Act.put, gA, gB, gC, sA, sB, sC])
            refine tkO (i := 6) (v := ?_) rfl (by kernel_rfl) (fun _ _ _ h => h) (by rfl) ?_ (by assumption) ?_
            rotate_left
            · intro w hSw; (try dsimp only at hSw); go_simp; (try with_reducible rfl)
            (try simp only [Act.put, gA, gB, gC, sA, sB, sC])
            refine tkO (i := 7) (v := ?_) rfl (by kernel_rfl) (fun _ _ _ h => h) (by rfl) ?_ (by assumption) ?_
            rotate_left
            · intro w hSw; (try dsimp only at hSw); go_simp; (try with_reducible rfl)
            (try simp only [Act.put, gA, gB, gC, sA, sB, sC])
            refine tkO (i := 8) (v := ?_) rfl (by kernel_rfl) (fun _ _ _ h => h) (by rfl) ?_ (by assumption) ?_
            rotate_left
            · intro w hSw; (try dsimp only at hSw); go_simp; (try with_reducible rfl)
            (try simp only [Act.put, gA, gB, gC, sA, sB, sC])
            refine tkO (i := 9) (v := ?_) rfl (by kernel_rfl) (fun _ _ _ h => h) (by rfl) ?_ (by assumption) ?_
            rotate_left
            · intro w hSw; (try dsimp only at hSw); go_simp; (try with_reducible rfl)
            (try simp only [Act.put, gA, gB, gC, sA, sB, sC])
            refine tkO (i := 10) (v := ?_) rfl (by kernel_rfl) (fun _ _ _ h => h) (by rfl) ?_ (by assumption) ?_
            rotate_left
            · intro w hSw; (try dsimp only at hSw); go_simp; (try with_reducible rfl)
            (try simp only [Act.put, gA, gB, gC, sA, sB, sC])
            refine wpAnyH_done (by kernel_rfl) ?_ _
            go_wp2_with fail
            go_roundw
            case rel => exact ⟨i + 1, d + 1, by omega, by go_num, HT1, rfl⟩
            case measure => simp [intOf]; omega
          · have qz : (z1 == z2) = false := by simpa using hz
            have HBF : Hid (b = false) := hidp (bool_no HBC.out (HNE.out (fun e => hz (Prod.mk.inj e).2)))
            go_wp2_with fail
            refine wp_region_held_drew (S := (fun w' => w'.cell? ⟨g1, i * 2, none⟩ = some (.int .i64 a1) ∧ w'.cell? ⟨g1, i * 2 + 1, none⟩ = some (.int .i64 z1) ∧ w'.cell? ⟨g2, i * 2, none⟩ = some (.int .i64 a1) ∧ w'.cell? ⟨g2, i * 2 + 1, none⟩ = some (.int .i64 z2) ∧ w'.cell? ⟨w.heap.size, 0, none⟩ = some (.slice (some ⟨g1, 0, none⟩) nl c1) ∧ w'.cell? ⟨w.heap.size + 1, 0, none⟩ = some (.slice (some ⟨g2, 0, none⟩) nl c2))) (by kernel_rfl) ?_ (fun hHeld => ?_)
            · (try dsimp only)
              first | exact ⟨p0, p1, q0, q1, x0, y0⟩ | exact hHeld
            refine tkO (i := 0) (v := ?_) rfl (by kernel_rfl) (fun _ _ _ h => h) (by rfl) ?_ (by assumption) ?_
            rotate_left
            · intro w hSw; (try dsimp only at hSw); go_simp; (try with_reducible rfl)
            (try simp only [Act.put, gA, gB, gC, sA, sB, sC])
            refine tkO (i := 1) (v := ?_) rfl (by kernel_rfl) (fun _ _ _ h => h) (by rfl) ?_ (by assumption) ?_
            rotate_left
            · intro w hSw; (try dsimp only at hSw); go_simp; (try with_reducible rfl)
            (try simp only [Act.put, gA, gB, gC, sA, sB, sC])
            refine tkO (i := 2) (v := ?_) rfl (by kernel_rfl) (fun _ _ _ h => h) (by rfl) ?_ (by assumption) ?_
            rotate_left
            · intro w hSw; (try dsimp only at hSw); go_simp; (try with_reducible rfl)
            (try simp only [Act.put, gA, gB, gC, sA, sB, sC])
            refine tkO (i := 3) (v := ?_) rfl (by kernel_rfl) (fun _ _ _ h => h) (by rfl) ?_ (by assumption) ?_
            rotate_left
            · intro w hSw; (try dsimp only at hSw); go_simp; (try with_reducible rfl)
            (try simp only [Act.put, gA, gB, gC, sA, sB, sC])
            refine tkO (i := 4) (v := ?_) rfl (by kernel_rfl) (fun _ _ _ h => h) (by rfl) ?_ (by assumption) ?_
            rotate_left
            · intro w hSw; (try dsimp only at hSw); go_simp; (try with_reducible rfl)
            (try simp only [Act.put, gA, gB, gC, sA, sB, sC])
            refine tkO (i := 5) (v := ?_) rfl (by kernel_rfl) (fun _ _ _ h => h) (by rfl) ?_ (by assumption) ?_
            rotate_left
            · intro w hSw; (try dsimp only at hSw); go_simp; (try with_reducible rfl)
            (try simp only [Act.put, gA, gB, gC, sA, sB, sC])
            refine tkO (i := 6) (v := ?_) rfl (by kernel_rfl) (fun _ _ _ h => h) (by rfl) ?_ (by assumption) ?_
            rotate_left
            · intro w hSw; (try dsimp only at hSw); go_simp; (try with_reducible rfl)
            (try simp only [Act.put, gA, gB, gC, sA, sB, sC])
            refine tkO (i := 7) (v := ?_) rfl (by kernel_rfl) (fun _ _ _ h => h) (by rfl) ?_ (by assumption) ?_
            rotate_left
            · intro w hSw; (try dsimp only at hSw); go_simp; (try with_reducible rfl)
            (try simp only [Act.put, gA, gB, gC, sA, sB, sC])
            refine tkO (i := 8) (v := ?_) rfl (by kernel_rfl) (fun _ _ _ h => h) (by rfl) ?_ (by assumption) ?_
            rotate_left
            · intro w hSw; (try dsimp only at hSw); go_simp; (try with_reducible rfl)
            (try simp only [Act.put, gA, gB, gC, sA, sB, sC])
            refine tkO (i := 9) (v := ?_) rfl (by kernel_rfl) (fun _ _ _ h => h) (by rfl) ?_ (by assumption) ?_
            rotate_left
            · intro w hSw; (try dsimp only at hSw); go_simp; (try with_reducible rfl)
            (try simp only [Act.put, gA, gB, gC, sA, sB, sC])
            refine tkO (i := 10) (v := ?_) rfl (by kernel_rfl) (fun _ _ _ h => h) (by rfl) ?_ (by assumption) ?_
            rotate_left
            · intro w hSw; (try dsimp only at hSw); go_simp; (try with_reducible rfl)
            (try simp only [Act.put, gA, gB, gC, sA, sB, sC])
            refine wpAnyH_done (by kernel_rfl) ?_ _
            go_wp2_with fail
            go_ret
            exact ⟨by rw [HBF.out]; rfl, Bdraw HBW.out (d + 1)⟩
        · have qa : (a1 == a2) = false := by simpa using ha
          have HBF : Hid (b = false) := hidp (bool_no HBC.out (HNE.out (fun e => ha (Prod.mk.inj e).1)))
          go_wp2_with fail
          refine wp_region_held_drew (S := (fun w' => w'.cell? ⟨g1, i * 2, none⟩ = some (.int .i64 a1) ∧ w'.cell? ⟨g1, i * 2 + 1, none⟩ = some (.int .i64 z1) ∧ w'.cell? ⟨g2, i * 2, none⟩ = some (.int .i64 a2) ∧ w'.cell? ⟨g2, i * 2 + 1, none⟩ = some (.int .i64 z2) ∧ w'.cell? ⟨w.heap.size, 0, none⟩ = some (.slice (some ⟨g1, 0, none⟩) nl c1) ∧ w'.cell? ⟨w.heap.size + 1, 0, none⟩ = some (.slice (some ⟨g2, 0, none⟩) nl c2))) (by kernel_rfl) ?_ (fun hHeld => ?_)
          · (try dsimp only)
            first | exact ⟨p0, p1, q0, q1, x0, y0⟩ | exact hHeld
          refine tkO (i := 0) (v := ?_) rfl (by kernel_rfl) (fun _ _ _ h => h) (by rfl) ?_ (by assumption) ?_
          rotate_left
          · intro w hSw; (try dsimp only at hSw); go_simp; (try with_reducible rfl)
          (try simp only [Act.put, gA, gB, gC, sA, sB, sC])
          refine tkO (i := 1) (v := ?_) rfl (by kernel_rfl) (fun _ _ _ h => h) (by rfl) ?_ (by assumption) ?_
          rotate_left
          · intro w hSw; (try dsimp only at hSw); go_simp; (try with_reducible rfl)
          (try simp only [Act.put, gA, gB, gC, sA, sB, sC])
          refine tkO (i := 2) (v := ?_) rfl (by kernel_rfl) (fun _ _ _ h => h) (by rfl) ?_ (by assumption) ?_
          rotate_left
          · intro w hSw; (try dsimp only at hSw); go_simp; (try with_reducible rfl)
          (try simp only [Act.put, gA, gB, gC, sA, sB, sC])
          refine tkO (i := 3) (v := ?_) rfl (by kernel_rfl) (fun _ _ _ h => h) (by rfl) ?_ (by assumption) ?_
          rotate_left
          · intro w hSw; (try dsimp only at hSw); go_simp; (try with_reducible rfl)
          (try simp only [Act.put, gA, gB, gC, sA, sB, sC])
          refine tkO (i := 4) (v := ?_) rfl (by kernel_rfl) (fun _ _ _ h => h) (by rfl) ?_ (by assumption) ?_
          rotate_left
          · intro w hSw; (try dsimp only at hSw); go_simp; (try with_reducible rfl)
          (try simp only [Act.put, gA, gB, gC, sA, sB, sC])
          refine tkO (i := 5) (v := ?_) rfl (by kernel_rfl) (fun _ _ _ h => h) (by rfl) ?_ (by assumption) ?_
          rotate_left
          · intro w hSw; (try dsimp only at hSw); go_simp; (try with_reducible rfl)
          (try simp only [Act.put, gA, gB, gC, sA, sB, sC])
          refine tkO (i := 6) (v := ?_) rfl (by kernel_rfl) (fun _ _ _ h => h) (by rfl) ?_ (by assumption) ?_
          rotate_left
          · intro w hSw; (try dsimp only at hSw); go_simp; (try with_reducible rfl)
          (try simp only [Act.put, gA, gB, gC, sA, sB, sC])
          refine tkO (i := 7) (v := ?_) rfl (by kernel_rfl) (fun _ _ _ h => h) (by rfl) ?_ (by assumption) ?_
          rotate_left
          · intro w hSw; (try dsimp only at hSw); go_simp; (try with_reducible rfl)
          (try simp only [Act.put, gA, gB, gC, sA, sB, sC])
          refine tkO (i := 8) (v := ?_) rfl (by kernel_rfl) (fun _ _ _ h => h) (by rfl) ?_ (by assumption) ?_
          rotate_left
          · intro w hSw; (try dsimp only at hSw); go_simp; (try with_reducible rfl)
          (try simp only [Act.put, gA, gB, gC, sA, sB, sC])
          refine tkO (i := 9) (v := ?_) rfl (by kernel_rfl) (fun _ _ _ h => h) (by rfl) ?_ (by assumption) ?_
          rotate_left
          · intro w hSw; (try dsimp only at hSw); go_simp; (try with_reducible rfl)
          (try simp only [Act.put, gA, gB, gC, sA, sB, sC])
          refine tkO (i := 10) (v := ?_) rfl (by kernel_rfl) (fun _ _ _ h => h) (by rfl) ?_ (by assumption) ?_
          rotate_left
          · intro w hSw; (try dsimp only at hSw); go_simp; (try with_reducible rfl)
          (try simp only [Act.put, gA, gB, gC, sA, sB, sC])
          refine wpAnyH_done (by kernel_rfl) ?_ _
          go_wp2_with fail
          go_ret
          exact ⟨by rw [HBF.out]; rfl, Bdraw HBW.out (d + 1)⟩
      · have t0 : decide ((i : Int) < nl) = false := decide_eq_false (by omega)
        have t0n : decide (i < nl) = false := decide_eq_false hlt
        have HBT : Hid (b = true) := hidp (HBC.out.2 (by
          have h := HTE.out
          rwa [List.take_of_length_le (by have := HL1.out; omega), List.take_of_length_le (by have := HL2.out; omega)] at h))
        go_wp2_with fail
        go_ret
        exact ⟨by rw [HBT.out]; rfl, Bdraw HBW.out d⟩
set_option maxHeartbeats 1600000 in
theorem xSame_c (l1 l2 : List (Int × Int)) (A1 A2 : Option Addr) (n1 n2 c1 c2 b1 b2 : Nat) (r0 r1 r2 r3 r4 r5 r6 r7 p0 p1 p2 p3 p4 p5 p6 p7 : Int) (w : World) (h1 : l1.length = n1) (h2 : l2.length = n2) (hn1 : n1 ≤ 100000) (hn2 : n2 ≤ 100000)
    (hO1 : w.ownsRow b1 79 2 (.slice A1 n1 c1) n1 (bkVs l1)) (hO2 : w.ownsRow b2 79 2 (.slice A2 n2 c2) n2 (bkVs l2)) (b : Bool) (hb : b = true ↔ [r0, r1, r2, r3, r4, r5, r6, r7] = [p0, p1, p2, p3, p4, p5, p6, p7] ∧ l1 = l2) :
    Calls Tryz.prog 14 #[.agg #[.slice A1 n1 c1, .int .i64 r0, .int .i64 r1, .int .i64 r2, .int .i64 r3, .int .i64 r4, .int .i64 r5, .int .i64 r6, .int .i64 r7], .agg #[.slice A2 n2 c2, .int .i64 p0, .int .i64 p1, .int .i64 p2, .int .i64 p3, .int .i64 p4, .int .i64 p5, .int .i64 p6, .int .i64 p7]] w fun e w' => e = .returned (.bool b) ∧ Below w.heap.size w w' := by
  by_cases hne : n1 = n2
  · subst hne
    exact xSame_len l1 l2 A1 A2 n1 c1 c2 b1 b2 r0 r1 r2 r3 r4 r5 r6 r7 p0 p1 p2 p3 p4 p5 p6 p7 w h1 h2 hn1 hn2 hO1 hO2 b hb
  · have q0 : ((n1 : Int) != (n2 : Int)) = true := by simp; omega
    have q0n : (n1 != n2) = true := by simpa using hne
    have HBF : Hid (b = false) := hidp (bool_no hb (fun e => hne (by rw [← h1, ← h2, e.2])))
    have HX1 := hidp ((Held.new w 42 #[.slice A1 n1 c1, .int .i64 r0, .int .i64 r1, .int .i64 r2, .int .i64 r3, .int .i64 r4, .int .i64 r5, .int .i64 r6, .int .i64 r7]).alloc (.cells #[.slice A2 n2 c2, .int .i64 p0, .int .i64 p1, .int .i64 p2, .int .i64 p3, .int .i64 p4, .int .i64 p5, .int .i64 p6, .int .i64 p7] 42))
    have HX2 := hidp (Held.new2 w (.cells #[.slice A1 n1 c1, .int .i64 r0, .int .i64 r1, .int .i64 r2, .int .i64 r3, .int .i64 r4, .int .i64 r5, .int .i64 r6, .int .i64 r7] 42) 42 #[.slice A2 n2 c2, .int .i64 p0, .int .i64 p1, .int .i64 p2, .int .i64 p3, .int .i64 p4, .int .i64 p5, .int .i64 p6, .int .i64 p7])
    obtain ⟨x0, x1, x2, x3, x4, x5, x6, x7, x8⟩ := HX1.out.nine
    obtain ⟨y0, y1, y2, y3, y4, y5, y6, y7, y8⟩ := HX2.out.nine
    have HBW := hidp (Bnew (Bnew (B0 w) (.cells #[.slice A1 n1 c1, .int .i64 r0, .int .i64 r1, .int .i64 r2, .int .i64 r3, .int .i64 r4, .int .i64 r5, .int .i64 r6, .int .i64 r7] 42)) (.cells #[.slice A2 n2 c2, .int .i64 p0, .int .i64 p1, .int .i64 p2, .int .i64 p3, .int .i64 p4, .int .i64 p5, .int .i64 p6, .int .i64 p7] 42))
    have HO1 := hidp ((hO1.alloc (.cells #[.slice A1 n1 c1, .int .i64 r0, .int .i64 r1, .int .i64 r2, .int .i64 r3, .int .i64 r4, .int .i64 r5, .int .i64 r6, .int .i64 r7] 42)).alloc (.cells #[.slice A2 n2 c2, .int .i64 p0, .int .i64 p1, .int .i64 p2, .int .i64 p3, .int .i64 p4, .int .i64 p5, .int .i64 p6, .int .i64 p7] 42))
    have HO2 := hidp ((hO2.alloc (.cells #[.slice A1 n1 c1, .int .i64 r0, .int .i64 r1, .int .i64 r2, .int .i64 r3, .int .i64 r4, .int .i64 r5, .int .i64 r6, .int .i64 r7] 42)).alloc (.cells #[.slice A2 n2 c2, .int .i64 p0, .int .i64 p1, .int .i64 p2, .int .i64 p3, .int .i64 p4, .int .i64 p5, .int .i64 p6, .int .i64 p7] 42))
    have HL1 := hidp h1
    have HL2 := hidp h2
    obtain ⟨h11, h12⟩ := own_caps3 hO1
    obtain ⟨h21, h22⟩ := own_caps3 hO2
    have h12 : c1 ≤ 9223372036854775807 := h12
    have h22 : c2 ≤ 9223372036854775807 := h22
    have hei := eq8_iff r0 r1 r2 r3 r4 r5 r6 r7 p0 p1 p2 p3 p4 p5 p6 p7
    have he := fun W => eq8_run r0 r1 r2 r3 r4 r5 r6 r7 p0 p1 p2 p3 p4 p5 p6 p7 W
    obtain ⟨eb, heb⟩ : ∃ eb, (r0 == p0 && (r1 == p1 && (r2 == p2 && (r3 == p3 && (r4 == p4 && (r5 == p5 && (r6 == p6 && (r7 == p7)))))))) = eb := ⟨_, rfl⟩
    rw [heb] at hei
    simp only [heb] at he
    clear hei heb hb h1 h2 hO1 hO2 hne he
    go_enter Tryz.func14, Tryz.ntmps14
    go_wp2_with fail
    go_ret
    exact ⟨by rw [HBF.out]; rfl, HBW.out⟩
end Go.Proofs.YtpndfhdedmdoeaaGreat
