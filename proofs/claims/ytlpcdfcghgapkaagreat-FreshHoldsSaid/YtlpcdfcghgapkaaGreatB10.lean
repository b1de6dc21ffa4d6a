/-
  audit.State. Written by audit/gen_state.py.
-/
import Derived.Test.YtlpcdfcghgapkaaGreatB04
import Derived.Test.YtlpcdfcghgapkaaGreatB01
import Derived.Test.YtlpcdfcghgapkaaGreatB09
import Derived.Test.YtlpcdfcghgapkaaGreatBKit
import Derived.Deep.Slices
import Derived.Lib.SmallJoins
import Derived.OpenShut
import Derived.Test.YtlpcdfcghgapkaaGreatB05
import Derived.Test.YtlpcdfcghgapkaaGreatB03
import Derived.Laws.MakeOwn
namespace Go.Proofs.YtlpcdfcghgapkaaGreat
open Go.ChangeShapes Go.WideShapes Go.ChangeAt Go.RowKit Go.Shelf
set_option linter.unusedVariables false
set_option linter.unusedSimpArgs false
section
def set9 (w : World) (g : Nat) (a0 a1 a2 a3 a4 a5 a6 a7 a8 : Value) : World := ((((((((w.setCell ⟨g, 0, none⟩ a0).setCell ⟨g, 1, none⟩ a1).setCell ⟨g, 2, none⟩ a2).setCell ⟨g, 3, none⟩ a3).setCell ⟨g, 4, none⟩ a4).setCell ⟨g, 5, none⟩ a5).setCell ⟨g, 6, none⟩ a6).setCell ⟨g, 7, none⟩ a7).setCell ⟨g, 8, none⟩ a8
section
variable {w : World} {g : Nat} {t : TypeId} {c0 c1 c2 c3 c4 c5 c6 c7 c8 : Value}
theorem Held.nine (h : Held w g t #[c0, c1, c2, c3, c4, c5, c6, c7, c8]) : w.cell? ⟨g, 0, none⟩ = some c0 /\ w.cell? ⟨g, 1, none⟩ = some c1 /\ w.cell? ⟨g, 2, none⟩ = some c2 /\ w.cell? ⟨g, 3, none⟩ = some c3 /\ w.cell? ⟨g, 4, none⟩ = some c4 /\ w.cell? ⟨g, 5, none⟩ = some c5 /\ w.cell? ⟨g, 6, none⟩ = some c6 /\ w.cell? ⟨g, 7, none⟩ = some c7 /\ w.cell? ⟨g, 8, none⟩ = some c8 := ⟨h.cell 0, h.cell 1, h.cell 2, h.cell 3, h.cell 4, h.cell 5, h.cell 6, h.cell 7, h.cell 8⟩
theorem Held.thawed9 {cs : Array Value} (h : Held w g t cs) : w.frozen? ⟨g, 0, none⟩ = false /\ w.frozen? ⟨g, 1, none⟩ = false /\ w.frozen? ⟨g, 2, none⟩ = false /\ w.frozen? ⟨g, 3, none⟩ = false /\ w.frozen? ⟨g, 4, none⟩ = false /\ w.frozen? ⟨g, 5, none⟩ = false /\ w.frozen? ⟨g, 6, none⟩ = false /\ w.frozen? ⟨g, 7, none⟩ = false /\ w.frozen? ⟨g, 8, none⟩ = false := ⟨h.thawed 0, h.thawed 1, h.thawed 2, h.thawed 3, h.thawed 4, h.thawed 5, h.thawed 6, h.thawed 7, h.thawed 8⟩
theorem Held.set9 (h : Held w g t #[c0, c1, c2, c3, c4, c5, c6, c7, c8]) (a0 a1 a2 a3 a4 a5 a6 a7 a8 : Value) : Held (set9 w g a0 a1 a2 a3 a4 a5 a6 a7 a8) g t #[a0, a1, a2, a3, a4, a5, a6, a7, a8] := by
 have h0 : Held _ g t #[a0, c1, c2, c3, c4, c5, c6, c7, c8] := h.put 0 a0
 have h1 : Held _ g t #[a0, a1, c2, c3, c4, c5, c6, c7, c8] := h0.put 1 a1
 have h2 : Held _ g t #[a0, a1, a2, c3, c4, c5, c6, c7, c8] := h1.put 2 a2
 have h3 : Held _ g t #[a0, a1, a2, a3, c4, c5, c6, c7, c8] := h2.put 3 a3
 have h4 : Held _ g t #[a0, a1, a2, a3, a4, c5, c6, c7, c8] := h3.put 4 a4
 have h5 : Held _ g t #[a0, a1, a2, a3, a4, a5, c6, c7, c8] := h4.put 5 a5
 have h6 : Held _ g t #[a0, a1, a2, a3, a4, a5, a6, c7, c8] := h5.put 6 a6
 have h7 : Held _ g t #[a0, a1, a2, a3, a4, a5, a6, a7, c8] := h6.put 7 a7
 have h8 : Held _ g t #[a0, a1, a2, a3, a4, a5, a6, a7, a8] := h7.put 8 a8
 exact h8
theorem below_set9 {W : World} (h : Below W.heap.size W w) (hg : W.heap.size <= g) (a0 a1 a2 a3 a4 a5 a6 a7 a8 : Value) : Below W.heap.size W (set9 w g a0 a1 a2 a3 a4 a5 a6 a7 a8) :=
 Bput (Bput (Bput (Bput (Bput (Bput (Bput (Bput (Bput h (p := ⟨g, 0, none⟩) hg a0) (p := ⟨g, 1, none⟩) hg a1) (p := ⟨g, 2, none⟩) hg a2) (p := ⟨g, 3, none⟩) hg a3) (p := ⟨g, 4, none⟩) hg a4) (p := ⟨g, 5, none⟩) hg a5) (p := ⟨g, 6, none⟩) hg a6) (p := ⟨g, 7, none⟩) hg a7) (p := ⟨g, 8, none⟩) hg a8
theorem heap_set9 {j : Nat} (hj : j ≠ g) (a0 a1 a2 a3 a4 a5 a6 a7 a8 : Value) : (set9 w g a0 a1 a2 a3 a4 a5 a6 a7 a8).heap[j]? = w.heap[j]? := by
 unfold _root_.Go.Proofs.YtlpcdfcghgapkaaGreat.set9
 repeat rw [Below.heap_setCell _ _ _ _ hj]
theorem own_set9 {base : Nat} {e : TypeId} {size : Nat} {v : Value} {n : Nat} {xs : List Value} (h : w.ownsRow base e size v n xs) (hg : ∀ j, v.ownBlock = some j -> j ≠ g) (a0 a1 a2 a3 a4 a5 a6 a7 a8 : Value) : (set9 w g a0 a1 a2 a3 a4 a5 a6 a7 a8).ownsRow base e size v n xs :=
 own_kept h (fun j hj => heap_set9 (hg j hj) _ _ _ _ _ _ _ _ _)
end
theorem rootsV_eq (H : AuH) : ∃ (r0 r1 r2 r3 r4 r5 r6 r7 : Nat), rootsV H = .agg #[.int .i64 (r0 : Int), .int .i64 (r1 : Int), .int .i64 (r2 : Int), .int .i64 (r3 : Int), .int .i64 (r4 : Int), .int .i64 (r5 : Int), .int .i64 (r6 : Int), .int .i64 (r7 : Int)] /\ H.V 22 = r0 /\ H.V 23 = r1 /\ H.V 24 = r2 /\ H.V 25 = r3 /\ H.V 26 = r4 /\ H.V 27 = r5 /\ H.V 28 = r6 /\ H.V 29 = r7 := ⟨_, _, _, _, _, _, _, _, rfl, rfl, rfl, rfl, rfl, rfl, rfl, rfl, rfl⟩
end
section
def stF (H : AuH) (u : Value) (k : Nat) (i : Nat) : Value := if i = 0 then u else if i <= k then .int .i64 (H.V (21 + i) : Nat) else .int .i64 0
set_option maxHeartbeats 6400000 in
set_option maxRecDepth 100000 in
theorem xState_yes {H : AuH} {n c : Nat} (HV : HeapV H n c) (ad : Addr) (m : Nat) (w : World) (hv : IsVals w ad n H.V) (hC : XCheckIs w H.t H.p H.s (some ad) n c m true) :
  Calls Tryz.prog 9 #[.agg #[.int .i64 (H.t : Int), .int .i64 (H.p : Int), .int .i64 (H.s : Int)], .slice (some ad) n c] w fun e w' => ∃ u, e = .returned (.tuple #[.agg #[u, .int .i64 (H.V 22 : Nat), .int .i64 (H.V 23 : Nat), .int .i64 (H.V 24 : Nat), .int .i64 (H.V 25 : Nat), .int .i64 (H.V 26 : Nat), .int .i64 (H.V 27 : Nat), .int .i64 (H.V 28 : Nat), .int .i64 (H.V 29 : Nat)], .bool true]) /\ w'.ownsRow w.heap.size 55 2 u (blocksOf H.parts).length (bkVs (blocksOf H.parts)) /\ Below w.heap.size w w' := by
 have HVL := hidp hv
 have HXK0 := hC
 have HX := hidp ((Held.new w 23 #[.int .i64 (H.t : Int), .int .i64 (H.p : Int), .int .i64 (H.s : Int)]).alloc (.cells #[.slice none 0 0, .int .i64 0, .int .i64 0, .int .i64 0, .int .i64 0, .int .i64 0, .int .i64 0, .int .i64 0, .int .i64 0] 33))
 obtain ⟨c0, c1, c2⟩ := HX.out.three
 have HS := hidp (Held.new2 w (.cells #[.int .i64 (H.t : Int), .int .i64 (H.p : Int), .int .i64 (H.s : Int)] 23) 33 #[.slice none 0 0, .int .i64 0, .int .i64 0, .int .i64 0, .int .i64 0, .int .i64 0, .int .i64 0, .int .i64 0, .int .i64 0])
 have HBW := hidp (Bnew (Bnew (B0 w) (.cells #[.int .i64 (H.t : Int), .int .i64 (H.p : Int), .int .i64 (H.s : Int)] 23)) (.cells #[.slice none 0 0, .int .i64 0, .int .i64 0, .int .i64 0, .int .i64 0, .int .i64 0, .int .i64 0, .int .i64 0, .int .i64 0] 33))
 have HSO := hidp (xSound_c (H.t : Int) (H.p : Int) (H.s : Int) (some ad) n c m true _ (hC.grown HBW.out))
 have HXK := hidp hC
 have hn := HV.nums
 have hcx : c <= 9223372036854775807 := hn.2.2.2.2.2.2.2.2
 have hni : n <= 6238 := hn.2.2.2.2.2.2.1
 have hnc := HV.cap
 have hn30 : 30 <= n := by have := HV.len; omega
 have hbl : ad.block < w.heap.size := hv.1
 obtain ⟨l, hl⟩ : ∃ l, blocksOf H.parts = l := ⟨_, rfl⟩
 have HLB := hidp hl
 obtain ⟨nb, hnb⟩ : ∃ nb, l.length = nb := ⟨_, rfl⟩
 have HNB := hidp hnb
 clear hC hv hl hnb HXK0 hn
 go_enter Tryz.func9, Tryz.ntmps9
 go_wp2_with (first
  | (go_at_call 22; refine HSO.out.mono ?_; rintro e w2 ⟨rfl, hb2⟩; have HB2 := hidp (Bgo HBW.out hb2); have HS2 := hidp (HS.out.keep hb2); have HX2 := hidp (HX.out.keep hb2); clear hb2 c0 c1 c2; obtain ⟨c0, c1, c2⟩ := HX2.out.three)
  | (go_at_call 23; refine (xLiveTop_yes HV ad m _ (HVL.out.below HB2.out) (HXK.out.grown HB2.out)).mono ?_; rintro e w3 ⟨u, rfl, hown3, hb3⟩; rw [HLB.out, HNB.out] at hown3; obtain ⟨Ab, cb, rfl⟩ := own_slice hown3; have HG6 : Hid (w.heap.size + 1 < w3.heap.size) := hidp (by have h1 := hb3.size; have h2 := HS2.out.lt; omega); have HO3 := hidp (hown3.alloc (.cells #[.slice Ab nb cb, .int .i64 0, .int .i64 0, .int .i64 0, .int .i64 0, .int .i64 0, .int .i64 0, .int .i64 0, .int .i64 0] 33)); have HB3 := hidp (Bnew (Bgo HB2.out hb3) (.cells #[.slice Ab nb cb, .int .i64 0, .int .i64 0, .int .i64 0, .int .i64 0, .int .i64 0, .int .i64 0, .int .i64 0, .int .i64 0] 33)); have HS3 := hidp ((HS2.out.keep hb3).alloc (.cells #[.slice Ab nb cb, .int .i64 0, .int .i64 0, .int .i64 0, .int .i64 0, .int .i64 0, .int .i64 0, .int .i64 0, .int .i64 0] 33)); have HN3 := hidp (Held.new w3 33 #[.slice Ab nb cb, .int .i64 0, .int .i64 0, .int .i64 0, .int .i64 0, .int .i64 0, .int .i64 0, .int .i64 0, .int .i64 0]); have HOL : Hid (∀ j, (Value.slice Ab nb cb).ownBlock = some j -> w2.heap.size <= j /\ j < w3.heap.size) := hidp (fun j hj => hown3.lt j hj); clear hown3 hb3 c0 c1 c2)
  | fail)
 generalize hg6 : w3.heap.size = g6 at *
 generalize hw4 : w3.alloc (.cells #[.slice Ab nb cb, .int .i64 0, .int .i64 0, .int .i64 0, .int .i64 0, .int .i64 0, .int .i64 0, .int .i64 0, .int .i64 0] 33) = W4 at *
 have HR0 : Hid (RowF W4 g6 33 9 9 (stF H (.slice Ab nb cb) 0)) := hidp ⟨_, HN3.out, by simp, by omega, by unfold maxLen; omega, fun i hi => by
  rcases (by omega : i = 0 \/ i = 1 \/ i = 2 \/ i = 3 \/ i = 4 \/ i = 5 \/ i = 6 \/ i = 7 \/ i = 8) with rfl | rfl | rfl | rfl | rfl | rfl | rfl | rfl | rfl <;> rfl⟩
 have hgw := HG6.out
 clear hg6 hw4
 go_loopw [7] (fun u7 wr => ∃ k : Nat, k <= 8 /\ u7 = .int .i64 (k : Int) /\ Hid (Turns (fun i => i = g6) W4 wr) /\ Hid (RowF wr g6 33 9 9 (stF H (.slice Ab nb cb) k))) (fun u7 _ => 8 - (intOf u7).toNat)
 case atStart => exact ⟨0, by omega, rfl, hidp (T0 _ _), HR0⟩
 case round =>
  clear HR0
  obtain ⟨k, hk, rfl, HT0, HR⟩ := hrel
  have HB := hidp (HT0.out.below HB3.out (by omega))
  by_cases hlt : k < 8
  ·have t0 : decide ((k : Int) < 8) = true := decide_eq_true (by omega)
   have t8 : (k : Int) < 8 := by omega
   have HRT : Hid (nthI 22 8 1 (k : Int) = ((22 + k : Nat) : Int)) := hidp (by rw [nth_on (by omega) (by omega) (by omega)]; push_cast; omega)
   have hin : 22 + k < n := by omega
   have hvk := (HVL.out.below HB.out).2 (22 + k) hin
   have hv32 := HV.lt (22 + k) hin
   have hrc := HR.out.cell (show 1 + k < 9 by omega)
   have hrf := HR.out.thawed (1 + k)
   have HUP : Hid (∀ i, i < 9 -> updF (stF H (.slice Ab nb cb) k) (1 + k) (.int .i64 (H.V (22 + k) : Nat)) i = stF H (.slice Ab nb cb) (k + 1) i) := hidp (fun i hi => by
    unfold updF stF
    by_cases e : i = 1 + k
    ·subst e; rw [if_pos rfl, if_neg (by omega), if_pos (by omega), show 21 + (1 + k) = 22 + k by omega]
    ·rw [if_neg e]
     by_cases e0 : i = 0
     ·rw [if_pos e0, if_pos e0]
     ·rw [if_neg e0, if_neg e0]
      by_cases e2 : i <= k
      ·rw [if_pos e2, if_pos (by omega)]
      ·rw [if_neg e2, if_neg (by omega)])
   have hr0 : stF H (.slice Ab nb cb) k (1 + k) = .int .i64 0 := by unfold stF; rw [if_neg (by omega), if_neg (by omega)]
   rw [hr0] at hrc
   obtain ⟨v, hvv⟩ : ∃ v, H.V (22 + k) = v := ⟨_, rfl⟩
   obtain ⟨ix, hHIX⟩ : ∃ ix, 22 + k = ix := ⟨_, rfl⟩
   rw [hHIX] at hin hvk HRT
   rw [<- hHIX, hvv, hHIX] at hvk
   rw [hvv] at hv32 HUP
   have hin2 : (ix : Int) < n := by omega
   have wv : IntKind.i64.wrap (v : Int) = (v : Int) := i64_same (by omega) (by omega)
   have HT9 : Hid (Turns (fun i => i = g6) wr (wr.setCell ⟨g6, 1 + k, none⟩ (.int .i64 (v : Int)))) := hidp ((T0 (fun i => i = g6) wr).put (p := ⟨g6, 1 + k, none⟩) rfl _)
   clear hvv hHIX
   go_wp2_with (first
    | (go_at_call 24; refine (r7Root_c _ _).mono ?_; rintro e w9 ⟨rfl, rfl⟩; rw [HRT.out])
    | fail)
   go_roundw
   case rel => exact ⟨k + 1, by omega, by go_num, hidp (HT0.out.trans HT9.out), hidp ((HR.out.put (show 1 + k < 9 by omega) (.int .i64 (v : Int))).congr HUP.out)⟩
   case measure => simp [intOf]; omega
  ·have t0 : decide ((k : Int) < 8) = false := decide_eq_false (by omega)
   have hk8 : k = 8 := by omega
   subst hk8
   obtain ⟨r0, r1, r2, r3, r4, r5, r6, r7, hrv, e0, e1, e2, e3, e4, e5, e6, e7⟩ := rootsV_eq H
   have hf0 : stF H (.slice Ab nb cb) 8 0 = .slice Ab nb cb := rfl
   have hf1 : stF H (.slice Ab nb cb) 8 1 = .int .i64 (r0 : Int) := by rw [<- e0]; rfl
   have hf2 : stF H (.slice Ab nb cb) 8 2 = .int .i64 (r1 : Int) := by rw [<- e1]; rfl
   have hf3 : stF H (.slice Ab nb cb) 8 3 = .int .i64 (r2 : Int) := by rw [<- e2]; rfl
   have hf4 : stF H (.slice Ab nb cb) 8 4 = .int .i64 (r3 : Int) := by rw [<- e3]; rfl
   have hf5 : stF H (.slice Ab nb cb) 8 5 = .int .i64 (r4 : Int) := by rw [<- e4]; rfl
   have hf6 : stF H (.slice Ab nb cb) 8 6 = .int .i64 (r5 : Int) := by rw [<- e5]; rfl
   have hf7 : stF H (.slice Ab nb cb) 8 7 = .int .i64 (r6 : Int) := by rw [<- e6]; rfl
   have hf8 : stF H (.slice Ab nb cb) 8 8 = .int .i64 (r7 : Int) := by rw [<- e7]; rfl
   have q0 := (HR.out.cell (show 0 < 9 by omega)).trans (congrArg some hf0)
   have q1 := (HR.out.cell (show 1 < 9 by omega)).trans (congrArg some hf1)
   have q2 := (HR.out.cell (show 2 < 9 by omega)).trans (congrArg some hf2)
   have q3 := (HR.out.cell (show 3 < 9 by omega)).trans (congrArg some hf3)
   have q4 := (HR.out.cell (show 4 < 9 by omega)).trans (congrArg some hf4)
   have q5 := (HR.out.cell (show 5 < 9 by omega)).trans (congrArg some hf5)
   have q6 := (HR.out.cell (show 6 < 9 by omega)).trans (congrArg some hf6)
   have q7 := (HR.out.cell (show 7 < 9 by omega)).trans (congrArg some hf7)
   have q8 := (HR.out.cell (show 8 < 9 by omega)).trans (congrArg some hf8)
   have HS4 := hidp (HT0.out.held HS3.out (by omega))
   obtain ⟨z0, z1, z2, z3, z4, z5, z6, z7, z8⟩ := HS4.out.nine
   obtain ⟨f0, f1, f2, f3, f4, f5, f6, f7, f8⟩ := HS4.out.thawed9
   have HO4 := hidp (own_kept HO3.out (fun j hj => HT0.out.block j (HO3.out.lt j hj).2 (by have := (HOL.out j hj).2; omega)))
   have HRE := hidp (And.intro e0 (And.intro e1 (And.intro e2 (And.intro e3 (And.intro e4 (And.intro e5 (And.intro e6 e7)))))))
   clear hrv e0 e1 e2 e3 e4 e5 e6 e7 hf0 hf1 hf2 hf3 hf4 hf5 hf6 hf7 hf8
   go_wp2_with fail
   obtain ⟨WF, hWF⟩ : ∃ WF, set9 (wr) (w.heap.size + 1) (.slice Ab nb cb) (.int .i64 (r0 : Int)) (.int .i64 (r1 : Int)) (.int .i64 (r2 : Int)) (.int .i64 (r3 : Int)) (.int .i64 (r4 : Int)) (.int .i64 (r5 : Int)) (.int .i64 (r6 : Int)) (.int .i64 (r7 : Int)) = WF := ⟨_, rfl⟩
   have zz := HS4.out.set9 (.slice Ab nb cb) (.int .i64 (r0 : Int)) (.int .i64 (r1 : Int)) (.int .i64 (r2 : Int)) (.int .i64 (r3 : Int)) (.int .i64 (r4 : Int)) (.int .i64 (r5 : Int)) (.int .i64 (r6 : Int)) (.int .i64 (r7 : Int))
   have hBF := below_set9 (g := (w.heap.size + 1)) HB.out (by omega) (.slice Ab nb cb) (.int .i64 (r0 : Int)) (.int .i64 (r1 : Int)) (.int .i64 (r2 : Int)) (.int .i64 (r3 : Int)) (.int .i64 (r4 : Int)) (.int .i64 (r5 : Int)) (.int .i64 (r6 : Int)) (.int .i64 (r7 : Int))
   have hOF := own_set9 (g := (w.heap.size + 1)) (own_down HO4.out HB2.out.size) (fun j hj => by have h1 := (HOL.out j hj).1; have h2 := HS2.out.lt; omega) (.slice Ab nb cb) (.int .i64 (r0 : Int)) (.int .i64 (r1 : Int)) (.int .i64 (r2 : Int)) (.int .i64 (r3 : Int)) (.int .i64 (r4 : Int)) (.int .i64 (r5 : Int)) (.int .i64 (r6 : Int)) (.int .i64 (r7 : Int))
   rw [hWF] at zz hBF hOF
   unfold set9 at hWF
   rw [hWF]
   obtain ⟨y0, y1, y2, y3, y4, y5, y6, y7, y8⟩ := zz.nine
   refine bodyPost_ret (v := .tuple #[.agg #[.slice Ab nb cb, .int .i64 (r0 : Int), .int .i64 (r1 : Int), .int .i64 (r2 : Int), .int .i64 (r3 : Int), .int .i64 (r4 : Int), .int .i64 (r5 : Int), .int .i64 (r6 : Int), .int .i64 (r7 : Int)], .bool true]) (by simp [results, Tryz.results9, go_sem, y0, y1, y2, y3, y4, y5, y6, y7, y8]) rfl ⟨.slice Ab nb cb, by obtain ⟨e0, e1, e2, e3, e4, e5, e6, e7⟩ := HRE.out; simp only [e0, e1, e2, e3, e4, e5, e6, e7], ?_, hBF⟩
   rw [HLB.out, HNB.out]
   exact hOF
end
section
theorem eqStep (d : Nat) (xs ys : Array Value) (i : Nat) (a b : Int) (is : List Nat) (w : World) (hx : xs[i]? = some (.int .i64 a)) (hy : ys[i]? = some (.int .i64 b)) :
  (Op.eqItems (d + 1) 2 1 xs ys (i :: is)).run Tryz.prog w = if (a == b) = true then (Op.eqItems (d + 1) 2 1 xs ys is).run Tryz.prog w else .ok false w := by
 have p1 := run_part_plain (P := Tryz.prog) w (e := 2) (by kernel_rfl) (off := i * 1) (by rw [Nat.mul_one]; exact hx)
 have p2 := run_part_plain (P := Tryz.prog) w (e := 2) (by kernel_rfl) (off := i * 1) (by rw [Nat.mul_one]; exact hy)
 have p3 := run_equalIn_int (P := Tryz.prog) w d 2 .i64 .i64 a b Tryz.underlying2
 simp only [Op.eqItems, Sem.run_bind, p1, p2, p3, Result.andThen_ok]
 cases a == b <;> simp
theorem eq8_run (r0 r1 r2 r3 r4 r5 r6 r7 p0 p1 p2 p3 p4 p5 p6 p7 : Int) (w : World) :
  (Op.equalIn 10000 31 (.agg #[.int .i64 r0, .int .i64 r1, .int .i64 r2, .int .i64 r3, .int .i64 r4, .int .i64 r5, .int .i64 r6, .int .i64 r7]) (.agg #[.int .i64 p0, .int .i64 p1, .int .i64 p2, .int .i64 p3, .int .i64 p4, .int .i64 p5, .int .i64 p6, .int .i64 p7])).run Tryz.prog w = .ok (r0 == p0 && (r1 == p1 && (r2 == p2 && (r3 == p3 && (r4 == p4 && (r5 == p5 && (r6 == p6 && (r7 == p7)))))))) w := by
 obtain ⟨i, hi⟩ : ∃ i, Tryz.prog.info? 2 = some i := Option.isSome_iff_exists.1 (by kernel_rfl)
 have hc : Tryz.prog.cellsOf 2 = 1 := by kernel_rfl
 show (Op.equalIn (9999 + 1) _ _ _).run _ _ = _
 rw [run_equalIn_array w 9999 _ _ Tryz.underlying31 hi, hc]
 show (Op.eqItems (9998 + 1) 2 1 _ _ [0, 1, 2, 3, 4, 5, 6, 7]).run _ _ = _
 rw [eqStep 9998 _ _ 0 r0 p0 _ w rfl rfl]
 rw [eqStep 9998 _ _ 1 r1 p1 _ w rfl rfl]
 rw [eqStep 9998 _ _ 2 r2 p2 _ w rfl rfl]
 rw [eqStep 9998 _ _ 3 r3 p3 _ w rfl rfl]
 rw [eqStep 9998 _ _ 4 r4 p4 _ w rfl rfl]
 rw [eqStep 9998 _ _ 5 r5 p5 _ w rfl rfl]
 rw [eqStep 9998 _ _ 6 r6 p6 _ w rfl rfl]
 rw [eqStep 9998 _ _ 7 r7 p7 _ w rfl rfl]
 have hn : ∀ xs ys : Array Value, (Op.eqItems (9998 + 1) 2 1 xs ys []).run Tryz.prog w = .ok true w := fun xs ys => by simp [Op.eqItems]
 rw [hn]
 generalize (r0 == p0) = e0
 generalize (r1 == p1) = e1
 generalize (r2 == p2) = e2
 generalize (r3 == p3) = e3
 generalize (r4 == p4) = e4
 generalize (r5 == p5) = e5
 generalize (r6 == p6) = e6
 generalize (r7 == p7) = e7
 cases e0
 ·rfl
 cases e1
 ·rfl
 cases e2
 ·rfl
 cases e3
 ·rfl
 cases e4
 ·rfl
 cases e5
 ·rfl
 cases e6
 ·rfl
 cases e7
 ·rfl
 ·rfl

theorem eq8_iff (r0 r1 r2 r3 r4 r5 r6 r7 p0 p1 p2 p3 p4 p5 p6 p7 : Int) : (r0 == p0 && (r1 == p1 && (r2 == p2 && (r3 == p3 && (r4 == p4 && (r5 == p5 && (r6 == p6 && (r7 == p7)))))))) = true ↔ [r0, r1, r2, r3, r4, r5, r6, r7] = [p0, p1, p2, p3, p4, p5, p6, p7] := by simp
end
section
set_option maxHeartbeats 6400000 in
set_option maxRecDepth 100000 in
theorem xSame_len (l1 l2 : List (Int × Int)) (A1 A2 : Option Addr) (nl c1 c2 b1 b2 : Nat) (r0 r1 r2 r3 r4 r5 r6 r7 p0 p1 p2 p3 p4 p5 p6 p7 : Int) (w : World) (h1 : l1.length = nl) (h2 : l2.length = nl) (hnl : nl <= 100000) (hnl : nl <= 100000)
  (hO1 : w.ownsRow b1 55 2 (.slice A1 nl c1) nl (bkVs l1)) (hO2 : w.ownsRow b2 55 2 (.slice A2 nl c2) nl (bkVs l2)) (b : Bool) (hb : b = true ↔ [r0, r1, r2, r3, r4, r5, r6, r7] = [p0, p1, p2, p3, p4, p5, p6, p7] /\ l1 = l2) :
  Calls Tryz.prog 10 #[.agg #[.slice A1 nl c1, .int .i64 r0, .int .i64 r1, .int .i64 r2, .int .i64 r3, .int .i64 r4, .int .i64 r5, .int .i64 r6, .int .i64 r7], .agg #[.slice A2 nl c2, .int .i64 p0, .int .i64 p1, .int .i64 p2, .int .i64 p3, .int .i64 p4, .int .i64 p5, .int .i64 p6, .int .i64 p7]] w fun e w' => e = .returned (.bool b) /\ Below w.heap.size w w' := by
 have HX1 := hidp ((Held.new w 33 #[.slice A1 nl c1, .int .i64 r0, .int .i64 r1, .int .i64 r2, .int .i64 r3, .int .i64 r4, .int .i64 r5, .int .i64 r6, .int .i64 r7]).alloc (.cells #[.slice A2 nl c2, .int .i64 p0, .int .i64 p1, .int .i64 p2, .int .i64 p3, .int .i64 p4, .int .i64 p5, .int .i64 p6, .int .i64 p7] 33))
 have HX2 := hidp (Held.new2 w (.cells #[.slice A1 nl c1, .int .i64 r0, .int .i64 r1, .int .i64 r2, .int .i64 r3, .int .i64 r4, .int .i64 r5, .int .i64 r6, .int .i64 r7] 33) 33 #[.slice A2 nl c2, .int .i64 p0, .int .i64 p1, .int .i64 p2, .int .i64 p3, .int .i64 p4, .int .i64 p5, .int .i64 p6, .int .i64 p7])
 obtain ⟨x0, x1, x2, x3, x4, x5, x6, x7, x8⟩ := HX1.out.nine
 obtain ⟨y0, y1, y2, y3, y4, y5, y6, y7, y8⟩ := HX2.out.nine
 have HBW := hidp (Bnew (Bnew (B0 w) (.cells #[.slice A1 nl c1, .int .i64 r0, .int .i64 r1, .int .i64 r2, .int .i64 r3, .int .i64 r4, .int .i64 r5, .int .i64 r6, .int .i64 r7] 33)) (.cells #[.slice A2 nl c2, .int .i64 p0, .int .i64 p1, .int .i64 p2, .int .i64 p3, .int .i64 p4, .int .i64 p5, .int .i64 p6, .int .i64 p7] 33))
 have HO1 := hidp ((hO1.alloc (.cells #[.slice A1 nl c1, .int .i64 r0, .int .i64 r1, .int .i64 r2, .int .i64 r3, .int .i64 r4, .int .i64 r5, .int .i64 r6, .int .i64 r7] 33)).alloc (.cells #[.slice A2 nl c2, .int .i64 p0, .int .i64 p1, .int .i64 p2, .int .i64 p3, .int .i64 p4, .int .i64 p5, .int .i64 p6, .int .i64 p7] 33))
 have HO2 := hidp ((hO2.alloc (.cells #[.slice A1 nl c1, .int .i64 r0, .int .i64 r1, .int .i64 r2, .int .i64 r3, .int .i64 r4, .int .i64 r5, .int .i64 r6, .int .i64 r7] 33)).alloc (.cells #[.slice A2 nl c2, .int .i64 p0, .int .i64 p1, .int .i64 p2, .int .i64 p3, .int .i64 p4, .int .i64 p5, .int .i64 p6, .int .i64 p7] 33))
 have HL1 := hidp h1
 have HL2 := hidp h2
 obtain ⟨h11, h12⟩ := own_caps3 hO1
 obtain ⟨h21, h22⟩ := own_caps3 hO2
 have h12 : c1 <= 9223372036854775807 := h12
 have h22 : c2 <= 9223372036854775807 := h22
 have hei := eq8_iff r0 r1 r2 r3 r4 r5 r6 r7 p0 p1 p2 p3 p4 p5 p6 p7
 have he := fun W => eq8_run r0 r1 r2 r3 r4 r5 r6 r7 p0 p1 p2 p3 p4 p5 p6 p7 W
 obtain ⟨eb, heb⟩ : ∃ eb, (r0 == p0 && (r1 == p1 && (r2 == p2 && (r3 == p3 && (r4 == p4 && (r5 == p5 && (r6 == p6 && (r7 == p7)))))))) = eb := ⟨_, rfl⟩
 rw [heb] at hei
 simp only [heb] at he
 have q0 : ((nl : Int) != (nl : Int)) = false := by simp
 cases eb
 ·have HBF : Hid (b = false) := hidp (bool_no hb (fun h => by have := hei.2 h.1; cases this))
  clear hei heb hb h1 h2 hO1 hO2
  go_enter Tryz.func10, Tryz.ntmps10
  go_wp2_with fail
  go_ret
  exact ⟨by rw [HBF.out]; rfl, HBW.out⟩
 ·have HBC : Hid (b = true ↔ l1 = l2) := hidp (hb.trans ⟨fun h => h.2, fun h => ⟨hei.1 rfl, h⟩⟩)
  clear hei heb hb h1 h2 hO1 hO2
  go_enter Tryz.func10, Tryz.ntmps10
  go_wp2_with fail
  generalize (w.alloc (.cells #[.slice A1 nl c1, .int .i64 r0, .int .i64 r1, .int .i64 r2, .int .i64 r3, .int .i64 r4, .int .i64 r5, .int .i64 r6, .int .i64 r7] 33)).alloc (.cells #[.slice A2 nl c2, .int .i64 p0, .int .i64 p1, .int .i64 p2, .int .i64 p3, .int .i64 p4, .int .i64 p5, .int .i64 p6, .int .i64 p7] 33) = WL at *
  clear he x1 x2 x3 x4 x5 x6 x7 x8 y1 y2 y3 y4 y5 y6 y7 y8 q0
  go_loopw [5] (fun u5 wr => ∃ (i d : Nat), i <= nl /\ u5 = .int .i64 (i : Int) /\ Hid (l1.take i = l2.take i) /\ wr = WL.drewN d) (fun u5 _ => nl - (intOf u5).toNat)
  case atStart => exact ⟨0, 0, by omega, rfl, hidp rfl, rfl⟩
  case round =>
   obtain ⟨i, d, hi, rfl, HTE, rfl⟩ := hrel
   by_cases hlt : i < nl
   ·obtain ⟨x, hx⟩ : ∃ x, l1[i]? = some x := ⟨_, List.getElem?_eq_getElem (by have := HL1.out; omega)⟩
    obtain ⟨y, hy⟩ : ∃ y, l2[i]? = some y := ⟨_, List.getElem?_eq_getElem (by have := HL2.out; omega)⟩
    obtain ⟨g1, cv1, hv1, _, _⟩ := HO1.out.form (by omega)
    injection hv1 with hv1 _ hc1
    subst hv1
    subst hc1
    obtain ⟨g2, cv2, hv2, _, _⟩ := HO2.out.form (by omega)
    injection hv2 with hv2 _ hc2
    subst hv2
    subst hc2
    obtain ⟨p0, p1⟩ := own_block0 HO1.out HL1.out hx
    obtain ⟨q0, q1⟩ := own_block0 HO2.out HL2.out hy
    have HNE : Hid (x ≠ y -> ¬ l1 = l2) := hidp (fun h e => h (by rw [e, hy] at hx; exact (Option.some.inj hx).symm))
    have HSU : Hid (x = y -> l1.take (i + 1) = l2.take (i + 1)) := hidp (fun h => by rw [List.take_add_one, List.take_add_one, HTE.out, hx, hy, h])
    obtain ⟨a1, z1⟩ := x
    obtain ⟨a2, z2⟩ := y
    have t0 : decide ((i : Int) < nl) = true := decide_eq_true (by omega)
    have t0n : decide (i < nl) = true := decide_eq_true hlt
    simp only at p0 p1 q0 q1
    clear hx hy
    by_cases ha : a1 = a2
    ·subst ha
     by_cases hz : z1 = z2
     ·subst hz
      have HT1 := hidp (HSU.out rfl)
      go_wp2_with fail
      refine wp_region_held_drew (S := (fun w' => w'.cell? ⟨g1, i * 2, none⟩ = some (.int .i64 a1) /\ w'.cell? ⟨g1, i * 2 + 1, none⟩ = some (.int .i64 z1) /\ w'.cell? ⟨g2, i * 2, none⟩ = some (.int .i64 a1) /\ w'.cell? ⟨g2, i * 2 + 1, none⟩ = some (.int .i64 z1) /\ w'.cell? ⟨w.heap.size, 0, none⟩ = some (.slice (some ⟨g1, 0, none⟩) nl c1) /\ w'.cell? ⟨w.heap.size + 1, 0, none⟩ = some (.slice (some ⟨g2, 0, none⟩) nl c2))) (by kernel_rfl) ?_ (fun hHeld => ?_)
      ·(try dsimp only)
       first | exact ⟨p0, p1, q0, q1, x0, y0⟩ | exact hHeld
      refine tkz 0 ?_
      refine tkz 1 ?_
      refine tkz 2 ?_
      refine tkz 3 ?_
      refine tkz 4 ?_
      refine tkz 5 ?_
      refine tkz 6 ?_
      refine tkz 7 ?_
      refine tkz 8 ?_
      refine tkz 9 ?_
      refine tkz 10 ?_
      refine dnz ?_
      go_wp2_with fail
      go_roundw
      case rel => exact ⟨i + 1, d + 1, by omega, by go_num, HT1, rfl⟩
      case measure => simp [intOf]; omega
     ·have qz : (z1 == z2) = false := by simpa using hz
      have HBF : Hid (b = false) := hidp (bool_no HBC.out (HNE.out (fun e => hz (Prod.mk.inj e).2)))
      go_wp2_with fail
      refine wp_region_held_drew (S := (fun w' => w'.cell? ⟨g1, i * 2, none⟩ = some (.int .i64 a1) /\ w'.cell? ⟨g1, i * 2 + 1, none⟩ = some (.int .i64 z1) /\ w'.cell? ⟨g2, i * 2, none⟩ = some (.int .i64 a1) /\ w'.cell? ⟨g2, i * 2 + 1, none⟩ = some (.int .i64 z2) /\ w'.cell? ⟨w.heap.size, 0, none⟩ = some (.slice (some ⟨g1, 0, none⟩) nl c1) /\ w'.cell? ⟨w.heap.size + 1, 0, none⟩ = some (.slice (some ⟨g2, 0, none⟩) nl c2))) (by kernel_rfl) ?_ (fun hHeld => ?_)
      ·(try dsimp only)
       first | exact ⟨p0, p1, q0, q1, x0, y0⟩ | exact hHeld
      refine tkz 0 ?_
      refine tkz 1 ?_
      refine tkz 2 ?_
      refine tkz 3 ?_
      refine tkz 4 ?_
      refine tkz 5 ?_
      refine tkz 6 ?_
      refine tkz 7 ?_
      refine tkz 8 ?_
      refine tkz 9 ?_
      refine tkz 10 ?_
      refine dnz ?_
      go_wp2_with fail
      go_ret
      exact ⟨by rw [HBF.out]; rfl, Bdraw HBW.out (d + 1)⟩
    ·have qa : (a1 == a2) = false := by simpa using ha
     have HBF : Hid (b = false) := hidp (bool_no HBC.out (HNE.out (fun e => ha (Prod.mk.inj e).1)))
     go_wp2_with fail
     refine wp_region_held_drew (S := (fun w' => w'.cell? ⟨g1, i * 2, none⟩ = some (.int .i64 a1) /\ w'.cell? ⟨g1, i * 2 + 1, none⟩ = some (.int .i64 z1) /\ w'.cell? ⟨g2, i * 2, none⟩ = some (.int .i64 a2) /\ w'.cell? ⟨g2, i * 2 + 1, none⟩ = some (.int .i64 z2) /\ w'.cell? ⟨w.heap.size, 0, none⟩ = some (.slice (some ⟨g1, 0, none⟩) nl c1) /\ w'.cell? ⟨w.heap.size + 1, 0, none⟩ = some (.slice (some ⟨g2, 0, none⟩) nl c2))) (by kernel_rfl) ?_ (fun hHeld => ?_)
     ·(try dsimp only)
      first | exact ⟨p0, p1, q0, q1, x0, y0⟩ | exact hHeld
     refine tkz 0 ?_
     refine tkz 1 ?_
     refine tkz 2 ?_
     refine tkz 3 ?_
     refine tkz 4 ?_
     refine tkz 5 ?_
     refine tkz 6 ?_
     refine tkz 7 ?_
     refine tkz 8 ?_
     refine tkz 9 ?_
     refine tkz 10 ?_
     refine dnz ?_
     go_wp2_with fail
     go_ret
     exact ⟨by rw [HBF.out]; rfl, Bdraw HBW.out (d + 1)⟩
   ·have t0 : decide ((i : Int) < nl) = false := decide_eq_false (by omega)
    have t0n : decide (i < nl) = false := decide_eq_false hlt
    have HBT : Hid (b = true) := hidp (HBC.out.2 (by
     have h := HTE.out
     rwa [List.take_of_length_le (by have := HL1.out; omega), List.take_of_length_le (by have := HL2.out; omega)] at h))
    go_wp2_with fail
    go_ret
    exact ⟨by rw [HBT.out]; rfl, Bdraw HBW.out d⟩
set_option maxHeartbeats 1600000 in
theorem xSame_c (l1 l2 : List (Int × Int)) (A1 A2 : Option Addr) (n1 n2 c1 c2 b1 b2 : Nat) (r0 r1 r2 r3 r4 r5 r6 r7 p0 p1 p2 p3 p4 p5 p6 p7 : Int) (w : World) (h1 : l1.length = n1) (h2 : l2.length = n2) (hn1 : n1 <= 100000) (hn2 : n2 <= 100000)
  (hO1 : w.ownsRow b1 55 2 (.slice A1 n1 c1) n1 (bkVs l1)) (hO2 : w.ownsRow b2 55 2 (.slice A2 n2 c2) n2 (bkVs l2)) (b : Bool) (hb : b = true ↔ [r0, r1, r2, r3, r4, r5, r6, r7] = [p0, p1, p2, p3, p4, p5, p6, p7] /\ l1 = l2) :
  Calls Tryz.prog 10 #[.agg #[.slice A1 n1 c1, .int .i64 r0, .int .i64 r1, .int .i64 r2, .int .i64 r3, .int .i64 r4, .int .i64 r5, .int .i64 r6, .int .i64 r7], .agg #[.slice A2 n2 c2, .int .i64 p0, .int .i64 p1, .int .i64 p2, .int .i64 p3, .int .i64 p4, .int .i64 p5, .int .i64 p6, .int .i64 p7]] w fun e w' => e = .returned (.bool b) /\ Below w.heap.size w w' := by
 by_cases hne : n1 = n2
 ·subst hne
  exact xSame_len l1 l2 A1 A2 n1 c1 c2 b1 b2 r0 r1 r2 r3 r4 r5 r6 r7 p0 p1 p2 p3 p4 p5 p6 p7 w h1 h2 hn1 hn2 hO1 hO2 b hb
 ·have q0 : ((n1 : Int) != (n2 : Int)) = true := by simp; omega
  have q0n : (n1 != n2) = true := by simpa using hne
  have HBF : Hid (b = false) := hidp (bool_no hb (fun e => hne (by rw [<- h1, <- h2, e.2])))
  have HX1 := hidp ((Held.new w 33 #[.slice A1 n1 c1, .int .i64 r0, .int .i64 r1, .int .i64 r2, .int .i64 r3, .int .i64 r4, .int .i64 r5, .int .i64 r6, .int .i64 r7]).alloc (.cells #[.slice A2 n2 c2, .int .i64 p0, .int .i64 p1, .int .i64 p2, .int .i64 p3, .int .i64 p4, .int .i64 p5, .int .i64 p6, .int .i64 p7] 33))
  have HX2 := hidp (Held.new2 w (.cells #[.slice A1 n1 c1, .int .i64 r0, .int .i64 r1, .int .i64 r2, .int .i64 r3, .int .i64 r4, .int .i64 r5, .int .i64 r6, .int .i64 r7] 33) 33 #[.slice A2 n2 c2, .int .i64 p0, .int .i64 p1, .int .i64 p2, .int .i64 p3, .int .i64 p4, .int .i64 p5, .int .i64 p6, .int .i64 p7])
  obtain ⟨x0, x1, x2, x3, x4, x5, x6, x7, x8⟩ := HX1.out.nine
  obtain ⟨y0, y1, y2, y3, y4, y5, y6, y7, y8⟩ := HX2.out.nine
  have HBW := hidp (Bnew (Bnew (B0 w) (.cells #[.slice A1 n1 c1, .int .i64 r0, .int .i64 r1, .int .i64 r2, .int .i64 r3, .int .i64 r4, .int .i64 r5, .int .i64 r6, .int .i64 r7] 33)) (.cells #[.slice A2 n2 c2, .int .i64 p0, .int .i64 p1, .int .i64 p2, .int .i64 p3, .int .i64 p4, .int .i64 p5, .int .i64 p6, .int .i64 p7] 33))
  have HO1 := hidp ((hO1.alloc (.cells #[.slice A1 n1 c1, .int .i64 r0, .int .i64 r1, .int .i64 r2, .int .i64 r3, .int .i64 r4, .int .i64 r5, .int .i64 r6, .int .i64 r7] 33)).alloc (.cells #[.slice A2 n2 c2, .int .i64 p0, .int .i64 p1, .int .i64 p2, .int .i64 p3, .int .i64 p4, .int .i64 p5, .int .i64 p6, .int .i64 p7] 33))
  have HO2 := hidp ((hO2.alloc (.cells #[.slice A1 n1 c1, .int .i64 r0, .int .i64 r1, .int .i64 r2, .int .i64 r3, .int .i64 r4, .int .i64 r5, .int .i64 r6, .int .i64 r7] 33)).alloc (.cells #[.slice A2 n2 c2, .int .i64 p0, .int .i64 p1, .int .i64 p2, .int .i64 p3, .int .i64 p4, .int .i64 p5, .int .i64 p6, .int .i64 p7] 33))
  have HL1 := hidp h1
  have HL2 := hidp h2
  obtain ⟨h11, h12⟩ := own_caps3 hO1
  obtain ⟨h21, h22⟩ := own_caps3 hO2
  have h12 : c1 <= 9223372036854775807 := h12
  have h22 : c2 <= 9223372036854775807 := h22
  have hei := eq8_iff r0 r1 r2 r3 r4 r5 r6 r7 p0 p1 p2 p3 p4 p5 p6 p7
  have he := fun W => eq8_run r0 r1 r2 r3 r4 r5 r6 r7 p0 p1 p2 p3 p4 p5 p6 p7 W
  obtain ⟨eb, heb⟩ : ∃ eb, (r0 == p0 && (r1 == p1 && (r2 == p2 && (r3 == p3 && (r4 == p4 && (r5 == p5 && (r6 == p6 && (r7 == p7)))))))) = eb := ⟨_, rfl⟩
  rw [heb] at hei
  simp only [heb] at he
  clear hei heb hb h1 h2 hO1 hO2 hne he
  go_enter Tryz.func10, Tryz.ntmps10
  go_wp2_with fail
  go_ret
  exact ⟨by rw [HBF.out]; rfl, HBW.out⟩
end
end Go.Proofs.YtlpcdfcghgapkaaGreat

namespace Go.Proofs.YtlpcdfcghgapkaaGreat
open Go.ChangeShapes Go.WideShapes Go.ChangeAt Go.RowKit
set_option linter.unusedVariables false
set_option linter.unusedSimpArgs false
set_option maxRecDepth 100000
section
structure Sl where
 a : Option Addr
 n : Nat
 c : Nat
instance : Inhabited Sl := ⟨⟨none, 0, 0⟩⟩
abbrev Sl.v (x : Sl) : Value := .slice x.a x.n x.c
def LongsAt (w : World) (u : Value) (l : List Int) : Prop :=
 ∃ A c, u = .slice A l.length c /\ l.length <= c /\ c <= maxLen /\ (∀ z ∈ l, -9223372036854775808 <= z /\ z <= 9223372036854775807) /\ (A = none -> l = [] /\ c = 0) /\
  ∀ ad, A = some ad -> (l ≠ [] -> ad.block < w.heap.size) /\ ∀ i z, l[i]? = some z -> w.cell? (ad.add i) = some (.int .i64 z)
theorem LongsAt.below {w w' : World} {u : Value} {l : List Int} (h : LongsAt w u l) (hb : Below w.heap.size w w') : LongsAt w' u l := by
 obtain ⟨A, c, h1, h2, h3, h4, h5, h6⟩ := h
 refine ⟨A, c, h1, h2, h3, h4, h5, fun ad e => ⟨fun hl => Nat.lt_of_lt_of_le ((h6 ad e).1 hl) hb.size, fun i z hz => ?_⟩⟩
 have hl : l ≠ [] := fun e => by rw [e] at hz; simp at hz
 exact (hb.cell (p := ad.add i) (by rw [block_of_add]; exact (h6 ad e).1 hl)).trans ((h6 ad e).2 i z hz)
def PksAt (w : World) (A : Option Addr) (T : Nat) (U : Nat -> Nat -> Sl) (Z : Nat -> Nat -> List Int) : Prop :=
 ∀ t, t < T -> ∃ ad, A = some ad /\ ad.block < w.heap.size /\ ∀ k, k < 9 -> w.cell? (ad.add (t * 9 + k)) = some (U t k).v /\ LongsAt w (U t k).v (Z t k)
theorem PksAt.below {w w' : World} {A : Option Addr} {T : Nat} {U : Nat -> Nat -> Sl} {Z : Nat -> Nat -> List Int} (h : PksAt w A T U Z) (hb : Below w.heap.size w w') : PksAt w' A T U Z := fun t ht => by
 obtain ⟨ad, e, h1, h2⟩ := h t ht
 exact ⟨ad, e, Nat.lt_of_lt_of_le h1 hb.size, fun k hk => ⟨(hb.cell (p := ad.add (t * 9 + k)) (by rw [block_of_add]; exact h1)).trans (h2 k hk).1, (h2 k hk).2.below hb⟩⟩
section
variable {H : Type} {enc : TypeId × Value -> H} {w : World} {base : Nat} {sp : Nat -> Bool} {held : Bool}
end
end
end Go.Proofs.YtlpcdfcghgapkaaGreat

namespace Go.Proofs.YtlpcdfcghgapkaaGreat
open Go.ChangeShapes Go.WideShapes Go.ChangeAt Go.RowKit
set_option linter.unusedVariables false
section
theorem run_append_none {P : Program} {w : World} (t ty e : TypeId) (i : TypeInfo) (ht : P.underlying t = some (.slice e)) (hi : P.info? e = some i) (A : Option Addr) (n cap c : Nat) (hn : n <= cap) :
  (Builtin.append_ #[t, t] ty #[.slice A n cap, .slice none 0 c]).run P w = .ok (.slice A n cap) w := by
 cases A <;> simp [Builtin.append_, run_underlying ht, sizeOf, typeInfo, hi, Builtin.firstCells, hn, Builtin.lenOf, storeCells]

theorem wpList_append_none {P : Program} {w : World} {ops : Array Oper} {rest : List Oper} {o : Oper} {a : Act} {Q : Exit -> Act -> World -> Prop} (hgd : o.guard = none) (s x : Operand) (t : TypeId)
  (ho : o.op = .call { callee := .builtin .append, args := #[s, x], argTypes := #[t, t] })
  (e : TypeId) (i : TypeInfo) (ht : P.underlying t = some (.slice e)) (hi : P.info? e = some i) (A : Option Addr) (n cap c : Nat) (hn : n <= cap)
  (hs : a.eval s = .slice A n cap) (hx : a.eval x = .slice none 0 c)
  (h : wpList P ops Q rest (a.put o.dst (.slice A n cap)) w) : wpList P ops Q (o :: rest) a w := by
 refine wpList_plain hgd fun K' hK' => ?_
 unfold Oper.wp
 simp [execOp, ho, resolve, invoke, builtin, hs, hx, run_append_none t o.type e i ht hi A n cap c hn, Result.andThen]
 exact hK' _ _ h
end
end Go.Proofs.YtlpcdfcghgapkaaGreat

namespace Go.Proofs.YtlpcdfcghgapkaaGreat
section
def haveT (Z : Nat -> Nat -> List Int) (k : Nat) : Nat -> List Int
 | 0 => []
 | T + 1 => haveT Z k T ++ Z T k
end
end Go.Proofs.YtlpcdfcghgapkaaGreat

namespace Go.Proofs.YtlpcdfcghgapkaaGreat
open Go.ChangeShapes Go.WideShapes Go.ChangeAt Go.RowKit Go.Maps
set_option linter.unusedVariables false
set_option linter.unusedSimpArgs false
set_option maxRecDepth 100000
section
theorem count_take {l : List Int} {i : Nat} {z : Int} (a : Int) (hz : l[i]? = some z) : (l.take (i + 1)).count a = (l.take i).count a + if z = a then 1 else 0 := by
 rw [List.take_add_one, hz, List.count_append]
 congr 1
 show [z].count a = _
 rw [List.count_singleton]
 by_cases h : z = a
 ·subst h; simp
 ·rw [if_neg h]; simp [h]
theorem rOften_c (u : Value) (l : List Int) (a : Int) (nl : Nat) (hnl : l.length = nl) (hl : nl <= 1000000) (w : World) (h : LongsAt w u l) :
  Calls Tryz.prog 28 #[u, .int .i64 a] w fun e w' => e = .returned (.int .i64 ((l.count a : Nat) : Int)) /\ w = w' := by
 obtain ⟨A, c, rfl, hlc, hcm, hb, hnone, hcell⟩ := h
 have HNL := hidp hnl
 have HCL := hidp hcell
 have HNO := hidp hnone
 rw [hnl] at hlc ⊢
 clear hnl hcell hnone
 go_enter Tryz.func28, Tryz.ntmps28
 go_wp2
 go_loop [5, 6] (fun u5 u6 => ∃ i : Nat, i <= nl /\ u6 = .int .i64 (i : Int) /\ u5 = .int .i64 (((l.take i).count a : Nat) : Int)) (fun _ u6 => nl - (intOf u6).toNat)
 case atStart => exact ⟨0, by omega, rfl, rfl⟩
 case round =>
  obtain ⟨i, hi, rfl, rfl⟩ := hrel
  by_cases hlt : i < nl
  ·obtain ⟨z, hz⟩ : ∃ z, l[i]? = some z := ⟨_, List.getElem?_eq_getElem (by rw [HNL.out]; exact hlt)⟩
   cases A with
   | none => exact absurd HNL.out (by rw [(HNO.out rfl).1]; simp; omega)
   | some ad =>
    have hc := (HCL.out ad rfl).2 i z hz
    have HT := hidp (count_take a hz)
    have hk : (l.take i).count a <= i := Nat.le_trans List.count_le_length (by rw [List.length_take]; omega)
    clear hz
    generalize (l.take i).count a = y at *
    by_cases h4 : z = a
    ·have t0 : (z == a) = true := by simpa using h4
     rw [if_pos h4] at HT
     clear h4
     go_wp2
     go_round
     case rel => exact ⟨i + 1, by omega, by go_num, by rw [HT.out]; go_num⟩
     case measure => simp [intOf]; omega
    ·have t0 : (z == a) = false := by simpa using h4
     rw [if_neg h4, Nat.add_zero] at HT
     clear h4
     go_wp2
     go_round
     case rel => exact ⟨i + 1, by omega, by go_num, by rw [HT.out]; rfl⟩
     case measure => simp [intOf]; omega
  ·obtain rfl : i = nl := by omega
   have HE : Hid (l.take i = l) := hidp (List.take_of_length_le (by rw [HNL.out]; exact Nat.le_refl _))
   go_wp2
   go_ret
   exact ⟨by rw [HE.out]; rfl, rfl⟩
def lgVs (l : List Int) : List Value := l.map (Value.int .i64)
theorem lgVs_len (l : List Int) : (lgVs l).length = l.length := List.length_map ..
theorem lgVs_get {l : List Int} {j : Nat} {u : Value} (h : (lgVs l)[j]? = some u) : ∃ z, l[j]? = some z /\ u = .int .i64 z := by
 unfold lgVs at h
 rw [List.getElem?_map] at h
 cases hz : l[j]? with
 | none => rw [hz] at h; cases h
 | some z => rw [hz] at h; injection h with h; exact ⟨z, rfl, h.symm⟩
theorem own_caps_any {w : World} {base : Nat} {e : TypeId} {size n c : Nat} {A : Option Addr} {xs : List Value} (h : w.ownsRow base e size (.slice A n c) n xs) : n <= c /\ c <= 9223372036854775807 := by
 rcases h.2 with ⟨h1, h2⟩ | ⟨g, cap, cur, h1, hb, hg, hnc, hcm, hr⟩
 ·injection h1 with _ h1 h3; omega
 ·injection h1 with _ _ h3; unfold maxLen at hcm; omega
set_option maxHeartbeats 3200000 in
theorem rAll_c (A : Option Addr) (T c k : Nat) (U : Nat -> Nat -> Sl) (Z : Nat -> Nat -> List Int) (hT : T <= 1000) (hk : k < 9) (hl : ∀ t, t < T -> (Z t k).length <= 1000) (hTc : T <= c) (hcm : c <= maxLen) (w : World) (h : PksAt w A T U Z) :
    Calls Tryz.prog 26 #[.slice A T c, .int .i64 (k : Int)] w fun e w' => ∃ u, e = .returned u /\ w'.ownsRow w.heap.size 2 1 u (haveT Z k T).length (lgVs (haveT Z k T)) /\ Below w.heap.size w w' := by
  have HP := hidp h
  have HB := hidp (Bnew (B0 w) (.cells #[] 2))
  have HO : Hid ((w.alloc (.cells #[] 2)).ownsRow w.heap.size 2 1 (.slice (some ⟨w.heap.size, 0, none⟩) 0 0) 0 []) := hidp (World.ownsRow_lit (base := w.heap.size) (e := 2) (size := 1) w #[] 0 (Nat.le_refl _) (by unfold maxLen; omega) rfl)
  have hlen : ∀ i, i <= T -> (haveT Z k i).length <= i * 1000 := fun i => by
    induction i with
    | zero => intro _; exact Nat.le_refl _
    | succ i ih =>
      intro hi
      unfold haveT
      rw [List.length_append]
      have := ih (by omega)
      have := hl i (by omega)
      omega
  obtain ⟨i0, hi0, hz0, hz1, hz2⟩ := info_parts longInfo
  clear h
  go_enter Tryz.func26, Tryz.ntmps26
  go_wp2
  go_loopw [5, 6] (fun u5 u6 wr => ∃ i : Nat, i <= T /\ u6 = .int .i64 (i : Int) /\ Hid (wr.ownsRow w.heap.size 2 1 u5 (haveT Z k i).length (lgVs (haveT Z k i))) /\ Hid (Below w.heap.size w wr)) (fun _ u6 _ => T - (intOf u6).toNat)
  case atStart => exact ⟨0, by omega, rfl, HO, HB⟩
  case round =>
    clear HO HB
    obtain ⟨i, hi, rfl, HO, HB⟩ := hrel
    by_cases hlt : i < T
    · obtain ⟨ad, e, _, hcs⟩ := HP.out.below HB.out i hlt
      subst e
      obtain ⟨hc0, hL⟩ := hcs k hk
      obtain ⟨A2, c2, hu, hlc, hcm2, _, hno, hcl⟩ := hL
      rw [hu] at hc0
      have hc1 := hc0
      rw [<- add_of_add] at hc1
      have hll := hlen i hi
      have hz := hl i hlt
      have HE : Hid (haveT Z k (i + 1) = haveT Z k i ++ Z i k) := hidp rfl
      have HCL := hidp hcl
      obtain ⟨n1, hn1⟩ : ∃ n1, (Z i k).length = n1 := ⟨_, rfl⟩
      obtain ⟨n0, hn0⟩ : ∃ n0, (haveT Z k i).length = n0 := ⟨_, rfl⟩
      have HN1 := hidp hn1
      have HN0 := hidp hn0
      rw [hn0] at HO hll
      rw [hn1] at hc0 hc1 hlc hz
      obtain ⟨A1, c1, hu1⟩ := own_slice HO.out
      subst hu1
      have hcc := own_caps_any HO.out
      clear hcl hu hn1 hn0
      cases A2 with
      | none =>
        obtain ⟨hz1', hz2'⟩ := hno rfl
        have hn10 : n1 = 0 := by rw [<- HN1.out, hz1']; rfl
        subst hn10
        subst hz2'
        go_wp2_with (first
          | (at_builtin
             refine wpList_append_none rfl _ _ 58 rfl 2 i0 Tryz.underlying58 hi0 A1 n0 c1 0 hcc.1 rfl rfl ?_)
          | fail)
        go_roundw
        case rel => exact ⟨i + 1, by omega, by go_num, by rw [HE.out, hz1', List.append_nil, HN0.out]; exact HO, HB⟩
        case measure => simp [intOf]; omega
      | some ad2 =>
        go_wp2_with (first
          | (at_builtin
             refine wpList_append_own _ rfl _ _ 58 rfl w.heap.size 2 i0 (.int .i64 0) 1 8 Tryz.underlying58 hi0 hz0 hz1 hz2 rfl (by decide) _ _ _ rfl HO.out ad2 n1 c2 (lgVs (Z i k)) rfl ?c0 ?c1 ?c2 ?c3 ?c4 ?c5 ?_
             case c0 => rw [lgVs_len, HN1.out]; omega
             case c1 => intro j y hy; obtain ⟨z, hz, rfl⟩ := lgVs_get hy; exact (HCL.out ad2 rfl).2 j z hz
             case c2 => intro y hy; obtain ⟨j, hj⟩ := List.mem_iff_getElem?.1 hy; obtain ⟨z, _, rfl⟩ := lgVs_get hj; simp [Value.oneCell']
             case c3 => unfold maxLen; omega
             case c4 => omega
             case c5 => have := HB.out.size; omega
             intro u7 w7 hown7 hgrow hat7
             have HO7 : Hid (w7.ownsRow w.heap.size 2 1 u7 (haveT Z k (i + 1)).length (lgVs (haveT Z k (i + 1)))) := hidp (by rw [HE.out, List.length_append, HN0.out, HN1.out]; unfold lgVs at hown7 ⊢; rw [List.map_append]; exact hown7)
             have HB7 := hidp (HB.out.grown hgrow (by have := HB.out.size; omega) (fun j hj => (HO.out.lt j hj).1))
             clear hown7 hgrow hat7)
          | fail)
        go_roundw
        case rel => exact ⟨i + 1, by omega, by go_num, HO7, HB7⟩
        case measure => simp [intOf]; omega
    · obtain rfl : i = T := by omega
      go_wp2
      go_ret
      exact ⟨_, rfl, HO.out, HB.out⟩
end
end Go.Proofs.YtlpcdfcghgapkaaGreat

namespace Go.Proofs.YtlpcdfcghgapkaaGreat
open Go.ChangeShapes Go.WideShapes Go.ChangeAt Go.RowKit Go.Maps
set_option linter.unusedVariables false
set_option linter.unusedSimpArgs false
section
theorem longs_of_own {w : World} {base : Nat} {u : Value} {l : List Int} (h : w.ownsRow base 2 1 u l.length (lgVs l)) (hb : ∀ z ∈ l, -9223372036854775808 <= z /\ z <= 9223372036854775807) : LongsAt w u l := by
 have hx : ∀ {A : Option Addr} {c : Nat}, u = .slice A l.length c -> A ≠ none -> True := fun _ _ => trivial
 rcases h.2 with ⟨hu, hn⟩ | ⟨g, cap, cur, hu, hbs, hg, hnc, hcm, hr⟩
 ·have hl : l = [] := List.length_eq_zero_iff.1 hn
  subst hl
  exact ⟨none, 0, hu, Nat.le_refl _, Nat.zero_le _, hb, fun _ => ⟨rfl, rfl⟩, fun ad e => by cases e⟩
 ·refine ⟨some ⟨g, 0, none⟩, cap, hu, hnc, hcm, hb, (fun e => by cases e), fun ad e => ?_⟩
  injection e with e
  subst e
  refine ⟨fun _ => (h.lt g (by rw [hu]; rfl)).2, fun i z hz => ?_⟩
  have hi : i < l.length := by
   rcases Nat.lt_or_ge i l.length with h1 | h1
   ·exact h1
   ·rw [List.getElem?_eq_none h1] at hz; cases hz
  subst hu
  have h1 := h.cellAt i (by omega)
  rw [show (⟨g, 0, none⟩ : Addr).add i = ⟨g, i, none⟩ by unfold Addr.add; by_cases h0 : i = 0 <;> simp [h0]]
  rw [h1]
  unfold lgVs
  rw [List.getElem?_map, hz]
  rfl
end
end Go.Proofs.YtlpcdfcghgapkaaGreat

namespace Go.Proofs.YtlpcdfcghgapkaaGreat
open Go.ChangeShapes Go.WideShapes Go.ChangeAt Go.RowKit
set_option linter.unusedVariables false
set_option linter.unusedSimpArgs false
section
def pkA (parts : List (Int × Int × Int)) (z : Int) : List Int := (parts.filter fun x => decide (x.1 = 4) && decide (x.2.2 = z)).map fun x => x.2.1
structure FitsP (parts : List (Int × Int × Int)) (sz : Nat -> Int) (T : Nat) (Z : Nat -> Nat -> List Int) : Prop where
 few : ∀ k, k < 9 -> ∀ t, t < T -> (Z t k).length <= 4
 perm : ∀ k, k < 9 -> (haveT Z k T).Perm (pkA parts (sz k))
theorem perm_of_once : ∀ {ps l : List Int}, ps.Nodup -> (∀ a ∈ ps, l.count a = 1) -> ∃ r, l.Perm (ps ++ r)
 | [], l, _, _ => ⟨l, List.Perm.refl _⟩
 | a :: ps, l, hn, h => by
  have hn' := List.nodup_cons.1 hn
  have ha : a ∈ l := List.count_pos_iff.1 (by rw [h a (List.mem_cons_self ..)]; omega)
  have e1 : l.Perm (a :: l.erase a) := List.perm_cons_erase ha
  obtain ⟨r, hr⟩ := perm_of_once (ps := ps) (l := l.erase a) hn'.2 (fun b hb => by
   have hne : b ≠ a := fun e => hn'.1 (e ▸ hb)
   have h1 := h b (List.mem_cons_of_mem _ hb)
   rw [e1.count_eq b, List.count_cons] at h1
   simpa [Ne.symm hne] using h1)
  exact ⟨r, e1.trans (hr.cons a)⟩
theorem once_len {ps l : List Int} (hn : ps.Nodup) (h : ∀ a ∈ ps, l.count a = 1) : ps.length <= l.length /\ (l.length = ps.length -> l.Perm ps) := by
 obtain ⟨r, hr⟩ := perm_of_once hn h
 have h1 := hr.length_eq
 rw [List.length_append] at h1
 refine ⟨by omega, fun e => ?_⟩
 have h2 : r = [] := List.length_eq_zero_iff.1 (by omega)
 rw [h2, List.append_nil] at hr
 exact hr
def overN (parts : List (Int × Int × Int)) (sz : Nat -> Int) (T : Nat) (Z : Nat -> Nat -> List Int) : Nat -> Int
 | 0 => 0
 | j + 1 => overN parts sz T Z j + ((haveT Z j T).length : Int) - ((pkA parts (sz j)).length : Int)
def OnceP (parts : List (Int × Int × Int)) (sz : Nat -> Int) (T : Nat) (Z : Nat -> Nat -> List Int) (k : Nat) : Prop :=
 (∀ t, t < T -> (Z t k).length <= 4) /\ ∀ a ∈ pkA parts (sz k), (haveT Z k T).count a = 1
section
variable {parts : List (Int × Int × Int)} {sz : Nat -> Int} {T : Nat} {Z : Nat -> Nat -> List Int}
theorem overN_pos (hn : ∀ k, k < 9 -> (pkA parts (sz k)).Nodup) (h : ∀ k, k < 9 -> OnceP parts sz T Z k) : ∀ j, j <= 9 -> 0 <= overN parts sz T Z j /\ (overN parts sz T Z j = 0 -> ∀ k, k < j -> (haveT Z k T).Perm (pkA parts (sz k)))
 | 0, _ => ⟨Int.le_refl _, fun _ k hk => absurd hk (Nat.not_lt_zero _)⟩
 | j + 1, hj => by
  obtain ⟨h1, h2⟩ := overN_pos hn h j (by omega)
  obtain ⟨h3, h4⟩ := once_len (hn j (by omega)) (h j (by omega)).2
  refine ⟨by unfold overN; omega, fun e k hk => ?_⟩
  unfold overN at e
  by_cases hkj : k = j
  ·subst hkj; exact h4 (by omega)
  ·exact h2 (by omega) k (by omega)
theorem fits_iff (hn : ∀ k, k < 9 -> (pkA parts (sz k)).Nodup) : ((∀ k, k < 9 -> OnceP parts sz T Z k) /\ overN parts sz T Z 9 = 0) ↔ FitsP parts sz T Z := by
 constructor
 ·intro ⟨h, h0⟩
  exact ⟨fun k hk => (h k hk).1, (overN_pos hn h 9 (Nat.le_refl _)).2 h0⟩
 ·intro h
  have h1 : ∀ k, k < 9 -> OnceP parts sz T Z k := fun k hk => ⟨h.few k hk, fun a ha => by
   rw [(h.perm k hk).count_eq a]
   rw [(hn k hk).count, if_pos ha]⟩
  refine ⟨h1, ?_⟩
  have : ∀ j, j <= 9 -> overN parts sz T Z j = 0 := fun j => by
   induction j with
   | zero => intro _; rfl
   | succ j ih =>
    intro hj
    unfold overN
    rw [ih (by omega), (h.perm j (by omega)).length_eq]
    omega
  exact this 9 (Nat.le_refl _)
end
theorem contig_low : ∀ {l : List (Int × Int × Int)} {a b : Int}, Contig a l b -> (∀ x ∈ l, a <= x.2.1) /\ (l.map fun x => x.2.1).Nodup
 | [], a, b, h => ⟨fun x hx => by simp at hx, List.nodup_nil⟩
 | x :: l, a, b, h => by
  obtain ⟨⟨h1, h2, _, _⟩, h3⟩ := h
  obtain ⟨g1, g2⟩ := contig_low h3
  refine ⟨fun y hy => ?_, ?_⟩
  ·rcases List.mem_cons.1 hy with rfl | hy
   ·omega
   ·have := g1 y hy; omega
  ·rw [List.map_cons]
   refine List.nodup_cons.2 ⟨fun hm => ?_, g2⟩
   obtain ⟨y, hy, e⟩ := List.mem_map.1 hm
   have := g1 y hy
   omega
theorem pkA_nodup {l : List (Int × Int × Int)} {a b : Int} (h : Contig a l b) (z : Int) : (pkA l z).Nodup := by
 unfold pkA
 exact (contig_low h).2.sublist (List.filter_sublist.map _)
end
end Go.Proofs.YtlpcdfcghgapkaaGreat

namespace Go.Proofs.YtlpcdfcghgapkaaGreat
open Go.ChangeShapes Go.WideShapes Go.ChangeAt Go.RowKit Go.Maps
set_option linter.unusedVariables false
set_option linter.unusedSimpArgs false
set_option maxRecDepth 100000
section
theorem pkA_take {parts : List (Int × Int × Int)} {i : Nat} {x : Int × Int × Int} (z : Int) (hx : parts[i]? = some x) : pkA (parts.take (i + 1)) z = pkA (parts.take i) z ++ if x.1 = 4 /\ x.2.2 = z then [x.2.1] else [] := by
 rw [List.take_add_one, hx]
 unfold pkA
 show List.map _ (List.filter _ (parts.take i ++ [x])) = _
 rw [List.filter_append, List.map_append]
 congr 1
 by_cases h : x.1 = 4 /\ x.2.2 = z
 ·rw [if_pos h, List.filter_cons_of_pos (by simp [h.1, h.2])]; rfl
 ·rw [if_neg h, List.filter_cons_of_neg (by simp only [Bool.and_eq_true, decide_eq_true_eq]; exact h)]; rfl
theorem haveT_len {Z : Nat -> Nat -> List Int} {k B : Nat} : ∀ {T : Nat}, (∀ t, t < T -> (Z t k).length <= B) -> (haveT Z k T).length <= T * B
 | 0, _ => Nat.zero_le _
 | T + 1, h => by
  unfold haveT
  rw [List.length_append, Nat.add_mul, Nat.one_mul]
  have := haveT_len (T := T) (fun t ht => h t (by omega))
  have := h T (by omega)
  omega
theorem haveT_mem {Z : Nat -> Nat -> List Int} {k : Nat} {a : Int} : ∀ {T : Nat}, a ∈ haveT Z k T -> ∃ t, t < T /\ a ∈ Z t k
 | 0, h => by simp [haveT] at h
 | T + 1, h => by
  unfold haveT at h
  rcases List.mem_append.1 h with h | h
  ·obtain ⟨t, h1, h2⟩ := haveT_mem h
   exact ⟨t, by omega, h2⟩
  ·exact ⟨T, by omega, h⟩
theorem mem_pkA_at {l : List (Int × Int × Int)} {i : Nat} {xk xa xz z : Int} (hx : l[i]? = some (xk, xa, xz)) (h4 : xk = 4) (hz : xz = z) : xa ∈ pkA l z := by
 unfold pkA
 exact List.mem_map.2 ⟨_, List.mem_filter.2 ⟨List.mem_of_getElem? hx, by simp [h4, hz]⟩, rfl⟩
theorem pkA_len (l : List (Int × Int × Int)) (z : Int) : (pkA l z).length <= l.length := by unfold pkA; rw [List.length_map]; exact List.length_filter_le _ _
theorem overN_bound {parts : List (Int × Int × Int)} {sz : Nat -> Int} {T B : Nat} {Z : Nat -> Nat -> List Int} {m : Nat} (h : ∀ k, k < m -> (haveT Z k T).length <= B) : ∀ j : Nat, j <= m -> -((j : Int) * parts.length) <= overN parts sz T Z j /\ overN parts sz T Z j <= (j : Int) * B
 | 0, _ => by unfold overN; simp
 | j + 1, hj => by
  obtain ⟨h1, h2⟩ := overN_bound (sz := sz) h j (by omega)
  have h3 := h j (by omega)
  have h4 := pkA_len parts (sz j)
  unfold overN
  have e1 : ((j + 1 : Nat) : Int) * (parts.length : Int) = (j : Int) * parts.length + parts.length := by push_cast; rw [Int.add_mul]; omega
  have e2 : ((j + 1 : Nat) : Int) * (B : Int) = (j : Int) * B + B := by push_cast; rw [Int.add_mul]; omega
  rw [e1, e2]
  generalize (j : Int) * (parts.length : Int) = x1 at *
  generalize (j : Int) * (B : Int) = x2 at *
  omega
set_option maxHeartbeats 12800000 in
theorem rFits_heap {H : AuH} {n c : Nat} (HV : HeapV H n c) (ad : Addr) (m : Nat) (A2 : Option Addr) (c2 : Nat) (U : Nat -> Nat -> Sl) (Z : Nat -> Nat -> List Int) (hTc : H.t <= c2) (hc2 : c2 <= maxLen)
  (sz : Nat -> Int) (hsz : ∀ k : Nat, k < 9 -> ((sizeN (H.s : Int) (k : Int) : Nat) : Int) = sz k) (hnd : ∀ k, k < 9 -> (pkA H.parts (sz k)).Nodup) (b : Bool) (hb : b = true ↔ FitsP H.parts sz H.t Z)
  (w : World) (hv : IsVals w ad n H.V) (hX : XCheckIs w H.t H.p H.s (some ad) n c m true) (hP : PksAt w A2 H.t U Z) :
  Calls Tryz.prog 11 #[.agg #[.int .i64 (H.t : Int), .int .i64 (H.p : Int), .int .i64 (H.s : Int)], .slice (some ad) n c, .slice A2 H.t c2] w fun e w' => e = .returned (.bool b) /\ Below w.heap.size w w' := by
 have HNO : Hid (∀ k, k < 9 -> ¬ OnceP H.parts sz H.t Z k -> b = false) := hidp (fun k hk h => by
  cases b with
  | false => rfl
  | true => exact absurd (((fits_iff hnd).2 (hb.1 rfl)).1 k hk) h)
 have HYES : Hid ((∀ k, k < 9 -> OnceP H.parts sz H.t Z k) -> b = (overN H.parts sz H.t Z 9 == 0)) := hidp (fun h => by
  by_cases h0 : overN H.parts sz H.t Z 9 = 0
  ·rw [hb.2 ((fits_iff hnd).1 ⟨h, h0⟩), h0]; rfl
  ·cases b with
   | false => symm; simpa using h0
   | true => exact absurd ((fits_iff hnd).2 (hb.1 rfl)).2 h0)
 have HC := hidp (Held.new w 23 #[.int .i64 (H.t : Int), .int .i64 (H.p : Int), .int .i64 (H.s : Int)])
 have HB := hidp (Bnew (B0 w) (.cells #[.int .i64 (H.t : Int), .int .i64 (H.p : Int), .int .i64 (H.s : Int)] 23))
 have HXX := hidp hX
 have HVL := hidp hv
 have HPP := hidp hP
 have HSZA := hidp hsz
 obtain ⟨l, hpl⟩ : ∃ l, H.parts = l := ⟨_, rfl⟩
 obtain ⟨nl, hnl⟩ : ∃ nl, l.length = nl := ⟨_, rfl⟩
 have hnum := HV.nums
 have hT16 : H.t <= 16 := by omega
 have hnb : nl <= 60000 := by
  have h2 : H.parts.length <= H.p * 33 := AuH.parts_len H.p
  rw [hpl, hnl] at h2
  omega
 have HPL := hidp hpl
 have HNL := hidp hnl
 rw [hpl] at HNO HYES
 have t0 : ((H.t : Int) != (H.t : Int)) = false := by simp
 have s0 : -9223372036854775808 <= (H.s : Int) := by omega
 clear hb hX hv hP hsz hnl hpl hnd
 obtain ⟨x0, x1, x2⟩ := HC.out.three
 go_enter Tryz.func11, Tryz.ntmps11
 go_wp2_with fail
 refine (xSound_c H.t H.p H.s (some ad) n c m true _ (HXX.out.grown HB.out)).mono ?_
 rintro e w2 ⟨rfl, hb⟩
 replace HC := hidp (HC.out.keep hb)
 replace HB := hidp (Bgo HB.out hb)
 clear hb x0 x1 x2
 obtain ⟨x0, x1, x2⟩ := HC.out.three
 go_wp2_with fail
 refine (xPartsTop_yes HV ad m _ (HVL.out.below HB.out) (HXX.out.grown HB.out)).mono ?_
 rintro e w3 ⟨u3, rfl, ho, hb⟩
 rw [HPL.out, HNL.out] at ho
 obtain ⟨A1, c1, hu⟩ := own_slice ho
 subst hu
 have hcc := own_caps_any ho
 generalize w2.heap.size = bs at ho
 have HO := hidp ho
 replace HC := hidp (HC.out.keep hb)
 replace HB := hidp (Bgo HB.out hb)
 clear ho hb x0 x1 x2
 have HIB : Hid (∀ k, k < 9 -> ∀ z ∈ haveT Z k H.t, -9223372036854775808 <= z /\ z <= 9223372036854775807) := hidp (fun k hk z hz => by
  obtain ⟨t, ht, hz⟩ := haveT_mem hz
  obtain ⟨_, _, _, hcs⟩ := HPP.out t ht
  obtain ⟨_, _, _, _, _, hb, _⟩ := (hcs k hk).2
  exact hb z hz)
 go_wp2_with fail
 go_loopw [8, 9] (fun u8 u9 wr => ∃ (k : Nat) (ov : Int), k <= 9 /\ u9 = .int .i64 (k : Int) /\ u8 = .int .i64 ov /\ Hid (overN l sz H.t Z k = ov) /\ Hid (∀ j, j < k -> OnceP l sz H.t Z j) /\ Hid (Held wr w.heap.size 23 #[.int .i64 (H.t : Int), .int .i64 (H.p : Int), .int .i64 (H.s : Int)]) /\ Hid (wr.ownsRow bs 63 3 (.slice A1 nl c1) nl (ptVs l)) /\ Hid (Below w.heap.size w wr)) (fun _ u9 _ => 9 - (intOf u9).toNat)
 case atStart => exact ⟨0, 0, by omega, rfl, rfl, hidp rfl, hidp (fun j hj => absurd hj (Nat.not_lt_zero _)), HC, HO, HB⟩
 case round =>
  clear HC HO HB
  obtain ⟨k, ov, hk, rfl, rfl, HOV, HON, HC, HO, HB⟩ := hrel
  by_cases hk9 : k < 9
  ·go_wp2_with fail
   go_loopw [10] (fun u10 wr2 => ∃ t : Nat, t <= H.t /\ u10 = .int .i64 (t : Int) /\ wr2 = wr /\ Hid (∀ t', t' < t -> (Z t' k).length <= 4)) (fun u10 _ => H.t - (intOf u10).toNat)
   case atStart => exact ⟨0, by omega, rfl, rfl, hidp (fun j hj => absurd hj (Nat.not_lt_zero _))⟩
   case round =>
    obtain ⟨t, ht, rfl, rfl, HF4⟩ := hrel
    by_cases htT : t < H.t
    ·obtain ⟨ad2, e2, _, hcs⟩ := HPP.out.below HB.out t htT
     obtain ⟨hc0, hL⟩ := hcs k hk9
     obtain ⟨A3, c3, hu, hlc, hcm2, _, _, _⟩ := hL
     rw [hu] at hc0
     have hc1 := hc0
     rw [<- add_of_add] at hc1
     obtain ⟨n1, hn1⟩ : ∃ n1, (Z t k).length = n1 := ⟨_, rfl⟩
     have HN1 := hidp hn1
     have hz : (Z t k).length <= 9223372036854775807 := Nat.le_trans hlc (by unfold maxLen at hcm2; omega)
     rw [hn1] at hc0 hc1 hlc hz
     clear hu hn1 hcs
     by_cases h4 : n1 <= 4
     ·have t1 : decide ((4 : Int) < (n1 : Int)) = false := decide_eq_false (by omega)
      have t1n : decide (4 < n1) = false := decide_eq_false (by omega)
      subst e2
      go_wp2_with fail
      go_roundw
      case rel => exact ⟨t + 1, by omega, by go_num, by first | rfl | trivial, hidp (fun t' h' => by
       by_cases e : t' = t
       ·subst e; rw [HN1.out]; exact h4
       ·exact HF4.out t' (by omega))⟩
      case measure => simp [intOf]; omega
     ·have t1 : decide ((4 : Int) < (n1 : Int)) = true := decide_eq_true (by omega)
      have t1n : decide (4 < n1) = true := decide_eq_true (by omega)
      have hf := HNO.out k hk9 (fun h => h4 (by rw [<- HN1.out]; exact h.1 t htT))
      subst hf
      subst e2
      go_wp2_with fail
      go_ret
      exact ⟨rfl, HB.out⟩
    ·obtain rfl : t = H.t := by omega
     go_wp2_with fail
     refine (rAll_c A2 H.t c2 k U Z (by omega) hk9 (fun t' h' => Nat.le_trans (HF4.out t' h') (by omega)) hTc hc2 _ (HPP.out.below HB.out)).mono ?_
     rintro e w4 ⟨u4, rfl, ho, hb⟩
     obtain ⟨nh, hnh⟩ : ∃ nh, (haveT Z k H.t).length = nh := ⟨_, rfl⟩
     have hhl := haveT_len (Z := Z) (k := k) (B := 1000) (T := H.t) (fun t' ht' => Nat.le_trans (HF4.out t' ht') (by omega))
     have HLH := hidp (longs_of_own ho (HIB.out k hk9))
     rw [hnh] at ho hhl
     obtain ⟨A4, c4, hu⟩ := own_slice ho
     subst hu
     have hcc4 := own_caps_any ho
     have HV1 := hidp ho
     have HNH := hidp hnh
     replace HC := hidp (HC.out.keep hb)
     replace HO := hidp (own_below HO.out hb)
     replace HB := hidp (Bgo HB.out hb)
     have hbd := overN_bound (parts := l) (sz := sz) (T := H.t) (B := 16000) (Z := Z) (m := k) (fun j hj => by
      have h5 := haveT_len (Z := Z) (k := j) (B := 1000) (T := H.t) (fun t ht => Nat.le_trans ((HON.out j hj).1 t ht) (by omega))
      omega) k (Nat.le_refl _)
     rw [HNL.out, HOV.out] at hbd
     have hbd1 : -540000 <= ov /\ ov <= 144000 := by
      have g1 : (k : Int) * (nl : Int) <= 9 * 60000 := by
       have : k * nl <= 9 * 60000 := Nat.mul_le_mul hk hnb
       omega
      omega
     have v1 : IntKind.i64.wrap (ov + (nh : Int)) = ov + (nh : Int) := i64_same (by omega) (by omega)
     obtain ⟨zk, hzk⟩ : ∃ zk, sz k = zk := ⟨_, rfl⟩
     have HSZ : Hid (((sizeN (H.s : Int) (k : Int) : Nat) : Int) = zk) := hidp (by rw [HSZA.out k hk9, hzk])
     have HZK := hidp hzk
     clear ho hb hnh hbd hzk
     go_wp2_with fail
     go_loopw [8, 12] (fun u8 u12 wr => ∃ (i : Nat) (v : Int), i <= nl /\ u12 = .int .i64 (i : Int) /\ u8 = .int .i64 v /\ Hid (v = ov + (nh : Int) - ((pkA (l.take i) zk).length : Int)) /\ Hid (∀ a ∈ pkA (l.take i) zk, (haveT Z k H.t).count a = 1) /\ Hid (Held wr w.heap.size 23 #[.int .i64 (H.t : Int), .int .i64 (H.p : Int), .int .i64 (H.s : Int)]) /\ Hid (wr.ownsRow bs 63 3 (.slice A1 nl c1) nl (ptVs l)) /\ Hid (LongsAt wr (.slice A4 nh c4) (haveT Z k H.t)) /\ Hid (Below w.heap.size w wr)) (fun _ u12 _ => nl - (intOf u12).toNat)
     case atStart => exact ⟨0, ov + (nh : Int), by omega, rfl, rfl, hidp (by simp [pkA]), hidp (fun a ha => by simp [pkA] at ha), HC, HO, HLH, HB⟩
     case round =>
      clear HC HO HB HLH HV1
      obtain ⟨i, v, hi, rfl, rfl, HV0, HQ, HC, HO, HLH, HB⟩ := hrel
      by_cases hlt : i < nl
      ·obtain ⟨x, hx⟩ : ∃ x, l[i]? = some x := ⟨_, List.getElem?_eq_getElem (by rw [HNL.out]; exact hlt)⟩
       obtain ⟨xk, xa, xz⟩ := x
       obtain ⟨g, c9, hg, _⟩ := HO.out.form (by omega)
       injection hg with hg3 _ hg4
       subst hg3
       clear hg4
       have HXC := hidp (fun (w' : World) (ho : w'.ownsRow bs 63 3 (.slice (some ⟨g, 0, none⟩) nl c1) nl (ptVs l)) => (show w'.cell? ⟨g, i * 3, none⟩ = some (.int .i64 xk) /\ w'.cell? ⟨g, i * 3 + 1, none⟩ = some (.int .i64 xa) /\ w'.cell? ⟨g, i * 3 + 2, none⟩ = some (.int .i64 xz) from
        ⟨by rw [ho.cellAt (i * 3) (by omega)]; exact (ptVs_get l i _ hx).1, by rw [ho.cellAt (i * 3 + 1) (by omega)]; exact (ptVs_get l i _ hx).2.1, by rw [ho.cellAt (i * 3 + 2) (by omega)]; exact (ptVs_get l i _ hx).2.2⟩))
       have HPK := hidp (pkA_take zk hx)
       have hpl := pkA_len (l.take i) zk
       rw [List.length_take] at hpl
       have hv0 := HV0.out
       have hvb : -700000 <= v /\ v <= 700000 := by omega
       have HME : Hid (xk = 4 -> xz = zk -> xa ∈ pkA l zk) := hidp (fun e1 e2 => mem_pkA_at hx e1 e2)
       obtain ⟨cn, hcn⟩ : ∃ cn, (haveT Z k H.t).count xa = cn := ⟨_, rfl⟩
       have HCT := hidp hcn
       have hcb : cn <= nh := by rw [<- hcn, <- HNH.out]; exact List.count_le_length
       clear hx hv0 hpl hcn
       obtain ⟨x0, x1, x2⟩ := HC.out.three
       by_cases h4 : xk = 4
       ·have t4 : (xk == 4) = true := by simpa using h4
        by_cases h5 : xz = zk
        ·have t5 : (xz == zk) = true := by simpa using h5
         rw [if_pos ⟨h4, h5⟩] at HPK
         have HMM := hidp (HME.out h4 h5)
         clear h4 h5
         by_cases h6 : cn = 1
         ·have t6 : ((cn : Int) != 1) = false := by rw [bne_eq_false_iff_eq]; omega
          have t6n : (cn != 1) = false := by rw [bne_eq_false_iff_eq]; exact h6
          have v2 : IntKind.i64.wrap (v - 1) = v - 1 := i64_same (by omega) (by omega)
          have HC1 : Hid ((haveT Z k H.t).count xa = 1) := hidp (by rw [HCT.out]; exact h6)
          clear h6
          go_wp2_with fail
          replace HC := hidp (HC.out.keep (Bdrew (B0 _)))
          replace HO := hidp (own_below HO.out (Bdrew (B0 _)))
          replace HLH := hidp (HLH.out.below (Bdrew (B0 _)))
          replace HB := hidp (Bgo HB.out (Bdrew (B0 _)))
          refine wp_region_held_drew (S := (fun w' => (w'.cell? ⟨w.heap.size, 0, none⟩ = some (.int .i64 (H.t : Int)) /\ w'.cell? ⟨w.heap.size, 1, none⟩ = some (.int .i64 (H.p : Int)) /\ w'.cell? ⟨w.heap.size, 2, none⟩ = some (.int .i64 (H.s : Int))) /\ w'.cell? ⟨g, i * 3, none⟩ = some (.int .i64 xk) /\ w'.cell? ⟨g, i * 3 + 1, none⟩ = some (.int .i64 xa) /\ w'.cell? ⟨g, i * 3 + 2, none⟩ = some (.int .i64 xz))) (by kernel_rfl) ?_ (fun hHeld => ?_)
          ·(try dsimp only)
           first | exact ⟨HC.out.three, HXC.out _ HO.out⟩ | exact hHeld
          refine tkz 0 ?_
          refine tkz 1 ?_
          refine tkz 2 ?_
          refine tkz 3 ?_
          refine tkz 4 ?_
          refine tkz 5 ?_
          refine tkz 6 ?_
          refine tkz 7 ?_
          refine tkz 8 ?_
          refine tkz 9 ?_
          refine tkz 10 ?_
          refine tkz 11 ?_
          refine tkz 12 ?_
          refine tkz 13 ?_
          refine tkz 14 ?_
          refine rdz 15 fun K hK => ?_
          go_simp
          refine (r5Size_c (H.s : Int) (k : Int) (by omega) (by omega) _).mono ?_
          rintro e w9 ⟨rfl, hb⟩
          rw [HSZ.out]
          replace HC := hidp (HC.out.keep hb)
          replace HO := hidp (own_below HO.out hb)
          replace HLH := hidp (HLH.out.below hb)
          replace HB := hidp (Bgo HB.out hb)
          clear hb
          refine hK.out _ _ ?_ (fun hHeld => ?_)
          ·(try dsimp only)
           first | exact ⟨HC.out.three, HXC.out _ HO.out⟩ | exact hHeld
          clear hK K
          (try simp only [Act.put, gA, gB, gC, sA, sB, sC])
          refine tkz 16 ?_
          refine tkz 17 ?_
          refine dnz ?_
          clear x0 x1 x2
          obtain ⟨x0, x1, x2⟩ := HC.out.three
          obtain ⟨y0, y1, y2⟩ := HXC.out _ HO.out
          go_wp2_with fail
          refine (rOften_c (.slice A4 nh c4) (haveT Z k H.t) xa nh HNH.out (by omega) _ HLH.out).mono ?_
          rintro e w8 ⟨rfl, rfl⟩
          rw [HCT.out]
          go_wp2_with fail
          go_roundw
          case rel => exact ⟨i + 1, v - 1, by omega, by go_num, rfl, hidp (by rw [HPK.out, List.length_append, HV0.out]; simp only [List.length_cons, List.length_nil]; omega), hidp (fun a ha => by
           rw [HPK.out] at ha
           rcases List.mem_append.1 ha with ha | ha
           ·exact HQ.out a ha
           ·rw [List.mem_singleton] at ha; rw [ha]; exact HC1.out), HC, HO, HLH, HB⟩
          case measure => simp [intOf]; omega
         ·have t6 : ((cn : Int) != 1) = true := by rw [bne_iff_ne]; omega
          have t6n : (cn != 1) = true := by rw [bne_iff_ne]; exact h6
          have hf := HNO.out k hk9 (fun h => h6 (by rw [<- HCT.out]; exact h.2 xa (by rw [HZK.out]; exact HMM.out)))
          subst hf
          clear h6
          go_wp2_with fail
          replace HC := hidp (HC.out.keep (Bdrew (B0 _)))
          replace HO := hidp (own_below HO.out (Bdrew (B0 _)))
          replace HLH := hidp (HLH.out.below (Bdrew (B0 _)))
          replace HB := hidp (Bgo HB.out (Bdrew (B0 _)))
          refine wp_region_held_drew (S := (fun w' => (w'.cell? ⟨w.heap.size, 0, none⟩ = some (.int .i64 (H.t : Int)) /\ w'.cell? ⟨w.heap.size, 1, none⟩ = some (.int .i64 (H.p : Int)) /\ w'.cell? ⟨w.heap.size, 2, none⟩ = some (.int .i64 (H.s : Int))) /\ w'.cell? ⟨g, i * 3, none⟩ = some (.int .i64 xk) /\ w'.cell? ⟨g, i * 3 + 1, none⟩ = some (.int .i64 xa) /\ w'.cell? ⟨g, i * 3 + 2, none⟩ = some (.int .i64 xz))) (by kernel_rfl) ?_ (fun hHeld => ?_)
          ·(try dsimp only)
           first | exact ⟨HC.out.three, HXC.out _ HO.out⟩ | exact hHeld
          refine tkz 0 ?_
          refine tkz 1 ?_
          refine tkz 2 ?_
          refine tkz 3 ?_
          refine tkz 4 ?_
          refine tkz 5 ?_
          refine tkz 6 ?_
          refine tkz 7 ?_
          refine tkz 8 ?_
          refine tkz 9 ?_
          refine tkz 10 ?_
          refine tkz 11 ?_
          refine tkz 12 ?_
          refine tkz 13 ?_
          refine tkz 14 ?_
          refine rdz 15 fun K hK => ?_
          go_simp
          refine (r5Size_c (H.s : Int) (k : Int) (by omega) (by omega) _).mono ?_
          rintro e w9 ⟨rfl, hb⟩
          rw [HSZ.out]
          replace HC := hidp (HC.out.keep hb)
          replace HO := hidp (own_below HO.out hb)
          replace HLH := hidp (HLH.out.below hb)
          replace HB := hidp (Bgo HB.out hb)
          clear hb
          refine hK.out _ _ ?_ (fun hHeld => ?_)
          ·(try dsimp only)
           first | exact ⟨HC.out.three, HXC.out _ HO.out⟩ | exact hHeld
          clear hK K
          (try simp only [Act.put, gA, gB, gC, sA, sB, sC])
          refine tkz 16 ?_
          refine tkz 17 ?_
          refine dnz ?_
          clear x0 x1 x2
          obtain ⟨x0, x1, x2⟩ := HC.out.three
          obtain ⟨y0, y1, y2⟩ := HXC.out _ HO.out
          go_wp2_with fail
          refine (rOften_c (.slice A4 nh c4) (haveT Z k H.t) xa nh HNH.out (by omega) _ HLH.out).mono ?_
          rintro e w8 ⟨rfl, rfl⟩
          rw [HCT.out]
          go_wp2_with fail
          go_ret
          exact ⟨rfl, HB.out⟩
        ·have t5 : (xz == zk) = false := by simpa using h5
         rw [if_neg (fun h => h5 h.2), List.append_nil] at HPK
         clear h4 h5
         go_wp2_with fail
         replace HC := hidp (HC.out.keep (Bdrew (B0 _)))
         replace HO := hidp (own_below HO.out (Bdrew (B0 _)))
         replace HLH := hidp (HLH.out.below (Bdrew (B0 _)))
         replace HB := hidp (Bgo HB.out (Bdrew (B0 _)))
         refine wp_region_held_drew (S := (fun w' => (w'.cell? ⟨w.heap.size, 0, none⟩ = some (.int .i64 (H.t : Int)) /\ w'.cell? ⟨w.heap.size, 1, none⟩ = some (.int .i64 (H.p : Int)) /\ w'.cell? ⟨w.heap.size, 2, none⟩ = some (.int .i64 (H.s : Int))) /\ w'.cell? ⟨g, i * 3, none⟩ = some (.int .i64 xk) /\ w'.cell? ⟨g, i * 3 + 1, none⟩ = some (.int .i64 xa) /\ w'.cell? ⟨g, i * 3 + 2, none⟩ = some (.int .i64 xz))) (by kernel_rfl) ?_ (fun hHeld => ?_)
         ·(try dsimp only)
          first | exact ⟨HC.out.three, HXC.out _ HO.out⟩ | exact hHeld
         refine tkz 0 ?_
         refine tkz 1 ?_
         refine tkz 2 ?_
         refine tkz 3 ?_
         refine tkz 4 ?_
         refine tkz 5 ?_
         refine tkz 6 ?_
         refine tkz 7 ?_
         refine tkz 8 ?_
         refine tkz 9 ?_
         refine tkz 10 ?_
         refine tkz 11 ?_
         refine tkz 12 ?_
         refine tkz 13 ?_
         refine tkz 14 ?_
         refine rdz 15 fun K hK => ?_
         go_simp
         refine (r5Size_c (H.s : Int) (k : Int) (by omega) (by omega) _).mono ?_
         rintro e w9 ⟨rfl, hb⟩
         rw [HSZ.out]
         replace HC := hidp (HC.out.keep hb)
         replace HO := hidp (own_below HO.out hb)
         replace HLH := hidp (HLH.out.below hb)
         replace HB := hidp (Bgo HB.out hb)
         clear hb
         refine hK.out _ _ ?_ (fun hHeld => ?_)
         ·(try dsimp only)
          first | exact ⟨HC.out.three, HXC.out _ HO.out⟩ | exact hHeld
         clear hK K
         (try simp only [Act.put, gA, gB, gC, sA, sB, sC])
         refine tkz 16 ?_
         refine tkz 17 ?_
         refine dnz ?_
         go_wp2_with fail
         go_roundw
         case rel => exact ⟨i + 1, v, by omega, by go_num, rfl, hidp (by rw [HPK.out]; exact HV0.out), hidp (fun a ha => by rw [HPK.out] at ha; exact HQ.out a ha), HC, HO, HLH, HB⟩
         case measure => simp [intOf]; omega
       ·have t4 : (xk == 4) = false := by simpa using h4
        rw [if_neg (fun h => h4 h.1), List.append_nil] at HPK
        clear h4
        go_wp2_with fail
        replace HC := hidp (HC.out.keep (Bdrew (B0 _)))
        replace HO := hidp (own_below HO.out (Bdrew (B0 _)))
        replace HLH := hidp (HLH.out.below (Bdrew (B0 _)))
        replace HB := hidp (Bgo HB.out (Bdrew (B0 _)))
        refine wp_region_held_drew (S := (fun w' => (w'.cell? ⟨w.heap.size, 0, none⟩ = some (.int .i64 (H.t : Int)) /\ w'.cell? ⟨w.heap.size, 1, none⟩ = some (.int .i64 (H.p : Int)) /\ w'.cell? ⟨w.heap.size, 2, none⟩ = some (.int .i64 (H.s : Int))) /\ w'.cell? ⟨g, i * 3, none⟩ = some (.int .i64 xk) /\ w'.cell? ⟨g, i * 3 + 1, none⟩ = some (.int .i64 xa) /\ w'.cell? ⟨g, i * 3 + 2, none⟩ = some (.int .i64 xz))) (by kernel_rfl) ?_ (fun hHeld => ?_)
        ·(try dsimp only)
         first | exact ⟨HC.out.three, HXC.out _ HO.out⟩ | exact hHeld
        refine tkz 0 ?_
        refine tkz 1 ?_
        refine tkz 2 ?_
        refine tkz 3 ?_
        refine tkz 4 ?_
        refine tkz 5 ?_
        refine tkz 6 ?_
        refine skz 7 ?_
        refine skz 8 ?_
        refine skz 9 ?_
        refine skz 10 ?_
        refine skz 11 ?_
        refine skz 12 ?_
        refine skz 13 ?_
        refine skz 14 ?_
        refine skz 15 ?_
        refine skz 16 ?_
        refine tkz 17 ?_
        refine dnz ?_
        go_wp2_with fail
        go_roundw
        case rel => exact ⟨i + 1, v, by omega, by go_num, rfl, hidp (by rw [HPK.out]; exact HV0.out), hidp (fun a ha => by rw [HPK.out] at ha; exact HQ.out a ha), HC, HO, HLH, HB⟩
        case measure => simp [intOf]; omega
      ·obtain rfl : i = nl := by omega
       have HE : Hid (l.take i = l) := hidp (List.take_of_length_le (by rw [HNL.out]; exact Nat.le_refl _))
       go_wp2_with fail
       go_roundw
       case rel => exact ⟨k + 1, v, by omega, by go_num, rfl, hidp (by
        show overN l sz H.t Z k + ((haveT Z k H.t).length : Int) - ((pkA l (sz k)).length : Int) = v
        rw [HV0.out, HE.out, HOV.out, HNH.out, HZK.out]), hidp (fun j hj => by
        by_cases e : j = k
        ·subst e
         exact ⟨HF4.out, fun a ha => HQ.out a (by rw [HE.out]; rw [HZK.out] at ha; exact ha)⟩
        ·exact HON.out j (by omega)), HC, HO, HB⟩
       case measure => simp [intOf]; omega
  ·obtain rfl : k = 9 := by omega
   have hf := HYES.out HON.out
   rw [HOV.out] at hf
   subst hf
   go_wp2
   go_ret
   exact ⟨rfl, HB.out⟩
end
end Go.Proofs.YtlpcdfcghgapkaaGreat

namespace Go.Proofs.YtlpcdfcghgapkaaGreat
open Go.ChangeShapes Go.WideShapes Go.ChangeAt Go.RowKit
set_option linter.unusedVariables false
set_option linter.unusedSimpArgs false
set_option maxRecDepth 100000
section
def noPk : Array Value := #[.slice none 0 0, .slice none 0 0, .slice none 0 0, .slice none 0 0, .slice none 0 0, .slice none 0 0, .slice none 0 0, .slice none 0 0, .slice none 0 0]
theorem noPk_at : ∀ k, k < 9 -> noPk[k]! = .slice none 0 0
 | 0, _ => rfl
 | 1, _ => rfl
 | 2, _ => rfl
 | 3, _ => rfl
 | 4, _ => rfl
 | 5, _ => rfl
 | 6, _ => rfl
 | 7, _ => rfl
 | 8, _ => rfl
 | k + 9, h => by omega
theorem pk_info24 : (Tryz.prog.info? 60).map (fun i => (i.zero, i.size, i.bytes)) = some (some (.agg noPk), 9, 216) := by kernel_rfl
theorem make_pks (T : Nat) (hT : T <= 100000) (w : World) : (Instr.makeSlice 39 (.int .i64 (T : Int)) (.int .i64 (T : Int))).run Tryz.prog w = .ok (.slice (some ⟨w.heap.size, 0, none⟩) T T) (w.alloc (.cells (madeCells noPk (T * 9)) 60)) := by
 obtain ⟨i, hi⟩ : ∃ i, Tryz.prog.info? 60 = some i := Option.isSome_iff_exists.1 (by kernel_rfl)
 have h := pk_info24
 rw [hi] at h
 simp only [Option.map_some, Option.some.injEq, Prod.mk.injEq] at h
 obtain ⟨hz, hs, hb⟩ := h
 have := run_makeSlice (w := w) 39 60 i _ Tryz.underlying39 hi hz .i64 .i64 (T : Int) (T : Int) (by omega) (by omega) (by first | (rw [hs]; decide) | (rw [hs]; unfold maxLen; omega) | (rw [hs]; omega)) (by first | (rw [hb]; omega) | (rw [hb]; unfold maxLen; omega)) (by omega)
 rw [Int.toNat_natCast, hs] at this
 exact this
theorem pks_made (T : Nat) (w : World) : PksAt (w.alloc (.cells (madeCells noPk (T * 9)) 60)) (some ⟨w.heap.size, 0, none⟩) T (fun _ _ => ⟨none, 0, 0⟩) (fun _ _ => []) := by
 intro t ht
 refine ⟨_, rfl, by simp, fun k hk => ⟨?_, by unfold LongsAt; exact ⟨none, 0, rfl, Nat.le_refl _, Nat.zero_le _, fun z h => (by cases h), fun _ => ⟨rfl, rfl⟩, fun ad e => (by cases e)⟩⟩⟩
 have e : (⟨w.heap.size, 0, none⟩ : Addr).add (t * 9 + k) = ⟨w.heap.size, t * 9 + k, none⟩ := by
  unfold Addr.add
  by_cases hz : t * 9 + k = 0
  ·rw [if_pos hz, hz]
  ·rw [if_neg hz]; simp
 rw [e, (Held.new w 60 (madeCells noPk (T * 9))).cell (t * 9 + k)]
 have hl : t * 9 + k < T * 9 := by omega
 unfold madeCells
 rw [Array.getElem?_map, Array.getElem?_range, if_pos hl]
 show some (noPk[(t * 9 + k) % 9]!) = _
 rw [show (t * 9 + k) % 9 = k by omega, noPk_at k hk]
end
end Go.Proofs.YtlpcdfcghgapkaaGreat

namespace Go.Proofs.YtlpcdfcghgapkaaGreat
open Go.ChangeShapes Go.WideShapes Go.ChangeAt Go.RowKit Go.Maps
set_option linter.unusedVariables false
set_option linter.unusedSimpArgs false
section
section
variable {H H' : AuH} {q : Nat}
theorem slotKd_live (u v : Nat) (i : Nat) : (slotKd u v i = 2 ↔ v.testBit i = true) /\ (slotKd u v i = 4 ↔ u.testBit i = true /\ v.testBit i = false) := by
 unfold slotKd
 cases hv : v.testBit i <;> cases hu : u.testBit i <;> simp [hv, hu]
end
section
variable {H : AuH} {n c : Nat} {K : Nat -> Option Nat} {st : Vst} {L L' : Nat -> List Nat} {g : Nat -> Nat} {p u : Nat}
end
end
end Go.Proofs.YtlpcdfcghgapkaaGreat
