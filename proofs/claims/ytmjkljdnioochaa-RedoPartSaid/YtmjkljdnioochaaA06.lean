/-
  The page's example (nacrelaw27.live). Written by redo/gen_live.py.
-/
import Derived.Test.YtmjkljdnioochaaA05
import Derived.Test.YtmjkljdnioochaaAKit
import Derived.Lib.SmallJoins
namespace Go.Proofs.Ytmjkljdnioochaa
open Go.ChangeShapes Go.WideShapes Go.ChangeAt Go.RowKit Go.Maps
set_option linter.unusedVariables false
set_option linter.unusedSimpArgs false
set_option maxRecDepth 100000
section
theorem getD_64 {ws : List Nat} (h : ∀ x ∈ ws, x < 2 ^ 64) (i : Nat) : ws.getD i 0 < 2 ^ 64 := by
 rw [List.getD_eq_getElem?_getD]
 cases e : ws[i]? with
 | none => exact Nat.two_pow_pos 64
 | some x => exact h x (List.mem_of_getElem? e)
theorem ex27_64 : ∀ i, i < 344 -> fwI 1 8 10 i < 2 ^ 64 := by decide +kernel
theorem ex27_tidy : tidyR 1 8 (fwI 1 8 10) = some (fwI 1 8 10) := by
 have hl : lastR 1 8 (fwI 1 8 10) = some (1, 0, []) := by decide +kernel
 unfold tidyR
 rw [hl]
 show some _ = _
 congr 1
def ex27G : Nat -> Nat := updF (layTo 1 8 0 [⟨0, 3⟩] (fwI 1 8 10) 1) (rdT 1 8 0) (1 * 4294967296 + (2147483648 + 1))
theorem ex27_lay : layR 1 8 (fwI 1 8 10) 0 1 [⟨0, 3⟩] = some ex27G := by
 unfold layR
 rw [if_pos (by decide)]
 rfl
theorem ex27_settle : ∃ x, tidyR 1 8 ex27G = some x /\ valR x 0 = 3 := by
 have h : (tidyR 1 8 ex27G).map (fun x => valR x 0) = some 3 := by decide +kernel
 cases hx : tidyR 1 8 ex27G with
 | none => rw [hx] at h; cases h
 | some x =>
  rw [hx] at h
  injection h with h
  exact ⟨x, rfl, h⟩
theorem ex27_ok : ∀ a ∈ [(⟨0, 3⟩ : PairV)], a.Ok := fun a ha => by
 rw [List.mem_singleton] at ha
 subst ha
 exact ⟨by decide, by decide⟩
theorem pairs27 (w : World) : PairVs (w.alloc (.cells #[.int .i64 0, .int .u32 3] 56)) (some ⟨w.heap.size, 0, none⟩) [⟨0, 3⟩] := fun i a ha => by
 have hi : i = 0 := by
  rcases i with _ | i
  ·rfl
  ·simp at ha
 subst hi
 simp at ha
 subst ha
 have h := Held.new w 56 #[.int .i64 0, .int .u32 3]
 refine ⟨_, rfl, by simp, fun j u hu => ?_⟩
 have e : (⟨w.heap.size, 0, none⟩ : Addr).add (0 * 2 + j) = ⟨w.heap.size, j, none⟩ := by
  rw [Nat.zero_mul, Nat.zero_add, addr_add]
 rw [e, h.cell j, <- hu]
 simp [PairV.cells]
theorem set27_in {f x : Nat -> Nat} {A : Option Addr} {c : Nat} {w : World} (hX : tidyR 1 8 f = some x) (hW : WV w A 344 c f) : Calls Try.prog 14 #[.agg #[.int .i64 1, .int .i64 8, .int .i64 10], .slice A 344 c] w fun e w' => (∃ A c, e = .returned (.tuple #[.slice A 82 c, .bool true]) /\ SV w' A 82 c (valR x)) /\ Below w.heap.size w w' := rdSettle_in (t := 1) (p := 8) (s := 10) (m := 344) (some x) hX (by decide) hW
theorem ex27_vals : (List.range 82).map (valR (fwI 1 8 10)) = (List.range 82).map (frV 1 8) := by decide +kernel
set_option maxHeartbeats 3200000 in
theorem live27_c (w : World) : Calls Try.prog 7 #[] w fun e w' => e = .returned (.bool true) /\ Below w.heap.size w w' := by
 have HC := hidp (Held.new w 23 #[.int .i64 1, .int .i64 8, .int .i64 10])
 have HB := hidp (Bnew (B0 w) (.cells #[.int .i64 1, .int .i64 8, .int .i64 10] 23))
 go_enter Try.func7, Try.ntmps7
 go_wp2_with fail
 replace HC := hidp HC.out.drw
 replace HB := hidp (Bdrew HB.out)
 refine wp_region_held_drew (S := (fun w' => w'.cell? ⟨w.heap.size, 0, none⟩ = some (.int .i64 1) /\ w'.cell? ⟨w.heap.size, 1, none⟩ = some (.int .i64 8) /\ w'.cell? ⟨w.heap.size, 2, none⟩ = some (.int .i64 10))) (by kernel_rfl) ?_ (fun hHeld => ?_)
 ·(try dsimp only)
  first | exact HC.out.three | exact hHeld
 refine tkz 0 ?_
 refine tkz 1 ?_
 refine rdz 2 fun K hK => ?_
 go_simp
 refine (r25Words_yes 1 8 10 344 (by decide) rfl _).mono ?_
 rintro e w1 ⟨g1, rfl, hv, _, hb⟩
 have HW1 := hidp (WV.of_row hv ex27_64)
 clear hv
 replace HC := hidp (HC.out.keep hb)
 replace HB := hidp (Bgo HB.out hb)
 clear hb
 refine hK.out _ _ ?_ (fun hHeld => ?_)
 ·(try dsimp only)
  first | exact HC.out.three | exact hHeld
 clear hK K
 (try simp only [Act.put, gA, gB, gC, sA, sB, sC])
 refine rdz 3 fun K hK => ?_
 go_simp
 refine (set27_in ex27_tidy HW1.out).mono ?_
 rintro e w2 ⟨⟨A2, c2, rfl, hsv⟩, hb⟩
 have HV1 := hidp hsv
 clear hsv
 replace HC := hidp (HC.out.keep hb)
 replace HB := hidp (Bgo HB.out hb)
 clear hb
 refine hK.out _ _ ?_ (fun hHeld => ?_)
 ·(try dsimp only)
  first | exact HC.out.three | exact hHeld
 clear hK K
 (try simp only [Act.put, gA, gB, gC, sA, sB, sC])
 refine tkz 4 ?_
 refine tkz 5 ?_
 refine tkz 6 ?_
 refine tkz 7 ?_
 refine tkz 8 ?_
 refine dnz ?_
 obtain ⟨x, hx, hx0⟩ := ex27_settle
 have HX := hidp hx
 have HX0 := hidp hx0
 clear hx hx0
 go_wp2_with fail
 replace HC := hidp HC.out.drw
 replace HB := hidp (Bdrew HB.out)
 replace HV1 := hidp (HV1.out.below (Bdrew (B0 _)))
 refine wp_region_held_drew (S := (fun w' => w'.cell? ⟨w.heap.size, 0, none⟩ = some (.int .i64 1) /\ w'.cell? ⟨w.heap.size, 1, none⟩ = some (.int .i64 8) /\ w'.cell? ⟨w.heap.size, 2, none⟩ = some (.int .i64 10))) (by kernel_rfl) ?_ (fun hHeld => ?_)
 ·(try dsimp only)
  first | exact HC.out.three | exact hHeld
 refine tkz 0 ?_
 refine tkz 1 ?_
 refine tkz 3 ?_
 refine wpAnyH_ready (rs := [2, 4]) (by kernel_rfl) (by simp) ?_
 refine (AllReadyH.cons (o := _) rfl (fun K hK => ?_) (AllReadyH.cons (o := _) rfl (fun K hK => ?_) AllReadyH.nil))
 ·go_simp
  (refine (r25Words_yes 1 8 10 344 (by decide) rfl _).mono ?_; rintro e w3 ⟨g3, rfl, hv, _, hb⟩; have HW3 := hidp (WV.of_row hv ex27_64); clear hv; replace HC := hidp (HC.out.keep hb); replace HB := hidp (Bgo HB.out hb); replace HV1 := hidp (HV1.out.below hb); clear hb)
  refine hK.out _ _ ?_ (fun hHeld => ?_)
  ·(try dsimp only)
   first | exact HC.out.three | exact hHeld
  clear hK K
  (try simp only [Act.put, gA, gB, gC, sA, sB, sC])
  refine rdz 4 fun K hK => ?_
  go_simp
  (have hb : Below w3.heap.size w3 (w3.alloc (.cells #[.int .i64 0, .int .u32 3] 56)) := Bnew (B0 w3) (.cells #[.int .i64 0, .int .u32 3] 56); have HP : Hid (PairVs (w3.alloc (.cells #[.int .i64 0, .int .u32 3] 56)) (some ⟨w3.heap.size, 0, none⟩) [⟨0, 3⟩]) := hidp (pairs27 w3); replace HC := hidp (HC.out.keep hb); replace HB := hidp (Bgo HB.out hb); replace HV1 := hidp (HV1.out.below hb); replace HW3 := hidp (HW3.out.below hb); clear hb; generalize hNP : Array.size w3.heap = NP at HP ⊢; generalize hwp : (w3.alloc (.cells #[.int .i64 0, .int .u32 3] 56)) = wp at *; clear hNP hwp)
  refine hK.out _ _ ?_ (fun hHeld => ?_)
  ·(try dsimp only)
   first | exact HC.out.three | exact hHeld
  clear hK K
  (try simp only [Act.put, gA, gB, gC, sA, sB, sC])
  refine rdz 5 fun K hK => ?_
  go_simp
  (refine (rdLay_in (u := 0) (some ex27G) [⟨0, 3⟩] rfl ex27_lay (by decide) (by decide) (by decide) (by decide) (by decide) (by decide) ex27_ok HW3.out HP.out).mono ?_; rintro e w5 ⟨⟨A5, c5, rfl, hw⟩, hb⟩; have HW5 := hidp hw; clear hw; replace HC := hidp (HC.out.keep hb); replace HB := hidp (Bgo HB.out hb); replace HV1 := hidp (HV1.out.below hb); clear hb)
  refine hK.out _ _ ?_ (fun hHeld => ?_)
  ·(try dsimp only)
   first | exact HC.out.three | exact hHeld
  clear hK K
  (try simp only [Act.put, gA, gB, gC, sA, sB, sC])
  refine tkz 6 ?_
  refine tkz 7 ?_
  refine tkz 8 ?_
  refine tkz 9 ?_
  refine tkz 10 ?_
  refine dnz ?_
  obtain ⟨x0, x1, x2⟩ := HC.out.three
  go_wp2_with fail
  refine (set27_in HX.out HW5.out).mono ?_
  rintro e w6 ⟨⟨A6, c6, rfl, hsv⟩, hb⟩
  have HV6 := hidp hsv
  clear hsv
  replace HC := hidp (HC.out.keep hb)
  replace HB := hidp (Bgo HB.out hb)
  replace HV1 := hidp (HV1.out.below hb)
  clear hb
  clear x0 x1 x2
  obtain ⟨x0, x1, x2⟩ := HC.out.three
  obtain ⟨a6, rfl, ha6, y0⟩ := HV6.out.cell (i := 0) (by decide)
  rw [HX0.out] at y0
  have HY := hidp y0
  have HA6 := hidp ha6
  clear y0 ha6
  go_wp2_with fail
  refine (r25Vals_yes 1 8 10 82 (by decide) rfl _).mono ?_
  rintro e w7 ⟨g7, rfl, hv7, _, hb⟩
  have y0 : w7.cell? (a6.add 0) = some (.int .u32 3) := (hb.cell (p := a6.add 0) (by rw [block_of_add]; exact HA6.out)).trans HY.out
  have y1 : w7.cell? a6 = some (.int .u32 3) := y0
  replace HV1 := hidp (HV1.out.below hb)
  replace HB := hidp (Bgo HB.out hb)
  have HV7 := hidp hv7
  clear hb hv7 HY x0 x1 x2
  go_wp2_with fail
  refine (Vals_same ((List.range 82).map (frV 1 8)) _ _ _ (by rw [<- ex27_vals]; exact HV1.out.row) (rowV_vals HV7.out)).mono ?_
  rintro e w8 ⟨rfl, k8, rfl⟩
  replace HB := hidp (Bdraw HB.out k8)
  go_wp2
  go_ret
  exact ⟨rfl, HB.out⟩
 ·go_simp
  (have hb : Below w2.drew.heap.size w2.drew (w2.alloc (.cells #[.int .i64 0, .int .u32 3] 56)).drew := Bnew (B0 w2.drew) (.cells #[.int .i64 0, .int .u32 3] 56); have HP : Hid (PairVs (w2.alloc (.cells #[.int .i64 0, .int .u32 3] 56)).drew (some ⟨w2.heap.size, 0, none⟩) [⟨0, 3⟩]) := hidp (pairs27 w2.drew); replace HC := hidp (HC.out.keep hb); replace HB := hidp (Bgo HB.out hb); replace HV1 := hidp (HV1.out.below hb); clear hb; generalize hNP : Array.size w2.heap = NP at HP ⊢; generalize hwp : (w2.alloc (.cells #[.int .i64 0, .int .u32 3] 56)).drew = wp at *; clear hNP hwp)
  refine hK.out _ _ ?_ (fun hHeld => ?_)
  ·(try dsimp only)
   first | exact HC.out.three | exact hHeld
  clear hK K
  (try simp only [Act.put, gA, gB, gC, sA, sB, sC])
  refine rdz 2 fun K hK => ?_
  go_simp
  (refine (r25Words_yes 1 8 10 344 (by decide) rfl _).mono ?_; rintro e w3 ⟨g3, rfl, hv, _, hb⟩; have HW3 := hidp (WV.of_row hv ex27_64); clear hv; replace HC := hidp (HC.out.keep hb); replace HB := hidp (Bgo HB.out hb); replace HV1 := hidp (HV1.out.below hb); replace HP := hidp (HP.out.below hb); clear hb)
  refine hK.out _ _ ?_ (fun hHeld => ?_)
  ·(try dsimp only)
   first | exact HC.out.three | exact hHeld
  clear hK K
  (try simp only [Act.put, gA, gB, gC, sA, sB, sC])
  refine rdz 5 fun K hK => ?_
  go_simp
  (refine (rdLay_in (u := 0) (some ex27G) [⟨0, 3⟩] rfl ex27_lay (by decide) (by decide) (by decide) (by decide) (by decide) (by decide) ex27_ok HW3.out HP.out).mono ?_; rintro e w5 ⟨⟨A5, c5, rfl, hw⟩, hb⟩; have HW5 := hidp hw; clear hw; replace HC := hidp (HC.out.keep hb); replace HB := hidp (Bgo HB.out hb); replace HV1 := hidp (HV1.out.below hb); clear hb)
  refine hK.out _ _ ?_ (fun hHeld => ?_)
  ·(try dsimp only)
   first | exact HC.out.three | exact hHeld
  clear hK K
  (try simp only [Act.put, gA, gB, gC, sA, sB, sC])
  refine tkz 6 ?_
  refine tkz 7 ?_
  refine tkz 8 ?_
  refine tkz 9 ?_
  refine tkz 10 ?_
  refine dnz ?_
  obtain ⟨x0, x1, x2⟩ := HC.out.three
  go_wp2_with fail
  refine (set27_in HX.out HW5.out).mono ?_
  rintro e w6 ⟨⟨A6, c6, rfl, hsv⟩, hb⟩
  have HV6 := hidp hsv
  clear hsv
  replace HC := hidp (HC.out.keep hb)
  replace HB := hidp (Bgo HB.out hb)
  replace HV1 := hidp (HV1.out.below hb)
  clear hb
  clear x0 x1 x2
  obtain ⟨x0, x1, x2⟩ := HC.out.three
  obtain ⟨a6, rfl, ha6, y0⟩ := HV6.out.cell (i := 0) (by decide)
  rw [HX0.out] at y0
  have HY := hidp y0
  have HA6 := hidp ha6
  clear y0 ha6
  go_wp2_with fail
  refine (r25Vals_yes 1 8 10 82 (by decide) rfl _).mono ?_
  rintro e w7 ⟨g7, rfl, hv7, _, hb⟩
  have y0 : w7.cell? (a6.add 0) = some (.int .u32 3) := (hb.cell (p := a6.add 0) (by rw [block_of_add]; exact HA6.out)).trans HY.out
  have y1 : w7.cell? a6 = some (.int .u32 3) := y0
  replace HV1 := hidp (HV1.out.below hb)
  replace HB := hidp (Bgo HB.out hb)
  have HV7 := hidp hv7
  clear hb hv7 HY x0 x1 x2
  go_wp2_with fail
  refine (Vals_same ((List.range 82).map (frV 1 8)) _ _ _ (by rw [<- ex27_vals]; exact HV1.out.row) (rowV_vals HV7.out)).mono ?_
  rintro e w8 ⟨rfl, k8, rfl⟩
  replace HB := hidp (Bdraw HB.out k8)
  go_wp2
  go_ret
  exact ⟨rfl, HB.out⟩
end
section
theorem few27_c (A A2 : Option Addr) (m c k c2 : Nat) (u : Int) (st : Nat) (b : Bool) (hb : decide (m <= 3000 /\ k <= 200) = b) (w : World) :
  Calls Try.prog 6 #[.slice A m c, .agg #[.int .i64 u, .int .u32 (st : Int), .slice A2 k c2]] w fun e w' => e = .returned (.bool b) /\ Below w.heap.size w w' := by
 have HA := hidp (Held.new w 28 #[.int .i64 u, .int .u32 (st : Int), .slice A2 k c2])
 have HB := hidp (Bnew (B0 w) (.cells #[.int .i64 u, .int .u32 (st : Int), .slice A2 k c2] 28))
 obtain ⟨y0, y1, y2⟩ := HA.out.three
 by_cases h1 : m <= 3000
 ·have q1 : decide ((m : Int) <= 3000) = true := decide_eq_true (by omega)
  have q1n : decide (m <= 3000) = true := decide_eq_true h1
  have q2 : decide ((k : Int) <= 200) = b := by rw [<- hb]; exact decide_eq_decide.2 ⟨fun h => ⟨h1, by omega⟩, fun h => by omega⟩
  have q2n : decide (k <= 200) = b := by rw [<- hb]; exact decide_eq_decide.2 ⟨fun h => ⟨h1, h⟩, fun h => h.2⟩
  clear hb
  go_enter Try.func6, Try.ntmps6
  go_wp2
  go_ret
  exact ⟨rfl, HB.out⟩
 ·have q1 : decide ((m : Int) <= 3000) = false := decide_eq_false (by omega)
  have q1n : decide (m <= 3000) = false := decide_eq_false h1
  obtain rfl : b = false := by rw [<- hb]; exact decide_eq_false (fun h => h1 h.1)
  clear hb
  go_enter Try.func6, Try.ntmps6
  go_wp2
  go_ret
  exact ⟨rfl, HB.out⟩
theorem RedoLogs_many (t p s u : Int) (A A2 : Option Addr) (m c k c2 st : Nat) (h : ¬ (m <= 3000 /\ k <= 200)) (W : World) : Calls Try.prog 3 #[.agg #[.int .i64 t, .int .i64 p, .int .i64 s], .slice A m c, .agg #[.int .i64 u, .int .u32 (st : Int), .slice A2 k c2]] W (Keeps W) := by
 have HC := hidp ((Held.new W 23 #[.int .i64 t, .int .i64 p, .int .i64 s]).alloc (.cells #[.int .i64 u, .int .u32 (st : Int), .slice A2 k c2] 28))
 have HA := hidp (Held.new2 W (.cells #[.int .i64 t, .int .i64 p, .int .i64 s] 23) 28 #[.int .i64 u, .int .u32 (st : Int), .slice A2 k c2])
 have HB := hidp (Bnew (Bnew (B0 W) (.cells #[.int .i64 t, .int .i64 p, .int .i64 s] 23)) (.cells #[.int .i64 u, .int .u32 (st : Int), .slice A2 k c2] 28))
 obtain ⟨x0, x1, x2⟩ := HC.out.three
 obtain ⟨y0, y1, y2⟩ := HA.out.three
 go_enter Try.func3, Try.ntmps3
 go_wp2_with fail
 refine (few27_c A A2 m c k c2 u st false (by rw [decide_eq_false h]) _).mono ?_
 rintro e w1 ⟨rfl, hb⟩
 replace HB := hidp (Bgo HB.out hb)
 clear hb
 go_wp2_with fail
 refine (live27_c _).mono ?_
 rintro e w19 ⟨rfl, hb⟩
 replace HB := hidp (Bgo HB.out hb)
 clear hb
 go_wp2
 go_ret
 exact ⟨rfl, HB.out⟩
set_option maxHeartbeats 6400000 in
theorem RedoLogs_nn (t p s u : Int) (A A2 : Option Addr) (m c k c2 st : Nat) (l : List PairV) (f : Nat -> Nat) (hm : m <= 3000) (hk : k <= 200) (W : World)
  (HL1 : Hid (∀ w, WV w A m c f -> Calls Try.prog 8 #[.agg #[.int .i64 t, .int .i64 p, .int .i64 s], .slice A m c, .int .i64 u] w fun e w' => outL none e w' /\ Below w.heap.size w w'))
  (HL2 : Hid (∀ w, WV w A m c f -> Calls Try.prog 9 #[.agg #[.int .i64 t, .int .i64 p, .int .i64 s], .slice A m c, .int .i64 u] w fun e w' => logV none e w w' /\ Below w.heap.size w w'))
  (HA1 : Hid (∀ w, WV w A m c f -> PairVs w A2 l -> Calls Try.prog 10 #[.agg #[.int .i64 t, .int .i64 p, .int .i64 s], .slice A m c, .int .i64 u, .int .u32 (st : Int), .slice A2 k c2] w fun e w' => outW none m e w' /\ Below w.heap.size w w'))
  (HA2 : Hid (∀ w, WV w A m c f -> PairVs w A2 l -> Calls Try.prog 11 #[.agg #[.int .i64 t, .int .i64 p, .int .i64 s], .slice A m c, .int .i64 u, .int .u32 (st : Int), .slice A2 k c2] w fun e w' => wordsV none m e w w' /\ Below w.heap.size w w'))
  (hW : WV W A m c f) (hP : PairVs W A2 l) : Calls Try.prog 3 #[.agg #[.int .i64 t, .int .i64 p, .int .i64 s], .slice A m c, .agg #[.int .i64 u, .int .u32 (st : Int), .slice A2 k c2]] W (Keeps W) := by
 have HW := hidp (hW.below (Bnew (Bnew (B0 W) (.cells #[.int .i64 t, .int .i64 p, .int .i64 s] 23)) (.cells #[.int .i64 u, .int .u32 (st : Int), .slice A2 k c2] 28)))
 have HP := hidp (hP.below (Bnew (Bnew (B0 W) (.cells #[.int .i64 t, .int .i64 p, .int .i64 s] 23)) (.cells #[.int .i64 u, .int .u32 (st : Int), .slice A2 k c2] 28)))
 clear hW hP
 have HC := hidp ((Held.new W 23 #[.int .i64 t, .int .i64 p, .int .i64 s]).alloc (.cells #[.int .i64 u, .int .u32 (st : Int), .slice A2 k c2] 28))
 have HA := hidp (Held.new2 W (.cells #[.int .i64 t, .int .i64 p, .int .i64 s] 23) 28 #[.int .i64 u, .int .u32 (st : Int), .slice A2 k c2])
 have HB := hidp (Bnew (Bnew (B0 W) (.cells #[.int .i64 t, .int .i64 p, .int .i64 s] 23)) (.cells #[.int .i64 u, .int .u32 (st : Int), .slice A2 k c2] 28))
 obtain ⟨x0, x1, x2⟩ := HC.out.three
 obtain ⟨y0, y1, y2⟩ := HA.out.three
 go_enter Try.func3, Try.ntmps3
 go_wp2_with fail
 refine (few27_c A A2 m c k c2 u st true (by rw [decide_eq_true ⟨hm, hk⟩]) _).mono ?_
 rintro e w1 ⟨rfl, hb⟩
 replace HC := hidp (HC.out.keep hb)
 replace HA := hidp (HA.out.keep hb)
 replace HW := hidp (HW.out.below hb)
 replace HP := hidp (HP.out.below hb)
 replace HB := hidp (Bgo HB.out hb)
 clear hb
 clear x0 x1 x2 y0 y1 y2
 obtain ⟨x0, x1, x2⟩ := HC.out.three
 obtain ⟨y0, y1, y2⟩ := HA.out.three
 go_wp2_with fail
 refine (HL1.out _ HW.out).mono ?_
 rintro e w2 ho
 obtain ⟨⟨v1, rfl, hp⟩, hb⟩ := ho
 replace HC := hidp (HC.out.keep hb)
 replace HA := hidp (HA.out.keep hb)
 replace HW := hidp (HW.out.below hb)
 replace HP := hidp (HP.out.below hb)
 replace HB := hidp (Bgo HB.out hb)
 have HR1 := hidp hp
 clear hb hp
 have hb := Bnew (B0 w2) (.cells #[.int .u32 0, .bool false, .int .i64 0] 32)
 have HN1 := hidp (Held.new w2 32 #[.int .u32 0, .bool false, .int .i64 0])
 replace HC := hidp (HC.out.keep hb)
 replace HA := hidp (HA.out.keep hb)
 replace HW := hidp (HW.out.below hb)
 replace HP := hidp (HP.out.below hb)
 replace HR1 := hidp (HR1.out.below hb)
 replace HB := hidp (Bgo HB.out hb)
 clear hb
 clear x0 x1 x2 y0 y1 y2
 obtain ⟨x0, x1, x2⟩ := HC.out.three
 obtain ⟨y0, y1, y2⟩ := HA.out.three
 unfold noteQ
 go_wp2_with fail
 generalize hNA : w2.heap.size = NA at *
 generalize hwa : w2.alloc (.cells #[.int .u32 0, .bool false, .int .i64 0] 32) = wa at *
 clear hNA hwa
 refine (HL2.out _ HW.out).mono ?_
 rintro e w3 ho
 obtain ⟨rfl, hb⟩ := ho
 have HR2 : Hid (RowP w3 (.slice none 0 0) []) := hidp ⟨Nat.zero_le _, .inl ⟨rfl, rfl⟩⟩
 replace HC := hidp (HC.out.keep hb)
 replace HA := hidp (HA.out.keep hb)
 replace HW := hidp (HW.out.below hb)
 replace HP := hidp (HP.out.below hb)
 replace HR1 := hidp (HR1.out.below hb)
 replace HN1 := hidp (HN1.out.keep hb)
 replace HB := hidp (Bgo HB.out hb)
 clear hb
 have hb := Bnew (B0 w3) (.cells #[.int .u32 0, .bool false, .int .i64 0] 32)
 have HN2 := hidp (Held.new w3 32 #[.int .u32 0, .bool false, .int .i64 0])
 replace HC := hidp (HC.out.keep hb)
 replace HA := hidp (HA.out.keep hb)
 replace HW := hidp (HW.out.below hb)
 replace HP := hidp (HP.out.below hb)
 replace HR1 := hidp (HR1.out.below hb)
 replace HR2 := hidp (HR2.out.below hb)
 replace HN1 := hidp (HN1.out.keep hb)
 replace HB := hidp (Bgo HB.out hb)
 clear hb
 clear x0 x1 x2 y0 y1 y2
 obtain ⟨x0, x1, x2⟩ := HC.out.three
 obtain ⟨y0, y1, y2⟩ := HA.out.three
 go_wp2_with fail
 generalize hNB : w3.heap.size = NB at *
 generalize hwb : w3.alloc (.cells #[.int .u32 0, .bool false, .int .i64 0] 32) = wb at *
 clear hNB hwb
 refine (HA1.out _ HW.out HP.out).mono ?_
 rintro e w4 ho
 obtain ⟨⟨B1, d1, rfl⟩, hb⟩ := ho
 replace HC := hidp (HC.out.keep hb)
 replace HA := hidp (HA.out.keep hb)
 replace HW := hidp (HW.out.below hb)
 replace HP := hidp (HP.out.below hb)
 replace HR1 := hidp (HR1.out.below hb)
 replace HR2 := hidp (HR2.out.below hb)
 replace HN1 := hidp (HN1.out.keep hb)
 replace HN2 := hidp (HN2.out.keep hb)
 replace HB := hidp (Bgo HB.out hb)
 clear hb
 clear x0 x1 x2 y0 y1 y2
 obtain ⟨x0, x1, x2⟩ := HC.out.three
 obtain ⟨y0, y1, y2⟩ := HA.out.three
 go_wp2_with fail
 refine (HA2.out _ HW.out HP.out).mono ?_
 rintro e w5 ho
 obtain ⟨rfl, hb⟩ := ho
 replace HC := hidp (HC.out.keep hb)
 replace HA := hidp (HA.out.keep hb)
 replace HW := hidp (HW.out.below hb)
 replace HP := hidp (HP.out.below hb)
 replace HR1 := hidp (HR1.out.below hb)
 replace HR2 := hidp (HR2.out.below hb)
 replace HN1 := hidp (HN1.out.keep hb)
 replace HN2 := hidp (HN2.out.keep hb)
 replace HB := hidp (Bgo HB.out hb)
 clear hb x0 x1 x2 y0 y1 y2
 obtain ⟨n0, n1', n2⟩ := HN1.out.three
 obtain ⟨m0, m1, m2⟩ := HN2.out.three
 go_wp2_with fail
 refine (Pairs_same [] _ _ _ HR1.out HR2.out).mono ?_
 rintro e w6 ⟨rfl, k6, rfl⟩
 have hb := Bdraw (B0 w5) k6
 clear hb
 go_wp2_with fail
 refine (Words_same [] 0 (hidp rfl) _ _ _ _ (Nat.zero_le _) _ 0 0 (hidp Reads.none_) (hidp Reads.none_)).mono ?_
 rintro e w7 ⟨rfl, k7, rfl⟩
 replace HB := hidp (Bdraw HB.out (k6 + k7))
 go_wp2_with fail
 refine (live27_c _).mono ?_
 rintro e w19 ⟨rfl, hb⟩
 replace HB := hidp (Bgo HB.out hb)
 clear hb
 go_wp2
 go_ret
 exact ⟨rfl, HB.out⟩

set_option maxHeartbeats 6400000 in
theorem RedoLogs_ns (t p s u : Int) (A A2 : Option Addr) (m c k c2 st : Nat) (l : List PairV) (f : Nat -> Nat) (xa : Nat -> Nat) (hm : m <= 3000) (hk : k <= 200) (W : World)
  (HL1 : Hid (∀ w, WV w A m c f -> Calls Try.prog 8 #[.agg #[.int .i64 t, .int .i64 p, .int .i64 s], .slice A m c, .int .i64 u] w fun e w' => outL none e w' /\ Below w.heap.size w w'))
  (HL2 : Hid (∀ w, WV w A m c f -> Calls Try.prog 9 #[.agg #[.int .i64 t, .int .i64 p, .int .i64 s], .slice A m c, .int .i64 u] w fun e w' => logV none e w w' /\ Below w.heap.size w w'))
  (HA1 : Hid (∀ w, WV w A m c f -> PairVs w A2 l -> Calls Try.prog 10 #[.agg #[.int .i64 t, .int .i64 p, .int .i64 s], .slice A m c, .int .i64 u, .int .u32 (st : Int), .slice A2 k c2] w fun e w' => outW (some xa) m e w' /\ Below w.heap.size w w'))
  (HA2 : Hid (∀ w, WV w A m c f -> PairVs w A2 l -> Calls Try.prog 11 #[.agg #[.int .i64 t, .int .i64 p, .int .i64 s], .slice A m c, .int .i64 u, .int .u32 (st : Int), .slice A2 k c2] w fun e w' => wordsV (some xa) m e w w' /\ Below w.heap.size w w'))
  (hW : WV W A m c f) (hP : PairVs W A2 l) (hx : ∀ i, i < m -> xa i < 2 ^ 64) : Calls Try.prog 3 #[.agg #[.int .i64 t, .int .i64 p, .int .i64 s], .slice A m c, .agg #[.int .i64 u, .int .u32 (st : Int), .slice A2 k c2]] W (Keeps W) := by
 have HW := hidp (hW.below (Bnew (Bnew (B0 W) (.cells #[.int .i64 t, .int .i64 p, .int .i64 s] 23)) (.cells #[.int .i64 u, .int .u32 (st : Int), .slice A2 k c2] 28)))
 have HP := hidp (hP.below (Bnew (Bnew (B0 W) (.cells #[.int .i64 t, .int .i64 p, .int .i64 s] 23)) (.cells #[.int .i64 u, .int .u32 (st : Int), .slice A2 k c2] 28)))
 have HXL := hidp hx
 clear hW hP hx
 have HC := hidp ((Held.new W 23 #[.int .i64 t, .int .i64 p, .int .i64 s]).alloc (.cells #[.int .i64 u, .int .u32 (st : Int), .slice A2 k c2] 28))
 have HA := hidp (Held.new2 W (.cells #[.int .i64 t, .int .i64 p, .int .i64 s] 23) 28 #[.int .i64 u, .int .u32 (st : Int), .slice A2 k c2])
 have HB := hidp (Bnew (Bnew (B0 W) (.cells #[.int .i64 t, .int .i64 p, .int .i64 s] 23)) (.cells #[.int .i64 u, .int .u32 (st : Int), .slice A2 k c2] 28))
 obtain ⟨x0, x1, x2⟩ := HC.out.three
 obtain ⟨y0, y1, y2⟩ := HA.out.three
 go_enter Try.func3, Try.ntmps3
 go_wp2_with fail
 refine (few27_c A A2 m c k c2 u st true (by rw [decide_eq_true ⟨hm, hk⟩]) _).mono ?_
 rintro e w1 ⟨rfl, hb⟩
 replace HC := hidp (HC.out.keep hb)
 replace HA := hidp (HA.out.keep hb)
 replace HW := hidp (HW.out.below hb)
 replace HP := hidp (HP.out.below hb)
 replace HB := hidp (Bgo HB.out hb)
 clear hb
 clear x0 x1 x2 y0 y1 y2
 obtain ⟨x0, x1, x2⟩ := HC.out.three
 obtain ⟨y0, y1, y2⟩ := HA.out.three
 go_wp2_with fail
 refine (HL1.out _ HW.out).mono ?_
 rintro e w2 ho
 obtain ⟨⟨v1, rfl, hp⟩, hb⟩ := ho
 replace HC := hidp (HC.out.keep hb)
 replace HA := hidp (HA.out.keep hb)
 replace HW := hidp (HW.out.below hb)
 replace HP := hidp (HP.out.below hb)
 replace HB := hidp (Bgo HB.out hb)
 have HR1 := hidp hp
 clear hb hp
 have hb := Bnew (B0 w2) (.cells #[.int .u32 0, .bool false, .int .i64 0] 32)
 have HN1 := hidp (Held.new w2 32 #[.int .u32 0, .bool false, .int .i64 0])
 replace HC := hidp (HC.out.keep hb)
 replace HA := hidp (HA.out.keep hb)
 replace HW := hidp (HW.out.below hb)
 replace HP := hidp (HP.out.below hb)
 replace HR1 := hidp (HR1.out.below hb)
 replace HB := hidp (Bgo HB.out hb)
 clear hb
 clear x0 x1 x2 y0 y1 y2
 obtain ⟨x0, x1, x2⟩ := HC.out.three
 obtain ⟨y0, y1, y2⟩ := HA.out.three
 unfold noteQ
 go_wp2_with fail
 generalize hNA : w2.heap.size = NA at *
 generalize hwa : w2.alloc (.cells #[.int .u32 0, .bool false, .int .i64 0] 32) = wa at *
 clear hNA hwa
 refine (HL2.out _ HW.out).mono ?_
 rintro e w3 ho
 obtain ⟨rfl, hb⟩ := ho
 have HR2 : Hid (RowP w3 (.slice none 0 0) []) := hidp ⟨Nat.zero_le _, .inl ⟨rfl, rfl⟩⟩
 replace HC := hidp (HC.out.keep hb)
 replace HA := hidp (HA.out.keep hb)
 replace HW := hidp (HW.out.below hb)
 replace HP := hidp (HP.out.below hb)
 replace HR1 := hidp (HR1.out.below hb)
 replace HN1 := hidp (HN1.out.keep hb)
 replace HB := hidp (Bgo HB.out hb)
 clear hb
 have hb := Bnew (B0 w3) (.cells #[.int .u32 0, .bool false, .int .i64 0] 32)
 have HN2 := hidp (Held.new w3 32 #[.int .u32 0, .bool false, .int .i64 0])
 replace HC := hidp (HC.out.keep hb)
 replace HA := hidp (HA.out.keep hb)
 replace HW := hidp (HW.out.below hb)
 replace HP := hidp (HP.out.below hb)
 replace HR1 := hidp (HR1.out.below hb)
 replace HR2 := hidp (HR2.out.below hb)
 replace HN1 := hidp (HN1.out.keep hb)
 replace HB := hidp (Bgo HB.out hb)
 clear hb
 clear x0 x1 x2 y0 y1 y2
 obtain ⟨x0, x1, x2⟩ := HC.out.three
 obtain ⟨y0, y1, y2⟩ := HA.out.three
 go_wp2_with fail
 generalize hNB : w3.heap.size = NB at *
 generalize hwb : w3.alloc (.cells #[.int .u32 0, .bool false, .int .i64 0] 32) = wb at *
 clear hNB hwb
 refine (HA1.out _ HW.out HP.out).mono ?_
 rintro e w4 ho
 obtain ⟨⟨B1, d1, rfl, hw⟩, hb⟩ := ho
 have HV1 := hidp hw
 clear hw
 replace HC := hidp (HC.out.keep hb)
 replace HA := hidp (HA.out.keep hb)
 replace HW := hidp (HW.out.below hb)
 replace HP := hidp (HP.out.below hb)
 replace HR1 := hidp (HR1.out.below hb)
 replace HR2 := hidp (HR2.out.below hb)
 replace HN1 := hidp (HN1.out.keep hb)
 replace HN2 := hidp (HN2.out.keep hb)
 replace HB := hidp (Bgo HB.out hb)
 clear hb
 clear x0 x1 x2 y0 y1 y2
 obtain ⟨x0, x1, x2⟩ := HC.out.three
 obtain ⟨y0, y1, y2⟩ := HA.out.three
 go_wp2_with fail
 refine (HA2.out _ HW.out HP.out).mono ?_
 rintro e w5 ho
 obtain ⟨⟨g2, d2, rfl, hrow, _⟩, hb⟩ := ho
 have HV2 := hidp (WV.of_row hrow HXL.out)
 clear hrow
 replace HC := hidp (HC.out.keep hb)
 replace HA := hidp (HA.out.keep hb)
 replace HW := hidp (HW.out.below hb)
 replace HP := hidp (HP.out.below hb)
 replace HR1 := hidp (HR1.out.below hb)
 replace HR2 := hidp (HR2.out.below hb)
 replace HN1 := hidp (HN1.out.keep hb)
 replace HN2 := hidp (HN2.out.keep hb)
 replace HV1 := hidp (HV1.out.below hb)
 replace HB := hidp (Bgo HB.out hb)
 clear hb x0 x1 x2 y0 y1 y2
 obtain ⟨n0, n1', n2⟩ := HN1.out.three
 obtain ⟨m0, m1, m2⟩ := HN2.out.three
 go_wp2_with fail
 refine (Pairs_same [] _ _ _ HR1.out HR2.out).mono ?_
 rintro e w6 ⟨rfl, k6, rfl⟩
 have hb := Bdraw (B0 w5) k6
 replace HV1 := hidp (HV1.out.below hb)
 replace HV2 := hidp (HV2.out.below hb)
 clear hb
 go_wp2_with fail
 refine (Words_same ((List.range m).map xa) m (hidp (by simp)) _ _ _ _ (by unfold maxLen; omega) _ _ _ (hidp HV1.out.reads) (hidp HV2.out.reads)).mono ?_
 rintro e w7 ⟨rfl, k7, rfl⟩
 replace HB := hidp (Bdraw HB.out (k6 + k7))
 go_wp2_with fail
 refine (live27_c _).mono ?_
 rintro e w19 ⟨rfl, hb⟩
 replace HB := hidp (Bgo HB.out hb)
 clear hb
 go_wp2
 go_ret
 exact ⟨rfl, HB.out⟩

set_option maxHeartbeats 6400000 in
theorem RedoLogs_sn (t p s u : Int) (A A2 : Option Addr) (m c k c2 st : Nat) (l : List PairV) (f : Nat -> Nat) (l1 n1 : Nat) (o1 : Bool) (es : List (Nat × Nat)) (hm : m <= 3000) (hk : k <= 200) (W : World)
  (HL1 : Hid (∀ w, WV w A m c f -> Calls Try.prog 8 #[.agg #[.int .i64 t, .int .i64 p, .int .i64 s], .slice A m c, .int .i64 u] w fun e w' => outL (some ((l1, o1, n1), es)) e w' /\ Below w.heap.size w w'))
  (HL2 : Hid (∀ w, WV w A m c f -> Calls Try.prog 9 #[.agg #[.int .i64 t, .int .i64 p, .int .i64 s], .slice A m c, .int .i64 u] w fun e w' => logV (some ((l1, o1, n1), es)) e w w' /\ Below w.heap.size w w'))
  (HA1 : Hid (∀ w, WV w A m c f -> PairVs w A2 l -> Calls Try.prog 10 #[.agg #[.int .i64 t, .int .i64 p, .int .i64 s], .slice A m c, .int .i64 u, .int .u32 (st : Int), .slice A2 k c2] w fun e w' => outW none m e w' /\ Below w.heap.size w w'))
  (HA2 : Hid (∀ w, WV w A m c f -> PairVs w A2 l -> Calls Try.prog 11 #[.agg #[.int .i64 t, .int .i64 p, .int .i64 s], .slice A m c, .int .i64 u, .int .u32 (st : Int), .slice A2 k c2] w fun e w' => wordsV none m e w w' /\ Below w.heap.size w w'))
  (hW : WV W A m c f) (hP : PairVs W A2 l) : Calls Try.prog 3 #[.agg #[.int .i64 t, .int .i64 p, .int .i64 s], .slice A m c, .agg #[.int .i64 u, .int .u32 (st : Int), .slice A2 k c2]] W (Keeps W) := by
 have HW := hidp (hW.below (Bnew (Bnew (B0 W) (.cells #[.int .i64 t, .int .i64 p, .int .i64 s] 23)) (.cells #[.int .i64 u, .int .u32 (st : Int), .slice A2 k c2] 28)))
 have HP := hidp (hP.below (Bnew (Bnew (B0 W) (.cells #[.int .i64 t, .int .i64 p, .int .i64 s] 23)) (.cells #[.int .i64 u, .int .u32 (st : Int), .slice A2 k c2] 28)))
 clear hW hP
 have HC := hidp ((Held.new W 23 #[.int .i64 t, .int .i64 p, .int .i64 s]).alloc (.cells #[.int .i64 u, .int .u32 (st : Int), .slice A2 k c2] 28))
 have HA := hidp (Held.new2 W (.cells #[.int .i64 t, .int .i64 p, .int .i64 s] 23) 28 #[.int .i64 u, .int .u32 (st : Int), .slice A2 k c2])
 have HB := hidp (Bnew (Bnew (B0 W) (.cells #[.int .i64 t, .int .i64 p, .int .i64 s] 23)) (.cells #[.int .i64 u, .int .u32 (st : Int), .slice A2 k c2] 28))
 obtain ⟨x0, x1, x2⟩ := HC.out.three
 obtain ⟨y0, y1, y2⟩ := HA.out.three
 go_enter Try.func3, Try.ntmps3
 go_wp2_with fail
 refine (few27_c A A2 m c k c2 u st true (by rw [decide_eq_true ⟨hm, hk⟩]) _).mono ?_
 rintro e w1 ⟨rfl, hb⟩
 replace HC := hidp (HC.out.keep hb)
 replace HA := hidp (HA.out.keep hb)
 replace HW := hidp (HW.out.below hb)
 replace HP := hidp (HP.out.below hb)
 replace HB := hidp (Bgo HB.out hb)
 clear hb
 clear x0 x1 x2 y0 y1 y2
 obtain ⟨x0, x1, x2⟩ := HC.out.three
 obtain ⟨y0, y1, y2⟩ := HA.out.three
 go_wp2_with fail
 refine (HL1.out _ HW.out).mono ?_
 rintro e w2 ho
 obtain ⟨⟨v1, rfl, hp⟩, hb⟩ := ho
 replace HC := hidp (HC.out.keep hb)
 replace HA := hidp (HA.out.keep hb)
 replace HW := hidp (HW.out.below hb)
 replace HP := hidp (HP.out.below hb)
 replace HB := hidp (Bgo HB.out hb)
 have HR1 := hidp hp
 clear hb hp
 have hb := Bnew (B0 w2) (.cells #[.int .u32 (l1 : Int), .bool o1, .int .i64 (n1 : Int)] 32)
 have HN1 := hidp (Held.new w2 32 #[.int .u32 (l1 : Int), .bool o1, .int .i64 (n1 : Int)])
 replace HC := hidp (HC.out.keep hb)
 replace HA := hidp (HA.out.keep hb)
 replace HW := hidp (HW.out.below hb)
 replace HP := hidp (HP.out.below hb)
 replace HR1 := hidp (HR1.out.below hb)
 replace HB := hidp (Bgo HB.out hb)
 clear hb
 clear x0 x1 x2 y0 y1 y2
 obtain ⟨x0, x1, x2⟩ := HC.out.three
 obtain ⟨y0, y1, y2⟩ := HA.out.three
 go_wp2_with fail
 generalize hNA : w2.heap.size = NA at *
 generalize hwa : w2.alloc (.cells #[.int .u32 (l1 : Int), .bool o1, .int .i64 (n1 : Int)] 32) = wa at *
 clear hNA hwa
 refine (HL2.out _ HW.out).mono ?_
 rintro e w3 ho
 obtain ⟨⟨v2, rfl, hown⟩, hb⟩ := ho
 have HR2 := hidp (RowP.of_own hown)
 clear hown
 replace HC := hidp (HC.out.keep hb)
 replace HA := hidp (HA.out.keep hb)
 replace HW := hidp (HW.out.below hb)
 replace HP := hidp (HP.out.below hb)
 replace HR1 := hidp (HR1.out.below hb)
 replace HN1 := hidp (HN1.out.keep hb)
 replace HB := hidp (Bgo HB.out hb)
 clear hb
 have hb := Bnew (B0 w3) (.cells #[.int .u32 (l1 : Int), .bool o1, .int .i64 (n1 : Int)] 32)
 have HN2 := hidp (Held.new w3 32 #[.int .u32 (l1 : Int), .bool o1, .int .i64 (n1 : Int)])
 replace HC := hidp (HC.out.keep hb)
 replace HA := hidp (HA.out.keep hb)
 replace HW := hidp (HW.out.below hb)
 replace HP := hidp (HP.out.below hb)
 replace HR1 := hidp (HR1.out.below hb)
 replace HR2 := hidp (HR2.out.below hb)
 replace HN1 := hidp (HN1.out.keep hb)
 replace HB := hidp (Bgo HB.out hb)
 clear hb
 clear x0 x1 x2 y0 y1 y2
 obtain ⟨x0, x1, x2⟩ := HC.out.three
 obtain ⟨y0, y1, y2⟩ := HA.out.three
 go_wp2_with fail
 generalize hNB : w3.heap.size = NB at *
 generalize hwb : w3.alloc (.cells #[.int .u32 (l1 : Int), .bool o1, .int .i64 (n1 : Int)] 32) = wb at *
 clear hNB hwb
 refine (HA1.out _ HW.out HP.out).mono ?_
 rintro e w4 ho
 obtain ⟨⟨B1, d1, rfl⟩, hb⟩ := ho
 replace HC := hidp (HC.out.keep hb)
 replace HA := hidp (HA.out.keep hb)
 replace HW := hidp (HW.out.below hb)
 replace HP := hidp (HP.out.below hb)
 replace HR1 := hidp (HR1.out.below hb)
 replace HR2 := hidp (HR2.out.below hb)
 replace HN1 := hidp (HN1.out.keep hb)
 replace HN2 := hidp (HN2.out.keep hb)
 replace HB := hidp (Bgo HB.out hb)
 clear hb
 clear x0 x1 x2 y0 y1 y2
 obtain ⟨x0, x1, x2⟩ := HC.out.three
 obtain ⟨y0, y1, y2⟩ := HA.out.three
 go_wp2_with fail
 refine (HA2.out _ HW.out HP.out).mono ?_
 rintro e w5 ho
 obtain ⟨rfl, hb⟩ := ho
 replace HC := hidp (HC.out.keep hb)
 replace HA := hidp (HA.out.keep hb)
 replace HW := hidp (HW.out.below hb)
 replace HP := hidp (HP.out.below hb)
 replace HR1 := hidp (HR1.out.below hb)
 replace HR2 := hidp (HR2.out.below hb)
 replace HN1 := hidp (HN1.out.keep hb)
 replace HN2 := hidp (HN2.out.keep hb)
 replace HB := hidp (Bgo HB.out hb)
 clear hb x0 x1 x2 y0 y1 y2
 obtain ⟨n0, n1', n2⟩ := HN1.out.three
 obtain ⟨m0, m1, m2⟩ := HN2.out.three
 go_wp2_with fail
 refine (Pairs_same es _ _ _ HR1.out HR2.out).mono ?_
 rintro e w6 ⟨rfl, k6, rfl⟩
 have hb := Bdraw (B0 w5) k6
 clear hb
 go_wp2_with fail
 refine (Words_same [] 0 (hidp rfl) _ _ _ _ (Nat.zero_le _) _ 0 0 (hidp Reads.none_) (hidp Reads.none_)).mono ?_
 rintro e w7 ⟨rfl, k7, rfl⟩
 replace HB := hidp (Bdraw HB.out (k6 + k7))
 go_wp2_with fail
 refine (live27_c _).mono ?_
 rintro e w19 ⟨rfl, hb⟩
 replace HB := hidp (Bgo HB.out hb)
 clear hb
 go_wp2
 go_ret
 exact ⟨rfl, HB.out⟩

set_option maxHeartbeats 6400000 in
theorem RedoLogs_ss (t p s u : Int) (A A2 : Option Addr) (m c k c2 st : Nat) (l : List PairV) (f : Nat -> Nat) (l1 n1 : Nat) (o1 : Bool) (es : List (Nat × Nat)) (xa : Nat -> Nat) (hm : m <= 3000) (hk : k <= 200) (W : World)
  (HL1 : Hid (∀ w, WV w A m c f -> Calls Try.prog 8 #[.agg #[.int .i64 t, .int .i64 p, .int .i64 s], .slice A m c, .int .i64 u] w fun e w' => outL (some ((l1, o1, n1), es)) e w' /\ Below w.heap.size w w'))
  (HL2 : Hid (∀ w, WV w A m c f -> Calls Try.prog 9 #[.agg #[.int .i64 t, .int .i64 p, .int .i64 s], .slice A m c, .int .i64 u] w fun e w' => logV (some ((l1, o1, n1), es)) e w w' /\ Below w.heap.size w w'))
  (HA1 : Hid (∀ w, WV w A m c f -> PairVs w A2 l -> Calls Try.prog 10 #[.agg #[.int .i64 t, .int .i64 p, .int .i64 s], .slice A m c, .int .i64 u, .int .u32 (st : Int), .slice A2 k c2] w fun e w' => outW (some xa) m e w' /\ Below w.heap.size w w'))
  (HA2 : Hid (∀ w, WV w A m c f -> PairVs w A2 l -> Calls Try.prog 11 #[.agg #[.int .i64 t, .int .i64 p, .int .i64 s], .slice A m c, .int .i64 u, .int .u32 (st : Int), .slice A2 k c2] w fun e w' => wordsV (some xa) m e w w' /\ Below w.heap.size w w'))
  (hW : WV W A m c f) (hP : PairVs W A2 l) (hx : ∀ i, i < m -> xa i < 2 ^ 64) : Calls Try.prog 3 #[.agg #[.int .i64 t, .int .i64 p, .int .i64 s], .slice A m c, .agg #[.int .i64 u, .int .u32 (st : Int), .slice A2 k c2]] W (Keeps W) := by
 have HW := hidp (hW.below (Bnew (Bnew (B0 W) (.cells #[.int .i64 t, .int .i64 p, .int .i64 s] 23)) (.cells #[.int .i64 u, .int .u32 (st : Int), .slice A2 k c2] 28)))
 have HP := hidp (hP.below (Bnew (Bnew (B0 W) (.cells #[.int .i64 t, .int .i64 p, .int .i64 s] 23)) (.cells #[.int .i64 u, .int .u32 (st : Int), .slice A2 k c2] 28)))
 have HXL := hidp hx
 clear hW hP hx
 have HC := hidp ((Held.new W 23 #[.int .i64 t, .int .i64 p, .int .i64 s]).alloc (.cells #[.int .i64 u, .int .u32 (st : Int), .slice A2 k c2] 28))
 have HA := hidp (Held.new2 W (.cells #[.int .i64 t, .int .i64 p, .int .i64 s] 23) 28 #[.int .i64 u, .int .u32 (st : Int), .slice A2 k c2])
 have HB := hidp (Bnew (Bnew (B0 W) (.cells #[.int .i64 t, .int .i64 p, .int .i64 s] 23)) (.cells #[.int .i64 u, .int .u32 (st : Int), .slice A2 k c2] 28))
 obtain ⟨x0, x1, x2⟩ := HC.out.three
 obtain ⟨y0, y1, y2⟩ := HA.out.three
 go_enter Try.func3, Try.ntmps3
 go_wp2_with fail
 refine (few27_c A A2 m c k c2 u st true (by rw [decide_eq_true ⟨hm, hk⟩]) _).mono ?_
 rintro e w1 ⟨rfl, hb⟩
 replace HC := hidp (HC.out.keep hb)
 replace HA := hidp (HA.out.keep hb)
 replace HW := hidp (HW.out.below hb)
 replace HP := hidp (HP.out.below hb)
 replace HB := hidp (Bgo HB.out hb)
 clear hb
 clear x0 x1 x2 y0 y1 y2
 obtain ⟨x0, x1, x2⟩ := HC.out.three
 obtain ⟨y0, y1, y2⟩ := HA.out.three
 go_wp2_with fail
 refine (HL1.out _ HW.out).mono ?_
 rintro e w2 ho
 obtain ⟨⟨v1, rfl, hp⟩, hb⟩ := ho
 replace HC := hidp (HC.out.keep hb)
 replace HA := hidp (HA.out.keep hb)
 replace HW := hidp (HW.out.below hb)
 replace HP := hidp (HP.out.below hb)
 replace HB := hidp (Bgo HB.out hb)
 have HR1 := hidp hp
 clear hb hp
 have hb := Bnew (B0 w2) (.cells #[.int .u32 (l1 : Int), .bool o1, .int .i64 (n1 : Int)] 32)
 have HN1 := hidp (Held.new w2 32 #[.int .u32 (l1 : Int), .bool o1, .int .i64 (n1 : Int)])
 replace HC := hidp (HC.out.keep hb)
 replace HA := hidp (HA.out.keep hb)
 replace HW := hidp (HW.out.below hb)
 replace HP := hidp (HP.out.below hb)
 replace HR1 := hidp (HR1.out.below hb)
 replace HB := hidp (Bgo HB.out hb)
 clear hb
 clear x0 x1 x2 y0 y1 y2
 obtain ⟨x0, x1, x2⟩ := HC.out.three
 obtain ⟨y0, y1, y2⟩ := HA.out.three
 go_wp2_with fail
 generalize hNA : w2.heap.size = NA at *
 generalize hwa : w2.alloc (.cells #[.int .u32 (l1 : Int), .bool o1, .int .i64 (n1 : Int)] 32) = wa at *
 clear hNA hwa
 refine (HL2.out _ HW.out).mono ?_
 rintro e w3 ho
 obtain ⟨⟨v2, rfl, hown⟩, hb⟩ := ho
 have HR2 := hidp (RowP.of_own hown)
 clear hown
 replace HC := hidp (HC.out.keep hb)
 replace HA := hidp (HA.out.keep hb)
 replace HW := hidp (HW.out.below hb)
 replace HP := hidp (HP.out.below hb)
 replace HR1 := hidp (HR1.out.below hb)
 replace HN1 := hidp (HN1.out.keep hb)
 replace HB := hidp (Bgo HB.out hb)
 clear hb
 have hb := Bnew (B0 w3) (.cells #[.int .u32 (l1 : Int), .bool o1, .int .i64 (n1 : Int)] 32)
 have HN2 := hidp (Held.new w3 32 #[.int .u32 (l1 : Int), .bool o1, .int .i64 (n1 : Int)])
 replace HC := hidp (HC.out.keep hb)
 replace HA := hidp (HA.out.keep hb)
 replace HW := hidp (HW.out.below hb)
 replace HP := hidp (HP.out.below hb)
 replace HR1 := hidp (HR1.out.below hb)
 replace HR2 := hidp (HR2.out.below hb)
 replace HN1 := hidp (HN1.out.keep hb)
 replace HB := hidp (Bgo HB.out hb)
 clear hb
 clear x0 x1 x2 y0 y1 y2
 obtain ⟨x0, x1, x2⟩ := HC.out.three
 obtain ⟨y0, y1, y2⟩ := HA.out.three
 go_wp2_with fail
 generalize hNB : w3.heap.size = NB at *
 generalize hwb : w3.alloc (.cells #[.int .u32 (l1 : Int), .bool o1, .int .i64 (n1 : Int)] 32) = wb at *
 clear hNB hwb
 refine (HA1.out _ HW.out HP.out).mono ?_
 rintro e w4 ho
 obtain ⟨⟨B1, d1, rfl, hw⟩, hb⟩ := ho
 have HV1 := hidp hw
 clear hw
 replace HC := hidp (HC.out.keep hb)
 replace HA := hidp (HA.out.keep hb)
 replace HW := hidp (HW.out.below hb)
 replace HP := hidp (HP.out.below hb)
 replace HR1 := hidp (HR1.out.below hb)
 replace HR2 := hidp (HR2.out.below hb)
 replace HN1 := hidp (HN1.out.keep hb)
 replace HN2 := hidp (HN2.out.keep hb)
 replace HB := hidp (Bgo HB.out hb)
 clear hb
 clear x0 x1 x2 y0 y1 y2
 obtain ⟨x0, x1, x2⟩ := HC.out.three
 obtain ⟨y0, y1, y2⟩ := HA.out.three
 go_wp2_with fail
 refine (HA2.out _ HW.out HP.out).mono ?_
 rintro e w5 ho
 obtain ⟨⟨g2, d2, rfl, hrow, _⟩, hb⟩ := ho
 have HV2 := hidp (WV.of_row hrow HXL.out)
 clear hrow
 replace HC := hidp (HC.out.keep hb)
 replace HA := hidp (HA.out.keep hb)
 replace HW := hidp (HW.out.below hb)
 replace HP := hidp (HP.out.below hb)
 replace HR1 := hidp (HR1.out.below hb)
 replace HR2 := hidp (HR2.out.below hb)
 replace HN1 := hidp (HN1.out.keep hb)
 replace HN2 := hidp (HN2.out.keep hb)
 replace HV1 := hidp (HV1.out.below hb)
 replace HB := hidp (Bgo HB.out hb)
 clear hb x0 x1 x2 y0 y1 y2
 obtain ⟨n0, n1', n2⟩ := HN1.out.three
 obtain ⟨m0, m1, m2⟩ := HN2.out.three
 go_wp2_with fail
 refine (Pairs_same es _ _ _ HR1.out HR2.out).mono ?_
 rintro e w6 ⟨rfl, k6, rfl⟩
 have hb := Bdraw (B0 w5) k6
 replace HV1 := hidp (HV1.out.below hb)
 replace HV2 := hidp (HV2.out.below hb)
 clear hb
 go_wp2_with fail
 refine (Words_same ((List.range m).map xa) m (hidp (by simp)) _ _ _ _ (by unfold maxLen; omega) _ _ _ (hidp HV1.out.reads) (hidp HV2.out.reads)).mono ?_
 rintro e w7 ⟨rfl, k7, rfl⟩
 replace HB := hidp (Bdraw HB.out (k6 + k7))
 go_wp2_with fail
 refine (live27_c _).mono ?_
 rintro e w19 ⟨rfl, hb⟩
 replace HB := hidp (Bgo HB.out hb)
 clear hb
 go_wp2
 go_ret
 exact ⟨rfl, HB.out⟩

theorem RedoLogs_calls (t p s u : Int) (A A2 : Option Addr) (c c2 st : Nat) (ws : List Nat) (l : List PairV) (hst : st < 2 ^ 32) (hwc : ws.length <= c) (hcm : c <= maxLen) (h64 : ∀ x ∈ ws, x < 2 ^ 64) (hlc : l.length <= c2) (hcm2 : c2 <= maxLen) (hlo : ∀ a ∈ l, a.Ok) (W : World)
  (HR : Hid (Reads W W.heap.size 1 A ws.length (wordVs ws))) (hP : PairVs W A2 l) :
  Calls Try.prog 3 #[.agg #[.int .i64 t, .int .i64 p, .int .i64 s], .slice A ws.length c, .agg #[.int .i64 u, .int .u32 (st : Int), .slice A2 l.length c2]] W (Keeps W) := by
 by_cases hf : ws.length <= 3000 /\ l.length <= 200
 ·have hW := WV.of_reads HR.out (Nat.le_refl _) h64 hwc hcm
  have hf64 : ∀ i, (fun i => ws.getD i 0) i < 2 ^ 64 := fun i => getD_64 h64 i
  by_cases hok : okW t p s ws.length = true /\ 0 <= u /\ u <= t
  ·obtain ⟨h1, h2, h3⟩ := hok
   obtain ⟨hr, _⟩ := okW_right h1
   have hri := (rightB_iff t p s).1 hr
   have e1 : ((t.toNat : Nat) : Int) = t := by omega
   have e2 : ((p.toNat : Nat) : Int) = p := by omega
   have e3 : ((s.toNat : Nat) : Int) = s := by omega
   have e4 : ((u.toNat : Nat) : Int) = u := by omega
   have h1' : okW (t.toNat : Int) (p.toNat : Int) (s.toNat : Int) ws.length = true := by rw [e1, e2, e3]; exact h1
   have hu : u.toNat <= t.toNat := by omega
   obtain ⟨XL, hXL⟩ : ∃ X, logR t.toNat p.toNat (fun i => ws.getD i 0) u.toNat = X := ⟨_, rfl⟩
   have HL1 : Hid (∀ w, WV w A ws.length c (fun i => ws.getD i 0) -> Calls Try.prog 8 #[.agg #[.int .i64 t, .int .i64 p, .int .i64 s], .slice A ws.length c, .int .i64 u] w fun e w' => outL XL e w' /\ Below w.heap.size w w') := hidp (fun w h => by have := rdLog_in XL hXL h1' hu h; rw [e1, e2, e3, e4] at this; exact this)
   have HL2 : Hid (∀ w, WV w A ws.length c (fun i => ws.getD i 0) -> Calls Try.prog 9 #[.agg #[.int .i64 t, .int .i64 p, .int .i64 s], .slice A ws.length c, .int .i64 u] w fun e w' => logV XL e w w' /\ Below w.heap.size w w') := hidp (fun w h => by have := r27Log_in XL hXL h1' hu h; rw [e1, e2, e3, e4] at this; exact this)
   by_cases hk : l.length <= 96
   ·obtain ⟨XA, hXA⟩ : ∃ X, layR t.toNat p.toNat (fun i => ws.getD i 0) u.toNat st l = X := ⟨_, rfl⟩
    have HA1 : Hid (∀ w, WV w A ws.length c (fun i => ws.getD i 0) -> PairVs w A2 l -> Calls Try.prog 10 #[.agg #[.int .i64 t, .int .i64 p, .int .i64 s], .slice A ws.length c, .int .i64 u, .int .u32 (st : Int), .slice A2 l.length c2] w fun e w' => outW XA ws.length e w' /\ Below w.heap.size w w') := hidp (fun w h hp => by have := rdLay_in XA l rfl hXA h1' hu hk hlc hcm2 hst hlo h hp; rw [e1, e2, e3, e4] at this; exact this)
    have HA2 : Hid (∀ w, WV w A ws.length c (fun i => ws.getD i 0) -> PairVs w A2 l -> Calls Try.prog 11 #[.agg #[.int .i64 t, .int .i64 p, .int .i64 s], .slice A ws.length c, .int .i64 u, .int .u32 (st : Int), .slice A2 l.length c2] w fun e w' => wordsV XA ws.length e w w' /\ Below w.heap.size w w') := hidp (fun w h hp => by have := r27Lay_in XA l _ rfl hXA h1' hu hk hlc hcm2 hst hlo h hp; rw [e1, e2, e3, e4] at this; exact this)
    have hx : ∀ x, XA = some x -> ∀ i, i < ws.length -> x i < 2 ^ 64 := fun x e i _ => by
     subst e
     unfold layR at hXA
     split at hXA
     ·rename_i h5
      injection hXA with hXA
      rw [<- hXA]
      have h6 := layTo_lt (u := u.toNat) hf64 h5.2 (fun a ha => (hlo a ha).val) (by have : rdN t.toNat p.toNat = 30 + 4 * t.toNat + 6 * p.toNat := rfl; omega) l.length (Nat.le_refl _)
      by_cases e : i = rdT t.toNat p.toNat u.toNat
      ·subst e
       rw [updF_same]
       omega
      ·rw [updF_other _ _ e]; exact h6 i
     ·cases hXA
    cases XL with
    | none => cases XA with
     | none => exact RedoLogs_nn t p s u A A2 _ c _ c2 st l _ hf.1 hf.2 W HL1 HL2 HA1 HA2 hW hP
     | some x => exact RedoLogs_ns t p s u A A2 _ c _ c2 st l _ x hf.1 hf.2 W HL1 HL2 HA1 HA2 hW hP (hx x rfl)
    | some y =>
     obtain ⟨⟨a, b, d⟩, es⟩ := y
     cases XA with
     | none => exact RedoLogs_sn t p s u A A2 _ c _ c2 st l _ a d b es hf.1 hf.2 W HL1 HL2 HA1 HA2 hW hP
     | some x => exact RedoLogs_ss t p s u A A2 _ c _ c2 st l _ a d b es x hf.1 hf.2 W HL1 HL2 HA1 HA2 hW hP (hx x rfl)
   ·have HA1 : Hid (∀ w, WV w A ws.length c (fun i => ws.getD i 0) -> PairVs w A2 l -> Calls Try.prog 10 #[.agg #[.int .i64 t, .int .i64 p, .int .i64 s], .slice A ws.length c, .int .i64 u, .int .u32 (st : Int), .slice A2 l.length c2] w fun e w' => outW none ws.length e w' /\ Below w.heap.size w w') := hidp (fun w h hp => rdLay_no u st hst (Nat.le_trans hlc hcm2) (.inr (.inr (.inr (by omega)))))
    have HA2 : Hid (∀ w, WV w A ws.length c (fun i => ws.getD i 0) -> PairVs w A2 l -> Calls Try.prog 11 #[.agg #[.int .i64 t, .int .i64 p, .int .i64 s], .slice A ws.length c, .int .i64 u, .int .u32 (st : Int), .slice A2 l.length c2] w fun e w' => wordsV none ws.length e w w' /\ Below w.heap.size w w') := hidp (fun w h hp => r27Lay_many u st h1 h2 h3 (by omega))
    cases XL with
    | none => exact RedoLogs_nn t p s u A A2 _ c _ c2 st l _ hf.1 hf.2 W HL1 HL2 HA1 HA2 hW hP
    | some y =>
     obtain ⟨⟨a, b, d⟩, es⟩ := y
     exact RedoLogs_sn t p s u A A2 _ c _ c2 st l _ a d b es hf.1 hf.2 W HL1 HL2 HA1 HA2 hW hP
  ·have hc : okW t p s ws.length = false \/ (okW t p s ws.length = true /\ (u < 0 \/ t < u)) := by
    cases h1 : okW t p s ws.length
    ·exact .inl rfl
    ·exact .inr ⟨rfl, by
      by_cases h2 : u < 0
      ·exact .inl h2
      ·exact .inr (by
        by_cases h3 : t < u
        ·exact h3
        ·exact absurd ⟨h1, by omega, by omega⟩ hok)⟩
   have HL1 : Hid (∀ w, WV w A ws.length c (fun i => ws.getD i 0) -> Calls Try.prog 8 #[.agg #[.int .i64 t, .int .i64 p, .int .i64 s], .slice A ws.length c, .int .i64 u] w fun e w' => outL none e w' /\ Below w.heap.size w w') := hidp (fun w h => rdLog_no u hc)
   have HL2 : Hid (∀ w, WV w A ws.length c (fun i => ws.getD i 0) -> Calls Try.prog 9 #[.agg #[.int .i64 t, .int .i64 p, .int .i64 s], .slice A ws.length c, .int .i64 u] w fun e w' => logV none e w w' /\ Below w.heap.size w w') := hidp (fun w h => r27Log_no u hc)
   have HA1 : Hid (∀ w, WV w A ws.length c (fun i => ws.getD i 0) -> PairVs w A2 l -> Calls Try.prog 10 #[.agg #[.int .i64 t, .int .i64 p, .int .i64 s], .slice A ws.length c, .int .i64 u, .int .u32 (st : Int), .slice A2 l.length c2] w fun e w' => outW none ws.length e w' /\ Below w.heap.size w w') := hidp (fun w h hp => rdLay_no u st hst (Nat.le_trans hlc hcm2) (by
    rcases hc with h | ⟨_, h | h⟩
    ·exact .inl h
    ·exact .inr (.inl h)
    ·exact .inr (.inr (.inl h))))
   have HA2 : Hid (∀ w, WV w A ws.length c (fun i => ws.getD i 0) -> PairVs w A2 l -> Calls Try.prog 11 #[.agg #[.int .i64 t, .int .i64 p, .int .i64 s], .slice A ws.length c, .int .i64 u, .int .u32 (st : Int), .slice A2 l.length c2] w fun e w' => wordsV none ws.length e w w' /\ Below w.heap.size w w') := hidp (fun w h hp => by
    rcases hc with h | ⟨h1, h2⟩
    ·exact r27Lay_bad u st h
    ·rcases Int.lt_or_le u 0 with h3 | h3
     ·exact r27Lay_low u st h1 h3
     ·exact r27Lay_high u st h1 h3 (by omega))
   exact RedoLogs_nn t p s u A A2 _ c _ c2 st l _ hf.1 hf.2 W HL1 HL2 HA1 HA2 hW hP
 ·exact RedoLogs_many t p s u A A2 _ c _ c2 st hf W
end
end Go.Proofs.Ytmjkljdnioochaa

namespace Go.Proofs.Ytmjkljdnioochaa
open Go.ChangeShapes Go.WideShapes Go.ChangeAt Go.RowKit
set_option linter.unusedVariables false
set_option linter.unusedSimpArgs false
section
set_option maxRecDepth 100000 in
theorem open_conf {H : Type} {enc : TypeId × Value -> H} {W : World} {b base : Nat} {sp : Nat -> Bool} {held : Bool} {v : Value} {d : DataW H} {p : List MemPlace}
  (hv : Value.okWide Try.prog W .any b 23 v) (h : DataW.Trod enc Try.prog W base sp held 23 v d p) :
  ∃ (t q s : Int), v = .agg #[.int .i64 t, .int .i64 q, .int .i64 s] := by
 obtain ⟨v0, v1, v2, y0, y1, y2, m, rfl, rfl, rfl, h0, h1, h2⟩ := Joins.open_agg3 Try.underlying23 (by kernel_rfl) (by kernel_rfl) hv h
 obtain ⟨a, e0, _, w0⟩ := DataW.trod_int Try.underlying3 h0
 obtain ⟨c, e1, _, w1⟩ := DataW.trod_int Try.underlying3 h1
 obtain ⟨k, e2, _, w2⟩ := DataW.trod_int Try.underlying3 h2
 simp at e0 e1 e2
 subst e0 e1 e2
 exact ⟨a, c, k, rfl⟩
end
end Go.Proofs.Ytmjkljdnioochaa
