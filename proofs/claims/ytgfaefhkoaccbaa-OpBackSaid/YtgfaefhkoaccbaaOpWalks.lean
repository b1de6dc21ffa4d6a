/-
  The laws OpWords, OpVals, OpBack: the walks. Written by op/gen_laws.py.
-/
import Derived.Test.YtgfaefhkoaccbaaOpLive
import Derived.Test.YtgfaefhkoaccbaaOpRef
import Derived.Test.YtgfaefhkoaccbaaAuditMath
namespace Go.Proofs.Ytgfaefhkoaccbaa
open Go.ChangeShapes Go.WideShapes Go.ChangeAt Go.RowKit Go.Maps
set_option linter.unusedVariables false
set_option linter.unusedSimpArgs false
set_option maxRecDepth 100000
set_option maxHeartbeats 3200000 in
theorem OpWords_calls (k a b x y z : Int) (hk : -9223372036854775808 ≤ k ∧ k ≤ 9223372036854775807) (ha : -9223372036854775808 ≤ a ∧ a ≤ 9223372036854775807) (hb : -9223372036854775808 ≤ b ∧ b ≤ 9223372036854775807) (hx : 0 ≤ x ∧ x < 18446744073709551616) (hy : 0 ≤ y ∧ y < 18446744073709551616) (hz : 0 ≤ z ∧ z < 18446744073709551616) (w : World) : Calls Try.prog 3 #[.agg #[.int .i64 k, .int .i64 a, .int .i64 b], .agg #[.int .u64 x, .int .u64 y, .int .u64 z]] w (Keeps w) := by
  obtain ⟨p0, p1, p2, hp⟩ : ∃ p0 p1 p2 : Int, ofV x y z = .agg #[.int .i64 p0, .int .i64 p1, .int .i64 p2] := by unfold ofV; split <;> exact ⟨_, _, _, rfl⟩
  have HP := hidp hp
  obtain ⟨pb, hpb⟩ : ∃ pb, ofB x y z = pb := ⟨_, rfl⟩
  have HPB := hidp hpb
  clear hp hpb
  obtain ⟨rb, hrb⟩ : ∃ rb, opB k a b = rb := ⟨_, rfl⟩
  have HRB := hidp hrb
  obtain ⟨q0, hq0⟩ : ∃ q, wdI k = q := ⟨_, rfl⟩
  obtain ⟨q1, hq1⟩ : ∃ q, wdI a = q := ⟨_, rfl⟩
  obtain ⟨q2, hq2⟩ : ∃ q, wdI b = q := ⟨_, rfl⟩
  have HQ0 := hidp hq0
  have HQ1 := hidp hq1
  have HQ2 := hidp hq2
  have e1 : (rb == rb) = true := by simp
  have he := fun W => eq3_same q0 q1 q2 W
  have e2 : (pb == pb) = true := by simp
  clear hrb hq0 hq1 hq2
  have HX := hidp ((Held.new w 23 #[.int .i64 k, .int .i64 a, .int .i64 b]).alloc (.cells #[.int .u64 x, .int .u64 y, .int .u64 z] 25))
  have HY := hidp (Held.new2 w (.cells #[.int .i64 k, .int .i64 a, .int .i64 b] 23) 25 #[.int .u64 x, .int .u64 y, .int .u64 z])
  have HB := hidp (Bnew (Bnew (B0 w) (.cells #[.int .i64 k, .int .i64 a, .int .i64 b] 23)) (.cells #[.int .u64 x, .int .u64 y, .int .u64 z] 25))
  obtain ⟨x0, x1, x2⟩ := HX.out.three
  obtain ⟨y0, y1, y2⟩ := HY.out.three
  go_enter Try.func3, Try.ntmps3
  go_wp2_with fail
  refine (opOf_c x y z hx hy hz _).mono ?_
  rintro e w1 ⟨rfl, hb⟩
  rw [HP.out, HPB.out]
  replace HX := hidp (HX.out.keep hb)
  replace HY := hidp (HY.out.keep hb)
  replace HB := hidp (Bgo HB.out hb)
  clear hb
  have HA := hidp (Held.new w1 23 #[.int .i64 p0, .int .i64 p1, .int .i64 p2])
  replace HX := hidp (HX.out.alloc (.cells #[.int .i64 p0, .int .i64 p1, .int .i64 p2] 23))
  replace HY := hidp (HY.out.alloc (.cells #[.int .i64 p0, .int .i64 p1, .int .i64 p2] 23))
  replace HB := hidp (Bnew HB.out (.cells #[.int .i64 p0, .int .i64 p1, .int .i64 p2] 23))
  clear x0 x1 x2 y0 y1 y2
  obtain ⟨x0, x1, x2⟩ := HX.out.three
  obtain ⟨y0, y1, y2⟩ := HY.out.three
  obtain ⟨a0, a1, a2⟩ := HA.out.three
  go_wp2_with fail
  generalize hNA : w1.heap.size = NA at *
  generalize hWA : w1.alloc (.cells #[.int .i64 p0, .int .i64 p1, .int .i64 p2] 23) = wa at *
  clear hNA hWA
  refine (r22Of_c x y z hx hy hz _).mono ?_
  rintro e w2 ⟨rfl, hb⟩
  rw [HP.out, HPB.out]
  replace HX := hidp (HX.out.keep hb)
  replace HY := hidp (HY.out.keep hb)
  replace HA := hidp (HA.out.keep hb)
  replace HB := hidp (Bgo HB.out hb)
  clear hb
  have HC := hidp (Held.new w2 23 #[.int .i64 p0, .int .i64 p1, .int .i64 p2])
  replace HX := hidp (HX.out.alloc (.cells #[.int .i64 p0, .int .i64 p1, .int .i64 p2] 23))
  replace HY := hidp (HY.out.alloc (.cells #[.int .i64 p0, .int .i64 p1, .int .i64 p2] 23))
  replace HA := hidp (HA.out.alloc (.cells #[.int .i64 p0, .int .i64 p1, .int .i64 p2] 23))
  replace HB := hidp (Bnew HB.out (.cells #[.int .i64 p0, .int .i64 p1, .int .i64 p2] 23))
  clear x0 x1 x2 y0 y1 y2 a0 a1 a2
  obtain ⟨x0, x1, x2⟩ := HX.out.three
  obtain ⟨y0, y1, y2⟩ := HY.out.three
  obtain ⟨a0, a1, a2⟩ := HA.out.three
  obtain ⟨c0, c1, c2⟩ := HC.out.three
  go_wp2_with fail
  generalize hNB : w2.heap.size = NB at *
  generalize hWB : w2.alloc (.cells #[.int .i64 p0, .int .i64 p1, .int .i64 p2] 23) = wb at *
  clear hNB hWB HY
  replace HX := hidp (HX.out.keep (Bdrew (B0 _)))
  replace HA := hidp (HA.out.keep (Bdrew (B0 _)))
  replace HC := hidp (HC.out.keep (Bdrew (B0 _)))
  replace HB := hidp (Bgo HB.out (Bdrew (B0 _)))
  refine wp_region_held_drew (S := (fun w' => (w'.cell? ⟨w.heap.size, 0, none⟩ = some (.int .i64 k) ∧ w'.cell? ⟨w.heap.size, 1, none⟩ = some (.int .i64 a) ∧ w'.cell? ⟨w.heap.size, 2, none⟩ = some (.int .i64 b)) ∧ (w'.cell? ⟨NA, 0, none⟩ = some (.int .i64 p0) ∧ w'.cell? ⟨NA, 1, none⟩ = some (.int .i64 p1) ∧ w'.cell? ⟨NA, 2, none⟩ = some (.int .i64 p2)) ∧ (w'.cell? ⟨NB, 0, none⟩ = some (.int .i64 p0) ∧ w'.cell? ⟨NB, 1, none⟩ = some (.int .i64 p1) ∧ w'.cell? ⟨NB, 2, none⟩ = some (.int .i64 p2)))) (by kernel_rfl) ?_ (fun hHeld => ?_)
  · (try dsimp only)
    first | exact ⟨HX.out.three, HA.out.three, HC.out.three⟩ | exact hHeld
  refine tkO (i := 0) (v := ?_) rfl (by kernel_rfl) (fun _ _ _ h => h) (by rfl) ?_ (by assumption) ?_
  rotate_left
  · intro w hSw; (try dsimp only at hSw); go_simp; (try with_reducible rfl)
  (try simp only [Act.put, gA, gB, gC, sA, sB, sC])
  refine tkO (i := 2) (v := ?_) rfl (by kernel_rfl) (fun _ _ _ h => h) (by rfl) ?_ (by assumption) ?_
  rotate_left
  · intro w hSw; (try dsimp only at hSw); go_simp; (try with_reducible rfl)
  (try simp only [Act.put, gA, gB, gC, sA, sB, sC])
  refine wpAnyH_ready (rs := [1]) (by kernel_rfl) (by simp) ?_
  refine AllReadyH.cons (o := _) rfl (fun K hK => ?_) AllReadyH.nil
  go_simp
  refine (opRight_c k a b hk ha hb _).mono ?_
  rintro e w3 ⟨rfl, hb⟩
  rw [HRB.out]
  replace HX := hidp (HX.out.keep hb)
  replace HA := hidp (HA.out.keep hb)
  replace HC := hidp (HC.out.keep hb)
  replace HB := hidp (Bgo HB.out hb)
  clear hb
  
  refine hK.out _ _ ?_ (fun hHeld => ?_)
  · (try dsimp only)
    first | exact ⟨HX.out.three, HA.out.three, HC.out.three⟩ | exact hHeld
  clear hK K
  (try simp only [Act.put, gA, gB, gC, sA, sB, sC])
  refine wpAnyH_ready (rs := [3]) (by kernel_rfl) (by simp) ?_
  refine AllReadyH.cons (o := _) rfl (fun K hK => ?_) AllReadyH.nil
  go_simp
  refine (r22Right_c k a b hk ha hb _).mono ?_
  rintro e w4 ⟨rfl, hb⟩
  rw [HRB.out]
  replace HX := hidp (HX.out.keep hb)
  replace HA := hidp (HA.out.keep hb)
  replace HC := hidp (HC.out.keep hb)
  replace HB := hidp (Bgo HB.out hb)
  clear hb
  
  refine hK.out _ _ ?_ (fun hHeld => ?_)
  · (try dsimp only)
    first | exact ⟨HX.out.three, HA.out.three, HC.out.three⟩ | exact hHeld
  clear hK K
  (try simp only [Act.put, gA, gB, gC, sA, sB, sC])
  refine tkO (i := 4) (v := ?_) rfl (by kernel_rfl) (fun _ _ _ h => h) (by rfl) ?_ (by assumption) ?_
  rotate_left
  · intro w hSw; (try dsimp only at hSw); go_simp; (try with_reducible rfl)
  (try simp only [Act.put, gA, gB, gC, sA, sB, sC])
  refine tkO (i := 5) (v := ?_) rfl (by kernel_rfl) (fun _ _ _ h => h) (by rfl) ?_ (by assumption) ?_
  rotate_left
  · intro w hSw; (try dsimp only at hSw); go_simp; (try with_reducible rfl)
  (try simp only [Act.put, gA, gB, gC, sA, sB, sC])
  refine tkO (i := 6) (v := ?_) rfl (by kernel_rfl) (fun _ _ _ h => h) (by rfl) ?_ (by assumption) ?_
  rotate_left
  · intro w hSw; (try dsimp only at hSw); go_simp; (try with_reducible rfl)
  (try simp only [Act.put, gA, gB, gC, sA, sB, sC])
  refine tkO (i := 8) (v := ?_) rfl (by kernel_rfl) (fun _ _ _ h => h) (by rfl) ?_ (by assumption) ?_
  rotate_left
  · intro w hSw; (try dsimp only at hSw); go_simp; (try with_reducible rfl)
  (try simp only [Act.put, gA, gB, gC, sA, sB, sC])
  refine wpAnyH_ready (rs := [7]) (by kernel_rfl) (by simp) ?_
  refine AllReadyH.cons (o := _) rfl (fun K hK => ?_) AllReadyH.nil
  go_simp
  refine (opWords_c k a b hk ha hb _).mono ?_
  rintro e w5 ⟨rfl, hb⟩
  rw [HQ0.out, HQ1.out, HQ2.out]
  replace HX := hidp (HX.out.keep hb)
  replace HA := hidp (HA.out.keep hb)
  replace HC := hidp (HC.out.keep hb)
  replace HB := hidp (Bgo HB.out hb)
  clear hb
  
  refine hK.out _ _ ?_ (fun hHeld => ?_)
  · (try dsimp only)
    first | exact ⟨HX.out.three, HA.out.three, HC.out.three⟩ | exact hHeld
  clear hK K
  (try simp only [Act.put, gA, gB, gC, sA, sB, sC])
  refine wpAnyH_ready (rs := [9]) (by kernel_rfl) (by simp) ?_
  refine AllReadyH.cons (o := _) rfl (fun K hK => ?_) AllReadyH.nil
  go_simp
  refine (r22Words_c k a b hk ha hb _).mono ?_
  rintro e w6 ⟨rfl, hb⟩
  rw [HQ0.out, HQ1.out, HQ2.out]
  replace HX := hidp (HX.out.keep hb)
  replace HA := hidp (HA.out.keep hb)
  replace HC := hidp (HC.out.keep hb)
  replace HB := hidp (Bgo HB.out hb)
  clear hb
  
  refine hK.out _ _ ?_ (fun hHeld => ?_)
  · (try dsimp only)
    first | exact ⟨HX.out.three, HA.out.three, HC.out.three⟩ | exact hHeld
  clear hK K
  (try simp only [Act.put, gA, gB, gC, sA, sB, sC])
  refine tkO (i := 10) (v := ?_) rfl (by kernel_rfl) (fun _ _ _ h => h) (by rfl) ?_ (by assumption) ?_
  rotate_left
  · intro w hSw; (try dsimp only at hSw); go_simp; (try with_reducible rfl)
  (try simp only [Act.put, gA, gB, gC, sA, sB, sC])
  refine tkO (i := 11) (v := ?_) rfl (by kernel_rfl) (fun _ _ _ h => h) (by rfl) ?_ (by assumption) ?_
  rotate_left
  · intro w hSw; (try dsimp only at hSw); go_simp; (try with_reducible rfl)
  (try simp only [Act.put, gA, gB, gC, sA, sB, sC])
  refine tkO (i := 12) (v := ?_) rfl (by kernel_rfl) (fun _ _ _ h => h) (by rfl) ?_ (by assumption) ?_
  rotate_left
  · intro w hSw; (try dsimp only at hSw); go_simp; (try with_reducible rfl)
  (try simp only [Act.put, gA, gB, gC, sA, sB, sC])
  refine tkO (i := 13) (v := ?_) rfl (by kernel_rfl) (fun _ _ _ h => h) (by rfl) ?_ (by assumption) ?_
  rotate_left
  · intro w hSw; (try dsimp only at hSw); go_simp; (try with_reducible rfl)
  (try simp only [Act.put, gA, gB, gC, sA, sB, sC])
  refine tkO (i := 14) (v := ?_) rfl (by kernel_rfl) (fun _ _ _ h => h) (by rfl) ?_ (by assumption) ?_
  rotate_left
  · intro w hSw; (try dsimp only at hSw); go_simp; (try with_reducible rfl)
  (try simp only [Act.put, gA, gB, gC, sA, sB, sC])
  refine tkO (i := 15) (v := ?_) rfl (by kernel_rfl) (fun _ _ _ h => h) (by rfl) ?_ (by assumption) ?_
  rotate_left
  · intro w hSw; (try dsimp only at hSw); go_simp; (try with_reducible rfl)
  (try simp only [Act.put, gA, gB, gC, sA, sB, sC])
  refine tkO (i := 16) (v := ?_) rfl (by kernel_rfl) (fun _ _ _ h => h) (by rfl) ?_ (by assumption) ?_
  rotate_left
  · intro w hSw; (try dsimp only at hSw); go_simp; (try with_reducible rfl)
  (try simp only [Act.put, gA, gB, gC, sA, sB, sC])
  refine tkO (i := 17) (v := ?_) rfl (by kernel_rfl) (fun _ _ _ h => h) (by rfl) ?_ (by assumption) ?_
  rotate_left
  · intro w hSw; (try dsimp only at hSw); go_simp; (try with_reducible rfl)
  (try simp only [Act.put, gA, gB, gC, sA, sB, sC])
  refine tkO (i := 18) (v := ?_) rfl (by kernel_rfl) (fun _ _ _ h => h) (by rfl) ?_ (by assumption) ?_
  rotate_left
  · intro w hSw; (try dsimp only at hSw); go_simp; (try with_reducible rfl)
  (try simp only [Act.put, gA, gB, gC, sA, sB, sC])
  refine tkO (i := 19) (v := ?_) rfl (by kernel_rfl) (fun _ _ _ h => h) (by rfl) ?_ (by assumption) ?_
  rotate_left
  · intro w hSw; (try dsimp only at hSw); go_simp; (try with_reducible rfl)
  (try simp only [Act.put, gA, gB, gC, sA, sB, sC])
  refine tkO (i := 20) (v := ?_) rfl (by kernel_rfl) (fun _ _ _ h => h) (by rfl) ?_ (by assumption) ?_
  rotate_left
  · intro w hSw; (try dsimp only at hSw); go_simp; (try with_reducible rfl)
  (try simp only [Act.put, gA, gB, gC, sA, sB, sC])
  refine tkO (i := 21) (v := ?_) rfl (by kernel_rfl) (fun _ _ _ h => h) (by rfl) ?_ (by assumption) ?_
  rotate_left
  · intro w hSw; (try dsimp only at hSw); go_simp; (try with_reducible rfl)
  (try simp only [Act.put, gA, gB, gC, sA, sB, sC])
  refine tkO (i := 22) (v := ?_) rfl (by kernel_rfl) (fun _ _ _ h => h) (by rfl) ?_ (by assumption) ?_
  rotate_left
  · intro w hSw; (try dsimp only at hSw); go_simp; (try with_reducible rfl)
  (try simp only [Act.put, gA, gB, gC, sA, sB, sC])
  refine wpAnyH_ready (rs := [23]) (by kernel_rfl) (by simp) ?_
  refine AllReadyH.cons (o := _) rfl (fun K hK => ?_) AllReadyH.nil
  go_simp
  refine (live22_c _).mono ?_
  rintro e w7 ⟨rfl, hb⟩
  replace HX := hidp (HX.out.keep hb)
  replace HA := hidp (HA.out.keep hb)
  replace HC := hidp (HC.out.keep hb)
  replace HB := hidp (Bgo HB.out hb)
  clear hb
  
  refine hK.out _ _ ?_ (fun hHeld => ?_)
  · (try dsimp only)
    first | exact ⟨HX.out.three, HA.out.three, HC.out.three⟩ | exact hHeld
  clear hK K
  (try simp only [Act.put, gA, gB, gC, sA, sB, sC])
  refine tkO (i := 24) (v := ?_) rfl (by kernel_rfl) (fun _ _ _ h => h) (by rfl) ?_ (by assumption) ?_
  rotate_left
  · intro w hSw; (try dsimp only at hSw); go_simp; (try with_reducible rfl)
  (try simp only [Act.put, gA, gB, gC, sA, sB, sC])
  refine tkO (i := 25) (v := ?_) rfl (by kernel_rfl) (fun _ _ _ h => h) (by rfl) ?_ (by assumption) ?_
  rotate_left
  · intro w hSw; (try dsimp only at hSw); go_simp; (try with_reducible rfl)
  (try simp only [Act.put, gA, gB, gC, sA, sB, sC])
  refine wpAnyH_done (by kernel_rfl) ?_ _
  go_wp2
  go_ret
  exact ⟨rfl, HB.out⟩
theorem i64_u32 {v : Int} (h : 0 ≤ v ∧ v < 4294967296) : IntKind.i64.wrap v = v := i64_same (by omega) (by omega)
set_option maxHeartbeats 3200000 in
theorem OpVals_calls (num err out aux v0 v1 v2 v3 : Int) (hnum : -9223372036854775808 ≤ num ∧ num ≤ 9223372036854775807) (herr : -9223372036854775808 ≤ err ∧ err ≤ 9223372036854775807) (hout : -9223372036854775808 ≤ out ∧ out ≤ 9223372036854775807) (haux : -9223372036854775808 ≤ aux ∧ aux ≤ 9223372036854775807) (hv0 : 0 ≤ v0 ∧ v0 < 4294967296) (hv1 : 0 ≤ v1 ∧ v1 < 4294967296) (hv2 : 0 ≤ v2 ∧ v2 < 4294967296) (hv3 : 0 ≤ v3 ∧ v3 < 4294967296) (w : World) : Calls Try.prog 4 #[.int .i64 num, .agg #[.int .i64 err, .int .i64 out, .int .i64 aux], .agg #[.int .u32 v0, .int .u32 v1, .int .u32 v2, .int .u32 v3]] w (Keeps w) := by
  obtain ⟨p0, p1, p2, p3, hp⟩ : ∃ p0 p1 p2 p3 : Int, vlV num err out aux = .agg #[.int .u32 p0, .int .u32 p1, .int .u32 p2, .int .u32 p3] := by unfold vlV; split <;> exact ⟨_, _, _, _, rfl⟩
  have HP := hidp hp
  obtain ⟨pb, hpb⟩ : ∃ pb, vlB num err out aux = pb := ⟨_, rfl⟩
  have HPB := hidp hpb
  clear hp hpb
  have e1 : (pb == pb) = true := by simp
  have he := fun W => eq4_same p0 p1 p2 p3 W
  have d0 := i64_u32 hv0
  have d1 := i64_u32 hv1
  have d2 := i64_u32 hv2
  have d3 := i64_u32 hv3
  have s0 : (v0 == v0) = true := by simp
  have s1 : (v1 == v1) = true := by simp
  have s2 : (v2 == v2) = true := by simp
  have s3 : (v3 == v3) = true := by simp
  have HX := hidp ((Held.new w 34 #[.int .i64 err, .int .i64 out, .int .i64 aux]).alloc (.cells #[.int .u32 v0, .int .u32 v1, .int .u32 v2, .int .u32 v3] 36))
  have HY := hidp (Held.new2 w (.cells #[.int .i64 err, .int .i64 out, .int .i64 aux] 34) 36 #[.int .u32 v0, .int .u32 v1, .int .u32 v2, .int .u32 v3])
  have HB := hidp (Bnew (Bnew (B0 w) (.cells #[.int .i64 err, .int .i64 out, .int .i64 aux] 34)) (.cells #[.int .u32 v0, .int .u32 v1, .int .u32 v2, .int .u32 v3] 36))
  obtain ⟨x0, x1, x2⟩ := HX.out.three
  obtain ⟨y0, y1, y2, y3⟩ := HY.out.fourR
  go_enter Try.func4, Try.ntmps4
  go_wp2_with fail
  refine (opVals_c num err out aux hnum herr hout haux _).mono ?_
  rintro e w1 ⟨rfl, hb⟩
  rw [HP.out, HPB.out]
  replace HX := hidp (HX.out.keep hb)
  replace HY := hidp (HY.out.keep hb)
  replace HB := hidp (Bgo HB.out hb)
  clear hb
  have HA := hidp (Held.new w1 36 #[.int .u32 p0, .int .u32 p1, .int .u32 p2, .int .u32 p3])
  replace HX := hidp (HX.out.alloc (.cells #[.int .u32 p0, .int .u32 p1, .int .u32 p2, .int .u32 p3] 36))
  replace HY := hidp (HY.out.alloc (.cells #[.int .u32 p0, .int .u32 p1, .int .u32 p2, .int .u32 p3] 36))
  replace HB := hidp (Bnew HB.out (.cells #[.int .u32 p0, .int .u32 p1, .int .u32 p2, .int .u32 p3] 36))
  clear x0 x1 x2 y0 y1 y2 y3
  obtain ⟨x0, x1, x2⟩ := HX.out.three
  obtain ⟨y0, y1, y2, y3⟩ := HY.out.fourR
  obtain ⟨a0, a1, a2, a3⟩ := HA.out.fourR
  go_wp2_with fail
  generalize hNA : w1.heap.size = NA at *
  generalize hWA : w1.alloc (.cells #[.int .u32 p0, .int .u32 p1, .int .u32 p2, .int .u32 p3] 36) = wa at *
  clear hNA hWA
  refine (r22Vals_c num err out aux hnum herr hout haux _).mono ?_
  rintro e w2 ⟨rfl, hb⟩
  rw [HP.out, HPB.out]
  replace HX := hidp (HX.out.keep hb)
  replace HY := hidp (HY.out.keep hb)
  replace HA := hidp (HA.out.keep hb)
  replace HB := hidp (Bgo HB.out hb)
  clear hb
  have HC := hidp (Held.new w2 36 #[.int .u32 p0, .int .u32 p1, .int .u32 p2, .int .u32 p3])
  replace HX := hidp (HX.out.alloc (.cells #[.int .u32 p0, .int .u32 p1, .int .u32 p2, .int .u32 p3] 36))
  replace HY := hidp (HY.out.alloc (.cells #[.int .u32 p0, .int .u32 p1, .int .u32 p2, .int .u32 p3] 36))
  replace HA := hidp (HA.out.alloc (.cells #[.int .u32 p0, .int .u32 p1, .int .u32 p2, .int .u32 p3] 36))
  replace HB := hidp (Bnew HB.out (.cells #[.int .u32 p0, .int .u32 p1, .int .u32 p2, .int .u32 p3] 36))
  clear x0 x1 x2 y0 y1 y2 y3 a0 a1 a2 a3
  obtain ⟨x0, x1, x2⟩ := HX.out.three
  obtain ⟨y0, y1, y2, y3⟩ := HY.out.fourR
  obtain ⟨a0, a1, a2, a3⟩ := HA.out.fourR
  obtain ⟨c0, c1, c2, c3⟩ := HC.out.fourR
  go_wp2_with fail
  generalize hNB : w2.heap.size = NB at *
  generalize hWB : w2.alloc (.cells #[.int .u32 p0, .int .u32 p1, .int .u32 p2, .int .u32 p3] 36) = wb at *
  clear hNB hWB
  refine (opOfVals_c v0 v1 v2 v3 hv0 hv1 hv2 hv3 _).mono ?_
  rintro e w3 ⟨rfl, hb⟩
  replace HX := hidp (HX.out.keep hb)
  replace HY := hidp (HY.out.keep hb)
  replace HA := hidp (HA.out.keep hb)
  replace HC := hidp (HC.out.keep hb)
  replace HB := hidp (Bgo HB.out hb)
  clear hb
  have HE := hidp (Held.new w3 34 #[.int .i64 v1, .int .i64 v2, .int .i64 v3])
  replace HX := hidp (HX.out.alloc (.cells #[.int .i64 v1, .int .i64 v2, .int .i64 v3] 34))
  replace HY := hidp (HY.out.alloc (.cells #[.int .i64 v1, .int .i64 v2, .int .i64 v3] 34))
  replace HA := hidp (HA.out.alloc (.cells #[.int .i64 v1, .int .i64 v2, .int .i64 v3] 34))
  replace HC := hidp (HC.out.alloc (.cells #[.int .i64 v1, .int .i64 v2, .int .i64 v3] 34))
  replace HB := hidp (Bnew HB.out (.cells #[.int .i64 v1, .int .i64 v2, .int .i64 v3] 34))
  clear x0 x1 x2 y0 y1 y2 y3 a0 a1 a2 a3 c0 c1 c2 c3
  obtain ⟨x0, x1, x2⟩ := HX.out.three
  obtain ⟨y0, y1, y2, y3⟩ := HY.out.fourR
  obtain ⟨a0, a1, a2, a3⟩ := HA.out.fourR
  obtain ⟨c0, c1, c2, c3⟩ := HC.out.fourR
  obtain ⟨f0, f1, f2⟩ := HE.out.three
  go_wp2_with fail
  refine (live22_c _).mono ?_
  rintro e w19 ⟨rfl, hb⟩
  replace HB := hidp (Bgo HB.out hb)
  clear hb
  go_wp2
  go_ret
  exact ⟨rfl, HB.out⟩
set_option maxHeartbeats 3200000 in
theorem OpBack_tt (k a b num err out aux : Int) (hk : -9223372036854775808 ≤ k ∧ k ≤ 9223372036854775807) (ha : -9223372036854775808 ≤ a ∧ a ≤ 9223372036854775807) (hb : -9223372036854775808 ≤ b ∧ b ≤ 9223372036854775807) (hnum : -9223372036854775808 ≤ num ∧ num ≤ 9223372036854775807) (herr : -9223372036854775808 ≤ err ∧ err ≤ 9223372036854775807) (hout : -9223372036854775808 ≤ out ∧ out ≤ 9223372036854775807) (haux : -9223372036854775808 ≤ aux ∧ aux ≤ 9223372036854775807) (hr : opB k a b = true) (hp : vlB num err out aux = true) (w : World) : Calls Try.prog 5 #[.agg #[.int .i64 k, .int .i64 a, .int .i64 b], .int .i64 num, .agg #[.int .i64 err, .int .i64 out, .int .i64 aux]] w (Keeps w) := by
  have HR := hidp hr
  have HO : Hid (ofV (wdI k) (wdI a) (wdI b) = .agg #[.int .i64 k, .int .i64 a, .int .i64 b] ∧ ofB (wdI k) (wdI a) (wdI b) = true) := hidp (by
    obtain ⟨e1, e2⟩ := of_words hk ha hb
    rw [e1, e2, hr]
    exact ⟨rfl, rfl⟩)
  have HP : Hid (vlV num err out aux = .agg #[.int .u32 num, .int .u32 err, .int .u32 out, .int .u32 aux] ∧ vlB num err out aux = true) := hidp (by
    unfold vlV
    rw [hp]
    exact ⟨rfl, rfl⟩)
  have hq := of_decide_eq_true hp
  have s0 : (num == num) = true := by simp
  have HW0 := hidp (wdI_lt k)
  have HW1 := hidp (wdI_lt a)
  have HW2 := hidp (wdI_lt b)
  obtain ⟨q0, hq0⟩ : ∃ q, wdI k = q := ⟨_, rfl⟩
  obtain ⟨q1, hq1⟩ : ∃ q, wdI a = q := ⟨_, rfl⟩
  obtain ⟨q2, hq2⟩ : ∃ q, wdI b = q := ⟨_, rfl⟩
  rw [hq0] at HW0
  rw [hq1] at HW1
  rw [hq2] at HW2
  rw [hq0, hq1, hq2] at HO
  have HQ0 := hidp hq0
  have HQ1 := hidp hq1
  have HQ2 := hidp hq2
  clear hr hp hq0 hq1 hq2
  have HX := hidp ((Held.new w 23 #[.int .i64 k, .int .i64 a, .int .i64 b]).alloc (.cells #[.int .i64 err, .int .i64 out, .int .i64 aux] 34))
  have HY := hidp (Held.new2 w (.cells #[.int .i64 k, .int .i64 a, .int .i64 b] 23) 34 #[.int .i64 err, .int .i64 out, .int .i64 aux])
  have HB := hidp (Bnew (Bnew (B0 w) (.cells #[.int .i64 k, .int .i64 a, .int .i64 b] 23)) (.cells #[.int .i64 err, .int .i64 out, .int .i64 aux] 34))
  obtain ⟨x0, x1, x2⟩ := HX.out.three
  obtain ⟨y0, y1, y2⟩ := HY.out.three
  go_enter Try.func5, Try.ntmps5
  go_wp2_with fail
  refine (opWords_c k a b hk ha hb _).mono ?_
  rintro e w1 ⟨rfl, hb⟩
  rw [HQ0.out, HQ1.out, HQ2.out]
  replace HX := hidp (HX.out.keep hb)
  replace HY := hidp (HY.out.keep hb)
  replace HB := hidp (Bgo HB.out hb)
  clear hb
  clear x0 x1 x2
  obtain ⟨x0, x1, x2⟩ := HX.out.three
  clear y0 y1 y2
  obtain ⟨y0, y1, y2⟩ := HY.out.three
  go_wp2_with fail
  refine (opOf_c q0 q1 q2 HW0.out HW1.out HW2.out _).mono ?_
  rintro e w2 ⟨rfl, hb⟩
  rw [HO.out.1, HO.out.2]
  replace HX := hidp (HX.out.keep hb)
  replace HY := hidp (HY.out.keep hb)
  replace HB := hidp (Bgo HB.out hb)
  clear hb
  have HA := hidp (Held.new w2 23 #[.int .i64 k, .int .i64 a, .int .i64 b])
  replace HX := hidp (HX.out.alloc (.cells #[.int .i64 k, .int .i64 a, .int .i64 b] 23))
  replace HY := hidp (HY.out.alloc (.cells #[.int .i64 k, .int .i64 a, .int .i64 b] 23))
  replace HB := hidp (Bnew HB.out (.cells #[.int .i64 k, .int .i64 a, .int .i64 b] 23))
  clear x0 x1 x2 y0 y1 y2
  obtain ⟨x0, x1, x2⟩ := HX.out.three
  obtain ⟨y0, y1, y2⟩ := HY.out.three
  obtain ⟨a0, a1, a2⟩ := HA.out.three
  go_wp2_with fail
  generalize hNA : w2.heap.size = NA at *
  generalize hWA : w2.alloc (.cells #[.int .i64 k, .int .i64 a, .int .i64 b] 23) = wa at *
  clear hNA hWA
  refine (opRight_c k a b hk ha hb _).mono ?_
  rintro e w3 ⟨rfl, hb⟩
  rw [HR.out]
  replace HX := hidp (HX.out.keep hb)
  replace HY := hidp (HY.out.keep hb)
  replace HA := hidp (HA.out.keep hb)
  replace HB := hidp (Bgo HB.out hb)
  clear hb
  clear x0 x1 x2
  obtain ⟨x0, x1, x2⟩ := HX.out.three
  clear y0 y1 y2
  obtain ⟨y0, y1, y2⟩ := HY.out.three
  clear a0 a1 a2
  obtain ⟨a0, a1, a2⟩ := HA.out.three
  go_wp2_with fail
  refine (opVals_c num err out aux hnum herr hout haux _).mono ?_
  rintro e w4 ⟨rfl, hb⟩
  rw [HP.out.1, HP.out.2]
  replace HX := hidp (HX.out.keep hb)
  replace HY := hidp (HY.out.keep hb)
  replace HA := hidp (HA.out.keep hb)
  replace HB := hidp (Bgo HB.out hb)
  clear hb
  have HC := hidp (Held.new w4 36 #[.int .u32 num, .int .u32 err, .int .u32 out, .int .u32 aux])
  replace HX := hidp (HX.out.alloc (.cells #[.int .u32 num, .int .u32 err, .int .u32 out, .int .u32 aux] 36))
  replace HY := hidp (HY.out.alloc (.cells #[.int .u32 num, .int .u32 err, .int .u32 out, .int .u32 aux] 36))
  replace HA := hidp (HA.out.alloc (.cells #[.int .u32 num, .int .u32 err, .int .u32 out, .int .u32 aux] 36))
  replace HB := hidp (Bnew HB.out (.cells #[.int .u32 num, .int .u32 err, .int .u32 out, .int .u32 aux] 36))
  clear x0 x1 x2 y0 y1 y2 a0 a1 a2
  obtain ⟨x0, x1, x2⟩ := HX.out.three
  obtain ⟨y0, y1, y2⟩ := HY.out.three
  obtain ⟨a0, a1, a2⟩ := HA.out.three
  obtain ⟨c0, c1, c2, c3⟩ := HC.out.fourR
  go_wp2_with fail
  generalize hNB : w4.heap.size = NB at *
  generalize hWB : w4.alloc (.cells #[.int .u32 num, .int .u32 err, .int .u32 out, .int .u32 aux] 36) = wb at *
  clear hNB hWB
  refine (opOfVals_c num err out aux (by omega) (by omega) (by omega) (by omega) _).mono ?_
  rintro e w5 ⟨rfl, hb⟩
  replace HX := hidp (HX.out.keep hb)
  replace HY := hidp (HY.out.keep hb)
  replace HA := hidp (HA.out.keep hb)
  replace HC := hidp (HC.out.keep hb)
  replace HB := hidp (Bgo HB.out hb)
  clear hb
  have HE := hidp (Held.new w5 34 #[.int .i64 err, .int .i64 out, .int .i64 aux])
  replace HX := hidp (HX.out.alloc (.cells #[.int .i64 err, .int .i64 out, .int .i64 aux] 34))
  replace HY := hidp (HY.out.alloc (.cells #[.int .i64 err, .int .i64 out, .int .i64 aux] 34))
  replace HA := hidp (HA.out.alloc (.cells #[.int .i64 err, .int .i64 out, .int .i64 aux] 34))
  replace HC := hidp (HC.out.alloc (.cells #[.int .i64 err, .int .i64 out, .int .i64 aux] 34))
  replace HB := hidp (Bnew HB.out (.cells #[.int .i64 err, .int .i64 out, .int .i64 aux] 34))
  clear x0 x1 x2 y0 y1 y2 a0 a1 a2 c0 c1 c2 c3
  obtain ⟨x0, x1, x2⟩ := HX.out.three
  obtain ⟨y0, y1, y2⟩ := HY.out.three
  obtain ⟨a0, a1, a2⟩ := HA.out.three
  obtain ⟨c0, c1, c2, c3⟩ := HC.out.fourR
  obtain ⟨f0, f1, f2⟩ := HE.out.three
  go_wp2_with fail
  refine (live22_c _).mono ?_
  rintro e w19 ⟨rfl, hb⟩
  replace HB := hidp (Bgo HB.out hb)
  clear hb
  go_wp2
  go_ret
  exact ⟨rfl, HB.out⟩
set_option maxHeartbeats 3200000 in
theorem OpBack_tf (k a b num err out aux : Int) (hk : -9223372036854775808 ≤ k ∧ k ≤ 9223372036854775807) (ha : -9223372036854775808 ≤ a ∧ a ≤ 9223372036854775807) (hb : -9223372036854775808 ≤ b ∧ b ≤ 9223372036854775807) (hnum : -9223372036854775808 ≤ num ∧ num ≤ 9223372036854775807) (herr : -9223372036854775808 ≤ err ∧ err ≤ 9223372036854775807) (hout : -9223372036854775808 ≤ out ∧ out ≤ 9223372036854775807) (haux : -9223372036854775808 ≤ aux ∧ aux ≤ 9223372036854775807) (hr : opB k a b = true) (hp : vlB num err out aux = false) (w : World) : Calls Try.prog 5 #[.agg #[.int .i64 k, .int .i64 a, .int .i64 b], .int .i64 num, .agg #[.int .i64 err, .int .i64 out, .int .i64 aux]] w (Keeps w) := by
  have HR := hidp hr
  have HO : Hid (ofV (wdI k) (wdI a) (wdI b) = .agg #[.int .i64 k, .int .i64 a, .int .i64 b] ∧ ofB (wdI k) (wdI a) (wdI b) = true) := hidp (by
    obtain ⟨e1, e2⟩ := of_words hk ha hb
    rw [e1, e2, hr]
    exact ⟨rfl, rfl⟩)
  have HP : Hid (vlV num err out aux = .agg #[.int .u32 0, .int .u32 0, .int .u32 0, .int .u32 0] ∧ vlB num err out aux = false) := hidp (by
    unfold vlV
    rw [hp]
    exact ⟨rfl, rfl⟩)
  have he := fun W => eq4_same 0 0 0 0 W
  have HW0 := hidp (wdI_lt k)
  have HW1 := hidp (wdI_lt a)
  have HW2 := hidp (wdI_lt b)
  obtain ⟨q0, hq0⟩ : ∃ q, wdI k = q := ⟨_, rfl⟩
  obtain ⟨q1, hq1⟩ : ∃ q, wdI a = q := ⟨_, rfl⟩
  obtain ⟨q2, hq2⟩ : ∃ q, wdI b = q := ⟨_, rfl⟩
  rw [hq0] at HW0
  rw [hq1] at HW1
  rw [hq2] at HW2
  rw [hq0, hq1, hq2] at HO
  have HQ0 := hidp hq0
  have HQ1 := hidp hq1
  have HQ2 := hidp hq2
  clear hr hp hq0 hq1 hq2
  have HX := hidp ((Held.new w 23 #[.int .i64 k, .int .i64 a, .int .i64 b]).alloc (.cells #[.int .i64 err, .int .i64 out, .int .i64 aux] 34))
  have HY := hidp (Held.new2 w (.cells #[.int .i64 k, .int .i64 a, .int .i64 b] 23) 34 #[.int .i64 err, .int .i64 out, .int .i64 aux])
  have HB := hidp (Bnew (Bnew (B0 w) (.cells #[.int .i64 k, .int .i64 a, .int .i64 b] 23)) (.cells #[.int .i64 err, .int .i64 out, .int .i64 aux] 34))
  obtain ⟨x0, x1, x2⟩ := HX.out.three
  obtain ⟨y0, y1, y2⟩ := HY.out.three
  go_enter Try.func5, Try.ntmps5
  go_wp2_with fail
  refine (opWords_c k a b hk ha hb _).mono ?_
  rintro e w1 ⟨rfl, hb⟩
  rw [HQ0.out, HQ1.out, HQ2.out]
  replace HX := hidp (HX.out.keep hb)
  replace HY := hidp (HY.out.keep hb)
  replace HB := hidp (Bgo HB.out hb)
  clear hb
  clear x0 x1 x2
  obtain ⟨x0, x1, x2⟩ := HX.out.three
  clear y0 y1 y2
  obtain ⟨y0, y1, y2⟩ := HY.out.three
  go_wp2_with fail
  refine (opOf_c q0 q1 q2 HW0.out HW1.out HW2.out _).mono ?_
  rintro e w2 ⟨rfl, hb⟩
  rw [HO.out.1, HO.out.2]
  replace HX := hidp (HX.out.keep hb)
  replace HY := hidp (HY.out.keep hb)
  replace HB := hidp (Bgo HB.out hb)
  clear hb
  have HA := hidp (Held.new w2 23 #[.int .i64 k, .int .i64 a, .int .i64 b])
  replace HX := hidp (HX.out.alloc (.cells #[.int .i64 k, .int .i64 a, .int .i64 b] 23))
  replace HY := hidp (HY.out.alloc (.cells #[.int .i64 k, .int .i64 a, .int .i64 b] 23))
  replace HB := hidp (Bnew HB.out (.cells #[.int .i64 k, .int .i64 a, .int .i64 b] 23))
  clear x0 x1 x2 y0 y1 y2
  obtain ⟨x0, x1, x2⟩ := HX.out.three
  obtain ⟨y0, y1, y2⟩ := HY.out.three
  obtain ⟨a0, a1, a2⟩ := HA.out.three
  go_wp2_with fail
  generalize hNA : w2.heap.size = NA at *
  generalize hWA : w2.alloc (.cells #[.int .i64 k, .int .i64 a, .int .i64 b] 23) = wa at *
  clear hNA hWA
  refine (opRight_c k a b hk ha hb _).mono ?_
  rintro e w3 ⟨rfl, hb⟩
  rw [HR.out]
  replace HX := hidp (HX.out.keep hb)
  replace HY := hidp (HY.out.keep hb)
  replace HA := hidp (HA.out.keep hb)
  replace HB := hidp (Bgo HB.out hb)
  clear hb
  clear x0 x1 x2
  obtain ⟨x0, x1, x2⟩ := HX.out.three
  clear y0 y1 y2
  obtain ⟨y0, y1, y2⟩ := HY.out.three
  clear a0 a1 a2
  obtain ⟨a0, a1, a2⟩ := HA.out.three
  go_wp2_with fail
  refine (opVals_c num err out aux hnum herr hout haux _).mono ?_
  rintro e w4 ⟨rfl, hb⟩
  rw [HP.out.1, HP.out.2]
  replace HX := hidp (HX.out.keep hb)
  replace HY := hidp (HY.out.keep hb)
  replace HA := hidp (HA.out.keep hb)
  replace HB := hidp (Bgo HB.out hb)
  clear hb
  have HC := hidp (Held.new w4 36 #[.int .u32 0, .int .u32 0, .int .u32 0, .int .u32 0])
  replace HX := hidp (HX.out.alloc (.cells #[.int .u32 0, .int .u32 0, .int .u32 0, .int .u32 0] 36))
  replace HY := hidp (HY.out.alloc (.cells #[.int .u32 0, .int .u32 0, .int .u32 0, .int .u32 0] 36))
  replace HA := hidp (HA.out.alloc (.cells #[.int .u32 0, .int .u32 0, .int .u32 0, .int .u32 0] 36))
  replace HB := hidp (Bnew HB.out (.cells #[.int .u32 0, .int .u32 0, .int .u32 0, .int .u32 0] 36))
  clear x0 x1 x2 y0 y1 y2 a0 a1 a2
  obtain ⟨x0, x1, x2⟩ := HX.out.three
  obtain ⟨y0, y1, y2⟩ := HY.out.three
  obtain ⟨a0, a1, a2⟩ := HA.out.three
  obtain ⟨c0, c1, c2, c3⟩ := HC.out.fourR
  go_wp2_with fail
  refine (live22_c _).mono ?_
  rintro e w19 ⟨rfl, hb⟩
  replace HB := hidp (Bgo HB.out hb)
  clear hb
  go_wp2
  go_ret
  exact ⟨rfl, HB.out⟩
set_option maxHeartbeats 3200000 in
theorem OpBack_ft (k a b num err out aux : Int) (hk : -9223372036854775808 ≤ k ∧ k ≤ 9223372036854775807) (ha : -9223372036854775808 ≤ a ∧ a ≤ 9223372036854775807) (hb : -9223372036854775808 ≤ b ∧ b ≤ 9223372036854775807) (hnum : -9223372036854775808 ≤ num ∧ num ≤ 9223372036854775807) (herr : -9223372036854775808 ≤ err ∧ err ≤ 9223372036854775807) (hout : -9223372036854775808 ≤ out ∧ out ≤ 9223372036854775807) (haux : -9223372036854775808 ≤ aux ∧ aux ≤ 9223372036854775807) (hr : opB k a b = false) (hp : vlB num err out aux = true) (w : World) : Calls Try.prog 5 #[.agg #[.int .i64 k, .int .i64 a, .int .i64 b], .int .i64 num, .agg #[.int .i64 err, .int .i64 out, .int .i64 aux]] w (Keeps w) := by
  have HR := hidp hr
  have HO : Hid (ofV (wdI k) (wdI a) (wdI b) = .agg #[.int .i64 0, .int .i64 0, .int .i64 0] ∧ ofB (wdI k) (wdI a) (wdI b) = false) := hidp (by
    obtain ⟨e1, e2⟩ := of_words hk ha hb
    rw [e1, e2, hr]
    exact ⟨rfl, rfl⟩)
  have HP : Hid (vlV num err out aux = .agg #[.int .u32 num, .int .u32 err, .int .u32 out, .int .u32 aux] ∧ vlB num err out aux = true) := hidp (by
    unfold vlV
    rw [hp]
    exact ⟨rfl, rfl⟩)
  have hq := of_decide_eq_true hp
  have s0 : (num == num) = true := by simp
  have HW0 := hidp (wdI_lt k)
  have HW1 := hidp (wdI_lt a)
  have HW2 := hidp (wdI_lt b)
  obtain ⟨q0, hq0⟩ : ∃ q, wdI k = q := ⟨_, rfl⟩
  obtain ⟨q1, hq1⟩ : ∃ q, wdI a = q := ⟨_, rfl⟩
  obtain ⟨q2, hq2⟩ : ∃ q, wdI b = q := ⟨_, rfl⟩
  rw [hq0] at HW0
  rw [hq1] at HW1
  rw [hq2] at HW2
  rw [hq0, hq1, hq2] at HO
  have HQ0 := hidp hq0
  have HQ1 := hidp hq1
  have HQ2 := hidp hq2
  clear hr hp hq0 hq1 hq2
  have HX := hidp ((Held.new w 23 #[.int .i64 k, .int .i64 a, .int .i64 b]).alloc (.cells #[.int .i64 err, .int .i64 out, .int .i64 aux] 34))
  have HY := hidp (Held.new2 w (.cells #[.int .i64 k, .int .i64 a, .int .i64 b] 23) 34 #[.int .i64 err, .int .i64 out, .int .i64 aux])
  have HB := hidp (Bnew (Bnew (B0 w) (.cells #[.int .i64 k, .int .i64 a, .int .i64 b] 23)) (.cells #[.int .i64 err, .int .i64 out, .int .i64 aux] 34))
  obtain ⟨x0, x1, x2⟩ := HX.out.three
  obtain ⟨y0, y1, y2⟩ := HY.out.three
  go_enter Try.func5, Try.ntmps5
  go_wp2_with fail
  refine (opWords_c k a b hk ha hb _).mono ?_
  rintro e w1 ⟨rfl, hb⟩
  rw [HQ0.out, HQ1.out, HQ2.out]
  replace HX := hidp (HX.out.keep hb)
  replace HY := hidp (HY.out.keep hb)
  replace HB := hidp (Bgo HB.out hb)
  clear hb
  clear x0 x1 x2
  obtain ⟨x0, x1, x2⟩ := HX.out.three
  clear y0 y1 y2
  obtain ⟨y0, y1, y2⟩ := HY.out.three
  go_wp2_with fail
  refine (opOf_c q0 q1 q2 HW0.out HW1.out HW2.out _).mono ?_
  rintro e w2 ⟨rfl, hb⟩
  rw [HO.out.1, HO.out.2]
  replace HX := hidp (HX.out.keep hb)
  replace HY := hidp (HY.out.keep hb)
  replace HB := hidp (Bgo HB.out hb)
  clear hb
  have HA := hidp (Held.new w2 23 #[.int .i64 0, .int .i64 0, .int .i64 0])
  replace HX := hidp (HX.out.alloc (.cells #[.int .i64 0, .int .i64 0, .int .i64 0] 23))
  replace HY := hidp (HY.out.alloc (.cells #[.int .i64 0, .int .i64 0, .int .i64 0] 23))
  replace HB := hidp (Bnew HB.out (.cells #[.int .i64 0, .int .i64 0, .int .i64 0] 23))
  clear x0 x1 x2 y0 y1 y2
  obtain ⟨x0, x1, x2⟩ := HX.out.three
  obtain ⟨y0, y1, y2⟩ := HY.out.three
  obtain ⟨a0, a1, a2⟩ := HA.out.three
  go_wp2_with fail
  generalize hNA : w2.heap.size = NA at *
  generalize hWA : w2.alloc (.cells #[.int .i64 0, .int .i64 0, .int .i64 0] 23) = wa at *
  clear hNA hWA
  refine (opRight_c k a b hk ha hb _).mono ?_
  rintro e w3 ⟨rfl, hb⟩
  rw [HR.out]
  replace HX := hidp (HX.out.keep hb)
  replace HY := hidp (HY.out.keep hb)
  replace HA := hidp (HA.out.keep hb)
  replace HB := hidp (Bgo HB.out hb)
  clear hb
  clear x0 x1 x2
  obtain ⟨x0, x1, x2⟩ := HX.out.three
  clear y0 y1 y2
  obtain ⟨y0, y1, y2⟩ := HY.out.three
  clear a0 a1 a2
  obtain ⟨a0, a1, a2⟩ := HA.out.three
  go_wp2_with fail
  refine (opVals_c num err out aux hnum herr hout haux _).mono ?_
  rintro e w4 ⟨rfl, hb⟩
  rw [HP.out.1, HP.out.2]
  replace HX := hidp (HX.out.keep hb)
  replace HY := hidp (HY.out.keep hb)
  replace HA := hidp (HA.out.keep hb)
  replace HB := hidp (Bgo HB.out hb)
  clear hb
  have HC := hidp (Held.new w4 36 #[.int .u32 num, .int .u32 err, .int .u32 out, .int .u32 aux])
  replace HX := hidp (HX.out.alloc (.cells #[.int .u32 num, .int .u32 err, .int .u32 out, .int .u32 aux] 36))
  replace HY := hidp (HY.out.alloc (.cells #[.int .u32 num, .int .u32 err, .int .u32 out, .int .u32 aux] 36))
  replace HA := hidp (HA.out.alloc (.cells #[.int .u32 num, .int .u32 err, .int .u32 out, .int .u32 aux] 36))
  replace HB := hidp (Bnew HB.out (.cells #[.int .u32 num, .int .u32 err, .int .u32 out, .int .u32 aux] 36))
  clear x0 x1 x2 y0 y1 y2 a0 a1 a2
  obtain ⟨x0, x1, x2⟩ := HX.out.three
  obtain ⟨y0, y1, y2⟩ := HY.out.three
  obtain ⟨a0, a1, a2⟩ := HA.out.three
  obtain ⟨c0, c1, c2, c3⟩ := HC.out.fourR
  go_wp2_with fail
  generalize hNB : w4.heap.size = NB at *
  generalize hWB : w4.alloc (.cells #[.int .u32 num, .int .u32 err, .int .u32 out, .int .u32 aux] 36) = wb at *
  clear hNB hWB
  refine (opOfVals_c num err out aux (by omega) (by omega) (by omega) (by omega) _).mono ?_
  rintro e w5 ⟨rfl, hb⟩
  replace HX := hidp (HX.out.keep hb)
  replace HY := hidp (HY.out.keep hb)
  replace HA := hidp (HA.out.keep hb)
  replace HC := hidp (HC.out.keep hb)
  replace HB := hidp (Bgo HB.out hb)
  clear hb
  have HE := hidp (Held.new w5 34 #[.int .i64 err, .int .i64 out, .int .i64 aux])
  replace HX := hidp (HX.out.alloc (.cells #[.int .i64 err, .int .i64 out, .int .i64 aux] 34))
  replace HY := hidp (HY.out.alloc (.cells #[.int .i64 err, .int .i64 out, .int .i64 aux] 34))
  replace HA := hidp (HA.out.alloc (.cells #[.int .i64 err, .int .i64 out, .int .i64 aux] 34))
  replace HC := hidp (HC.out.alloc (.cells #[.int .i64 err, .int .i64 out, .int .i64 aux] 34))
  replace HB := hidp (Bnew HB.out (.cells #[.int .i64 err, .int .i64 out, .int .i64 aux] 34))
  clear x0 x1 x2 y0 y1 y2 a0 a1 a2 c0 c1 c2 c3
  obtain ⟨x0, x1, x2⟩ := HX.out.three
  obtain ⟨y0, y1, y2⟩ := HY.out.three
  obtain ⟨a0, a1, a2⟩ := HA.out.three
  obtain ⟨c0, c1, c2, c3⟩ := HC.out.fourR
  obtain ⟨f0, f1, f2⟩ := HE.out.three
  go_wp2_with fail
  refine (live22_c _).mono ?_
  rintro e w19 ⟨rfl, hb⟩
  replace HB := hidp (Bgo HB.out hb)
  clear hb
  go_wp2
  go_ret
  exact ⟨rfl, HB.out⟩
set_option maxHeartbeats 3200000 in
theorem OpBack_ff (k a b num err out aux : Int) (hk : -9223372036854775808 ≤ k ∧ k ≤ 9223372036854775807) (ha : -9223372036854775808 ≤ a ∧ a ≤ 9223372036854775807) (hb : -9223372036854775808 ≤ b ∧ b ≤ 9223372036854775807) (hnum : -9223372036854775808 ≤ num ∧ num ≤ 9223372036854775807) (herr : -9223372036854775808 ≤ err ∧ err ≤ 9223372036854775807) (hout : -9223372036854775808 ≤ out ∧ out ≤ 9223372036854775807) (haux : -9223372036854775808 ≤ aux ∧ aux ≤ 9223372036854775807) (hr : opB k a b = false) (hp : vlB num err out aux = false) (w : World) : Calls Try.prog 5 #[.agg #[.int .i64 k, .int .i64 a, .int .i64 b], .int .i64 num, .agg #[.int .i64 err, .int .i64 out, .int .i64 aux]] w (Keeps w) := by
  have HR := hidp hr
  have HO : Hid (ofV (wdI k) (wdI a) (wdI b) = .agg #[.int .i64 0, .int .i64 0, .int .i64 0] ∧ ofB (wdI k) (wdI a) (wdI b) = false) := hidp (by
    obtain ⟨e1, e2⟩ := of_words hk ha hb
    rw [e1, e2, hr]
    exact ⟨rfl, rfl⟩)
  have HP : Hid (vlV num err out aux = .agg #[.int .u32 0, .int .u32 0, .int .u32 0, .int .u32 0] ∧ vlB num err out aux = false) := hidp (by
    unfold vlV
    rw [hp]
    exact ⟨rfl, rfl⟩)
  have he := fun W => eq4_same 0 0 0 0 W
  have HW0 := hidp (wdI_lt k)
  have HW1 := hidp (wdI_lt a)
  have HW2 := hidp (wdI_lt b)
  obtain ⟨q0, hq0⟩ : ∃ q, wdI k = q := ⟨_, rfl⟩
  obtain ⟨q1, hq1⟩ : ∃ q, wdI a = q := ⟨_, rfl⟩
  obtain ⟨q2, hq2⟩ : ∃ q, wdI b = q := ⟨_, rfl⟩
  rw [hq0] at HW0
  rw [hq1] at HW1
  rw [hq2] at HW2
  rw [hq0, hq1, hq2] at HO
  have HQ0 := hidp hq0
  have HQ1 := hidp hq1
  have HQ2 := hidp hq2
  clear hr hp hq0 hq1 hq2
  have HX := hidp ((Held.new w 23 #[.int .i64 k, .int .i64 a, .int .i64 b]).alloc (.cells #[.int .i64 err, .int .i64 out, .int .i64 aux] 34))
  have HY := hidp (Held.new2 w (.cells #[.int .i64 k, .int .i64 a, .int .i64 b] 23) 34 #[.int .i64 err, .int .i64 out, .int .i64 aux])
  have HB := hidp (Bnew (Bnew (B0 w) (.cells #[.int .i64 k, .int .i64 a, .int .i64 b] 23)) (.cells #[.int .i64 err, .int .i64 out, .int .i64 aux] 34))
  obtain ⟨x0, x1, x2⟩ := HX.out.three
  obtain ⟨y0, y1, y2⟩ := HY.out.three
  go_enter Try.func5, Try.ntmps5
  go_wp2_with fail
  refine (opWords_c k a b hk ha hb _).mono ?_
  rintro e w1 ⟨rfl, hb⟩
  rw [HQ0.out, HQ1.out, HQ2.out]
  replace HX := hidp (HX.out.keep hb)
  replace HY := hidp (HY.out.keep hb)
  replace HB := hidp (Bgo HB.out hb)
  clear hb
  clear x0 x1 x2
  obtain ⟨x0, x1, x2⟩ := HX.out.three
  clear y0 y1 y2
  obtain ⟨y0, y1, y2⟩ := HY.out.three
  go_wp2_with fail
  refine (opOf_c q0 q1 q2 HW0.out HW1.out HW2.out _).mono ?_
  rintro e w2 ⟨rfl, hb⟩
  rw [HO.out.1, HO.out.2]
  replace HX := hidp (HX.out.keep hb)
  replace HY := hidp (HY.out.keep hb)
  replace HB := hidp (Bgo HB.out hb)
  clear hb
  have HA := hidp (Held.new w2 23 #[.int .i64 0, .int .i64 0, .int .i64 0])
  replace HX := hidp (HX.out.alloc (.cells #[.int .i64 0, .int .i64 0, .int .i64 0] 23))
  replace HY := hidp (HY.out.alloc (.cells #[.int .i64 0, .int .i64 0, .int .i64 0] 23))
  replace HB := hidp (Bnew HB.out (.cells #[.int .i64 0, .int .i64 0, .int .i64 0] 23))
  clear x0 x1 x2 y0 y1 y2
  obtain ⟨x0, x1, x2⟩ := HX.out.three
  obtain ⟨y0, y1, y2⟩ := HY.out.three
  obtain ⟨a0, a1, a2⟩ := HA.out.three
  go_wp2_with fail
  generalize hNA : w2.heap.size = NA at *
  generalize hWA : w2.alloc (.cells #[.int .i64 0, .int .i64 0, .int .i64 0] 23) = wa at *
  clear hNA hWA
  refine (opRight_c k a b hk ha hb _).mono ?_
  rintro e w3 ⟨rfl, hb⟩
  rw [HR.out]
  replace HX := hidp (HX.out.keep hb)
  replace HY := hidp (HY.out.keep hb)
  replace HA := hidp (HA.out.keep hb)
  replace HB := hidp (Bgo HB.out hb)
  clear hb
  clear x0 x1 x2
  obtain ⟨x0, x1, x2⟩ := HX.out.three
  clear y0 y1 y2
  obtain ⟨y0, y1, y2⟩ := HY.out.three
  clear a0 a1 a2
  obtain ⟨a0, a1, a2⟩ := HA.out.three
  go_wp2_with fail
  refine (opVals_c num err out aux hnum herr hout haux _).mono ?_
  rintro e w4 ⟨rfl, hb⟩
  rw [HP.out.1, HP.out.2]
  replace HX := hidp (HX.out.keep hb)
  replace HY := hidp (HY.out.keep hb)
  replace HA := hidp (HA.out.keep hb)
  replace HB := hidp (Bgo HB.out hb)
  clear hb
  have HC := hidp (Held.new w4 36 #[.int .u32 0, .int .u32 0, .int .u32 0, .int .u32 0])
  replace HX := hidp (HX.out.alloc (.cells #[.int .u32 0, .int .u32 0, .int .u32 0, .int .u32 0] 36))
  replace HY := hidp (HY.out.alloc (.cells #[.int .u32 0, .int .u32 0, .int .u32 0, .int .u32 0] 36))
  replace HA := hidp (HA.out.alloc (.cells #[.int .u32 0, .int .u32 0, .int .u32 0, .int .u32 0] 36))
  replace HB := hidp (Bnew HB.out (.cells #[.int .u32 0, .int .u32 0, .int .u32 0, .int .u32 0] 36))
  clear x0 x1 x2 y0 y1 y2 a0 a1 a2
  obtain ⟨x0, x1, x2⟩ := HX.out.three
  obtain ⟨y0, y1, y2⟩ := HY.out.three
  obtain ⟨a0, a1, a2⟩ := HA.out.three
  obtain ⟨c0, c1, c2, c3⟩ := HC.out.fourR
  go_wp2_with fail
  refine (live22_c _).mono ?_
  rintro e w19 ⟨rfl, hb⟩
  replace HB := hidp (Bgo HB.out hb)
  clear hb
  go_wp2
  go_ret
  exact ⟨rfl, HB.out⟩
theorem OpBack_calls (k a b num err out aux : Int) (hk : -9223372036854775808 ≤ k ∧ k ≤ 9223372036854775807) (ha : -9223372036854775808 ≤ a ∧ a ≤ 9223372036854775807) (hb : -9223372036854775808 ≤ b ∧ b ≤ 9223372036854775807) (hnum : -9223372036854775808 ≤ num ∧ num ≤ 9223372036854775807) (herr : -9223372036854775808 ≤ err ∧ err ≤ 9223372036854775807) (hout : -9223372036854775808 ≤ out ∧ out ≤ 9223372036854775807) (haux : -9223372036854775808 ≤ aux ∧ aux ≤ 9223372036854775807) (w : World) : Calls Try.prog 5 #[.agg #[.int .i64 k, .int .i64 a, .int .i64 b], .int .i64 num, .agg #[.int .i64 err, .int .i64 out, .int .i64 aux]] w (Keeps w) := by
  cases hr : opB k a b <;> cases hp : vlB num err out aux
  · exact OpBack_ff k a b num err out aux hk ha hb hnum herr hout haux hr hp w
  · exact OpBack_ft k a b num err out aux hk ha hb hnum herr hout haux hr hp w
  · exact OpBack_tf k a b num err out aux hk ha hb hnum herr hout haux hr hp w
  · exact OpBack_tt k a b num err out aux hk ha hb hnum herr hout haux hr hp w
end Go.Proofs.Ytgfaefhkoaccbaa
