/-
  The walk of ClassFits.
-/
import Derived.Test.YtkgmikcddnahgaaDoorClassWalks
import Derived.BigQuiet
namespace Go.Proofs.YtkgmikcddnahgaaDoor
open Go.ChangeShapes Go.WideShapes Go.ChangeAt Go.RowKit
set_option linter.unusedVariables false
set_option linter.unusedSimpArgs false

theorem held_at {s : Int} {w : World} {g : Nat} {t : TypeId} (h : Held w g t (rowTo s 9)) {k : Nat} (hk : k < 9) : w.cell? ⟨g, k, none⟩ = some (.int .i64 ((sizeN s (k : Int) : Nat) : Int)) := by
  rw [h.cell k, ← Array.getElem?_toList, rowTo_full, List.getElem?_map, sizesTo_at s hk]
  rfl
theorem clSlots_n (k n : Nat) (hk : k < 9) (hn : slotN k = n) (w : World) (hT : SlotsLaid w) :
    Calls Tryd.prog 6 #[.int .i64 (k : Int)] w fun e w' => e = .returned (.int .i64 (n : Int)) ∧ w = w' := by
  have := clSlots_c (k : Int) (by omega) (by omega) w hT
  rw [slotI_nat, hn] at this
  exact this

set_option maxHeartbeats 2000000 in
theorem ClassFits_out (s z : Int) (hs : s < 10 ∨ 20 < s) (w : World) (hT : SlotsLaid w) :
    Calls Tryd.prog 5 #[.int .i64 s, .int .i64 z] w (Keeps w) := by
  have HP := hidp (pageS_zero.2 hs)
  have HT := hidp hT
  clear hT
  by_cases h1 : s < 10
  all_goals
    go_enter Tryd.func5, Tryd.ntmps5
    go_wp2_with fail
    refine (clTable_no s HP.out _).mono ?_
    rintro e w1 ⟨rfl, hb1⟩
    go_wp2_with fail
    refine (live_c _ (HT.out.below hb1)).mono ?_
    rintro e w2 ⟨rfl, hb2⟩
    go_wp2
    go_ret
    exact ⟨rfl, Bgo (Bgo (B0 _) hb1) hb2⟩

set_option maxHeartbeats 1600000 in
theorem ClassFits_in (n : Nat) (z : Int) (hz0 : -9223372036854775808 ≤ z) (hz1 : z ≤ 9223372036854775807) (hn : 10 ≤ n) (hn2 : n ≤ 20) (w : World) (hT : SlotsLaid w) :
    Calls Tryd.prog 5 #[.int .i64 (n : Int), .int .i64 z] w (Keeps w) := by
  have hin : (10 : Int) ≤ (n : Int) ∧ (n : Int) ≤ 20 := ⟨by omega, by omega⟩
  have HF := hidp (fun (k : Nat) (hk : k < 9) => size_facts hin hk)
  have HY := hidp (mt (pageS_zero (s := (n : Int))).1 (by omega))
  obtain ⟨b1, b2⟩ := pow_bounds n hn2
  have b3 := Nat.pow_le_pow_right (show 0 < 2 by omega) hn
  have HS0 := shl_one n hn2
  have HPS0 : pageS (n : Int) = 2 ^ n := by rw [pageS_yes hin]; simp
  obtain ⟨p, hp⟩ : ∃ p, p = 2 ^ n := ⟨_, rfl⟩
  rw [← hp] at b1 b2 b3 HS0 HPS0
  have HS := hidp ((IntWalk.i64_left _).symm.trans HS0)
  have HPS := hidp HPS0
  have HT := hidp hT
  clear hT hp HS0 HPS0 hin
  go_enter Tryd.func5, Tryd.ntmps5
  go_wp2_with fail
  rw [HS.out]
  refine (clTable_yes (n : Int) HY.out _ HT.out).mono ?_
  rintro e w1 ⟨g, rfl, hh, hg, hb1⟩
  have HH := hidp hh
  have HB := hidp hb1
  have HT1 := hidp (HT.out.below hb1)
  clear hh hb1
  go_wp2
  go_loopw [7] (fun i wr => ∃ k m : Nat, k ≤ 9 ∧ i = .int .i64 k ∧ wr = w1.drewN m) (fun i _ => 9 - (intOf i).toNat)
  case atStart => exact ⟨0, 0, by omega, rfl, rfl⟩
  case round =>
    obtain ⟨k, m, hk, rfl, rfl⟩ := hrel
    by_cases hlt : k < 9
    · have hc := held_at HH.out hlt
      obtain ⟨f1, f2, f3, f4, f5, f6⟩ := HF.out k hlt
      rw [HPS.out] at f3 f4
      have hsl := slotN_in hlt
      obtain ⟨x, hx⟩ : ∃ x, sizeN (n : Int) (k : Int) = x := ⟨_, rfl⟩
      obtain ⟨c, hcn⟩ : ∃ c, slotN k = c := ⟨_, rfl⟩
      rw [hx] at hc f1 f2 f3 f4 f6
      rw [hcn] at f3 hsl
      have q1 : ((x : Int) % 16 != 0) = false := by simp; omega
      have q1' : (((x : Int).tmod 16) != 0) = false := by rw [Int.tmod_eq_emod_of_nonneg (by omega)]; exact q1
      have q2 : decide ((x : Int) < 16) = false := by simp; omega
      have q3 : IntKind.i64.wrap ((x : Int) * (c : Int)) = ((x * c : Nat) : Int) := by
        rw [show (x : Int) * (c : Int) = ((x * c : Nat) : Int) by push_cast; rfl]
        generalize x * c = y at *
        simp only [IntKind.wrap, IntKind.bits, IntKind.signed]; simp; omega
      obtain ⟨y0, hy0⟩ : ∃ y0, x * c = y0 := ⟨_, rfl⟩
      rw [hy0] at f3 q3
      have q3' : wrap64 ((x : Int) * (c : Int)) = (y0 : Int) := (IntWalk.i64_left _).symm.trans q3
      have q4 : decide ((p : Int) < (y0 : Int)) = false := by simp; omega
      have q4' : decide ((p : Int) < wrap64 ((x : Int) * (c : Int))) = false := by rw [q3']; exact q4
      have q4n : decide (p < y0) = false := by simp; omega
      clear hy0
      have HCN := hidp hcn
      by_cases h0 : k = 0
      · subst h0
        clear f5 f6 hx hcn
        go_wp2
        go_big_quiet ((go_at_call 6; first | exact quiet_same (clSlots_n 0 c (by omega) HCN.out _ (HT1.out.drewN _)) | exact quiet_add_same (clSlots_n 0 c (by omega) HCN.out _ (HT1.out.drewN _))))
        go_wp2
        go_roundw
        case rel => exact ⟨1, _, by omega, by go_num, rfl⟩
        case measure => simp [intOf]
      · have h1 : k - 1 < 9 := by omega
        have hc2 := held_at HH.out h1
        have f7 := f6 (by omega)
        obtain ⟨y, hy⟩ : ∃ y, sizeN (n : Int) ((k - 1 : Nat) : Int) = y := ⟨_, rfl⟩
        rw [hy] at hc2 f7
        have q5 : decide ((0 : Int) < (k : Int)) = true := by simp; omega
        have q6 : decide ((x : Int) ≤ (y : Int)) = false := by simp; omega
        have q6n : decide (x ≤ y) = false := by simp; omega
        have q5n : decide (0 < k) = true := by simp; omega
        have q7 : ((k : Int) - 1) = ((k - 1 : Nat) : Int) := by omega
        clear f5 f6 hx hcn hy
        go_wp2
        go_big_quiet ((go_at_call 6; first | exact quiet_same (clSlots_n k c (by omega) HCN.out _ (HT1.out.drewN _)) | exact quiet_add_same (clSlots_n k c (by omega) HCN.out _ (HT1.out.drewN _))))
        go_wp2
        go_roundw
        case rel => exact ⟨k + 1, _, by omega, by go_num, rfl⟩
        case measure => simp [intOf]; omega
    · obtain rfl : k = 9 := by omega
      have hhalf := classB_half (s := (n : Int)) (z := z) ⟨by omega, by omega⟩
      rw [HPS.out] at hhalf
      cases hcl : classOf (n : Int) z with
      | none =>
        rw [(classK_no hcl).2] at hhalf
        have hno := of_decide_eq_false hhalf.symm
        have HCL := hidp hcl
        clear hcl hhalf
        by_cases h1 : z < 1
        · have u1 : decide (1 ≤ z) = false := by simp; omega
          have HK := hidp (classK_no HCL.out)
          go_wp2_with fail
          refine (clOf_c (n : Int) z _ (HT1.out.drewN m)).mono ?_
          rintro e w2 ⟨rfl, hb2⟩
          rw [HK.out.1, HK.out.2]
          have HT2 := hidp ((HT1.out.drewN m).below hb2)
          go_wp2_with fail
          refine (live_c _ HT2.out).mono ?_
          rintro e w3 ⟨rfl, hb3⟩
          go_wp2
          go_ret
          exact ⟨rfl, Bgo (Bgo (Bdraw (Bgo (B0 _) HB.out) _) hb2) hb3⟩
        · have u2 : decide (z ≤ (p : Int) / 2) = false := by simp; omega
          have HK := hidp (classK_no HCL.out)
          go_wp2_with fail
          refine (clOf_c (n : Int) z _ (HT1.out.drewN m)).mono ?_
          rintro e w2 ⟨rfl, hb2⟩
          rw [HK.out.1, HK.out.2]
          have HT2 := hidp ((HT1.out.drewN m).below hb2)
          go_wp2_with fail
          refine (live_c _ HT2.out).mono ?_
          rintro e w3 ⟨rfl, hb3⟩
          go_wp2
          go_ret
          exact ⟨rfl, Bgo (Bgo (Bdraw (Bgo (B0 _) HB.out) _) hb2) hb3⟩
      | some j =>
        rw [(classK_yes hcl).2] at hhalf
        have hyes := of_decide_eq_true hhalf.symm
        obtain ⟨g1, hk9, g3, g4⟩ := class_some hcl
        have HK := hidp (classK_yes hcl)
        obtain ⟨x, hx⟩ : ∃ x, sizeN (n : Int) (j : Int) = x := ⟨_, rfl⟩
        rw [hx] at g3
        have HX := hidp hx
        have HG := hidp g4
        have hle : z ≤ (p : Int) / 2 := by omega
        clear hcl hhalf hx g4 hyes
        by_cases h0 : j = 0
        · subst h0
          go_wp2_with fail
          refine (clOf_c (n : Int) z _ (HT1.out.drewN m)).mono ?_
          rintro e w2 ⟨rfl, hb2⟩
          rw [HK.out.1, HK.out.2]
          have HT2 := hidp ((HT1.out.drewN m).below hb2)
          have hh2 := (HH.out.drewN m).keep hb2
          have hc := held_at hh2 hk9
          rw [HX.out] at hc
          clear hh2
          go_wp2_with fail
          refine (live_c _ HT2.out).mono ?_
          rintro e w3 ⟨rfl, hb3⟩
          go_wp2
          go_ret
          exact ⟨rfl, Bgo (Bgo (Bdraw (Bgo (B0 _) HB.out) _) hb2) hb3⟩
        · have g5 := HG.out (j - 1) (by omega)
          obtain ⟨y, hy⟩ : ∃ y, sizeN (n : Int) ((j - 1 : Nat) : Int) = y := ⟨_, rfl⟩
          rw [hy] at g5
          have HY2 := hidp hy
          have hj1 : j - 1 < 9 := by omega
          have q7 : ((j : Int) - 1) = ((j - 1 : Nat) : Int) := by omega
          have q8 : ((j : Int) == 0) = false := by simp; omega
          clear hy
          go_wp2_with fail
          refine (clOf_c (n : Int) z _ (HT1.out.drewN m)).mono ?_
          rintro e w2 ⟨rfl, hb2⟩
          rw [HK.out.1, HK.out.2]
          have HT2 := hidp ((HT1.out.drewN m).below hb2)
          have hh2 := (HH.out.drewN m).keep hb2
          have hc := held_at hh2 hk9
          rw [HX.out] at hc
          have hc2 := held_at hh2 hj1
          rw [HY2.out] at hc2
          clear hh2
          go_wp2_with fail
          refine (live_c _ HT2.out).mono ?_
          rintro e w3 ⟨rfl, hb3⟩
          go_wp2
          go_ret
          exact ⟨rfl, Bgo (Bgo (Bdraw (Bgo (B0 _) HB.out) _) hb2) hb3⟩

theorem ClassFits_calls (s z : Int) (hs0 : -9223372036854775808 ≤ s) (hs1 : s ≤ 9223372036854775807) (hz0 : -9223372036854775808 ≤ z) (hz1 : z ≤ 9223372036854775807) (w : World) (hT : SlotsLaid w) :
    Calls Tryd.prog 5 #[.int .i64 s, .int .i64 z] w (Keeps w) := by
  by_cases h : s < 10 ∨ 20 < s
  · exact ClassFits_out s z h w hT
  · obtain ⟨n, rfl⟩ : ∃ n : Nat, s = n := ⟨s.toNat, by omega⟩
    exact ClassFits_in n z hz0 hz1 (by omega) (by omega) w hT

theorem ClassFits_walk {H : Type} {enc : TypeId × Value → H} {W : World} {base : Nat} {args : Array Value} {ds : List (DataW H)} {ps : List MemPlace} (hL : laidMetH Tryd.prog Rows.classFitsRow.laid W)
    (g : Given enc Tryd.prog Tryd.f5 W base args ds ps) : Calls Tryd.prog 5 args W (Keeps W) := by
  have hval := g.ok
  have hA := g.trod
  rw [Tryd.params5] at hA hval
  obtain ⟨v0, vs0, d0, ds0, p0, q0, hargs, rfl, rfl, h0, r0⟩ := trodAll_cons hA
  obtain ⟨v1, vs1, d1, ds1, p1, q1, rfl, rfl, rfl, h1, r1⟩ := trodAll_cons r0
  obtain ⟨rfl, rfl, rfl⟩ := trodAll_nil r1
  obtain rfl : args = #[v0, v1] := by cases args; simp_all
  obtain ⟨s, rfl, rfl, rfl, w0⟩ := open_int Tryd.underlying3 (hval 0 3 v0 rfl rfl) h0
  obtain ⟨z, rfl, rfl, rfl, w1⟩ := open_int Tryd.underlying2 (hval 1 2 v1 rfl rfl) h1
  have b0 := i64_bounds w0
  have b1 := i64_bounds w1
  have hT := slots_laid hL (by kernel_rfl)
  exact ClassFits_calls s z b0.1 b0.2 b1.1 b1.2 W hT

end Go.Proofs.YtkgmikcddnahgaaDoor
