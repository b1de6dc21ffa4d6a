/-
  The walks of SumOf and SumPieces.
-/
import Derived.Test.YtfgfdfnfgfojbaaSum
namespace Go.Proofs.Ytfgfdfnfgfojbaa
open Go.ChangeShapes Go.WideShapes Go.ChangeAt Go.RowKit
set_option linter.unusedVariables false

theorem live_c (w : World) : Calls Try.prog 6 #[] w (Keeps w) := by
  have HF : Hid (Reads (w.alloc (.cells #[.int .u64 0, .int .u64 0, .int .u64 0, .int .u64 0] 25)) (w.heap.size + 1) 1 (some ⟨w.heap.size, 0, none⟩) 4 (wordVs [0, 0, 0, 0])) :=
    hidp ((Reads.of_own (World.ownsRow_lit (base := w.heap.size) (e := 25) (size := 1) w #[.int .u64 0, .int .u64 0, .int .u64 0, .int .u64 0] 4 (Nat.le_refl _) (by unfold maxLen; omega) rfl)).more (by simp))
  go_enter Try.func6, Try.ntmps6
  go_wp2_with fail
  refine (Of_c none 0 [] (by simp) (by unfold maxLen; simp) _ 0 Reads.none_).mono ?_
  rintro e w1 ⟨rfl, rfl⟩
  rw [show SM.ofN [] = 0 from by decide +kernel]
  go_wp2_with fail
  refine (Of_c (some ⟨w.heap.size, 0, none⟩) 4 [0, 0, 0, 0] (by simp) (by unfold maxLen; simp) _ _ HF.out).mono ?_
  rintro e w1 ⟨rfl, rfl⟩
  rw [show SM.ofN [0, 0, 0, 0] = 2324772522 from by decide +kernel]
  go_wp2_with fail
  refine (First_c _).mono ?_
  rintro e w1 ⟨rfl, rfl⟩
  go_wp2
  go_ret
  exact ⟨rfl, (Below.refl _ _).alloc (Nat.le_refl _) _⟩

theorem SumOf_calls (A : Option Addr) (c n : Nat) (ws : List Nat) (HN : Hid (ws.length = n)) (r : Nat) (hr : r < 2 ^ 32) (H64 : Hid (∀ x ∈ ws, x < 2 ^ 64)) (HM : Hid (n ≤ maxLen)) (w : World) (HR : Hid (Reads w w.heap.size 1 A n (wordVs ws))) :
    Calls Try.prog 3 #[.slice A n c, .int .u32 (r : Int)] w (Keeps w) := by
  have hlen : n ≤ 9223372036854775807 := by have := HM.out; unfold maxLen at this; omega
  by_cases h200 : 200 < n
  · go_enter Try.func3, Try.ntmps3
    go_wp2_with fail
    refine (live_c _).mono ?_
    rintro e w' ⟨rfl, hb⟩
    go_wp2
    go_ret
    exact ⟨rfl, hb⟩
  · by_cases h0 : 0 < n
    · obtain ⟨ad, u, rfl, _, hx, hcell⟩ := HR.out.at_ h0
      have hu := wordVs_at ws 0 (by have := HN.out; omega)
      rw [hx] at hu
      injection hu with hu
      subst hu
      have hxl := getD_lt (by omega) H64.out 0
      clear hx
      rw [show ad.add 0 = ad from by simp [Addr.add]] at hcell
      generalize ws.getD 0 0 = x at *
      go_enter Try.func3, Try.ntmps3
      go_wp2_with fail
      refine (Of_n _ _ n ws HN H64 HM _ _ HR.out).mono ?_
      rintro e w1 ⟨rfl, rfl⟩
      go_wp2_with fail
      refine (ROf_n _ _ n ws HN H64 HM _ _ HR.out).mono ?_
      rintro e w1 ⟨rfl, rfl⟩
      go_wp2_with fail
      refine (Next_c r x hr (by omega) _).mono ?_
      rintro e w1 ⟨rfl, rfl⟩
      go_wp2_with fail
      refine (RNext_c r x hr (by omega) _).mono ?_
      rintro e w1 ⟨rfl, rfl⟩
      go_wp2_with fail
      refine (Last_c r hr _).mono ?_
      rintro e w1 ⟨rfl, rfl⟩
      have hsub : 4294967295 - (r : Int) = ((4294967295 - r : Nat) : Int) := by omega
      go_wp2_with fail
      refine (live_c _).mono ?_
      rintro e w' ⟨rfl, hb⟩
      go_wp2
      go_ret
      exact ⟨rfl, hb⟩
    · go_enter Try.func3, Try.ntmps3
      go_wp2_with fail
      refine (Of_n _ _ n ws HN H64 HM _ _ HR.out).mono ?_
      rintro e w1 ⟨rfl, rfl⟩
      go_wp2_with fail
      refine (ROf_n _ _ n ws HN H64 HM _ _ HR.out).mono ?_
      rintro e w1 ⟨rfl, rfl⟩
      go_wp2_with fail
      refine (Next_c r r hr (by omega) _).mono ?_
      rintro e w1 ⟨rfl, rfl⟩
      go_wp2_with fail
      refine (RNext_c r r hr (by omega) _).mono ?_
      rintro e w1 ⟨rfl, rfl⟩
      go_wp2_with fail
      refine (Last_c r hr _).mono ?_
      rintro e w1 ⟨rfl, rfl⟩
      have hsub : 4294967295 - (r : Int) = ((4294967295 - r : Nat) : Int) := by omega
      go_wp2_with fail
      refine (live_c _).mono ?_
      rintro e w' ⟨rfl, hb⟩
      go_wp2
      go_ret
      exact ⟨rfl, hb⟩

theorem SumPieces_calls (A : Option Addr) (c : Nat) (ws : List Nat) (h64 : ∀ x ∈ ws, x < 2 ^ 64) (hc : ws.length ≤ c) (hm : c ≤ maxLen) (w : World) (hR : Reads w w.heap.size 1 A ws.length (wordVs ws)) :
    Calls Try.prog 4 #[.slice A ws.length c] w (Keeps w) := by
  have HR := hidp hR
  have HM := hidp hm
  have H64 := hidp h64
  unfold maxLen at hm
  clear hR h64
  have hlen : ws.length ≤ 9223372036854775807 := by omega
  by_cases h200 : 200 < ws.length
  · go_enter Try.func4, Try.ntmps4
    go_wp2_with fail
    refine (live_c _).mono ?_
    rintro e w' ⟨rfl, hb⟩
    go_wp2
    go_ret
    exact ⟨rfl, hb⟩
  · have HT : Hid (∀ (k m : Nat), k ≤ ws.length → ∀ W : World, (∃ j, W = w.drewN j) → Calls Try.prog 7 #[.slice A k c] W fun e w' => e = .returned (.int .u32 ((4294967295 - SM.regs 4294967295 (ws.take k) : Nat) : Int)) ∧ W = w') := hidp (by
      rintro k m hk W ⟨j, rfl⟩
      have h1 := (HR.out.take hk).drewN j
      rw [wordVs_take] at h1
      have hl : (ws.take k).length = k := by simp; omega
      have h2 := Of_c A c (ws.take k) (fun x hx => H64.out x (List.mem_of_mem_take hx)) (by rw [hl]; have := HM.out; omega) (w.drewN j) w.heap.size (by rw [hl]; exact h1)
      rw [hl] at h2
      exact h2)
    have HB : Hid (∀ k, SM.regs 4294967295 (ws.take k) < 2 ^ 32) := hidp (fun k => SM.regs_lt (by omega) _)
    have H1 : Hid (∀ k, ws.getD k 0 < 2 ^ 64) := hidp (fun k => getD_lt (by omega) H64.out k)
    have HS : Hid (∀ k, k < ws.length → SM.regs 4294967295 (ws.take (k + 1)) = SM.nextN (SM.regs 4294967295 (ws.take k)) (ws.getD k 0)) := hidp (fun k hk => SM.regs_take _ _ _ hk)
    have HV : Hid (∀ k, k < ws.length → (wordVs ws)[k]? = some (.int .u64 ((ws.getD k 0 : Nat) : Int))) := hidp (fun k hk => wordVs_at ws k hk)
    have H0 : Hid (SM.regs 4294967295 (ws.take 0) = 4294967295) := hidp rfl
    have HR2 := HR
    clear HR
    generalize hn : ws.length = n at *
    clear hn
    go_enter Try.func4, Try.ntmps4
    go_wp2_with fail
    refine (First_c _).mono ?_
    rintro e w1 ⟨rfl, rfl⟩
    go_wp2
    go_loopw [3, 4] (fun q i wr => ∃ k m : Nat, k ≤ n ∧ i = .int .i64 k ∧ q = .int .u32 ((SM.regs 4294967295 (ws.take k) : Nat) : Int) ∧ wr = w.drewN m) (fun _ i _ => n - (intOf i).toNat)
    case atStart => exact ⟨0, 0, by omega, rfl, by rw [H0.out]; rfl, rfl⟩
    case round =>
      obtain ⟨k, m, hk, rfl, rfl, rfl⟩ := hrel
      have hq := HB.out k
      by_cases hlt : k < n
      · obtain ⟨ad, u, rfl, _, hx, hcell⟩ := HR2.out.at_ hlt
        have HS := hidp (HS.out k hlt)
        have h64 := H1.out k
        have hq2 := HB.out (k + 1)
        have hu := HV.out k hlt
        rw [hx] at hu
        injection hu with hu
        subst hu
        clear hx
        have HO : Hid (∀ W : World, (∃ j, W = w.drewN j) → Calls Try.prog 7 #[.slice (some ad) (k + 1) c] W fun e w' => e = .returned (.int .u32 ((4294967295 - SM.regs 4294967295 (ws.take (k + 1)) : Nat) : Int)) ∧ W = w') := hidp (HT.out (k + 1) 0 (by omega))
        generalize ws.getD k 0 = x at *
        go_wp2_with fail
        refine (Next_c _ x hq h64 _).mono ?_
        rintro e w' ⟨rfl, rfl⟩
        rw [← HS.out]
        generalize hz : SM.regs 4294967295 (ws.take (k + 1)) = z at *
        have HZ := hidp hz
        clear hz
        go_wp2_with fail
        have hkc : k + 1 ≤ c := by omega
        go_quiet (first
          | (go_at_call 11; exact quiet_add_same (Last_c z hq2 _))
          | (go_at_call 7; exact quiet_add_same (HO.out _ ⟨_, rfl⟩)))
        go_wp2
        go_roundw
        case rel => exact ⟨k + 1, m + nq, by omega, by go_num, by rw [HZ.out], by first | rfl | rw [World.drewN_drewN]⟩
        case measure => simp [intOf]; omega
      · obtain rfl : k = n := by omega
        have HO : Hid (∀ W : World, (∃ j, W = w.drewN j) → Calls Try.prog 7 #[.slice A k c] W fun e w' => e = .returned (.int .u32 ((4294967295 - SM.regs 4294967295 (ws.take k) : Nat) : Int)) ∧ W = w') := hidp (HT.out k 0 (by omega))
        generalize SM.regs 4294967295 (ws.take k) = z at *
        go_wp2_with fail
        refine (Last_c z hq _).mono ?_
        rintro e w1 ⟨rfl, rfl⟩
        go_wp2_with fail
        refine (HO.out _ ⟨_, rfl⟩).mono ?_
        rintro e w1 ⟨rfl, rfl⟩
        go_wp2_with fail
        refine (live_c _).mono ?_
        rintro e w' ⟨rfl, hb⟩
        go_wp2
        go_ret
        exact ⟨rfl, below_draws_left hb⟩

theorem SumPieces_walk {H : Type} {enc : TypeId × Value → H} {W : World} {base : Nat} {args : Array Value} {ds : List (DataW H)} {ps : List MemPlace}
    (g : Given enc Try.prog Try.f4 W base args ds ps) : Calls Try.prog 4 args W (Keeps W) := by
  have hval := g.ok
  have hA := g.trod
  have hlt := g.lt
  rw [Try.params4] at hA hval
  obtain ⟨v0, vs0, d0, ds0, p0, q0, hargs, rfl, rfl, h0, r0⟩ := trodAll_cons hA
  obtain ⟨rfl, rfl, rfl⟩ := trodAll_nil r0
  obtain rfl : args = #[v0] := by cases args; simp_all
  obtain ⟨A, c, ws, rfl, hc, hm, h64, hR⟩ := open_words Try.underlying22 Try.underlying25 (by kernel_rfl) (hval 0 22 v0 rfl rfl) h0 (fun x hx => hlt x (List.mem_append_left _ hx))
  exact SumPieces_calls A c ws h64 hc hm W hR

theorem SumOf_walk {H : Type} {enc : TypeId × Value → H} {W : World} {base : Nat} {args : Array Value} {ds : List (DataW H)} {ps : List MemPlace}
    (g : Given enc Try.prog Try.f3 W base args ds ps) : Calls Try.prog 3 args W (Keeps W) := by
  have hval := g.ok
  have hA := g.trod
  have hlt := g.lt
  rw [Try.params3] at hA hval
  obtain ⟨v0, vs0, d0, ds0, p0, q0, hargs, rfl, rfl, h0, r0⟩ := trodAll_cons hA
  obtain ⟨v1, vs1, d1, ds1, p1, q1, rfl, rfl, rfl, h1, r1⟩ := trodAll_cons r0
  obtain ⟨rfl, rfl, rfl⟩ := trodAll_nil r1
  obtain rfl : args = #[v0, v1] := by cases args; simp_all
  obtain ⟨A, c, ws, rfl, hc, hm, h64, hR⟩ := open_words Try.underlying22 Try.underlying25 (by kernel_rfl) (hval 0 22 v0 rfl rfl) h0 (fun x hx => hlt x (List.mem_append_left _ hx))
  obtain ⟨a1, rfl, rfl, rfl, w1⟩ := open_int Try.underlying23 (hval 1 23 v1 rfl rfl) h1
  obtain ⟨r, rfl, hr⟩ := u32_nat w1
  exact SumOf_calls A c _ ws (hidp rfl) r hr (hidp h64) (hidp (Nat.le_trans hc hm)) W (hidp hR)

end Go.Proofs.Ytfgfdfnfgfojbaa
