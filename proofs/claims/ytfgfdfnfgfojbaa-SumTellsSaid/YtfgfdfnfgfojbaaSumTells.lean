/-
  The walk of SumTells.
-/
import Derived.Test.YtfgfdfnfgfojbaaSumLaws
namespace Go.Proofs.Ytfgfdfnfgfojbaa
open Go.ChangeShapes Go.WideShapes Go.ChangeAt Go.RowKit
set_option linter.unusedVariables false

theorem wordInfo : (Try.prog.info? 25).map (fun i => (i.zero, i.size, i.bytes)) = some (some (.int .u64 0), 1, 8) := by kernel_rfl

theorem SumTells_live (A : Option Addr) (n c : Nat) (a : Int) (t : Nat) (hn : n ≤ 9223372036854775807) (ht : t < 2 ^ 32) (ha : -9223372036854775808 ≤ a) (ha' : a ≤ 9223372036854775807)
    (h : 200 < n ∨ t = 0 ∨ a < 0 ∨ 64 * (n : Int) - 32 < a) (w : World) :
    Calls Try.prog 5 #[.slice A n c, .int .i64 a, .int .u32 (t : Int)] w (Keeps w) := by
  by_cases h1 : 200 < n
  · clear h
    go_enter Try.func5, Try.ntmps5
    go_wp2_with fail
    refine (live_c _).mono ?_
    rintro e w' ⟨rfl, hb⟩
    go_wp2
    go_ret
    exact ⟨rfl, hb⟩
  · by_cases h2 : t = 0
    · subst h2
      clear h
      go_enter Try.func5, Try.ntmps5
      go_wp2_with fail
      refine (live_c _).mono ?_
      rintro e w' ⟨rfl, hb⟩
      go_wp2
      go_ret
      exact ⟨rfl, hb⟩
    · have h2' : ((t : Int) == 0) = false := by simp; omega
      by_cases h3 : a < 0
      · clear h
        go_enter Try.func5, Try.ntmps5
        go_wp2_with fail
        refine (live_c _).mono ?_
        rintro e w' ⟨rfl, hb⟩
        go_wp2
        go_ret
        exact ⟨rfl, hb⟩
      · have h4 : 64 * (n : Int) - 32 < a := by omega
        clear h h2
        go_enter Try.func5, Try.ntmps5
        go_wp2_with fail
        refine (live_c _).mono ?_
        rintro e w' ⟨rfl, hb⟩
        go_wp2
        go_ret
        exact ⟨rfl, hb⟩

theorem shl_one (k : Nat) (h : k < 64) : IntKind.u64.wrap (2 ^ k) = ((2 ^ k : Nat) : Int) := by
  have h1 : 2 ^ k < 2 ^ 64 := Nat.pow_lt_pow_right (by omega) h
  have h2 : (2 : Int) ^ k = ((2 ^ k : Nat) : Int) := by rw [Int.natCast_pow]; rfl
  rw [h2]
  exact wrap_nat64 _ h1
theorem turn_math (x k : Nat) (hx : x < 2 ^ 64) (h : k < 64) : bits .xor .u64 (x : Int) (IntKind.u64.wrap (2 ^ k)) = ((x ^^^ 2 ^ k : Nat) : Int) := by
  rw [shl_one k h]
  exact u64_xor_nat x _ hx (Nat.pow_lt_pow_right (by omega) h)
theorem flip_vs (xs : List Nat) (p : Nat) : (wordVs xs).set (p / 64) (.int .u64 ((xs.getD (p / 64) 0 ^^^ 2 ^ (p % 64) : Nat) : Int)) = wordVs (SM.flip xs p) := by
  unfold wordVs SM.flip
  rw [List.map_set]

theorem shr_cast' (v k : Nat) : ((v : Int) / 2 ^ k).tmod 2 = ((v / 2 ^ k % 2 : Nat) : Int) := by rw [shr_cast, tmod_two]
theorem SumTells_main (ad : Addr) (n c a t : Nat) (ws : List Nat) (HN : Hid (ws.length = n)) (hn : n ≤ 200) (h0 : 0 < n) (ht : t < 2 ^ 32) (ht0 : Hid (t ≠ 0)) (ht1 : ((t : Int) == 0) = false) (ha : a + 32 ≤ 64 * n) (H64 : Hid (∀ x ∈ ws, x < 2 ^ 64)) (w : World)
    (HR : Hid (Reads w w.heap.size 1 (some ad) n (wordVs ws))) :
    Calls Try.prog 5 #[.slice (some ad) n c, .int .i64 (a : Int), .int .u32 (t : Int)] w (Keeps w) := by
  obtain ⟨i0, hi, hz0, hz1, hz2⟩ := info_parts wordInfo
  have HNE := hidp (SM.turned_ne ws a t ht ht0.out (by have := HN.out; omega))
  have HL : Hid (∀ k, (SM.turned ws a t k).length = n) := hidp (fun k => (SM.turned_len ws a t k).trans HN.out)
  have HW : Hid (∀ k, ∀ x ∈ SM.turned ws a t k, x < 2 ^ 64) := hidp (fun k => SM.turned_lt ws a t k H64.out)
  have HOWN0 := hidp (World.ownsRow_lit (base := w.heap.size) (e := 25) (size := 1) w #[] 0 (Nat.le_refl _) (by unfold maxLen; omega) rfl)
  have HRA := hidp (HR.out.alloc (Nat.le_refl _) (.cells #[] 25))
  go_enter Try.func5, Try.ntmps5
  go_wp2_with
    (at_builtin
     refine wpList_append_own _ rfl (.tmp 29) (.tmp 30) 22 rfl w.heap.size 25 i0 (.int .u64 0) 1 8 Try.underlying22 hi hz0 hz1 hz2 rfl (by decide) _ 0 [] rfl HOWN0.out ad n c (wordVs ws) rfl ?c1 ?c2 ?c3 ?c4 ?c5 ?c6 ?_
     case c1 => exact HRA.out.1
     case c2 =>
       obtain ⟨ad', e, _, h⟩ := HRA.out.2 h0
       injection e with e
       subst e
       exact h
     case c3 => intro u hu; unfold wordVs at hu; obtain ⟨z, _, rfl⟩ := List.mem_map.1 hu; rfl
     case c4 => unfold maxLen; omega
     case c5 => omega
     case c6 => simp
     intro v1 w1 hown1 hgrow _)
  rw [Nat.zero_add, List.nil_append] at hown1
  obtain ⟨g, cap, hv1, hg1, hg2⟩ := hown1.form (by omega)
  subst hv1
  have hB : Below w.heap.size w w1 := ((Below.refl _ _).alloc (Nat.le_refl _) (.cells #[] 25)).grown hgrow (by simp) (fun j hj => (HOWN0.out.lt j hj).1)
  have HT0 := hidp hown1
  clear hgrow HOWN0 HRA hown1 hi hz0 hz1 hz2
  go_loopw [8] (fun i wr => ∃ k : Nat, k ≤ 32 ∧ i = .int .i64 k ∧ Hid (wr.ownsRow w.heap.size 25 1 (.slice (some ⟨g, 0, none⟩) n cap) n (wordVs (SM.turned ws a t k))) ∧ Below w.heap.size w wr) (fun i _ => 32 - (intOf i).toNat)
  case atStart => exact ⟨0, by omega, rfl, HT0, hB⟩
  case round =>
    obtain ⟨k, hk, rfl, HO, hb⟩ := hrel
    by_cases hlt : k < 32
    · have HS : Hid (SM.turned ws a t (k + 1) = if t.testBit k then SM.flip (SM.turned ws a t k) (a + k) else SM.turned ws a t k) := hidp rfl
      have hodd := odd_bit t k
      rw [← shr_cast'] at hodd
      cases hbit : t.testBit k
      · rw [hbit] at hodd HS
        have HS2 : Hid (SM.turned ws a t (k + 1) = SM.turned ws a t k) := hidp (by rw [HS.out]; rfl)
        clear hbit HS
        go_wp2
        go_roundw
        case rel => exact ⟨k + 1, by omega, by go_num, by rw [HS2.out]; exact HO, hb⟩
        case measure => simp [intOf]; omega
      · rw [hbit] at hodd HS
        have HS2 : Hid (SM.turned ws a t (k + 1) = SM.flip (SM.turned ws a t k) (a + k)) := hidp (by rw [HS.out]; rfl)
        clear hbit HS
        have hj : (a + k) / 64 < n := by omega
        have hm : (a + k) % 64 < 64 := Nat.mod_lt _ (by omega)
        have hcell := HO.out.cellAt ((a + k) / 64) (by omega)
        rw [wordVs_at _ _ (by rw [HL.out k]; exact hj)] at hcell
        have hfr := HO.out.frozenAt ((a + k) / 64)
        have hx := getD_lt (by omega) (HW.out k) ((a + k) / 64)
        have HF := hidp (flip_vs (SM.turned ws a t k) (a + k))
        generalize (SM.turned ws a t k).getD ((a + k) / 64) 0 = x at *
        have HX := hidp (turn_math x ((a + k) % 64) hx hm)
        go_wp2
        go_roundw
        case rel =>
          rw [HX.out]
          exact ⟨k + 1, by omega, by go_num, hidp (by rw [HS2.out, ← HF.out]; exact (HO.out.stored _ _).1), hb.setCell (by exact (HO.out.lt g rfl).1) _⟩
        case measure => simp [intOf]; omega
    · obtain rfl : k = 32 := by omega
      have hB2 := hb
      have HR2 := hidp ((Reads.of_own HO.out).more (B' := wr.heap.size) (Nat.le_refl _))
      have HR3 := hidp (HR.out.below hb)
      have hm2 : Hid (n ≤ maxLen) := hidp (by unfold maxLen; omega)
      have HL2 := hidp (HL.out 32)
      have HW2 := hidp (HW.out 32)
      have HB2 := hidp hb
      clear hB hb hB2 HT0
      go_wp2_with fail
      refine (Of_n _ _ n (SM.turned ws a t 32) HL2 HW2 hm2 _ _ HR2.out).mono ?_
      rintro e w2 ⟨rfl, rfl⟩
      go_wp2_with fail
      refine (Of_n _ _ n ws HN H64 hm2 _ _ HR3.out).mono ?_
      rintro e w2 ⟨rfl, rfl⟩
      have hne := HNE.out
      generalize SM.ofN (SM.turned ws a t 32) = p at *
      generalize SM.ofN ws = q at *
      have hd1 : ((p : Int) == (q : Int)) = false := by simp; omega
      have hd2 : (p == q) = false := by simpa using hne
      have hd3 : ((p : Int) != (q : Int)) = true := by simp; omega
      clear hne
      go_wp2_with fail
      refine (live_c _).mono ?_
      rintro e w' ⟨rfl, hb⟩
      go_wp2
      go_ret
      exact ⟨rfl, HB2.out.trans (hb.mono HB2.out.size)⟩

theorem SumTells_calls (A : Option Addr) (n c : Nat) (ws : List Nat) (HN : Hid (ws.length = n)) (a : Int) (t : Nat) (hm : n ≤ 9223372036854775807) (ht : t < 2 ^ 32) (ha : -9223372036854775808 ≤ a) (ha' : a ≤ 9223372036854775807)
    (H64 : Hid (∀ x ∈ ws, x < 2 ^ 64)) (w : World) (HR : Hid (Reads w w.heap.size 1 A n (wordVs ws))) :
    Calls Try.prog 5 #[.slice A n c, .int .i64 a, .int .u32 (t : Int)] w (Keeps w) := by
  by_cases h : 200 < n ∨ t = 0 ∨ a < 0 ∨ 64 * (n : Int) - 32 < a
  · exact SumTells_live A n c a t hm ht ha ha' h w
  · obtain ⟨ad, rfl, _⟩ := HR.out.2 (by omega)
    obtain ⟨a', rfl⟩ := Int.eq_ofNat_of_zero_le (show 0 ≤ a by omega)
    exact SumTells_main ad n c a' t ws HN (by omega) (by omega) ht (hidp (by omega)) (by simp; omega) (by omega) H64 w HR

theorem SumTells_walk {H : Type} {enc : TypeId × Value → H} {W : World} {base : Nat} {args : Array Value} {ds : List (DataW H)} {ps : List MemPlace}
    (g : Given enc Try.prog Try.f5 W base args ds ps) : Calls Try.prog 5 args W (Keeps W) := by
  have hval := g.ok
  have hA := g.trod
  have hlt := g.lt
  rw [Try.params5] at hA hval
  obtain ⟨v0, vs0, d0, ds0, p0, q0, hargs, rfl, rfl, h0, r0⟩ := trodAll_cons hA
  obtain ⟨v1, vs1, d1, ds1, p1, q1, rfl, rfl, rfl, h1, r1⟩ := trodAll_cons r0
  obtain ⟨v2, vs2, d2, ds2, p2, q2, rfl, rfl, rfl, h2, r2⟩ := trodAll_cons r1
  obtain ⟨rfl, rfl, rfl⟩ := trodAll_nil r2
  obtain rfl : args = #[v0, v1, v2] := by cases args; simp_all
  obtain ⟨A, c, ws, rfl, hc, hm, h64, hR⟩ := open_words Try.underlying22 Try.underlying25 (by kernel_rfl) (hval 0 22 v0 rfl rfl) h0 (fun x hx => hlt x (List.mem_append_left _ hx))
  obtain ⟨a1, rfl, rfl, rfl, w1⟩ := open_int Try.underlying3 (hval 1 3 v1 rfl rfl) h1
  obtain ⟨a2, rfl, rfl, rfl, w2⟩ := open_int Try.underlying23 (hval 2 23 v2 rfl rfl) h2
  obtain ⟨t, rfl, ht⟩ := u32_nat w2
  obtain ⟨ha, ha'⟩ := i64_bounds w1
  exact SumTells_calls A _ c ws (hidp rfl) a1 t (by unfold maxLen at hm; omega) ht ha ha' (hidp h64) W (hidp hR)
end Go.Proofs.Ytfgfdfnfgfojbaa
