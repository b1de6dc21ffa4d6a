/-
  The law ViewKnows: the walk.
-/
import Derived.Test.YtcfljejeceikbaaViewSim
import Derived.Test.YtcfljejeceikbaaViewLive2
import Derived.Test.YtcfljejeceikbaaOpenVals
import Derived.Deep.RegionHeld3
namespace Go.Proofs.Ytcfljejeceikbaa
open Go.ChangeShapes Go.WideShapes Go.ChangeAt Go.RowKit Go.Maps
set_option linter.unusedVariables false
set_option linter.unusedSimpArgs false

def wholeK (vals : List Nat) : Nat → Option Nat := fun i => vals[i]?
theorem wholeK_all {vals : List Nat} {n : Nat} (h : vals.length = n) : ∀ i, i < n → ∃ v, wholeK vals i = some v := fun i hi => ⟨vals[i]'(by omega), List.getElem?_eq_getElem (by omega)⟩
theorem wholeK_at {vals : List Nat} {n : Nat} (h : vals.length = n) : ∀ i, i < n → some (vals.getD i 0) = wholeK vals i := fun i hi => by
  unfold wholeK
  rw [List.getElem?_eq_getElem (by omega)]
  simp [List.getD, List.getElem?_eq_getElem (show i < vals.length by omega)]
def prOf (vals R : List Nat) : List (Nat × Nat) := R.map fun i => (i, vals.getD i 0)
theorem prOf_to (vals R : List Nat) : toPV (prOf vals R) = pairsOf vals R := by unfold toPV prOf pairsOf; rw [List.map_map]; rfl
theorem prOf_len (vals R : List Nat) : (prOf vals R).length = R.length := by unfold prOf; simp
def stK (vals : List Nat) (n : Nat) (t : List TouchV) (k : Nat) : Vst := runS n (wholeK vals) (t.take k) freshS
def toldAt (vals : List Nat) (n : Nat) (t : List TouchV) (j : Nat) : Nat := match t[j]? with | some x => tchV n (wholeK vals) (stK vals n t j) x | none => 0
def toldL (vals : List Nat) (n : Nat) (t : List TouchV) (k : Nat) : List Nat := (List.range k).map (toldAt vals n t)
theorem stK_step {vals : List Nat} {n : Nat} {t : List TouchV} {k : Nat} {x : TouchV} (h : t[k]? = some x) : stK vals n t (k + 1) = tchS n (wholeK vals) (stK vals n t k) x := runS_take h
theorem toldL_step {vals : List Nat} {n : Nat} {t : List TouchV} {k : Nat} {x : TouchV} (h : t[k]? = some x) : valVs (toldL vals n t (k + 1)) = valVs (toldL vals n t k) ++ [.int .u32 ((tchV n (wholeK vals) (stK vals n t k) x : Nat) : Int)] := by
  unfold toldL valVs
  rw [List.range_succ, List.map_append, List.map_append]
  simp [toldAt, h]
theorem stK_len (vals : List Nat) (n : Nat) (t : List TouchV) (k : Nat) : (stK vals n t k).rd.length ≤ t.length ∧ (stK vals n t k).wr.length ≤ t.length := by
  have := run_len (n := n) (K := wholeK vals) (t.take k) freshS
  have h2 := List.length_take_le k t
  unfold stK
  simp [freshS] at this ⊢
  omega
theorem toldL_at (vals : List Nat) (n : Nat) (t : List TouchV) {j m : Nat} (h : j < m) : (valVs (toldL vals n t m))[j]? = some (.int .u32 ((toldAt vals n t j : Nat) : Int)) := by
  unfold toldL valVs
  rw [List.getElem?_map, List.getElem?_map, List.getElem?_range h]
  rfl
theorem Reads.reach {w : World} {B n : Nat} {A : Option Addr} {xs : List Value} (h : Reads w B 1 A n xs) : 0 < n → ∃ ad, A = some ad ∧ ∀ j u, xs[j]? = some u → w.cell? (ad.add j) = some u := fun hn => by
  obtain ⟨ad, e, _, hc⟩ := h.2 hn
  exact ⟨ad, e, hc⟩

theorem Turns.of_grown_opt {w w' : World} {row : Option Nat} (h : w.grownBy w' row) : Turns (fun i => row = some i) w w' := ⟨h.os, h.tape, h.output, h.size, fun i hi hf => h.block i hi (fun e => hf e.symm)⟩

theorem rowV_nat {w : World} {base : Nat} {e : TypeId} {v : Value} {l : List Nat} (h : w.ownsRow base e 1 v l.length (natVs l)) : RowV w v ((l.map fun (i : Nat) => (i : Int)).map (Value.int .i64)) := by
  rw [natVs_ints] at h
  refine RowV.of_own (base := base) (e := e) ?_
  simpa using h

theorem ViewKnows_few1 (A B : Option Addr) (c d n m : Nat) (less : Int) (hn : 300 < n) (W : World) :
    Calls Try.prog 4 #[.slice A n c, .slice B m d, .int .i64 less] W (Keeps W) := by
  have t0 : decide ((300 : Int) < n) = true := decide_eq_true (by omega)
  go_enter Try.func4, Try.ntmps4
  go_wp2_with fail
  refine (live_c _).mono ?_
  rintro e w1 ⟨rfl, hb⟩
  go_wp2
  go_ret
  exact ⟨rfl, hb⟩
theorem ViewKnows_few2 (A B : Option Addr) (c d n m : Nat) (less : Int) (hn : n ≤ 300) (hm : 100 < m) (W : World) :
    Calls Try.prog 4 #[.slice A n c, .slice B m d, .int .i64 less] W (Keeps W) := by
  have t0 : decide ((300 : Int) < n) = false := decide_eq_false (by omega)
  have t1 : decide ((100 : Int) < m) = true := decide_eq_true (by omega)
  go_enter Try.func4, Try.ntmps4
  go_wp2_with fail
  refine (live_c _).mono ?_
  rintro e w1 ⟨rfl, hb⟩
  go_wp2
  go_ret
  exact ⟨rfl, hb⟩


set_option maxRecDepth 100000 in
set_option maxHeartbeats 6400000 in
theorem ViewKnows_main (A B : Option Addr) (c d n m : Nat) (vals : List Nat) (t : List TouchV) (less : Int) (HNN : Hid (vals.length = n)) (HMM : Hid (t.length = m)) (H32 : Hid (∀ x ∈ vals, x < 2 ^ 32)) (HTT : Hid (∀ x ∈ t, x.Ok)) (hn : n ≤ 300) (hm : m ≤ 100)
    (hnc : n ≤ c) (hcm : c ≤ maxLen) (hmd : m ≤ d) (hdm : d ≤ maxLen) (W : World) (HR : Hid (Reads W W.heap.size 1 A n (valVs vals))) (HA : Hid (TouchVs W B t)) :
    Calls Try.prog 4 #[.slice A n c, .slice B m d, .int .i64 less] W (Keeps W) := by
  have t0 : decide ((300 : Int) < n) = false := decide_eq_false (by omega)
  have t1 : decide ((100 : Int) < m) = false := decide_eq_false (by omega)
  have hcm2 : c ≤ 9223372036854775807 := hcm
  have hdm2 : d ≤ 9223372036854775807 := hdm
  go_enter Try.func4, Try.ntmps4
  go_wp2_with fail
  refine (Whole_c A c vals n HNN.out (by omega) H32.out _ HR.out.reach).mono ?_
  rintro e w1 ⟨b, o, rfl, hI, hB⟩
  have HI1 : Hid (IsView w1 W.heap.size b n true o (wholeK vals) freshS) := hidp hI
  have HB1 := hidp hB
  clear hI hB
  obtain ⟨i0, hin, hz0, hz1, hz2⟩ := info_parts valInfo
  have HO0 : Hid ((w1.alloc (.cells #[] 32)).ownsRow w1.heap.size 32 1 (.slice (some ⟨w1.heap.size, 0, none⟩) 0 0) 0 (valVs (toldL vals n t 0))) := hidp (World.ownsRow_made w1 #[] 0 (Nat.le_refl _) (Nat.zero_le _) (by simp))
  have HI2 := hidp (HI1.out.keep (Bnew (B0 w1) (.cells #[] 32)))
  have HB2 := hidp (Bnew HB1.out (.cells #[] 32))
  have HAP0 : Hid (∀ g, (Value.slice (some ⟨w1.heap.size, 0, none⟩) 0 0).ownBlock = some g → ¬ o.A b g) := hidp (fun g hg hA => by
    have h1 := HI1.out.lt g hA
    have hg : w1.heap.size = g := by simpa [Value.ownBlock] using hg
    omega)
  have HS1 : Hid (W.heap.size ≤ w1.heap.size) := hidp HB1.out.size
  clear HI1 HB1
  go_wp2_with fail
  go_loopw [8, 9] (fun u i wr => ∃ (k : Nat) (o : VGeo), k ≤ m ∧ i = .int .i64 k ∧ Hid (IsView wr W.heap.size b n true o (wholeK vals) (stK vals n t k)) ∧ Hid (wr.ownsRow w1.heap.size 32 1 u k (valVs (toldL vals n t k))) ∧ Hid (∀ g, u.ownBlock = some g → ¬ o.A b g) ∧ Hid (Below W.heap.size W wr) ∧ Hid (w1.heap.size ≤ wr.heap.size)) (fun _ i _ => m - (intOf i).toNat)
  case atStart => exact ⟨0, o, by omega, rfl, HI2, HO0, HAP0, HB2, hidp (by simp)⟩
  case round =>
    clear HI2 HB2 HO0 HAP0
    obtain ⟨k, o, hk, rfl, HI, HO, HAP, HB, HSZ⟩ := hrel
    by_cases hlt : k < m
    · obtain ⟨x, hx⟩ : ∃ x, t[k]? = some x := ⟨_, List.getElem?_eq_getElem (by rw [HMM.out]; exact hlt)⟩
      have HXO := hidp (HTT.out x (List.mem_of_getElem? hx))
      obtain ⟨ad, rfl, _, _⟩ := HA.out k x hx
      obtain ⟨x0, x1, x2⟩ := (HA.out.below HB.out).cells hx
      have HST := hidp (stK_step (vals := vals) (n := n) hx)
      have HTL := hidp (toldL_step (vals := vals) (n := n) hx)
      have hl := stK_len vals n t k
      have HL1 : Hid ((stK vals n t k).rd.length < 2 ^ 40) := hidp (by have := HMM.out; omega)
      have HL2 : Hid ((stK vals n t k).wr.length < 2 ^ 40) := hidp (by have := HMM.out; omega)
      clear hx hl
      go_wp2_with fail
      refine (touch_c x HXO.out HL1.out HL2.out _ HI.out).mono ?_
      rintro e w5 ⟨rfl, o5, hI5, hA5, hT5⟩
      have HO5 := hidp (own_kept HO.out (fun g hg => hT5.block g (HO.out.lt g hg).2 (fun hf => HAP.out g hg (.inl hf))))
      have HB5 := hidp (hT5.below HB.out (fun i hi => HI.out.ge i (.inl hi)))
      have HAP5 : Hid (∀ g, u8.ownBlock = some g → ¬ o5.A b g) := hidp (fun g hg hA => by
        rcases hA5 g hA with h1 | h1
        · exact HAP.out g hg h1
        · have := (HO.out.lt g hg).2; omega)
      have HI5 := hidp hI5
      have HS5 : Hid (w1.heap.size ≤ w5.heap.size) := hidp (Nat.le_trans HSZ.out hT5.size)
      clear hI5 hA5 hT5 x0 x1 x2 HO HAP HB HI HSZ
      generalize tchV n (wholeK vals) (stK vals n t k) x = tv at *
      go_wp2_with (first
        | (at_builtin
           refine wpList_append_lies _ rfl _ _ 22 rfl w1.heap.size 32 i0 (.int .u32 0) 1 4 Try.underlying22 hin hz0 hz1 hz2 rfl (by decide) u8 k (valVs (toldL vals n t k)) rfl (HO5.out.alloc _) ⟨_, 0, none⟩ 1 1 [.int .u32 (tv : Int)] rfl rfl ?c1 ?c2 (by omega) ?c3 ?c4 ?c5 _ rfl ?_
           case c1 => intro j y hy; rcases j with _ | j; (· simp at hy; subst hy; simp [Addr.add]); (· simp at hy)
           case c2 => simp [Value.oneCell']
           case c3 => unfold maxLen; omega
           case c4 => omega
           case c5 => have := HS5.out; simp; omega
           intro g cap w6 hown6 hgrow6 hat6 hlt6)
        | fail)
      have HI6 : Hid (IsView w6 W.heap.size b n true o5 (wholeK vals) (stK vals n t (k + 1))) := hidp (by
        rw [HST.out]
        exact (HI5.out.keep (Bnew (B0 _) (.cells #[.int .u32 (tv : Int)] 32))).turns (Turns.of_grown_opt hgrow6) (fun i hi hf => HAP5.out i hf hi))
      have HO6 := hidp hown6
      have HAP6 : Hid (∀ q, (Value.slice (some ⟨g, 0, none⟩) (k + 1) cap).ownBlock = some q → ¬ o5.A b q) := hidp (fun q hq hA => by
        have hq : g = q := by simpa [Value.ownBlock] using hq
        subst hq
        rcases hat6 with h1 | h1
        · exact HAP5.out g h1 hA
        · have h2 := HI5.out.lt g hA
          simp at h1
          omega)
      have HB6 := hidp ((Bnew HB5.out (.cells #[.int .u32 (tv : Int)] 32)).grown hgrow6 (by have := HB5.out.size; simp; omega) (fun q hq => by have := (HO5.out.lt q hq).1; have := HS1.out; omega))
      have HS6 : Hid (w1.heap.size ≤ w6.heap.size) := hidp (by have h1 := hgrow6.size; have h2 := HS5.out; simp at h1; omega)
      clear hown6 hgrow6 hat6
      go_roundw
      case rel => exact ⟨k + 1, o5, by omega, by go_num, HI6, by rw [HTL.out]; exact HO6, HAP6, HB6, HS6⟩
      case measure => simp [intOf]; omega
    · obtain rfl : k = m := by omega
      clear hlt hk
      obtain ⟨s, hs⟩ : ∃ s, stK vals n t k = s := ⟨_, rfl⟩
      have hl := stK_len vals n t k
      rw [HMM.out, hs] at hl
      obtain ⟨hl1, hl2⟩ := hl
      rw [hs] at HI
      have HSS := hidp hs
      have HRL : Hid (∀ i ∈ s.rd, i < n) := hidp HI.out.ok.rdLt
      clear hs
      go_wp2_with fail
      refine (vReads_c (by omega) _ HI.out).mono ?_
      rintro e w2 ⟨vr, rfl, ho, hb⟩
      obtain ⟨Ar, cr, rfl⟩ := own_slice ho
      obtain ⟨hqc, hcr⟩ := own_caps ho
      have hcr2 : cr ≤ 9223372036854775807 := hcr
      have HI2 := hidp (HI.out.keep hb)
      have HO2 := hidp (own_below HO.out hb)
      have HB2 := hidp (Bgo HB.out hb)
      have HRR := hidp ho
      have HZ2 : Hid (wr.heap.size ≤ w2.heap.size) := hidp hb.size
      obtain ⟨q, hq⟩ : ∃ q, s.rd.length = q := ⟨_, rfl⟩
      have HQ := hidp hq
      rw [hq] at hqc hl1 HRR ⊢
      clear ho hb hq HI HO HB hcr
      have HP0 : Hid ((w2.alloc (.cells #[] 46)).ownsRow w2.heap.size 46 2 (.slice (some ⟨w2.heap.size, 0, none⟩) 0 0) 0 (prVs (prOf vals (s.rd.take 0)))) := hidp (World.ownsRow_made w2 #[] 0 (Nat.le_refl _) (Nat.zero_le _) (by simp))
      have HB3 := hidp (Bnew (B0 w2) (.cells #[] 46))
      have HS2 : Hid (W.heap.size ≤ w2.heap.size) := hidp HB2.out.size
      obtain ⟨j0, hjn, hjz0, hjz1, hjz2⟩ := info_parts pairInfo
      go_wp2_with fail
      go_loopw [11, 12] (fun u i wl => ∃ k : Nat, k ≤ q ∧ i = .int .i64 k ∧ Hid (wl.ownsRow w2.heap.size 46 2 u k (prVs (prOf vals (s.rd.take k)))) ∧ Hid (Below w2.heap.size w2 wl)) (fun _ i _ => q - (intOf i).toNat)
      case atStart => exact ⟨0, by omega, rfl, HP0, HB3⟩
      case round =>
        clear HP0 HB3
        obtain ⟨k2, hk2, rfl, HP, HB3⟩ := hrel
        by_cases hlt2 : k2 < q
        · obtain ⟨i, hi⟩ : ∃ i, s.rd[k2]? = some i := ⟨_, List.getElem?_eq_getElem (by have := HQ.out; omega)⟩
          have hin2 : i < n := HRL.out i (List.mem_of_getElem? hi)
          obtain ⟨ad, rfl, hadb, hcells⟩ := HR.out.2 (by omega)
          obtain ⟨x, hx⟩ : ∃ x, vals.getD i 0 = x := ⟨_, rfl⟩
          have hvx : (valVs vals)[i]? = some (.int .u32 (x : Int)) := by rw [valVs_at vals i (by have := HNN.out; omega), hx]
          obtain ⟨gr, cr', hvr, _, hgr⟩ := HRR.out.form (by omega)
          injection hvr with hvr _ hcc
          subst hvr
          subst hcc
          have HS16 : Hid (∀ w', Below w2.heap.size w2 w' → w'.cell? ⟨gr, k2, none⟩ = some (.int .i64 (i : Int)) ∧ w'.cell? (ad.add i) = some (.int .u32 (x : Int))) := hidp (fun w' hb' => by
            constructor
            · refine (hb'.cell (p := ⟨gr, k2, none⟩) hgr).trans ?_
              rw [HRR.out.cellAt k2 (by omega)]
              unfold natVs
              rw [List.getElem?_map, hi]
              rfl
            · exact ((Bgo HB2.out hb').cell (p := ad.add i) (by rw [block_of_add]; exact hadb)).trans (hcells i _ hvx))
          have HPS : Hid (prVs (prOf vals (s.rd.take (k2 + 1))) = prVs (prOf vals (s.rd.take k2)) ++ [.int .i64 (i : Int), .int .u32 (x : Int)]) := hidp (by
            rw [List.take_add_one, hi]
            unfold prOf
            rw [List.map_append]
            simp only [Option.toList, List.map_cons, List.map_nil]
            rw [prVs_snoc, hx])
          obtain ⟨y0, y1⟩ := HS16.out _ HB3.out
          have u0 : decide ((i : Int) < 0) = false := decide_eq_false (by omega)
          have u1 : decide ((n : Int) ≤ i) = false := decide_eq_false (by omega)
          have u2 : decide (n ≤ i) = false := decide_eq_false (by omega)
          clear hi hcells hvx hx
          go_wp2_with fail
          refine wp_region_held_drew (S := (fun w' => w'.cell? ⟨gr, k2, none⟩ = some (.int .i64 (i : Int)) ∧ w'.cell? (ad.add i) = some (.int .u32 (x : Int)))) (by kernel_rfl) ?_ (fun hHeld => ?_)
          · (try dsimp only)
            first | exact ⟨y0, y1⟩ | exact HS16.out _ (Bdrew HB3.out) | exact HS16.out _ (Bnew (Bdrew HB3.out) _) | exact HS16.out _ HBq.out | exact hHeld
          refine wpAnyH_take (i := 0) (oi := _) (v := ?_) rfl (by kernel_rfl) (by kernel_rfl) (by kernel_rfl) (fun _ _ _ h => h) (Or.inl ⟨by rfl, ?_⟩) (by assumption) ?_
          rotate_left
          · intro w hSw; (try dsimp only at hSw); go_simp; (try with_reducible rfl)
          (try simp only [Act.put, List.getElem_toArray, List.getElem_cons_zero, List.getElem_cons_succ, List.setIfInBounds_toArray, List.set_cons_zero, List.set_cons_succ])
          refine wpAnyH_take (i := 1) (oi := _) (v := ?_) rfl (by kernel_rfl) (by kernel_rfl) (by kernel_rfl) (fun _ _ _ h => h) (Or.inl ⟨by rfl, ?_⟩) (by assumption) ?_
          rotate_left
          · intro w hSw; (try dsimp only at hSw); go_simp; (try with_reducible rfl)
          (try simp only [Act.put, List.getElem_toArray, List.getElem_cons_zero, List.getElem_cons_succ, List.setIfInBounds_toArray, List.set_cons_zero, List.set_cons_succ])
          refine wpAnyH_take (i := 2) (oi := _) (v := ?_) rfl (by kernel_rfl) (by kernel_rfl) (by kernel_rfl) (fun _ _ _ h => h) (Or.inl ⟨by rfl, ?_⟩) (by assumption) ?_
          rotate_left
          · intro w hSw; (try dsimp only at hSw); go_simp; (try with_reducible rfl)
          (try simp only [Act.put, List.getElem_toArray, List.getElem_cons_zero, List.getElem_cons_succ, List.setIfInBounds_toArray, List.set_cons_zero, List.set_cons_succ])
          refine wpAnyH_take (i := 3) (oi := _) (v := ?_) rfl (by kernel_rfl) (by kernel_rfl) (by kernel_rfl) (fun _ _ _ h => h) (Or.inl ⟨by rfl, ?_⟩) (by assumption) ?_
          rotate_left
          · intro w hSw; (try dsimp only at hSw); go_simp; (try with_reducible rfl)
          (try simp only [Act.put, List.getElem_toArray, List.getElem_cons_zero, List.getElem_cons_succ, List.setIfInBounds_toArray, List.set_cons_zero, List.set_cons_succ])
          refine wpAnyH_take (i := 4) (oi := _) (v := ?_) rfl (by kernel_rfl) (by kernel_rfl) (by kernel_rfl) (fun _ _ _ h => h) (Or.inl ⟨by rfl, ?_⟩) (by assumption) ?_
          rotate_left
          · intro w hSw; (try dsimp only at hSw); go_simp; (try with_reducible rfl)
          (try simp only [Act.put, List.getElem_toArray, List.getElem_cons_zero, List.getElem_cons_succ, List.setIfInBounds_toArray, List.set_cons_zero, List.set_cons_succ])
          refine wpAnyH_take (i := 5) (oi := _) (v := ?_) rfl (by kernel_rfl) (by kernel_rfl) (by kernel_rfl) (fun _ _ _ h => h) (Or.inl ⟨by rfl, ?_⟩) (by assumption) ?_
          rotate_left
          · intro w hSw; (try dsimp only at hSw); go_simp; (try with_reducible rfl)
          (try simp only [Act.put, List.getElem_toArray, List.getElem_cons_zero, List.getElem_cons_succ, List.setIfInBounds_toArray, List.set_cons_zero, List.set_cons_succ])
          refine wpAnyH_take (i := 6) (oi := _) (v := ?_) rfl (by kernel_rfl) (by kernel_rfl) (by kernel_rfl) (fun _ _ _ h => h) (Or.inl ⟨by rfl, ?_⟩) (by assumption) ?_
          rotate_left
          · intro w hSw; (try dsimp only at hSw); go_simp; (try with_reducible rfl)
          (try simp only [Act.put, List.getElem_toArray, List.getElem_cons_zero, List.getElem_cons_succ, List.setIfInBounds_toArray, List.set_cons_zero, List.set_cons_succ])
          refine wpAnyH_take (i := 7) (oi := _) (v := ?_) rfl (by kernel_rfl) (by kernel_rfl) (by kernel_rfl) (fun _ _ _ h => h) (Or.inl ⟨by rfl, ?_⟩) (by assumption) ?_
          rotate_left
          · intro w hSw; (try dsimp only at hSw); go_simp; (try with_reducible rfl)
          (try simp only [Act.put, List.getElem_toArray, List.getElem_cons_zero, List.getElem_cons_succ, List.setIfInBounds_toArray, List.set_cons_zero, List.set_cons_succ])
          refine wpAnyH_take (i := 8) (oi := _) (v := ?_) rfl (by kernel_rfl) (by kernel_rfl) (by kernel_rfl) (fun _ _ _ h => h) (Or.inl ⟨by rfl, ?_⟩) (by assumption) ?_
          rotate_left
          · intro w hSw; (try dsimp only at hSw); go_simp; (try with_reducible rfl)
          (try simp only [Act.put, List.getElem_toArray, List.getElem_cons_zero, List.getElem_cons_succ, List.setIfInBounds_toArray, List.set_cons_zero, List.set_cons_succ])
          refine wpAnyH_take (i := 9) (oi := _) (v := ?_) rfl (by kernel_rfl) (by kernel_rfl) (by kernel_rfl) (fun _ _ _ h => h) (Or.inl ⟨by rfl, ?_⟩) (by assumption) ?_
          rotate_left
          · intro w hSw; (try dsimp only at hSw); go_simp; (try with_reducible rfl)
          (try simp only [Act.put, List.getElem_toArray, List.getElem_cons_zero, List.getElem_cons_succ, List.setIfInBounds_toArray, List.set_cons_zero, List.set_cons_succ])
          refine wpAnyH_take (i := 10) (oi := _) (v := ?_) rfl (by kernel_rfl) (by kernel_rfl) (by kernel_rfl) (fun _ _ _ h => h) (Or.inl ⟨by rfl, ?_⟩) (by assumption) ?_
          rotate_left
          · intro w hSw; (try dsimp only at hSw); go_simp; (try with_reducible rfl)
          (try simp only [Act.put, List.getElem_toArray, List.getElem_cons_zero, List.getElem_cons_succ, List.setIfInBounds_toArray, List.set_cons_zero, List.set_cons_succ])
          refine wpAnyH_take (i := 11) (oi := _) (v := ?_) rfl (by kernel_rfl) (by kernel_rfl) (by kernel_rfl) (fun _ _ _ h => h) (Or.inl ⟨by rfl, ?_⟩) (by assumption) ?_
          rotate_left
          · intro w hSw; (try dsimp only at hSw); go_simp; (try with_reducible rfl)
          (try simp only [Act.put, List.getElem_toArray, List.getElem_cons_zero, List.getElem_cons_succ, List.setIfInBounds_toArray, List.set_cons_zero, List.set_cons_succ])
          refine wpAnyH_take (i := 12) (oi := _) (v := ?_) rfl (by kernel_rfl) (by kernel_rfl) (by kernel_rfl) (fun _ _ _ h => h) (Or.inl ⟨by rfl, ?_⟩) (by assumption) ?_
          rotate_left
          · intro w hSw; (try dsimp only at hSw); go_simp; (try with_reducible rfl)
          (try simp only [Act.put, List.getElem_toArray, List.getElem_cons_zero, List.getElem_cons_succ, List.setIfInBounds_toArray, List.set_cons_zero, List.set_cons_succ])
          refine wpAnyH_ready (rs := [13]) (by kernel_rfl) (by simp) ?_
          refine AllReadyH.cons (o := _) rfl (fun K hK => ?_) AllReadyH.nil
          go_simp
          skip
          refine hK.out _ _ ?_ (fun hHeld => ?_)
          · (try dsimp only)
            first | exact ⟨y0, y1⟩ | exact HS16.out _ (Bdrew HB3.out) | exact HS16.out _ (Bnew (Bdrew HB3.out) _) | exact HS16.out _ HBq.out | exact hHeld
          clear hK K
          (try simp only [Act.put, List.getElem_toArray, List.getElem_cons_zero, List.getElem_cons_succ, List.setIfInBounds_toArray, List.set_cons_zero, List.set_cons_succ])
          refine wpAnyH_ready (rs := [14]) (by kernel_rfl) (by simp) ?_
          refine AllReadyH.cons (o := _) rfl (fun K hK => ?_) AllReadyH.nil
          (refine step_append_lies _ (by rfl) _ _ 23 (by rfl) w2.heap.size 46 j0 (.agg #[.int .i64 0, .int .u32 0]) 2 16 Try.underlying23 hjn hjz0 hjz1 hjz2 rfl (by decide) u11 k2 (prVs (prOf vals (s.rd.take k2))) (by rfl) ((own_below HP.out (Bdrew (B0 _))).alloc _) ⟨_, 0, none⟩ 1 1 [.int .i64 (i : Int), .int .u32 (x : Int)] (by rfl) rfl (fun j y hy => World.news_of_block (w := wr.alloc (.cells #[.int .i64 (i : Int), .int .u32 (x : Int)] 46)) (heap_alloc_new wr _) j y (by simpa using hy)) (by simp [Value.oneCell']) (by omega) (by unfold maxLen; omega) (by omega) (by have := HB3.out.size; simp; omega) _ rfl ?_; intro g cap w6 hown6 hgrow6 hat6 hlt6; have HBq := hidp ((Bnew HB3.out (.cells #[.int .i64 (i : Int), .int .u32 (x : Int)] 46)).grown (w' := w6) ⟨hgrow6.os, hgrow6.tape, hgrow6.output, hgrow6.size, hgrow6.block⟩ (by have := HB3.out.size; simp; omega) (fun q' hq' => (HP.out.lt q' hq').1)); have HO6 := hidp hown6; clear hown6 hgrow6 hat6 hlt6)
          refine hK.out _ _ ?_ (fun hHeld => ?_)
          · (try dsimp only)
            first | exact ⟨y0, y1⟩ | exact HS16.out _ (Bdrew HB3.out) | exact HS16.out _ (Bnew (Bdrew HB3.out) _) | exact HS16.out _ HBq.out | exact hHeld
          clear hK K
          (try simp only [Act.put, List.getElem_toArray, List.getElem_cons_zero, List.getElem_cons_succ, List.setIfInBounds_toArray, List.set_cons_zero, List.set_cons_succ])
          refine wpAnyH_take (i := 15) (oi := _) (v := ?_) rfl (by kernel_rfl) (by kernel_rfl) (by kernel_rfl) (fun _ _ _ h => h) (Or.inl ⟨by rfl, ?_⟩) (by assumption) ?_
          rotate_left
          · intro w hSw; (try dsimp only at hSw); go_simp; (try with_reducible rfl)
          (try simp only [Act.put, List.getElem_toArray, List.getElem_cons_zero, List.getElem_cons_succ, List.setIfInBounds_toArray, List.set_cons_zero, List.set_cons_succ])
          refine wpAnyH_done (by kernel_rfl) ?_ _
          go_wp2
          go_roundw
          case rel => exact ⟨k2 + 1, by omega, by go_num, hidp (by rw [HPS.out]; exact HO6.out), HBq⟩
          case measure => simp [intOf]; omega
        · obtain rfl : k2 = q := by omega
          rename World => w4
          obtain ⟨Al, cl, rfl⟩ := own_slice HP.out
          obtain ⟨hql, hcl⟩ := own_caps HP.out
          have hcl2 : cl ≤ 9223372036854775807 := hcl
          have HPF : Hid (w4.ownsRow w2.heap.size 46 2 (.slice Al k2 cl) k2 (prVs (prOf vals s.rd))) := hidp (by
            have := HP.out
            rwa [List.take_of_length_le (by have := HQ.out; omega)] at this)
          have HPL : Hid (PairVs w4 Al (pairsOf vals s.rd)) := hidp (by
            rw [← prOf_to]
            exact pairs_of_own HPF.out (by rw [prOf_len]; exact HQ.out))
          have HPOK : Hid (∀ p ∈ pairsOf vals s.rd, p.Ok) := hidp (fun p hp => by
            unfold pairsOf at hp
            obtain ⟨i, hi, rfl⟩ := List.mem_map.1 hp
            have h1 := HRL.out i hi
            exact ⟨wf_nat (by omega), getD_lt (by omega) H32.out i⟩)
          have HPN : Hid ((pairsOf vals s.rd).length = k2) := hidp (by unfold pairsOf; rw [List.length_map]; exact HQ.out)
          have HI3 := hidp (HI2.out.keep HB3.out)
          have HO3 := hidp (own_below HO2.out HB3.out)
          have HR3 := hidp (own_below HRR.out HB3.out)
          have HB4 := hidp (Bgo HB2.out HB3.out)
          clear HP HI2 HO2 HRR HB3 HB2 hlt2 hk2 hql
          go_wp2_with fail
          refine (Known_c Al cl k2 n (pairsOf vals s.rd) HPN.out (own_caps HPF.out).1 hcl (by omega) (by omega) HPOK.out _ HPL.out).mono ?_
          rintro e w3 ⟨b2, o2, rfl, hJ, hb⟩
          have HJ := hidp hJ
          have HBJ := hidp hb
          have HKK : Hid (∀ i, i < n → kOf n (pairsOf vals s.rd) i = if i ∈ s.rd then wholeK vals i else none) := hidp (fun i hi => by
            rw [kOf_pairs s.rd HRL.out i]
            by_cases h : i ∈ s.rd
            · rw [if_pos h, if_pos h, wholeK_at HNN.out i hi]
            · rw [if_neg h, if_neg h])
          have HWA := hidp (wholeK_all HNN.out)
          clear hJ hb
          go_wp2_with fail
          go_loopw [14] (fun i wx => ∃ (k3 : Nat) (o2 : VGeo), k3 ≤ k ∧ i = .int .i64 k3 ∧ Hid (IsView wx w4.heap.size b2 n false o2 (kOf n (pairsOf vals s.rd)) (stK vals n t k3)) ∧ Hid (Below w4.heap.size w4 wx)) (fun i _ => k - (intOf i).toNat)
          case atStart => exact ⟨0, o2, by omega, rfl, HJ, HBJ⟩
          case round =>
            clear HJ HBJ
            obtain ⟨k3, o2, hk3, rfl, HJ, HBJ⟩ := hrel
            by_cases hlt3 : k3 < k
            · obtain ⟨x, hx⟩ : ∃ x, t[k3]? = some x := ⟨_, List.getElem?_eq_getElem (by rw [HMM.out]; exact hlt3)⟩
              have HXO := hidp (HTT.out x (List.mem_of_getElem? hx))
              obtain ⟨ad, rfl, _, _⟩ := HA.out k3 x hx
              obtain ⟨gt, ct, hut, _, hgt⟩ := HO3.out.form (by omega)
              subst hut
              obtain ⟨hkc, hct⟩ := own_caps HO3.out
              have hct2 : ct ≤ 9223372036854775807 := hct
              have HTV : Hid (toldAt vals n t k3 = tchV n (wholeK vals) (stK vals n t k3) x) := hidp (by unfold toldAt; rw [hx])
              have HSTP := hidp (stK_step (vals := vals) (n := n) hx)
              have HPRE : Hid ((stK vals n t (k3 + 1)).rd <+: s.rd) := hidp (by
                have h1 := run_prefix (n := n) (K := wholeK vals) t freshS (k3 + 1)
                have h2 : (runS n (wholeK vals) t freshS).rd = s.rd := by
                  rw [← HSS.out]
                  unfold stK
                  rw [List.take_of_length_le (by have := HMM.out; omega)]
                rwa [h2] at h1)
              have HSAME := hidp (tch_same (n := n) (K := wholeK vals) (K' := kOf n (pairsOf vals s.rd)) (s := stK vals n t k3) (x := x) HWA.out (fun i hi hm => by
                rw [← HSTP.out] at hm
                rw [HKK.out i hi, if_pos (HPRE.out.subset hm)]))
              have HS21 : Hid (∀ w', Below w4.heap.size w4 w' → w'.cell? (ad.add (k3 * 3)) = some (.bool x.put) ∧ w'.cell? ⟨(ad.add (k3 * 3)).block, (ad.add (k3 * 3)).off + 1, none⟩ = some (.int .i64 x.cell) ∧
                  w'.cell? ⟨(ad.add (k3 * 3)).block, (ad.add (k3 * 3)).off + 2, none⟩ = some (.int .u32 (x.val : Int)) ∧ w'.cell? ⟨gt, k3, none⟩ = some (.int .u32 ((toldAt vals n t k3 : Nat) : Int))) := hidp (fun w' hb' => by
                obtain ⟨x0, x1, x2⟩ := (HA.out.below (Bgo HB4.out hb')).cells hx
                refine ⟨x0, x1, x2, (hb'.cell (p := ⟨gt, k3, none⟩) hgt).trans ?_⟩
                rw [HO3.out.cellAt k3 (by omega)]
                exact toldL_at vals n t hlt3)
              have hl := stK_len vals n t k3
              have HL1 : Hid ((stK vals n t k3).rd.length < 2 ^ 40) := hidp (by have := HMM.out; omega)
              have HL2 : Hid ((stK vals n t k3).wr.length < 2 ^ 40) := hidp (by have := HMM.out; omega)
              obtain ⟨x0, x1, x2, x3⟩ := HS21.out _ HBJ.out
              have HKN : Hid (tchV n (kOf n (pairsOf vals s.rd)) (stK vals n t k3) x = toldAt vals n t k3) := hidp (HSAME.out.2.trans HTV.out.symm)
              clear hx hl HTV HPRE
              generalize hKp : kOf n (pairsOf vals s.rd) = Kp at *
              clear hKp
              generalize toldAt vals n t k3 = tv at *
              go_wp2_with fail
              refine wp_region_held_drew (S := (fun w' => w'.cell? (ad.add (k3 * 3)) = some (.bool x.put) ∧ w'.cell? ⟨(ad.add (k3 * 3)).block, (ad.add (k3 * 3)).off + 1, none⟩ = some (.int .i64 x.cell) ∧ w'.cell? ⟨(ad.add (k3 * 3)).block, (ad.add (k3 * 3)).off + 2, none⟩ = some (.int .u32 (x.val : Int)) ∧ w'.cell? ⟨gt, k3, none⟩ = some (.int .u32 ((tv : Nat) : Int)))) (by kernel_rfl) ?_ (fun hHeld => ?_)
              · (try dsimp only)
                first | exact ⟨x0, x1, x2, x3⟩ | exact HS21.out _ HB5.out | exact hHeld
              refine wpAnyH_take (i := 0) (oi := _) (v := ?_) rfl (by kernel_rfl) (by kernel_rfl) (by kernel_rfl) (fun _ _ _ h => h) (Or.inl ⟨by rfl, ?_⟩) (by assumption) ?_
              rotate_left
              · intro w hSw; (try dsimp only at hSw); go_simp; (try with_reducible rfl)
              (try simp only [Act.put, List.getElem_toArray, List.getElem_cons_zero, List.getElem_cons_succ, List.setIfInBounds_toArray, List.set_cons_zero, List.set_cons_succ])
              refine wpAnyH_take (i := 1) (oi := _) (v := ?_) rfl (by kernel_rfl) (by kernel_rfl) (by kernel_rfl) (fun _ _ _ h => h) (Or.inl ⟨by rfl, ?_⟩) (by assumption) ?_
              rotate_left
              · intro w hSw; (try dsimp only at hSw); go_simp; (try with_reducible rfl)
              (try simp only [Act.put, List.getElem_toArray, List.getElem_cons_zero, List.getElem_cons_succ, List.setIfInBounds_toArray, List.set_cons_zero, List.set_cons_succ])
              refine wpAnyH_take (i := 2) (oi := _) (v := ?_) rfl (by kernel_rfl) (by kernel_rfl) (by kernel_rfl) (fun _ _ _ h => h) (Or.inl ⟨by rfl, ?_⟩) (by assumption) ?_
              rotate_left
              · intro w hSw; (try dsimp only at hSw); go_simp; (try with_reducible rfl)
              (try simp only [Act.put, List.getElem_toArray, List.getElem_cons_zero, List.getElem_cons_succ, List.setIfInBounds_toArray, List.set_cons_zero, List.set_cons_succ])
              refine wpAnyH_take (i := 3) (oi := _) (v := ?_) rfl (by kernel_rfl) (by kernel_rfl) (by kernel_rfl) (fun _ _ _ h => h) (Or.inl ⟨by rfl, ?_⟩) (by assumption) ?_
              rotate_left
              · intro w hSw; (try dsimp only at hSw); go_simp; (try with_reducible rfl)
              (try simp only [Act.put, List.getElem_toArray, List.getElem_cons_zero, List.getElem_cons_succ, List.setIfInBounds_toArray, List.set_cons_zero, List.set_cons_succ])
              refine wpAnyH_take (i := 4) (oi := _) (v := ?_) rfl (by kernel_rfl) (by kernel_rfl) (by kernel_rfl) (fun _ _ _ h => h) (Or.inl ⟨by rfl, ?_⟩) (by assumption) ?_
              rotate_left
              · intro w hSw; (try dsimp only at hSw); go_simp; (try with_reducible rfl)
              (try simp only [Act.put, List.getElem_toArray, List.getElem_cons_zero, List.getElem_cons_succ, List.setIfInBounds_toArray, List.set_cons_zero, List.set_cons_succ])
              refine wpAnyH_take (i := 6) (oi := _) (v := ?_) rfl (by kernel_rfl) (by kernel_rfl) (by kernel_rfl) (fun _ _ _ h => h) (Or.inl ⟨by rfl, ?_⟩) (by assumption) ?_
              rotate_left
              · intro w hSw; (try dsimp only at hSw); go_simp; (try with_reducible rfl)
              (try simp only [Act.put, List.getElem_toArray, List.getElem_cons_zero, List.getElem_cons_succ, List.setIfInBounds_toArray, List.set_cons_zero, List.set_cons_succ])
              refine wpAnyH_take (i := 7) (oi := _) (v := ?_) rfl (by kernel_rfl) (by kernel_rfl) (by kernel_rfl) (fun _ _ _ h => h) (Or.inl ⟨by rfl, ?_⟩) (by assumption) ?_
              rotate_left
              · intro w hSw; (try dsimp only at hSw); go_simp; (try with_reducible rfl)
              (try simp only [Act.put, List.getElem_toArray, List.getElem_cons_zero, List.getElem_cons_succ, List.setIfInBounds_toArray, List.set_cons_zero, List.set_cons_succ])
              refine wpAnyH_take (i := 8) (oi := _) (v := ?_) rfl (by kernel_rfl) (by kernel_rfl) (by kernel_rfl) (fun _ _ _ h => h) (Or.inl ⟨by rfl, ?_⟩) (by assumption) ?_
              rotate_left
              · intro w hSw; (try dsimp only at hSw); go_simp; (try with_reducible rfl)
              (try simp only [Act.put, List.getElem_toArray, List.getElem_cons_zero, List.getElem_cons_succ, List.setIfInBounds_toArray, List.set_cons_zero, List.set_cons_succ])
              refine wpAnyH_take (i := 9) (oi := _) (v := ?_) rfl (by kernel_rfl) (by kernel_rfl) (by kernel_rfl) (fun _ _ _ h => h) (Or.inl ⟨by rfl, ?_⟩) (by assumption) ?_
              rotate_left
              · intro w hSw; (try dsimp only at hSw); go_simp; (try with_reducible rfl)
              (try simp only [Act.put, List.getElem_toArray, List.getElem_cons_zero, List.getElem_cons_succ, List.setIfInBounds_toArray, List.set_cons_zero, List.set_cons_succ])
              refine wpAnyH_ready (rs := [5]) (by kernel_rfl) (by simp) ?_
              refine AllReadyH.cons (o := _) rfl (fun K hK => ?_) AllReadyH.nil
              go_simp
              refine (touch_c x HXO.out HL1.out HL2.out _ (HJ.out.keep (Bdrew (B0 _)))).mono ?_; rintro e w5 ⟨rfl, o5, hI5, hA5, hT5⟩; rw [HKN.out]; rw [HSAME.out.1, ← HSTP.out] at hI5; have HB5 := hidp (hT5.below (Bgo HBJ.out (Bdrew (B0 _))) (fun i hi => HJ.out.ge i (.inl hi))); have HJ5 := hidp hI5; clear hI5 hA5 hT5
              refine hK.out _ _ ?_ (fun hHeld => ?_)
              · (try dsimp only)
                first | exact ⟨x0, x1, x2, x3⟩ | exact HS21.out _ HB5.out | exact hHeld
              clear hK K
              (try simp only [Act.put, List.getElem_toArray, List.getElem_cons_zero, List.getElem_cons_succ, List.setIfInBounds_toArray, List.set_cons_zero, List.set_cons_succ])
              refine wpAnyH_take (i := 10) (oi := _) (v := ?_) rfl (by kernel_rfl) (by kernel_rfl) (by kernel_rfl) (fun _ _ _ h => h) (Or.inl ⟨by rfl, ?_⟩) (by assumption) ?_
              rotate_left
              · intro w hSw; (try dsimp only at hSw); go_simp; (try with_reducible rfl)
              (try simp only [Act.put, List.getElem_toArray, List.getElem_cons_zero, List.getElem_cons_succ, List.setIfInBounds_toArray, List.set_cons_zero, List.set_cons_succ])
              refine wpAnyH_done (by kernel_rfl) ?_ _
              go_wp2
              go_roundw
              case rel => exact ⟨k3 + 1, o5, by omega, by go_num, HJ5, HB5⟩
              case measure => simp [intOf]; omega
            · obtain rfl : k3 = k := by omega
              rename World => w7
              have HJ7 : Hid (IsView w7 w4.heap.size b2 n false o2 (kOf n (pairsOf vals s.rd)) s) := hidp (by
                have := HJ.out
                rwa [HSS.out] at this)
              have HI7 := hidp (HI3.out.keep HBJ.out)
              have HR7 := hidp (own_below HR3.out HBJ.out)
              have HB7 := hidp (Bgo HB4.out HBJ.out)
              have HPL7 := hidp (HPL.out.below HBJ.out)
              have HMI : Hid (missI s = -1) := hidp (by
                have h1 := run_found HWA.out (t.take k3) freshS rfl
                have h2 : s.lost = false := by
                  rw [← HSS.out]
                  exact h1
                unfold missI
                rw [h2]
                rfl)
              have HLW : Hid (s.wr.length < 2 ^ 40) := hidp (by omega)
              have HLR : Hid (s.rd.length < 2 ^ 40) := hidp (by have := HQ.out; omega)
              have hqm : k2 ≤ 100 := by omega
              clear HJ HBJ HI3 HO3 HR3 HB4 HPL hlt3 hk3 hl1 hl2
              go_wp2_with fail
              refine (vMissing_c _ HJ7.out).mono ?_
              rintro e w8 ⟨rfl, rfl⟩
              rw [HMI.out]
              go_wp2_with fail
              refine (vReads_c HLR.out _ HJ7.out).mono ?_
              rintro e w9 ⟨v9, rfl, ho, hb⟩
              have HV9 : Hid (RowV w9 v9 ((s.rd.map fun (i : Nat) => (i : Int)).map (Value.int .i64))) := hidp (rowV_nat ho)
              have HV10 : Hid (RowV w9 (.slice Ar k2 cr) ((s.rd.map fun (i : Nat) => (i : Int)).map (Value.int .i64))) := hidp ((rowV_nat (by rw [HQ.out]; exact HR7.out)).below hb)
              have HI9 := hidp (HI7.out.keep hb)
              have HJ9 := hidp (HJ7.out.keep hb)
              have HB9 := hidp (Bgo HB7.out hb)
              have HR9 := hidp (own_below HR7.out hb)
              have HPL9 := hidp (HPL7.out.below hb)
              clear ho hb HI7 HJ7 HB7 HR7 HPL7
              go_wp2_with fail
              refine (Ints_same _ _ _ _ HV9.out HV10.out).mono ?_
              rintro e w10 ⟨rfl, j10, rfl⟩
              have hb := Bdraw (B0 w9) j10
              have HI10 := hidp (HI9.out.keep hb)
              have HJ10 := hidp (HJ9.out.keep hb)
              have HB10 := hidp (Bgo HB9.out hb)
              have HR10 := hidp (own_below HR9.out hb)
              have HPL10 := hidp (HPL9.out.below hb)
              clear hb HI9 HJ9 HB9 HR9 HPL9 HV9 HV10
              go_wp2_with fail
              refine (vWrites_c HLW.out _ HJ10.out).mono ?_
              rintro e w11 ⟨v11, rfl, ho, hb⟩
              have HP11 := hidp (RowP.of_own ho)
              have HI11 := hidp (HI10.out.keep hb)
              have HB11 := hidp (Bgo HB10.out hb)
              have HR11 := hidp (own_below HR10.out hb)
              have HPL11 := hidp (HPL10.out.below hb)
              clear ho hb HI10 HJ10 HB10 HR10 HPL10
              go_wp2_with fail
              refine (vWrites_c HLW.out _ HI11.out).mono ?_
              rintro e w12 ⟨v12, rfl, ho, hb⟩
              have HP12 := hidp (RowP.of_own ho)
              have HP13 := hidp (HP11.out.below hb)
              have HB12 := hidp (Bgo HB11.out hb)
              have HR12 := hidp (own_below HR11.out hb)
              have HPL12 := hidp (HPL11.out.below hb)
              clear ho hb HI11 HB11 HR11 HPL11 HP11
              go_wp2_with fail
              refine (Pairs_same s.wr _ _ _ HP13.out HP12.out).mono ?_
              rintro e w13 ⟨rfl, j13, rfl⟩
              have hb := Bdraw (B0 w12) j13
              have HB13 := hidp (Bgo HB12.out hb)
              have HR13 := hidp (own_below HR12.out hb)
              have HPL13 := hidp (HPL12.out.below hb)
              clear hb HB12 HR12 HPL12 HP12 HP13
              obtain ⟨w14, hw14⟩ : ∃ w14, w12.drewN j13 = w14 := ⟨_, rfl⟩
              rw [hw14] at HB13 HR13 HPL13 ⊢
              clear hw14
              rcases Int.lt_or_le less 0 with hless | hless
              · have u0 : decide (less < 0) = true := decide_eq_true hless
                go_wp2_with fail
                refine (live_c _).mono ?_
                rintro e w15 ⟨rfl, hb⟩
                go_wp2
                go_ret
                exact ⟨rfl, Bgo HB13.out hb⟩
              · have u0 : decide (less < 0) = false := decide_eq_false (by omega)
                obtain ⟨f, rfl⟩ := Int.eq_ofNat_of_zero_le hless
                rcases Nat.lt_or_ge f k2 with hf | hf
                · have u1 : decide ((k2 : Int) ≤ f) = false := decide_eq_false (by omega)
                  have u2 : decide (k2 ≤ f) = false := decide_eq_false (by omega)
                  obtain ⟨gl, cl', hvl, _, _⟩ := HPF.out.form (by omega)
                  injection hvl with hvl _ hcc
                  subst hvl
                  subst hcc
                  obtain ⟨gr, cr', hvr, _, _⟩ := HR13.out.form (by omega)
                  injection hvr with hvr _ hcc
                  subst hvr
                  subst hcc
                  have hfc : f ≤ cl := by have := (own_caps HPF.out).1; omega
                  have hfr : f ≤ cr := by have := (own_caps HR13.out).1; omega
                  have HPT : Hid (PairVs w14 (some ⟨gl, 0, none⟩) (pairsOf vals (s.rd.take f))) := hidp (fun i a ha => by
                    rw [← pairsOf_take] at ha
                    have hi : i < f := by
                      rcases Nat.lt_or_ge i f with h1 | h1
                      · exact h1
                      · rw [List.getElem?_eq_none (by simp; omega)] at ha; cases ha
                    rw [List.getElem?_take_of_lt hi] at ha
                    exact HPL13.out i a ha)
                  have HPK : Hid (∀ p ∈ pairsOf vals (s.rd.take f), p.Ok) := hidp (fun p hp => by
                    rw [← pairsOf_take] at hp
                    exact HPOK.out p (List.mem_of_mem_take hp))
                  have HPM : Hid ((pairsOf vals (s.rd.take f)).length = f) := hidp (by
                    rw [← pairsOf_take, List.length_take, HPN.out]
                    omega)
                  have HKF : Hid (∀ i, i < n → kOf n (pairsOf vals (s.rd.take f)) i = if i ∈ s.rd.take f then wholeK vals i else none) := hidp (fun i hi => by
                    rw [kOf_pairs (s.rd.take f) (fun i hi => HRL.out i (List.mem_of_mem_take hi)) i]
                    by_cases h : i ∈ s.rd.take f
                    · rw [if_pos h, if_pos h, wholeK_at HNN.out i hi]
                    · rw [if_neg h, if_neg h])
                  have HND : Hid s.rd.Nodup := hidp (by
                    have h1 := run_ok (n := n) (K := wholeK vals) (t.take k3) freshS (fun y hy => HTT.out y (List.mem_of_mem_take hy)) (VOk.fresh n)
                    have h2 : runS n (wholeK vals) (t.take k3) freshS = s := HSS.out
                    rw [h2] at h1
                    exact h1.rdNd)
                  go_wp2_with fail
                  refine (Known_c (some ⟨gl, 0, none⟩) cl f n (pairsOf vals (s.rd.take f)) HPM.out hfc hcl (by omega) (by omega) HPK.out _ HPT.out).mono ?_
                  rintro e w15 ⟨b3, o3, rfl, hJ, hb⟩
                  have HJ15 := hidp hJ
                  have HB15 := hidp hb
                  clear hJ hb HPT HPK HPM
                  go_wp2_with fail
                  go_loopw [16] (fun i wx => ∃ (k4 : Nat) (o3 : VGeo) (z : Vst), k4 ≤ k3 ∧ i = .int .i64 k4 ∧ Hid (IsView wx w14.heap.size b3 n false o3 (kOf n (pairsOf vals (s.rd.take f))) z) ∧ Hid (LessIs s.rd f (stK vals n t k4) z) ∧ Hid (z.rd.length ≤ k4 ∧ z.wr.length ≤ k4) ∧ Hid (Below w14.heap.size w14 wx)) (fun i _ => k3 - (intOf i).toNat)
                  case atStart => exact ⟨0, o3, freshS, by omega, rfl, HJ15, hidp (.inl ⟨rfl, by simp [stK, runS, freshS]⟩), hidp (by simp [freshS]), HB15⟩
                  case round =>
                    clear HJ15 HB15
                    obtain ⟨k4, o3, z, hk4, rfl, HJ, HLS, HLN, HBJ⟩ := hrel
                    by_cases hlt4 : k4 < k3
                    · obtain ⟨x, hx⟩ : ∃ x, t[k4]? = some x := ⟨_, List.getElem?_eq_getElem (by rw [HMM.out]; exact hlt4)⟩
                      have HXO := hidp (HTT.out x (List.mem_of_getElem? hx))
                      obtain ⟨ad, rfl, _, _⟩ := HA.out k4 x hx
                      obtain ⟨x0, x1, x2⟩ := (HA.out.below (Bgo HB13.out HBJ.out)).cells hx
                      have HSTP := hidp (stK_step (vals := vals) (n := n) hx)
                      have HPRE : Hid ((stK vals n t (k4 + 1)).rd <+: s.rd) := hidp (by
                        have h1 := run_prefix (n := n) (K := wholeK vals) t freshS (k4 + 1)
                        have h2 : (runS n (wholeK vals) t freshS).rd = s.rd := by
                          rw [← HSS.out]
                          unfold stK
                          rw [List.take_of_length_le (by have := HMM.out; omega)]
                        rwa [h2] at h1)
                      have HLS2 : Hid (LessIs s.rd f (stK vals n t (k4 + 1)) (tchS n (kOf n (pairsOf vals (s.rd.take f))) z x)) := hidp (by
                        have h1 := HPRE.out
                        rw [HSTP.out] at h1 ⊢
                        exact less_step HWA.out HND.out (by have := HQ.out; omega) HKF.out h1 HLS.out)
                      have HLN2 : Hid ((tchS n (kOf n (pairsOf vals (s.rd.take f))) z x).rd.length ≤ k4 + 1 ∧ (tchS n (kOf n (pairsOf vals (s.rd.take f))) z x).wr.length ≤ k4 + 1) := hidp (by
                        have h1 := tch_len n (kOf n (pairsOf vals (s.rd.take f))) z x
                        have h2 := HLN.out
                        omega)
                      have hz := HLN.out
                      have HL1 : Hid (z.rd.length < 2 ^ 40) := hidp (by omega)
                      have HL2 : Hid (z.wr.length < 2 ^ 40) := hidp (by omega)
                      clear hx HPRE hz
                      go_wp2_with fail
                      refine (touch_c x HXO.out HL1.out HL2.out _ HJ.out).mono ?_
                      rintro e w16 ⟨rfl, o5, hI5, hA5, hT5⟩
                      have HB16 := hidp (hT5.below HBJ.out (fun i hi => HJ.out.ge i (.inl hi)))
                      have HJ16 := hidp hI5
                      clear hI5 hA5 hT5 x0 x1 x2
                      go_wp2
                      go_roundw
                      case rel => exact ⟨k4 + 1, o5, _, by omega, by go_num, HJ16, HLS2, HLN2, HB16⟩
                      case measure => simp [intOf]; omega
                    · obtain rfl : k4 = k3 := by omega
                      rename World => w17
                      have HEND := hidp (less_end (q := f) (by rw [HSS.out]) (by have := HQ.out; omega) HLS.out)
                      have HL1 : Hid (z.rd.length < 2 ^ 40) := hidp (by have := HLN.out; omega)
                      have HLT : Hid (z.rd.length = f) := hidp (by rw [HEND.out.2, List.length_take]; have := HQ.out; omega)
                      have HR17 := hidp (own_below HR13.out HBJ.out)
                      have hgr := (HR13.out.lt gr rfl).2
                      obtain ⟨rf, hrf⟩ : ∃ rf, s.rd.getD f 0 = rf := ⟨_, rfl⟩
                      have HRF : Hid (missI z = (rf : Int)) := hidp (by rw [HEND.out.1, hrf])
                      have HS32 : Hid (∀ w', Below w14.heap.size w14 w' → w'.cell? ⟨gr, f, none⟩ = some (.int .i64 (rf : Int))) := hidp (fun w' hb' => by
                        refine (hb'.cell (p := ⟨gr, f, none⟩) hgr).trans ?_
                        rw [HR13.out.cellAt f (by omega)]
                        unfold natVs
                        rw [List.getElem?_map]
                        have := HQ.out
                        rw [← hrf]
                        simp [List.getD, List.getElem?_eq_getElem (show f < s.rd.length by omega)])
                      have HRT : Hid (∀ w', Below w14.heap.size w14 w' → RowV w' (.slice (some ⟨gr, 0, none⟩) f cr) (((s.rd.take f).map fun (i : Nat) => (i : Int)).map (Value.int .i64))) := hidp (fun w' hb' => by
                        have hlen : (((s.rd.take f).map fun (i : Nat) => (i : Int)).map (Value.int .i64)).length = f := by simp; have := HQ.out; omega
                        refine ⟨by rw [hlen]; unfold maxLen; omega, .inr ⟨gr, 0, cr, by rw [hlen], Nat.lt_of_lt_of_le hgr hb'.size, fun i u hu => ?_⟩⟩
                        have hi : i < f := by
                          rcases Nat.lt_or_ge i f with h1 | h1
                          · exact h1
                          · rw [List.getElem?_eq_none (by rw [hlen]; omega)] at hu; cases hu
                        rw [Nat.zero_add]
                        refine (hb'.cell (p := ⟨gr, i, none⟩) hgr).trans ?_
                        rw [HR13.out.cellAt i (by omega), natVs_ints]
                        rw [List.getElem?_map, List.getElem?_map, List.getElem?_take_of_lt hi] at hu
                        rw [List.getElem?_map, List.getElem?_map]
                        exact hu)
                      have y0 := HS32.out _ HBJ.out
                      clear hrf hlt4 hk4
                      go_wp2_with fail
                      refine wp_region_held_drew (S := (fun w' => w'.cell? ⟨gr, f, none⟩ = some (.int .i64 (rf : Int)))) (by kernel_rfl) ?_ (fun hHeld => ?_)
                      · (try dsimp only)
                        first | exact y0 | exact hst _ _ hHeld | exact HS32.out _ HBq.out | exact hHeld
                      refine wpAnyH_take (i := 0) (oi := _) (v := ?_) rfl (by kernel_rfl) (by kernel_rfl) (by kernel_rfl) (fun _ _ _ h => h) (Or.inl ⟨by rfl, ?_⟩) (by assumption) ?_
                      rotate_left
                      · intro w hSw; (try dsimp only at hSw); go_simp; (try with_reducible rfl)
                      (try simp only [Act.put, List.getElem_toArray, List.getElem_cons_zero, List.getElem_cons_succ, List.setIfInBounds_toArray, List.set_cons_zero, List.set_cons_succ])
                      refine wpAnyH_take (i := 2) (oi := _) (v := ?_) rfl (by kernel_rfl) (by kernel_rfl) (by kernel_rfl) (fun _ _ _ h => h) (Or.inl ⟨by rfl, ?_⟩) (by assumption) ?_
                      rotate_left
                      · intro w hSw; (try dsimp only at hSw); go_simp; (try with_reducible rfl)
                      (try simp only [Act.put, List.getElem_toArray, List.getElem_cons_zero, List.getElem_cons_succ, List.setIfInBounds_toArray, List.set_cons_zero, List.set_cons_succ])
                      refine wpAnyH_take (i := 3) (oi := _) (v := ?_) rfl (by kernel_rfl) (by kernel_rfl) (by kernel_rfl) (fun _ _ _ h => h) (Or.inl ⟨by rfl, ?_⟩) (by assumption) ?_
                      rotate_left
                      · intro w hSw; (try dsimp only at hSw); go_simp; (try with_reducible rfl)
                      (try simp only [Act.put, List.getElem_toArray, List.getElem_cons_zero, List.getElem_cons_succ, List.setIfInBounds_toArray, List.set_cons_zero, List.set_cons_succ])
                      refine wpAnyH_take (i := 4) (oi := _) (v := ?_) rfl (by kernel_rfl) (by kernel_rfl) (by kernel_rfl) (fun _ _ _ h => h) (Or.inl ⟨by rfl, ?_⟩) (by assumption) ?_
                      rotate_left
                      · intro w hSw; (try dsimp only at hSw); go_simp; (try with_reducible rfl)
                      (try simp only [Act.put, List.getElem_toArray, List.getElem_cons_zero, List.getElem_cons_succ, List.setIfInBounds_toArray, List.set_cons_zero, List.set_cons_succ])
                      refine wpAnyH_take (i := 5) (oi := _) (v := ?_) rfl (by kernel_rfl) (by kernel_rfl) (by kernel_rfl) (fun _ _ _ h => h) (Or.inl ⟨by rfl, ?_⟩) (by assumption) ?_
                      rotate_left
                      · intro w hSw; (try dsimp only at hSw); go_simp; (try with_reducible rfl)
                      (try simp only [Act.put, List.getElem_toArray, List.getElem_cons_zero, List.getElem_cons_succ, List.setIfInBounds_toArray, List.set_cons_zero, List.set_cons_succ])
                      refine wpAnyH_ready (rs := [1]) (by kernel_rfl) (by simp) ?_
                      refine AllReadyH.cons (o := _) rfl (fun K hK => ?_) AllReadyH.nil
                      go_simp
                      refine (vMissing_c _ (HJ.out.keep (Bdrew (B0 _)))).mono ?_; rintro e w18 ⟨rfl, hw18⟩; rw [HRF.out]; have HJ18 := hidp (hw18 ▸ HJ.out.keep (Bdrew (B0 _))); have HBq := hidp (hw18 ▸ Bgo HBJ.out (Bdrew (B0 _))); clear hw18
                      refine hK.out _ _ ?_ (fun hHeld => ?_)
                      · (try dsimp only)
                        first | exact y0 | exact hst _ _ hHeld | exact HS32.out _ HBq.out | exact hHeld
                      clear hK K
                      (try simp only [Act.put, List.getElem_toArray, List.getElem_cons_zero, List.getElem_cons_succ, List.setIfInBounds_toArray, List.set_cons_zero, List.set_cons_succ])
                      refine wpAnyH_take (i := 6) (oi := _) (v := ?_) rfl (by kernel_rfl) (by kernel_rfl) (by kernel_rfl) (fun _ _ _ h => h) (Or.inl ⟨by rfl, ?_⟩) (by assumption) ?_
                      rotate_left
                      · intro w hSw; (try dsimp only at hSw); go_simp; (try with_reducible rfl)
                      (try simp only [Act.put, List.getElem_toArray, List.getElem_cons_zero, List.getElem_cons_succ, List.setIfInBounds_toArray, List.set_cons_zero, List.set_cons_succ])
                      refine wpAnyH_take (i := 7) (oi := _) (v := ?_) rfl (by kernel_rfl) (by kernel_rfl) (by kernel_rfl) (fun _ _ _ h => h) (Or.inl ⟨by rfl, ?_⟩) (by assumption) ?_
                      rotate_left
                      · intro w hSw; (try dsimp only at hSw); go_simp; (try with_reducible rfl)
                      (try simp only [Act.put, List.getElem_toArray, List.getElem_cons_zero, List.getElem_cons_succ, List.setIfInBounds_toArray, List.set_cons_zero, List.set_cons_succ])
                      refine wpAnyH_take (i := 8) (oi := _) (v := ?_) rfl (by kernel_rfl) (by kernel_rfl) (by kernel_rfl) (fun _ _ _ h => h) (Or.inl ⟨by rfl, ?_⟩) (by assumption) ?_
                      rotate_left
                      · intro w hSw; (try dsimp only at hSw); go_simp; (try with_reducible rfl)
                      (try simp only [Act.put, List.getElem_toArray, List.getElem_cons_zero, List.getElem_cons_succ, List.setIfInBounds_toArray, List.set_cons_zero, List.set_cons_succ])
                      refine wpAnyH_take (i := 10) (oi := _) (v := ?_) rfl (by kernel_rfl) (by kernel_rfl) (by kernel_rfl) (fun _ _ _ h => h) (Or.inl ⟨by rfl, ?_⟩) (by assumption) ?_
                      rotate_left
                      · intro w hSw; (try dsimp only at hSw); go_simp; (try with_reducible rfl)
                      (try simp only [Act.put, List.getElem_toArray, List.getElem_cons_zero, List.getElem_cons_succ, List.setIfInBounds_toArray, List.set_cons_zero, List.set_cons_succ])
                      refine wpAnyH_take (i := 11) (oi := _) (v := ?_) rfl (by kernel_rfl) (by kernel_rfl) (by kernel_rfl) (fun _ _ _ h => h) (Or.inl ⟨by rfl, ?_⟩) (by assumption) ?_
                      rotate_left
                      · intro w hSw; (try dsimp only at hSw); go_simp; (try with_reducible rfl)
                      (try simp only [Act.put, List.getElem_toArray, List.getElem_cons_zero, List.getElem_cons_succ, List.setIfInBounds_toArray, List.set_cons_zero, List.set_cons_succ])
                      refine wpAnyH_take (i := 12) (oi := _) (v := ?_) rfl (by kernel_rfl) (by kernel_rfl) (by kernel_rfl) (fun _ _ _ h => h) (Or.inl ⟨by rfl, ?_⟩) (by assumption) ?_
                      rotate_left
                      · intro w hSw; (try dsimp only at hSw); go_simp; (try with_reducible rfl)
                      (try simp only [Act.put, List.getElem_toArray, List.getElem_cons_zero, List.getElem_cons_succ, List.setIfInBounds_toArray, List.set_cons_zero, List.set_cons_succ])
                      refine wpAnyH_ready (rs := [9]) (by kernel_rfl) (by simp) ?_
                      refine AllReadyH.cons (o := _) rfl (fun K hK => ?_) AllReadyH.nil
                      go_simp
                      refine (vReads_c HL1.out _ HJ18.out).mono ?_; rintro e w19 ⟨v19, rfl, ho, hb⟩; have HV19 := hidp (rowV_nat ho); rw [HEND.out.2] at HV19; have HBr := HBq; clear HBq; have HBq := hidp (Bgo HBr.out hb); clear ho hb HBr
                      refine hK.out _ _ ?_ (fun hHeld => ?_)
                      · (try dsimp only)
                        first | exact y0 | exact hst _ _ hHeld | exact HS32.out _ HBq.out | exact hHeld
                      clear hK K
                      (try simp only [Act.put, List.getElem_toArray, List.getElem_cons_zero, List.getElem_cons_succ, List.setIfInBounds_toArray, List.set_cons_zero, List.set_cons_succ])
                      refine wpAnyH_ready (rs := [13]) (by kernel_rfl) (by simp) ?_
                      refine AllReadyH.cons (o := _) rfl (fun K hK => ?_) AllReadyH.nil
                      go_simp
                      refine (Ints_same ((s.rd.take f).map fun (i : Nat) => (i : Int)) _ _ _ HV19.out (HRT.out _ HBq.out)).mono ?_; rintro e w20 ⟨rfl, j20, rfl⟩; have HBr := HBq; clear HBq; have HBq := hidp (Bdraw HBr.out j20); clear HBr
                      refine hK.out _ _ ?_ (fun hHeld => ?_)
                      · (try dsimp only)
                        first | exact y0 | exact hst _ _ hHeld | exact HS32.out _ HBq.out | exact hHeld
                      clear hK K
                      (try simp only [Act.put, List.getElem_toArray, List.getElem_cons_zero, List.getElem_cons_succ, List.setIfInBounds_toArray, List.set_cons_zero, List.set_cons_succ])
                      refine wpAnyH_take (i := 14) (oi := _) (v := ?_) rfl (by kernel_rfl) (by kernel_rfl) (by kernel_rfl) (fun _ _ _ h => h) (Or.inl ⟨by rfl, ?_⟩) (by assumption) ?_
                      rotate_left
                      · intro w hSw; (try dsimp only at hSw); go_simp; (try with_reducible rfl)
                      (try simp only [Act.put, List.getElem_toArray, List.getElem_cons_zero, List.getElem_cons_succ, List.setIfInBounds_toArray, List.set_cons_zero, List.set_cons_succ])
                      refine wpAnyH_take (i := 15) (oi := _) (v := ?_) rfl (by kernel_rfl) (by kernel_rfl) (by kernel_rfl) (fun _ _ _ h => h) (Or.inl ⟨by rfl, ?_⟩) (by assumption) ?_
                      rotate_left
                      · intro w hSw; (try dsimp only at hSw); go_simp; (try with_reducible rfl)
                      (try simp only [Act.put, List.getElem_toArray, List.getElem_cons_zero, List.getElem_cons_succ, List.setIfInBounds_toArray, List.set_cons_zero, List.set_cons_succ])
                      refine wpAnyH_ready (rs := [16]) (by kernel_rfl) (by simp) ?_
                      refine AllReadyH.cons (o := _) rfl (fun K hK => ?_) AllReadyH.nil
                      go_simp
                      refine (live_c _).mono ?_; rintro e w21 ⟨rfl, hb⟩; have HBr := HBq; clear HBq; have HBq := hidp (Bgo HBr.out hb); clear hb HBr
                      refine hK.out _ _ ?_ (fun hHeld => ?_)
                      · (try dsimp only)
                        first | exact y0 | exact hst _ _ hHeld | exact HS32.out _ HBq.out | exact hHeld
                      clear hK K
                      (try simp only [Act.put, List.getElem_toArray, List.getElem_cons_zero, List.getElem_cons_succ, List.setIfInBounds_toArray, List.set_cons_zero, List.set_cons_succ])
                      refine wpAnyH_take (i := 17) (oi := _) (v := ?_) rfl (by kernel_rfl) (by kernel_rfl) (by kernel_rfl) (fun _ _ _ h => h) (Or.inl ⟨by rfl, ?_⟩) (by assumption) ?_
                      rotate_left
                      · intro w hSw; (try dsimp only at hSw); go_simp; (try with_reducible rfl)
                      (try simp only [Act.put, List.getElem_toArray, List.getElem_cons_zero, List.getElem_cons_succ, List.setIfInBounds_toArray, List.set_cons_zero, List.set_cons_succ])
                      refine wpAnyH_take (i := 18) (oi := _) (v := ?_) rfl (by kernel_rfl) (by kernel_rfl) (by kernel_rfl) (fun _ _ _ h => h) (Or.inl ⟨by rfl, ?_⟩) (by assumption) ?_
                      rotate_left
                      · intro w hSw; (try dsimp only at hSw); go_simp; (try with_reducible rfl)
                      (try simp only [Act.put, List.getElem_toArray, List.getElem_cons_zero, List.getElem_cons_succ, List.setIfInBounds_toArray, List.set_cons_zero, List.set_cons_succ])
                      refine wpAnyH_done (by kernel_rfl) ?_ _
                      go_wp2
                      go_ret
                      exact ⟨rfl, Bgo HB13.out HBq.out⟩
                · have u1 : decide ((k2 : Int) ≤ f) = true := decide_eq_true (by omega)
                  have u2 : decide (k2 ≤ f) = true := decide_eq_true (by omega)
                  go_wp2_with fail
                  refine (live_c _).mono ?_
                  rintro e w15 ⟨rfl, hb⟩
                  go_wp2
                  go_ret
                  exact ⟨rfl, Bgo HB13.out hb⟩


theorem ViewKnows_calls (A B : Option Addr) (c d : Nat) (vals : List Nat) (t : List TouchV) (less : Int) (hnc : vals.length ≤ c) (hcm : c ≤ maxLen) (hmd : t.length ≤ d) (hdm : d ≤ maxLen) (h32 : ∀ x ∈ vals, x < 2 ^ 32) (hok : ∀ x ∈ t, x.Ok)
    (W : World) (HR : Hid (Reads W W.heap.size 1 A vals.length (valVs vals))) (HA : Hid (TouchVs W B t)) :
    Calls Try.prog 4 #[.slice A vals.length c, .slice B t.length d, .int .i64 less] W (Keeps W) := by
  by_cases hn : vals.length ≤ 300
  · by_cases hm : t.length ≤ 100
    · exact ViewKnows_main A B c d _ _ vals t less (hidp rfl) (hidp rfl) (hidp h32) (hidp hok) hn hm hnc hcm hmd hdm W HR HA
    · exact ViewKnows_few2 A B c d _ _ less hn (by omega) W
  · exact ViewKnows_few1 A B c d _ _ less (by omega) W
end Go.Proofs.Ytcfljejeceikbaa
