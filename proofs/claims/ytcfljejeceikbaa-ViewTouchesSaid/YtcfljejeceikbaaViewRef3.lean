/-
  The document's answer for Views: Known. Written by view/gen_ref3.py.
-/
import Derived.Test.YtcfljejeceikbaaViewRef2
import Derived.Deep.RegionHeld3
namespace Go.Proofs.Ytcfljejeceikbaa
open Go.ChangeShapes Go.WideShapes Go.ChangeAt Go.RowKit Go.Maps
set_option linter.unusedVariables false
set_option linter.unusedSimpArgs false

set_option maxHeartbeats 3200000 in
theorem RKnown_c (A : Option Addr) (c m n : Nat) (l : List PairV) (hl : l.length = m) (hmc : m ≤ c) (hc : c ≤ maxLen) (hm : m ≤ 2 ^ 40) (hmx : n ≤ 2 ^ 40) (hok : ∀ p ∈ l, p.Ok) (w : World) (hA : PairVs w A l) :
    Calls Try.prog 10 #[.int .i64 (n : Int), .slice A m c] w fun e w' => ∃ (b : Nat) (v : Nat → Value), e = .returned (.pointer (some ⟨b, 0, none⟩)) ∧ IsRefV w' w.heap.size b n false v (kOf n l) freshS ∧ Below w.heap.size w w' := by
  have HL := hidp hl
  have HA := hidp hA
  have HOK := hidp hok
  have hc2 : c ≤ 9223372036854775807 := hc
  clear hl hA hok
  go_enter Try.func10, Try.ntmps10
  go_wp2_with fail
  refine (blank_c n hmx _).mono ?_
  rintro e w1 ⟨b, v, rfl, hI, hB⟩
  have HP1 : Hid (RParts w1 w.heap.size b v (rHead n v freshS false) (rN n freshS) (rX n (kOf n (l.take 0)) freshS)) := hidp hI.parts
  have HB1 := hidp hB
  clear hI hB
  go_wp2_with fail
  go_loopw [6, 7] (fun i _ wr => ∃ k : Nat, k ≤ m ∧ i = .int .i64 k ∧ Hid (RParts wr w.heap.size b v (rHead n v freshS false) (rN n freshS) (rX n (kOf n (l.take k)) freshS)) ∧ Hid (Below w.heap.size w wr)) (fun i _ _ => m - (intOf i).toNat)
  case atStart => exact ⟨0, by omega, rfl, HP1, HB1⟩
  case round =>
    clear HP1 HB1
    obtain ⟨k, hk, rfl, HP, HB⟩ := hrel
    by_cases hlt : k < m
    · obtain ⟨p, hp⟩ : ∃ p, l[k]? = some p := ⟨_, List.getElem?_eq_getElem (by rw [HL.out]; exact hlt)⟩
      have HPO := hidp (HOK.out p (List.mem_of_getElem? hp))
      obtain ⟨ad, rfl, hadb, _⟩ := HA.out k p hp
      have HXC : Hid (∀ w', Below w.heap.size w w' → PairVAt w' (ad.add (k * 2)) p) := hidp (fun w' hb => (HA.out.below hb).cells hp)
      obtain ⟨x0, x1⟩ := HXC.out _ HB.out
      have HT := hidp (kOf_take (n := n) hp)
      obtain ⟨pc, pv⟩ := p
      simp only at x0 x1 HT
      have HBB : Hid (ad.block < w.heap.size) := hidp hadb
      clear hp hadb
      have hc0 : wr.cell? ⟨b, 0, none⟩ = some (.int .i64 (n : Int)) := HP.out.head.cell 0
      rcases Int.lt_or_le pc 0 with h2 | h2
      · have HNO : Hid (¬ (0 ≤ pc ∧ pc < n ∧ kOf n (l.take k) pc.toNat = none)) := hidp (by omega)
        have t0 : decide ((0 : Int) ≤ pc) = false := decide_eq_false (by omega)
        go_wp2
        go_roundw
        case rel => exact ⟨k + 1, by omega, by go_num, by rw [HT.out, kAdd_no HNO.out]; exact HP, HB⟩
        case measure => simp [intOf]; omega
      · have t0 : decide ((0 : Int) ≤ pc) = true := decide_eq_true h2
        rcases Int.lt_or_le n pc with h3 | h3
        · have HNO : Hid (¬ (0 ≤ pc ∧ pc < n ∧ kOf n (l.take k) pc.toNat = none)) := hidp (by omega)
          have t1 : decide (pc < (n : Int)) = false := decide_eq_false (by omega)
          go_wp2
          go_roundw
          case rel => exact ⟨k + 1, by omega, by go_num, by rw [HT.out, kAdd_no HNO.out]; exact HP, HB⟩
          case measure => simp [intOf]; omega
        · rcases Int.lt_or_le pc n with h3 | h3
          · obtain ⟨i, rfl⟩ := Int.eq_ofNat_of_zero_le h2
            have t1 : decide ((i : Int) < n) = true := decide_eq_true h3
            have hin : i < n := by omega
            have c1 : wr.cell? ⟨b, 1, none⟩ = some (v 0) := HP.out.head.cell 1
            have c2 : wr.cell? ⟨b, 2, none⟩ = some (v 1) := HP.out.head.cell 2
            obtain ⟨g0, p0, hv0, hp0, hm0, hg0, hl0⟩ := HP.out.form (i := 0) (by omega) (show 0 < n by omega)
            obtain ⟨g1, p1, hv1, hp1, hm1, hg1, hl1⟩ := HP.out.form (i := 1) (by omega) (show 0 < n by omega)
            have hg01 : g1 ≠ g0 := fun e => by
              have := HP.out.own.apart 0 1 g0 (by omega) (by omega) (by rw [hv0]; rfl) (by rw [hv1, e]; rfl)
              omega
            have hn0 : rN n freshS 0 = n := rfl
            have hn1 : rN n freshS 1 = n := rfl
            rw [hv0, hn0] at c1
            rw [hv1, hn1] at c2
            rw [hn0] at hp0
            rw [hn1] at hp1
            obtain ⟨d0, f0⟩ := HP.out.at_ (i := 0) (by omega) hv0 (show i < n from hin)
            rw [rX_0 n _ _ hin] at d0
            obtain ⟨d1, f1⟩ := HP.out.at_ (i := 1) (by omega) hv1 (show i < n from hin)
            rw [rX_1 n _ _ hin] at d1
            have hag : w.heap.size ≤ g0 := HP.out.ge g0 (.inr ⟨0, by omega, by rw [hv0]; rfl⟩)
            have hag1 : w.heap.size ≤ g1 := HP.out.ge g1 (.inr ⟨1, by omega, by rw [hv1]; rfl⟩)
            cases hK : kOf n (l.take k) i with
            | some x =>
              have HNO : Hid (¬ (0 ≤ (i : Int) ∧ (i : Int) < n ∧ kOf n (l.take k) (i : Int).toNat = none)) := hidp (by
                rintro ⟨_, _, h⟩
                rw [Int.toNat_natCast, hK] at h
                cases h)
              rw [hK] at d0
              clear hK hv0 hv1
              go_wp2
              go_roundw
              case rel => exact ⟨k + 1, by omega, by go_num, by rw [HT.out, kAdd_no HNO.out]; exact HP, HB⟩
              case measure => simp [intOf]; omega
            | none =>
              have HST : Hid (kOf n (l.take (k + 1)) = updF (kOf n (l.take k)) i (some pv)) := hidp (by rw [HT.out, kAdd_yes hin hK])
              have HP5 := hidp (HP.out.store (i := 0) (by omega) hv0 i (.bool true)).1
              have HB5 := hidp (Bput HB.out (p := ⟨g0, i, none⟩) hag (.bool true))
              have HP6 := hidp (HP5.out.store (i := 1) (by omega) hv1 i (.int .u32 (pv : Int))).1
              have HB6 := hidp (Bput HB5.out (p := ⟨g1, i, none⟩) hag1 (.int .u32 (pv : Int)))
              have y0 : (wr.setCell ⟨g0, i, none⟩ (.bool true)).cell? ⟨b, 2, none⟩ = some (.slice (some ⟨g1, 0, none⟩) n p1) := by
                have h1 : (wr.setCell ⟨g0, i, none⟩ (.bool true)).cell? ⟨b, 2, none⟩ = some (v 1) := HP5.out.head.cell 2
                rw [h1, hv1, hn1]
              have y1 : (wr.setCell ⟨g0, i, none⟩ (.bool true)).cell? ⟨(ad.add (k * 2)).block, (ad.add (k * 2)).off + 1, none⟩ = some (.int .u32 (pv : Int)) := (HXC.out _ HB5.out).2
              have y2 : ((wr.setCell ⟨g0, i, none⟩ (.bool true)).setCell ⟨g1, i, none⟩ (.int .u32 (pv : Int))).cell? ⟨b, 2, none⟩ = some (.slice (some ⟨g1, 0, none⟩) n p1) := by
                have h1 : ((wr.setCell ⟨g0, i, none⟩ (.bool true)).setCell ⟨g1, i, none⟩ (.int .u32 (pv : Int))).cell? ⟨b, 2, none⟩ = some (v 1) := HP6.out.head.cell 2
                rw [h1, hv1, hn1]
              have y3 : ((wr.setCell ⟨g0, i, none⟩ (.bool true)).setCell ⟨g1, i, none⟩ (.int .u32 (pv : Int))).cell? ⟨(ad.add (k * 2)).block, (ad.add (k * 2)).off + 1, none⟩ = some (.int .u32 (pv : Int)) := (HXC.out _ HB6.out).2
              obtain ⟨z1, z2⟩ := HP5.out.at_ (i := 1) (by omega) hv1 (show i < n from hin)
              have z3 : (wr.setCell ⟨g0, i, none⟩ (.bool true)).cell? ⟨g1, i, none⟩ = some (.int .u32 (((kOf n (l.take k) i).getD 0 : Nat) : Int)) := z1.trans (rX_1 n (kOf n (l.take k)) freshS hin)
              rw [hK] at d0 z3
              clear z1 hK hv0 hv1
              go_wp2_with fail
              refine wp_region_held_drew (S := (fun w' => w'.cell? ⟨b, 2, none⟩ = some (.slice (some ⟨g1, 0, none⟩) n p1) ∧ w'.cell? ⟨(ad.add (k * 2)).block, (ad.add (k * 2)).off + 1, none⟩ = some (.int .u32 (pv : Int)))) (by kernel_rfl) ?_ (fun hHeld => ?_)
              · (try dsimp only)
                first | exact ⟨y0, y1⟩ | exact ⟨y2, y3⟩ | exact hHeld
              refine wpAnyH_take (i := 0) (oi := _) (v := ?_) rfl (by kernel_rfl) (by kernel_rfl) (by kernel_rfl) (fun _ _ _ h => h) (Or.inl ⟨by rfl, ?_⟩) (by assumption) ?_
              rotate_left
              · intro w hSw; (try dsimp only at hSw); go_simp; (try with_reducible rfl)
              (try simp only [Act.put, List.getElem_toArray, List.getElem_cons_zero, List.getElem_cons_succ, List.setIfInBounds_toArray, List.set_cons_zero, List.set_cons_succ])
              refine wpAnyH_take (i := 1) (oi := _) (v := ?_) rfl (by kernel_rfl) (by kernel_rfl) (by kernel_rfl) (fun _ _ _ h => h) (Or.inl ⟨by rfl, ?_⟩) (by assumption) ?_
              rotate_left
              · intro w hSw; (try dsimp only at hSw); go_simp; (try with_reducible rfl)
              (try simp only [Act.put, List.getElem_toArray, List.getElem_cons_zero, List.getElem_cons_succ, List.setIfInBounds_toArray, List.set_cons_zero, List.set_cons_succ])
              refine wpAnyH_take (i := 2) (oi := _) (v := ?_) rfl (by kernel_rfl) (by kernel_rfl) (by kernel_rfl) (fun _ _ _ h => h) (Or.inl ⟨by rfl, ?_⟩) (by assumption) ?_
              rotate_left
              · intro w hSw; (try dsimp only at hSw); go_simp; (try with_reducible rfl)
              (try simp only [Act.put, List.getElem_toArray, List.getElem_cons_zero, List.getElem_cons_succ, List.setIfInBounds_toArray, List.set_cons_zero, List.set_cons_succ])
              refine wpAnyH_take (i := 3) (oi := _) (v := ?_) rfl (by kernel_rfl) (by kernel_rfl) (by kernel_rfl) (fun _ _ _ h => h) (Or.inl ⟨by rfl, ?_⟩) (by assumption) ?_
              rotate_left
              · intro w hSw; (try dsimp only at hSw); go_simp; (try with_reducible rfl)
              (try simp only [Act.put, List.getElem_toArray, List.getElem_cons_zero, List.getElem_cons_succ, List.setIfInBounds_toArray, List.set_cons_zero, List.set_cons_succ])
              refine wpAnyH_take (i := 4) (oi := _) (v := ?_) rfl (by kernel_rfl) (by kernel_rfl) (by kernel_rfl) (fun _ _ _ h => h) (Or.inl ⟨by rfl, ?_⟩) (by assumption) ?_
              rotate_left
              · intro w hSw; (try dsimp only at hSw); go_simp; (try with_reducible rfl)
              (try simp only [Act.put, List.getElem_toArray, List.getElem_cons_zero, List.getElem_cons_succ, List.setIfInBounds_toArray, List.set_cons_zero, List.set_cons_succ])
              refine wpAnyH_take (i := 5) (oi := _) (v := ?_) rfl (by kernel_rfl) (by kernel_rfl) (by kernel_rfl) (fun _ _ _ h => h) (Or.inl ⟨by rfl, ?_⟩) (by assumption) ?_
              rotate_left
              · intro w hSw; (try dsimp only at hSw); go_simp; (try with_reducible rfl)
              (try simp only [Act.put, List.getElem_toArray, List.getElem_cons_zero, List.getElem_cons_succ, List.setIfInBounds_toArray, List.set_cons_zero, List.set_cons_succ])
              refine wpAnyH_take (i := 6) (oi := _) (v := ?_) rfl (by kernel_rfl) (by kernel_rfl) (by kernel_rfl) (fun _ _ _ h => h) (Or.inl ⟨by rfl, ?_⟩) (by assumption) ?_
              rotate_left
              · intro w hSw; (try dsimp only at hSw); go_simp; (try with_reducible rfl)
              (try simp only [Act.put, List.getElem_toArray, List.getElem_cons_zero, List.getElem_cons_succ, List.setIfInBounds_toArray, List.set_cons_zero, List.set_cons_succ])
              refine wpAnyH_take (i := 7) (oi := _) (v := ?_) rfl (by kernel_rfl) (by kernel_rfl) (by kernel_rfl) (fun _ _ _ h => h) (Or.inl ⟨by rfl, ?_⟩) (by assumption) ?_
              rotate_left
              · intro w hSw; (try dsimp only at hSw); go_simp; (try with_reducible rfl)
              (try simp only [Act.put, List.getElem_toArray, List.getElem_cons_zero, List.getElem_cons_succ, List.setIfInBounds_toArray, List.set_cons_zero, List.set_cons_succ])
              refine wpAnyH_take (i := 8) (oi := _) (v := ?_) rfl (by kernel_rfl) (by kernel_rfl) (by kernel_rfl) (fun _ _ _ h => h) (Or.inl ⟨by rfl, ?_⟩) (by assumption) ?_
              rotate_left
              · intro w hSw; (try dsimp only at hSw); go_simp; (try with_reducible rfl)
              (try simp only [Act.put, List.getElem_toArray, List.getElem_cons_zero, List.getElem_cons_succ, List.setIfInBounds_toArray, List.set_cons_zero, List.set_cons_succ])
              refine wpAnyH_take (i := 9) (oi := _) (v := ?_) rfl (by kernel_rfl) (by kernel_rfl) (by kernel_rfl) (fun _ _ _ h => h) (Or.inl ⟨by rfl, ?_⟩) (by assumption) ?_
              rotate_left
              · intro w hSw; (try dsimp only at hSw); go_simp; (try with_reducible rfl)
              (try simp only [Act.put, List.getElem_toArray, List.getElem_cons_zero, List.getElem_cons_succ, List.setIfInBounds_toArray, List.set_cons_zero, List.set_cons_succ])
              refine wpAnyH_take (i := 10) (oi := _) (v := ?_) rfl (by kernel_rfl) (by kernel_rfl) (by kernel_rfl) (fun _ _ _ h => h) (Or.inl ⟨by rfl, ?_⟩) (by assumption) ?_
              rotate_left
              · intro w hSw; (try dsimp only at hSw); go_simp; (try with_reducible rfl)
              (try simp only [Act.put, List.getElem_toArray, List.getElem_cons_zero, List.getElem_cons_succ, List.setIfInBounds_toArray, List.set_cons_zero, List.set_cons_succ])
              refine wpAnyH_ready (rs := [11]) (by kernel_rfl) (by simp) ?_
              refine AllReadyH.cons (o := _) rfl (fun K hK => ?_) AllReadyH.nil
              go_simp
              skip
              refine hK.out _ _ ?_ (fun hHeld => ?_)
              · (try dsimp only)
                first | exact ⟨y0, y1⟩ | exact ⟨y2, y3⟩ | exact hHeld
              clear hK K
              (try simp only [Act.put, List.getElem_toArray, List.getElem_cons_zero, List.getElem_cons_succ, List.setIfInBounds_toArray, List.set_cons_zero, List.set_cons_succ])
              refine wpAnyH_done (by kernel_rfl) ?_ _
              go_wp2
              go_roundw
              case rel => exact ⟨k + 1, by omega, by go_num, hidp ((HP6.out.keep (Bdrew (B0 _))).congr rfl (fun _ _ => rfl) (by rw [HST.out]; exact rX_know n (kOf n (l.take k)) freshS i pv)), hidp (Bdrew HB6.out)⟩
              case measure => simp [intOf]; omega
          · have HNO : Hid (¬ (0 ≤ pc ∧ pc < n ∧ kOf n (l.take k) pc.toNat = none)) := hidp (by omega)
            have t1 : decide (pc < (n : Int)) = false := decide_eq_false (by omega)
            go_wp2
            go_roundw
            case rel => exact ⟨k + 1, by omega, by go_num, by rw [HT.out, kAdd_no HNO.out]; exact HP, HB⟩
            case measure => simp [intOf]; omega
    · obtain rfl : k = m := by omega
      have HKL : Hid (l.take k = l) := hidp (List.take_of_length_le (by have := HL.out; omega))
      go_wp2
      go_ret
      refine ⟨b, v, rfl, { parts := ?_, ok := VOk.fresh n, nmax := hmx, k32 := kOf_32 HOK.out }, HB.out⟩
      have := HP.out
      rwa [HKL.out] at this
end Go.Proofs.Ytcfljejeceikbaa
