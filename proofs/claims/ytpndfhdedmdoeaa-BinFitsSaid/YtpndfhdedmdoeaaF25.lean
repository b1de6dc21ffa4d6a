/-
  Contracts of the document's answers to addr (nacreref06): slots, and how many pages.
-/
import Derived.Test.YtpndfhdedmdoeaaF24
import Derived.Test.YtpndfhdedmdoeaaF21
import Derived.Test.YtpndfhdedmdoeaaF18
import Derived.Deep.AppendLies
namespace Go.Proofs.Ytpndfhdedmdoeaa
open Go.ChangeShapes Go.WideShapes Go.ChangeAt Go.RowKit
set_option linter.unusedVariables false
set_option linter.unusedSimpArgs false

set_option maxHeartbeats 1600000 in
theorem r6At_c (t p s k i j : Int) (hk0 : -9223372036854775808 ≤ k) (hk1 : k ≤ 9223372036854775807) (w : World) :
    Calls Try.prog 128 #[.agg #[.int .i64 t, .int .i64 p, .int .i64 s], .int .i64 k, .int .i64 i, .int .i64 j] w fun e w' => e = .returned (.tuple #[.int .i64 (atI t p s k i j), .bool (atB t p s k i j)]) ∧ Below w.heap.size w w' := by
  have hc := Held.new w 23 #[.int .i64 t, .int .i64 p, .int .i64 s]
  obtain ⟨n, hn⟩ : ∃ n, slotI k = n := ⟨_, rfl⟩
  have hn2 := hn ▸ slotI_le k
  have HN := hidp hn
  by_cases c1 : j < 0
  · have HB := hidp (at_out (t := t) (p := p) (s := s) (k := k) (i := i) (j := j) (by omega))
    clear hn
    go_enter Try.func128, Try.ntmps128
    go_wp2
    go_ret2
    refine ⟨by rw [HB.out.1, HB.out.2]; rfl, ?_⟩
    repeat (first | exact B0 _ | (with_reducible refine Bgo ?_ (by assumption)) | (with_reducible refine Bdrew ?_) | (with_reducible refine Bdraw ?_ _) | (with_reducible refine Bnew ?_ _) | (with_reducible refine Bput ?_ (by first | (simp; done) | (simp; omega)) _))
  · by_cases c2 : j < (n : Int)
    · obtain ⟨z, hz⟩ : ∃ z, sizeN s k = z := ⟨_, rfl⟩
      have hz2 := hz ▸ sizeN_le s k
      have h3 : j * (z : Int) ≤ 32 * 1048576 := Int.mul_le_mul (by omega) (by omega) (by omega) (by omega)
      have h4 : 0 ≤ j * (z : Int) := Int.mul_nonneg (by omega) (by omega)
      have hA := at_in (t := t) (p := p) (s := s) (k := k) (i := i) (j := j) (by omega)
      rw [hz] at hA
      obtain ⟨y, hy⟩ : ∃ y, j * (z : Int) = y := ⟨_, rfl⟩
      rw [hy] at h3 h4 hA
      have HA := hidp hA
      have HY := hidp hy
      have HZ := hidp hz
      have HWR := hidp (i64_same (x := y) (by omega) (by omega))
      clear hz hy hA hn
      go_enter Try.func128, Try.ntmps128
      go_wp2_with fail
      refine (r5Slots_c k hk0 hk1 _).mono ?_
      rintro e w1 ⟨rfl, rfl⟩
      rw [HN.out]
      have c3 := hc.three
      go_wp2_with fail
      go_region_held3 (fun w' => w'.cell? ⟨w.heap.size, 0, none⟩ = some (.int .i64 t) ∧ w'.cell? ⟨w.heap.size, 1, none⟩ = some (.int .i64 p) ∧ w'.cell? ⟨w.heap.size, 2, none⟩ = some (.int .i64 s))
        (first | exact ⟨c3.1, c3.2.1, c3.2.2⟩ | go_keep | exact ⟨hst _ _ (by assumption), hst _ _ (by assumption), hst _ _ (by assumption)⟩)
        (first
          | (go_at_call 127; refine (r5Size_c s k hk0 hk1 _).mono ?_; rintro e w' ⟨rfl, hbl⟩; rw [HZ.out]; have hst := cells_stay hbl)
          | (go_at_call 123; rw [HY.out, HWR.out]; refine (r6Of_c t p s i y _).mono ?_; rintro e w'' ⟨rfl, hbl2⟩; have hst := cells_stay hbl2))
      go_wp2
      go_ret2
      refine ⟨by rw [HA.out.1, HA.out.2]; rfl, ?_⟩
      repeat (first | exact B0 _ | (with_reducible refine Bgo ?_ (by assumption)) | (with_reducible refine Bdrew ?_) | (with_reducible refine Bdraw ?_ _) | (with_reducible refine Bnew ?_ _) | (with_reducible refine Bput ?_ (by first | (simp; done) | (simp; omega)) _))
    · have HB := hidp (at_out (t := t) (p := p) (s := s) (k := k) (i := i) (j := j) (by omega))
      clear hn
      go_enter Try.func128, Try.ntmps128
      go_wp2_with fail
      refine (r5Slots_c k hk0 hk1 _).mono ?_
      rintro e w1 ⟨rfl, rfl⟩
      rw [HN.out]
      go_wp2
      go_ret2
      refine ⟨by rw [HB.out.1, HB.out.2]; rfl, ?_⟩
      repeat (first | exact B0 _ | (with_reducible refine Bgo ?_ (by assumption)) | (with_reducible refine Bdrew ?_) | (with_reducible refine Bdraw ?_ _) | (with_reducible refine Bnew ?_ _) | (with_reducible refine Bput ?_ (by first | (simp; done) | (simp; omega)) _))

end Go.Proofs.Ytpndfhdedmdoeaa

/-
  The document's parts. Written by doc12/gen_slab.py.
-/
namespace Go.Proofs.Ytpndfhdedmdoeaa
open Go.ChangeShapes Go.WideShapes Go.ChangeAt Go.RowKit Go.Shelf
set_option linter.unusedVariables false
set_option linter.unusedSimpArgs false


set_option maxHeartbeats 6400000 in
set_option maxRecDepth 100000 in
theorem xSlab_c {H : AuH} {n c : Nat} (HV : HeapV H n c) (ad : Addr) {q : Nat} (hq : q < H.p) (hk : H.K q = 3) (w : World) (hv : IsVals w ad n H.V) :
    Calls Try.prog 125 #[hpV H ad n c, .int .i64 (q : Int), .int .i64 (H.Cl q)] w fun e w' => ∃ u, e = .returned u ∧ w'.ownsRow w.heap.size 136 3 u (H.partsAt q).length (ptVs (H.partsAt q)) ∧ Below w.heap.size w w' := by
  have HVL := hidp hv
  have hs := HV.nums
  have hg := pg_le HV
  have hf := first_eq HV hq
  have hkc := H.K_cases q
  have hcl : 0 ≤ H.Cl q ∧ H.Cl q ≤ 8 := by omega
  have hsf : 0 < sizeN (H.s : Int) (H.Cl q) ∧ slotI (H.Cl q) * sizeN (H.s : Int) (H.Cl q) ≤ H.pg := by
    obtain ⟨kc, hkc2⟩ : ∃ kc : Nat, H.Cl q = kc := ⟨(H.Cl q).toNat, by omega⟩
    have := size_facts (s := (H.s : Int)) (by omega) (k := kc) (by omega)
    rw [hg.2.2.1, hkc2, slotI_nat]
    refine ⟨?_, by have h := this.2.2.1; rwa [Nat.mul_comm] at h⟩
    have h := this
    omega
  have hz16 : sizeN (H.s : Int) (H.Cl q) ≤ 1048576 := sizeN_le _ _
  have hpa : H.partsAt q = H.slotsTo q (H.sl q) ++ H.slack q := by unfold AuH.partsAt; rw [if_neg (by omega), if_neg (by omega), if_pos hk]
  have hs32' := slotI_le (H.Cl q)
  have hslk : H.slack q = if H.sl q * H.zs q < H.pg then [(5, H.first q + ((H.sl q * H.zs q : Nat) : Int), (H.pg : Int) - ((H.sl q * H.zs q : Nat) : Int))] else [] := rfl
  have hsp : ∀ i : Nat, H.slotPart q i = (((slotKd (H.cel q 5) (H.cel q 4) i : Nat) : Int), H.first q + (i : Int) * (H.zs q : Int), (H.zs q : Int)) := fun i => rfl
  have hsl : H.sl q = slotI (H.Cl q) := rfl
  have hzs : H.zs q = sizeN (H.s : Int) (H.Cl q) := rfl
  rw [hsl, hzs] at hslk
  rw [hsl] at hpa
  rw [hzs] at hsp
  have hOF : ∀ o : Nat, o < H.pg → addrI H.t H.p H.s q o = H.first q + (o : Int) ∧ addrB H.t H.p H.s q o = true := fun o ho => by
    have hB : addrB H.t H.p H.s q o = true := by unfold addrB; rw [HV.right, hg.2.2.2, Bool.true_and, decide_eq_true_iff]; omega
    refine ⟨?_, hB⟩
    unfold addrI
    rw [if_pos hB, hg.2.2.2]
    rfl
  have hAT : ∀ i : Nat, i < slotI (H.Cl q) → ∀ W : World, Calls Try.prog 128 #[(.agg #[.int .i64 (H.t : Int), .int .i64 (H.p : Int), .int .i64 (H.s : Int)]), .int .i64 (H.Cl q), .int .i64 (q : Int), .int .i64 (i : Int)] W fun e w' => e = .returned (.tuple #[.int .i64 (H.first q + ((i * sizeN (H.s : Int) (H.Cl q) : Nat) : Int)), .bool true]) ∧ Below W.heap.size W w' := fun i hi W => by
    have h1 : (i + 1) * sizeN (H.s : Int) (H.Cl q) ≤ slotI (H.Cl q) * sizeN (H.s : Int) (H.Cl q) := Nat.mul_le_mul_right _ hi
    rw [Nat.succ_mul] at h1
    have h2 := hOF (i * sizeN (H.s : Int) (H.Cl q)) (by omega)
    have h3 : ((i * sizeN (H.s : Int) (H.Cl q) : Nat) : Int) = (i : Int) * (sizeN (H.s : Int) (H.Cl q) : Int) := by push_cast; rfl
    rw [h3] at h2
    have hB : atB H.t H.p H.s (H.Cl q) q i = true := by unfold atB; rw [h2.2, Bool.and_true, decide_eq_true_iff]; omega
    have h := r6At_c H.t H.p H.s (H.Cl q) q i (by omega) (by omega) W
    rw [show atI H.t H.p H.s (H.Cl q) q i = H.first q + ((i * sizeN (H.s : Int) (H.Cl q) : Nat) : Int) by unfold atI; rw [if_pos hB, h2.1, h3], hB] at h
    exact h
  obtain ⟨tk, htk⟩ : ∃ tk, H.cel q 5 = tk := ⟨_, rfl⟩
  obtain ⟨sv, hsv⟩ : ∃ sv, H.cel q 4 = sv := ⟨_, rfl⟩
  have HTV := hidp htk
  have HSV := hidp hsv
  have ht32 := HV.cel_lt hq (show 5 < 6 by omega)
  have hs32 := HV.cel_lt hq (show 4 < 6 by omega)
  rw [htk] at ht32
  rw [hsv] at hs32
  rw [htk, hsv] at hsp
  have HPA := hidp hpa
  have HSK := hidp hslk
  have HSP := hidp hsp
  have HAT := hidp hAT
  have HOF0 := hidp hOF
  have HPG : Hid (∀ W : World, Calls Try.prog 124 #[(.agg #[.int .i64 (H.t : Int), .int .i64 (H.p : Int), .int .i64 (H.s : Int)])] W fun e w' => e = .returned (.int .i64 ((H.pg : Nat) : Int)) ∧ Below W.heap.size W w') := hidp (fun W => by have h := r4Page_c H.t H.p H.s W; rwa [hg.2.2.2] at h)
  have hfq := hf.2.2
  obtain ⟨fq, hfqq⟩ : ∃ fq, H.first q = fq := ⟨_, rfl⟩
  rw [hfqq] at hfq HAT HOF0 HSK HSP
  obtain ⟨pg, hpg⟩ : ∃ pg, H.pg = pg := ⟨_, rfl⟩
  rw [hpg] at hg hsf HPG HSK HOF0
  obtain ⟨m, hmm⟩ : ∃ m, slotI (H.Cl q) = m := ⟨_, rfl⟩
  have HSL := hidp hmm
  rw [hmm] at hsf hs32' HSK HAT HPA
  obtain ⟨z, hzz⟩ : ∃ z, sizeN (H.s : Int) (H.Cl q) = z := ⟨_, rfl⟩
  have HZ := hidp hzz
  rw [hzz] at hsf hz16 HSK HAT HSP
  obtain ⟨cl, hcll⟩ : ∃ k, H.Cl q = k := ⟨_, rfl⟩
  rw [hcll] at HSL HZ HAT hcl ⊢
  obtain ⟨j0, hjn, hjz0, hjz1, hjz2⟩ := info_parts partInfo
  have hpgb := hg.2.1
  obtain ⟨hz0, hfit⟩ := hsf
  have HX0 := hidp ((Held.new w 53 #[.int .i64 (H.t : Int), .int .i64 (H.p : Int), .int .i64 (H.s : Int), .slice (some ad) n c]).alloc (.cells #[] 136))
  obtain ⟨c0, c1, c2, c3⟩ := HX0.out.four
  have HBW := hidp (Bnew (Bnew (B0 w) (.cells #[.int .i64 (H.t : Int), .int .i64 (H.p : Int), .int .i64 (H.s : Int), .slice (some ad) n c] 53)) (.cells #[] 136))
  have HOW : Hid (((w.alloc (.cells #[.int .i64 (H.t : Int), .int .i64 (H.p : Int), .int .i64 (H.s : Int), .slice (some ad) n c] 53)).alloc (.cells #[] 136)).ownsRow (w.heap.size + 1) 136 3 (.slice (some ⟨(w.alloc (.cells #[.int .i64 (H.t : Int), .int .i64 (H.p : Int), .int .i64 (H.s : Int), .slice (some ad) n c] 53)).heap.size, 0, none⟩) 0 0) 0 []) := hidp (World.ownsRow_lit (base := (w.heap.size + 1)) (e := 136) (size := 3) (w.alloc (.cells #[.int .i64 (H.t : Int), .int .i64 (H.p : Int), .int .i64 (H.s : Int), .slice (some ad) n c] 53)) #[] 0 (by simp) (by unfold maxLen; omega) rfl)
  rw [World.size_alloc] at HOW
  clear hv hf hkc hk hfqq hpg htk hsv hs hg hmm hzz hcll hpa hslk hsp hOF hAT hsl hzs
  unfold hpV
  go_enter Try.func125, Try.ntmps125
  go_wp2_with (first
    | (go_at_call 127; refine (r5Size_c (H.s : Int) cl (by omega) (by omega) _).mono ?_; rintro e w2 ⟨rfl, hb2⟩; rw [HZ.out]; have HB2 := hidp (Bgo HBW.out hb2); have HX2 := hidp (HX0.out.keep hb2); have HO2 := hidp (own_below HOW.out hb2); clear hb2 c0 c1 c2 c3)
    | fail)
  go_loopw [7, 9] (fun u7 u9 wr => ∃ (i : Nat), i ≤ m ∧ u9 = .int .i64 (i : Int) ∧ Hid (wr.ownsRow (w.heap.size + 1) 136 3 u7 i (ptVs (H.slotsTo q i))) ∧ Hid (Held wr w.heap.size 53 #[.int .i64 (H.t : Int), .int .i64 (H.p : Int), .int .i64 (H.s : Int), .slice (some ad) n c]) ∧ Hid (Below w.heap.size w wr)) (fun _ u9 _ => m - (intOf u9).toNat)
  case atStart => exact ⟨0, by omega, rfl, hidp (by rw [show H.slotsTo q 0 = [] from rfl]; exact HO2.out), HX2, HB2⟩
  case round =>
    clear HX2 HB2 HO2 HX0 HBW HOW
    obtain ⟨i, hi, rfl, HO, HX, HB⟩ := hrel
    obtain ⟨c0, c1, c2, c3⟩ := HX.out.four
    by_cases hlt : i < m
    · have t0 : decide ((i : Int) < m) = true := decide_eq_true (by omega)
      have t0n : decide (i < m) = true := decide_eq_true hlt
      obtain ⟨y, hy⟩ : ∃ y, fq + ((i * z : Nat) : Int) = y := ⟨_, rfl⟩
      have HATI := hidp (HAT.out i hlt)
      rw [hy] at HATI
      have HYY : Hid (y = fq + (i : Int) * (z : Int)) := hidp (by rw [← hy]; push_cast; rfl)
      obtain ⟨bt, hbt⟩ : ∃ x, tk.testBit ((i : Int)).toNat = x := ⟨_, rfl⟩
      obtain ⟨bl, hbl⟩ : ∃ x, sv.testBit ((i : Int)).toNat = x := ⟨_, rfl⟩
      have HBT := hidp hbt
      have HBL := hidp hbl
      have HBT1 : Hid (tk.testBit i = bt) := hidp (by rw [← hbt, Int.toNat_natCast])
      have HBL1 : Hid (sv.testBit i = bl) := hidp (by rw [← hbl, Int.toNat_natCast])
      have HT1 : Hid True := hidp trivial
      clear hbt hbl hy
      cases bt
      · cases bl
        · have HSN1 : Hid (ptVs (H.slotsTo q (i + 1)) = ptVs (H.slotsTo q i) ++ [.int .i64 3, .int .i64 y, .int .i64 (z : Int)]) := hidp (by
            rw [AuH.slotsTo_succ, ptVs_app, HSP.out i, ptVs_one, ← HYY.out]
            simp only [slotKd]
            rw [HBT1.out, HBL1.out]
            push_cast
            rfl)
          go_wp2_with (first
            | (go_at_call 104; refine (r5Slots_c cl (by omega) (by omega) _).mono ?_; rintro e w9 ⟨rfl, rfl⟩; rw [HSL.out])
            | (go_at_call 128; refine (HATI.out _).mono ?_; rintro e w2 ⟨rfl, hb2⟩; have HB2 := hidp (Bgo HB.out hb2); have HX2 := hidp (HX.out.keep hb2); have HO2 := hidp (own_below HO.out hb2); clear hb2 c0 c1 c2 c3; obtain ⟨c0, c1, c2, c3⟩ := HX2.out.four)
            | (go_at_call 103; refine (xTaken_c HV ad hq _ (HVL.out.below HB2.out)).mono ?_; rintro e w3 ⟨rfl, hb3⟩; rw [HTV.out]; have HB3 := hidp (Bgo HB2.out hb3); have HX3 := hidp (HX2.out.keep hb3); have HO3 := hidp (own_below HO2.out hb3); clear hb3 c0 c1 c2 c3; obtain ⟨c0, c1, c2, c3⟩ := HX3.out.four)
            | (have hz9 := HT1.out; clear hz9 HT1; go_at_call 101; refine (Bit_c tk (i : Int) false ht32 (by omega) (by omega) HBT.out _).mono ?_; rintro e w9 ⟨rfl, rfl⟩)
            | (go_at_call 102; refine (xSlots_c HV ad hq _ (HVL.out.below HB3.out)).mono ?_; rintro e w4 ⟨rfl, hb4⟩; rw [HSV.out]; have HB4 := hidp (Bgo HB3.out hb4); have HX4 := hidp (HX3.out.keep hb4); have HO4 := hidp (own_below HO3.out hb4); clear hb4 c0 c1 c2 c3; obtain ⟨c0, c1, c2, c3⟩ := HX4.out.four; have hb4s := HX4.out.lt)
            | (go_at_call 101; refine (Bit_c sv (i : Int) false hs32 (by omega) (by omega) HBL.out _).mono ?_; rintro e w9 ⟨rfl, rfl⟩)
            | (at_builtin
               refine wpList_append_lies _ rfl _ _ 133 rfl (w.heap.size + 1) 136 j0 (.agg #[.int .i64 0, .int .i64 0, .int .i64 0]) 3 24 Try.underlying133 hjn hjz0 hjz1 hjz2 rfl (by decide) u7 i (ptVs (H.slotsTo q i)) rfl (HO4.out.alloc _) ⟨_, 0, none⟩ 1 1 [.int .i64 3, .int .i64 y, .int .i64 (z : Int)] rfl rfl ?c1 ?c2 (by omega) ?c3 ?c4 ?c5 _ rfl ?_
               case c1 => exact fun jj yy hyy => World.news_of_block (w := w4.alloc (.cells #[.int .i64 3, .int .i64 y, .int .i64 (z : Int)] 136)) (heap_alloc_new w4 _) jj yy (by simpa using hyy)
               case c2 => simp [Value.oneCell']
               case c3 => unfold maxLen; omega
               case c4 => omega
               case c5 => simp; omega
               intro g cap w8 hown8 hgrow8 hat8 hlt8)
            | fail)
          have HX8 := hidp (held_grown (HX4.out.alloc (.cells #[.int .i64 3, .int .i64 y, .int .i64 (z : Int)] 136)) hgrow8 (fun e => by have := (HO4.out.lt _ e).1; omega))
          have HB8 := hidp ((Bnew HB4.out (.cells #[.int .i64 3, .int .i64 y, .int .i64 (z : Int)] 136)).grown hgrow8 (by have := HB4.out.size; simp; omega) (fun j hj => by have := (HO4.out.lt j hj).1; omega))
          have HO8 := hidp hown8
          clear hown8 hgrow8 hat8 hlt8
          have HO9 : Hid (w8.ownsRow (w.heap.size + 1) 136 3 (.slice (some ⟨g, 0, none⟩) (i + 1) cap) (i + 1) (ptVs (H.slotsTo q (i + 1)))) := hidp (by rw [HSN1.out]; exact HO8.out)
          clear HO8
          go_wp2_with fail
          go_roundw
          case rel => exact ⟨i + 1, by omega, by go_num, HO9, HX8, HB8⟩
          case measure => simp [intOf]; omega
        · have HSN1 : Hid (ptVs (H.slotsTo q (i + 1)) = ptVs (H.slotsTo q i) ++ [.int .i64 2, .int .i64 y, .int .i64 (z : Int)]) := hidp (by
            rw [AuH.slotsTo_succ, ptVs_app, HSP.out i, ptVs_one, ← HYY.out]
            simp only [slotKd]
            rw [HBT1.out, HBL1.out]
            push_cast
            rfl)
          go_wp2_with (first
            | (go_at_call 104; refine (r5Slots_c cl (by omega) (by omega) _).mono ?_; rintro e w9 ⟨rfl, rfl⟩; rw [HSL.out])
            | (go_at_call 128; refine (HATI.out _).mono ?_; rintro e w2 ⟨rfl, hb2⟩; have HB2 := hidp (Bgo HB.out hb2); have HX2 := hidp (HX.out.keep hb2); have HO2 := hidp (own_below HO.out hb2); clear hb2 c0 c1 c2 c3; obtain ⟨c0, c1, c2, c3⟩ := HX2.out.four)
            | (go_at_call 103; refine (xTaken_c HV ad hq _ (HVL.out.below HB2.out)).mono ?_; rintro e w3 ⟨rfl, hb3⟩; rw [HTV.out]; have HB3 := hidp (Bgo HB2.out hb3); have HX3 := hidp (HX2.out.keep hb3); have HO3 := hidp (own_below HO2.out hb3); clear hb3 c0 c1 c2 c3; obtain ⟨c0, c1, c2, c3⟩ := HX3.out.four)
            | (have hz9 := HT1.out; clear hz9 HT1; go_at_call 101; refine (Bit_c tk (i : Int) false ht32 (by omega) (by omega) HBT.out _).mono ?_; rintro e w9 ⟨rfl, rfl⟩)
            | (go_at_call 102; refine (xSlots_c HV ad hq _ (HVL.out.below HB3.out)).mono ?_; rintro e w4 ⟨rfl, hb4⟩; rw [HSV.out]; have HB4 := hidp (Bgo HB3.out hb4); have HX4 := hidp (HX3.out.keep hb4); have HO4 := hidp (own_below HO3.out hb4); clear hb4 c0 c1 c2 c3; obtain ⟨c0, c1, c2, c3⟩ := HX4.out.four; have hb4s := HX4.out.lt)
            | (go_at_call 101; refine (Bit_c sv (i : Int) true hs32 (by omega) (by omega) HBL.out _).mono ?_; rintro e w9 ⟨rfl, rfl⟩)
            | (at_builtin
               refine wpList_append_lies _ rfl _ _ 133 rfl (w.heap.size + 1) 136 j0 (.agg #[.int .i64 0, .int .i64 0, .int .i64 0]) 3 24 Try.underlying133 hjn hjz0 hjz1 hjz2 rfl (by decide) u7 i (ptVs (H.slotsTo q i)) rfl (HO4.out.alloc _) ⟨_, 0, none⟩ 1 1 [.int .i64 2, .int .i64 y, .int .i64 (z : Int)] rfl rfl ?c1 ?c2 (by omega) ?c3 ?c4 ?c5 _ rfl ?_
               case c1 => exact fun jj yy hyy => World.news_of_block (w := w4.alloc (.cells #[.int .i64 2, .int .i64 y, .int .i64 (z : Int)] 136)) (heap_alloc_new w4 _) jj yy (by simpa using hyy)
               case c2 => simp [Value.oneCell']
               case c3 => unfold maxLen; omega
               case c4 => omega
               case c5 => simp; omega
               intro g cap w8 hown8 hgrow8 hat8 hlt8)
            | fail)
          have HX8 := hidp (held_grown (HX4.out.alloc (.cells #[.int .i64 2, .int .i64 y, .int .i64 (z : Int)] 136)) hgrow8 (fun e => by have := (HO4.out.lt _ e).1; omega))
          have HB8 := hidp ((Bnew HB4.out (.cells #[.int .i64 2, .int .i64 y, .int .i64 (z : Int)] 136)).grown hgrow8 (by have := HB4.out.size; simp; omega) (fun j hj => by have := (HO4.out.lt j hj).1; omega))
          have HO8 := hidp hown8
          clear hown8 hgrow8 hat8 hlt8
          have HO9 : Hid (w8.ownsRow (w.heap.size + 1) 136 3 (.slice (some ⟨g, 0, none⟩) (i + 1) cap) (i + 1) (ptVs (H.slotsTo q (i + 1)))) := hidp (by rw [HSN1.out]; exact HO8.out)
          clear HO8
          go_wp2_with fail
          go_roundw
          case rel => exact ⟨i + 1, by omega, by go_num, HO9, HX8, HB8⟩
          case measure => simp [intOf]; omega
      · cases bl
        · have HSN1 : Hid (ptVs (H.slotsTo q (i + 1)) = ptVs (H.slotsTo q i) ++ [.int .i64 4, .int .i64 y, .int .i64 (z : Int)]) := hidp (by
            rw [AuH.slotsTo_succ, ptVs_app, HSP.out i, ptVs_one, ← HYY.out]
            simp only [slotKd]
            rw [HBT1.out, HBL1.out]
            push_cast
            rfl)
          go_wp2_with (first
            | (go_at_call 104; refine (r5Slots_c cl (by omega) (by omega) _).mono ?_; rintro e w9 ⟨rfl, rfl⟩; rw [HSL.out])
            | (go_at_call 128; refine (HATI.out _).mono ?_; rintro e w2 ⟨rfl, hb2⟩; have HB2 := hidp (Bgo HB.out hb2); have HX2 := hidp (HX.out.keep hb2); have HO2 := hidp (own_below HO.out hb2); clear hb2 c0 c1 c2 c3; obtain ⟨c0, c1, c2, c3⟩ := HX2.out.four)
            | (go_at_call 103; refine (xTaken_c HV ad hq _ (HVL.out.below HB2.out)).mono ?_; rintro e w3 ⟨rfl, hb3⟩; rw [HTV.out]; have HB3 := hidp (Bgo HB2.out hb3); have HX3 := hidp (HX2.out.keep hb3); have HO3 := hidp (own_below HO2.out hb3); clear hb3 c0 c1 c2 c3; obtain ⟨c0, c1, c2, c3⟩ := HX3.out.four)
            | (have hz9 := HT1.out; clear hz9 HT1; go_at_call 101; refine (Bit_c tk (i : Int) true ht32 (by omega) (by omega) HBT.out _).mono ?_; rintro e w9 ⟨rfl, rfl⟩)
            | (go_at_call 102; refine (xSlots_c HV ad hq _ (HVL.out.below HB3.out)).mono ?_; rintro e w4 ⟨rfl, hb4⟩; rw [HSV.out]; have HB4 := hidp (Bgo HB3.out hb4); have HX4 := hidp (HX3.out.keep hb4); have HO4 := hidp (own_below HO3.out hb4); clear hb4 c0 c1 c2 c3; obtain ⟨c0, c1, c2, c3⟩ := HX4.out.four; have hb4s := HX4.out.lt)
            | (go_at_call 101; refine (Bit_c sv (i : Int) false hs32 (by omega) (by omega) HBL.out _).mono ?_; rintro e w9 ⟨rfl, rfl⟩)
            | (at_builtin
               refine wpList_append_lies _ rfl _ _ 133 rfl (w.heap.size + 1) 136 j0 (.agg #[.int .i64 0, .int .i64 0, .int .i64 0]) 3 24 Try.underlying133 hjn hjz0 hjz1 hjz2 rfl (by decide) u7 i (ptVs (H.slotsTo q i)) rfl (HO4.out.alloc _) ⟨_, 0, none⟩ 1 1 [.int .i64 4, .int .i64 y, .int .i64 (z : Int)] rfl rfl ?c1 ?c2 (by omega) ?c3 ?c4 ?c5 _ rfl ?_
               case c1 => exact fun jj yy hyy => World.news_of_block (w := w4.alloc (.cells #[.int .i64 4, .int .i64 y, .int .i64 (z : Int)] 136)) (heap_alloc_new w4 _) jj yy (by simpa using hyy)
               case c2 => simp [Value.oneCell']
               case c3 => unfold maxLen; omega
               case c4 => omega
               case c5 => simp; omega
               intro g cap w8 hown8 hgrow8 hat8 hlt8)
            | fail)
          have HX8 := hidp (held_grown (HX4.out.alloc (.cells #[.int .i64 4, .int .i64 y, .int .i64 (z : Int)] 136)) hgrow8 (fun e => by have := (HO4.out.lt _ e).1; omega))
          have HB8 := hidp ((Bnew HB4.out (.cells #[.int .i64 4, .int .i64 y, .int .i64 (z : Int)] 136)).grown hgrow8 (by have := HB4.out.size; simp; omega) (fun j hj => by have := (HO4.out.lt j hj).1; omega))
          have HO8 := hidp hown8
          clear hown8 hgrow8 hat8 hlt8
          have HO9 : Hid (w8.ownsRow (w.heap.size + 1) 136 3 (.slice (some ⟨g, 0, none⟩) (i + 1) cap) (i + 1) (ptVs (H.slotsTo q (i + 1)))) := hidp (by rw [HSN1.out]; exact HO8.out)
          clear HO8
          go_wp2_with fail
          go_roundw
          case rel => exact ⟨i + 1, by omega, by go_num, HO9, HX8, HB8⟩
          case measure => simp [intOf]; omega
        · have HSN1 : Hid (ptVs (H.slotsTo q (i + 1)) = ptVs (H.slotsTo q i) ++ [.int .i64 2, .int .i64 y, .int .i64 (z : Int)]) := hidp (by
            rw [AuH.slotsTo_succ, ptVs_app, HSP.out i, ptVs_one, ← HYY.out]
            simp only [slotKd]
            rw [HBT1.out, HBL1.out]
            push_cast
            rfl)
          go_wp2_with (first
            | (go_at_call 104; refine (r5Slots_c cl (by omega) (by omega) _).mono ?_; rintro e w9 ⟨rfl, rfl⟩; rw [HSL.out])
            | (go_at_call 128; refine (HATI.out _).mono ?_; rintro e w2 ⟨rfl, hb2⟩; have HB2 := hidp (Bgo HB.out hb2); have HX2 := hidp (HX.out.keep hb2); have HO2 := hidp (own_below HO.out hb2); clear hb2 c0 c1 c2 c3; obtain ⟨c0, c1, c2, c3⟩ := HX2.out.four)
            | (go_at_call 103; refine (xTaken_c HV ad hq _ (HVL.out.below HB2.out)).mono ?_; rintro e w3 ⟨rfl, hb3⟩; rw [HTV.out]; have HB3 := hidp (Bgo HB2.out hb3); have HX3 := hidp (HX2.out.keep hb3); have HO3 := hidp (own_below HO2.out hb3); clear hb3 c0 c1 c2 c3; obtain ⟨c0, c1, c2, c3⟩ := HX3.out.four)
            | (have hz9 := HT1.out; clear hz9 HT1; go_at_call 101; refine (Bit_c tk (i : Int) true ht32 (by omega) (by omega) HBT.out _).mono ?_; rintro e w9 ⟨rfl, rfl⟩)
            | (go_at_call 102; refine (xSlots_c HV ad hq _ (HVL.out.below HB3.out)).mono ?_; rintro e w4 ⟨rfl, hb4⟩; rw [HSV.out]; have HB4 := hidp (Bgo HB3.out hb4); have HX4 := hidp (HX3.out.keep hb4); have HO4 := hidp (own_below HO3.out hb4); clear hb4 c0 c1 c2 c3; obtain ⟨c0, c1, c2, c3⟩ := HX4.out.four; have hb4s := HX4.out.lt)
            | (go_at_call 101; refine (Bit_c sv (i : Int) true hs32 (by omega) (by omega) HBL.out _).mono ?_; rintro e w9 ⟨rfl, rfl⟩)
            | (at_builtin
               refine wpList_append_lies _ rfl _ _ 133 rfl (w.heap.size + 1) 136 j0 (.agg #[.int .i64 0, .int .i64 0, .int .i64 0]) 3 24 Try.underlying133 hjn hjz0 hjz1 hjz2 rfl (by decide) u7 i (ptVs (H.slotsTo q i)) rfl (HO4.out.alloc _) ⟨_, 0, none⟩ 1 1 [.int .i64 2, .int .i64 y, .int .i64 (z : Int)] rfl rfl ?c1 ?c2 (by omega) ?c3 ?c4 ?c5 _ rfl ?_
               case c1 => exact fun jj yy hyy => World.news_of_block (w := w4.alloc (.cells #[.int .i64 2, .int .i64 y, .int .i64 (z : Int)] 136)) (heap_alloc_new w4 _) jj yy (by simpa using hyy)
               case c2 => simp [Value.oneCell']
               case c3 => unfold maxLen; omega
               case c4 => omega
               case c5 => simp; omega
               intro g cap w8 hown8 hgrow8 hat8 hlt8)
            | fail)
          have HX8 := hidp (held_grown (HX4.out.alloc (.cells #[.int .i64 2, .int .i64 y, .int .i64 (z : Int)] 136)) hgrow8 (fun e => by have := (HO4.out.lt _ e).1; omega))
          have HB8 := hidp ((Bnew HB4.out (.cells #[.int .i64 2, .int .i64 y, .int .i64 (z : Int)] 136)).grown hgrow8 (by have := HB4.out.size; simp; omega) (fun j hj => by have := (HO4.out.lt j hj).1; omega))
          have HO8 := hidp hown8
          clear hown8 hgrow8 hat8 hlt8
          have HO9 : Hid (w8.ownsRow (w.heap.size + 1) 136 3 (.slice (some ⟨g, 0, none⟩) (i + 1) cap) (i + 1) (ptVs (H.slotsTo q (i + 1)))) := hidp (by rw [HSN1.out]; exact HO8.out)
          clear HO8
          go_wp2_with fail
          go_roundw
          case rel => exact ⟨i + 1, by omega, by go_num, HO9, HX8, HB8⟩
          case measure => simp [intOf]; omega
    · have t0 : decide ((i : Int) < m) = false := decide_eq_false (by omega)
      have t0n : decide (i < m) = false := decide_eq_false hlt
      have him : i = m := by omega
      subst him
      obtain ⟨M, hM⟩ : ∃ M, i * z = M := ⟨_, rfl⟩
      rw [hM] at hfit HSK
      have hzm : (z : Int) * (i : Int) = (M : Int) := by rw [← hM]; push_cast; rw [Int.mul_comm]
      have sw1 : IntKind.i64.wrap ((z : Int) * (i : Int)) = (M : Int) := by rw [hzm]; exact i64_same (by omega) (by omega)
      obtain ⟨r, hr⟩ : ∃ r : Int, (pg : Int) - (M : Int) = r := ⟨_, rfl⟩
      have sw2 : IntKind.i64.wrap ((pg : Int) - (M : Int)) = r := by rw [i64_same (by omega) (by omega)]; exact hr
      have sw3 : IntKind.i64.wrap ((pg : Int) - r) = (M : Int) := by rw [i64_same (by omega) (by omega)]; omega
      by_cases hMp : M < pg
      · have hrp : decide ((0 : Int) < r) = true := decide_eq_true (by omega)
        obtain ⟨ye, hye⟩ : ∃ ye, fq + (M : Int) = ye := ⟨_, rfl⟩
        have HOF : Hid (∀ W : World, Calls Try.prog 123 #[(.agg #[.int .i64 (H.t : Int), .int .i64 (H.p : Int), .int .i64 (H.s : Int)]), .int .i64 (q : Int), .int .i64 (M : Int)] W fun e w' => e = .returned (.tuple #[.int .i64 ye, .bool true]) ∧ Below W.heap.size W w') := hidp (fun W => by
          have h := r6Of_c H.t H.p H.s q M W
          have h2 := HOF0.out M hMp
          rwa [h2.1, h2.2, hye] at h)
        have HPB : Hid (H.partsAt q = H.slotsTo q i ++ [(5, ye, r)]) := hidp (by rw [HPA.out, HSK.out, if_pos hMp, hr, hye])
        clear hzm hr hM hye hMp HAT
        go_wp2_with (first
          | (go_at_call 104; refine (r5Slots_c cl (by omega) (by omega) _).mono ?_; rintro e w9 ⟨rfl, rfl⟩; rw [HSL.out])
          | (go_at_call 124; refine (HPG.out _).mono ?_; rintro e w2 ⟨rfl, hb2⟩; have HB2 := hidp (Bgo HB.out hb2); have HX2 := hidp (HX.out.keep hb2); have HO2 := hidp (own_below HO.out hb2); clear hb2 c0 c1 c2 c3; obtain ⟨c0, c1, c2, c3⟩ := HX2.out.four)
          | fail)
        refine wp_region_held_drew (S := (fun w' => w'.cell? ⟨w.heap.size, 0, none⟩ = some (.int .i64 (H.t : Int)) ∧ w'.cell? ⟨w.heap.size, 1, none⟩ = some (.int .i64 (H.p : Int)) ∧ w'.cell? ⟨w.heap.size, 2, none⟩ = some (.int .i64 (H.s : Int)) ∧ w'.cell? ⟨w.heap.size, 3, none⟩ = some (.slice (some ad) n c))) (by kernel_rfl) ?_ (fun hHeld => ?_)
        · (try dsimp only)
          first | exact HX2.out.drew.four | exact HX3.out.four | exact HX4.out.four | exact hHeld
        refine tkO (i := 0) (v := ?_) rfl (by kernel_rfl) (fun _ _ _ h => h) (by rfl) ?_ (by assumption) ?_
        rotate_left
        · intro w hSw; (try dsimp only at hSw); go_simp; (try with_reducible rfl)
        (try simp only [Act.put, gA, gB, gC, sA, sB, sC])
        refine tkO (i := 1) (v := ?_) rfl (by kernel_rfl) (fun _ _ _ h => h) (by rfl) ?_ (by assumption) ?_
        rotate_left
        · intro w hSw; (try dsimp only at hSw); go_simp; (try with_reducible rfl)
        (try simp only [Act.put, gA, gB, gC, sA, sB, sC])
        refine tkO (i := 2) (v := ?_) rfl (by kernel_rfl) (fun _ _ _ h => h) (by rfl) ?_ (by assumption) ?_
        rotate_left
        · intro w hSw; (try dsimp only at hSw); go_simp; (try with_reducible rfl)
        (try simp only [Act.put, gA, gB, gC, sA, sB, sC])
        refine tkO (i := 3) (v := ?_) rfl (by kernel_rfl) (fun _ _ _ h => h) (by rfl) ?_ (by assumption) ?_
        rotate_left
        · intro w hSw; (try dsimp only at hSw); go_simp; (try with_reducible rfl)
        (try simp only [Act.put, gA, gB, gC, sA, sB, sC])
        refine tkO (i := 4) (v := ?_) rfl (by kernel_rfl) (fun _ _ _ h => h) (by rfl) ?_ (by assumption) ?_
        rotate_left
        · intro w hSw; (try dsimp only at hSw); go_simp; (try with_reducible rfl)
        (try simp only [Act.put, gA, gB, gC, sA, sB, sC])
        refine tkO (i := 6) (v := ?_) rfl (by kernel_rfl) (fun _ _ _ h => h) (by rfl) ?_ (by assumption) ?_
        rotate_left
        · intro w hSw; (try dsimp only at hSw); go_simp; (try with_reducible rfl)
        (try simp only [Act.put, gA, gB, gC, sA, sB, sC])
        refine wpAnyH_ready (rs := [5]) (by kernel_rfl) (by simp) ?_
        refine AllReadyH.cons (o := _) rfl (fun K hK => ?_) AllReadyH.nil
        go_simp
        (go_at_call 124; refine (HPG.out _).mono ?_; rintro e w3 ⟨rfl, hb3⟩; have HB3 := hidp (Bgo (Bdrew HB2.out) hb3); have HX3 := hidp (HX2.out.drew.keep hb3); have HO3 := hidp (own_below (w := w2.drew) HO2.out hb3); clear hb3)
        refine hK.out _ _ ?_ (fun hHeld => ?_)
        · (try dsimp only)
          first | exact HX2.out.drew.four | exact HX3.out.four | exact HX4.out.four | exact hHeld
        clear hK K
        (try simp only [Act.put, gA, gB, gC, sA, sB, sC])
        refine tkO (i := 7) (v := ?_) rfl (by kernel_rfl) (fun _ _ _ h => h) (by rfl) ?_ (by assumption) ?_
        rotate_left
        · intro w hSw; (try dsimp only at hSw); go_simp; (try with_reducible rfl)
        (try simp only [Act.put, gA, gB, gC, sA, sB, sC])
        refine wpAnyH_ready (rs := [8]) (by kernel_rfl) (by simp) ?_
        refine AllReadyH.cons (o := _) rfl (fun K hK => ?_) AllReadyH.nil
        go_simp
        (go_at_call 123; refine (HOF.out _).mono ?_; rintro e w4 ⟨rfl, hb4⟩; have HB4 := hidp (Bgo HB3.out hb4); have HX4 := hidp (HX3.out.keep hb4); have HO4 := hidp (own_below HO3.out hb4); clear hb4)
        refine hK.out _ _ ?_ (fun hHeld => ?_)
        · (try dsimp only)
          first | exact HX2.out.drew.four | exact HX3.out.four | exact HX4.out.four | exact hHeld
        clear hK K
        (try simp only [Act.put, gA, gB, gC, sA, sB, sC])
        refine tkO (i := 9) (v := ?_) rfl (by kernel_rfl) (fun _ _ _ h => h) (by rfl) ?_ (by assumption) ?_
        rotate_left
        · intro w hSw; (try dsimp only at hSw); go_simp; (try with_reducible rfl)
        (try simp only [Act.put, gA, gB, gC, sA, sB, sC])
        refine tkO (i := 10) (v := ?_) rfl (by kernel_rfl) (fun _ _ _ h => h) (by rfl) ?_ (by assumption) ?_
        rotate_left
        · intro w hSw; (try dsimp only at hSw); go_simp; (try with_reducible rfl)
        (try simp only [Act.put, gA, gB, gC, sA, sB, sC])
        refine tkO (i := 11) (v := ?_) rfl (by kernel_rfl) (fun _ _ _ h => h) (by rfl) ?_ (by assumption) ?_
        rotate_left
        · intro w hSw; (try dsimp only at hSw); go_simp; (try with_reducible rfl)
        (try simp only [Act.put, gA, gB, gC, sA, sB, sC])
        refine tkO (i := 12) (v := ?_) rfl (by kernel_rfl) (fun _ _ _ h => h) (by rfl) ?_ (by assumption) ?_
        rotate_left
        · intro w hSw; (try dsimp only at hSw); go_simp; (try with_reducible rfl)
        (try simp only [Act.put, gA, gB, gC, sA, sB, sC])
        refine tkO (i := 13) (v := ?_) rfl (by kernel_rfl) (fun _ _ _ h => h) (by rfl) ?_ (by assumption) ?_
        rotate_left
        · intro w hSw; (try dsimp only at hSw); go_simp; (try with_reducible rfl)
        (try simp only [Act.put, gA, gB, gC, sA, sB, sC])
        refine wpAnyH_done (by kernel_rfl) ?_ _
        have hb4s := HX4.out.lt
        go_wp2_with (first
          | (at_builtin
             refine wpList_append_lies _ rfl _ _ 133 rfl (w.heap.size + 1) 136 j0 (.agg #[.int .i64 0, .int .i64 0, .int .i64 0]) 3 24 Try.underlying133 hjn hjz0 hjz1 hjz2 rfl (by decide) u7 i (ptVs (H.slotsTo q i)) rfl (HO4.out.alloc _) ⟨_, 0, none⟩ 1 1 [.int .i64 5, .int .i64 ye, .int .i64 r] rfl rfl ?c1 ?c2 (by omega) ?c3 ?c4 ?c5 _ rfl ?_
             case c1 => exact fun jj yy hyy => World.news_of_block (w := w4.alloc (.cells #[.int .i64 5, .int .i64 ye, .int .i64 r] 136)) (heap_alloc_new w4 _) jj yy (by simpa using hyy)
             case c2 => simp [Value.oneCell']
             case c3 => unfold maxLen; omega
             case c4 => omega
             case c5 => simp; omega
             intro g cap w8 hown8 hgrow8 hat8 hlt8)
          | fail)
        have HX8 := hidp (held_grown (HX4.out.alloc (.cells #[.int .i64 5, .int .i64 ye, .int .i64 r] 136)) hgrow8 (fun e => by have := (HO4.out.lt _ e).1; omega))
        have HB8 := hidp ((Bnew HB4.out (.cells #[.int .i64 5, .int .i64 ye, .int .i64 r] 136)).grown hgrow8 (by have := HB4.out.size; simp; omega) (fun j hj => by have := (HO4.out.lt j hj).1; omega))
        have HO8 := hidp hown8
        clear hown8 hgrow8 hat8 hlt8
        go_ret
        refine ⟨_, rfl, own_down (base := (w.heap.size + 1)) ?_ (by omega), HB8.out⟩
        have e : (H.partsAt q).length = i + 1 := by rw [HPB.out]; simp [AuH.slotsTo_len]
        rw [e, HPB.out, ptVs_app, ptVs_one]
        exact HO8.out
      · have hrp : decide ((0 : Int) < r) = false := decide_eq_false (by omega)
        have HPB : Hid (H.partsAt q = H.slotsTo q i) := hidp (by rw [HPA.out, HSK.out, if_neg hMp, List.append_nil])
        clear hzm hr hM hMp HAT
        go_wp2_with (first
          | (go_at_call 104; refine (r5Slots_c cl (by omega) (by omega) _).mono ?_; rintro e w9 ⟨rfl, rfl⟩; rw [HSL.out])
          | (go_at_call 124; refine (HPG.out _).mono ?_; rintro e w2 ⟨rfl, hb2⟩; have HB2 := hidp (Bgo HB.out hb2); have HX2 := hidp (HX.out.keep hb2); have HO2 := hidp (own_below HO.out hb2); clear hb2 c0 c1 c2 c3; obtain ⟨c0, c1, c2, c3⟩ := HX2.out.four)
          | fail)
        go_ret
        refine ⟨_, rfl, own_down (base := (w.heap.size + 1)) ?_ (by omega), HB2.out⟩
        have e : (H.partsAt q).length = i := by rw [HPB.out, AuH.slotsTo_len]
        rw [e, HPB.out]
        exact HO2.out
end Go.Proofs.Ytpndfhdedmdoeaa
