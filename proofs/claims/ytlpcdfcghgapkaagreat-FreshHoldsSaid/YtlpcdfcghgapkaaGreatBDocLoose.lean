/-
  The document's rule 8. Written by doc12/gen_loose.py.
-/
import Derived.Test.YtlpcdfcghgapkaaGreatB07
import Derived.Test.YtlpcdfcghgapkaaGreatB03
namespace Go.Proofs.YtlpcdfcghgapkaaGreat
open Go.ChangeShapes Go.WideShapes Go.ChangeAt Go.RowKit Go.Shelf
set_option linter.unusedVariables false
set_option linter.unusedSimpArgs false
section
theorem AuH.tgt_free_ne {H : AuH} {q : Nat} (h : H.K q = 1) : H.tgt q ≠ -1 := by
 have hk := H.K_cases q
 rw [AuH.tgt_free h]
 have := AuH.log_few (n := H.ln q) (by omega) (by omega)
 omega
set_option maxHeartbeats 6400000 in
set_option maxRecDepth 100000 in
theorem xLoose_c {H : AuH} {n c : Nat} (HV : HeapV H n c) (h5 : H.R5) (ad : Addr) (b : Bool) (hb : b = true ↔ H.R8) (w : World) (hv : IsVals w ad n H.V) :
  Calls Tryz.prog 75 #[hpV H ad n c] w fun e w' => e = .returned (.bool b) /\ Below w.heap.size w w' := by
 have HVL := hidp hv
 have HX0 := hidp (Held.new w 96 #[.int .i64 (H.t : Int), .int .i64 (H.p : Int), .int .i64 (H.s : Int), .slice (some ad) n c])
 obtain ⟨c0, c1, c2, c3⟩ := HX0.out.four
 have HBW := hidp (Bnew (B0 w) (.cells #[.int .i64 (H.t : Int), .int .i64 (H.p : Int), .int .i64 (H.s : Int), .slice (some ad) n c] 96))
 have hn := HV.nums
 have hcx : c <= 9223372036854775807 := hn.2.2.2.2.2.2.2.2
 have hni : n <= 6238 := hn.2.2.2.2.2.2.1
 have hnc := HV.cap
 have hp1 := hn.2.2.2.1
 have HBC : Hid (b = true ↔ ∀ q, q < H.p -> H.tgt q = -1 -> H.cel q 2 = 0 /\ H.cel q 3 = 0) := hidp hb
 have HR5 := hidp h5
 clear hv hn hb h5
 unfold hpV
 go_enter Tryz.func75, Tryz.ntmps75
 go_wp2_with fail
 go_loopw [3] (fun u3 wr => ∃ (p : Nat), p <= H.p /\ u3 = .int .i64 (p : Int) /\ Hid (∀ q, q < p -> H.tgt q = -1 -> H.cel q 2 = 0 /\ H.cel q 3 = 0) /\ Hid (Held wr w.heap.size 96 #[.int .i64 (H.t : Int), .int .i64 (H.p : Int), .int .i64 (H.s : Int), .slice (some ad) n c]) /\ Hid (Below w.heap.size w wr)) (fun u3 _ => H.p - (intOf u3).toNat)
 case atStart => exact ⟨0, by omega, rfl, hidp (fun q h => by omega), HX0, HBW⟩
 case round =>
  clear c0 c1 c2 c3 HX0 HBW
  obtain ⟨p, hp, rfl, HOK, HX, HB⟩ := hrel
  obtain ⟨c0, c1, c2, c3⟩ := HX.out.four
  by_cases hlt : p < H.p
  ·have t0 : decide ((p : Int) < H.p) = true := decide_eq_true (by omega)
   have HVR := hidp (HVL.out.below HB.out)
   have hkc := H.K_cases p
   obtain ⟨kk, hkk⟩ : ∃ k, H.K p = k := ⟨_, rfl⟩
   obtain ⟨m, hmm⟩ : ∃ m, H.ln p = m := ⟨_, rfl⟩
   obtain ⟨cl, hcl⟩ : ∃ k, H.Cl p = k := ⟨_, rfl⟩
   have HK := hidp hkk
   have HM := hidp hmm
   have HCL := hidp hcl
   rw [hkk, hmm, hcl] at hkc
   by_cases hk1 : kk = 1
   ·have HNT := hidp (AuH.tgt_free_ne (hkk.trans hk1))
    subst hk1
    clear hkk hmm hcl hkc
    have HOK1 : Hid (∀ q, q < p + 1 -> H.tgt q = -1 -> H.cel q 2 = 0 /\ H.cel q 3 = 0) := hidp (fun q hq => by
     rcases Nat.lt_or_ge q p with h | h
     ·exact HOK.out q h
     ·obtain rfl : q = p := by omega
      exact fun ht => absurd ht HNT.out)
    have HS5 : Hid (∀ w3 g2, Held w3 w.heap.size 96 #[.int .i64 (H.t : Int), .int .i64 (H.p : Int), .int .i64 (H.s : Int), .slice (some ad) n c] -> Held w3 g2 76 #[.int .i64 1, .int .i64 (m : Int), .int .i64 cl] -> ∀ w', Below w3.heap.size w3 w' -> (fun w' => w'.cell? ⟨w.heap.size, 0, none⟩ = some (.int .i64 (H.t : Int)) /\ w'.cell? ⟨w.heap.size, 1, none⟩ = some (.int .i64 (H.p : Int)) /\ w'.cell? ⟨w.heap.size, 2, none⟩ = some (.int .i64 (H.s : Int)) /\ w'.cell? ⟨w.heap.size, 3, none⟩ = some (.slice (some ad) n c) /\ w'.cell? ⟨g2, 0, none⟩ = some (.int .i64 1) /\ w'.cell? ⟨g2, 2, none⟩ = some (.int .i64 cl)) w') := hidp (fun w3 g2 h1 h2 w' hb => by have hh := h1.keep hb; have hi := (h2.keep hb).three; exact ⟨hh.four.1, hh.four.2.1, hh.four.2.2.1, hh.four.2.2.2, hi.1, hi.2.2⟩)
    go_wp2_with (first
     | (go_at_call 78; refine (xInfo_c HV ad hlt _ HVR.out).mono ?_; rintro e w2 ⟨rfl, hb2⟩; rw [HK.out, HM.out, HCL.out]; have HB3 := hidp (Bnew (Bgo HB.out hb2) (.cells #[.int .i64 1, .int .i64 (m : Int), .int .i64 cl] 76)); have HX3 := hidp ((HX.out.keep hb2).alloc (.cells #[.int .i64 1, .int .i64 (m : Int), .int .i64 cl] 76)); have HI3 := hidp (Held.new w2 76 #[.int .i64 1, .int .i64 (m : Int), .int .i64 cl]); clear hb2 c0 c1 c2 c3)
     | fail)
    generalize hg2 : w2.heap.size = g2 at *
    generalize w2.alloc (.cells #[.int .i64 1, .int .i64 (m : Int), .int .i64 cl] 76) = w3 at *
    replace HS5 := hidp (HS5.out w3 g2 HX3.out HI3.out)
    obtain ⟨c0, c1, c2, c3, d0, d2⟩ := HS5.out w3 (B0 _)
    clear hg2 HX HB HVR
    refine wp_region_held_drew (S := (fun w' => w'.cell? ⟨w.heap.size, 0, none⟩ = some (.int .i64 (H.t : Int)) /\ w'.cell? ⟨w.heap.size, 1, none⟩ = some (.int .i64 (H.p : Int)) /\ w'.cell? ⟨w.heap.size, 2, none⟩ = some (.int .i64 (H.s : Int)) /\ w'.cell? ⟨w.heap.size, 3, none⟩ = some (.slice (some ad) n c) /\ w'.cell? ⟨g2, 0, none⟩ = some (.int .i64 1) /\ w'.cell? ⟨g2, 2, none⟩ = some (.int .i64 cl))) (by kernel_rfl) ?_ (fun hHeld => ?_)
    ·(try dsimp only)
     first | exact HS5.out _ (Bdrew (B0 _)) | exact HS5.out _ HB5r.out | exact hHeld
    refine tkz 0 ?_
    refine tkz 1 ?_
    refine tkz 2 ?_
    refine tkz 3 ?_
    refine skz 4 ?_
    refine skz 5 ?_
    refine skz 6 ?_
    refine skz 7 ?_
    refine skz 8 ?_
    refine skz 9 ?_
    refine skz 10 ?_
    refine skz 11 ?_
    refine skz 12 ?_
    refine skz 13 ?_
    refine skz 14 ?_
    refine skz 15 ?_
    refine tkz 16 ?_
    refine dnz ?_
    clear c0 c1 c2 c3 d0 d2 HS5 HI3
    go_wp2_with fail
    go_roundw
    case rel => exact ⟨p + 1, by omega, by go_num, HOK1, hidp HX3.out.drew, hidp (Bdrew HB3.out)⟩
    case measure => simp [intOf]; omega
   ·by_cases hk3 : kk = 3
    ·obtain ⟨h5a, h5b, h5c⟩ := (HR5.out p hlt).1 (hkk.trans hk3)
     obtain ⟨tk, htk⟩ : ∃ t, H.cel p 5 = t := ⟨_, rfl⟩
     rw [htk, hcl] at h5b
     have HTV := hidp htk
     have hclb : 0 <= cl /\ cl <= 8 := by omega
     obtain ⟨bf, hbf⟩ : ∃ bf : Bool, bf = true ↔ tk = 2 ^ slotI cl - 1 := ⟨decide (tk = 2 ^ slotI cl - 1), by simp⟩
     have HBFL := hidp hbf
     have HFU := hidp (fun W => xFull_c tk cl hclb.1 hclb.2 h5b bf hbf W)
     have HKK : Hid (H.K p = 3) := hidp (hkk.trans hk3)
     subst hk3
     clear hkk hmm hcl hkc htk h5a h5b h5c hbf hk1
     have q31 : ((3 : Int) == 1) = false := rfl
     have HS5 : Hid (∀ w3 g2, Held w3 w.heap.size 96 #[.int .i64 (H.t : Int), .int .i64 (H.p : Int), .int .i64 (H.s : Int), .slice (some ad) n c] -> Held w3 g2 76 #[.int .i64 3, .int .i64 (m : Int), .int .i64 cl] -> ∀ w', Below w3.heap.size w3 w' -> (fun w' => w'.cell? ⟨w.heap.size, 0, none⟩ = some (.int .i64 (H.t : Int)) /\ w'.cell? ⟨w.heap.size, 1, none⟩ = some (.int .i64 (H.p : Int)) /\ w'.cell? ⟨w.heap.size, 2, none⟩ = some (.int .i64 (H.s : Int)) /\ w'.cell? ⟨w.heap.size, 3, none⟩ = some (.slice (some ad) n c) /\ w'.cell? ⟨g2, 0, none⟩ = some (.int .i64 3) /\ w'.cell? ⟨g2, 2, none⟩ = some (.int .i64 cl)) w') := hidp (fun w3 g2 h1 h2 w' hb => by have hh := h1.keep hb; have hi := (h2.keep hb).three; exact ⟨hh.four.1, hh.four.2.1, hh.four.2.2.1, hh.four.2.2.2, hi.1, hi.2.2⟩)
     go_wp2_with (first
      | (go_at_call 78; refine (xInfo_c HV ad hlt _ HVR.out).mono ?_; rintro e w2 ⟨rfl, hb2⟩; rw [HK.out, HM.out, HCL.out]; have HB3 := hidp (Bnew (Bgo HB.out hb2) (.cells #[.int .i64 3, .int .i64 (m : Int), .int .i64 cl] 76)); have HX3 := hidp ((HX.out.keep hb2).alloc (.cells #[.int .i64 3, .int .i64 (m : Int), .int .i64 cl] 76)); have HI3 := hidp (Held.new w2 76 #[.int .i64 3, .int .i64 (m : Int), .int .i64 cl]); clear hb2 c0 c1 c2 c3)
      | fail)
     generalize hg2 : w2.heap.size = g2 at *
     generalize w2.alloc (.cells #[.int .i64 3, .int .i64 (m : Int), .int .i64 cl] 76) = w3 at *
     replace HS5 := hidp (HS5.out w3 g2 HX3.out HI3.out)
     obtain ⟨c0, c1, c2, c3, d0, d2⟩ := HS5.out w3 (B0 _)
     clear hg2 HX HB HVR
     refine wp_region_held_drew (S := (fun w' => w'.cell? ⟨w.heap.size, 0, none⟩ = some (.int .i64 (H.t : Int)) /\ w'.cell? ⟨w.heap.size, 1, none⟩ = some (.int .i64 (H.p : Int)) /\ w'.cell? ⟨w.heap.size, 2, none⟩ = some (.int .i64 (H.s : Int)) /\ w'.cell? ⟨w.heap.size, 3, none⟩ = some (.slice (some ad) n c) /\ w'.cell? ⟨g2, 0, none⟩ = some (.int .i64 3) /\ w'.cell? ⟨g2, 2, none⟩ = some (.int .i64 cl))) (by kernel_rfl) ?_ (fun hHeld => ?_)
     ·(try dsimp only)
      first | exact HS5.out _ (Bdrew (B0 _)) | exact HS5.out _ HB5r.out | exact hHeld
     refine tkz 0 ?_
     refine tkz 1 ?_
     refine tkz 2 ?_
     refine tkz 3 ?_
     refine tkz 4 ?_
     refine tkz 5 ?_
     refine tkz 6 ?_
     refine tkz 7 ?_
     refine tkz 8 ?_
     refine tkz 9 ?_
     refine tkz 11 ?_
     refine tkz 12 ?_
     refine rdz 10 fun K hK => ?_
     go_simp
     (go_at_call 94; refine (xTaken_c HV ad hlt _ (HVL.out.below HB3.out).drew).mono ?_; rintro e w5 ⟨rfl, hb5⟩; rw [HTV.out]; have HB5 := hidp (Bgo (Bdrew HB3.out) hb5); have HB5r := hidp (Bgo (Bdrew (B0 w3)) hb5); have HX5 := hidp (HX3.out.drew.keep hb5); clear hb5)
     refine hK.out _ _ ?_ (fun hHeld => ?_)
     ·(try dsimp only)
      first | exact HS5.out _ (Bdrew (B0 _)) | exact HS5.out _ HB5r.out | exact hHeld
     clear hK K
     (try simp only [Act.put, gA, gB, gC, sA, sB, sC])
     refine rdz 13 fun K hK => ?_
     go_simp
     (go_at_call 101; refine (HFU.out _).mono ?_; rintro e w9 ⟨rfl, rfl⟩)
     refine hK.out _ _ ?_ (fun hHeld => ?_)
     ·(try dsimp only)
      first | exact HS5.out _ (Bdrew (B0 _)) | exact HS5.out _ HB5r.out | exact hHeld
     clear hK K
     (try simp only [Act.put, gA, gB, gC, sA, sB, sC])
     refine tkz 14 ?_
     refine tkz 15 ?_
     refine tkz 16 ?_
     refine dnz ?_
     clear c0 c1 c2 c3 d0 d2 HS5 HI3
     cases bf
     ·have HTN : Hid (H.tgt p ≠ -1) := hidp (by rw [AuH.tgt_slab HKK.out (by rw [HTV.out, HCL.out]; intro h; have := HBFL.out.2 h; cases this), HCL.out]; omega)
      have HOK1 : Hid (∀ q, q < p + 1 -> H.tgt q = -1 -> H.cel q 2 = 0 /\ H.cel q 3 = 0) := hidp (fun q hq => by
       rcases Nat.lt_or_ge q p with h | h
       ·exact HOK.out q h
       ·obtain rfl : q = p := by omega
        exact fun ht => absurd ht HTN.out)
      go_wp2_with fail
      go_roundw
      case rel => exact ⟨p + 1, by omega, by go_num, HOK1, HX5, HB5⟩
      case measure => simp [intOf]; omega
     ·have HTG : Hid (H.tgt p = -1) := hidp (AuH.tgt_full HKK.out (by rw [HTV.out, HCL.out]; exact HBFL.out.1 rfl))
      clear HB3 HX3 HB5r
      have HV5 := hidp (HVL.out.below HB5.out)
      obtain ⟨c0, c1, c2, c3⟩ := HX5.out.four
      obtain ⟨i2, hii2⟩ : ∃ i2, 30 + 4 * H.t + 6 * p + 2 = i2 := ⟨_, rfl⟩
      have hini2 : i2 < n := by have := HV.len; omega
      have HI2 : Hid (pageI H.t H.p H.s p 2 = (i2 : Int)) := hidp (by have h := HV.page (b := 2) hlt (by omega); rw [hii2] at h; exact h)
      have h32i2 := HV.cel_lt hlt (show 2 < 6 by omega)
      have hceli2 : H.cel p 2 = H.V i2 := by unfold AuH.cel; rw [hii2]
      obtain ⟨v2, hvvv2⟩ : ∃ v2, H.cel p 2 = v2 := ⟨_, rfl⟩
      have HCv2 := hidp hvvv2
      rw [hvvv2] at h32i2
      obtain ⟨i3, hii3⟩ : ∃ i3, 30 + 4 * H.t + 6 * p + 3 = i3 := ⟨_, rfl⟩
      have hini3 : i3 < n := by have := HV.len; omega
      have HI3 : Hid (pageI H.t H.p H.s p 3 = (i3 : Int)) := hidp (by have h := HV.page (b := 3) hlt (by omega); rw [hii3] at h; exact h)
      have h32i3 := HV.cel_lt hlt (show 3 < 6 by omega)
      have hceli3 : H.cel p 3 = H.V i3 := by unfold AuH.cel; rw [hii3]
      obtain ⟨v3, hvvv3⟩ : ∃ v3, H.cel p 3 = v3 := ⟨_, rfl⟩
      have HCv3 := hidp hvvv3
      rw [hvvv3] at h32i3
      have hci2 := (HV5.out).2 i2 hini2
      rw [<- hceli2, hvvv2] at hci2
      have hbli2 : (ad.add i2).block < w5.heap.size := by rw [block_of_add]; exact (HV5.out).1
      have hci3 := (HV5.out).2 i3 hini3
      rw [<- hceli3, hvvv3] at hci3
      have hbli3 : (ad.add i3).block < w5.heap.size := by rw [block_of_add]; exact (HV5.out).1
      have HS6 : Hid (∀ w', Below w5.heap.size w5 w' -> (fun w' => w'.cell? ⟨w.heap.size, 0, none⟩ = some (.int .i64 (H.t : Int)) /\ w'.cell? ⟨w.heap.size, 1, none⟩ = some (.int .i64 (H.p : Int)) /\ w'.cell? ⟨w.heap.size, 2, none⟩ = some (.int .i64 (H.s : Int)) /\ w'.cell? ⟨w.heap.size, 3, none⟩ = some (.slice (some ad) n c) /\ w'.cell? (ad.add i2) = some (.int .u32 (v2 : Int)) /\ w'.cell? (ad.add i3) = some (.int .u32 (v3 : Int))) w') := hidp (fun w' hb => by have hh := HX5.out.keep hb; exact ⟨hh.four.1, hh.four.2.1, hh.four.2.2.1, hh.four.2.2.2, (hb.cell hbli2).trans hci2, (hb.cell hbli3).trans hci3⟩)
      clear hci2 hbli2 hceli2 hvvv2 hii2 hci3 hbli3 hceli3 hvvv3 hii3 c0 c1 c2 c3
      by_cases h2 : v2 = 0
      ·have q2 : ((v2 : Int) != 0) = false := by simp; omega
       by_cases h3 : v3 = 0
       ·have q3 : ((v3 : Int) != 0) = false := by simp; omega
        have HOK1 : Hid (∀ q, q < p + 1 -> H.tgt q = -1 -> H.cel q 2 = 0 /\ H.cel q 3 = 0) := hidp (fun q hq => by
         rcases Nat.lt_or_ge q p with h | h
         ·exact HOK.out q h
         ·obtain rfl : q = p := by omega
          exact fun _ => ⟨HCv2.out.trans h2, HCv3.out.trans h3⟩)
        clear h2 h3
        go_wp2_with fail
        refine wp_region_held_drew (S := (fun w' => w'.cell? ⟨w.heap.size, 0, none⟩ = some (.int .i64 (H.t : Int)) /\ w'.cell? ⟨w.heap.size, 1, none⟩ = some (.int .i64 (H.p : Int)) /\ w'.cell? ⟨w.heap.size, 2, none⟩ = some (.int .i64 (H.s : Int)) /\ w'.cell? ⟨w.heap.size, 3, none⟩ = some (.slice (some ad) n c) /\ w'.cell? (ad.add i2) = some (.int .u32 (v2 : Int)) /\ w'.cell? (ad.add i3) = some (.int .u32 (v3 : Int)))) (by kernel_rfl) ?_ (fun hHeld => ?_)
        ·(try dsimp only)
         first | exact HS6.out _ (Bdrew (B0 _)) | exact HS6.out _ HB6r.out | exact HS6.out _ HB7r.out | exact hHeld
        refine tkz 0 ?_
        refine tkz 1 ?_
        refine tkz 2 ?_
        refine tkz 3 ?_
        refine tkz 4 ?_
        refine rdz 5 fun K hK => ?_
        go_simp
        (go_at_call 102; refine (r7Next_c _ _ _ _ _).mono ?_; rintro e w6 ⟨rfl, hb6⟩; rw [HI2.out]; have HB6 := hidp (Bgo (Bdrew HB5.out) hb6); have HB6r := hidp (Bgo (Bdrew (B0 w5)) hb6); have HX6 := hidp (HX5.out.drew.keep hb6); clear hb6)
        refine hK.out _ _ ?_ (fun hHeld => ?_)
        ·(try dsimp only)
         first | exact HS6.out _ (Bdrew (B0 _)) | exact HS6.out _ HB6r.out | exact HS6.out _ HB7r.out | exact hHeld
        clear hK K
        (try simp only [Act.put, gA, gB, gC, sA, sB, sC])
        refine tkz 6 ?_
        refine tkz 7 ?_
        refine tkz 8 ?_
        refine tkz 9 ?_
        refine tkz 10 ?_
        refine tkz 11 ?_
        refine tkz 12 ?_
        refine tkz 13 ?_
        refine tkz 14 ?_
        refine rdz 15 fun K hK => ?_
        go_simp
        (go_at_call 103; refine (r7Prev_c _ _ _ _ _).mono ?_; rintro e w7 ⟨rfl, hb7⟩; rw [HI3.out]; have HB7 := hidp (Bgo HB6.out hb7); have HB7r := hidp (Bgo HB6r.out hb7); have HX7 := hidp (HX6.out.keep hb7); clear hb7)
        refine hK.out _ _ ?_ (fun hHeld => ?_)
        ·(try dsimp only)
         first | exact HS6.out _ (Bdrew (B0 _)) | exact HS6.out _ HB6r.out | exact HS6.out _ HB7r.out | exact hHeld
        clear hK K
        (try simp only [Act.put, gA, gB, gC, sA, sB, sC])
        refine tkz 16 ?_
        refine tkz 17 ?_
        refine tkz 18 ?_
        refine tkz 19 ?_
        refine dnz ?_
        go_wp2_with fail
        go_roundw
        case rel => exact ⟨p + 1, by omega, by go_num, HOK1, HX7, HB7⟩
        case measure => simp [intOf]; omega
       ·have q3 : ((v3 : Int) != 0) = true := by simp; omega
        have HBF : Hid (b = false) := hidp (bool_no HBC.out (fun h => h3 (by rw [<- HCv3.out]; exact (h p hlt HTG.out).2)))
        clear h2 h3
        go_wp2_with fail
        refine wp_region_held_drew (S := (fun w' => w'.cell? ⟨w.heap.size, 0, none⟩ = some (.int .i64 (H.t : Int)) /\ w'.cell? ⟨w.heap.size, 1, none⟩ = some (.int .i64 (H.p : Int)) /\ w'.cell? ⟨w.heap.size, 2, none⟩ = some (.int .i64 (H.s : Int)) /\ w'.cell? ⟨w.heap.size, 3, none⟩ = some (.slice (some ad) n c) /\ w'.cell? (ad.add i2) = some (.int .u32 (v2 : Int)) /\ w'.cell? (ad.add i3) = some (.int .u32 (v3 : Int)))) (by kernel_rfl) ?_ (fun hHeld => ?_)
        ·(try dsimp only)
         first | exact HS6.out _ (Bdrew (B0 _)) | exact HS6.out _ HB6r.out | exact HS6.out _ HB7r.out | exact hHeld
        refine tkz 0 ?_
        refine tkz 1 ?_
        refine tkz 2 ?_
        refine tkz 3 ?_
        refine tkz 4 ?_
        refine rdz 5 fun K hK => ?_
        go_simp
        (go_at_call 102; refine (r7Next_c _ _ _ _ _).mono ?_; rintro e w6 ⟨rfl, hb6⟩; rw [HI2.out]; have HB6 := hidp (Bgo (Bdrew HB5.out) hb6); have HB6r := hidp (Bgo (Bdrew (B0 w5)) hb6); have HX6 := hidp (HX5.out.drew.keep hb6); clear hb6)
        refine hK.out _ _ ?_ (fun hHeld => ?_)
        ·(try dsimp only)
         first | exact HS6.out _ (Bdrew (B0 _)) | exact HS6.out _ HB6r.out | exact HS6.out _ HB7r.out | exact hHeld
        clear hK K
        (try simp only [Act.put, gA, gB, gC, sA, sB, sC])
        refine tkz 6 ?_
        refine tkz 7 ?_
        refine tkz 8 ?_
        refine tkz 9 ?_
        refine tkz 10 ?_
        refine tkz 11 ?_
        refine tkz 12 ?_
        refine tkz 13 ?_
        refine tkz 14 ?_
        refine rdz 15 fun K hK => ?_
        go_simp
        (go_at_call 103; refine (r7Prev_c _ _ _ _ _).mono ?_; rintro e w7 ⟨rfl, hb7⟩; rw [HI3.out]; have HB7 := hidp (Bgo HB6.out hb7); have HB7r := hidp (Bgo HB6r.out hb7); have HX7 := hidp (HX6.out.keep hb7); clear hb7)
        refine hK.out _ _ ?_ (fun hHeld => ?_)
        ·(try dsimp only)
         first | exact HS6.out _ (Bdrew (B0 _)) | exact HS6.out _ HB6r.out | exact HS6.out _ HB7r.out | exact hHeld
        clear hK K
        (try simp only [Act.put, gA, gB, gC, sA, sB, sC])
        refine tkz 16 ?_
        refine tkz 17 ?_
        refine tkz 18 ?_
        refine tkz 19 ?_
        refine dnz ?_
        go_wp2_with fail
        go_ret
        exact ⟨by rw [HBF.out]; rfl, HB7.out⟩
      ·have q2 : ((v2 : Int) != 0) = true := by simp; omega
       have HBF : Hid (b = false) := hidp (bool_no HBC.out (fun h => h2 (by rw [<- HCv2.out]; exact (h p hlt HTG.out).1)))
       clear h2
       go_wp2_with fail
       refine wp_region_held_drew (S := (fun w' => w'.cell? ⟨w.heap.size, 0, none⟩ = some (.int .i64 (H.t : Int)) /\ w'.cell? ⟨w.heap.size, 1, none⟩ = some (.int .i64 (H.p : Int)) /\ w'.cell? ⟨w.heap.size, 2, none⟩ = some (.int .i64 (H.s : Int)) /\ w'.cell? ⟨w.heap.size, 3, none⟩ = some (.slice (some ad) n c) /\ w'.cell? (ad.add i2) = some (.int .u32 (v2 : Int)) /\ w'.cell? (ad.add i3) = some (.int .u32 (v3 : Int)))) (by kernel_rfl) ?_ (fun hHeld => ?_)
       ·(try dsimp only)
        first | exact HS6.out _ (Bdrew (B0 _)) | exact HS6.out _ HB6r.out | exact HS6.out _ HB7r.out | exact hHeld
       refine tkz 0 ?_
       refine tkz 1 ?_
       refine tkz 2 ?_
       refine tkz 3 ?_
       refine tkz 4 ?_
       refine rdz 5 fun K hK => ?_
       go_simp
       (go_at_call 102; refine (r7Next_c _ _ _ _ _).mono ?_; rintro e w6 ⟨rfl, hb6⟩; rw [HI2.out]; have HB6 := hidp (Bgo (Bdrew HB5.out) hb6); have HB6r := hidp (Bgo (Bdrew (B0 w5)) hb6); have HX6 := hidp (HX5.out.drew.keep hb6); clear hb6)
       refine hK.out _ _ ?_ (fun hHeld => ?_)
       ·(try dsimp only)
        first | exact HS6.out _ (Bdrew (B0 _)) | exact HS6.out _ HB6r.out | exact HS6.out _ HB7r.out | exact hHeld
       clear hK K
       (try simp only [Act.put, gA, gB, gC, sA, sB, sC])
       refine tkz 6 ?_
       refine tkz 7 ?_
       refine tkz 8 ?_
       refine tkz 9 ?_
       refine skz 10 ?_
       refine skz 11 ?_
       refine skz 12 ?_
       refine skz 13 ?_
       refine skz 14 ?_
       refine skz 15 ?_
       refine skz 16 ?_
       refine skz 17 ?_
       refine skz 18 ?_
       refine tkz 19 ?_
       refine dnz ?_
       go_wp2_with fail
       go_ret
       exact ⟨by rw [HBF.out]; rfl, HB6.out⟩
    ·have q1 : (kk == 1) = false := by simpa using hk1
     have q3 : (kk == 3) = false := by simpa using hk3
     have HTG : Hid (H.tgt p = -1) := hidp (by unfold AuH.tgt; rw [hkk, if_neg hk1, if_neg (fun h => hk3 h.1)])
     clear hkk hmm hcl hkc hk1 hk3
     have HS5 : Hid (∀ w3 g2, Held w3 w.heap.size 96 #[.int .i64 (H.t : Int), .int .i64 (H.p : Int), .int .i64 (H.s : Int), .slice (some ad) n c] -> Held w3 g2 76 #[.int .i64 kk, .int .i64 (m : Int), .int .i64 cl] -> ∀ w', Below w3.heap.size w3 w' -> (fun w' => w'.cell? ⟨w.heap.size, 0, none⟩ = some (.int .i64 (H.t : Int)) /\ w'.cell? ⟨w.heap.size, 1, none⟩ = some (.int .i64 (H.p : Int)) /\ w'.cell? ⟨w.heap.size, 2, none⟩ = some (.int .i64 (H.s : Int)) /\ w'.cell? ⟨w.heap.size, 3, none⟩ = some (.slice (some ad) n c) /\ w'.cell? ⟨g2, 0, none⟩ = some (.int .i64 kk) /\ w'.cell? ⟨g2, 2, none⟩ = some (.int .i64 cl)) w') := hidp (fun w3 g2 h1 h2 w' hb => by have hh := h1.keep hb; have hi := (h2.keep hb).three; exact ⟨hh.four.1, hh.four.2.1, hh.four.2.2.1, hh.four.2.2.2, hi.1, hi.2.2⟩)
     go_wp2_with (first
      | (go_at_call 78; refine (xInfo_c HV ad hlt _ HVR.out).mono ?_; rintro e w2 ⟨rfl, hb2⟩; rw [HK.out, HM.out, HCL.out]; have HB3 := hidp (Bnew (Bgo HB.out hb2) (.cells #[.int .i64 kk, .int .i64 (m : Int), .int .i64 cl] 76)); have HX3 := hidp ((HX.out.keep hb2).alloc (.cells #[.int .i64 kk, .int .i64 (m : Int), .int .i64 cl] 76)); have HI3 := hidp (Held.new w2 76 #[.int .i64 kk, .int .i64 (m : Int), .int .i64 cl]); clear hb2 c0 c1 c2 c3)
      | fail)
     generalize hg2 : w2.heap.size = g2 at *
     generalize w2.alloc (.cells #[.int .i64 kk, .int .i64 (m : Int), .int .i64 cl] 76) = w3 at *
     replace HS5 := hidp (HS5.out w3 g2 HX3.out HI3.out)
     obtain ⟨c0, c1, c2, c3, d0, d2⟩ := HS5.out w3 (B0 _)
     clear hg2 HX HB HVR
     refine wp_region_held_drew (S := (fun w' => w'.cell? ⟨w.heap.size, 0, none⟩ = some (.int .i64 (H.t : Int)) /\ w'.cell? ⟨w.heap.size, 1, none⟩ = some (.int .i64 (H.p : Int)) /\ w'.cell? ⟨w.heap.size, 2, none⟩ = some (.int .i64 (H.s : Int)) /\ w'.cell? ⟨w.heap.size, 3, none⟩ = some (.slice (some ad) n c) /\ w'.cell? ⟨g2, 0, none⟩ = some (.int .i64 kk) /\ w'.cell? ⟨g2, 2, none⟩ = some (.int .i64 cl))) (by kernel_rfl) ?_ (fun hHeld => ?_)
     ·(try dsimp only)
      first | exact HS5.out _ (Bdrew (B0 _)) | exact HS5.out _ HB5r.out | exact hHeld
     refine tkz 0 ?_
     refine tkz 1 ?_
     refine tkz 2 ?_
     refine tkz 3 ?_
     refine tkz 4 ?_
     refine tkz 5 ?_
     refine tkz 6 ?_
     refine tkz 7 ?_
     refine skz 8 ?_
     refine skz 9 ?_
     refine skz 10 ?_
     refine skz 11 ?_
     refine skz 12 ?_
     refine skz 13 ?_
     refine skz 14 ?_
     refine tkz 15 ?_
     refine tkz 16 ?_
     refine dnz ?_
     clear c0 c1 c2 c3 d0 d2 HS5 HI3
     have HX5 := hidp HX3.out.drew
     have HB5 := hidp (Bdrew HB3.out)
     clear HB3 HX3
     generalize w3.drew = w5 at *
     have HV5 := hidp (HVL.out.below HB5.out)
     obtain ⟨c0, c1, c2, c3⟩ := HX5.out.four
     obtain ⟨i2, hii2⟩ : ∃ i2, 30 + 4 * H.t + 6 * p + 2 = i2 := ⟨_, rfl⟩
     have hini2 : i2 < n := by have := HV.len; omega
     have HI2 : Hid (pageI H.t H.p H.s p 2 = (i2 : Int)) := hidp (by have h := HV.page (b := 2) hlt (by omega); rw [hii2] at h; exact h)
     have h32i2 := HV.cel_lt hlt (show 2 < 6 by omega)
     have hceli2 : H.cel p 2 = H.V i2 := by unfold AuH.cel; rw [hii2]
     obtain ⟨v2, hvvv2⟩ : ∃ v2, H.cel p 2 = v2 := ⟨_, rfl⟩
     have HCv2 := hidp hvvv2
     rw [hvvv2] at h32i2
     obtain ⟨i3, hii3⟩ : ∃ i3, 30 + 4 * H.t + 6 * p + 3 = i3 := ⟨_, rfl⟩
     have hini3 : i3 < n := by have := HV.len; omega
     have HI3 : Hid (pageI H.t H.p H.s p 3 = (i3 : Int)) := hidp (by have h := HV.page (b := 3) hlt (by omega); rw [hii3] at h; exact h)
     have h32i3 := HV.cel_lt hlt (show 3 < 6 by omega)
     have hceli3 : H.cel p 3 = H.V i3 := by unfold AuH.cel; rw [hii3]
     obtain ⟨v3, hvvv3⟩ : ∃ v3, H.cel p 3 = v3 := ⟨_, rfl⟩
     have HCv3 := hidp hvvv3
     rw [hvvv3] at h32i3
     have hci2 := (HV5.out).2 i2 hini2
     rw [<- hceli2, hvvv2] at hci2
     have hbli2 : (ad.add i2).block < w5.heap.size := by rw [block_of_add]; exact (HV5.out).1
     have hci3 := (HV5.out).2 i3 hini3
     rw [<- hceli3, hvvv3] at hci3
     have hbli3 : (ad.add i3).block < w5.heap.size := by rw [block_of_add]; exact (HV5.out).1
     have HS6 : Hid (∀ w', Below w5.heap.size w5 w' -> (fun w' => w'.cell? ⟨w.heap.size, 0, none⟩ = some (.int .i64 (H.t : Int)) /\ w'.cell? ⟨w.heap.size, 1, none⟩ = some (.int .i64 (H.p : Int)) /\ w'.cell? ⟨w.heap.size, 2, none⟩ = some (.int .i64 (H.s : Int)) /\ w'.cell? ⟨w.heap.size, 3, none⟩ = some (.slice (some ad) n c) /\ w'.cell? (ad.add i2) = some (.int .u32 (v2 : Int)) /\ w'.cell? (ad.add i3) = some (.int .u32 (v3 : Int))) w') := hidp (fun w' hb => by have hh := HX5.out.keep hb; exact ⟨hh.four.1, hh.four.2.1, hh.four.2.2.1, hh.four.2.2.2, (hb.cell hbli2).trans hci2, (hb.cell hbli3).trans hci3⟩)
     clear hci2 hbli2 hceli2 hvvv2 hii2 hci3 hbli3 hceli3 hvvv3 hii3 c0 c1 c2 c3
     by_cases h2 : v2 = 0
     ·have q2 : ((v2 : Int) != 0) = false := by simp; omega
      by_cases h3 : v3 = 0
      ·have q3 : ((v3 : Int) != 0) = false := by simp; omega
       have HOK1 : Hid (∀ q, q < p + 1 -> H.tgt q = -1 -> H.cel q 2 = 0 /\ H.cel q 3 = 0) := hidp (fun q hq => by
        rcases Nat.lt_or_ge q p with h | h
        ·exact HOK.out q h
        ·obtain rfl : q = p := by omega
         exact fun _ => ⟨HCv2.out.trans h2, HCv3.out.trans h3⟩)
       clear h2 h3
       go_wp2_with fail
       refine wp_region_held_drew (S := (fun w' => w'.cell? ⟨w.heap.size, 0, none⟩ = some (.int .i64 (H.t : Int)) /\ w'.cell? ⟨w.heap.size, 1, none⟩ = some (.int .i64 (H.p : Int)) /\ w'.cell? ⟨w.heap.size, 2, none⟩ = some (.int .i64 (H.s : Int)) /\ w'.cell? ⟨w.heap.size, 3, none⟩ = some (.slice (some ad) n c) /\ w'.cell? (ad.add i2) = some (.int .u32 (v2 : Int)) /\ w'.cell? (ad.add i3) = some (.int .u32 (v3 : Int)))) (by kernel_rfl) ?_ (fun hHeld => ?_)
       ·(try dsimp only)
        first | exact HS6.out _ (Bdrew (B0 _)) | exact HS6.out _ HB6r.out | exact HS6.out _ HB7r.out | exact hHeld
       refine tkz 0 ?_
       refine tkz 1 ?_
       refine tkz 2 ?_
       refine tkz 3 ?_
       refine tkz 4 ?_
       refine rdz 5 fun K hK => ?_
       go_simp
       (go_at_call 102; refine (r7Next_c _ _ _ _ _).mono ?_; rintro e w6 ⟨rfl, hb6⟩; rw [HI2.out]; have HB6 := hidp (Bgo (Bdrew HB5.out) hb6); have HB6r := hidp (Bgo (Bdrew (B0 w5)) hb6); have HX6 := hidp (HX5.out.drew.keep hb6); clear hb6)
       refine hK.out _ _ ?_ (fun hHeld => ?_)
       ·(try dsimp only)
        first | exact HS6.out _ (Bdrew (B0 _)) | exact HS6.out _ HB6r.out | exact HS6.out _ HB7r.out | exact hHeld
       clear hK K
       (try simp only [Act.put, gA, gB, gC, sA, sB, sC])
       refine tkz 6 ?_
       refine tkz 7 ?_
       refine tkz 8 ?_
       refine tkz 9 ?_
       refine tkz 10 ?_
       refine tkz 11 ?_
       refine tkz 12 ?_
       refine tkz 13 ?_
       refine tkz 14 ?_
       refine rdz 15 fun K hK => ?_
       go_simp
       (go_at_call 103; refine (r7Prev_c _ _ _ _ _).mono ?_; rintro e w7 ⟨rfl, hb7⟩; rw [HI3.out]; have HB7 := hidp (Bgo HB6.out hb7); have HB7r := hidp (Bgo HB6r.out hb7); have HX7 := hidp (HX6.out.keep hb7); clear hb7)
       refine hK.out _ _ ?_ (fun hHeld => ?_)
       ·(try dsimp only)
        first | exact HS6.out _ (Bdrew (B0 _)) | exact HS6.out _ HB6r.out | exact HS6.out _ HB7r.out | exact hHeld
       clear hK K
       (try simp only [Act.put, gA, gB, gC, sA, sB, sC])
       refine tkz 16 ?_
       refine tkz 17 ?_
       refine tkz 18 ?_
       refine tkz 19 ?_
       refine dnz ?_
       go_wp2_with fail
       go_roundw
       case rel => exact ⟨p + 1, by omega, by go_num, HOK1, HX7, HB7⟩
       case measure => simp [intOf]; omega
      ·have q3 : ((v3 : Int) != 0) = true := by simp; omega
       have HBF : Hid (b = false) := hidp (bool_no HBC.out (fun h => h3 (by rw [<- HCv3.out]; exact (h p hlt HTG.out).2)))
       clear h2 h3
       go_wp2_with fail
       refine wp_region_held_drew (S := (fun w' => w'.cell? ⟨w.heap.size, 0, none⟩ = some (.int .i64 (H.t : Int)) /\ w'.cell? ⟨w.heap.size, 1, none⟩ = some (.int .i64 (H.p : Int)) /\ w'.cell? ⟨w.heap.size, 2, none⟩ = some (.int .i64 (H.s : Int)) /\ w'.cell? ⟨w.heap.size, 3, none⟩ = some (.slice (some ad) n c) /\ w'.cell? (ad.add i2) = some (.int .u32 (v2 : Int)) /\ w'.cell? (ad.add i3) = some (.int .u32 (v3 : Int)))) (by kernel_rfl) ?_ (fun hHeld => ?_)
       ·(try dsimp only)
        first | exact HS6.out _ (Bdrew (B0 _)) | exact HS6.out _ HB6r.out | exact HS6.out _ HB7r.out | exact hHeld
       refine tkz 0 ?_
       refine tkz 1 ?_
       refine tkz 2 ?_
       refine tkz 3 ?_
       refine tkz 4 ?_
       refine rdz 5 fun K hK => ?_
       go_simp
       (go_at_call 102; refine (r7Next_c _ _ _ _ _).mono ?_; rintro e w6 ⟨rfl, hb6⟩; rw [HI2.out]; have HB6 := hidp (Bgo (Bdrew HB5.out) hb6); have HB6r := hidp (Bgo (Bdrew (B0 w5)) hb6); have HX6 := hidp (HX5.out.drew.keep hb6); clear hb6)
       refine hK.out _ _ ?_ (fun hHeld => ?_)
       ·(try dsimp only)
        first | exact HS6.out _ (Bdrew (B0 _)) | exact HS6.out _ HB6r.out | exact HS6.out _ HB7r.out | exact hHeld
       clear hK K
       (try simp only [Act.put, gA, gB, gC, sA, sB, sC])
       refine tkz 6 ?_
       refine tkz 7 ?_
       refine tkz 8 ?_
       refine tkz 9 ?_
       refine tkz 10 ?_
       refine tkz 11 ?_
       refine tkz 12 ?_
       refine tkz 13 ?_
       refine tkz 14 ?_
       refine rdz 15 fun K hK => ?_
       go_simp
       (go_at_call 103; refine (r7Prev_c _ _ _ _ _).mono ?_; rintro e w7 ⟨rfl, hb7⟩; rw [HI3.out]; have HB7 := hidp (Bgo HB6.out hb7); have HB7r := hidp (Bgo HB6r.out hb7); have HX7 := hidp (HX6.out.keep hb7); clear hb7)
       refine hK.out _ _ ?_ (fun hHeld => ?_)
       ·(try dsimp only)
        first | exact HS6.out _ (Bdrew (B0 _)) | exact HS6.out _ HB6r.out | exact HS6.out _ HB7r.out | exact hHeld
       clear hK K
       (try simp only [Act.put, gA, gB, gC, sA, sB, sC])
       refine tkz 16 ?_
       refine tkz 17 ?_
       refine tkz 18 ?_
       refine tkz 19 ?_
       refine dnz ?_
       go_wp2_with fail
       go_ret
       exact ⟨by rw [HBF.out]; rfl, HB7.out⟩
     ·have q2 : ((v2 : Int) != 0) = true := by simp; omega
      have HBF : Hid (b = false) := hidp (bool_no HBC.out (fun h => h2 (by rw [<- HCv2.out]; exact (h p hlt HTG.out).1)))
      clear h2
      go_wp2_with fail
      refine wp_region_held_drew (S := (fun w' => w'.cell? ⟨w.heap.size, 0, none⟩ = some (.int .i64 (H.t : Int)) /\ w'.cell? ⟨w.heap.size, 1, none⟩ = some (.int .i64 (H.p : Int)) /\ w'.cell? ⟨w.heap.size, 2, none⟩ = some (.int .i64 (H.s : Int)) /\ w'.cell? ⟨w.heap.size, 3, none⟩ = some (.slice (some ad) n c) /\ w'.cell? (ad.add i2) = some (.int .u32 (v2 : Int)) /\ w'.cell? (ad.add i3) = some (.int .u32 (v3 : Int)))) (by kernel_rfl) ?_ (fun hHeld => ?_)
      ·(try dsimp only)
       first | exact HS6.out _ (Bdrew (B0 _)) | exact HS6.out _ HB6r.out | exact HS6.out _ HB7r.out | exact hHeld
      refine tkz 0 ?_
      refine tkz 1 ?_
      refine tkz 2 ?_
      refine tkz 3 ?_
      refine tkz 4 ?_
      refine rdz 5 fun K hK => ?_
      go_simp
      (go_at_call 102; refine (r7Next_c _ _ _ _ _).mono ?_; rintro e w6 ⟨rfl, hb6⟩; rw [HI2.out]; have HB6 := hidp (Bgo (Bdrew HB5.out) hb6); have HB6r := hidp (Bgo (Bdrew (B0 w5)) hb6); have HX6 := hidp (HX5.out.drew.keep hb6); clear hb6)
      refine hK.out _ _ ?_ (fun hHeld => ?_)
      ·(try dsimp only)
       first | exact HS6.out _ (Bdrew (B0 _)) | exact HS6.out _ HB6r.out | exact HS6.out _ HB7r.out | exact hHeld
      clear hK K
      (try simp only [Act.put, gA, gB, gC, sA, sB, sC])
      refine tkz 6 ?_
      refine tkz 7 ?_
      refine tkz 8 ?_
      refine tkz 9 ?_
      refine skz 10 ?_
      refine skz 11 ?_
      refine skz 12 ?_
      refine skz 13 ?_
      refine skz 14 ?_
      refine skz 15 ?_
      refine skz 16 ?_
      refine skz 17 ?_
      refine skz 18 ?_
      refine tkz 19 ?_
      refine dnz ?_
      go_wp2_with fail
      go_ret
      exact ⟨by rw [HBF.out]; rfl, HB6.out⟩
  ·have t0 : decide ((p : Int) < H.p) = false := decide_eq_false (by omega)
   have HBT : Hid (b = true) := hidp (HBC.out.2 (fun q hq => HOK.out q (by omega)))
   go_wp2_with fail
   go_ret
   exact ⟨by rw [HBT.out]; rfl, HB.out⟩
end
end Go.Proofs.YtlpcdfcghgapkaaGreat
