/-
  The document's rule 4. Written by doc12/gen_apart.py.
-/
import Derived.Test.YtlpcdfcghgapkaaGreatB06
import Derived.Test.YtlpcdfcghgapkaaGreatB03
import Derived.Test.YtlpcdfcghgapkaaGreatB04
namespace Go.Proofs.YtlpcdfcghgapkaaGreat
open Go.ChangeShapes Go.WideShapes Go.ChangeAt Go.RowKit Go.Shelf
set_option linter.unusedVariables false
set_option linter.unusedSimpArgs false
section
set_option maxHeartbeats 6400000 in
set_option maxRecDepth 100000 in
theorem xApart_c {H : AuH} {n c : Nat} (HV : HeapV H n c) (ht : H.Tiled) (ad : Addr) (b : Bool) (hb : b = true ↔ H.R4) (w : World) (hv : IsVals w ad n H.V) :
  Calls Tryz.prog 71 #[hpV H ad n c] w fun e w' => e = .returned (.bool b) /\ Below w.heap.size w w' := by
 have HVL := hidp hv
 have HX0 := hidp (Held.new w 96 #[.int .i64 (H.t : Int), .int .i64 (H.p : Int), .int .i64 (H.s : Int), .slice (some ad) n c])
 obtain ⟨c0, c1, c2, c3⟩ := HX0.out.four
 have HBW := hidp (Bnew (B0 w) (.cells #[.int .i64 (H.t : Int), .int .i64 (H.p : Int), .int .i64 (H.s : Int), .slice (some ad) n c] 96))
 have hn := HV.nums
 have hcx : c <= 9223372036854775807 := hn.2.2.2.2.2.2.2.2
 have hni : n <= 6238 := hn.2.2.2.2.2.2.1
 have hnc := HV.cap
 have hp1 := hn.2.2.2.1
 have HBC := hidp hb
 have hA := ht.1
 clear hv hn hb ht
 unfold hpV
 go_enter Tryz.func71, Tryz.ntmps71
 go_wp2_with (first
  | (go_at_call 89; refine (xStarts_yes HV hA ad _ (HVL.out.below HBW.out)).mono ?_; rintro e w2 ⟨gl, cl, l, nl, rfl, hl, hln, hpos, hcl0, hcl, hlr, hb2⟩; have HSL := hidp hl; have HLN := hidp hln; have HLR := hidp hlr; have HB2 := hidp (Bgo HBW.out hb2); have HX2 := hidp (HX0.out.keep hb2); clear hl hln hlr hb2 c0 c1 c2 c3)
  | fail)
 have hnl : nl <= 1024 := by have := HSL.out.len; have := HLN.out; omega
 go_loopw [5] (fun u5 wr => ∃ (n1 : Nat), 1 <= n1 /\ n1 <= nl /\ u5 = .int .i64 (n1 : Int) /\ Hid (H.ApartTo l n1) /\ Hid (Held wr w.heap.size 96 #[.int .i64 (H.t : Int), .int .i64 (H.p : Int), .int .i64 (H.s : Int), .slice (some ad) n c]) /\ Hid (LRow wr gl l) /\ Hid (Below w.heap.size w wr)) (fun u5 _ => nl - (intOf u5).toNat)
 case atStart => exact ⟨1, by omega, by omega, rfl, hidp (fun i a b h => by omega), HX2, HLR, HB2⟩
 case round =>
  obtain ⟨n1, hn0, hn1, rfl, HAP0, HX, HLW, HB⟩ := hrel
  obtain ⟨c0, c1, c2, c3⟩ := HX.out.four
  by_cases hlt : n1 < nl
  ·have t0 : decide ((n1 : Int) < nl) = true := decide_eq_true (by omega)
   have HVR := hidp (HVL.out.below HB.out)
   obtain ⟨k1, hk1⟩ : ∃ k1, n1 = k1 + 1 := ⟨n1 - 1, by omega⟩
   have HNK := hidp hk1
   obtain ⟨aa, hia⟩ : ∃ a, l[k1]? = some a := ⟨_, List.getElem?_eq_getElem (by have := HLN.out; omega)⟩
   obtain ⟨bb, hib⟩ : ∃ a, l[n1]? = some a := ⟨_, List.getElem?_eq_getElem (by have := HLN.out; omega)⟩
   have HIA := hidp hia
   have HIB := hidp hib
   have hap : aa < H.p := (HSL.out.next hia).1.2.2
   have hbp : bb < H.p := (HSL.out.next hib).1.2.2
   have HS : Hid (∀ w', Below wr.heap.size wr w' -> (fun w' => w'.cell? ⟨w.heap.size, 0, none⟩ = some (.int .i64 (H.t : Int)) /\ w'.cell? ⟨w.heap.size, 1, none⟩ = some (.int .i64 (H.p : Int)) /\ w'.cell? ⟨w.heap.size, 2, none⟩ = some (.int .i64 (H.s : Int)) /\ w'.cell? ⟨w.heap.size, 3, none⟩ = some (.slice (some ad) n c) /\ w'.cell? ⟨gl, n1, none⟩ = some (.int .i64 (bb : Int)) /\ w'.cell? ⟨gl, k1, none⟩ = some (.int .i64 (aa : Int))) w') := hidp (fun w' hb => by have hh := HX.out.keep hb; exact ⟨hh.four.1, hh.four.2.1, hh.four.2.2.1, hh.four.2.2.2, (HLW.out.keep hb).2 _ _ HIB.out, (HLW.out.keep hb).2 _ _ HIA.out⟩)
   have l0 := HLW.out.2 _ _ hia
   have l1 := HLW.out.2 _ _ hib
   have hf : ∀ (x y z : Value) (w : World), (Instr.field 76 (.agg #[x, y, z]) 0).run Tryz.prog w = .ok x w := fun _ _ _ _ => by kernel_rfl
   have HST : Hid (¬ (H.K bb = 1 /\ H.K aa = 1) -> H.ApartTo l (n1 + 1)) := hidp (fun h => by
    have h1 := HAP0.out
    have h2 := HIB.out
    have h3 := HNK.out
    subst h3
    exact h1.step HIA.out h2 h)
   have HNO : Hid (H.K bb = 1 -> H.K aa = 1 -> ¬ H.R4) := hidp (fun h1 h2 => AuH.apart_not HSL.out HIA.out (by rw [<- HNK.out]; exact HIB.out) h1 h2)
   obtain ⟨kb, hkb⟩ : ∃ k, H.K bb = k := ⟨_, rfl⟩
   obtain ⟨ka, hka⟩ : ∃ k, H.K aa = k := ⟨_, rfl⟩
   have HKB := hidp hkb
   have HKA := hidp hka
   rw [hkb, hka] at HST HNO
   have sw : IntKind.i64.wrap ((n1 : Int) - 1) = (k1 : Int) := by rw [i64_same (by omega) (by omega)]; omega
   have hk1l : k1 < nl := by omega
   clear hia hib hk1 hkb hka
   by_cases hkb : kb = 1
   ·have q0 : (kb == 1) = true := by simpa using hkb
    by_cases hka : ka = 1
    ·have q1 : (ka == 1) = true := by simpa using hka
     have HBF : Hid (b = false) := hidp (bool_no HBC.out (HNO.out hkb hka))
     clear hkb hka
     go_wp2_with fail
     refine wp_region_held_drew (S := (fun w' => w'.cell? ⟨w.heap.size, 0, none⟩ = some (.int .i64 (H.t : Int)) /\ w'.cell? ⟨w.heap.size, 1, none⟩ = some (.int .i64 (H.p : Int)) /\ w'.cell? ⟨w.heap.size, 2, none⟩ = some (.int .i64 (H.s : Int)) /\ w'.cell? ⟨w.heap.size, 3, none⟩ = some (.slice (some ad) n c) /\ w'.cell? ⟨gl, n1, none⟩ = some (.int .i64 (bb : Int)) /\ w'.cell? ⟨gl, k1, none⟩ = some (.int .i64 (aa : Int)))) (by kernel_rfl) ?_ (fun hHeld => ?_)
     ·(try dsimp only)
      first | exact HS.out _ (Bdrew (B0 _)) | exact HS.out _ HB3r.out | exact HS.out _ HB4r.out | exact hHeld
     refine tkz 0 ?_
     refine tkz 1 ?_
     refine tkz 2 ?_
     refine tkz 3 ?_
     refine tkz 4 ?_
     refine rdz 5 fun K hK => ?_
     go_simp
     (go_at_call 78; refine (xInfo_c HV ad hbp _ HVR.out.drew).mono ?_; rintro e w3 ⟨rfl, hb3⟩; rw [HKB.out]; have HB3 := hidp (Bgo (Bdrew HB.out) hb3); have HB3r := hidp (Bgo (Bdrew (B0 wr)) hb3); have HX3 := hidp (HX.out.drew.keep hb3); have HL3 := hidp (HLW.out.drew.keep hb3); clear hb3)
     refine hK.out _ _ ?_ (fun hHeld => ?_)
     ·(try dsimp only)
      first | exact HS.out _ (Bdrew (B0 _)) | exact HS.out _ HB3r.out | exact HS.out _ HB4r.out | exact hHeld
     clear hK K
     (try simp only [Act.put, gA, gB, gC, sA, sB, sC])
     refine tkz 6 ?_
     refine tkz 7 ?_
     refine tkz 8 ?_
     refine tkz 9 ?_
     refine tkz 10 ?_
     refine tkz 11 ?_
     refine tkz 12 ?_
     refine tkz 13 ?_
     refine tkz 14 ?_
     refine rdz 15 fun K hK => ?_
     go_simp
     (have hz := HKA.out; clear hz; go_at_call 78; refine (xInfo_c HV ad hap _ (HVL.out.below HB3.out)).mono ?_; rintro e w4 ⟨rfl, hb4⟩; rw [HKA.out]; have HB4 := hidp (Bgo HB3.out hb4); have HB4r := hidp (Bgo HB3r.out hb4); have HX4 := hidp (HX3.out.keep hb4); have HL4 := hidp (HL3.out.keep hb4); clear hb4)
     refine hK.out _ _ ?_ (fun hHeld => ?_)
     ·(try dsimp only)
      first | exact HS.out _ (Bdrew (B0 _)) | exact HS.out _ HB3r.out | exact HS.out _ HB4r.out | exact hHeld
     clear hK K
     (try simp only [Act.put, gA, gB, gC, sA, sB, sC])
     refine tkz 16 ?_
     refine tkz 17 ?_
     refine tkz 18 ?_
     refine dnz ?_
     go_wp2_with fail
     go_ret
     exact ⟨by rw [HBF.out]; rfl, HB4.out⟩
    ·have q1 : (ka == 1) = false := by simpa using hka
     have HAP := hidp (HST.out (fun h => hka h.2))
     clear hkb hka
     go_wp2_with fail
     refine wp_region_held_drew (S := (fun w' => w'.cell? ⟨w.heap.size, 0, none⟩ = some (.int .i64 (H.t : Int)) /\ w'.cell? ⟨w.heap.size, 1, none⟩ = some (.int .i64 (H.p : Int)) /\ w'.cell? ⟨w.heap.size, 2, none⟩ = some (.int .i64 (H.s : Int)) /\ w'.cell? ⟨w.heap.size, 3, none⟩ = some (.slice (some ad) n c) /\ w'.cell? ⟨gl, n1, none⟩ = some (.int .i64 (bb : Int)) /\ w'.cell? ⟨gl, k1, none⟩ = some (.int .i64 (aa : Int)))) (by kernel_rfl) ?_ (fun hHeld => ?_)
     ·(try dsimp only)
      first | exact HS.out _ (Bdrew (B0 _)) | exact HS.out _ HB3r.out | exact HS.out _ HB4r.out | exact hHeld
     refine tkz 0 ?_
     refine tkz 1 ?_
     refine tkz 2 ?_
     refine tkz 3 ?_
     refine tkz 4 ?_
     refine rdz 5 fun K hK => ?_
     go_simp
     (go_at_call 78; refine (xInfo_c HV ad hbp _ HVR.out.drew).mono ?_; rintro e w3 ⟨rfl, hb3⟩; rw [HKB.out]; have HB3 := hidp (Bgo (Bdrew HB.out) hb3); have HB3r := hidp (Bgo (Bdrew (B0 wr)) hb3); have HX3 := hidp (HX.out.drew.keep hb3); have HL3 := hidp (HLW.out.drew.keep hb3); clear hb3)
     refine hK.out _ _ ?_ (fun hHeld => ?_)
     ·(try dsimp only)
      first | exact HS.out _ (Bdrew (B0 _)) | exact HS.out _ HB3r.out | exact HS.out _ HB4r.out | exact hHeld
     clear hK K
     (try simp only [Act.put, gA, gB, gC, sA, sB, sC])
     refine tkz 6 ?_
     refine tkz 7 ?_
     refine tkz 8 ?_
     refine tkz 9 ?_
     refine tkz 10 ?_
     refine tkz 11 ?_
     refine tkz 12 ?_
     refine tkz 13 ?_
     refine tkz 14 ?_
     refine rdz 15 fun K hK => ?_
     go_simp
     (have hz := HKA.out; clear hz; go_at_call 78; refine (xInfo_c HV ad hap _ (HVL.out.below HB3.out)).mono ?_; rintro e w4 ⟨rfl, hb4⟩; rw [HKA.out]; have HB4 := hidp (Bgo HB3.out hb4); have HB4r := hidp (Bgo HB3r.out hb4); have HX4 := hidp (HX3.out.keep hb4); have HL4 := hidp (HL3.out.keep hb4); clear hb4)
     refine hK.out _ _ ?_ (fun hHeld => ?_)
     ·(try dsimp only)
      first | exact HS.out _ (Bdrew (B0 _)) | exact HS.out _ HB3r.out | exact HS.out _ HB4r.out | exact hHeld
     clear hK K
     (try simp only [Act.put, gA, gB, gC, sA, sB, sC])
     refine tkz 16 ?_
     refine tkz 17 ?_
     refine tkz 18 ?_
     refine dnz ?_
     go_wp2_with fail
     go_roundw
     case rel => exact ⟨n1 + 1, by omega, by omega, by go_num, hidp HAP.out, HX4, HL4, HB4⟩
     case measure => simp [intOf]; omega
   ·have q0 : (kb == 1) = false := by simpa using hkb
    have HAP := hidp (HST.out (fun h => hkb h.1))
    clear hkb
    go_wp2_with fail
    refine wp_region_held_drew (S := (fun w' => w'.cell? ⟨w.heap.size, 0, none⟩ = some (.int .i64 (H.t : Int)) /\ w'.cell? ⟨w.heap.size, 1, none⟩ = some (.int .i64 (H.p : Int)) /\ w'.cell? ⟨w.heap.size, 2, none⟩ = some (.int .i64 (H.s : Int)) /\ w'.cell? ⟨w.heap.size, 3, none⟩ = some (.slice (some ad) n c) /\ w'.cell? ⟨gl, n1, none⟩ = some (.int .i64 (bb : Int)) /\ w'.cell? ⟨gl, k1, none⟩ = some (.int .i64 (aa : Int)))) (by kernel_rfl) ?_ (fun hHeld => ?_)
    ·(try dsimp only)
     first | exact HS.out _ (Bdrew (B0 _)) | exact HS.out _ HB3r.out | exact HS.out _ HB4r.out | exact hHeld
    refine tkz 0 ?_
    refine tkz 1 ?_
    refine tkz 2 ?_
    refine tkz 3 ?_
    refine tkz 4 ?_
    refine rdz 5 fun K hK => ?_
    go_simp
    (go_at_call 78; refine (xInfo_c HV ad hbp _ HVR.out.drew).mono ?_; rintro e w3 ⟨rfl, hb3⟩; rw [HKB.out]; have HB3 := hidp (Bgo (Bdrew HB.out) hb3); have HB3r := hidp (Bgo (Bdrew (B0 wr)) hb3); have HX3 := hidp (HX.out.drew.keep hb3); have HL3 := hidp (HLW.out.drew.keep hb3); clear hb3)
    refine hK.out _ _ ?_ (fun hHeld => ?_)
    ·(try dsimp only)
     first | exact HS.out _ (Bdrew (B0 _)) | exact HS.out _ HB3r.out | exact HS.out _ HB4r.out | exact hHeld
    clear hK K
    (try simp only [Act.put, gA, gB, gC, sA, sB, sC])
    refine tkz 6 ?_
    refine tkz 7 ?_
    refine tkz 8 ?_
    refine skz 9 ?_
    refine skz 10 ?_
    refine skz 11 ?_
    refine skz 12 ?_
    refine skz 13 ?_
    refine skz 14 ?_
    refine skz 15 ?_
    refine skz 16 ?_
    refine skz 17 ?_
    refine tkz 18 ?_
    refine dnz ?_
    go_wp2_with fail
    go_roundw
    case rel => exact ⟨n1 + 1, by omega, by omega, by go_num, hidp HAP.out, HX3, HL3, HB3⟩
    case measure => simp [intOf]; omega
  ·have t0 : decide ((n1 : Int) < nl) = false := decide_eq_false (by omega)
   have HBT : Hid (b = true) := hidp (HBC.out.2 (AuH.apart_all HSL.out (by have := HLN.out; omega) HAP0.out))
   go_wp2_with fail
   go_ret
   exact ⟨by rw [HBT.out]; rfl, HB.out⟩
end
section
set_option maxHeartbeats 6400000 in
set_option maxRecDepth 100000 in
theorem xSlots5_c {H : AuH} {n c : Nat} (HV : HeapV H n c) (ad : Addr) (b : Bool) (hb : b = true ↔ H.R5) (w : World) (hv : IsVals w ad n H.V) :
  Calls Tryz.prog 72 #[hpV H ad n c] w fun e w' => e = .returned (.bool b) /\ Below w.heap.size w w' := by
 have HVL := hidp hv
 have HX0 := hidp (Held.new w 96 #[.int .i64 (H.t : Int), .int .i64 (H.p : Int), .int .i64 (H.s : Int), .slice (some ad) n c])
 obtain ⟨c0, c1, c2, c3⟩ := HX0.out.four
 have HBW := hidp (Bnew (B0 w) (.cells #[.int .i64 (H.t : Int), .int .i64 (H.p : Int), .int .i64 (H.s : Int), .slice (some ad) n c] 96))
 have hn := HV.nums
 have hcx : c <= 9223372036854775807 := hn.2.2.2.2.2.2.2.2
 have hni : n <= 6238 := hn.2.2.2.2.2.2.1
 have hnc := HV.cap
 have hp1 := hn.2.2.2.1
 have HBC := hidp hb
 clear hv hn hb
 unfold hpV
 go_enter Tryz.func72, Tryz.ntmps72
 go_wp2_with fail
 go_loopw [3] (fun u3 wr => ∃ (p : Nat), p <= H.p /\ u3 = .int .i64 (p : Int) /\ Hid (∀ q, q < p -> H.Slot5 q) /\ Hid (Held wr w.heap.size 96 #[.int .i64 (H.t : Int), .int .i64 (H.p : Int), .int .i64 (H.s : Int), .slice (some ad) n c]) /\ Hid (Below w.heap.size w wr)) (fun u3 _ => H.p - (intOf u3).toNat)
 case atStart => exact ⟨0, by omega, rfl, hidp (fun q h => by omega), HX0, HBW⟩
 case round =>
  clear c0 c1 c2 c3 HX0 HBW
  obtain ⟨p, hp, rfl, HSO, HX, HB⟩ := hrel
  obtain ⟨c0, c1, c2, c3⟩ := HX.out.four
  by_cases hlt : p < H.p
  ·have t0 : decide ((p : Int) < H.p) = true := decide_eq_true (by omega)
   have HVR := hidp (HVL.out.below HB.out)
   have h4 := AuH.slot5_iff (H := H) p (HV.cel_lt hlt (show 4 < 6 by omega)) (HV.cel_lt hlt (show 5 < 6 by omega))
   obtain ⟨sv, hsv⟩ : ∃ v, H.cel p 4 = v := ⟨_, rfl⟩
   obtain ⟨tv, htv⟩ : ∃ v, H.cel p 5 = v := ⟨_, rfl⟩
   have HSV := hidp hsv
   have HTV := hidp htv
   have hs32 := HV.cel_lt hlt (show 4 < 6 by omega)
   have ht32 := HV.cel_lt hlt (show 5 < 6 by omega)
   rw [hsv] at hs32
   rw [htv] at ht32 h4
   have hkc := H.K_cases p
   obtain ⟨kk, hkk⟩ : ∃ k, H.K p = k := ⟨_, rfl⟩
   obtain ⟨m, hmm⟩ : ∃ m, H.ln p = m := ⟨_, rfl⟩
   obtain ⟨cl, hcl⟩ : ∃ k, H.Cl p = k := ⟨_, rfl⟩
   have HK := hidp hkk
   have HM := hidp hmm
   have HCL := hidp hcl
   rw [hkk, hmm, hcl] at hkc
   rw [hkk] at h4
   obtain ⟨sl, hsl⟩ : ∃ s, slotI cl = s := ⟨_, rfl⟩
   have HSL := hidp hsl
   have HH4 := hidp h4
   have HBAD : Hid (∀ j, H.SlotBad p j ↔ (sv.testBit j = true /\ tv.testBit j = false) \/ (tv.testBit j = true /\ (kk ≠ 3 \/ sl <= j))) := hidp (fun j => by unfold AuH.SlotBad; rw [hsv, htv, hkk, hcl, hsl])
   have HNB : Hid (H.R5 -> ∀ j, j < 32 -> ¬ H.SlotBad p j) := hidp (fun h => (h4.1 (h p hlt)).1)
   have HNZ : Hid (H.R5 -> ¬ (kk = 3 /\ tv = 0)) := hidp (fun h => (h4.1 (h p hlt)).2)
   clear hsv htv hkk hmm hcl h4 hsl
   go_wp2_with (first
    | (go_at_call 78; refine (xInfo_c HV ad hlt _ HVR.out).mono ?_; rintro e w2 ⟨rfl, hb2⟩; rw [HK.out, HM.out, HCL.out]; have HB2 := hidp (Bnew (Bgo HB.out hb2) (.cells #[.int .i64 kk, .int .i64 (m : Int), .int .i64 cl] 76)); have HX2 := hidp ((HX.out.keep hb2).alloc (.cells #[.int .i64 kk, .int .i64 (m : Int), .int .i64 cl] 76)); have HI2 := hidp (Held.new w2 76 #[.int .i64 kk, .int .i64 (m : Int), .int .i64 cl]); clear hb2 c0 c1 c2 c3)
    | fail)
   generalize hg2 : w2.heap.size = g2 at *
   generalize w2.alloc (.cells #[.int .i64 kk, .int .i64 (m : Int), .int .i64 cl] 76) = w3 at *
   clear hg2 HX HB HVR
   clear wr
   go_loopw [5] (fun u5 wr => ∃ (k : Nat), k <= 32 /\ u5 = .int .i64 (k : Int) /\ Hid (∀ j, j < k -> ¬ H.SlotBad p j) /\ Hid (Held wr w.heap.size 96 #[.int .i64 (H.t : Int), .int .i64 (H.p : Int), .int .i64 (H.s : Int), .slice (some ad) n c]) /\ Hid (Held wr g2 76 #[.int .i64 kk, .int .i64 (m : Int), .int .i64 cl]) /\ Hid (Below w.heap.size w wr)) (fun u5 _ => 32 - (intOf u5).toNat)
   case atStart => exact ⟨0, by omega, rfl, hidp (fun j h => by omega), HX2, HI2, HB2⟩
   case round =>
    clear HX2 HI2 HB2
    obtain ⟨k, hk, rfl, HOK, HX, HI, HB⟩ := hrel
    obtain ⟨c0, c1, c2, c3⟩ := HX.out.four
    by_cases hk32 : k < 32
    ·have t1 : decide ((k : Int) < 32) = true := decide_eq_true (by omega)
     obtain ⟨bl, hbl⟩ : ∃ x, sv.testBit ((k : Int)).toNat = x := ⟨_, rfl⟩
     obtain ⟨bt, hbt⟩ : ∃ x, tv.testBit ((k : Int)).toNat = x := ⟨_, rfl⟩
     have HBL := hidp hbl
     have HBT := hidp hbt
     rw [Int.toNat_natCast] at hbl hbt
     have hbd := HBAD.out k
     rw [hbl, hbt] at hbd
     have HBD := hidp (And.intro hbd.1 hbd.2)
     clear hbl hbt hbd
     go_wp2_with fail
     refine wp_region_held_drew (S := (fun w' => w'.cell? ⟨w.heap.size, 0, none⟩ = some (.int .i64 (H.t : Int)) /\ w'.cell? ⟨w.heap.size, 1, none⟩ = some (.int .i64 (H.p : Int)) /\ w'.cell? ⟨w.heap.size, 2, none⟩ = some (.int .i64 (H.s : Int)) /\ w'.cell? ⟨w.heap.size, 3, none⟩ = some (.slice (some ad) n c))) (by kernel_rfl) ?_ (fun hHeld => ?_)
     ·(try dsimp only)
      first | exact HX.out.drew.four | exact HX3.out.four | exact HX4.out.four | exact hHeld
     refine tkz 0 ?_
     refine tkz 1 ?_
     refine tkz 3 ?_
     refine tkz 5 ?_
     refine tkz 6 ?_
     refine tkz 8 ?_
     refine rdz 2 fun K hK => ?_
     go_simp
     (go_at_call 93; refine (xSlots_c HV ad hlt _ (HVL.out.below HB.out).drew).mono ?_; rintro e w3 ⟨rfl, hb3⟩; rw [HSV.out]; have HB3 := hidp (Bgo (Bdrew HB.out) hb3); have HX3 := hidp (HX.out.drew.keep hb3); have HI3 := hidp (HI.out.drew.keep hb3); clear hb3)
     refine hK.out _ _ ?_ (fun hHeld => ?_)
     ·(try dsimp only)
      first | exact HX.out.drew.four | exact HX3.out.four | exact HX4.out.four | exact hHeld
     clear hK K
     (try simp only [Act.put, gA, gB, gC, sA, sB, sC])
     refine rdz 4 fun K hK => ?_
     go_simp
     (go_at_call 92; refine (Bit_c sv (k : Int) bl hs32 (by omega) (by omega) HBL.out _).mono ?_; rintro e w9 ⟨rfl, rfl⟩)
     refine hK.out _ _ ?_ (fun hHeld => ?_)
     ·(try dsimp only)
      first | exact HX.out.drew.four | exact HX3.out.four | exact HX4.out.four | exact hHeld
     clear hK K
     (try simp only [Act.put, gA, gB, gC, sA, sB, sC])
     refine rdz 7 fun K hK => ?_
     go_simp
     (go_at_call 94; refine (xTaken_c HV ad hlt _ (HVL.out.below HB3.out)).mono ?_; rintro e w4 ⟨rfl, hb4⟩; rw [HTV.out]; have HB4 := hidp (Bgo HB3.out hb4); have HX4 := hidp (HX3.out.keep hb4); have HI4 := hidp (HI3.out.keep hb4); clear hb4)
     refine hK.out _ _ ?_ (fun hHeld => ?_)
     ·(try dsimp only)
      first | exact HX.out.drew.four | exact HX3.out.four | exact HX4.out.four | exact hHeld
     clear hK K
     (try simp only [Act.put, gA, gB, gC, sA, sB, sC])
     refine rdz 9 fun K hK => ?_
     go_simp
     (go_at_call 92; refine (Bit_c tv (k : Int) bt ht32 (by omega) (by omega) HBT.out _).mono ?_; rintro e w9 ⟨rfl, rfl⟩)
     refine hK.out _ _ ?_ (fun hHeld => ?_)
     ·(try dsimp only)
      first | exact HX.out.drew.four | exact HX3.out.four | exact HX4.out.four | exact hHeld
     clear hK K
     (try simp only [Act.put, gA, gB, gC, sA, sB, sC])
     refine tkz 10 ?_
     refine tkz 11 ?_
     refine dnz ?_
     clear c0 c1 c2 c3
     obtain ⟨c0, c1, c2, c3⟩ := HX4.out.four
     obtain ⟨d0, d1, d2⟩ := HI4.out.three
     cases bt
     ·cases bl
      ·have HOK1 : Hid (∀ j, j < k + 1 -> ¬ H.SlotBad p j) := hidp (fun j hj => by
        rcases Nat.lt_or_ge j k with h | h
        ·exact HOK.out j h
        ·obtain rfl : j = k := by omega
         exact fun hh => by have := HBD.out.1 hh; simp at this)
       go_wp2_with fail
       go_roundw
       case rel => exact ⟨k + 1, by omega, by go_num, HOK1, HX4, HI4, HB4⟩
       case measure => simp [intOf]; omega
      ·have HBF : Hid (b = false) := hidp (bool_no HBC.out (fun h => HNB.out h k hk32 (HBD.out.2 (.inl ⟨rfl, rfl⟩))))
       go_wp2_with fail
       go_ret
       exact ⟨by rw [HBF.out]; rfl, HB4.out⟩
     ·by_cases hk3 : kk = 3
      ·have q0 : (kk != 3) = false := by simpa using hk3
       by_cases hsk : sl <= k
       ·have q1 : decide ((sl : Int) <= k) = true := decide_eq_true (by omega)
        have q2 : decide (sl <= k) = true := decide_eq_true hsk
        have HBF : Hid (b = false) := hidp (bool_no HBC.out (fun h => HNB.out h k hk32 (HBD.out.2 (.inr ⟨rfl, .inr hsk⟩))))
        cases bl
        ·go_wp2_with (first
          | (go_at_call 49; refine (r5Slots_c cl (by omega) (by omega) _).mono ?_; rintro e w9 ⟨rfl, rfl⟩; rw [HSL.out])
          | fail)
         go_ret
         exact ⟨by rw [HBF.out]; rfl, HB4.out⟩
        ·go_wp2_with (first
          | (go_at_call 49; refine (r5Slots_c cl (by omega) (by omega) _).mono ?_; rintro e w9 ⟨rfl, rfl⟩; rw [HSL.out])
          | fail)
         go_ret
         exact ⟨by rw [HBF.out]; rfl, HB4.out⟩
       ·have q1 : decide ((sl : Int) <= k) = false := decide_eq_false (by omega)
        have q2 : decide (sl <= k) = false := decide_eq_false hsk
        have HOK1 : Hid (∀ j, j < k + 1 -> ¬ H.SlotBad p j) := hidp (fun j hj => by
         rcases Nat.lt_or_ge j k with h | h
         ·exact HOK.out j h
         ·obtain rfl : j = k := by omega
          rintro hh
          rcases HBD.out.1 hh with ⟨_, h2⟩ | ⟨_, h2 | h2⟩
          ·cases h2
          ·exact h2 hk3
          ·exact hsk h2)
        clear hk3
        cases bl
        ·go_wp2_with (first
          | (go_at_call 49; refine (r5Slots_c cl (by omega) (by omega) _).mono ?_; rintro e w9 ⟨rfl, rfl⟩; rw [HSL.out])
          | fail)
         go_roundw
         case rel => exact ⟨k + 1, by omega, by go_num, HOK1, HX4, HI4, HB4⟩
         case measure => simp [intOf]; omega
        ·go_wp2_with (first
          | (go_at_call 49; refine (r5Slots_c cl (by omega) (by omega) _).mono ?_; rintro e w9 ⟨rfl, rfl⟩; rw [HSL.out])
          | fail)
         go_roundw
         case rel => exact ⟨k + 1, by omega, by go_num, HOK1, HX4, HI4, HB4⟩
         case measure => simp [intOf]; omega
      ·have q0 : (kk != 3) = true := by simpa using hk3
       have HBF : Hid (b = false) := hidp (bool_no HBC.out (fun h => HNB.out h k hk32 (HBD.out.2 (.inr ⟨rfl, .inl hk3⟩))))
       clear hk3
       cases bl
       ·go_wp2_with fail
        go_ret
        exact ⟨by rw [HBF.out]; rfl, HB4.out⟩
       ·go_wp2_with fail
        go_ret
        exact ⟨by rw [HBF.out]; rfl, HB4.out⟩
    ·have t1 : decide ((k : Int) < 32) = false := decide_eq_false (by omega)
     have hke : k = 32 := by omega
     have HOE : Hid (∀ j, j < 32 -> ¬ H.SlotBad p j) := hidp (fun j hj => HOK.out j (by omega))
     obtain ⟨d0, d1, d2⟩ := HI.out.three
     have HST : Hid (¬ (kk = 3 /\ tv = 0) -> ∀ q, q < p + 1 -> H.Slot5 q) := hidp (fun h q hq => by
      rcases Nat.lt_or_ge q p with h1 | h1
      ·exact HSO.out q h1
      ·obtain rfl : q = p := by omega
       exact HH4.out.2 ⟨HOE.out, h⟩)
     by_cases hk3 : kk = 3
     ·have q0 : (kk == 3) = true := by simpa using hk3
      by_cases htz : tv = 0
      ·have q1 : ((tv : Int) == 0) = true := by simp; omega
       have HBF : Hid (b = false) := hidp (bool_no HBC.out (fun h => HNZ.out h ⟨hk3, htz⟩))
       clear hk3 htz
       go_wp2_with (first
        | (go_at_call 94; refine (xTaken_c HV ad hlt _ (HVL.out.below HB.out)).mono ?_; rintro e w4 ⟨rfl, hb4⟩; rw [HTV.out]; have HB4 := hidp (Bgo HB.out hb4); have HX4 := hidp (HX.out.keep hb4); clear hb4)
        | fail)
       go_ret
       exact ⟨by rw [HBF.out]; rfl, HB4.out⟩
      ·have q1 : ((tv : Int) == 0) = false := by simp; omega
       have HS1 := hidp (HST.out (fun h => htz h.2))
       clear hk3 htz
       go_wp2_with (first
        | (go_at_call 94; refine (xTaken_c HV ad hlt _ (HVL.out.below HB.out)).mono ?_; rintro e w4 ⟨rfl, hb4⟩; rw [HTV.out]; have HB4 := hidp (Bgo HB.out hb4); have HX4 := hidp (HX.out.keep hb4); clear hb4)
        | fail)
       go_roundw
       case rel => exact ⟨p + 1, by omega, by go_num, HS1, HX4, HB4⟩
       case measure => simp [intOf]; omega
     ·have q0 : (kk == 3) = false := by simpa using hk3
      have HS1 := hidp (HST.out (fun h => hk3 h.1))
      clear hk3
      go_wp2_with fail
      go_roundw
      case rel => exact ⟨p + 1, by omega, by go_num, HS1, HX, HB⟩
      case measure => simp [intOf]; omega
  ·have t0 : decide ((p : Int) < H.p) = false := decide_eq_false (by omega)
   have HBT : Hid (b = true) := hidp (HBC.out.2 (fun q hq => HSO.out q (by omega)))
   go_wp2_with fail
   go_ret
   exact ⟨by rw [HBT.out]; rfl, HB.out⟩
end
section
theorem own_caps0 {w : World} {base : Nat} {e : TypeId} {size n c : Nat} {A : Option Addr} {xs : List Value} (h : w.ownsRow base e size (.slice A n c) n xs) : n <= c /\ c <= 9223372036854775807 := by
 rcases h.2 with ⟨h1, h2⟩ | ⟨g, cap, cur, h1, hb, hg, hnc, hcm, hr⟩
 ·injection h1 with _ h1 h3; omega
 ·injection h1 with _ _ h3; unfold maxLen at hcm; omega
def ListEnd (H : AuH) (head : Nat) (w : World) (e : Ending) (w' : World) : Prop := ∃ u b, e = .returned (.tuple #[u, .bool b]) /\ (b = true -> ∃ l a, H.Path head l 0 a /\ l.length <= 1024 /\ w'.ownsRow w.heap.size 3 1 u l.length (natVs l)) /\ (b = false -> ¬ H.ListOk head) /\ Below w.heap.size w w'

set_option maxHeartbeats 6400000 in
set_option maxRecDepth 100000 in
theorem xList_c {H : AuH} {n c : Nat} (HV : HeapV H n c) (ad : Addr) (hd : Nat) (hh : hd < 30) (w : World) (hv : IsVals w ad n H.V) :
    Calls Tryz.prog 95 #[hpV H ad n c, .int .i64 (hd : Int)] w (ListEnd H hd w) := by
  have HVL := hidp hv
  have HX0 := hidp ((Held.new w 96 #[.int .i64 (H.t : Int), .int .i64 (H.p : Int), .int .i64 (H.s : Int), .slice (some ad) n c]).alloc (.cells #[] 3))
  obtain ⟨c0, c1, c2, c3⟩ := HX0.out.four
  have HBW := hidp (Bnew (Bnew (B0 w) (.cells #[.int .i64 (H.t : Int), .int .i64 (H.p : Int), .int .i64 (H.s : Int), .slice (some ad) n c] 96)) (.cells #[] 3))
  have HOW : Hid (((w.alloc (.cells #[.int .i64 (H.t : Int), .int .i64 (H.p : Int), .int .i64 (H.s : Int), .slice (some ad) n c] 96)).alloc (.cells #[] 3)).ownsRow (w.heap.size + 1) 3 1 (.slice (some ⟨(w.alloc (.cells #[.int .i64 (H.t : Int), .int .i64 (H.p : Int), .int .i64 (H.s : Int), .slice (some ad) n c] 96)).heap.size, 0, none⟩) 0 0) 0 []) := hidp (World.ownsRow_lit (base := (w.heap.size + 1)) (e := 3) (size := 1) (w.alloc (.cells #[.int .i64 (H.t : Int), .int .i64 (H.p : Int), .int .i64 (H.s : Int), .slice (some ad) n c] 96)) #[] 0 (by simp) (by unfold maxLen; omega) rfl)
  obtain ⟨i0, hi0, hz0, hz1, hz2⟩ := info_parts intInfo
  have hn := HV.nums
  have hcx : c <= 9223372036854775807 := hn.2.2.2.2.2.2.2.2
  have hni : n <= 6238 := hn.2.2.2.2.2.2.1
  have hnc := HV.cap
  have hp1 := hn.2.2.2.1
  have hhn : hd < n := by have := HV.len; omega
  have hv0 := (HVL.out.below HBW.out).2 hd hhn
  obtain ⟨v0, hvv0⟩ : ∃ v, H.V hd = v := ⟨_, rfl⟩
  have HP0 : Hid (H.Path hd [] v0 0) := hidp (by rw [<- hvv0]; exact .nil)
  have hv32 := HV.lt hd hhn
  rw [hvv0] at hv0 hv32
  clear hv hn hvv0
  unfold hpV
  go_enter Tryz.func95, Tryz.ntmps95
  go_wp2_with fail
  rw [World.size_alloc] at HOW
  generalize (w.alloc (.cells #[.int .i64 (H.t : Int), .int .i64 (H.p : Int), .int .i64 (H.s : Int), .slice (some ad) n c] 96)).alloc (.cells #[] 3) = W0 at *
  clear c0 c1 c2 c3 hv0
  go_loopw [6, 7, 8] (fun u6 u7 u8 wr => ∃ (q a : Nat) (l : List Nat) (nl : Nat), u7 = .int .u32 (q : Int) /\ u8 = .int .u32 (a : Int) /\ q < 2 ^ 32 /\ a < 2 ^ 32 /\ Hid (H.Path hd l q a) /\ nl <= H.p /\ Hid (l.length = nl) /\ Hid (wr.ownsRow (w.heap.size + 1) 3 1 u6 nl (natVs l)) /\ (∃ A c, u6 = .slice A nl c /\ nl <= c /\ c <= 9223372036854775807) /\ Hid (Held wr w.heap.size 96 #[.int .i64 (H.t : Int), .int .i64 (H.p : Int), .int .i64 (H.s : Int), .slice (some ad) n c]) /\ Hid (Below w.heap.size w wr)) (fun u6 _ _ _ => H.p - (match u6 with | .slice _ k _ => k | _ => 0))
  case atStart => exact ⟨v0, 0, [], 0, rfl, rfl, hv32, by omega, HP0, by omega, hidp rfl, HOW, ⟨_, _, rfl, by omega, by omega⟩, HX0, HBW⟩
  case round =>
    clear HOW HX0 HBW HP0
    obtain ⟨q, a, l, nl, rfl, rfl, hq32, ha32, HPA, hnl, HLN, HO, ⟨Au, cu, rfl, hcu0, hcu⟩, HX, HB⟩ := hrel
    obtain ⟨c0, c1, c2, c3⟩ := HX.out.four
    by_cases hq0 : q = 0
    · have q0 : ((q : Int) != 0) = false := by simp; omega
      have HQZ := hidp hq0
      clear hq0
      go_wp2_with fail
      go_ret2
      refine ⟨_, true, rfl, fun _ => ⟨l, a, ?_, by have := HLN.out; omega, by rw [HLN.out]; exact own_down HO.out (by omega)⟩, fun h => (by cases h), HB.out⟩
      have := HPA.out
      rwa [HQZ.out] at this
    · have q0 : ((q : Int) != 0) = true := by simp; omega
      have HGO : Hid (H.ListOk hd -> 1 <= q /\ q <= H.p /\ H.cel (q - 1) 3 = a /\ l.length < H.p) := hidp (fun h => AuH.listOk_goes h HPA.out hq0)
      have wq : IntKind.i64.wrap (q : Int) = (q : Int) := i64_same (by omega) (by omega)
      by_cases hqp : q <= H.p
      · have t1 : decide ((q : Int) > H.p) = false := decide_eq_false (by omega)
        have t1b : decide ((H.p : Int) < q) = false := decide_eq_false (by omega)
        by_cases hlp : nl < H.p
        · have t2 : decide ((H.p : Int) <= nl) = false := decide_eq_false (by omega)
          have t2b : ¬ H.p <= nl := by omega
          obtain ⟨p, hp⟩ : ∃ p, q = p + 1 := ⟨q - 1, by omega⟩
          have hlt : p < H.p := by omega
          have sw : IntKind.i64.wrap ((q : Int) - 1) = (p : Int) := by rw [i64_same (by omega) (by omega)]; omega
          have HVR := hidp (HVL.out.below HB.out)
          have hqm : q - 1 = p := by omega
          have HPQ := hidp hp
          obtain ⟨i, hii⟩ : ∃ i, 30 + 4 * H.t + 6 * p + 3 = i := ⟨_, rfl⟩
          have hini : i < n := by have := HV.len; omega
          have HI : Hid (pageI H.t H.p H.s p 3 = (i : Int)) := hidp (by have h := HV.page (b := 3) hlt (by omega); rw [hii] at h; exact h)
          have h32i := HV.cel_lt hlt (show 3 < 6 by omega)
          have hceli : H.cel p 3 = H.V i := by unfold AuH.cel; rw [hii]
          obtain ⟨v, hvvv⟩ : ∃ v, H.cel p 3 = v := ⟨_, rfl⟩
          have HCv := hidp hvvv
          rw [hvvv] at h32i
          have hci := (HVR.out).2 i hini
          rw [<- hceli, hvvv] at hci
          have hbli : (ad.add i).block < wr.heap.size := by rw [block_of_add]; exact (HVR.out).1
          have HS : Hid (∀ w', Below wr.heap.size wr w' -> (fun w' => w'.cell? ⟨w.heap.size, 0, none⟩ = some (.int .i64 (H.t : Int)) /\ w'.cell? ⟨w.heap.size, 1, none⟩ = some (.int .i64 (H.p : Int)) /\ w'.cell? ⟨w.heap.size, 2, none⟩ = some (.int .i64 (H.s : Int)) /\ w'.cell? ⟨w.heap.size, 3, none⟩ = some (.slice (some ad) n c) /\ w'.cell? (ad.add i) = some (.int .u32 (v : Int))) w') := hidp (fun w' hb => by have hh := HX.out.keep hb; exact ⟨hh.four.1, hh.four.2.1, hh.four.2.2.1, hh.four.2.2.2, (hb.cell hbli).trans hci⟩)
          rw [hqm, hvvv] at HGO
          clear hci hbli hceli hvvv hii hqm hp
          by_cases hva : v = a
          · have q1 : ((v : Int) != (a : Int)) = false := by simp; omega
            have HPN : Hid (∀ v2, H.cel p 2 = v2 -> H.Path hd (l ++ [p]) v2 q) := hidp (fun v2 hv2 => by
              have h := AuH.Path.snoc HPA.out (by have := HPQ.out; omega) hqp (by rw [show q - 1 = p by have := HPQ.out; omega, HCv.out]; exact hva)
              rwa [show q - 1 = p by have := HPQ.out; omega, hv2] at h)
            clear hva HGO
            go_wp2_with fail
            refine wp_region_held_drew (S := (fun w' => w'.cell? ⟨w.heap.size, 0, none⟩ = some (.int .i64 (H.t : Int)) /\ w'.cell? ⟨w.heap.size, 1, none⟩ = some (.int .i64 (H.p : Int)) /\ w'.cell? ⟨w.heap.size, 2, none⟩ = some (.int .i64 (H.s : Int)) /\ w'.cell? ⟨w.heap.size, 3, none⟩ = some (.slice (some ad) n c) /\ w'.cell? (ad.add i) = some (.int .u32 (v : Int)))) (by kernel_rfl) ?_ (fun hHeld => ?_)
            · (try dsimp only)
              first | exact HS.out _ (Bdrew (B0 _)) | exact HS.out _ HB5r.out | exact hHeld
            refine tkz 0 ?_
            refine tkz 1 ?_
            refine tkz 2 ?_
            refine tkz 3 ?_
            refine tkz 4 ?_
            refine tkz 8 ?_
            refine rdz 5 fun K hK => ?_
            go_simp
            (go_at_call 103; refine (r7Prev_c _ _ _ _ _).mono ?_; rintro e w5 ⟨rfl, hb5⟩; rw [HI.out]; have HB5 := hidp (Bgo (Bdrew HB.out) hb5); have HB5r := hidp (Bgo (Bdrew (B0 wr)) hb5); have HX5 := hidp (HX.out.drew.keep hb5); have HO5 := hidp (own_below HO.out.drew hb5); clear hb5)
            refine hK.out _ _ ?_ (fun hHeld => ?_)
            · (try dsimp only)
              first | exact HS.out _ (Bdrew (B0 _)) | exact HS.out _ HB5r.out | exact hHeld
            clear hK K
            (try simp only [Act.put, gA, gB, gC, sA, sB, sC])
            refine tkz 6 ?_
            refine tkz 7 ?_
            refine tkz 9 ?_
            refine dnz ?_
            obtain ⟨c0, c1, c2, c3⟩ := HX5.out.four
            generalize hu6 : (Value.slice Au nl cu) = u6 at *
            go_wp2_with (first
              | (at_builtin
                 refine wpList_append_own _ rfl _ _ 81 rfl (w.heap.size + 1) 3 i0 (.int .i64 0) 1 8 Tryz.underlying81 hi0 hz0 hz1 hz2 rfl (by decide) _ _ _ rfl (HO5.out.alloc _) ⟨_, 0, none⟩ 1 1 [.int .i64 (p : Int)] rfl rfl ?c1 ?c2 ?c3 ?c4 ?c5 ?_
                 case c1 => intro j y hy; rcases j with _ | j; (· simp at hy; subst hy; simp [Addr.add]); (· simp at hy)
                 case c2 => simp [Value.oneCell']
                 case c3 => unfold maxLen; omega
                 case c4 => omega
                 case c5 => have := HB5.out.size; have := HX5.out.lt; simp; omega
                 intro u1 w6 hown6 hgrow hat6
                 have HO6 : Hid (w6.ownsRow (w.heap.size + 1) 3 1 u1 (nl + 1) (natVs (l ++ [p]))) := hidp (by rw [natVs_snoc]; exact hown6)
                 have hnb : ∀ j, u6.ownBlock = some j -> (w.heap.size + 1) <= j := fun j hj => (HO5.out.lt j hj).1
                 have HB6 := hidp ((Bnew HB5.out (.cells #[.int .i64 (p : Int)] 3)).grown hgrow (by have := HB5.out.size; simp; omega) (fun j hj => by have := hnb j hj; omega))
                 have HX6 := hidp (held_grown (HX5.out.alloc (.cells #[.int .i64 (p : Int)] 3)) hgrow (fun e => by have := hnb _ e; omega))
                 clear hown6 hgrow hat6 hnb c0 c1 c2 c3
                 obtain ⟨c0, c1, c2, c3⟩ := HX6.out.four)
              | fail)
            obtain ⟨i2, hii2⟩ : ∃ i2, 30 + 4 * H.t + 6 * p + 2 = i2 := ⟨_, rfl⟩
            have hini2 : i2 < n := by have := HV.len; omega
            have HI2 : Hid (pageI H.t H.p H.s p 2 = (i2 : Int)) := hidp (by have h := HV.page (b := 2) hlt (by omega); rw [hii2] at h; exact h)
            have h32i2 := HV.cel_lt hlt (show 2 < 6 by omega)
            have hceli2 : H.cel p 2 = H.V i2 := by unfold AuH.cel; rw [hii2]
            obtain ⟨v2, hvvv2⟩ : ∃ v2, H.cel p 2 = v2 := ⟨_, rfl⟩
            have HCv2 := hidp hvvv2
            rw [hvvv2] at h32i2
            have HV6 := hidp (HVL.out.below HB6.out)
            have hci2 := (HV6.out).2 i2 hini2
            rw [<- hceli2, hvvv2] at hci2
            have hbli2 : (ad.add i2).block < w6.heap.size := by rw [block_of_add]; exact (HV6.out).1
            have HS2 : Hid (∀ w', Below w6.heap.size w6 w' -> (fun w' => w'.cell? ⟨w.heap.size, 0, none⟩ = some (.int .i64 (H.t : Int)) /\ w'.cell? ⟨w.heap.size, 1, none⟩ = some (.int .i64 (H.p : Int)) /\ w'.cell? ⟨w.heap.size, 2, none⟩ = some (.int .i64 (H.s : Int)) /\ w'.cell? ⟨w.heap.size, 3, none⟩ = some (.slice (some ad) n c) /\ w'.cell? (ad.add i2) = some (.int .u32 (v2 : Int))) w') := hidp (fun w' hb => by have hh := HX6.out.keep hb; exact ⟨hh.four.1, hh.four.2.1, hh.four.2.2.1, hh.four.2.2.2, (hb.cell hbli2).trans hci2⟩)
            have HPV := hidp (HPN.out v2 hvvv2)
            clear hci2 hbli2 hceli2 hvvv2 hii2 HPN
            refine wp_region_held_drew (S := (fun w' => w'.cell? ⟨w.heap.size, 0, none⟩ = some (.int .i64 (H.t : Int)) /\ w'.cell? ⟨w.heap.size, 1, none⟩ = some (.int .i64 (H.p : Int)) /\ w'.cell? ⟨w.heap.size, 2, none⟩ = some (.int .i64 (H.s : Int)) /\ w'.cell? ⟨w.heap.size, 3, none⟩ = some (.slice (some ad) n c) /\ w'.cell? (ad.add i2) = some (.int .u32 (v2 : Int)))) (by kernel_rfl) ?_ (fun hHeld => ?_)
            · (try dsimp only)
              first | exact HS2.out _ (Bdrew (B0 _)) | exact HS2.out _ HB7r.out | exact hHeld
            refine tkz 0 ?_
            refine tkz 1 ?_
            refine tkz 2 ?_
            refine tkz 3 ?_
            refine tkz 4 ?_
            refine rdz 5 fun K hK => ?_
            go_simp
            (go_at_call 102; refine (r7Next_c _ _ _ _ _).mono ?_; rintro e w7 ⟨rfl, hb7⟩; rw [HI2.out]; have HB7 := hidp (Bgo (Bdrew HB6.out) hb7); have HB7r := hidp (Bgo (Bdrew (B0 w6)) hb7); have HX7 := hidp (HX6.out.drew.keep hb7); have HO7 := hidp (own_below HO6.out.drew hb7); clear hb7)
            refine hK.out _ _ ?_ (fun hHeld => ?_)
            · (try dsimp only)
              first | exact HS2.out _ (Bdrew (B0 _)) | exact HS2.out _ HB7r.out | exact hHeld
            clear hK K
            (try simp only [Act.put, gA, gB, gC, sA, sB, sC])
            refine tkz 6 ?_
            refine tkz 7 ?_
            refine tkz 8 ?_
            refine dnz ?_
            obtain ⟨A1, cc1, hu1⟩ := own_slice HO6.out
            subst hu1
            have hcc := own_caps0 HO6.out
            go_wp2_with fail
            subst hu6
            go_roundw
            case rel => exact ⟨v2, q, l ++ [p], nl + 1, by go_num, by go_num, h32i2, hq32, hidp HPV.out, by omega, hidp (by rw [List.length_append, HLN.out]; rfl), HO7, ⟨_, _, rfl, hcc.1, hcc.2⟩, HX7, HB7⟩
            case measure => simp; omega
          · have q1 : ((v : Int) != (a : Int)) = true := by simp; omega
            have HNO : Hid (¬ H.ListOk hd) := hidp (fun h => hva (HGO.out h).2.2.1)
            clear hva HGO
            go_wp2_with fail
            refine wp_region_held_drew (S := (fun w' => w'.cell? ⟨w.heap.size, 0, none⟩ = some (.int .i64 (H.t : Int)) /\ w'.cell? ⟨w.heap.size, 1, none⟩ = some (.int .i64 (H.p : Int)) /\ w'.cell? ⟨w.heap.size, 2, none⟩ = some (.int .i64 (H.s : Int)) /\ w'.cell? ⟨w.heap.size, 3, none⟩ = some (.slice (some ad) n c) /\ w'.cell? (ad.add i) = some (.int .u32 (v : Int)))) (by kernel_rfl) ?_ (fun hHeld => ?_)
            · (try dsimp only)
              first | exact HS.out _ (Bdrew (B0 _)) | exact HS.out _ HB5r.out | exact hHeld
            refine tkz 0 ?_
            refine tkz 1 ?_
            refine tkz 2 ?_
            refine tkz 3 ?_
            refine tkz 4 ?_
            refine tkz 8 ?_
            refine rdz 5 fun K hK => ?_
            go_simp
            (go_at_call 103; refine (r7Prev_c _ _ _ _ _).mono ?_; rintro e w5 ⟨rfl, hb5⟩; rw [HI.out]; have HB5 := hidp (Bgo (Bdrew HB.out) hb5); have HB5r := hidp (Bgo (Bdrew (B0 wr)) hb5); have HX5 := hidp (HX.out.drew.keep hb5); have HO5 := hidp (own_below HO.out.drew hb5); clear hb5)
            refine hK.out _ _ ?_ (fun hHeld => ?_)
            · (try dsimp only)
              first | exact HS.out _ (Bdrew (B0 _)) | exact HS.out _ HB5r.out | exact hHeld
            clear hK K
            (try simp only [Act.put, gA, gB, gC, sA, sB, sC])
            refine tkz 6 ?_
            refine tkz 7 ?_
            refine tkz 9 ?_
            refine dnz ?_
            go_wp2_with fail
            go_ret2
            exact ⟨_, false, rfl, fun h => (by cases h), fun _ => HNO.out, HB5.out⟩
        · have t2 : decide ((H.p : Int) <= nl) = true := decide_eq_true (by omega)
          have t2b : H.p <= nl := by omega
          have HNO : Hid (¬ H.ListOk hd) := hidp (fun h => by have := (HGO.out h).2.2.2; have := HLN.out; omega)
          clear HGO
          go_wp2_with fail
          go_ret2
          exact ⟨_, false, rfl, fun h => (by cases h), fun _ => HNO.out, HB.out⟩
      · have t1 : decide ((q : Int) > H.p) = true := decide_eq_true (by omega)
        have t1b : decide ((H.p : Int) < q) = true := decide_eq_true (by omega)
        have HNO : Hid (¬ H.ListOk hd) := hidp (fun h => hqp (HGO.out h).2.1)
        clear HGO
        go_wp2_with fail
        go_ret2
        exact ⟨_, false, rfl, fun h => (by cases h), fun _ => HNO.out, HB.out⟩

set_option maxHeartbeats 1600000 in
theorem xIn_c (l : List Nat) (A : Option Addr) (nl cl q : Nat) (hq : q <= 1024) (hnl : nl <= 1024) (hcl : nl <= cl /\ cl <= 9223372036854775807) (hln : l.length = nl) (w : World) (hR : Reads w w.heap.size 1 A nl (natVs l)) :
  Calls Tryz.prog 98 #[.slice A nl cl, .int .i64 (q : Int)] w fun e w' => e = .returned (.int .i64 (AuH.cntIn l q : Nat)) /\ w = w' := by
 have HR := hidp hR
 have HLN := hidp hln
 have hcl1 := hcl.1
 have hcl2 := hcl.2
 clear hR hln hcl
 go_enter Tryz.func98, Tryz.ntmps98
 go_wp2_with fail
 go_loopw [5, 6] (fun u5 u6 wr => ∃ (k m : Nat), k <= nl /\ m <= k /\ u6 = .int .i64 (k : Int) /\ u5 = .int .i64 (m : Int) /\ Hid (AuH.cntIn (l.take k) q = m) /\ wr = w) (fun _ u6 _ => nl - (intOf u6).toNat)
 case atStart => exact ⟨0, 0, by omega, by omega, rfl, rfl, hidp rfl, rfl⟩
 case round =>
  obtain ⟨k, m, hk, hm, rfl, rfl, HC, rfl⟩ := hrel
  by_cases hlt : k < nl
  ·have t0 : decide ((k : Int) < nl) = true := decide_eq_true (by omega)
   obtain ⟨a, hi⟩ : ∃ a, l[k]? = some a := ⟨_, List.getElem?_eq_getElem (by have := HLN.out; omega)⟩
   obtain ⟨ad, u, rfl, hbl, hu, hc⟩ := HR.out.at_ hlt
   have hua : u = .int .i64 (a : Int) := by
    have := natVs_get hi
    rw [hu] at this
    simpa using this
   subst hua
   have HTK : Hid (l.take (k + 1) = l.take k ++ [a]) := hidp (by rw [List.take_add_one, hi]; rfl)
   clear hu hi
   by_cases haq : a = q
   ·have q0 : ((a : Int) == (q : Int)) = true := by simp; omega
    have HC1 : Hid (AuH.cntIn (l.take (k + 1)) q = m + 1) := hidp (by rw [HTK.out, AuH.cntIn_snoc, HC.out, if_pos haq])
    clear haq
    go_wp2_with fail
    go_roundw
    case rel => exact ⟨k + 1, m + 1, by omega, by omega, by go_num, by go_num, HC1, (by first | rfl | trivial)⟩
    case measure => simp [intOf]; omega
   ·have q0 : ((a : Int) == (q : Int)) = false := by simp; omega
    have HC1 : Hid (AuH.cntIn (l.take (k + 1)) q = m) := hidp (by rw [HTK.out, AuH.cntIn_snoc, HC.out, if_neg haq, Nat.add_zero])
    clear haq
    go_wp2_with fail
    go_roundw
    case rel => exact ⟨k + 1, m, by omega, by omega, by go_num, by go_num, HC1, (by first | rfl | trivial)⟩
    case measure => simp [intOf]; omega
  ·have t0 : decide ((k : Int) < nl) = false := decide_eq_false (by omega)
   have HE : Hid (AuH.cntIn l q = m) := hidp (by
    have h := HC.out
    rwa [List.take_of_length_le (by have := HLN.out; omega)] at h)
   go_wp2_with fail
   go_ret
   exact ⟨by rw [HE.out]; rfl, rfl⟩
end
section
set_option maxHeartbeats 1600000 in
theorem xFull_c (v : Nat) (k : Int) (hk0 : 0 <= k) (hk1 : k <= 8) (hv : v < 2 ^ slotI k) (b : Bool) (hb : b = true ↔ v = 2 ^ slotI k - 1) (w : World) :
  Calls Tryz.prog 101 #[.int .u32 (v : Int), .int .i64 k] w fun e w' => e = .returned (.bool b) /\ w = w' := by
 have hs := slotI_le k
 have hv32 : v < 2 ^ 32 := Nat.lt_of_lt_of_le hv (Nat.pow_le_pow_right (by omega) hs)
 have hf := AuH.ones_full hv hs
 obtain ⟨o, ho⟩ : ∃ o, HM.onesTo v 32 = o := ⟨_, rfl⟩
 obtain ⟨m, hm⟩ : ∃ m, slotI k = m := ⟨_, rfl⟩
 rw [ho, hm] at hf
 rw [hm] at hb
 have HO := hidp ho
 have HMM := hidp hm
 have t0 : ((o : Int) == (m : Int)) = b := by
  cases b
  ·have : ¬ o = m := fun h => by have := hb.2 (hf.1 h); cases this
   simp; omega
  ·have := hf.2 (hb.1 rfl)
   simp; omega
 clear hf hb ho hm hv hs
 go_enter Tryz.func101, Tryz.ntmps101
 go_wp2_with (first
  | (go_at_call 104; refine (ROnes_c v hv32 _).mono ?_; rintro e w1 ⟨rfl, rfl⟩; rw [HO.out])
  | (go_at_call 49; refine (r5Slots_c k (by omega) (by omega) _).mono ?_; rintro e w1 ⟨rfl, rfl⟩; rw [HMM.out])
  | fail)
 go_ret
 exact ⟨rfl, rfl⟩

set_option maxHeartbeats 1600000 in
theorem xBinned_c {H : AuH} {n c : Nat} (HV : HeapV H n c) (ad : Addr) {q : Nat} (hq : q < H.p) (k : Nat) (hk : k < 11) (b : Bool) (hb : b = true ↔ H.tgt q = 2 + (k : Int)) (w : World) (hv : IsVals w ad n H.V) :
  Calls Tryz.prog 97 #[hpV H ad n c, .int .i64 (q : Int), .int .i64 (k : Int)] w fun e w' => e = .returned (.bool b) /\ Below w.heap.size w w' := by
 have HVL := hidp hv
 have HX0 := hidp (Held.new w 96 #[.int .i64 (H.t : Int), .int .i64 (H.p : Int), .int .i64 (H.s : Int), .slice (some ad) n c])
 obtain ⟨c0, c1, c2, c3⟩ := HX0.out.four
 have HBW := hidp (Bnew (B0 w) (.cells #[.int .i64 (H.t : Int), .int .i64 (H.p : Int), .int .i64 (H.s : Int), .slice (some ad) n c] 96))
 have hkc := H.K_cases q
 obtain ⟨kk, hkk⟩ : ∃ k, H.K q = k := ⟨_, rfl⟩
 obtain ⟨m, hmm⟩ : ∃ m, H.ln q = m := ⟨_, rfl⟩
 obtain ⟨cl, hcl⟩ : ∃ k, H.Cl q = k := ⟨_, rfl⟩
 have HK := hidp hkk
 have HLM := hidp hmm
 have HCL := hidp hcl
 have HBC := hidp hb
 rw [hkk, hmm, hcl] at hkc
 by_cases h1 : kk = 1
 ·have ht := AuH.tgt_free (hkk.trans h1)
  rw [hmm] at ht
  obtain ⟨t, htt⟩ : ∃ t, HM.logI (m : Int) = t := ⟨_, rfl⟩
  rw [htt] at ht
  have HLG := hidp htt
  have q1 : (t == (k : Int)) = b := by
   rw [ht] at hb
   cases b
   ·have : ¬ t = (k : Int) := fun h => by have := hb.2 (by omega); cases this
    simpa using this
   ·have := hb.1 rfl
    simp; omega
  subst h1
  have hml : m <= 1024 := by omega
  clear hv hb hkk hmm hcl hkc ht htt
  unfold hpV
  go_enter Tryz.func97, Tryz.ntmps97
  go_wp2_with (first
   | (go_at_call 78; refine (xInfo_c HV ad hq _ (HVL.out.below HBW.out)).mono ?_; rintro e w2 ⟨rfl, hb2⟩; rw [HK.out, HLM.out, HCL.out]; have HB2 := hidp (Bnew (Bgo HBW.out hb2) (.cells #[.int .i64 1, .int .i64 (m : Int), .int .i64 cl] 76)); have HX2 := hidp ((HX0.out.keep hb2).alloc (.cells #[.int .i64 1, .int .i64 (m : Int), .int .i64 cl] 76)); clear hb2 c0 c1 c2 c3; obtain ⟨c0, c1, c2, c3⟩ := HX2.out.four; obtain ⟨d0, d1, d2⟩ := (Held.new w2 76 #[.int .i64 1, .int .i64 (m : Int), .int .i64 cl]).three)
   | (go_at_call 113; refine (RLog_c _ (by omega) (by omega) _).mono ?_; rintro e w3 ⟨rfl, rfl⟩; rw [HLG.out])
   | fail)
  go_ret
  exact ⟨rfl, HB2.out⟩
 ·have q0 : (kk == 1) = false := by simpa using h1
  have HBF : Hid (b = false) := hidp (bool_no hb (fun h => by
   unfold AuH.tgt at h
   rw [hkk, hcl, if_neg h1] at h
   split at h <;> omega))
  clear hv hb hkk hmm hcl hkc h1
  unfold hpV
  go_enter Tryz.func97, Tryz.ntmps97
  go_wp2_with (first
   | (go_at_call 78; refine (xInfo_c HV ad hq _ (HVL.out.below HBW.out)).mono ?_; rintro e w2 ⟨rfl, hb2⟩; rw [HK.out, HLM.out, HCL.out]; have HB2 := hidp (Bnew (Bgo HBW.out hb2) (.cells #[.int .i64 kk, .int .i64 (m : Int), .int .i64 cl] 76)); have HX2 := hidp ((HX0.out.keep hb2).alloc (.cells #[.int .i64 kk, .int .i64 (m : Int), .int .i64 cl] 76)); clear hb2 c0 c1 c2 c3; obtain ⟨c0, c1, c2, c3⟩ := HX2.out.four; obtain ⟨d0, d1, d2⟩ := (Held.new w2 76 #[.int .i64 kk, .int .i64 (m : Int), .int .i64 cl]).three)
   | fail)
  go_ret
  exact ⟨by rw [HBF.out]; rfl, HB2.out⟩

set_option maxHeartbeats 3200000 in
theorem xRacked_c {H : AuH} {n c : Nat} (HV : HeapV H n c) (ad : Addr) {q : Nat} (hq : q < H.p) (hs : H.Slot5 q) (k : Nat) (hk : k < 9) (b : Bool) (hb : b = true ↔ H.tgt q = 13 + (k : Int)) (w : World) (hv : IsVals w ad n H.V) :
  Calls Tryz.prog 100 #[hpV H ad n c, .int .i64 (q : Int), .int .i64 (k : Int)] w fun e w' => e = .returned (.bool b) /\ Below w.heap.size w w' := by
 have HVL := hidp hv
 have HX0 := hidp (Held.new w 96 #[.int .i64 (H.t : Int), .int .i64 (H.p : Int), .int .i64 (H.s : Int), .slice (some ad) n c])
 obtain ⟨c0, c1, c2, c3⟩ := HX0.out.four
 have HBW := hidp (Bnew (B0 w) (.cells #[.int .i64 (H.t : Int), .int .i64 (H.p : Int), .int .i64 (H.s : Int), .slice (some ad) n c] 96))
 have hkc := H.K_cases q
 obtain ⟨kk, hkk⟩ : ∃ k, H.K q = k := ⟨_, rfl⟩
 obtain ⟨m, hmm⟩ : ∃ m, H.ln q = m := ⟨_, rfl⟩
 obtain ⟨cl, hcl⟩ : ∃ k, H.Cl q = k := ⟨_, rfl⟩
 have HK := hidp hkk
 have HLM := hidp hmm
 have HCL := hidp hcl
 have HBC := hidp hb
 rw [hkk, hmm, hcl] at hkc
 by_cases h3 : kk = 3
 ·obtain ⟨h5a, h5b, h5c⟩ := hs.1 (hkk.trans h3)
  obtain ⟨tk, htk⟩ : ∃ t, H.cel q 5 = t := ⟨_, rfl⟩
  rw [htk, hcl] at h5b
  have HTK := hidp htk
  by_cases hck : cl = (k : Int)
  ·have q1 : (cl == (k : Int)) = true := by simpa using hck
   have HFU : Hid (∀ W, Calls Tryz.prog 101 #[.int .u32 (tk : Int), .int .i64 (k : Int)] W fun e w' => e = .returned (.bool (!b)) /\ W = w') := hidp (fun W => by
    refine xFull_c tk k (by omega) (by omega) (by rw [<- hck]; exact h5b) (!b) ?_ W
    cases hbb : b
    ·refine ⟨fun _ => ?_, fun _ => rfl⟩
     by_cases h6 : tk = 2 ^ slotI (k : Int) - 1
     ·exact h6
     ·have := hb.2 (by rw [AuH.tgt_slab (hkk.trans h3) (by rw [htk, hcl, hck]; exact h6), hcl, hck])
      rw [hbb] at this; cases this
    ·refine ⟨fun h => (by cases h), fun h6 => ?_⟩
     have h7 := hb.1 hbb
     rw [AuH.tgt_full (hkk.trans h3) (by rw [htk, hcl, hck]; exact h6)] at h7
     omega)
   subst h3
   clear hv hb hkk hmm hcl hkc htk h5a h5b h5c hs hck
   unfold hpV
   go_enter Tryz.func100, Tryz.ntmps100
   go_wp2_with (first
    | (go_at_call 78; refine (xInfo_c HV ad hq _ (HVL.out.below HBW.out)).mono ?_; rintro e w2 ⟨rfl, hb2⟩; rw [HK.out, HLM.out, HCL.out]; have HB2 := hidp (Bnew (Bgo HBW.out hb2) (.cells #[.int .i64 3, .int .i64 (m : Int), .int .i64 cl] 76)); have HX2 := hidp ((HX0.out.keep hb2).alloc (.cells #[.int .i64 3, .int .i64 (m : Int), .int .i64 cl] 76)); clear hb2 c0 c1 c2 c3; obtain ⟨c0, c1, c2, c3⟩ := HX2.out.four; obtain ⟨d0, d1, d2⟩ := (Held.new w2 76 #[.int .i64 3, .int .i64 (m : Int), .int .i64 cl]).three)
    | (go_at_call 94; refine (xTaken_c HV ad hq _ (HVL.out.below HB2.out)).mono ?_; rintro e w3 ⟨rfl, hb3⟩; rw [HTK.out]; have HB3 := hidp (Bgo HB2.out hb3); clear hb3)
    | (go_at_call 101; refine (HFU.out _).mono ?_; rintro e w4 ⟨rfl, rfl⟩)
    | fail)
   go_ret
   exact ⟨by cases b <;> rfl, HB3.out⟩
  ·have q1 : (cl == (k : Int)) = false := by simpa using hck
   have HBF : Hid (b = false) := hidp (bool_no hb (fun h => by
    unfold AuH.tgt at h
    rw [hkk, hcl, if_neg (by omega)] at h
    split at h <;> omega))
   subst h3
   clear hv hb hkk hmm hcl hkc htk h5a h5b h5c hs hck
   unfold hpV
   go_enter Tryz.func100, Tryz.ntmps100
   go_wp2_with (first
    | (go_at_call 78; refine (xInfo_c HV ad hq _ (HVL.out.below HBW.out)).mono ?_; rintro e w2 ⟨rfl, hb2⟩; rw [HK.out, HLM.out, HCL.out]; have HB2 := hidp (Bnew (Bgo HBW.out hb2) (.cells #[.int .i64 3, .int .i64 (m : Int), .int .i64 cl] 76)); have HX2 := hidp ((HX0.out.keep hb2).alloc (.cells #[.int .i64 3, .int .i64 (m : Int), .int .i64 cl] 76)); clear hb2 c0 c1 c2 c3; obtain ⟨c0, c1, c2, c3⟩ := HX2.out.four; obtain ⟨d0, d1, d2⟩ := (Held.new w2 76 #[.int .i64 3, .int .i64 (m : Int), .int .i64 cl]).three)
    | fail)
   go_ret
   exact ⟨by rw [HBF.out]; rfl, HB2.out⟩
 ·have q0 : (kk == 3) = false := by simpa using h3
  have HBF : Hid (b = false) := hidp (bool_no hb (fun h => by
   unfold AuH.tgt at h
   rw [hkk, hmm] at h
   by_cases h1 : kk = 1
   ·rw [if_pos h1] at h
    have := AuH.log_few (n := m) (by omega) (by omega)
    omega
   ·rw [if_neg h1, if_neg (by omega)] at h
    omega))
  clear hv hb hkk hmm hcl hkc h3 hs
  unfold hpV
  go_enter Tryz.func100, Tryz.ntmps100
  go_wp2_with (first
   | (go_at_call 78; refine (xInfo_c HV ad hq _ (HVL.out.below HBW.out)).mono ?_; rintro e w2 ⟨rfl, hb2⟩; rw [HK.out, HLM.out, HCL.out]; have HB2 := hidp (Bnew (Bgo HBW.out hb2) (.cells #[.int .i64 kk, .int .i64 (m : Int), .int .i64 cl] 76)); have HX2 := hidp ((HX0.out.keep hb2).alloc (.cells #[.int .i64 kk, .int .i64 (m : Int), .int .i64 cl] 76)); clear hb2 c0 c1 c2 c3; obtain ⟨c0, c1, c2, c3⟩ := HX2.out.four; obtain ⟨d0, d1, d2⟩ := (Held.new w2 76 #[.int .i64 kk, .int .i64 (m : Int), .int .i64 cl]).three)
   | fail)
  go_ret
  exact ⟨by rw [HBF.out]; rfl, HB2.out⟩
end
section
set_option maxHeartbeats 6400000 in
set_option maxRecDepth 100000 in
theorem xBins_c {H : AuH} {n c : Nat} (HV : HeapV H n c) (ad : Addr) (b : Bool) (hb : b = true ↔ ∀ k, k < 11 -> H.ListOk (2 + k)) (w : World) (hv : IsVals w ad n H.V) :
  Calls Tryz.prog 73 #[hpV H ad n c] w fun e w' => e = .returned (.bool b) /\ Below w.heap.size w w' := by
 have HVL := hidp hv
 have HX0 := hidp (Held.new w 96 #[.int .i64 (H.t : Int), .int .i64 (H.p : Int), .int .i64 (H.s : Int), .slice (some ad) n c])
 obtain ⟨c0, c1, c2, c3⟩ := HX0.out.four
 have HBW := hidp (Bnew (B0 w) (.cells #[.int .i64 (H.t : Int), .int .i64 (H.p : Int), .int .i64 (H.s : Int), .slice (some ad) n c] 96))
 have hn := HV.nums
 have hcx : c <= 9223372036854775807 := hn.2.2.2.2.2.2.2.2
 have hni : n <= 6238 := hn.2.2.2.2.2.2.1
 have hnc := HV.cap
 have hp1 := hn.2.2.2.1
 have HBC := hidp hb
 clear hv hn hb
 unfold hpV
 go_enter Tryz.func73, Tryz.ntmps73
 go_wp2_with fail
 go_loopw [3] (fun u3 wr => ∃ (k : Nat), k <= 11 /\ u3 = .int .i64 (k : Int) /\ Hid (∀ j, j < k -> H.ListOk (2 + j)) /\ Hid (Held wr w.heap.size 96 #[.int .i64 (H.t : Int), .int .i64 (H.p : Int), .int .i64 (H.s : Int), .slice (some ad) n c]) /\ Hid (Below w.heap.size w wr)) (fun u3 _ => 11 - (intOf u3).toNat)
 case atStart => exact ⟨0, by omega, rfl, hidp (fun q h => by omega), HX0, HBW⟩
 case round =>
  clear c0 c1 c2 c3 HX0 HBW
  obtain ⟨k, hkl, rfl, HLS, HX, HB⟩ := hrel
  obtain ⟨c0, c1, c2, c3⟩ := HX.out.four
  by_cases hk : k < 11
  ·have t0 : decide ((k : Int) < 11) = true := decide_eq_true (by omega)
   obtain ⟨hd, hhd⟩ : ∃ hd, 2 + k = hd := ⟨_, rfl⟩
   have HHD := hidp hhd
   have hd30 : hd < 30 := by omega
   have HNT : Hid (nthI 2 11 1 (k : Int) = ((hd : Nat) : Int)) := hidp (by rw [nth_on (by omega) (by omega) (by omega)]; omega)
   have HDK : Hid ((hd : Int) = 2 + (k : Int)) := hidp (by omega)
   clear hhd
   go_wp2_with fail
   refine wp_region_held_drew (S := (fun w' => w'.cell? ⟨w.heap.size, 0, none⟩ = some (.int .i64 (H.t : Int)) /\ w'.cell? ⟨w.heap.size, 1, none⟩ = some (.int .i64 (H.p : Int)) /\ w'.cell? ⟨w.heap.size, 2, none⟩ = some (.int .i64 (H.s : Int)) /\ w'.cell? ⟨w.heap.size, 3, none⟩ = some (.slice (some ad) n c))) (by kernel_rfl) ?_ (fun hHeld => ?_)
   ·(try dsimp only)
    first | exact HX.out.drew.four | exact HX3.out.four | exact hHeld
   refine tkz 0 ?_
   refine tkz 1 ?_
   refine rdz 2 fun K hK => ?_
   go_simp
   (go_at_call 96; refine (r7Bin_c _ _).mono ?_; rintro e w9 ⟨rfl, rfl⟩; rw [HNT.out])
   refine hK.out _ _ ?_ (fun hHeld => ?_)
   ·(try dsimp only)
    first | exact HX.out.drew.four | exact HX3.out.four | exact hHeld
   clear hK K
   (try simp only [Act.put, gA, gB, gC, sA, sB, sC])
   refine rdz 3 fun K hK => ?_
   go_simp
   (go_at_call 95; refine (xList_c HV ad hd (by omega) _ (HVL.out.below HB.out).drew).mono ?_; rintro e w3 ⟨u3, bk, rfl, hy, hno, hb3⟩; have HY := hidp hy; have HN := hidp hno; have HB3 := hidp (Bgo (Bdrew HB.out) hb3); have HX3 := hidp (HX.out.drew.keep hb3); clear hb3 hy hno)
   refine hK.out _ _ ?_ (fun hHeld => ?_)
   ·(try dsimp only)
    first | exact HX.out.drew.four | exact HX3.out.four | exact hHeld
   clear hK K
   (try simp only [Act.put, gA, gB, gC, sA, sB, sC])
   refine tkz 4 ?_
   refine tkz 5 ?_
   refine tkz 6 ?_
   refine tkz 7 ?_
   refine tkz 8 ?_
   refine dnz ?_
   clear c0 c1 c2 c3
   obtain ⟨c0, c1, c2, c3⟩ := HX3.out.four
   cases bk
   ·have HBF : Hid (b = false) := hidp (bool_no HBC.out (fun h => HN.out rfl (by have h1 := h k hk; rw [HHD.out] at h1; exact h1)))
    clear HY
    go_wp2_with fail
    go_ret
    exact ⟨by rw [HBF.out]; rfl, HB3.out⟩
   ·obtain ⟨l, a, hpa, hlen, hown⟩ := HY.out rfl
    obtain ⟨nl, hnl⟩ : ∃ nl, l.length = nl := ⟨_, rfl⟩
    have HLO := hidp (AuH.listOk_iff hpa)
    rw [hnl] at hown hlen
    have HLN := hidp hnl
    have HO3 := hidp (own_down hown (show w.heap.size <= wr.heap.size from HB.out.size))
    obtain ⟨Au, cu, hu⟩ := own_slice HO3.out
    subst hu
    have hcc := own_caps0 HO3.out
    obtain ⟨hcc1, hcc2⟩ := hcc
    clear HY HN hpa hown hnl HX HB
    go_wp2_with fail
    clear c0 c1 c2 c3
    go_loopw [6] (fun u6 wr => ∃ (q : Nat), q <= H.p /\ u6 = .int .i64 (q : Int) /\ Hid (∀ j, j < q -> AuH.cntIn l j = H.isF (hd : Int) j) /\ Hid (Held wr w.heap.size 96 #[.int .i64 (H.t : Int), .int .i64 (H.p : Int), .int .i64 (H.s : Int), .slice (some ad) n c]) /\ Hid (wr.ownsRow w.heap.size 3 1 (.slice Au nl cu) nl (natVs l)) /\ Hid (Below w.heap.size w wr)) (fun u6 _ => H.p - (intOf u6).toNat)
    case atStart => exact ⟨0, by omega, rfl, hidp (fun j h => by omega), HX3, HO3, HB3⟩
    case round =>
     clear HX3 HO3 HB3
     obtain ⟨q, hqp, rfl, HOK, HX, HO, HB⟩ := hrel
     obtain ⟨c0, c1, c2, c3⟩ := HX.out.four
     by_cases hq : q < H.p
     ·have t1 : decide ((q : Int) < H.p) = true := decide_eq_true (by omega)
      obtain ⟨cn, hcn⟩ : ∃ cn, AuH.cntIn l q = cn := ⟨_, rfl⟩
      have HCN := hidp hcn
      clear hcn
      by_cases htg : H.tgt q = (hd : Int)
      ·have HIF : Hid (H.isF (hd : Int) q = 1) := hidp (by unfold AuH.isF; rw [if_pos htg])
       have HTG : Hid (true = true ↔ H.tgt q = 2 + (k : Int)) := hidp ⟨fun _ => htg.trans HDK.out, fun _ => rfl⟩
       clear htg
       by_cases hcw : cn = 1
       ·have q0 : ((cn : Int) != 1) = false := by simp; omega
        have HOK1 : Hid (∀ j, j < q + 1 -> AuH.cntIn l j = H.isF (hd : Int) j) := hidp (fun j hj => by
         rcases Nat.lt_or_ge j q with h | h
         ·exact HOK.out j h
         ·obtain rfl : j = q := by omega
          rw [HCN.out, HIF.out]
          exact hcw)
        clear hcw
        go_wp2_with (first
         | (go_at_call 97; refine (xBinned_c HV ad hq k hk true HTG.out _ (HVL.out.below HB.out)).mono ?_; rintro e w4 ⟨rfl, hb4⟩; have HB4 := hidp (Bgo HB.out hb4); have HX4 := hidp (HX.out.keep hb4); have HO4 := hidp (own_below HO.out hb4); clear hb4 c0 c1 c2 c3; obtain ⟨c0, c1, c2, c3⟩ := HX4.out.four)
         | (go_at_call 98; refine (xIn_c l Au nl cu q (by omega) (by omega) ⟨by omega, by omega⟩ HLN.out _ (Reads.of_own HO4.out)).mono ?_; rintro e w9 ⟨rfl, rfl⟩; rw [HCN.out])
         | fail)
        go_roundw
        case rel => exact ⟨q + 1, by omega, by go_num, HOK1, HX4, HO4, HB4⟩
        case measure => simp [intOf]; omega
       ·have q0 : ((cn : Int) != 1) = true := by simp; omega
        have HBF : Hid (b = false) := hidp (bool_no HBC.out (fun h => hcw (by
         have h1 := h k hk
         rw [HHD.out] at h1
         rw [<- HCN.out, (HLO.out.1 h1) q hq, HIF.out])))
        clear hcw
        go_wp2_with (first
         | (go_at_call 97; refine (xBinned_c HV ad hq k hk true HTG.out _ (HVL.out.below HB.out)).mono ?_; rintro e w4 ⟨rfl, hb4⟩; have HB4 := hidp (Bgo HB.out hb4); have HX4 := hidp (HX.out.keep hb4); have HO4 := hidp (own_below HO.out hb4); clear hb4 c0 c1 c2 c3; obtain ⟨c0, c1, c2, c3⟩ := HX4.out.four)
         | (go_at_call 98; refine (xIn_c l Au nl cu q (by omega) (by omega) ⟨by omega, by omega⟩ HLN.out _ (Reads.of_own HO4.out)).mono ?_; rintro e w9 ⟨rfl, rfl⟩; rw [HCN.out])
         | fail)
        go_ret
        exact ⟨by rw [HBF.out]; rfl, HB4.out⟩
      ·have HIF : Hid (H.isF (hd : Int) q = 0) := hidp (by unfold AuH.isF; rw [if_neg htg])
       have HTG : Hid (false = true ↔ H.tgt q = 2 + (k : Int)) := hidp ⟨fun h => (by cases h), fun h => absurd (h.trans HDK.out.symm) htg⟩
       clear htg
       by_cases hcw : cn = 0
       ·have q0 : ((cn : Int) != 0) = false := by simp; omega
        have HOK1 : Hid (∀ j, j < q + 1 -> AuH.cntIn l j = H.isF (hd : Int) j) := hidp (fun j hj => by
         rcases Nat.lt_or_ge j q with h | h
         ·exact HOK.out j h
         ·obtain rfl : j = q := by omega
          rw [HCN.out, HIF.out]
          exact hcw)
        clear hcw
        go_wp2_with (first
         | (go_at_call 97; refine (xBinned_c HV ad hq k hk false HTG.out _ (HVL.out.below HB.out)).mono ?_; rintro e w4 ⟨rfl, hb4⟩; have HB4 := hidp (Bgo HB.out hb4); have HX4 := hidp (HX.out.keep hb4); have HO4 := hidp (own_below HO.out hb4); clear hb4 c0 c1 c2 c3; obtain ⟨c0, c1, c2, c3⟩ := HX4.out.four)
         | (go_at_call 98; refine (xIn_c l Au nl cu q (by omega) (by omega) ⟨by omega, by omega⟩ HLN.out _ (Reads.of_own HO4.out)).mono ?_; rintro e w9 ⟨rfl, rfl⟩; rw [HCN.out])
         | fail)
        go_roundw
        case rel => exact ⟨q + 1, by omega, by go_num, HOK1, HX4, HO4, HB4⟩
        case measure => simp [intOf]; omega
       ·have q0 : ((cn : Int) != 0) = true := by simp; omega
        have HBF : Hid (b = false) := hidp (bool_no HBC.out (fun h => hcw (by
         have h1 := h k hk
         rw [HHD.out] at h1
         rw [<- HCN.out, (HLO.out.1 h1) q hq, HIF.out])))
        clear hcw
        go_wp2_with (first
         | (go_at_call 97; refine (xBinned_c HV ad hq k hk false HTG.out _ (HVL.out.below HB.out)).mono ?_; rintro e w4 ⟨rfl, hb4⟩; have HB4 := hidp (Bgo HB.out hb4); have HX4 := hidp (HX.out.keep hb4); have HO4 := hidp (own_below HO.out hb4); clear hb4 c0 c1 c2 c3; obtain ⟨c0, c1, c2, c3⟩ := HX4.out.four)
         | (go_at_call 98; refine (xIn_c l Au nl cu q (by omega) (by omega) ⟨by omega, by omega⟩ HLN.out _ (Reads.of_own HO4.out)).mono ?_; rintro e w9 ⟨rfl, rfl⟩; rw [HCN.out])
         | fail)
        go_ret
        exact ⟨by rw [HBF.out]; rfl, HB4.out⟩
     ·have t1 : decide ((q : Int) < H.p) = false := decide_eq_false (by omega)
      have HL1 : Hid (∀ j, j < k + 1 -> H.ListOk (2 + j)) := hidp (fun j hj => by
       rcases Nat.lt_or_ge j k with h | h
       ·exact HLS.out j h
       ·obtain rfl : j = k := by omega
        rw [HHD.out]
        exact HLO.out.2 (fun q' hq' => HOK.out q' (by omega)))
      go_wp2_with fail
      go_roundw
      case rel => exact ⟨k + 1, by omega, by go_num, HL1, HX, HB⟩
      case measure => simp [intOf]; omega
  ·have t0 : decide ((k : Int) < 11) = false := decide_eq_false (by omega)
   have HBT : Hid (b = true) := hidp (HBC.out.2 (fun q hq => HLS.out q (by omega)))
   go_wp2_with fail
   go_ret
   exact ⟨by rw [HBT.out]; rfl, HB.out⟩

set_option maxHeartbeats 6400000 in
set_option maxRecDepth 100000 in
theorem xRacks_c {H : AuH} {n c : Nat} (HV : HeapV H n c) (h5 : H.R5) (ad : Addr) (b : Bool) (hb : b = true ↔ ∀ k, k < 9 -> H.ListOk (13 + k)) (w : World) (hv : IsVals w ad n H.V) :
  Calls Tryz.prog 74 #[hpV H ad n c] w fun e w' => e = .returned (.bool b) /\ Below w.heap.size w w' := by
 have HVL := hidp hv
 have HX0 := hidp (Held.new w 96 #[.int .i64 (H.t : Int), .int .i64 (H.p : Int), .int .i64 (H.s : Int), .slice (some ad) n c])
 obtain ⟨c0, c1, c2, c3⟩ := HX0.out.four
 have HBW := hidp (Bnew (B0 w) (.cells #[.int .i64 (H.t : Int), .int .i64 (H.p : Int), .int .i64 (H.s : Int), .slice (some ad) n c] 96))
 have hn := HV.nums
 have hcx : c <= 9223372036854775807 := hn.2.2.2.2.2.2.2.2
 have hni : n <= 6238 := hn.2.2.2.2.2.2.1
 have hnc := HV.cap
 have hp1 := hn.2.2.2.1
 have HBC := hidp hb
 have HR5 := hidp h5
 clear hv hn hb
 unfold hpV
 go_enter Tryz.func74, Tryz.ntmps74
 go_wp2_with fail
 go_loopw [3] (fun u3 wr => ∃ (k : Nat), k <= 9 /\ u3 = .int .i64 (k : Int) /\ Hid (∀ j, j < k -> H.ListOk (13 + j)) /\ Hid (Held wr w.heap.size 96 #[.int .i64 (H.t : Int), .int .i64 (H.p : Int), .int .i64 (H.s : Int), .slice (some ad) n c]) /\ Hid (Below w.heap.size w wr)) (fun u3 _ => 9 - (intOf u3).toNat)
 case atStart => exact ⟨0, by omega, rfl, hidp (fun q h => by omega), HX0, HBW⟩
 case round =>
  clear c0 c1 c2 c3 HX0 HBW
  obtain ⟨k, hkl, rfl, HLS, HX, HB⟩ := hrel
  obtain ⟨c0, c1, c2, c3⟩ := HX.out.four
  by_cases hk : k < 9
  ·have t0 : decide ((k : Int) < 9) = true := decide_eq_true (by omega)
   obtain ⟨hd, hhd⟩ : ∃ hd, 13 + k = hd := ⟨_, rfl⟩
   have HHD := hidp hhd
   have hd30 : hd < 30 := by omega
   have HNT : Hid (nthI 13 9 1 (k : Int) = ((hd : Nat) : Int)) := hidp (by rw [nth_on (by omega) (by omega) (by omega)]; omega)
   have HDK : Hid ((hd : Int) = 13 + (k : Int)) := hidp (by omega)
   clear hhd
   go_wp2_with fail
   refine wp_region_held_drew (S := (fun w' => w'.cell? ⟨w.heap.size, 0, none⟩ = some (.int .i64 (H.t : Int)) /\ w'.cell? ⟨w.heap.size, 1, none⟩ = some (.int .i64 (H.p : Int)) /\ w'.cell? ⟨w.heap.size, 2, none⟩ = some (.int .i64 (H.s : Int)) /\ w'.cell? ⟨w.heap.size, 3, none⟩ = some (.slice (some ad) n c))) (by kernel_rfl) ?_ (fun hHeld => ?_)
   ·(try dsimp only)
    first | exact HX.out.drew.four | exact HX3.out.four | exact hHeld
   refine tkz 0 ?_
   refine tkz 1 ?_
   refine rdz 2 fun K hK => ?_
   go_simp
   (go_at_call 99; refine (r7Rack_c _ _).mono ?_; rintro e w9 ⟨rfl, rfl⟩; rw [HNT.out])
   refine hK.out _ _ ?_ (fun hHeld => ?_)
   ·(try dsimp only)
    first | exact HX.out.drew.four | exact HX3.out.four | exact hHeld
   clear hK K
   (try simp only [Act.put, gA, gB, gC, sA, sB, sC])
   refine rdz 3 fun K hK => ?_
   go_simp
   (go_at_call 95; refine (xList_c HV ad hd (by omega) _ (HVL.out.below HB.out).drew).mono ?_; rintro e w3 ⟨u3, bk, rfl, hy, hno, hb3⟩; have HY := hidp hy; have HN := hidp hno; have HB3 := hidp (Bgo (Bdrew HB.out) hb3); have HX3 := hidp (HX.out.drew.keep hb3); clear hb3 hy hno)
   refine hK.out _ _ ?_ (fun hHeld => ?_)
   ·(try dsimp only)
    first | exact HX.out.drew.four | exact HX3.out.four | exact hHeld
   clear hK K
   (try simp only [Act.put, gA, gB, gC, sA, sB, sC])
   refine tkz 4 ?_
   refine tkz 5 ?_
   refine tkz 6 ?_
   refine tkz 7 ?_
   refine tkz 8 ?_
   refine dnz ?_
   clear c0 c1 c2 c3
   obtain ⟨c0, c1, c2, c3⟩ := HX3.out.four
   cases bk
   ·have HBF : Hid (b = false) := hidp (bool_no HBC.out (fun h => HN.out rfl (by have h1 := h k hk; rw [HHD.out] at h1; exact h1)))
    clear HY
    go_wp2_with fail
    go_ret
    exact ⟨by rw [HBF.out]; rfl, HB3.out⟩
   ·obtain ⟨l, a, hpa, hlen, hown⟩ := HY.out rfl
    obtain ⟨nl, hnl⟩ : ∃ nl, l.length = nl := ⟨_, rfl⟩
    have HLO := hidp (AuH.listOk_iff hpa)
    rw [hnl] at hown hlen
    have HLN := hidp hnl
    have HO3 := hidp (own_down hown (show w.heap.size <= wr.heap.size from HB.out.size))
    obtain ⟨Au, cu, hu⟩ := own_slice HO3.out
    subst hu
    have hcc := own_caps0 HO3.out
    obtain ⟨hcc1, hcc2⟩ := hcc
    clear HY HN hpa hown hnl HX HB
    go_wp2_with fail
    clear c0 c1 c2 c3
    go_loopw [6] (fun u6 wr => ∃ (q : Nat), q <= H.p /\ u6 = .int .i64 (q : Int) /\ Hid (∀ j, j < q -> AuH.cntIn l j = H.isF (hd : Int) j) /\ Hid (Held wr w.heap.size 96 #[.int .i64 (H.t : Int), .int .i64 (H.p : Int), .int .i64 (H.s : Int), .slice (some ad) n c]) /\ Hid (wr.ownsRow w.heap.size 3 1 (.slice Au nl cu) nl (natVs l)) /\ Hid (Below w.heap.size w wr)) (fun u6 _ => H.p - (intOf u6).toNat)
    case atStart => exact ⟨0, by omega, rfl, hidp (fun j h => by omega), HX3, HO3, HB3⟩
    case round =>
     clear HX3 HO3 HB3
     obtain ⟨q, hqp, rfl, HOK, HX, HO, HB⟩ := hrel
     obtain ⟨c0, c1, c2, c3⟩ := HX.out.four
     by_cases hq : q < H.p
     ·have t1 : decide ((q : Int) < H.p) = true := decide_eq_true (by omega)
      obtain ⟨cn, hcn⟩ : ∃ cn, AuH.cntIn l q = cn := ⟨_, rfl⟩
      have HCN := hidp hcn
      clear hcn
      by_cases htg : H.tgt q = (hd : Int)
      ·have HIF : Hid (H.isF (hd : Int) q = 1) := hidp (by unfold AuH.isF; rw [if_pos htg])
       have HTG : Hid (true = true ↔ H.tgt q = 13 + (k : Int)) := hidp ⟨fun _ => htg.trans HDK.out, fun _ => rfl⟩
       clear htg
       by_cases hcw : cn = 1
       ·have q0 : ((cn : Int) != 1) = false := by simp; omega
        have HOK1 : Hid (∀ j, j < q + 1 -> AuH.cntIn l j = H.isF (hd : Int) j) := hidp (fun j hj => by
         rcases Nat.lt_or_ge j q with h | h
         ·exact HOK.out j h
         ·obtain rfl : j = q := by omega
          rw [HCN.out, HIF.out]
          exact hcw)
        clear hcw
        go_wp2_with (first
         | (go_at_call 100; refine (xRacked_c HV ad hq (HR5.out q hq) k hk true HTG.out _ (HVL.out.below HB.out)).mono ?_; rintro e w4 ⟨rfl, hb4⟩; have HB4 := hidp (Bgo HB.out hb4); have HX4 := hidp (HX.out.keep hb4); have HO4 := hidp (own_below HO.out hb4); clear hb4 c0 c1 c2 c3; obtain ⟨c0, c1, c2, c3⟩ := HX4.out.four)
         | (go_at_call 98; refine (xIn_c l Au nl cu q (by omega) (by omega) ⟨by omega, by omega⟩ HLN.out _ (Reads.of_own HO4.out)).mono ?_; rintro e w9 ⟨rfl, rfl⟩; rw [HCN.out])
         | fail)
        go_roundw
        case rel => exact ⟨q + 1, by omega, by go_num, HOK1, HX4, HO4, HB4⟩
        case measure => simp [intOf]; omega
       ·have q0 : ((cn : Int) != 1) = true := by simp; omega
        have HBF : Hid (b = false) := hidp (bool_no HBC.out (fun h => hcw (by
         have h1 := h k hk
         rw [HHD.out] at h1
         rw [<- HCN.out, (HLO.out.1 h1) q hq, HIF.out])))
        clear hcw
        go_wp2_with (first
         | (go_at_call 100; refine (xRacked_c HV ad hq (HR5.out q hq) k hk true HTG.out _ (HVL.out.below HB.out)).mono ?_; rintro e w4 ⟨rfl, hb4⟩; have HB4 := hidp (Bgo HB.out hb4); have HX4 := hidp (HX.out.keep hb4); have HO4 := hidp (own_below HO.out hb4); clear hb4 c0 c1 c2 c3; obtain ⟨c0, c1, c2, c3⟩ := HX4.out.four)
         | (go_at_call 98; refine (xIn_c l Au nl cu q (by omega) (by omega) ⟨by omega, by omega⟩ HLN.out _ (Reads.of_own HO4.out)).mono ?_; rintro e w9 ⟨rfl, rfl⟩; rw [HCN.out])
         | fail)
        go_ret
        exact ⟨by rw [HBF.out]; rfl, HB4.out⟩
      ·have HIF : Hid (H.isF (hd : Int) q = 0) := hidp (by unfold AuH.isF; rw [if_neg htg])
       have HTG : Hid (false = true ↔ H.tgt q = 13 + (k : Int)) := hidp ⟨fun h => (by cases h), fun h => absurd (h.trans HDK.out.symm) htg⟩
       clear htg
       by_cases hcw : cn = 0
       ·have q0 : ((cn : Int) != 0) = false := by simp; omega
        have HOK1 : Hid (∀ j, j < q + 1 -> AuH.cntIn l j = H.isF (hd : Int) j) := hidp (fun j hj => by
         rcases Nat.lt_or_ge j q with h | h
         ·exact HOK.out j h
         ·obtain rfl : j = q := by omega
          rw [HCN.out, HIF.out]
          exact hcw)
        clear hcw
        go_wp2_with (first
         | (go_at_call 100; refine (xRacked_c HV ad hq (HR5.out q hq) k hk false HTG.out _ (HVL.out.below HB.out)).mono ?_; rintro e w4 ⟨rfl, hb4⟩; have HB4 := hidp (Bgo HB.out hb4); have HX4 := hidp (HX.out.keep hb4); have HO4 := hidp (own_below HO.out hb4); clear hb4 c0 c1 c2 c3; obtain ⟨c0, c1, c2, c3⟩ := HX4.out.four)
         | (go_at_call 98; refine (xIn_c l Au nl cu q (by omega) (by omega) ⟨by omega, by omega⟩ HLN.out _ (Reads.of_own HO4.out)).mono ?_; rintro e w9 ⟨rfl, rfl⟩; rw [HCN.out])
         | fail)
        go_roundw
        case rel => exact ⟨q + 1, by omega, by go_num, HOK1, HX4, HO4, HB4⟩
        case measure => simp [intOf]; omega
       ·have q0 : ((cn : Int) != 0) = true := by simp; omega
        have HBF : Hid (b = false) := hidp (bool_no HBC.out (fun h => hcw (by
         have h1 := h k hk
         rw [HHD.out] at h1
         rw [<- HCN.out, (HLO.out.1 h1) q hq, HIF.out])))
        clear hcw
        go_wp2_with (first
         | (go_at_call 100; refine (xRacked_c HV ad hq (HR5.out q hq) k hk false HTG.out _ (HVL.out.below HB.out)).mono ?_; rintro e w4 ⟨rfl, hb4⟩; have HB4 := hidp (Bgo HB.out hb4); have HX4 := hidp (HX.out.keep hb4); have HO4 := hidp (own_below HO.out hb4); clear hb4 c0 c1 c2 c3; obtain ⟨c0, c1, c2, c3⟩ := HX4.out.four)
         | (go_at_call 98; refine (xIn_c l Au nl cu q (by omega) (by omega) ⟨by omega, by omega⟩ HLN.out _ (Reads.of_own HO4.out)).mono ?_; rintro e w9 ⟨rfl, rfl⟩; rw [HCN.out])
         | fail)
        go_ret
        exact ⟨by rw [HBF.out]; rfl, HB4.out⟩
     ·have t1 : decide ((q : Int) < H.p) = false := decide_eq_false (by omega)
      have HL1 : Hid (∀ j, j < k + 1 -> H.ListOk (13 + j)) := hidp (fun j hj => by
       rcases Nat.lt_or_ge j k with h | h
       ·exact HLS.out j h
       ·obtain rfl : j = k := by omega
        rw [HHD.out]
        exact HLO.out.2 (fun q' hq' => HOK.out q' (by omega)))
      go_wp2_with fail
      go_roundw
      case rel => exact ⟨k + 1, by omega, by go_num, HL1, HX, HB⟩
      case measure => simp [intOf]; omega
  ·have t0 : decide ((k : Int) < 9) = false := decide_eq_false (by omega)
   have HBT : Hid (b = true) := hidp (HBC.out.2 (fun q hq => HLS.out q (by omega)))
   go_wp2_with fail
   go_ret
   exact ⟨by rw [HBT.out]; rfl, HB.out⟩
end
end Go.Proofs.YtlpcdfcghgapkaaGreat
