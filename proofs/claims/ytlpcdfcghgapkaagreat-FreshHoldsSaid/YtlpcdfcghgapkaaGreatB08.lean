/-
  The document's rule 9. Written by doc12/gen_counts.py.
-/
import Derived.Test.YtlpcdfcghgapkaaGreatB06
import Derived.Test.YtlpcdfcghgapkaaGreatB04
import Derived.Test.YtlpcdfcghgapkaaGreatB03
import Derived.RegionTactic
import Derived.ChangeAlike
import Derived.BigQuiet
import Derived.Test.YtlpcdfcghgapkaaGreatB07
import Derived.Deep.AppendLies
namespace Go.Proofs.YtlpcdfcghgapkaaGreat
open Go.ChangeShapes Go.WideShapes Go.ChangeAt Go.RowKit Go.Shelf
set_option linter.unusedVariables false
set_option linter.unusedSimpArgs false
section
set_option maxHeartbeats 6400000 in
set_option maxRecDepth 100000 in
theorem xCounts_c {H : AuH} {n c : Nat} (HV : HeapV H n c) (h5 : H.R5) (ad : Addr) (b : Bool) (hb : b = true ↔ H.R9) (w : World) (hv : IsVals w ad n H.V) :
  Calls Tryz.prog 76 #[hpV H ad n c] w fun e w' => e = .returned (.bool b) /\ Below w.heap.size w w' := by
 have HVL := hidp hv
 have HX0 := hidp (Held.new w 96 #[.int .i64 (H.t : Int), .int .i64 (H.p : Int), .int .i64 (H.s : Int), .slice (some ad) n c])
 obtain ⟨c0, c1, c2, c3⟩ := HX0.out.four
 have HBW := hidp (Bnew (B0 w) (.cells #[.int .i64 (H.t : Int), .int .i64 (H.p : Int), .int .i64 (H.s : Int), .slice (some ad) n c] 96))
 have hn := HV.nums
 have hcx : c <= 9223372036854775807 := hn.2.2.2.2.2.2.2.2
 have hni : n <= 6238 := hn.2.2.2.2.2.2.1
 have hnc := HV.cap
 have hp1 := hn.2.2.2.1
 have hn30 : 30 <= n := by have := HV.len; omega
 have HBC := hidp hb
 have HR5 := hidp h5
 clear hv hn hb h5
 unfold hpV
 go_enter Tryz.func76, Tryz.ntmps76
 go_wp2_with fail
 go_loopw [3, 4, 5] (fun u3 u4 u5 wr => ∃ (p f v : Nat), p <= H.p /\ u5 = .int .i64 (p : Int) /\ u3 = .int .i64 (f : Int) /\ u4 = .int .i64 (v : Int) /\ Hid (AuH.sumTo H.freeF p = f) /\ Hid (AuH.sumTo H.liveF p = v) /\ Hid (Held wr w.heap.size 96 #[.int .i64 (H.t : Int), .int .i64 (H.p : Int), .int .i64 (H.s : Int), .slice (some ad) n c]) /\ Hid (Below w.heap.size w wr)) (fun _ _ u5 _ => H.p - (intOf u5).toNat)
 case atStart => exact ⟨0, 0, 0, by omega, rfl, rfl, rfl, hidp rfl, hidp rfl, HX0, HBW⟩
 case round =>
  clear c0 c1 c2 c3 HX0 HBW
  obtain ⟨p, f, v, hp, rfl, rfl, rfl, HSF, HSL, HX, HB⟩ := hrel
  obtain ⟨c0, c1, c2, c3⟩ := HX.out.four
  have hsum := AuH.sums_le (H := H) p (by omega)
  rw [HSF.out, HSL.out] at hsum
  obtain ⟨hf, hl⟩ := hsum
  by_cases hlt : p < H.p
  ·have t0 : decide ((p : Int) < H.p) = true := decide_eq_true (by omega)
   have HVR := hidp (HVL.out.below HB.out)
   have h4 := HR5.out p hlt
   obtain ⟨sv, hsv⟩ : ∃ v, H.cel p 4 = v := ⟨_, rfl⟩
   have HSV := hidp hsv
   have hs32 := HV.cel_lt hlt (show 4 < 6 by omega)
   rw [hsv] at hs32
   obtain ⟨o, ho⟩ : ∃ o, HM.onesTo sv 32 = o := ⟨_, rfl⟩
   have HON := hidp ho
   have ho32 : o <= 32 := by rw [<- ho]; exact HM.onesTo_le _ _
   have hkc := H.K_cases p
   obtain ⟨kk, hkk⟩ : ∃ k, H.K p = k := ⟨_, rfl⟩
   obtain ⟨m, hmm⟩ : ∃ m, H.ln p = m := ⟨_, rfl⟩
   obtain ⟨cl, hcl⟩ : ∃ k, H.Cl p = k := ⟨_, rfl⟩
   have HK := hidp hkk
   have HM := hidp hmm
   have HCL := hidp hcl
   have hff : H.freeF p = if kk = 1 then m else 0 := by unfold AuH.freeF; rw [hkk, hmm]
   have hlf : H.liveF p = if kk = 2 then 1 else if kk = 3 then o else 0 := by unfold AuH.liveF; rw [hkk, hsv, ho]
   have ho0 : kk ≠ 3 -> o = 0 := fun h => by
    have := (h4.2 (by rw [hkk]; exact h)).2
    rw [<- ho, <- hsv, this]
    decide
   rw [hkk, hmm, hcl] at hkc
   clear ho hsv
   rcases (by omega : kk = 0 \/ kk = 1 \/ kk = 2 \/ kk = 3) with hk | hk | hk | hk
   ·have HFR : Hid (H.freeF p = 0) := hidp (by rw [hff, if_neg (by omega)])
    have HLI : Hid (H.liveF p = 0) := hidp (by rw [hlf, if_neg (by omega), if_neg (by omega)])
    have hoz := ho0 (by omega)
    subst hoz
    have s1 : IntKind.i64.wrap ((v : Int) + ((0 : Nat) : Int)) = (v : Int) := by rw [i64_same (by omega) (by omega)]; omega
    clear hff hlf ho0
    subst hk
    clear hkc h4 hkk hmm hcl
    go_wp2_with (first
     | (go_at_call 78; refine (xInfo_c HV ad hlt _ HVR.out).mono ?_; rintro e w2 ⟨rfl, hb2⟩; rw [HK.out, HM.out, HCL.out]; have HB2 := hidp (Bnew (Bgo HB.out hb2) (.cells #[.int .i64 0, .int .i64 (m : Int), .int .i64 cl] 76)); have HX2 := hidp ((HX.out.keep hb2).alloc (.cells #[.int .i64 0, .int .i64 (m : Int), .int .i64 cl] 76)); clear hb2 c0 c1 c2 c3; obtain ⟨c0, c1, c2, c3⟩ := HX2.out.four; obtain ⟨d0, d1, d2⟩ := (Held.new w2 76 #[.int .i64 0, .int .i64 (m : Int), .int .i64 cl]).three)
     | (go_at_call 93; refine (xSlots_c HV ad hlt _ (HVL.out.below HB2.out)).mono ?_; rintro e w3 ⟨rfl, hb3⟩; rw [HSV.out]; have HB3 := hidp (Bgo HB2.out hb3); have HX3 := hidp (HX2.out.keep hb3); clear hb3)
     | (go_at_call 104; refine (ROnes_c sv hs32 _).mono ?_; rintro e w4 ⟨rfl, rfl⟩; rw [HON.out])
     | fail)
    go_roundw
    case rel => exact ⟨p + 1, H.freeF p + f, H.liveF p + v, by omega, by go_num, by have h := HFR.out; simp only [h]; first | rfl | (congr 1; omega), by have h := HLI.out; simp only [h]; first | rfl | (congr 1; omega), hidp (by have := HSF.out; show AuH.sumTo H.freeF p + H.freeF p = _; omega), hidp (by have := HSL.out; show AuH.sumTo H.liveF p + H.liveF p = _; omega), HX3, HB3⟩
    case measure => simp [intOf]; omega
   ·have HFR : Hid (H.freeF p = m) := hidp (by rw [hff, if_pos hk])
    have HLI : Hid (H.liveF p = 0) := hidp (by rw [hlf, if_neg (by omega), if_neg (by omega)])
    have hoz := ho0 (by omega)
    subst hoz
    have hmb : m <= 1024 := by omega
    have s0 : IntKind.i64.wrap ((f : Int) + (m : Int)) = ((m + f : Nat) : Int) := by rw [i64_same (by omega) (by omega)]; omega
    have s1 : IntKind.i64.wrap ((v : Int) + ((0 : Nat) : Int)) = (v : Int) := by rw [i64_same (by omega) (by omega)]; omega
    clear hff hlf ho0
    subst hk
    clear hkc h4 hkk hmm hcl
    go_wp2_with (first
     | (go_at_call 78; refine (xInfo_c HV ad hlt _ HVR.out).mono ?_; rintro e w2 ⟨rfl, hb2⟩; rw [HK.out, HM.out, HCL.out]; have HB2 := hidp (Bnew (Bgo HB.out hb2) (.cells #[.int .i64 1, .int .i64 (m : Int), .int .i64 cl] 76)); have HX2 := hidp ((HX.out.keep hb2).alloc (.cells #[.int .i64 1, .int .i64 (m : Int), .int .i64 cl] 76)); clear hb2 c0 c1 c2 c3; obtain ⟨c0, c1, c2, c3⟩ := HX2.out.four; obtain ⟨d0, d1, d2⟩ := (Held.new w2 76 #[.int .i64 1, .int .i64 (m : Int), .int .i64 cl]).three)
     | (go_at_call 93; refine (xSlots_c HV ad hlt _ (HVL.out.below HB2.out)).mono ?_; rintro e w3 ⟨rfl, hb3⟩; rw [HSV.out]; have HB3 := hidp (Bgo HB2.out hb3); have HX3 := hidp (HX2.out.keep hb3); clear hb3)
     | (go_at_call 104; refine (ROnes_c sv hs32 _).mono ?_; rintro e w4 ⟨rfl, rfl⟩; rw [HON.out])
     | fail)
    go_roundw
    case rel => exact ⟨p + 1, H.freeF p + f, H.liveF p + v, by omega, by go_num, by have h := HFR.out; simp only [h]; first | rfl | (congr 1; omega), by have h := HLI.out; simp only [h]; first | rfl | (congr 1; omega), hidp (by have := HSF.out; show AuH.sumTo H.freeF p + H.freeF p = _; omega), hidp (by have := HSL.out; show AuH.sumTo H.liveF p + H.liveF p = _; omega), HX3, HB3⟩
    case measure => simp [intOf]; omega
   ·have HFR : Hid (H.freeF p = 0) := hidp (by rw [hff, if_neg (by omega)])
    have HLI : Hid (H.liveF p = 1) := hidp (by rw [hlf, if_pos (by omega)])
    have hoz := ho0 (by omega)
    subst hoz
    have s0 : IntKind.i64.wrap ((v : Int) + 1) = ((1 + v : Nat) : Int) := by rw [i64_same (by omega) (by omega)]; omega
    have s1 : IntKind.i64.wrap (((1 + v : Nat) : Int) + ((0 : Nat) : Int)) = ((1 + v : Nat) : Int) := by rw [i64_same (by omega) (by omega)]; omega
    clear hff hlf ho0
    subst hk
    clear hkc h4 hkk hmm hcl
    go_wp2_with (first
     | (go_at_call 78; refine (xInfo_c HV ad hlt _ HVR.out).mono ?_; rintro e w2 ⟨rfl, hb2⟩; rw [HK.out, HM.out, HCL.out]; have HB2 := hidp (Bnew (Bgo HB.out hb2) (.cells #[.int .i64 2, .int .i64 (m : Int), .int .i64 cl] 76)); have HX2 := hidp ((HX.out.keep hb2).alloc (.cells #[.int .i64 2, .int .i64 (m : Int), .int .i64 cl] 76)); clear hb2 c0 c1 c2 c3; obtain ⟨c0, c1, c2, c3⟩ := HX2.out.four; obtain ⟨d0, d1, d2⟩ := (Held.new w2 76 #[.int .i64 2, .int .i64 (m : Int), .int .i64 cl]).three)
     | (go_at_call 93; refine (xSlots_c HV ad hlt _ (HVL.out.below HB2.out)).mono ?_; rintro e w3 ⟨rfl, hb3⟩; rw [HSV.out]; have HB3 := hidp (Bgo HB2.out hb3); have HX3 := hidp (HX2.out.keep hb3); clear hb3)
     | (go_at_call 104; refine (ROnes_c sv hs32 _).mono ?_; rintro e w4 ⟨rfl, rfl⟩; rw [HON.out])
     | fail)
    go_roundw
    case rel => exact ⟨p + 1, H.freeF p + f, H.liveF p + v, by omega, by go_num, by have h := HFR.out; simp only [h]; first | rfl | (congr 1; omega), by have h := HLI.out; simp only [h]; first | rfl | (congr 1; omega), hidp (by have := HSF.out; show AuH.sumTo H.freeF p + H.freeF p = _; omega), hidp (by have := HSL.out; show AuH.sumTo H.liveF p + H.liveF p = _; omega), HX3, HB3⟩
    case measure => simp [intOf]; omega
   ·have HFR : Hid (H.freeF p = 0) := hidp (by rw [hff, if_neg (by omega)])
    have HLI : Hid (H.liveF p = o) := hidp (by rw [hlf, if_neg (by omega), if_pos hk])
    have s1 : IntKind.i64.wrap ((v : Int) + (o : Int)) = ((o + v : Nat) : Int) := by rw [i64_same (by omega) (by omega)]; omega
    clear hff hlf ho0
    subst hk
    clear hkc h4 hkk hmm hcl
    go_wp2_with (first
     | (go_at_call 78; refine (xInfo_c HV ad hlt _ HVR.out).mono ?_; rintro e w2 ⟨rfl, hb2⟩; rw [HK.out, HM.out, HCL.out]; have HB2 := hidp (Bnew (Bgo HB.out hb2) (.cells #[.int .i64 3, .int .i64 (m : Int), .int .i64 cl] 76)); have HX2 := hidp ((HX.out.keep hb2).alloc (.cells #[.int .i64 3, .int .i64 (m : Int), .int .i64 cl] 76)); clear hb2 c0 c1 c2 c3; obtain ⟨c0, c1, c2, c3⟩ := HX2.out.four; obtain ⟨d0, d1, d2⟩ := (Held.new w2 76 #[.int .i64 3, .int .i64 (m : Int), .int .i64 cl]).three)
     | (go_at_call 93; refine (xSlots_c HV ad hlt _ (HVL.out.below HB2.out)).mono ?_; rintro e w3 ⟨rfl, hb3⟩; rw [HSV.out]; have HB3 := hidp (Bgo HB2.out hb3); have HX3 := hidp (HX2.out.keep hb3); clear hb3)
     | (go_at_call 104; refine (ROnes_c sv hs32 _).mono ?_; rintro e w4 ⟨rfl, rfl⟩; rw [HON.out])
     | fail)
    go_roundw
    case rel => exact ⟨p + 1, H.freeF p + f, H.liveF p + v, by omega, by go_num, by have h := HFR.out; simp only [h]; first | rfl | (congr 1; omega), by have h := HLI.out; simp only [h]; first | rfl | (congr 1; omega), hidp (by have := HSF.out; show AuH.sumTo H.freeF p + H.freeF p = _; omega), hidp (by have := HSL.out; show AuH.sumTo H.liveF p + H.liveF p = _; omega), HX3, HB3⟩
    case measure => simp [intOf]; omega
  ·have t0 : decide ((p : Int) < H.p) = false := decide_eq_false (by omega)
   have hpe : p = H.p := by omega
   have HVR := hidp (HVL.out.below HB.out)
   have e0 := HVR.out.2 0 (by omega)
   have e1 := HVR.out.2 1 (by omega)
   have e0z : ad.add 0 = ad := by simp [Addr.add]
   rw [e0z] at e0
   have i0 : (0 : Int) < n := by omega
   have i1 : (1 : Int) < n := by omega
   have hv0 := HV.lt 0 (by omega)
   have hv1 := HV.lt 1 (by omega)
   have HR : Hid (H.R9 ↔ H.V 0 = f /\ H.V 1 = v) := hidp (by
    have h1 := HSF.out
    have h2 := HSL.out
    rw [hpe] at h1 h2
    unfold AuH.R9
    rw [h1, h2, Nat.mod_eq_of_lt (by omega), Nat.mod_eq_of_lt (by omega)])
   obtain ⟨x0, hx0⟩ : ∃ x, H.V 0 = x := ⟨_, rfl⟩
   obtain ⟨x1, hx1⟩ : ∃ x, H.V 1 = x := ⟨_, rfl⟩
   rw [hx0] at e0 hv0 HR
   rw [hx1] at e1 hv1 HR
   have e1b : wr.cell? { block := ad.block, off := ad.off + 1 } = some (.int .u32 (x1 : Int)) := e1
   have u0 : IntKind.u32.wrap (f : Int) = (f : Int) := wrap_nat32 _ (by omega)
   have u1 : IntKind.u32.wrap (v : Int) = (v : Int) := wrap_nat32 _ (by omega)
   clear hpe hx0 hx1
   by_cases g0 : x0 = f
   ·have q0 : ((x0 : Int) == (f : Int)) = true := by simp; omega
    have q1 : ((x1 : Int) == (v : Int)) = b := by
     have h := HBC.out
     rw [HR.out] at h
     by_cases g1 : x1 = v
     ·rw [bool_yes h ⟨g0, g1⟩]; simp; omega
     ·rw [bool_no h (fun h => g1 h.2)]; simp; omega
    clear g0
    go_wp2_with fail
    go_ret
    exact ⟨rfl, HB.out⟩
   ·have q0 : ((x0 : Int) == (f : Int)) = false := by simp; omega
    have HBF : Hid (b = false) := hidp (bool_no HBC.out (fun h => g0 (HR.out.1 h).1))
    clear g0
    go_wp2_with fail
    go_ret
    exact ⟨by rw [HBF.out]; rfl, HB.out⟩
end
end Go.Proofs.YtlpcdfcghgapkaaGreat

namespace Go.Proofs.YtlpcdfcghgapkaaGreat
open Go.ChangeShapes Go.WideShapes Go.ChangeAt Go.RowKit
set_option linter.unusedVariables false
set_option linter.unusedSimpArgs false
section
theorem addr_not {t p s i o : Int} (h : ¬ (rightB t p s = true /\ (0 <= i /\ i < p) /\ 0 <= o /\ o < (pageN t p s : Int))) : addrB t p s i o = false := by
 cases hb : addrB t p s i o
 ·rfl
 ·exact absurd (addr_parts hb) h
set_option maxHeartbeats 3200000 in
theorem r6Of_c (t p s i o : Int) (w : World) :
  Calls Tryz.prog 79 #[.agg #[.int .i64 t, .int .i64 p, .int .i64 s], .int .i64 i, .int .i64 o] w fun e w' => e = .returned (.tuple #[.int .i64 (addrI t p s i o), .bool (addrB t p s i o)]) /\ Below w.heap.size w w' := by
 have hc := Held.new w 23 #[.int .i64 t, .int .i64 p, .int .i64 s]
 cases hr : rightB t p s
 ·have HR := hidp hr
  have hB : addrB t p s i o = false := by unfold addrB; rw [hr]; rfl
  have HA := hidp (addrI_no hB)
  have HB := hidp hB
  clear hr hB
  go_enter Tryz.func79, Tryz.ntmps79
  go_wp2_with fail
  refine (r4Right_c t p s _).mono ?_
  rintro e w1 ⟨rfl, hb1⟩
  rw [HR.out]
  have hc1 := hc.keep hb1
  obtain ⟨x0, x1, x2⟩ := hc1.three
  go_wp2
  go_ret2
  refine ⟨by rw [HA.out, HB.out]; rfl, ?_⟩
  all_goals exact blz
 ·have HR := hidp hr
  obtain ⟨g, q, hg, rfl, hb, q1, q2, g1, g2, -, -, -, qg⟩ := right_nums hr
  by_cases c1 : i < 0
  ·have hB := addr_not (t := t) (p := (q : Int)) (s := s) (i := i) (o := o) (by omega)
   have HA := hidp (addrI_no hB)
   have HB := hidp hB
   clear hr hg hb hB
   go_enter Tryz.func79, Tryz.ntmps79
   go_wp2_with fail
   refine (r4Right_c t q s _).mono ?_
   rintro e w1 ⟨rfl, hb1⟩
   rw [HR.out]
   have hc1 := hc.keep hb1
   obtain ⟨x0, x1, x2⟩ := hc1.three
   go_wp2
   go_ret2
   refine ⟨by rw [HA.out, HB.out]; rfl, ?_⟩
   all_goals exact blz
  ·by_cases c2 : (q : Int) <= i
   ·have hB := addr_not (t := t) (p := (q : Int)) (s := s) (i := i) (o := o) (by omega)
    have HA := hidp (addrI_no hB)
    have HB := hidp hB
    clear hr hg hb hB
    go_enter Tryz.func79, Tryz.ntmps79
    go_wp2_with fail
    refine (r4Right_c t q s _).mono ?_
    rintro e w1 ⟨rfl, hb1⟩
    rw [HR.out]
    have hc1 := hc.keep hb1
    obtain ⟨x0, x1, x2⟩ := hc1.three
    go_wp2
    go_ret2
    refine ⟨by rw [HA.out, HB.out]; rfl, ?_⟩
    all_goals exact blz
   ·by_cases c3 : o < 0
    ·have hB := addr_not (t := t) (p := (q : Int)) (s := s) (i := i) (o := o) (by omega)
     have HA := hidp (addrI_no hB)
     have HB := hidp hB
     clear hr hg hb hB
     go_enter Tryz.func79, Tryz.ntmps79
     go_wp2_with fail
     refine (r4Right_c t q s _).mono ?_
     rintro e w1 ⟨rfl, hb1⟩
     rw [HR.out]
     have hc1 := hc.keep hb1
     obtain ⟨x0, x1, x2⟩ := hc1.three
     go_wp2
     go_ret2
     refine ⟨by rw [HA.out, HB.out]; rfl, ?_⟩
     all_goals exact blz
    ·by_cases c4 : (g : Int) <= o
     ·have hB := addr_not (t := t) (p := (q : Int)) (s := s) (i := i) (o := o) (by rw [hg]; omega)
      have HA := hidp (addrI_no hB)
      have HB := hidp hB
      have HG := hidp hg
      clear hr hg hb hB
      go_enter Tryz.func79, Tryz.ntmps79
      go_wp2_with fail
      refine (r4Right_c t q s _).mono ?_
      rintro e w1 ⟨rfl, hb1⟩
      rw [HR.out]
      have hc1 := hc.keep hb1
      obtain ⟨x0, x1, x2⟩ := hc1.three
      go_wp2_with fail
      refine (r4Page_c t q s _).mono ?_
      rintro e w2 ⟨rfl, hb2⟩
      rw [HG.out]
      clear x0 x1 x2
      obtain ⟨x0, x1, x2⟩ := (hc1.keep hb2).three
      go_wp2
      go_ret2
      refine ⟨by rw [HA.out, HB.out]; rfl, ?_⟩
      all_goals exact blz
     ·have hB : addrB t q s i o = true := by unfold addrB; rw [hr, hg, Bool.true_and, decide_eq_true_iff]; omega
      have hA : addrI t q s i o = (i + 1) * (g : Int) + o := by unfold addrI; rw [if_pos hB, hg]
      have hm := mul_bounds (i := i) (q := (q : Int)) (g := (g : Int)) (by omega) (by omega) (by omega)
      have hqg : ((q * g : Nat) : Int) = (q : Int) * (g : Int) := by push_cast; rfl
      rw [<- hqg] at hm
      obtain ⟨y, hy⟩ : ∃ y, (i + 1) * (g : Int) = y := ⟨_, rfl⟩
      rw [hy] at hA hm
      obtain ⟨y1, y2⟩ := hm
      have y3 : y <= 1073741824 := by omega
      have HA := hidp hA
      have HB := hidp hB
      have HG := hidp hg
      clear hr hg hb hB hA hqg y2
      go_enter Tryz.func79, Tryz.ntmps79
      go_wp2_with fail
      refine (r4Right_c t q s _).mono ?_
      rintro e w1 ⟨rfl, hb1⟩
      rw [HR.out]
      have hc1 := hc.keep hb1
      obtain ⟨x0, x1, x2⟩ := hc1.three
      go_wp2_with fail
      refine (r4Page_c t q s _).mono ?_
      rintro e w2 ⟨rfl, hb2⟩
      rw [HG.out]
      clear x0 x1 x2
      obtain ⟨x0, x1, x2⟩ := (hc1.keep hb2).three
      go_wp2_with fail
      refine (r4Page_c t q s _).mono ?_
      rintro e w3 ⟨rfl, hb3⟩
      rw [HG.out]
      go_wp2
      go_ret2
      refine ⟨by rw [HA.out, HB.out]; rfl, ?_⟩
      all_goals exact blz
end
section
set_option maxHeartbeats 1600000 in
theorem r6At_c (t p s k i j : Int) (hk0 : -9223372036854775808 <= k) (hk1 : k <= 9223372036854775807) (w : World) :
  Calls Tryz.prog 107 #[.agg #[.int .i64 t, .int .i64 p, .int .i64 s], .int .i64 k, .int .i64 i, .int .i64 j] w fun e w' => e = .returned (.tuple #[.int .i64 (atI t p s k i j), .bool (atB t p s k i j)]) /\ Below w.heap.size w w' := by
 have hc := Held.new w 23 #[.int .i64 t, .int .i64 p, .int .i64 s]
 obtain ⟨n, hn⟩ : ∃ n, slotI k = n := ⟨_, rfl⟩
 have hn2 := hn ▸ slotI_le k
 have HN := hidp hn
 by_cases c1 : j < 0
 ·have HB := hidp (at_out (t := t) (p := p) (s := s) (k := k) (i := i) (j := j) (by omega))
  clear hn
  go_enter Tryz.func107, Tryz.ntmps107
  go_wp2
  go_ret2
  refine ⟨by rw [HB.out.1, HB.out.2]; rfl, ?_⟩
  all_goals exact blz
 ·by_cases c2 : j < (n : Int)
  ·obtain ⟨z, hz⟩ : ∃ z, sizeN s k = z := ⟨_, rfl⟩
   have hz2 := hz ▸ sizeN_le s k
   have h3 : j * (z : Int) <= 32 * 1048576 := Int.mul_le_mul (by omega) (by omega) (by omega) (by omega)
   have h4 : 0 <= j * (z : Int) := Int.mul_nonneg (by omega) (by omega)
   have hA := at_in (t := t) (p := p) (s := s) (k := k) (i := i) (j := j) (by omega)
   rw [hz] at hA
   obtain ⟨y, hy⟩ : ∃ y, j * (z : Int) = y := ⟨_, rfl⟩
   rw [hy] at h3 h4 hA
   have HA := hidp hA
   have HY := hidp hy
   have HZ := hidp hz
   have HWR := hidp (i64_same (x := y) (by omega) (by omega))
   clear hz hy hA hn
   go_enter Tryz.func107, Tryz.ntmps107
   go_wp2_with fail
   refine (r5Slots_c k hk0 hk1 _).mono ?_
   rintro e w1 ⟨rfl, rfl⟩
   rw [HN.out]
   have c3 := hc.three
   go_wp2_with fail
   go_region_held3 (fun w' => w'.cell? ⟨w.heap.size, 0, none⟩ = some (.int .i64 t) /\ w'.cell? ⟨w.heap.size, 1, none⟩ = some (.int .i64 p) /\ w'.cell? ⟨w.heap.size, 2, none⟩ = some (.int .i64 s))
    (first | exact ⟨c3.1, c3.2.1, c3.2.2⟩ | go_keep | exact ⟨hst _ _ (by assumption), hst _ _ (by assumption), hst _ _ (by assumption)⟩)
    (first
     | (go_at_call 27; refine (r5Size_c s k hk0 hk1 _).mono ?_; rintro e w' ⟨rfl, hbl⟩; rw [HZ.out]; have hst := cells_stay hbl)
     | (go_at_call 79; rw [HY.out, HWR.out]; refine (r6Of_c t p s i y _).mono ?_; rintro e w'' ⟨rfl, hbl2⟩; have hst := cells_stay hbl2))
   go_wp2
   go_ret2
   refine ⟨by rw [HA.out.1, HA.out.2]; rfl, ?_⟩
   all_goals exact blz
  ·have HB := hidp (at_out (t := t) (p := p) (s := s) (k := k) (i := i) (j := j) (by omega))
   clear hn
   go_enter Tryz.func107, Tryz.ntmps107
   go_wp2_with fail
   refine (r5Slots_c k hk0 hk1 _).mono ?_
   rintro e w1 ⟨rfl, rfl⟩
   rw [HN.out]
   go_wp2
   go_ret2
   refine ⟨by rw [HB.out.1, HB.out.2]; rfl, ?_⟩
   all_goals exact blz
end
end Go.Proofs.YtlpcdfcghgapkaaGreat

namespace Go.Proofs.YtlpcdfcghgapkaaGreat
open Go.ChangeShapes Go.WideShapes Go.ChangeAt Go.RowKit Go.Shelf
set_option linter.unusedVariables false
set_option linter.unusedSimpArgs false
section
set_option maxHeartbeats 6400000 in
set_option maxRecDepth 100000 in
theorem xSlab_c {H : AuH} {n c : Nat} (HV : HeapV H n c) (ad : Addr) {q : Nat} (hq : q < H.p) (hk : H.K q = 3) (w : World) (hv : IsVals w ad n H.V) :
    Calls Tryz.prog 80 #[hpV H ad n c, .int .i64 (q : Int), .int .i64 (H.Cl q)] w fun e w' => ∃ u, e = .returned u /\ w'.ownsRow w.heap.size 63 3 u (H.partsAt q).length (ptVs (H.partsAt q)) /\ Below w.heap.size w w' := by
  have HVL := hidp hv
  have hs := HV.nums
  have hg := pg_le HV
  have hf := first_eq HV hq
  have hkc := H.K_cases q
  have hcl : 0 <= H.Cl q /\ H.Cl q <= 8 := by omega
  have hsf : 0 < sizeN (H.s : Int) (H.Cl q) /\ slotI (H.Cl q) * sizeN (H.s : Int) (H.Cl q) <= H.pg := by
    obtain ⟨kc, hkc2⟩ : ∃ kc : Nat, H.Cl q = kc := ⟨(H.Cl q).toNat, by omega⟩
    have := size_facts (s := (H.s : Int)) (by omega) (k := kc) (by omega)
    rw [hg.2.2.1, hkc2, slotI_nat]
    refine ⟨?_, by have h := this.2.2.1; rwa [Nat.mul_comm] at h⟩
    have h := this
    omega
  have hz16 : sizeN (H.s : Int) (H.Cl q) <= 1048576 := sizeN_le _ _
  have hpa : H.partsAt q = H.slotsTo q (H.sl q) ++ H.slack q := by unfold AuH.partsAt; rw [if_neg (by omega), if_neg (by omega), if_pos hk]
  have hs32' := slotI_le (H.Cl q)
  have hslk : H.slack q = if H.sl q * H.zs q < H.pg then [(5, H.first q + ((H.sl q * H.zs q : Nat) : Int), (H.pg : Int) - ((H.sl q * H.zs q : Nat) : Int))] else [] := rfl
  have hsp : ∀ i : Nat, H.slotPart q i = (((slotKd (H.cel q 5) (H.cel q 4) i : Nat) : Int), H.first q + (i : Int) * (H.zs q : Int), (H.zs q : Int)) := fun i => rfl
  have hsl : H.sl q = slotI (H.Cl q) := rfl
  have hzs : H.zs q = sizeN (H.s : Int) (H.Cl q) := rfl
  rw [hsl, hzs] at hslk
  rw [hsl] at hpa
  rw [hzs] at hsp
  have hOF : ∀ o : Nat, o < H.pg -> addrI H.t H.p H.s q o = H.first q + (o : Int) /\ addrB H.t H.p H.s q o = true := fun o ho => by
    have hB : addrB H.t H.p H.s q o = true := by unfold addrB; rw [HV.right, hg.2.2.2, Bool.true_and, decide_eq_true_iff]; omega
    refine ⟨?_, hB⟩
    unfold addrI
    rw [if_pos hB, hg.2.2.2]
    rfl
  have hAT : ∀ i : Nat, i < slotI (H.Cl q) -> ∀ W : World, Calls Tryz.prog 107 #[(.agg #[.int .i64 (H.t : Int), .int .i64 (H.p : Int), .int .i64 (H.s : Int)]), .int .i64 (H.Cl q), .int .i64 (q : Int), .int .i64 (i : Int)] W fun e w' => e = .returned (.tuple #[.int .i64 (H.first q + ((i * sizeN (H.s : Int) (H.Cl q) : Nat) : Int)), .bool true]) /\ Below W.heap.size W w' := fun i hi W => by
    have h1 : (i + 1) * sizeN (H.s : Int) (H.Cl q) <= slotI (H.Cl q) * sizeN (H.s : Int) (H.Cl q) := Nat.mul_le_mul_right _ hi
    rw [Nat.succ_mul] at h1
    have h2 := hOF (i * sizeN (H.s : Int) (H.Cl q)) (by omega)
    have h3 : ((i * sizeN (H.s : Int) (H.Cl q) : Nat) : Int) = (i : Int) * (sizeN (H.s : Int) (H.Cl q) : Int) := by push_cast; rfl
    rw [h3] at h2
    have hB : atB H.t H.p H.s (H.Cl q) q i = true := by unfold atB; rw [h2.2, Bool.and_true, decide_eq_true_iff]; omega
    have h := r6At_c H.t H.p H.s (H.Cl q) q i (by omega) (by omega) W
    rw [show atI H.t H.p H.s (H.Cl q) q i = H.first q + ((i * sizeN (H.s : Int) (H.Cl q) : Nat) : Int) by unfold atI; rw [if_pos hB, h2.1, h3], hB] at h
    exact h
  obtain ⟨tk, htk⟩ : ∃ tk, H.cel q 5 = tk := ⟨_, rfl⟩
  obtain ⟨sv, hsv⟩ : ∃ sv, H.cel q 4 = sv := ⟨_, rfl⟩
  have HTV := hidp htk
  have HSV := hidp hsv
  have ht32 := HV.cel_lt hq (show 5 < 6 by omega)
  have hs32 := HV.cel_lt hq (show 4 < 6 by omega)
  rw [htk] at ht32
  rw [hsv] at hs32
  rw [htk, hsv] at hsp
  have HPA := hidp hpa
  have HSK := hidp hslk
  have HSP := hidp hsp
  have HAT := hidp hAT
  have HOF0 := hidp hOF
  have HPG : Hid (∀ W : World, Calls Tryz.prog 48 #[(.agg #[.int .i64 (H.t : Int), .int .i64 (H.p : Int), .int .i64 (H.s : Int)])] W fun e w' => e = .returned (.int .i64 ((H.pg : Nat) : Int)) /\ Below W.heap.size W w') := hidp (fun W => by have h := r4Page_c H.t H.p H.s W; rwa [hg.2.2.2] at h)
  have hfq := hf.2.2
  obtain ⟨fq, hfqq⟩ : ∃ fq, H.first q = fq := ⟨_, rfl⟩
  rw [hfqq] at hfq HAT HOF0 HSK HSP
  obtain ⟨pg, hpg⟩ : ∃ pg, H.pg = pg := ⟨_, rfl⟩
  rw [hpg] at hg hsf HPG HSK HOF0
  obtain ⟨m, hmm⟩ : ∃ m, slotI (H.Cl q) = m := ⟨_, rfl⟩
  have HSL := hidp hmm
  rw [hmm] at hsf hs32' HSK HAT HPA
  obtain ⟨z, hzz⟩ : ∃ z, sizeN (H.s : Int) (H.Cl q) = z := ⟨_, rfl⟩
  have HZ := hidp hzz
  rw [hzz] at hsf hz16 HSK HAT HSP
  obtain ⟨cl, hcll⟩ : ∃ k, H.Cl q = k := ⟨_, rfl⟩
  rw [hcll] at HSL HZ HAT hcl ⊢
  obtain ⟨j0, hjn, hjz0, hjz1, hjz2⟩ := info_parts partInfo
  have hpgb := hg.2.1
  obtain ⟨hz0, hfit⟩ := hsf
  have HX0 := hidp ((Held.new w 96 #[.int .i64 (H.t : Int), .int .i64 (H.p : Int), .int .i64 (H.s : Int), .slice (some ad) n c]).alloc (.cells #[] 63))
  obtain ⟨c0, c1, c2, c3⟩ := HX0.out.four
  have HBW := hidp (Bnew (Bnew (B0 w) (.cells #[.int .i64 (H.t : Int), .int .i64 (H.p : Int), .int .i64 (H.s : Int), .slice (some ad) n c] 96)) (.cells #[] 63))
  have HOW : Hid (((w.alloc (.cells #[.int .i64 (H.t : Int), .int .i64 (H.p : Int), .int .i64 (H.s : Int), .slice (some ad) n c] 96)).alloc (.cells #[] 63)).ownsRow (w.heap.size + 1) 63 3 (.slice (some ⟨(w.alloc (.cells #[.int .i64 (H.t : Int), .int .i64 (H.p : Int), .int .i64 (H.s : Int), .slice (some ad) n c] 96)).heap.size, 0, none⟩) 0 0) 0 []) := hidp (World.ownsRow_lit (base := (w.heap.size + 1)) (e := 63) (size := 3) (w.alloc (.cells #[.int .i64 (H.t : Int), .int .i64 (H.p : Int), .int .i64 (H.s : Int), .slice (some ad) n c] 96)) #[] 0 (by simp) (by unfold maxLen; omega) rfl)
  rw [World.size_alloc] at HOW
  clear hv hf hkc hk hfqq hpg htk hsv hs hg hmm hzz hcll hpa hslk hsp hOF hAT hsl hzs
  unfold hpV
  go_enter Tryz.func80, Tryz.ntmps80
  go_wp2_with (first
    | (go_at_call 27; refine (r5Size_c (H.s : Int) cl (by omega) (by omega) _).mono ?_; rintro e w2 ⟨rfl, hb2⟩; rw [HZ.out]; have HB2 := hidp (Bgo HBW.out hb2); have HX2 := hidp (HX0.out.keep hb2); have HO2 := hidp (own_below HOW.out hb2); clear hb2 c0 c1 c2 c3)
    | fail)
  go_loopw [7, 9] (fun u7 u9 wr => ∃ (i : Nat), i <= m /\ u9 = .int .i64 (i : Int) /\ Hid (wr.ownsRow (w.heap.size + 1) 63 3 u7 i (ptVs (H.slotsTo q i))) /\ Hid (Held wr w.heap.size 96 #[.int .i64 (H.t : Int), .int .i64 (H.p : Int), .int .i64 (H.s : Int), .slice (some ad) n c]) /\ Hid (Below w.heap.size w wr)) (fun _ u9 _ => m - (intOf u9).toNat)
  case atStart => exact ⟨0, by omega, rfl, hidp (by rw [show H.slotsTo q 0 = [] from rfl]; exact HO2.out), HX2, HB2⟩
  case round =>
    clear HX2 HB2 HO2 HX0 HBW HOW
    obtain ⟨i, hi, rfl, HO, HX, HB⟩ := hrel
    obtain ⟨c0, c1, c2, c3⟩ := HX.out.four
    by_cases hlt : i < m
    · have t0 : decide ((i : Int) < m) = true := decide_eq_true (by omega)
      have t0n : decide (i < m) = true := decide_eq_true hlt
      obtain ⟨y, hy⟩ : ∃ y, fq + ((i * z : Nat) : Int) = y := ⟨_, rfl⟩
      have HATI := hidp (HAT.out i hlt)
      rw [hy] at HATI
      have HYY : Hid (y = fq + (i : Int) * (z : Int)) := hidp (by rw [<- hy]; push_cast; rfl)
      obtain ⟨bt, hbt⟩ : ∃ x, tk.testBit ((i : Int)).toNat = x := ⟨_, rfl⟩
      obtain ⟨bl, hbl⟩ : ∃ x, sv.testBit ((i : Int)).toNat = x := ⟨_, rfl⟩
      have HBT := hidp hbt
      have HBL := hidp hbl
      have HBT1 : Hid (tk.testBit i = bt) := hidp (by rw [<- hbt, Int.toNat_natCast])
      have HBL1 : Hid (sv.testBit i = bl) := hidp (by rw [<- hbl, Int.toNat_natCast])
      have HT1 : Hid True := hidp trivial
      clear hbt hbl hy
      cases bt
      · cases bl
        · have HSN1 : Hid (ptVs (H.slotsTo q (i + 1)) = ptVs (H.slotsTo q i) ++ [.int .i64 3, .int .i64 y, .int .i64 (z : Int)]) := hidp (by
            rw [AuH.slotsTo_succ, ptVs_app, HSP.out i, ptVs_one, <- HYY.out]
            simp only [slotKd]
            rw [HBT1.out, HBL1.out]
            push_cast
            rfl)
          go_wp2_with (first
            | (go_at_call 49; refine (r5Slots_c cl (by omega) (by omega) _).mono ?_; rintro e w9 ⟨rfl, rfl⟩; rw [HSL.out])
            | (go_at_call 107; refine (HATI.out _).mono ?_; rintro e w2 ⟨rfl, hb2⟩; have HB2 := hidp (Bgo HB.out hb2); have HX2 := hidp (HX.out.keep hb2); have HO2 := hidp (own_below HO.out hb2); clear hb2 c0 c1 c2 c3; obtain ⟨c0, c1, c2, c3⟩ := HX2.out.four)
            | (go_at_call 94; refine (xTaken_c HV ad hq _ (HVL.out.below HB2.out)).mono ?_; rintro e w3 ⟨rfl, hb3⟩; rw [HTV.out]; have HB3 := hidp (Bgo HB2.out hb3); have HX3 := hidp (HX2.out.keep hb3); have HO3 := hidp (own_below HO2.out hb3); clear hb3 c0 c1 c2 c3; obtain ⟨c0, c1, c2, c3⟩ := HX3.out.four)
            | (have hz9 := HT1.out; clear hz9 HT1; go_at_call 92; refine (Bit_c tk (i : Int) false ht32 (by omega) (by omega) HBT.out _).mono ?_; rintro e w9 ⟨rfl, rfl⟩)
            | (go_at_call 93; refine (xSlots_c HV ad hq _ (HVL.out.below HB3.out)).mono ?_; rintro e w4 ⟨rfl, hb4⟩; rw [HSV.out]; have HB4 := hidp (Bgo HB3.out hb4); have HX4 := hidp (HX3.out.keep hb4); have HO4 := hidp (own_below HO3.out hb4); clear hb4 c0 c1 c2 c3; obtain ⟨c0, c1, c2, c3⟩ := HX4.out.four; have hb4s := HX4.out.lt)
            | (go_at_call 92; refine (Bit_c sv (i : Int) false hs32 (by omega) (by omega) HBL.out _).mono ?_; rintro e w9 ⟨rfl, rfl⟩)
            | (at_builtin
               refine wpList_append_lies _ rfl _ _ 56 rfl (w.heap.size + 1) 63 j0 (.agg #[.int .i64 0, .int .i64 0, .int .i64 0]) 3 24 Tryz.underlying56 hjn hjz0 hjz1 hjz2 rfl (by decide) u7 i (ptVs (H.slotsTo q i)) rfl (HO4.out.alloc _) ⟨_, 0, none⟩ 1 1 [.int .i64 3, .int .i64 y, .int .i64 (z : Int)] rfl rfl ?c1 ?c2 (by omega) ?c3 ?c4 ?c5 _ rfl ?_
               case c1 => exact fun jj yy hyy => World.news_of_block (w := w4.alloc (.cells #[.int .i64 3, .int .i64 y, .int .i64 (z : Int)] 63)) (heap_alloc_new w4 _) jj yy (by simpa using hyy)
               case c2 => simp [Value.oneCell']
               case c3 => unfold maxLen; omega
               case c4 => omega
               case c5 => simp; omega
               intro g cap w8 hown8 hgrow8 hat8 hlt8)
            | fail)
          have HX8 := hidp (held_grown (HX4.out.alloc (.cells #[.int .i64 3, .int .i64 y, .int .i64 (z : Int)] 63)) hgrow8 (fun e => by have := (HO4.out.lt _ e).1; omega))
          have HB8 := hidp ((Bnew HB4.out (.cells #[.int .i64 3, .int .i64 y, .int .i64 (z : Int)] 63)).grown hgrow8 (by have := HB4.out.size; simp; omega) (fun j hj => by have := (HO4.out.lt j hj).1; omega))
          have HO8 := hidp hown8
          clear hown8 hgrow8 hat8 hlt8
          have HO9 : Hid (w8.ownsRow (w.heap.size + 1) 63 3 (.slice (some ⟨g, 0, none⟩) (i + 1) cap) (i + 1) (ptVs (H.slotsTo q (i + 1)))) := hidp (by rw [HSN1.out]; exact HO8.out)
          clear HO8
          go_wp2_with fail
          go_roundw
          case rel => exact ⟨i + 1, by omega, by go_num, HO9, HX8, HB8⟩
          case measure => simp [intOf]; omega
        · have HSN1 : Hid (ptVs (H.slotsTo q (i + 1)) = ptVs (H.slotsTo q i) ++ [.int .i64 2, .int .i64 y, .int .i64 (z : Int)]) := hidp (by
            rw [AuH.slotsTo_succ, ptVs_app, HSP.out i, ptVs_one, <- HYY.out]
            simp only [slotKd]
            rw [HBT1.out, HBL1.out]
            push_cast
            rfl)
          go_wp2_with (first
            | (go_at_call 49; refine (r5Slots_c cl (by omega) (by omega) _).mono ?_; rintro e w9 ⟨rfl, rfl⟩; rw [HSL.out])
            | (go_at_call 107; refine (HATI.out _).mono ?_; rintro e w2 ⟨rfl, hb2⟩; have HB2 := hidp (Bgo HB.out hb2); have HX2 := hidp (HX.out.keep hb2); have HO2 := hidp (own_below HO.out hb2); clear hb2 c0 c1 c2 c3; obtain ⟨c0, c1, c2, c3⟩ := HX2.out.four)
            | (go_at_call 94; refine (xTaken_c HV ad hq _ (HVL.out.below HB2.out)).mono ?_; rintro e w3 ⟨rfl, hb3⟩; rw [HTV.out]; have HB3 := hidp (Bgo HB2.out hb3); have HX3 := hidp (HX2.out.keep hb3); have HO3 := hidp (own_below HO2.out hb3); clear hb3 c0 c1 c2 c3; obtain ⟨c0, c1, c2, c3⟩ := HX3.out.four)
            | (have hz9 := HT1.out; clear hz9 HT1; go_at_call 92; refine (Bit_c tk (i : Int) false ht32 (by omega) (by omega) HBT.out _).mono ?_; rintro e w9 ⟨rfl, rfl⟩)
            | (go_at_call 93; refine (xSlots_c HV ad hq _ (HVL.out.below HB3.out)).mono ?_; rintro e w4 ⟨rfl, hb4⟩; rw [HSV.out]; have HB4 := hidp (Bgo HB3.out hb4); have HX4 := hidp (HX3.out.keep hb4); have HO4 := hidp (own_below HO3.out hb4); clear hb4 c0 c1 c2 c3; obtain ⟨c0, c1, c2, c3⟩ := HX4.out.four; have hb4s := HX4.out.lt)
            | (go_at_call 92; refine (Bit_c sv (i : Int) true hs32 (by omega) (by omega) HBL.out _).mono ?_; rintro e w9 ⟨rfl, rfl⟩)
            | (at_builtin
               refine wpList_append_lies _ rfl _ _ 56 rfl (w.heap.size + 1) 63 j0 (.agg #[.int .i64 0, .int .i64 0, .int .i64 0]) 3 24 Tryz.underlying56 hjn hjz0 hjz1 hjz2 rfl (by decide) u7 i (ptVs (H.slotsTo q i)) rfl (HO4.out.alloc _) ⟨_, 0, none⟩ 1 1 [.int .i64 2, .int .i64 y, .int .i64 (z : Int)] rfl rfl ?c1 ?c2 (by omega) ?c3 ?c4 ?c5 _ rfl ?_
               case c1 => exact fun jj yy hyy => World.news_of_block (w := w4.alloc (.cells #[.int .i64 2, .int .i64 y, .int .i64 (z : Int)] 63)) (heap_alloc_new w4 _) jj yy (by simpa using hyy)
               case c2 => simp [Value.oneCell']
               case c3 => unfold maxLen; omega
               case c4 => omega
               case c5 => simp; omega
               intro g cap w8 hown8 hgrow8 hat8 hlt8)
            | fail)
          have HX8 := hidp (held_grown (HX4.out.alloc (.cells #[.int .i64 2, .int .i64 y, .int .i64 (z : Int)] 63)) hgrow8 (fun e => by have := (HO4.out.lt _ e).1; omega))
          have HB8 := hidp ((Bnew HB4.out (.cells #[.int .i64 2, .int .i64 y, .int .i64 (z : Int)] 63)).grown hgrow8 (by have := HB4.out.size; simp; omega) (fun j hj => by have := (HO4.out.lt j hj).1; omega))
          have HO8 := hidp hown8
          clear hown8 hgrow8 hat8 hlt8
          have HO9 : Hid (w8.ownsRow (w.heap.size + 1) 63 3 (.slice (some ⟨g, 0, none⟩) (i + 1) cap) (i + 1) (ptVs (H.slotsTo q (i + 1)))) := hidp (by rw [HSN1.out]; exact HO8.out)
          clear HO8
          go_wp2_with fail
          go_roundw
          case rel => exact ⟨i + 1, by omega, by go_num, HO9, HX8, HB8⟩
          case measure => simp [intOf]; omega
      · cases bl
        · have HSN1 : Hid (ptVs (H.slotsTo q (i + 1)) = ptVs (H.slotsTo q i) ++ [.int .i64 4, .int .i64 y, .int .i64 (z : Int)]) := hidp (by
            rw [AuH.slotsTo_succ, ptVs_app, HSP.out i, ptVs_one, <- HYY.out]
            simp only [slotKd]
            rw [HBT1.out, HBL1.out]
            push_cast
            rfl)
          go_wp2_with (first
            | (go_at_call 49; refine (r5Slots_c cl (by omega) (by omega) _).mono ?_; rintro e w9 ⟨rfl, rfl⟩; rw [HSL.out])
            | (go_at_call 107; refine (HATI.out _).mono ?_; rintro e w2 ⟨rfl, hb2⟩; have HB2 := hidp (Bgo HB.out hb2); have HX2 := hidp (HX.out.keep hb2); have HO2 := hidp (own_below HO.out hb2); clear hb2 c0 c1 c2 c3; obtain ⟨c0, c1, c2, c3⟩ := HX2.out.four)
            | (go_at_call 94; refine (xTaken_c HV ad hq _ (HVL.out.below HB2.out)).mono ?_; rintro e w3 ⟨rfl, hb3⟩; rw [HTV.out]; have HB3 := hidp (Bgo HB2.out hb3); have HX3 := hidp (HX2.out.keep hb3); have HO3 := hidp (own_below HO2.out hb3); clear hb3 c0 c1 c2 c3; obtain ⟨c0, c1, c2, c3⟩ := HX3.out.four)
            | (have hz9 := HT1.out; clear hz9 HT1; go_at_call 92; refine (Bit_c tk (i : Int) true ht32 (by omega) (by omega) HBT.out _).mono ?_; rintro e w9 ⟨rfl, rfl⟩)
            | (go_at_call 93; refine (xSlots_c HV ad hq _ (HVL.out.below HB3.out)).mono ?_; rintro e w4 ⟨rfl, hb4⟩; rw [HSV.out]; have HB4 := hidp (Bgo HB3.out hb4); have HX4 := hidp (HX3.out.keep hb4); have HO4 := hidp (own_below HO3.out hb4); clear hb4 c0 c1 c2 c3; obtain ⟨c0, c1, c2, c3⟩ := HX4.out.four; have hb4s := HX4.out.lt)
            | (go_at_call 92; refine (Bit_c sv (i : Int) false hs32 (by omega) (by omega) HBL.out _).mono ?_; rintro e w9 ⟨rfl, rfl⟩)
            | (at_builtin
               refine wpList_append_lies _ rfl _ _ 56 rfl (w.heap.size + 1) 63 j0 (.agg #[.int .i64 0, .int .i64 0, .int .i64 0]) 3 24 Tryz.underlying56 hjn hjz0 hjz1 hjz2 rfl (by decide) u7 i (ptVs (H.slotsTo q i)) rfl (HO4.out.alloc _) ⟨_, 0, none⟩ 1 1 [.int .i64 4, .int .i64 y, .int .i64 (z : Int)] rfl rfl ?c1 ?c2 (by omega) ?c3 ?c4 ?c5 _ rfl ?_
               case c1 => exact fun jj yy hyy => World.news_of_block (w := w4.alloc (.cells #[.int .i64 4, .int .i64 y, .int .i64 (z : Int)] 63)) (heap_alloc_new w4 _) jj yy (by simpa using hyy)
               case c2 => simp [Value.oneCell']
               case c3 => unfold maxLen; omega
               case c4 => omega
               case c5 => simp; omega
               intro g cap w8 hown8 hgrow8 hat8 hlt8)
            | fail)
          have HX8 := hidp (held_grown (HX4.out.alloc (.cells #[.int .i64 4, .int .i64 y, .int .i64 (z : Int)] 63)) hgrow8 (fun e => by have := (HO4.out.lt _ e).1; omega))
          have HB8 := hidp ((Bnew HB4.out (.cells #[.int .i64 4, .int .i64 y, .int .i64 (z : Int)] 63)).grown hgrow8 (by have := HB4.out.size; simp; omega) (fun j hj => by have := (HO4.out.lt j hj).1; omega))
          have HO8 := hidp hown8
          clear hown8 hgrow8 hat8 hlt8
          have HO9 : Hid (w8.ownsRow (w.heap.size + 1) 63 3 (.slice (some ⟨g, 0, none⟩) (i + 1) cap) (i + 1) (ptVs (H.slotsTo q (i + 1)))) := hidp (by rw [HSN1.out]; exact HO8.out)
          clear HO8
          go_wp2_with fail
          go_roundw
          case rel => exact ⟨i + 1, by omega, by go_num, HO9, HX8, HB8⟩
          case measure => simp [intOf]; omega
        · have HSN1 : Hid (ptVs (H.slotsTo q (i + 1)) = ptVs (H.slotsTo q i) ++ [.int .i64 2, .int .i64 y, .int .i64 (z : Int)]) := hidp (by
            rw [AuH.slotsTo_succ, ptVs_app, HSP.out i, ptVs_one, <- HYY.out]
            simp only [slotKd]
            rw [HBT1.out, HBL1.out]
            push_cast
            rfl)
          go_wp2_with (first
            | (go_at_call 49; refine (r5Slots_c cl (by omega) (by omega) _).mono ?_; rintro e w9 ⟨rfl, rfl⟩; rw [HSL.out])
            | (go_at_call 107; refine (HATI.out _).mono ?_; rintro e w2 ⟨rfl, hb2⟩; have HB2 := hidp (Bgo HB.out hb2); have HX2 := hidp (HX.out.keep hb2); have HO2 := hidp (own_below HO.out hb2); clear hb2 c0 c1 c2 c3; obtain ⟨c0, c1, c2, c3⟩ := HX2.out.four)
            | (go_at_call 94; refine (xTaken_c HV ad hq _ (HVL.out.below HB2.out)).mono ?_; rintro e w3 ⟨rfl, hb3⟩; rw [HTV.out]; have HB3 := hidp (Bgo HB2.out hb3); have HX3 := hidp (HX2.out.keep hb3); have HO3 := hidp (own_below HO2.out hb3); clear hb3 c0 c1 c2 c3; obtain ⟨c0, c1, c2, c3⟩ := HX3.out.four)
            | (have hz9 := HT1.out; clear hz9 HT1; go_at_call 92; refine (Bit_c tk (i : Int) true ht32 (by omega) (by omega) HBT.out _).mono ?_; rintro e w9 ⟨rfl, rfl⟩)
            | (go_at_call 93; refine (xSlots_c HV ad hq _ (HVL.out.below HB3.out)).mono ?_; rintro e w4 ⟨rfl, hb4⟩; rw [HSV.out]; have HB4 := hidp (Bgo HB3.out hb4); have HX4 := hidp (HX3.out.keep hb4); have HO4 := hidp (own_below HO3.out hb4); clear hb4 c0 c1 c2 c3; obtain ⟨c0, c1, c2, c3⟩ := HX4.out.four; have hb4s := HX4.out.lt)
            | (go_at_call 92; refine (Bit_c sv (i : Int) true hs32 (by omega) (by omega) HBL.out _).mono ?_; rintro e w9 ⟨rfl, rfl⟩)
            | (at_builtin
               refine wpList_append_lies _ rfl _ _ 56 rfl (w.heap.size + 1) 63 j0 (.agg #[.int .i64 0, .int .i64 0, .int .i64 0]) 3 24 Tryz.underlying56 hjn hjz0 hjz1 hjz2 rfl (by decide) u7 i (ptVs (H.slotsTo q i)) rfl (HO4.out.alloc _) ⟨_, 0, none⟩ 1 1 [.int .i64 2, .int .i64 y, .int .i64 (z : Int)] rfl rfl ?c1 ?c2 (by omega) ?c3 ?c4 ?c5 _ rfl ?_
               case c1 => exact fun jj yy hyy => World.news_of_block (w := w4.alloc (.cells #[.int .i64 2, .int .i64 y, .int .i64 (z : Int)] 63)) (heap_alloc_new w4 _) jj yy (by simpa using hyy)
               case c2 => simp [Value.oneCell']
               case c3 => unfold maxLen; omega
               case c4 => omega
               case c5 => simp; omega
               intro g cap w8 hown8 hgrow8 hat8 hlt8)
            | fail)
          have HX8 := hidp (held_grown (HX4.out.alloc (.cells #[.int .i64 2, .int .i64 y, .int .i64 (z : Int)] 63)) hgrow8 (fun e => by have := (HO4.out.lt _ e).1; omega))
          have HB8 := hidp ((Bnew HB4.out (.cells #[.int .i64 2, .int .i64 y, .int .i64 (z : Int)] 63)).grown hgrow8 (by have := HB4.out.size; simp; omega) (fun j hj => by have := (HO4.out.lt j hj).1; omega))
          have HO8 := hidp hown8
          clear hown8 hgrow8 hat8 hlt8
          have HO9 : Hid (w8.ownsRow (w.heap.size + 1) 63 3 (.slice (some ⟨g, 0, none⟩) (i + 1) cap) (i + 1) (ptVs (H.slotsTo q (i + 1)))) := hidp (by rw [HSN1.out]; exact HO8.out)
          clear HO8
          go_wp2_with fail
          go_roundw
          case rel => exact ⟨i + 1, by omega, by go_num, HO9, HX8, HB8⟩
          case measure => simp [intOf]; omega
    · have t0 : decide ((i : Int) < m) = false := decide_eq_false (by omega)
      have t0n : decide (i < m) = false := decide_eq_false hlt
      have him : i = m := by omega
      subst him
      obtain ⟨M, hM⟩ : ∃ M, i * z = M := ⟨_, rfl⟩
      rw [hM] at hfit HSK
      have hzm : (z : Int) * (i : Int) = (M : Int) := by rw [<- hM]; push_cast; rw [Int.mul_comm]
      have sw1 : IntKind.i64.wrap ((z : Int) * (i : Int)) = (M : Int) := by rw [hzm]; exact i64_same (by omega) (by omega)
      obtain ⟨r, hr⟩ : ∃ r : Int, (pg : Int) - (M : Int) = r := ⟨_, rfl⟩
      have sw2 : IntKind.i64.wrap ((pg : Int) - (M : Int)) = r := by rw [i64_same (by omega) (by omega)]; exact hr
      have sw3 : IntKind.i64.wrap ((pg : Int) - r) = (M : Int) := by rw [i64_same (by omega) (by omega)]; omega
      by_cases hMp : M < pg
      · have hrp : decide ((0 : Int) < r) = true := decide_eq_true (by omega)
        obtain ⟨ye, hye⟩ : ∃ ye, fq + (M : Int) = ye := ⟨_, rfl⟩
        have HOF : Hid (∀ W : World, Calls Tryz.prog 79 #[(.agg #[.int .i64 (H.t : Int), .int .i64 (H.p : Int), .int .i64 (H.s : Int)]), .int .i64 (q : Int), .int .i64 (M : Int)] W fun e w' => e = .returned (.tuple #[.int .i64 ye, .bool true]) /\ Below W.heap.size W w') := hidp (fun W => by
          have h := r6Of_c H.t H.p H.s q M W
          have h2 := HOF0.out M hMp
          rwa [h2.1, h2.2, hye] at h)
        have HPB : Hid (H.partsAt q = H.slotsTo q i ++ [(5, ye, r)]) := hidp (by rw [HPA.out, HSK.out, if_pos hMp, hr, hye])
        clear hzm hr hM hye hMp HAT
        go_wp2_with (first
          | (go_at_call 49; refine (r5Slots_c cl (by omega) (by omega) _).mono ?_; rintro e w9 ⟨rfl, rfl⟩; rw [HSL.out])
          | (go_at_call 48; refine (HPG.out _).mono ?_; rintro e w2 ⟨rfl, hb2⟩; have HB2 := hidp (Bgo HB.out hb2); have HX2 := hidp (HX.out.keep hb2); have HO2 := hidp (own_below HO.out hb2); clear hb2 c0 c1 c2 c3; obtain ⟨c0, c1, c2, c3⟩ := HX2.out.four)
          | fail)
        refine wp_region_held_drew (S := (fun w' => w'.cell? ⟨w.heap.size, 0, none⟩ = some (.int .i64 (H.t : Int)) /\ w'.cell? ⟨w.heap.size, 1, none⟩ = some (.int .i64 (H.p : Int)) /\ w'.cell? ⟨w.heap.size, 2, none⟩ = some (.int .i64 (H.s : Int)) /\ w'.cell? ⟨w.heap.size, 3, none⟩ = some (.slice (some ad) n c))) (by kernel_rfl) ?_ (fun hHeld => ?_)
        · (try dsimp only)
          first | exact HX2.out.drew.four | exact HX3.out.four | exact HX4.out.four | exact hHeld
        refine tkz 0 ?_
        refine tkz 1 ?_
        refine tkz 2 ?_
        refine tkz 3 ?_
        refine tkz 4 ?_
        refine tkz 6 ?_
        refine rdz 5 fun K hK => ?_
        go_simp
        (go_at_call 48; refine (HPG.out _).mono ?_; rintro e w3 ⟨rfl, hb3⟩; have HB3 := hidp (Bgo (Bdrew HB2.out) hb3); have HX3 := hidp (HX2.out.drew.keep hb3); have HO3 := hidp (own_below (w := w2.drew) HO2.out hb3); clear hb3)
        refine hK.out _ _ ?_ (fun hHeld => ?_)
        · (try dsimp only)
          first | exact HX2.out.drew.four | exact HX3.out.four | exact HX4.out.four | exact hHeld
        clear hK K
        (try simp only [Act.put, gA, gB, gC, sA, sB, sC])
        refine tkz 7 ?_
        refine rdz 8 fun K hK => ?_
        go_simp
        (go_at_call 79; refine (HOF.out _).mono ?_; rintro e w4 ⟨rfl, hb4⟩; have HB4 := hidp (Bgo HB3.out hb4); have HX4 := hidp (HX3.out.keep hb4); have HO4 := hidp (own_below HO3.out hb4); clear hb4)
        refine hK.out _ _ ?_ (fun hHeld => ?_)
        · (try dsimp only)
          first | exact HX2.out.drew.four | exact HX3.out.four | exact HX4.out.four | exact hHeld
        clear hK K
        (try simp only [Act.put, gA, gB, gC, sA, sB, sC])
        refine tkz 9 ?_
        refine tkz 10 ?_
        refine tkz 11 ?_
        refine tkz 12 ?_
        refine tkz 13 ?_
        refine dnz ?_
        have hb4s := HX4.out.lt
        go_wp2_with (first
          | (at_builtin
             refine wpList_append_lies _ rfl _ _ 56 rfl (w.heap.size + 1) 63 j0 (.agg #[.int .i64 0, .int .i64 0, .int .i64 0]) 3 24 Tryz.underlying56 hjn hjz0 hjz1 hjz2 rfl (by decide) u7 i (ptVs (H.slotsTo q i)) rfl (HO4.out.alloc _) ⟨_, 0, none⟩ 1 1 [.int .i64 5, .int .i64 ye, .int .i64 r] rfl rfl ?c1 ?c2 (by omega) ?c3 ?c4 ?c5 _ rfl ?_
             case c1 => exact fun jj yy hyy => World.news_of_block (w := w4.alloc (.cells #[.int .i64 5, .int .i64 ye, .int .i64 r] 63)) (heap_alloc_new w4 _) jj yy (by simpa using hyy)
             case c2 => simp [Value.oneCell']
             case c3 => unfold maxLen; omega
             case c4 => omega
             case c5 => simp; omega
             intro g cap w8 hown8 hgrow8 hat8 hlt8)
          | fail)
        have HX8 := hidp (held_grown (HX4.out.alloc (.cells #[.int .i64 5, .int .i64 ye, .int .i64 r] 63)) hgrow8 (fun e => by have := (HO4.out.lt _ e).1; omega))
        have HB8 := hidp ((Bnew HB4.out (.cells #[.int .i64 5, .int .i64 ye, .int .i64 r] 63)).grown hgrow8 (by have := HB4.out.size; simp; omega) (fun j hj => by have := (HO4.out.lt j hj).1; omega))
        have HO8 := hidp hown8
        clear hown8 hgrow8 hat8 hlt8
        go_ret
        refine ⟨_, rfl, own_down (base := (w.heap.size + 1)) ?_ (by omega), HB8.out⟩
        have e : (H.partsAt q).length = i + 1 := by rw [HPB.out]; simp [AuH.slotsTo_len]
        rw [e, HPB.out, ptVs_app, ptVs_one]
        exact HO8.out
      · have hrp : decide ((0 : Int) < r) = false := decide_eq_false (by omega)
        have HPB : Hid (H.partsAt q = H.slotsTo q i) := hidp (by rw [HPA.out, HSK.out, if_neg hMp, List.append_nil])
        clear hzm hr hM hMp HAT
        go_wp2_with (first
          | (go_at_call 49; refine (r5Slots_c cl (by omega) (by omega) _).mono ?_; rintro e w9 ⟨rfl, rfl⟩; rw [HSL.out])
          | (go_at_call 48; refine (HPG.out _).mono ?_; rintro e w2 ⟨rfl, hb2⟩; have HB2 := hidp (Bgo HB.out hb2); have HX2 := hidp (HX.out.keep hb2); have HO2 := hidp (own_below HO.out hb2); clear hb2 c0 c1 c2 c3; obtain ⟨c0, c1, c2, c3⟩ := HX2.out.four)
          | fail)
        go_ret
        refine ⟨_, rfl, own_down (base := (w.heap.size + 1)) ?_ (by omega), HB2.out⟩
        have e : (H.partsAt q).length = i := by rw [HPB.out, AuH.slotsTo_len]
        rw [e, HPB.out]
        exact HO2.out
end
section
theorem ptVs_ints (l : List (Int × Int × Int)) : ∀ u ∈ ptVs l, u.oneCell' = true := fun u hu => by
 unfold ptVs at hu
 obtain ⟨x, _, hx⟩ := List.mem_flatMap.1 hu
 simp at hx
 rcases hx with rfl | rfl | rfl <;> rfl
set_option maxHeartbeats 6400000 in
set_option maxRecDepth 100000 in
theorem xParts_c {H : AuH} {n c : Nat} (HV : HeapV H n c) (ad : Addr) (w : World) (hv : IsVals w ad n H.V) :
    Calls Tryz.prog 47 #[hpV H ad n c] w fun e w' => ∃ u, e = .returned u /\ w'.ownsRow w.heap.size 63 3 u H.parts.length (ptVs H.parts) /\ Below w.heap.size w w' := by
  have HVL := hidp hv
  have hg := pg_le HV
  have hn := HV.nums
  have hcx : c <= 9223372036854775807 := hn.2.2.2.2.2.2.2.2
  have hni : n <= 6238 := hn.2.2.2.2.2.2.1
  have hnc := HV.cap
  have hp1 := hn.2.2.2.1
  obtain ⟨j0, hjn, hjz0, hjz1, hjz2⟩ := info_parts partInfo
  have HX0 := hidp ((Held.new w 96 #[.int .i64 (H.t : Int), .int .i64 (H.p : Int), .int .i64 (H.s : Int), .slice (some ad) n c]).alloc (.cells #[] 63))
  obtain ⟨c0, c1, c2, c3⟩ := HX0.out.four
  have HBW := hidp (Bnew (Bnew (B0 w) (.cells #[.int .i64 (H.t : Int), .int .i64 (H.p : Int), .int .i64 (H.s : Int), .slice (some ad) n c] 96)) (.cells #[] 63))
  have HOW : Hid (((w.alloc (.cells #[.int .i64 (H.t : Int), .int .i64 (H.p : Int), .int .i64 (H.s : Int), .slice (some ad) n c] 96)).alloc (.cells #[] 63)).ownsRow (w.heap.size + 1) 63 3 (.slice (some ⟨(w.alloc (.cells #[.int .i64 (H.t : Int), .int .i64 (H.p : Int), .int .i64 (H.s : Int), .slice (some ad) n c] 96)).heap.size, 0, none⟩) 0 0) 0 []) := hidp (World.ownsRow_lit (base := (w.heap.size + 1)) (e := 63) (size := 3) (w.alloc (.cells #[.int .i64 (H.t : Int), .int .i64 (H.p : Int), .int .i64 (H.s : Int), .slice (some ad) n c] 96)) #[] 0 (by simp) (by unfold maxLen; omega) rfl)
  rw [World.size_alloc] at HOW
  have HPG0 : Hid (∀ W : World, Calls Tryz.prog 48 #[(.agg #[.int .i64 (H.t : Int), .int .i64 (H.p : Int), .int .i64 (H.s : Int)])] W fun e w' => e = .returned (.int .i64 ((H.pg : Nat) : Int)) /\ Below W.heap.size W w') := hidp (fun W => by have h := r4Page_c H.t H.p H.s W; rwa [hg.2.2.2] at h)
  have hgb := hg.2.1
  clear hv hn hg
  unfold hpV
  go_enter Tryz.func47, Tryz.ntmps47
  go_wp2_with fail
  generalize (w.alloc (.cells #[.int .i64 (H.t : Int), .int .i64 (H.p : Int), .int .i64 (H.s : Int), .slice (some ad) n c] 96)).alloc (.cells #[] 63) = W0 at *
  clear c0 c1 c2 c3
  go_loopw [3, 4] (fun u3 u4 wr => ∃ (p nl : Nat) (l : List (Int × Int × Int)), p <= H.p /\ u4 = .int .i64 (p : Int) /\ nl <= p * 33 /\ Hid (AuH.catTo H.partsAt p = l) /\ Hid (l.length = nl) /\ Hid (wr.ownsRow (w.heap.size + 1) 63 3 u3 nl (ptVs l)) /\ Hid (Held wr w.heap.size 96 #[.int .i64 (H.t : Int), .int .i64 (H.p : Int), .int .i64 (H.s : Int), .slice (some ad) n c]) /\ Hid (Below w.heap.size w wr)) (fun _ u4 _ => H.p - (intOf u4).toNat)
  case atStart => exact ⟨0, 0, [], by omega, rfl, by omega, hidp rfl, hidp rfl, HOW, HX0, HBW⟩
  case round =>
    clear HX0 HBW HOW
    obtain ⟨p, nl, l, hp, rfl, hnl, HCT, HLN, HO, HX, HB⟩ := hrel
    obtain ⟨c0, c1, c2, c3⟩ := HX.out.four
    by_cases hlt : p < H.p
    · have t0 : decide ((p : Int) < H.p) = true := decide_eq_true (by omega)
      have hnl9 : nl <= 100000 := by omega
      have hf := first_eq HV hlt
      have HOF : Hid (∀ W : World, Calls Tryz.prog 79 #[(.agg #[.int .i64 (H.t : Int), .int .i64 (H.p : Int), .int .i64 (H.s : Int)]), .int .i64 (p : Int), .int .i64 0] W fun e w' => e = .returned (.tuple #[.int .i64 (H.first p), .bool true]) /\ Below W.heap.size W w') := hidp (fun W => by
        have h := r6Of_c H.t H.p H.s p 0 W
        rwa [hf.1, hf.2.1] at h)
      have hkc := H.K_cases p
      obtain ⟨kk, hkk⟩ : ∃ k, H.K p = k := ⟨_, rfl⟩
      obtain ⟨m, hmm⟩ : ∃ m, H.ln p = m := ⟨_, rfl⟩
      obtain ⟨cl, hcl⟩ : ∃ k, H.Cl p = k := ⟨_, rfl⟩
      have HK := hidp hkk
      have HM := hidp hmm
      have HCL := hidp hcl
      rw [hkk, hmm, hcl] at hkc
      obtain ⟨fp, hfp⟩ : ∃ x, H.first p = x := ⟨_, rfl⟩
      rw [hfp] at HOF
      obtain ⟨pg, hpg⟩ : ∃ x, H.pg = x := ⟨_, rfl⟩
      have HPG := hidp HPG0.out
      rw [hpg] at HPG hgb
      obtain ⟨zz, hzz⟩ : ∃ z : Int, (m : Int) * (pg : Int) = z := ⟨_, rfl⟩
      have hmz : m * pg <= 1024 * 1048576 := Nat.mul_le_mul (by omega) hgb
      have sw : IntKind.i64.wrap ((m : Int) * (pg : Int)) = zz := by
        rw [<- hzz]
        have hc : ((m * pg : Nat) : Int) = (m : Int) * (pg : Int) := by push_cast; rfl
        rw [<- hc]
        exact i64_same (by omega) (by omega)
      clear hf
      rcases (by omega : H.K p = 0 \/ H.K p = 1 \/ H.K p = 2 \/ H.K p = 3) with hk | hk | hk | hk
      · have HCT1 : Hid (AuH.catTo H.partsAt (p + 1) = l) := hidp (by
          rw [<- HCT.out]
          show AuH.catTo H.partsAt p ++ H.partsAt p = _
          rw [AuH.partsAt_no hk, List.append_nil])
        rw [hkk] at hk
        subst hk
        clear hkk hmm hcl hkc hfp hpg hzz hmz
        go_wp2_with (first
          | (go_at_call 78; refine (xInfo_c HV ad hlt _ (HVL.out.below HB.out)).mono ?_; rintro e w2 ⟨rfl, hb2⟩; rw [HK.out, HM.out, HCL.out]; have HGN : Hid (∀ g, u3.ownBlock = some g -> g < w2.heap.size) := hidp (fun g h => by have h1 := (HO.out.lt g h).2; have h2 := hb2.size; omega); have HB3 := hidp (Bnew (Bgo HB.out hb2) (.cells #[.int .i64 0, .int .i64 (m : Int), .int .i64 cl] 76)); have HX3 := hidp ((HX.out.keep hb2).alloc (.cells #[.int .i64 0, .int .i64 (m : Int), .int .i64 cl] 76)); have HO3 := hidp ((own_below HO.out hb2).alloc (.cells #[.int .i64 0, .int .i64 (m : Int), .int .i64 cl] 76)); have HI3 := hidp (Held.new w2 76 #[.int .i64 0, .int .i64 (m : Int), .int .i64 cl]); have HG2 := hidp (rfl : w2.heap.size = w2.heap.size); clear hb2 c0 c1 c2 c3; obtain ⟨c0, c1, c2, c3⟩ := HX3.out.four; obtain ⟨d0, d1, d2⟩ := HI3.out.three)
          | (go_at_call 79; refine (HOF.out _).mono ?_; rintro e w4 ⟨rfl, hb4⟩; have HB4 := hidp (Bgo HB3.out hb4); have HX4 := hidp (HX3.out.keep hb4); have HO4 := hidp (own_below HO3.out hb4); have HI4 := hidp (HI3.out.keep hb4); clear hb4 c0 c1 c2 c3 d0 d1 d2; obtain ⟨c0, c1, c2, c3⟩ := HX4.out.four; obtain ⟨d0, d1, d2⟩ := HI4.out.three)
          | fail)
        go_roundw
        case rel => exact ⟨p + 1, nl, l, by omega, by go_num, by omega, HCT1, HLN, HO4, HX4, HB4⟩
        case measure => simp [intOf]; omega
      · have HPA : Hid (H.partsAt p = [(1, fp, zz)]) := hidp (by rw [<- hfp, <- hzz, <- hmm, <- hpg]; unfold AuH.partsAt; rw [if_pos hk])
        have HCT1 : Hid (AuH.catTo H.partsAt (p + 1) = l ++ [(1, fp, zz)]) := hidp (by rw [<- HPA.out, <- HCT.out]; rfl)
        rw [hkk] at hk
        subst hk
        clear hkk hmm hcl hkc hfp hpg hzz hmz
        go_wp2_with (first
          | (go_at_call 78; refine (xInfo_c HV ad hlt _ (HVL.out.below HB.out)).mono ?_; rintro e w2 ⟨rfl, hb2⟩; rw [HK.out, HM.out, HCL.out]; have HGN : Hid (∀ g, u3.ownBlock = some g -> g < w2.heap.size) := hidp (fun g h => by have h1 := (HO.out.lt g h).2; have h2 := hb2.size; omega); have HB3 := hidp (Bnew (Bgo HB.out hb2) (.cells #[.int .i64 1, .int .i64 (m : Int), .int .i64 cl] 76)); have HX3 := hidp ((HX.out.keep hb2).alloc (.cells #[.int .i64 1, .int .i64 (m : Int), .int .i64 cl] 76)); have HO3 := hidp ((own_below HO.out hb2).alloc (.cells #[.int .i64 1, .int .i64 (m : Int), .int .i64 cl] 76)); have HI3 := hidp (Held.new w2 76 #[.int .i64 1, .int .i64 (m : Int), .int .i64 cl]); have HG2 := hidp (rfl : w2.heap.size = w2.heap.size); clear hb2 c0 c1 c2 c3; obtain ⟨c0, c1, c2, c3⟩ := HX3.out.four; obtain ⟨d0, d1, d2⟩ := HI3.out.three)
          | (go_at_call 79; refine (HOF.out _).mono ?_; rintro e w4 ⟨rfl, hb4⟩; have HB4 := hidp (Bgo HB3.out hb4); have HX4 := hidp (HX3.out.keep hb4); have HO4 := hidp (own_below HO3.out hb4); have HI4 := hidp (HI3.out.keep hb4); clear hb4 c0 c1 c2 c3 d0 d1 d2; obtain ⟨c0, c1, c2, c3⟩ := HX4.out.four; obtain ⟨d0, d1, d2⟩ := HI4.out.three)
          | fail)
        generalize hg2 : w2.heap.size = g2 at *
        have HSH : Hid (∀ w', Held w' w.heap.size 96 #[.int .i64 (H.t : Int), .int .i64 (H.p : Int), .int .i64 (H.s : Int), .slice (some ad) n c] -> Held w' g2 76 #[.int .i64 1, .int .i64 (m : Int), .int .i64 cl] -> (fun w' => w'.cell? ⟨w.heap.size, 0, none⟩ = some (.int .i64 (H.t : Int)) /\ w'.cell? ⟨w.heap.size, 1, none⟩ = some (.int .i64 (H.p : Int)) /\ w'.cell? ⟨w.heap.size, 2, none⟩ = some (.int .i64 (H.s : Int)) /\ w'.cell? ⟨w.heap.size, 3, none⟩ = some (.slice (some ad) n c) /\ w'.cell? ⟨g2, 0, none⟩ = some (.int .i64 1) /\ w'.cell? ⟨g2, 1, none⟩ = some (.int .i64 (m : Int))) w') := hidp (fun w' h1 h2 => ⟨h1.four.1, h1.four.2.1, h1.four.2.2.1, h1.four.2.2.2, h2.three.1, h2.three.2.1⟩)
        clear c2 c3 d2 HG2
        refine wp_region_held_drew (S := (fun w' => w'.cell? ⟨w.heap.size, 0, none⟩ = some (.int .i64 (H.t : Int)) /\ w'.cell? ⟨w.heap.size, 1, none⟩ = some (.int .i64 (H.p : Int)) /\ w'.cell? ⟨w.heap.size, 2, none⟩ = some (.int .i64 (H.s : Int)) /\ w'.cell? ⟨w.heap.size, 3, none⟩ = some (.slice (some ad) n c) /\ w'.cell? ⟨g2, 0, none⟩ = some (.int .i64 1) /\ w'.cell? ⟨g2, 1, none⟩ = some (.int .i64 (m : Int)))) (by kernel_rfl) ?_ (fun hHeld => ?_)
        · (try dsimp only)
          first | exact HSH.out _ HX4.out.drew HI4.out.drew | exact HSH.out _ HX5.out HI5.out | exact HSH.out _ (HX5.out.alloc _) (HI5.out.alloc _) | exact HSH.out _ HX8.out HI8.out | exact hHeld
        refine tkz 0 ?_
        refine tkz 1 ?_
        refine tkz 2 ?_
        refine tkz 3 ?_
        refine tkz 4 ?_
        refine tkz 5 ?_
        refine tkz 6 ?_
        refine tkz 7 ?_
        refine rdz 8 fun K hK => ?_
        go_simp
        (go_at_call 48; refine (HPG.out _).mono ?_; rintro e w5 ⟨rfl, hb5⟩; have HB5 := hidp (Bgo (Bdrew HB4.out) hb5); have HX5 := hidp (HX4.out.drew.keep hb5); have HI5 := hidp (HI4.out.drew.keep hb5); have HO5 := hidp (own_below (w := w4.drew) HO4.out hb5); have hb5s := HX5.out.lt; clear hb5)
        refine hK.out _ _ ?_ (fun hHeld => ?_)
        · (try dsimp only)
          first | exact HSH.out _ HX4.out.drew HI4.out.drew | exact HSH.out _ HX5.out HI5.out | exact HSH.out _ (HX5.out.alloc _) (HI5.out.alloc _) | exact HSH.out _ HX8.out HI8.out | exact hHeld
        clear hK K
        (try simp only [Act.put, gA, gB, gC, sA, sB, sC])
        refine tkz 9 ?_
        refine tkz 10 ?_
        refine rdz 11 fun K hK => ?_
        go_simp
        skip
        refine hK.out _ _ ?_ (fun hHeld => ?_)
        · (try dsimp only)
          first | exact HSH.out _ HX4.out.drew HI4.out.drew | exact HSH.out _ HX5.out HI5.out | exact HSH.out _ (HX5.out.alloc _) (HI5.out.alloc _) | exact HSH.out _ HX8.out HI8.out | exact hHeld
        clear hK K
        (try simp only [Act.put, gA, gB, gC, sA, sB, sC])
        refine rdz 12 fun K hK => ?_
        (refine step_append_lies _ (by rfl) _ _ 56 (by rfl) (w.heap.size + 1) 63 j0 (.agg #[.int .i64 0, .int .i64 0, .int .i64 0]) 3 24 Tryz.underlying56 hjn hjz0 hjz1 hjz2 rfl (by decide) u3 nl (ptVs l) (by rfl) (HO5.out.alloc _) ⟨_, 0, none⟩ 1 1 [.int .i64 1, .int .i64 fp, .int .i64 zz] (by rfl) rfl (fun jj yy hyy => World.news_of_block (w := w5.alloc (.cells #[.int .i64 1, .int .i64 fp, .int .i64 zz] 63)) (heap_alloc_new w5 _) jj yy (by simpa using hyy)) (by simp [Value.oneCell']) (by omega) (by unfold maxLen; omega) (by omega) (by simp; omega) _ rfl ?_; intro g cap w8 hown8 hgrow8 hat8 hlt8; have HX8 := hidp (held_grown (HX5.out.alloc (.cells #[.int .i64 1, .int .i64 fp, .int .i64 zz] 63)) hgrow8 (fun e => by have := (HO5.out.lt _ e).1; omega)); have HI8 := hidp (held_grown (HI5.out.alloc (.cells #[.int .i64 1, .int .i64 fp, .int .i64 zz] 63)) hgrow8 (fun e => by have := HGN.out _ e; omega)); have HB8 := hidp ((Bnew HB5.out (.cells #[.int .i64 1, .int .i64 fp, .int .i64 zz] 63)).grown hgrow8 (by have := HB5.out.size; simp; omega) (fun j hj => by have := (HO5.out.lt j hj).1; omega)); have HO8 := hidp hown8; clear hown8 hgrow8 hat8 hlt8)
        refine hK.out _ _ ?_ (fun hHeld => ?_)
        · (try dsimp only)
          first | exact HSH.out _ HX4.out.drew HI4.out.drew | exact HSH.out _ HX5.out HI5.out | exact HSH.out _ (HX5.out.alloc _) (HI5.out.alloc _) | exact HSH.out _ HX8.out HI8.out | exact hHeld
        clear hK K
        (try simp only [Act.put, gA, gB, gC, sA, sB, sC])
        refine tkz 13 ?_
        refine dnz ?_
        go_wp2_with fail
        go_roundw
        case rel => exact ⟨p + 1, nl + 1, _, by omega, by go_num, by omega, HCT1, hidp (by rw [List.length_append, HLN.out]; rfl), hidp (by rw [ptVs_app, ptVs_one]; exact HO8.out), HX8, HB8⟩
        case measure => simp [intOf]; omega
      · have HPA : Hid (H.partsAt p = [(2, fp, zz)]) := hidp (by rw [<- hfp, <- hzz, <- hmm, <- hpg]; unfold AuH.partsAt; rw [if_neg (by omega), if_pos hk])
        have HCT1 : Hid (AuH.catTo H.partsAt (p + 1) = l ++ [(2, fp, zz)]) := hidp (by rw [<- HPA.out, <- HCT.out]; rfl)
        rw [hkk] at hk
        subst hk
        clear hkk hmm hcl hkc hfp hpg hzz hmz
        go_wp2_with (first
          | (go_at_call 78; refine (xInfo_c HV ad hlt _ (HVL.out.below HB.out)).mono ?_; rintro e w2 ⟨rfl, hb2⟩; rw [HK.out, HM.out, HCL.out]; have HGN : Hid (∀ g, u3.ownBlock = some g -> g < w2.heap.size) := hidp (fun g h => by have h1 := (HO.out.lt g h).2; have h2 := hb2.size; omega); have HB3 := hidp (Bnew (Bgo HB.out hb2) (.cells #[.int .i64 2, .int .i64 (m : Int), .int .i64 cl] 76)); have HX3 := hidp ((HX.out.keep hb2).alloc (.cells #[.int .i64 2, .int .i64 (m : Int), .int .i64 cl] 76)); have HO3 := hidp ((own_below HO.out hb2).alloc (.cells #[.int .i64 2, .int .i64 (m : Int), .int .i64 cl] 76)); have HI3 := hidp (Held.new w2 76 #[.int .i64 2, .int .i64 (m : Int), .int .i64 cl]); have HG2 := hidp (rfl : w2.heap.size = w2.heap.size); clear hb2 c0 c1 c2 c3; obtain ⟨c0, c1, c2, c3⟩ := HX3.out.four; obtain ⟨d0, d1, d2⟩ := HI3.out.three)
          | (go_at_call 79; refine (HOF.out _).mono ?_; rintro e w4 ⟨rfl, hb4⟩; have HB4 := hidp (Bgo HB3.out hb4); have HX4 := hidp (HX3.out.keep hb4); have HO4 := hidp (own_below HO3.out hb4); have HI4 := hidp (HI3.out.keep hb4); clear hb4 c0 c1 c2 c3 d0 d1 d2; obtain ⟨c0, c1, c2, c3⟩ := HX4.out.four; obtain ⟨d0, d1, d2⟩ := HI4.out.three)
          | fail)
        generalize hg2 : w2.heap.size = g2 at *
        have HSH : Hid (∀ w', Held w' w.heap.size 96 #[.int .i64 (H.t : Int), .int .i64 (H.p : Int), .int .i64 (H.s : Int), .slice (some ad) n c] -> Held w' g2 76 #[.int .i64 2, .int .i64 (m : Int), .int .i64 cl] -> (fun w' => w'.cell? ⟨w.heap.size, 0, none⟩ = some (.int .i64 (H.t : Int)) /\ w'.cell? ⟨w.heap.size, 1, none⟩ = some (.int .i64 (H.p : Int)) /\ w'.cell? ⟨w.heap.size, 2, none⟩ = some (.int .i64 (H.s : Int)) /\ w'.cell? ⟨w.heap.size, 3, none⟩ = some (.slice (some ad) n c) /\ w'.cell? ⟨g2, 0, none⟩ = some (.int .i64 2) /\ w'.cell? ⟨g2, 1, none⟩ = some (.int .i64 (m : Int))) w') := hidp (fun w' h1 h2 => ⟨h1.four.1, h1.four.2.1, h1.four.2.2.1, h1.four.2.2.2, h2.three.1, h2.three.2.1⟩)
        clear c2 c3 d2 HG2
        refine wp_region_held_drew (S := (fun w' => w'.cell? ⟨w.heap.size, 0, none⟩ = some (.int .i64 (H.t : Int)) /\ w'.cell? ⟨w.heap.size, 1, none⟩ = some (.int .i64 (H.p : Int)) /\ w'.cell? ⟨w.heap.size, 2, none⟩ = some (.int .i64 (H.s : Int)) /\ w'.cell? ⟨w.heap.size, 3, none⟩ = some (.slice (some ad) n c) /\ w'.cell? ⟨g2, 0, none⟩ = some (.int .i64 2) /\ w'.cell? ⟨g2, 1, none⟩ = some (.int .i64 (m : Int)))) (by kernel_rfl) ?_ (fun hHeld => ?_)
        · (try dsimp only)
          first | exact HSH.out _ HX4.out.drew HI4.out.drew | exact HSH.out _ HX5.out HI5.out | exact HSH.out _ (HX5.out.alloc _) (HI5.out.alloc _) | exact HSH.out _ HX8.out HI8.out | exact hHeld
        refine tkz 0 ?_
        refine tkz 1 ?_
        refine tkz 2 ?_
        refine tkz 3 ?_
        refine tkz 4 ?_
        refine tkz 5 ?_
        refine tkz 6 ?_
        refine tkz 7 ?_
        refine rdz 8 fun K hK => ?_
        go_simp
        (go_at_call 48; refine (HPG.out _).mono ?_; rintro e w5 ⟨rfl, hb5⟩; have HB5 := hidp (Bgo (Bdrew HB4.out) hb5); have HX5 := hidp (HX4.out.drew.keep hb5); have HI5 := hidp (HI4.out.drew.keep hb5); have HO5 := hidp (own_below (w := w4.drew) HO4.out hb5); have hb5s := HX5.out.lt; clear hb5)
        refine hK.out _ _ ?_ (fun hHeld => ?_)
        · (try dsimp only)
          first | exact HSH.out _ HX4.out.drew HI4.out.drew | exact HSH.out _ HX5.out HI5.out | exact HSH.out _ (HX5.out.alloc _) (HI5.out.alloc _) | exact HSH.out _ HX8.out HI8.out | exact hHeld
        clear hK K
        (try simp only [Act.put, gA, gB, gC, sA, sB, sC])
        refine tkz 9 ?_
        refine tkz 10 ?_
        refine rdz 11 fun K hK => ?_
        go_simp
        skip
        refine hK.out _ _ ?_ (fun hHeld => ?_)
        · (try dsimp only)
          first | exact HSH.out _ HX4.out.drew HI4.out.drew | exact HSH.out _ HX5.out HI5.out | exact HSH.out _ (HX5.out.alloc _) (HI5.out.alloc _) | exact HSH.out _ HX8.out HI8.out | exact hHeld
        clear hK K
        (try simp only [Act.put, gA, gB, gC, sA, sB, sC])
        refine rdz 12 fun K hK => ?_
        (refine step_append_lies _ (by rfl) _ _ 56 (by rfl) (w.heap.size + 1) 63 j0 (.agg #[.int .i64 0, .int .i64 0, .int .i64 0]) 3 24 Tryz.underlying56 hjn hjz0 hjz1 hjz2 rfl (by decide) u3 nl (ptVs l) (by rfl) (HO5.out.alloc _) ⟨_, 0, none⟩ 1 1 [.int .i64 2, .int .i64 fp, .int .i64 zz] (by rfl) rfl (fun jj yy hyy => World.news_of_block (w := w5.alloc (.cells #[.int .i64 2, .int .i64 fp, .int .i64 zz] 63)) (heap_alloc_new w5 _) jj yy (by simpa using hyy)) (by simp [Value.oneCell']) (by omega) (by unfold maxLen; omega) (by omega) (by simp; omega) _ rfl ?_; intro g cap w8 hown8 hgrow8 hat8 hlt8; have HX8 := hidp (held_grown (HX5.out.alloc (.cells #[.int .i64 2, .int .i64 fp, .int .i64 zz] 63)) hgrow8 (fun e => by have := (HO5.out.lt _ e).1; omega)); have HI8 := hidp (held_grown (HI5.out.alloc (.cells #[.int .i64 2, .int .i64 fp, .int .i64 zz] 63)) hgrow8 (fun e => by have := HGN.out _ e; omega)); have HB8 := hidp ((Bnew HB5.out (.cells #[.int .i64 2, .int .i64 fp, .int .i64 zz] 63)).grown hgrow8 (by have := HB5.out.size; simp; omega) (fun j hj => by have := (HO5.out.lt j hj).1; omega)); have HO8 := hidp hown8; clear hown8 hgrow8 hat8 hlt8)
        refine hK.out _ _ ?_ (fun hHeld => ?_)
        · (try dsimp only)
          first | exact HSH.out _ HX4.out.drew HI4.out.drew | exact HSH.out _ HX5.out HI5.out | exact HSH.out _ (HX5.out.alloc _) (HI5.out.alloc _) | exact HSH.out _ HX8.out HI8.out | exact hHeld
        clear hK K
        (try simp only [Act.put, gA, gB, gC, sA, sB, sC])
        refine tkz 13 ?_
        refine dnz ?_
        go_wp2_with fail
        go_roundw
        case rel => exact ⟨p + 1, nl + 1, _, by omega, by go_num, by omega, HCT1, hidp (by rw [List.length_append, HLN.out]; rfl), hidp (by rw [ptVs_app, ptVs_one]; exact HO8.out), HX8, HB8⟩
        case measure => simp [intOf]; omega
      · have hlq := AuH.partsAt_len (H := H) p
        have hlq0 : 0 < (H.partsAt p).length := by
          unfold AuH.partsAt
          rw [if_neg (by omega), if_neg (by omega), if_pos hk, List.length_append, AuH.slotsTo_len]
          have : 0 < H.sl p := by
            unfold AuH.sl
            have := mt (slotI_zero (k := H.Cl p)).1 (by omega)
            omega
          omega
        obtain ⟨lq, hlqq⟩ : ∃ x, (H.partsAt p).length = x := ⟨_, rfl⟩
        rw [hlqq] at hlq hlq0
        have HLQ := hidp hlqq
        have HSLB : Hid (∀ W : World, IsVals W ad n H.V -> Calls Tryz.prog 80 #[.agg #[.int .i64 (H.t : Int), .int .i64 (H.p : Int), .int .i64 (H.s : Int), .slice (some ad) n c], .int .i64 (p : Int), .int .i64 cl] W fun e w' => ∃ u, e = .returned u /\ w'.ownsRow W.heap.size 63 3 u (H.partsAt p).length (ptVs (H.partsAt p)) /\ Below W.heap.size W w') := hidp (fun W hv => by
          have h := xSlab_c HV ad hlt hk W hv
          rwa [hcl] at h)
        have HCT1 : Hid (AuH.catTo H.partsAt (p + 1) = l ++ H.partsAt p) := hidp (by rw [<- HCT.out]; rfl)
        rw [hkk] at hk
        subst hk
        clear hkk hmm hcl hkc hfp hpg hzz hmz hlqq
        go_wp2_with (first
          | (go_at_call 78; refine (xInfo_c HV ad hlt _ (HVL.out.below HB.out)).mono ?_; rintro e w2 ⟨rfl, hb2⟩; rw [HK.out, HM.out, HCL.out]; have HGN : Hid (∀ g, u3.ownBlock = some g -> g < w2.heap.size) := hidp (fun g h => by have h1 := (HO.out.lt g h).2; have h2 := hb2.size; omega); have HB3 := hidp (Bnew (Bgo HB.out hb2) (.cells #[.int .i64 3, .int .i64 (m : Int), .int .i64 cl] 76)); have HX3 := hidp ((HX.out.keep hb2).alloc (.cells #[.int .i64 3, .int .i64 (m : Int), .int .i64 cl] 76)); have HO3 := hidp ((own_below HO.out hb2).alloc (.cells #[.int .i64 3, .int .i64 (m : Int), .int .i64 cl] 76)); have HI3 := hidp (Held.new w2 76 #[.int .i64 3, .int .i64 (m : Int), .int .i64 cl]); have HG2 := hidp (rfl : w2.heap.size = w2.heap.size); clear hb2 c0 c1 c2 c3; obtain ⟨c0, c1, c2, c3⟩ := HX3.out.four; obtain ⟨d0, d1, d2⟩ := HI3.out.three)
          | (go_at_call 79; refine (HOF.out _).mono ?_; rintro e w4 ⟨rfl, hb4⟩; have HB4 := hidp (Bgo HB3.out hb4); have HX4 := hidp (HX3.out.keep hb4); have HO4 := hidp (own_below HO3.out hb4); have HI4 := hidp (HI3.out.keep hb4); clear hb4 c0 c1 c2 c3 d0 d1 d2; obtain ⟨c0, c1, c2, c3⟩ := HX4.out.four; obtain ⟨d0, d1, d2⟩ := HI4.out.three)
          | (go_at_call 80; refine (HSLB.out _ (HVL.out.below HB4.out)).mono ?_; rintro e w5 ⟨u2, rfl, hown5, hb5⟩; have HB5 := hidp (Bgo HB4.out hb5); have HX5 := hidp (HX4.out.keep hb5); have HI5 := hidp (HI4.out.keep hb5); have HO5 := hidp (own_below HO4.out hb5); have hb5s := HX5.out.lt; clear hb5 c0 c1 c2 c3 d0 d1 d2; rw [HLQ.out] at hown5; obtain ⟨As, cs, rfl⟩ := own_slice hown5; obtain ⟨asl, rfl, _, hnw⟩ := (Reads.of_own hown5).2 hlq0; have HNW := hidp hnw; clear hown5 hnw)
          | (at_builtin
             refine wpList_append_lies _ rfl _ _ 56 rfl (w.heap.size + 1) 63 j0 (.agg #[.int .i64 0, .int .i64 0, .int .i64 0]) 3 24 Tryz.underlying56 hjn hjz0 hjz1 hjz2 rfl (by decide) u3 nl (ptVs l) rfl HO5.out asl lq cs (ptVs (H.partsAt p)) rfl ?c0 HNW.out ?c1 hlq0 ?c3 ?c4 ?c5 _ rfl ?_
             case c0 => rw [ptVs_len, HLQ.out]
             case c1 => exact ptVs_ints _
             case c3 => unfold maxLen; omega
             case c4 => omega
             case c5 => omega
             intro g cap w8 hown8 hgrow8 hat8 hlt8)
          | fail)
        have HX8 := hidp (held_grown HX5.out hgrow8 (fun e => by have := (HO5.out.lt _ e).1; omega))
        have HB8 := hidp (HB5.out.grown hgrow8 (by have := HB5.out.size; omega) (fun j hj => by have := (HO5.out.lt j hj).1; omega))
        have HO8 := hidp hown8
        clear hown8 hgrow8 hat8 hlt8
        go_wp2_with fail
        go_roundw
        case rel => exact ⟨p + 1, nl + lq, _, by omega, by go_num, by omega, HCT1, hidp (by rw [List.length_append, HLN.out, HLQ.out]), hidp (by rw [ptVs_app]; exact HO8.out), HX8, HB8⟩
        case measure => simp [intOf]; omega
    · have t0 : decide ((p : Int) < H.p) = false := decide_eq_false (by omega)
      have hpe : p = H.p := by omega
      have HOE : Hid (wr.ownsRow (w.heap.size + 1) 63 3 u3 H.parts.length (ptVs H.parts)) := hidp (by
        have h := HO.out
        unfold AuH.parts
        rw [<- hpe, HCT.out, HLN.out]
        exact h)
      clear hpe
      go_wp2_with fail
      go_ret
      exact ⟨_, rfl, own_down HOE.out (by omega), HB.out⟩
end
end Go.Proofs.YtlpcdfcghgapkaaGreat
