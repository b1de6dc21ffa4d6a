/-
  The document's rule 9. Written by doc12/gen_counts.py.
-/
import Derived.Test.YtpndfhdedmdoeaaF19
import Derived.Test.YtpndfhdedmdoeaaF16
import Derived.Test.YtpndfhdedmdoeaaF14
namespace Go.Proofs.Ytpndfhdedmdoeaa
open Go.ChangeShapes Go.WideShapes Go.ChangeAt Go.RowKit Go.Shelf
set_option linter.unusedVariables false
set_option linter.unusedSimpArgs false


set_option maxHeartbeats 6400000 in
set_option maxRecDepth 100000 in
theorem xCounts_c {H : AuH} {n c : Nat} (HV : HeapV H n c) (h5 : H.R5) (ad : Addr) (b : Bool) (hb : b = true ↔ H.R9) (w : World) (hv : IsVals w ad n H.V) :
    Calls Try.prog 90 #[hpV H ad n c] w fun e w' => e = .returned (.bool b) ∧ Below w.heap.size w w' := by
  have HVL := hidp hv
  have HX0 := hidp (Held.new w 53 #[.int .i64 (H.t : Int), .int .i64 (H.p : Int), .int .i64 (H.s : Int), .slice (some ad) n c])
  obtain ⟨c0, c1, c2, c3⟩ := HX0.out.four
  have HBW := hidp (Bnew (B0 w) (.cells #[.int .i64 (H.t : Int), .int .i64 (H.p : Int), .int .i64 (H.s : Int), .slice (some ad) n c] 53))
  have hn := HV.nums
  have hcx : c ≤ 9223372036854775807 := hn.2.2.2.2.2.2.2.2
  have hni : n ≤ 6238 := hn.2.2.2.2.2.2.1
  have hnc := HV.cap
  have hp1 := hn.2.2.2.1
  have hn30 : 30 ≤ n := by have := HV.len; omega
  have HBC := hidp hb
  have HR5 := hidp h5
  clear hv hn hb h5
  unfold hpV
  go_enter Try.func90, Try.ntmps90
  go_wp2_with fail
  go_loopw [3, 4, 5] (fun u3 u4 u5 wr => ∃ (p f v : Nat), p ≤ H.p ∧ u5 = .int .i64 (p : Int) ∧ u3 = .int .i64 (f : Int) ∧ u4 = .int .i64 (v : Int) ∧ Hid (AuH.sumTo H.freeF p = f) ∧ Hid (AuH.sumTo H.liveF p = v) ∧ Hid (Held wr w.heap.size 53 #[.int .i64 (H.t : Int), .int .i64 (H.p : Int), .int .i64 (H.s : Int), .slice (some ad) n c]) ∧ Hid (Below w.heap.size w wr)) (fun _ _ u5 _ => H.p - (intOf u5).toNat)
  case atStart => exact ⟨0, 0, 0, by omega, rfl, rfl, rfl, hidp rfl, hidp rfl, HX0, HBW⟩
  case round =>
    clear c0 c1 c2 c3 HX0 HBW
    obtain ⟨p, f, v, hp, rfl, rfl, rfl, HSF, HSL, HX, HB⟩ := hrel
    obtain ⟨c0, c1, c2, c3⟩ := HX.out.four
    have hsum := AuH.sums_le (H := H) p (by omega)
    rw [HSF.out, HSL.out] at hsum
    obtain ⟨hf, hl⟩ := hsum
    by_cases hlt : p < H.p
    · have t0 : decide ((p : Int) < H.p) = true := decide_eq_true (by omega)
      have HVR := hidp (HVL.out.below HB.out)
      have h4 := HR5.out p hlt
      obtain ⟨sv, hsv⟩ : ∃ v, H.cel p 4 = v := ⟨_, rfl⟩
      have HSV := hidp hsv
      have hs32 := HV.cel_lt hlt (show 4 < 6 by omega)
      rw [hsv] at hs32
      obtain ⟨o, ho⟩ : ∃ o, HM.onesTo sv 32 = o := ⟨_, rfl⟩
      have HON := hidp ho
      have ho32 : o ≤ 32 := by rw [← ho]; exact HM.onesTo_le _ _
      have hkc := H.K_cases p
      obtain ⟨kk, hkk⟩ : ∃ k, H.K p = k := ⟨_, rfl⟩
      obtain ⟨m, hmm⟩ : ∃ m, H.ln p = m := ⟨_, rfl⟩
      obtain ⟨cl, hcl⟩ : ∃ k, H.Cl p = k := ⟨_, rfl⟩
      have HK := hidp hkk
      have HM := hidp hmm
      have HCL := hidp hcl
      have hff : H.freeF p = if kk = 1 then m else 0 := by unfold AuH.freeF; rw [hkk, hmm]
      have hlf : H.liveF p = if kk = 2 then 1 else if kk = 3 then o else 0 := by unfold AuH.liveF; rw [hkk, hsv, ho]
      have ho0 : kk ≠ 3 → o = 0 := fun h => by
        have := (h4.2 (by rw [hkk]; exact h)).2
        rw [← ho, ← hsv, this]
        decide
      rw [hkk, hmm, hcl] at hkc
      clear ho hsv
      rcases (by omega : kk = 0 ∨ kk = 1 ∨ kk = 2 ∨ kk = 3) with hk | hk | hk | hk
      · have HFR : Hid (H.freeF p = 0) := hidp (by rw [hff, if_neg (by omega)])
        have HLI : Hid (H.liveF p = 0) := hidp (by rw [hlf, if_neg (by omega), if_neg (by omega)])
        have hoz := ho0 (by omega)
        subst hoz
        have s1 : IntKind.i64.wrap ((v : Int) + ((0 : Nat) : Int)) = (v : Int) := by rw [i64_same (by omega) (by omega)]; omega
        clear hff hlf ho0
        subst hk
        clear hkc h4 hkk hmm hcl
        go_wp2_with (first
          | (go_at_call 24; refine (xInfo_c HV ad hlt _ HVR.out).mono ?_; rintro e w2 ⟨rfl, hb2⟩; rw [HK.out, HM.out, HCL.out]; have HB2 := hidp (Bnew (Bgo HB.out hb2) (.cells #[.int .i64 0, .int .i64 (m : Int), .int .i64 cl] 55)); have HX2 := hidp ((HX.out.keep hb2).alloc (.cells #[.int .i64 0, .int .i64 (m : Int), .int .i64 cl] 55)); clear hb2 c0 c1 c2 c3; obtain ⟨c0, c1, c2, c3⟩ := HX2.out.four; obtain ⟨d0, d1, d2⟩ := (Held.new w2 55 #[.int .i64 0, .int .i64 (m : Int), .int .i64 cl]).three)
          | (go_at_call 102; refine (xSlots_c HV ad hlt _ (HVL.out.below HB2.out)).mono ?_; rintro e w3 ⟨rfl, hb3⟩; rw [HSV.out]; have HB3 := hidp (Bgo HB2.out hb3); have HX3 := hidp (HX2.out.keep hb3); clear hb3)
          | (go_at_call 111; refine (ROnes_c sv hs32 _).mono ?_; rintro e w4 ⟨rfl, rfl⟩; rw [HON.out])
          | fail)
        go_roundw
        case rel => exact ⟨p + 1, H.freeF p + f, H.liveF p + v, by omega, by go_num, by have h := HFR.out; simp only [h]; first | rfl | (congr 1; omega), by have h := HLI.out; simp only [h]; first | rfl | (congr 1; omega), hidp (by have := HSF.out; show AuH.sumTo H.freeF p + H.freeF p = _; omega), hidp (by have := HSL.out; show AuH.sumTo H.liveF p + H.liveF p = _; omega), HX3, HB3⟩
        case measure => simp [intOf]; omega
      · have HFR : Hid (H.freeF p = m) := hidp (by rw [hff, if_pos hk])
        have HLI : Hid (H.liveF p = 0) := hidp (by rw [hlf, if_neg (by omega), if_neg (by omega)])
        have hoz := ho0 (by omega)
        subst hoz
        have hmb : m ≤ 1024 := by omega
        have s0 : IntKind.i64.wrap ((f : Int) + (m : Int)) = ((m + f : Nat) : Int) := by rw [i64_same (by omega) (by omega)]; omega
        have s1 : IntKind.i64.wrap ((v : Int) + ((0 : Nat) : Int)) = (v : Int) := by rw [i64_same (by omega) (by omega)]; omega
        clear hff hlf ho0
        subst hk
        clear hkc h4 hkk hmm hcl
        go_wp2_with (first
          | (go_at_call 24; refine (xInfo_c HV ad hlt _ HVR.out).mono ?_; rintro e w2 ⟨rfl, hb2⟩; rw [HK.out, HM.out, HCL.out]; have HB2 := hidp (Bnew (Bgo HB.out hb2) (.cells #[.int .i64 1, .int .i64 (m : Int), .int .i64 cl] 55)); have HX2 := hidp ((HX.out.keep hb2).alloc (.cells #[.int .i64 1, .int .i64 (m : Int), .int .i64 cl] 55)); clear hb2 c0 c1 c2 c3; obtain ⟨c0, c1, c2, c3⟩ := HX2.out.four; obtain ⟨d0, d1, d2⟩ := (Held.new w2 55 #[.int .i64 1, .int .i64 (m : Int), .int .i64 cl]).three)
          | (go_at_call 102; refine (xSlots_c HV ad hlt _ (HVL.out.below HB2.out)).mono ?_; rintro e w3 ⟨rfl, hb3⟩; rw [HSV.out]; have HB3 := hidp (Bgo HB2.out hb3); have HX3 := hidp (HX2.out.keep hb3); clear hb3)
          | (go_at_call 111; refine (ROnes_c sv hs32 _).mono ?_; rintro e w4 ⟨rfl, rfl⟩; rw [HON.out])
          | fail)
        go_roundw
        case rel => exact ⟨p + 1, H.freeF p + f, H.liveF p + v, by omega, by go_num, by have h := HFR.out; simp only [h]; first | rfl | (congr 1; omega), by have h := HLI.out; simp only [h]; first | rfl | (congr 1; omega), hidp (by have := HSF.out; show AuH.sumTo H.freeF p + H.freeF p = _; omega), hidp (by have := HSL.out; show AuH.sumTo H.liveF p + H.liveF p = _; omega), HX3, HB3⟩
        case measure => simp [intOf]; omega
      · have HFR : Hid (H.freeF p = 0) := hidp (by rw [hff, if_neg (by omega)])
        have HLI : Hid (H.liveF p = 1) := hidp (by rw [hlf, if_pos (by omega)])
        have hoz := ho0 (by omega)
        subst hoz
        have s0 : IntKind.i64.wrap ((v : Int) + 1) = ((1 + v : Nat) : Int) := by rw [i64_same (by omega) (by omega)]; omega
        have s1 : IntKind.i64.wrap (((1 + v : Nat) : Int) + ((0 : Nat) : Int)) = ((1 + v : Nat) : Int) := by rw [i64_same (by omega) (by omega)]; omega
        clear hff hlf ho0
        subst hk
        clear hkc h4 hkk hmm hcl
        go_wp2_with (first
          | (go_at_call 24; refine (xInfo_c HV ad hlt _ HVR.out).mono ?_; rintro e w2 ⟨rfl, hb2⟩; rw [HK.out, HM.out, HCL.out]; have HB2 := hidp (Bnew (Bgo HB.out hb2) (.cells #[.int .i64 2, .int .i64 (m : Int), .int .i64 cl] 55)); have HX2 := hidp ((HX.out.keep hb2).alloc (.cells #[.int .i64 2, .int .i64 (m : Int), .int .i64 cl] 55)); clear hb2 c0 c1 c2 c3; obtain ⟨c0, c1, c2, c3⟩ := HX2.out.four; obtain ⟨d0, d1, d2⟩ := (Held.new w2 55 #[.int .i64 2, .int .i64 (m : Int), .int .i64 cl]).three)
          | (go_at_call 102; refine (xSlots_c HV ad hlt _ (HVL.out.below HB2.out)).mono ?_; rintro e w3 ⟨rfl, hb3⟩; rw [HSV.out]; have HB3 := hidp (Bgo HB2.out hb3); have HX3 := hidp (HX2.out.keep hb3); clear hb3)
          | (go_at_call 111; refine (ROnes_c sv hs32 _).mono ?_; rintro e w4 ⟨rfl, rfl⟩; rw [HON.out])
          | fail)
        go_roundw
        case rel => exact ⟨p + 1, H.freeF p + f, H.liveF p + v, by omega, by go_num, by have h := HFR.out; simp only [h]; first | rfl | (congr 1; omega), by have h := HLI.out; simp only [h]; first | rfl | (congr 1; omega), hidp (by have := HSF.out; show AuH.sumTo H.freeF p + H.freeF p = _; omega), hidp (by have := HSL.out; show AuH.sumTo H.liveF p + H.liveF p = _; omega), HX3, HB3⟩
        case measure => simp [intOf]; omega
      · have HFR : Hid (H.freeF p = 0) := hidp (by rw [hff, if_neg (by omega)])
        have HLI : Hid (H.liveF p = o) := hidp (by rw [hlf, if_neg (by omega), if_pos hk])
        have s1 : IntKind.i64.wrap ((v : Int) + (o : Int)) = ((o + v : Nat) : Int) := by rw [i64_same (by omega) (by omega)]; omega
        clear hff hlf ho0
        subst hk
        clear hkc h4 hkk hmm hcl
        go_wp2_with (first
          | (go_at_call 24; refine (xInfo_c HV ad hlt _ HVR.out).mono ?_; rintro e w2 ⟨rfl, hb2⟩; rw [HK.out, HM.out, HCL.out]; have HB2 := hidp (Bnew (Bgo HB.out hb2) (.cells #[.int .i64 3, .int .i64 (m : Int), .int .i64 cl] 55)); have HX2 := hidp ((HX.out.keep hb2).alloc (.cells #[.int .i64 3, .int .i64 (m : Int), .int .i64 cl] 55)); clear hb2 c0 c1 c2 c3; obtain ⟨c0, c1, c2, c3⟩ := HX2.out.four; obtain ⟨d0, d1, d2⟩ := (Held.new w2 55 #[.int .i64 3, .int .i64 (m : Int), .int .i64 cl]).three)
          | (go_at_call 102; refine (xSlots_c HV ad hlt _ (HVL.out.below HB2.out)).mono ?_; rintro e w3 ⟨rfl, hb3⟩; rw [HSV.out]; have HB3 := hidp (Bgo HB2.out hb3); have HX3 := hidp (HX2.out.keep hb3); clear hb3)
          | (go_at_call 111; refine (ROnes_c sv hs32 _).mono ?_; rintro e w4 ⟨rfl, rfl⟩; rw [HON.out])
          | fail)
        go_roundw
        case rel => exact ⟨p + 1, H.freeF p + f, H.liveF p + v, by omega, by go_num, by have h := HFR.out; simp only [h]; first | rfl | (congr 1; omega), by have h := HLI.out; simp only [h]; first | rfl | (congr 1; omega), hidp (by have := HSF.out; show AuH.sumTo H.freeF p + H.freeF p = _; omega), hidp (by have := HSL.out; show AuH.sumTo H.liveF p + H.liveF p = _; omega), HX3, HB3⟩
        case measure => simp [intOf]; omega
    · have t0 : decide ((p : Int) < H.p) = false := decide_eq_false (by omega)
      have hpe : p = H.p := by omega
      have HVR := hidp (HVL.out.below HB.out)
      have e0 := HVR.out.2 0 (by omega)
      have e1 := HVR.out.2 1 (by omega)
      have e0z : ad.add 0 = ad := by simp [Addr.add]
      rw [e0z] at e0
      have i0 : (0 : Int) < n := by omega
      have i1 : (1 : Int) < n := by omega
      have hv0 := HV.lt 0 (by omega)
      have hv1 := HV.lt 1 (by omega)
      have HR : Hid (H.R9 ↔ H.V 0 = f ∧ H.V 1 = v) := hidp (by
        have h1 := HSF.out
        have h2 := HSL.out
        rw [hpe] at h1 h2
        unfold AuH.R9
        rw [h1, h2, Nat.mod_eq_of_lt (by omega), Nat.mod_eq_of_lt (by omega)])
      obtain ⟨x0, hx0⟩ : ∃ x, H.V 0 = x := ⟨_, rfl⟩
      obtain ⟨x1, hx1⟩ : ∃ x, H.V 1 = x := ⟨_, rfl⟩
      rw [hx0] at e0 hv0 HR
      rw [hx1] at e1 hv1 HR
      have e1b : wr.cell? { block := ad.block, off := ad.off + 1 } = some (.int .u32 (x1 : Int)) := e1
      have u0 : IntKind.u32.wrap (f : Int) = (f : Int) := wrap_nat32 _ (by omega)
      have u1 : IntKind.u32.wrap (v : Int) = (v : Int) := wrap_nat32 _ (by omega)
      clear hpe hx0 hx1
      by_cases g0 : x0 = f
      · have q0 : ((x0 : Int) == (f : Int)) = true := by simp; omega
        have q1 : ((x1 : Int) == (v : Int)) = b := by
          have h := HBC.out
          rw [HR.out] at h
          by_cases g1 : x1 = v
          · rw [bool_yes h ⟨g0, g1⟩]; simp; omega
          · rw [bool_no h (fun h => g1 h.2)]; simp; omega
        clear g0
        go_wp2_with fail
        go_ret
        exact ⟨rfl, HB.out⟩
      · have q0 : ((x0 : Int) == (f : Int)) = false := by simp; omega
        have HBF : Hid (b = false) := hidp (bool_no HBC.out (fun h => g0 (HR.out.1 h).1))
        clear g0
        go_wp2_with fail
        go_ret
        exact ⟨by rw [HBF.out]; rfl, HB.out⟩
end Go.Proofs.Ytpndfhdedmdoeaa
