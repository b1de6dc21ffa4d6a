/-
  Rule 10: the roots. Written by audit/gen_r10.py.
-/
import Derived.Test.YtkbjckhbllmclaaGreatDoorT04
import Derived.Test.YtkbjckhbllmclaaGreatDoorT06
import Derived.Test.YtkbjckhbllmclaaGreatDoorT07
import Derived.Test.YtkbjckhbllmclaaGreatDoorT05
import Derived.Test.YtkbjckhbllmclaaGreatDoorT01
namespace Go.Proofs.YtkbjckhbllmclaaGreatDoor
open Go.ChangeShapes Go.WideShapes Go.ChangeAt Go.RowKit Go.Shelf
set_option linter.unusedVariables false
set_option linter.unusedSimpArgs false
section
theorem cellSame {w w' : World} {p : Addr} (h : w'.heap[p.block]? = w.heap[p.block]?) : w'.cell? p = w.cell? p := by unfold World.cell?; rw [h]
namespace AuH
variable (H : AuH)
def LiveAt (a : Int) : Prop := spotB H.t H.p H.s a = true ∧
  ((H.K (spotP H.t H.p H.s a).toNat = 2 ∧ spotO H.t H.p H.s a = 0) ∨
   (H.K (spotP H.t H.p H.s a).toNat = 3 ∧ slotB H.t H.p H.s (H.Cl (spotP H.t H.p H.s a).toNat) (spotO H.t H.p H.s a) = true ∧
     (H.cel (spotP H.t H.p H.s a).toNat 4).testBit (slotR H.t H.p H.s (H.Cl (spotP H.t H.p H.s a).toNat) (spotO H.t H.p H.s a)).toNat = true))
def R10 : Prop := ∀ i, i < 8 → H.V (22 + i) ≠ 0 → H.LiveAt (H.V (22 + i) : Int)
end AuH

set_option maxHeartbeats 3200000 in
set_option maxRecDepth 100000 in
theorem auIsLive_c {H : AuH} {n c : Nat} (HV : HeapV H n c) (ad : Addr) (a : Nat) (ha : a < 2 ^ 32) (b : Bool) (hb : b = true ↔ H.LiveAt a) (w : World) (hv : IsVals w ad n H.V) (hT : SlotsLaid w) :
    Calls Tryz.prog 114 #[hpV H ad n c, .int .i64 (a : Int)] w fun e w' => e = .returned (.bool b) ∧ Below w.heap.size w w' := by
  have HVL := hidp hv
  have HTL := hidp hT
  have HX0 := hidp (Held.new w 51 #[.int .i64 (H.t : Int), .int .i64 (H.p : Int), .int .i64 (H.s : Int), .slice (some ad) n c])
  obtain ⟨c0, c1, c2, c3⟩ := HX0.out.four
  have HBW := hidp (Bnew (B0 w) (.cells #[.int .i64 (H.t : Int), .int .i64 (H.p : Int), .int .i64 (H.s : Int), .slice (some ad) n c] 51))
  have HPG := hidp (fun W => adPage_c H.t H.p H.s (a : Int) (by omega) (by omega) W)
  have hlv : H.LiveAt a ↔ spotB H.t H.p H.s a = true ∧ ((H.K (spotP H.t H.p H.s a).toNat = 2 ∧ spotO H.t H.p H.s a = 0) ∨ (H.K (spotP H.t H.p H.s a).toNat = 3 ∧ slotB H.t H.p H.s (H.Cl (spotP H.t H.p H.s a).toNat) (spotO H.t H.p H.s a) = true ∧ (H.cel (spotP H.t H.p H.s a).toNat 4).testBit (slotR H.t H.p H.s (H.Cl (spotP H.t H.p H.s a).toNat) (spotO H.t H.p H.s a)).toNat = true)) := Iff.rfl
  have HBC : b = true ↔ _ := hb.trans hlv
  clear hv hT hb hlv
  unfold hpV
  cases hs : spotB H.t H.p H.s a
  · have HBF : Hid (b = false) := hidp (bool_no HBC (fun h => by rw [hs] at h; cases h.1))
    rw [hs] at HPG
    clear HBC hs
    go_enter Tryz.func114, Tryz.ntmps114
    go_wp2_with (first
        | (go_at_call 129; refine (HPG.out _).mono ?_; rintro e w1 ⟨rfl, hb1⟩; have HB1 := hidp (Bgo HBW.out hb1); have HX1 := hidp (HX0.out.keep hb1); have HV1 := hidp (HVL.out.below HB1.out); clear hb1 c0 c1 c2 c3; obtain ⟨c0, c1, c2, c3⟩ := HX1.out.four)
        | fail)
    go_ret
    exact ⟨by rw [HBF.out]; rfl, HB1.out⟩
  · obtain ⟨h1, h2, h3, h4, ⟨h5, h6⟩, h7, h8⟩ := spot_parts hs
    obtain ⟨_, ⟨h9, h10⟩, _⟩ := addr_parts h1
    obtain ⟨q, hqq⟩ : ∃ q : Nat, spotP H.t H.p H.s a = q := ⟨(spotP H.t H.p H.s a).toNat, by omega⟩
    obtain ⟨o, hoo⟩ : ∃ o : Nat, spotO H.t H.p H.s a = o := ⟨(spotO H.t H.p H.s a).toNat, by omega⟩
    rw [hs] at HPG HBC
    rw [hqq, hoo] at HPG HBC
    have hq : q < H.p := by omega
    have ho : o < 1048576 := by omega
    simp only [Int.toNat_natCast, true_and] at HBC
    clear hs h1 h2 h3 h4 h5 h6 h7 h8 h9 h10 hqq hoo
    have hkc := H.K_cases q
    have hie := H.info_eq q
    rw [H.L_ln] at hie
    have hok := H.ok_of q
    generalize H.ok q = okb at *
    generalize H.K q = k at *
    generalize H.ln q = m at *
    have hcl : 0 ≤ H.Cl q ∧ H.Cl q ≤ 8 := by omega
    have HSL := hidp (fun W => fun hT => adSlot_c H.t H.p H.s (H.Cl q) (o : Int) (by omega) (by omega) (by omega) (by omega) W hT)
    obtain ⟨sb, hsb⟩ : ∃ sb, slotB H.t H.p H.s (H.Cl q) (o : Int) = sb := ⟨_, rfl⟩
    have hsr : sb = true → ∃ i : Nat, i < 32 ∧ slotR H.t H.p H.s (H.Cl q) (o : Int) = i := fun h => by
      obtain ⟨_, i, h1, _, h2⟩ := slot_parts (hsb.trans h)
      exact ⟨i, Nat.lt_of_lt_of_le h1 (slotI_le _), h2⟩
    rw [hsb] at HSL HBC
    generalize slotR H.t H.p H.s (H.Cl q) (o : Int) = sr0 at *
    generalize H.Cl q = cl at *
    clear hsb
    have HEI : Hid (infoG (H.cel q 0) = (k, (m : Int), cl, okb)) := hidp hie
    clear hie
    rcases (by omega : k = 0 ∨ k = 2 ∨ k = 3 ∨ k = 1) with hk | hk | hk | hk
    · subst hk
      have HBF : Hid (b = false) := hidp (bool_no HBC (fun h => by rcases h with h | h <;> exact absurd h.1 (by omega)))
      clear HBC hok hkc hsr
      go_enter Tryz.func114, Tryz.ntmps114
      go_wp2_with (first
        | (go_at_call 129; refine (HPG.out _).mono ?_; rintro e w1 ⟨rfl, hb1⟩; have HB1 := hidp (Bgo HBW.out hb1); have HX1 := hidp (HX0.out.keep hb1); have HV1 := hidp (HVL.out.below HB1.out); clear hb1 c0 c1 c2 c3; obtain ⟨c0, c1, c2, c3⟩ := HX1.out.four)
        | (have hz0 := HEI.out; clear hz0; go_at_call 49; refine (auAt_Info_c HV ad hq _ HV1.out).mono ?_; rintro e w2 ⟨rfl, hb2⟩; have HB2 := hidp (Bgo HB1.out hb2); have HX2 := hidp (HX1.out.keep hb2); clear hb2)
        | (go_at_call 48; refine (inGet_c _ _ _ _ _ (HV.cel_lt hq (by omega)) HEI.out _).mono ?_; rintro e w3 ⟨rfl, hb3⟩; have HB3 := hidp (Bgo HB2.out hb3); have HX3 := hidp ((HX2.out.keep hb3).alloc (.cells #[.int .i64 0, .int .i64 (m : Int), .int .i64 cl] 63)); have HB3n := hidp (Bnew HB3.out (.cells #[.int .i64 0, .int .i64 (m : Int), .int .i64 cl] 63)); have HN3 := hidp (Held.new w3 63 #[.int .i64 0, .int .i64 (m : Int), .int .i64 cl]); clear hb3 HEI c0 c1 c2 c3; obtain ⟨c0, c1, c2, c3⟩ := HX3.out.four; obtain ⟨d0, d1, d2⟩ := HN3.out.three)
        | fail)
      go_ret
      exact ⟨by rw [HBF.out]; rfl, HB3n.out⟩
    · subst hk
      have HBF : Hid (((o : Int) == 0) = b) := hidp (by
        by_cases h0 : o = 0
        · rw [bool_yes HBC (.inl ⟨rfl, by omega⟩)]; simp; omega
        · rw [bool_no HBC (fun h => by rcases h with h | h; (exact h0 (by omega)); exact absurd h.1 (by omega))]; simp; omega)
      have t0 := HBF.out
      clear HBC hok hkc hsr
      go_enter Tryz.func114, Tryz.ntmps114
      go_wp2_with (first
        | (go_at_call 129; refine (HPG.out _).mono ?_; rintro e w1 ⟨rfl, hb1⟩; have HB1 := hidp (Bgo HBW.out hb1); have HX1 := hidp (HX0.out.keep hb1); have HV1 := hidp (HVL.out.below HB1.out); clear hb1 c0 c1 c2 c3; obtain ⟨c0, c1, c2, c3⟩ := HX1.out.four)
        | (have hz0 := HEI.out; clear hz0; go_at_call 49; refine (auAt_Info_c HV ad hq _ HV1.out).mono ?_; rintro e w2 ⟨rfl, hb2⟩; have HB2 := hidp (Bgo HB1.out hb2); have HX2 := hidp (HX1.out.keep hb2); clear hb2)
        | (go_at_call 48; refine (inGet_c _ _ _ _ _ (HV.cel_lt hq (by omega)) HEI.out _).mono ?_; rintro e w3 ⟨rfl, hb3⟩; have HB3 := hidp (Bgo HB2.out hb3); have HX3 := hidp ((HX2.out.keep hb3).alloc (.cells #[.int .i64 2, .int .i64 (m : Int), .int .i64 cl] 63)); have HB3n := hidp (Bnew HB3.out (.cells #[.int .i64 2, .int .i64 (m : Int), .int .i64 cl] 63)); have HN3 := hidp (Held.new w3 63 #[.int .i64 2, .int .i64 (m : Int), .int .i64 cl]); clear hb3 HEI c0 c1 c2 c3; obtain ⟨c0, c1, c2, c3⟩ := HX3.out.four; obtain ⟨d0, d1, d2⟩ := HN3.out.three)
        | fail)
      go_ret
      exact ⟨rfl, HB3n.out⟩
    · subst hk
      obtain ⟨sl, hsl⟩ : ∃ sl, H.cel q 4 = sl := ⟨_, rfl⟩
      have HES := hidp hsl
      have hsl32 := HV.cel_lt hq (show 4 < 6 by omega)
      rw [hsl] at hsl32 HBC
      clear hok hkc hsl
      cases sb
      · have HBF : Hid (b = false) := hidp (bool_no HBC (fun h => by rcases h with h | h; (exact absurd h.1 (by omega)); exact absurd h.2.1 (by simp)))
        clear HBC hsr
        go_enter Tryz.func114, Tryz.ntmps114
        go_wp2_with (first
        | (go_at_call 129; refine (HPG.out _).mono ?_; rintro e w1 ⟨rfl, hb1⟩; have HB1 := hidp (Bgo HBW.out hb1); have HX1 := hidp (HX0.out.keep hb1); have HV1 := hidp (HVL.out.below HB1.out); clear hb1 c0 c1 c2 c3; obtain ⟨c0, c1, c2, c3⟩ := HX1.out.four)
        | (have hz0 := HEI.out; clear hz0; go_at_call 49; refine (auAt_Info_c HV ad hq _ HV1.out).mono ?_; rintro e w2 ⟨rfl, hb2⟩; have HB2 := hidp (Bgo HB1.out hb2); have HX2 := hidp (HX1.out.keep hb2); clear hb2)
        | (go_at_call 48; refine (inGet_c _ _ _ _ _ (HV.cel_lt hq (by omega)) HEI.out _).mono ?_; rintro e w3 ⟨rfl, hb3⟩; have HB3 := hidp (Bgo HB2.out hb3); have HX3 := hidp ((HX2.out.keep hb3).alloc (.cells #[.int .i64 3, .int .i64 (m : Int), .int .i64 cl] 63)); have HB3n := hidp (Bnew HB3.out (.cells #[.int .i64 3, .int .i64 (m : Int), .int .i64 cl] 63)); have HN3 := hidp (Held.new w3 63 #[.int .i64 3, .int .i64 (m : Int), .int .i64 cl]); clear hb3 HEI c0 c1 c2 c3; obtain ⟨c0, c1, c2, c3⟩ := HX3.out.four; obtain ⟨d0, d1, d2⟩ := HN3.out.three)
        | (go_at_call 130; refine (HSL.out _ (HTL.out.below HB3n.out)).mono ?_; rintro e w4 ⟨rfl, hb4⟩; have HB4 := hidp (Bgo HB3n.out hb4); have HX4 := hidp (HX3.out.keep hb4); have HV4 := hidp (HVL.out.below HB4.out); clear hb4 c0 c1 c2 c3; obtain ⟨c0, c1, c2, c3⟩ := HX4.out.four)
        | fail)
        go_ret
        exact ⟨by rw [HBF.out]; rfl, HB4.out⟩
      · obtain ⟨sr, hsr2, rfl⟩ := hsr rfl
        clear hsr
        obtain ⟨z, hz⟩ : ∃ z, sl.testBit sr = z := ⟨_, rfl⟩
        have HZ := hidp hz
        have HBF : Hid (z = b) := hidp (by
          rw [Int.toNat_natCast, hz] at HBC
          cases z <;> cases b <;> simp at HBC ⊢)
        clear HBC hz
        go_enter Tryz.func114, Tryz.ntmps114
        go_wp2_with (first
        | (go_at_call 129; refine (HPG.out _).mono ?_; rintro e w1 ⟨rfl, hb1⟩; have HB1 := hidp (Bgo HBW.out hb1); have HX1 := hidp (HX0.out.keep hb1); have HV1 := hidp (HVL.out.below HB1.out); clear hb1 c0 c1 c2 c3; obtain ⟨c0, c1, c2, c3⟩ := HX1.out.four)
        | (have hz0 := HEI.out; clear hz0; go_at_call 49; refine (auAt_Info_c HV ad hq _ HV1.out).mono ?_; rintro e w2 ⟨rfl, hb2⟩; have HB2 := hidp (Bgo HB1.out hb2); have HX2 := hidp (HX1.out.keep hb2); clear hb2)
        | (go_at_call 48; refine (inGet_c _ _ _ _ _ (HV.cel_lt hq (by omega)) HEI.out _).mono ?_; rintro e w3 ⟨rfl, hb3⟩; have HB3 := hidp (Bgo HB2.out hb3); have HX3 := hidp ((HX2.out.keep hb3).alloc (.cells #[.int .i64 3, .int .i64 (m : Int), .int .i64 cl] 63)); have HB3n := hidp (Bnew HB3.out (.cells #[.int .i64 3, .int .i64 (m : Int), .int .i64 cl] 63)); have HN3 := hidp (Held.new w3 63 #[.int .i64 3, .int .i64 (m : Int), .int .i64 cl]); clear hb3 HEI c0 c1 c2 c3; obtain ⟨c0, c1, c2, c3⟩ := HX3.out.four; obtain ⟨d0, d1, d2⟩ := HN3.out.three)
        | (go_at_call 130; refine (HSL.out _ (HTL.out.below HB3n.out)).mono ?_; rintro e w4 ⟨rfl, hb4⟩; have HB4 := hidp (Bgo HB3n.out hb4); have HX4 := hidp (HX3.out.keep hb4); have HV4 := hidp (HVL.out.below HB4.out); clear hb4 c0 c1 c2 c3; obtain ⟨c0, c1, c2, c3⟩ := HX4.out.four)
        | (have hz0 := HES.out; clear hz0; go_at_call 49; refine (auAt_Slots_c HV ad hq _ HV4.out).mono ?_; rintro e w5 ⟨rfl, hb5⟩; rw [HES.out]; have HB5 := hidp (Bgo HB4.out hb5); clear hb5)
        | (go_at_call 94; refine (auHasSlot_c sl sr z hsl32 hsr2 HZ.out _).mono ?_; rintro e w6 ⟨rfl, rfl⟩)
        | fail)
        go_ret
        exact ⟨by rw [← HBF.out]; rfl, HB5.out⟩
    · subst hk
      have HBF : Hid (b = false) := hidp (bool_no HBC (fun h => by rcases h with h | h <;> exact absurd h.1 (by omega)))
      clear HBC hok hkc hsr
      go_enter Tryz.func114, Tryz.ntmps114
      go_wp2_with (first
        | (go_at_call 129; refine (HPG.out _).mono ?_; rintro e w1 ⟨rfl, hb1⟩; have HB1 := hidp (Bgo HBW.out hb1); have HX1 := hidp (HX0.out.keep hb1); have HV1 := hidp (HVL.out.below HB1.out); clear hb1 c0 c1 c2 c3; obtain ⟨c0, c1, c2, c3⟩ := HX1.out.four)
        | (have hz0 := HEI.out; clear hz0; go_at_call 49; refine (auAt_Info_c HV ad hq _ HV1.out).mono ?_; rintro e w2 ⟨rfl, hb2⟩; have HB2 := hidp (Bgo HB1.out hb2); have HX2 := hidp (HX1.out.keep hb2); clear hb2)
        | (go_at_call 48; refine (inGet_c _ _ _ _ _ (HV.cel_lt hq (by omega)) HEI.out _).mono ?_; rintro e w3 ⟨rfl, hb3⟩; have HB3 := hidp (Bgo HB2.out hb3); have HX3 := hidp ((HX2.out.keep hb3).alloc (.cells #[.int .i64 1, .int .i64 (m : Int), .int .i64 cl] 63)); have HB3n := hidp (Bnew HB3.out (.cells #[.int .i64 1, .int .i64 (m : Int), .int .i64 cl] 63)); have HN3 := hidp (Held.new w3 63 #[.int .i64 1, .int .i64 (m : Int), .int .i64 cl]); clear hb3 HEI c0 c1 c2 c3; obtain ⟨c0, c1, c2, c3⟩ := HX3.out.four; obtain ⟨d0, d1, d2⟩ := HN3.out.three)
        | fail)
      go_ret
      exact ⟨by rw [HBF.out]; rfl, HB3n.out⟩


def rootF (H : AuH) (k : Nat) (i : Nat) : Value := if i < k then .int .i64 (H.V (22 + i) : Nat) else .int .i64 0
def rootsV (H : AuH) : Value := .agg #[.int .i64 (H.V 22 : Nat), .int .i64 (H.V 23 : Nat), .int .i64 (H.V 24 : Nat), .int .i64 (H.V 25 : Nat), .int .i64 (H.V 26 : Nat), .int .i64 (H.V 27 : Nat), .int .i64 (H.V 28 : Nat), .int .i64 (H.V 29 : Nat)]

set_option maxHeartbeats 3200000 in
set_option maxRecDepth 100000 in
theorem auRoots_c {H : AuH} {n c : Nat} (HV : HeapV H n c) (ad : Addr) (w : World) (hv : IsVals w ad n H.V) :
    Calls Tryz.prog 113 #[hpV H ad n c] w fun e w' => e = .returned (rootsV H) ∧ Below w.heap.size w w' := by
  have HVL := hidp hv
  have hn := HV.nums
  have hnr : 30 ≤ n := by have := HV.len; omega
  have hcm : c ≤ 9223372036854775807 := hn.2.2.2.2.2.2.2.2
  have hnc := HV.cap
  have hbl : ad.block < w.heap.size := hv.1
  obtain ⟨W3, hW3⟩ : ∃ W3, ((w.alloc (.cells #[.int .i64 (H.t : Int), .int .i64 (H.p : Int), .int .i64 (H.s : Int), .slice (some ad) n c] 51)).alloc (.cells #[.int .i64 0, .int .i64 0, .int .i64 0, .int .i64 0, .int .i64 0, .int .i64 0, .int .i64 0, .int .i64 0] 114)).alloc (.cells #[.int .i64 0, .int .i64 0, .int .i64 0, .int .i64 0, .int .i64 0, .int .i64 0, .int .i64 0, .int .i64 0] 114) = W3 := ⟨_, rfl⟩
  have h0 := ((Held.new w 51 #[.int .i64 (H.t : Int), .int .i64 (H.p : Int), .int .i64 (H.s : Int), .slice (some ad) n c]).alloc (.cells #[.int .i64 0, .int .i64 0, .int .i64 0, .int .i64 0, .int .i64 0, .int .i64 0, .int .i64 0, .int .i64 0] 114)).alloc (.cells #[.int .i64 0, .int .i64 0, .int .i64 0, .int .i64 0, .int .i64 0, .int .i64 0, .int .i64 0, .int .i64 0] 114)
  have h1 := (Held.new (w.alloc (.cells #[.int .i64 (H.t : Int), .int .i64 (H.p : Int), .int .i64 (H.s : Int), .slice (some ad) n c] 51)) 114 #[.int .i64 0, .int .i64 0, .int .i64 0, .int .i64 0, .int .i64 0, .int .i64 0, .int .i64 0, .int .i64 0]).alloc (.cells #[.int .i64 0, .int .i64 0, .int .i64 0, .int .i64 0, .int .i64 0, .int .i64 0, .int .i64 0, .int .i64 0] 114)
  have h2 := Held.new ((w.alloc (.cells #[.int .i64 (H.t : Int), .int .i64 (H.p : Int), .int .i64 (H.s : Int), .slice (some ad) n c] 51)).alloc (.cells #[.int .i64 0, .int .i64 0, .int .i64 0, .int .i64 0, .int .i64 0, .int .i64 0, .int .i64 0, .int .i64 0] 114)) 114 #[.int .i64 0, .int .i64 0, .int .i64 0, .int .i64 0, .int .i64 0, .int .i64 0, .int .i64 0, .int .i64 0]
  have hbw := Bnew (Bnew (Bnew (B0 w) (.cells #[.int .i64 (H.t : Int), .int .i64 (H.p : Int), .int .i64 (H.s : Int), .slice (some ad) n c] 51)) (.cells #[.int .i64 0, .int .i64 0, .int .i64 0, .int .i64 0, .int .i64 0, .int .i64 0, .int .i64 0, .int .i64 0] 114)) (.cells #[.int .i64 0, .int .i64 0, .int .i64 0, .int .i64 0, .int .i64 0, .int .i64 0, .int .i64 0, .int .i64 0] 114)
  rw [World.size_alloc] at h1
  rw [World.size_alloc, World.size_alloc] at h2
  unfold hpV
  go_enter Tryz.func113, Tryz.ntmps113
  go_wp2_with fail
  rw [hW3] at h0 h1 h2 hbw
  have HX0 := hidp h0
  have HX1 := hidp h1
  have HR0 : Hid (RowF W3 (w.heap.size + 1 + 1) 114 8 8 (rootF H 0)) := hidp ⟨_, h2, by simp, by omega, by unfold maxLen; omega, fun i hi => by
    have e : rootF H 0 i = .int .i64 0 := by unfold rootF; rw [if_neg (by omega)]
    rw [e]
    rcases (by omega : i = 0 ∨ i = 1 ∨ i = 2 ∨ i = 3 ∨ i = 4 ∨ i = 5 ∨ i = 6 ∨ i = 7) with rfl | rfl | rfl | rfl | rfl | rfl | rfl | rfl <;> rfl⟩
  have HBW := hidp hbw
  clear h0 h1 h2 hbw hW3
  go_loopw [5] (fun u wr => ∃ k : Nat, k ≤ 8 ∧ u = .int .i64 (k : Int) ∧ Hid (Turns (fun i => i = w.heap.size + 1 + 1) W3 wr) ∧ Hid (RowF wr (w.heap.size + 1 + 1) 114 8 8 (rootF H k))) (fun u _ => 8 - (intOf u).toNat)
  case atStart => exact ⟨0, by omega, rfl, hidp (T0 _ _), HR0⟩
  case round =>
    clear HR0
    obtain ⟨k, hk, rfl, HT0, HR⟩ := hrel
    have HQ0 := hidp (HT0.out.held HX0.out (by omega))
    have HB := hidp (HT0.out.below HBW.out (by omega))
    by_cases hlt : k < 8
    · have t0 : decide ((k : Int) < 8) = true := decide_eq_true (by omega)
      have t8 : (k : Int) < 8 := by omega
      have HRT : Hid (nthI 22 8 1 (k : Int) = ((22 + k : Nat) : Int)) := hidp (by rw [nth_on (by omega) (by omega) (by omega)]; push_cast; omega)
      obtain ⟨c0, c1, c2, c3⟩ := HQ0.out.four
      have hin : 22 + k < n := by omega
      have hvk := (HVL.out.below HB.out).2 (22 + k) hin
      have hv32 := HV.lt (22 + k) hin
      have HRK := hidp (HR.out.congr (f' := rootF H k) (fun _ _ => rfl))
      have hrc := HR.out.cell hlt
      have hrf := HR.out.thawed k
      have HUP : Hid (∀ i, i < 8 → updF (rootF H k) k (.int .i64 (H.V (22 + k) : Nat)) i = rootF H (k + 1) i) := hidp (fun i hi => by
        unfold updF rootF
        by_cases e : i = k
        · subst e; rw [if_pos rfl, if_pos (by omega)]
        · rw [if_neg e]
          by_cases e2 : i < k
          · rw [if_pos e2, if_pos (by omega)]
          · rw [if_neg e2, if_neg (by omega)])
      have hr0 : rootF H k k = .int .i64 0 := by unfold rootF; rw [if_neg (by omega)]
      rw [hr0] at hrc
      obtain ⟨v, hvv⟩ : ∃ v, H.V (22 + k) = v := ⟨_, rfl⟩
      obtain ⟨ix, hHIX⟩ : ∃ ix, 22 + k = ix := ⟨_, rfl⟩
      rw [hHIX] at hin hvk HRT
      rw [← hHIX, hvv, hHIX] at hvk
      rw [hvv] at hv32 HUP
      have wv : IntKind.i64.wrap (v : Int) = (v : Int) := i64_same (by omega) (by omega)
      have HSV : Hid (∀ w', Turns (fun i => i = w.heap.size + 1 + 1) wr w' → (fun w' => w'.cell? ⟨w.heap.size, 3, none⟩ = some (.slice (some ad) n c) ∧ w'.cell? (ad.add ix) = some (.int .u32 (v : Int))) w') := hidp (fun w' hT => ⟨(hT.held HQ0.out (by omega)).four.2.2.2, by
        have e : (ad.add ix).block = ad.block := block_of_add _ _
        exact (cellSame (hT.block _ (by rw [e]; exact Nat.lt_of_lt_of_le hbl HB.out.size) (by rw [e]; omega))).trans hvk⟩)
      have HT9 : Hid (Turns (fun i => i = w.heap.size + 1 + 1) wr (wr.drew.setCell ⟨w.heap.size + 1 + 1, k, none⟩ (.int .i64 (v : Int)))) := hidp ((T0 (fun i => i = w.heap.size + 1 + 1) wr).drew.put (p := ⟨w.heap.size + 1 + 1, k, none⟩) rfl _)
      clear hvv hHIX
      go_wp2_with fail
      refine wp_region_held_drew (S := (fun w' => w'.cell? ⟨w.heap.size, 3, none⟩ = some (.slice (some ad) n c) ∧ w'.cell? (ad.add ix) = some (.int .u32 (v : Int)))) (by kernel_rfl) ?_ (fun hHeld => ?_)
      · (try dsimp only)
        first | exact ⟨c3, hvk⟩ | exact HSV.out _ HT9.out | exact hHeld
      refine tkz 0 ?_
      refine tkz 1 ?_
      refine tkz 2 ?_
      refine tkz 3 ?_
      refine wpAnyH_ready (rs := [4]) (by kernel_rfl) (by simp) ?_
      refine AllReadyH.cons (o := _) rfl (fun K hK => ?_) AllReadyH.nil
      go_simp
      (go_at_call 128; refine (plRoot_c _ _).mono ?_; rintro e w4 ⟨rfl, rfl⟩; rw [HRT.out])
      refine hK.out _ _ ?_ (fun hHeld => ?_)
      · (try dsimp only)
        first | exact ⟨c3, hvk⟩ | exact HSV.out _ HT9.out | exact hHeld
      clear hK K
      (try simp only [Act.put, gA, gB, gC, sA, sB, sC])
      refine tkz 5 ?_
      refine tkz 6 ?_
      refine tkz 7 ?_
      refine tkz 8 ?_
      refine wpAnyH_ready (rs := [9]) (by kernel_rfl) (by simp) ?_
      refine AllReadyH.cons (o := _) rfl (fun K hK => ?_) AllReadyH.nil
      go_simp
      skip
      refine hK.out _ _ ?_ (fun hHeld => ?_)
      · (try dsimp only)
        first | exact ⟨c3, hvk⟩ | exact HSV.out _ HT9.out | exact hHeld
      clear hK K
      (try simp only [Act.put, gA, gB, gC, sA, sB, sC])
      refine wpAnyH_done (by kernel_rfl) ?_ _
      go_wp2
      go_roundw
      case rel => exact ⟨k + 1, by omega, by go_num, hidp (HT0.out.trans HT9.out), hidp ((HR.out.put (w := wr.drew) hlt (.int .i64 (v : Int))).congr HUP.out)⟩
      case measure => simp [intOf]; omega
    · have t0 : decide ((k : Int) < 8) = false := decide_eq_false (by omega)
      have hk8 : k = 8 := by omega
      subst hk8
      have hf : ∀ i, i < 8 → rootF H 8 i = .int .i64 (H.V (22 + i) : Nat) := fun i hi => by unfold rootF; rw [if_pos hi]
      have HQ1 := hidp (HT0.out.held HX1.out (by omega))
      have r0 := (HR.out.cell (show 0 < 8 by omega)).trans (congrArg some (hf 0 (by omega)))
      have r1 := (HR.out.cell (show 1 < 8 by omega)).trans (congrArg some (hf 1 (by omega)))
      have r2 := (HR.out.cell (show 2 < 8 by omega)).trans (congrArg some (hf 2 (by omega)))
      have r3 := (HR.out.cell (show 3 < 8 by omega)).trans (congrArg some (hf 3 (by omega)))
      have r4 := (HR.out.cell (show 4 < 8 by omega)).trans (congrArg some (hf 4 (by omega)))
      have r5 := (HR.out.cell (show 5 < 8 by omega)).trans (congrArg some (hf 5 (by omega)))
      have r6 := (HR.out.cell (show 6 < 8 by omega)).trans (congrArg some (hf 6 (by omega)))
      have r7 := (HR.out.cell (show 7 < 8 by omega)).trans (congrArg some (hf 7 (by omega)))
      have s0 := HQ1.out.cell 0
      have s1 := HQ1.out.cell 1
      have s2 := HQ1.out.cell 2
      have s3 := HQ1.out.cell 3
      have s4 := HQ1.out.cell 4
      have s5 := HQ1.out.cell 5
      have s6 := HQ1.out.cell 6
      have s7 := HQ1.out.cell 7
      have f0 := HQ1.out.thawed 0
      have f1 := HQ1.out.thawed 1
      have f2 := HQ1.out.thawed 2
      have f3 := HQ1.out.thawed 3
      have f4 := HQ1.out.thawed 4
      have f5 := HQ1.out.thawed 5
      have f6 := HQ1.out.thawed 6
      have f7 := HQ1.out.thawed 7
      simp only [List.getElem?_toArray, List.getElem?_cons_zero, List.getElem?_cons_succ] at s0 s1 s2 s3 s4 s5 s6 s7
      have HBE := hidp (HB.out)
      go_wp2_with fail
      have z := ((((((((HQ1.out.put 0 (.int .i64 (H.V 22 : Nat))).put 1 (.int .i64 (H.V 23 : Nat))).put 2 (.int .i64 (H.V 24 : Nat))).put 3 (.int .i64 (H.V 25 : Nat))).put 4 (.int .i64 (H.V 26 : Nat))).put 5 (.int .i64 (H.V 27 : Nat))).put 6 (.int .i64 (H.V 28 : Nat))).put 7 (.int .i64 (H.V 29 : Nat)))
      have y0 := z.cell 0
      have y1 := z.cell 1
      have y2 := z.cell 2
      have y3 := z.cell 3
      have y4 := z.cell 4
      have y5 := z.cell 5
      have y6 := z.cell 6
      have y7 := z.cell 7
      simp at y0 y1 y2 y3 y4 y5 y6 y7
      refine bodyPost_ret (v := rootsV H) (by simp [results, Tryz.results113, go_sem, rootsV, y0, y1, y2, y3, y4, y5, y6, y7]) rfl ⟨rfl, ?_⟩
      exact (Bput (Bput (Bput (Bput (Bput (Bput (Bput (Bput HBE.out (p := ⟨w.heap.size + 1, 0, none⟩) (by simp) (.int .i64 (H.V 22 : Nat))) (p := ⟨w.heap.size + 1, 1, none⟩) (by simp) (.int .i64 (H.V 23 : Nat))) (p := ⟨w.heap.size + 1, 2, none⟩) (by simp) (.int .i64 (H.V 24 : Nat))) (p := ⟨w.heap.size + 1, 3, none⟩) (by simp) (.int .i64 (H.V 25 : Nat))) (p := ⟨w.heap.size + 1, 4, none⟩) (by simp) (.int .i64 (H.V 26 : Nat))) (p := ⟨w.heap.size + 1, 5, none⟩) (by simp) (.int .i64 (H.V 27 : Nat))) (p := ⟨w.heap.size + 1, 6, none⟩) (by simp) (.int .i64 (H.V 28 : Nat))) (p := ⟨w.heap.size + 1, 7, none⟩) (by simp) (.int .i64 (H.V 29 : Nat)))
end
section
theorem index8 (k : Nat) (hk : k < 8) (a0 a1 a2 a3 a4 a5 a6 a7 : Value) (w : World) : (Instr.index 114 (.agg #[a0, a1, a2, a3, a4, a5, a6, a7]) (.int .i64 (k : Int))).run Tryz.prog w = .ok ((#[a0, a1, a2, a3, a4, a5, a6, a7] : Array Value).getD k undef) w := by
  rcases (by omega : k = 0 ∨ k = 1 ∨ k = 2 ∨ k = 3 ∨ k = 4 ∨ k = 5 ∨ k = 6 ∨ k = 7) with rfl | rfl | rfl | rfl | rfl | rfl | rfl | rfl <;> kernel_rfl

set_option maxHeartbeats 3200000 in
set_option maxRecDepth 100000 in
theorem auHasRoots_c {H : AuH} {n c : Nat} (HV : HeapV H n c) (ad : Addr) (b : Bool) (hb : b = true ↔ H.R10) (w : World) (hv : IsVals w ad n H.V) (hT : SlotsLaid w) :
    Calls Tryz.prog 86 #[hpV H ad n c] w fun e w' => e = .returned (.bool b) ∧ Below w.heap.size w w' := by
  have HVL := hidp hv
  have HTL := hidp hT
  have HBC := hidp hb
  have HX0 := hidp (Held.new w 51 #[.int .i64 (H.t : Int), .int .i64 (H.p : Int), .int .i64 (H.s : Int), .slice (some ad) n c])
  obtain ⟨c0, c1, c2, c3⟩ := HX0.out.four
  have HBW := hidp (Bnew (B0 w) (.cells #[.int .i64 (H.t : Int), .int .i64 (H.p : Int), .int .i64 (H.s : Int), .slice (some ad) n c] 51))
  have hnr : 30 ≤ n := by have := HV.len; omega
  clear hv hT hb
  unfold hpV
  go_enter Tryz.func86, Tryz.ntmps86
  go_wp2_with (first
    | (go_at_call 113; refine (auRoots_c HV ad _ (HVL.out.below HBW.out)).mono ?_; rintro e w2 ⟨rfl, hb2⟩; have HB2 := hidp (Bgo HBW.out hb2); have HX2 := hidp (HX0.out.keep hb2); clear hb2; unfold rootsV)
    | fail)
  clear c0 c1 c2 c3
  go_loopw [7] (fun u wr => ∃ k : Nat, k ≤ 8 ∧ u = .int .i64 (k : Int) ∧ Hid (∀ i, i < k → H.V (22 + i) ≠ 0 → H.LiveAt (H.V (22 + i) : Int)) ∧ Hid (Held wr w.heap.size 51 #[.int .i64 (H.t : Int), .int .i64 (H.p : Int), .int .i64 (H.s : Int), .slice (some ad) n c]) ∧ Hid (Below w.heap.size w wr)) (fun u _ => 8 - (intOf u).toNat)
  case atStart => exact ⟨0, by omega, rfl, hidp (fun i h => absurd h (by omega)), HX2, HB2⟩
  case round =>
    clear HX2 HB2 HX0 HBW
    obtain ⟨k, hk, rfl, HOK, HX, HB⟩ := hrel
    obtain ⟨c0, c1, c2, c3⟩ := HX.out.four
    by_cases hlt : k < 8
    · have HVR := hidp (HVL.out.below HB.out)
      have HTR := hidp (HTL.out.below HB.out)
      have hv32 := HV.lt (22 + k) (by omega)
      have HST : Hid ((H.V (22 + k) ≠ 0 → H.LiveAt (H.V (22 + k) : Int)) → ∀ i, i < k + 1 → H.V (22 + i) ≠ 0 → H.LiveAt (H.V (22 + i) : Int)) := hidp (fun h i hi => by
        rcases Nat.lt_or_ge i k with h2 | h2
        · exact HOK.out i h2
        · have : i = k := by omega
          subst this; exact h)
      have HBN : Hid (¬ (H.V (22 + k) ≠ 0 → H.LiveAt (H.V (22 + k) : Int)) → b = false) := hidp (fun h => bool_no HBC.out (fun h2 => h (h2 k hlt)))
      obtain ⟨v, hvv⟩ : ∃ v, H.V (22 + k) = v := ⟨_, rfl⟩
      rw [hvv] at hv32 HST HBN
      have hix : ∀ w : World, (Instr.index 114 (.agg #[.int .i64 (H.V 22 : Nat), .int .i64 (H.V 23 : Nat), .int .i64 (H.V 24 : Nat), .int .i64 (H.V 25 : Nat), .int .i64 (H.V 26 : Nat), .int .i64 (H.V 27 : Nat), .int .i64 (H.V 28 : Nat), .int .i64 (H.V 29 : Nat)]) (.int .i64 (k : Int))).run Tryz.prog w = .ok (.int .i64 (v : Int)) w := fun w => by
        rw [index8 k hlt, ← hvv]
        clear hvv
        rcases (by omega : k = 0 ∨ k = 1 ∨ k = 2 ∨ k = 3 ∨ k = 4 ∨ k = 5 ∨ k = 6 ∨ k = 7) with rfl | rfl | rfl | rfl | rfl | rfl | rfl | rfl <;> rfl
      clear hvv
      clear HOK
      by_cases hz : v = 0
      · have q0 : ((v : Int) != 0) = false := by simp; omega
        have HOK1 := hidp (HST.out (fun h => absurd hz h))
        clear hz
        go_wp2_with fail
        go_roundw
        case rel => exact ⟨k + 1, by omega, by go_num, HOK1, HX, HB⟩
        case measure => simp [intOf]; omega
      · have q0 : ((v : Int) != 0) = true := by simp; omega
        by_cases hl : H.LiveAt (v : Int)
        · have HOK1 := hidp (HST.out (fun _ => hl))
          have HZ : Hid ((true = true) ↔ H.LiveAt (v : Int)) := hidp ⟨fun _ => hl, fun _ => rfl⟩
          have HLV : Hid (∀ W, IsVals W ad n H.V → SlotsLaid W → Calls Tryz.prog 114 #[hpV H ad n c, .int .i64 (v : Int)] W fun e w' => e = .returned (.bool true) ∧ Below W.heap.size W w') := hidp (fun W h1 h2 => auIsLive_c HV ad v hv32 true HZ.out W h1 h2)
          clear hl HZ
          go_wp2_with (first
            | (go_at_call 114; refine (HLV.out _ HVR.out HTR.out).mono ?_; rintro e w4 ⟨rfl, hb4⟩; have HB4 := hidp (Bgo HB.out hb4); have HX4 := hidp (HX.out.keep hb4); clear hb4)
            | fail)
          go_roundw
          case rel => exact ⟨k + 1, by omega, by go_num, HOK1, HX4, HB4⟩
          case measure => simp [intOf]; omega
        · have HBF := hidp (HBN.out (fun h => hl (h hz)))
          have HLV : Hid (∀ W, IsVals W ad n H.V → SlotsLaid W → Calls Tryz.prog 114 #[hpV H ad n c, .int .i64 (v : Int)] W fun e w' => e = .returned (.bool false) ∧ Below W.heap.size W w') := hidp (fun W h1 h2 => auIsLive_c HV ad v hv32 false ⟨fun h => (by cases h), fun h => absurd h hl⟩ W h1 h2)
          clear hl
          go_wp2_with (first
            | (go_at_call 114; refine (HLV.out _ HVR.out HTR.out).mono ?_; rintro e w4 ⟨rfl, hb4⟩; have HB4 := hidp (Bgo HB.out hb4); clear hb4)
            | fail)
          go_ret
          exact ⟨by rw [HBF.out]; rfl, HB4.out⟩
    · have hk8 : k = 8 := by omega
      have HBT : Hid (b = true) := hidp (bool_yes HBC.out (fun i hi => HOK.out i (by omega)))
      subst hk8
      go_wp2_with fail
      go_ret
      exact ⟨by rw [HBT.out]; rfl, HB.out⟩


def cfV (t q s : Int) (A : Option Addr) (n c : Nat) : Value := .agg #[.int .i64 t, .int .i64 q, .int .i64 s, .slice A n c]
set_option maxHeartbeats 1600000 in
theorem auIsOf_c (t q s : Int) (A : Option Addr) (n c : Nat) (hnc : n ≤ c) (hc : c ≤ maxLen) (b : Bool) (hb : b = true ↔ lC t q s ≠ 0 ∧ (n : Int) = lC t q s) (w : World) :
    Calls Tryz.prog 77 #[cfV t q s A n c] w fun e w' => e = .returned (.bool b) ∧ Below w.heap.size w w' := by
  have hcm : c ≤ 9223372036854775807 := hc
  have HX0 := hidp (Held.new w 51 #[.int .i64 t, .int .i64 q, .int .i64 s, .slice A n c])
  obtain ⟨c0, c1, c2, c3⟩ := HX0.out.four
  have HBW := hidp (Bnew (B0 w) (.cells #[.int .i64 t, .int .i64 q, .int .i64 s, .slice A n c] 51))
  have HCL := hidp (fun W => plCells_c t q s W)
  generalize lC t q s = y at *
  unfold cfV
  by_cases h0 : y = 0
  · have HBF : Hid (b = false) := hidp (bool_no hb (fun h => h.1 h0))
    subst h0
    clear hb
    go_enter Tryz.func77, Tryz.ntmps77
    go_wp2_with (first
      | (go_at_call 102; refine (HCL.out _).mono ?_; rintro e w2 ⟨rfl, hb2⟩; have HB2 := hidp (Bgo HBW.out hb2); clear hb2)
      | fail)
    go_ret
    exact ⟨by rw [HBF.out]; rfl, HB2.out⟩
  · have q0 : (y != 0) = true := by simpa using h0
    have q1 : ((n : Int) == y) = b := by
      by_cases h1 : (n : Int) = y
      · rw [bool_yes hb ⟨h0, h1⟩]; simpa using h1
      · rw [bool_no hb (fun h => h1 h.2)]; simpa using h1
    clear hb h0
    go_enter Tryz.func77, Tryz.ntmps77
    go_wp2_with (first
      | (go_at_call 102; refine (HCL.out _).mono ?_; rintro e w2 ⟨rfl, hb2⟩; have HB2 := hidp (Bgo HBW.out hb2); have HX2 := hidp (HX0.out.keep hb2); clear hb2 c0 c1 c2 c3; obtain ⟨c0, c1, c2, c3⟩ := HX2.out.four)
      | fail)
    go_ret
    exact ⟨rfl, HB2.out⟩


theorem cells_of {H : AuH} {n c : Nat} (HV : HeapV H n c) : lC (H.t : Int) (H.p : Int) (H.s : Int) ≠ 0 ∧ (n : Int) = lC (H.t : Int) (H.p : Int) (H.s : Int) := by
  have h := HV.len
  obtain ⟨e1, e2, e3, e4, e5, e6, e7⟩ := lay_yes HV.right
  rw [e5]
  omega
def rulesC (v : Value) : Array Value := #[.func (.func 77) #[v] #[], .func (.func 78) #[v] #[], .func (.func 79) #[v] #[], .func (.func 80) #[v] #[], .func (.func 81) #[v] #[], .func (.func 82) #[v] #[], .func (.func 83) #[v] #[], .func (.func 84) #[v] #[], .func (.func 85) #[v] #[], .func (.func 86) #[v] #[]]
set_option maxHeartbeats 1600000 in
set_option maxRecDepth 100000 in
theorem auRules_c (t q s : Int) (A : Option Addr) (n c : Nat) (w : World) :
    Calls Tryz.prog 47 #[cfV t q s A n c] w fun e w' => ∃ g, e = .returned (.slice (some ⟨g, 0, none⟩) 10 10) ∧ Held w' g 27 (rulesC (cfV t q s A n c)) ∧ w.heap.size ≤ g ∧ Below w.heap.size w w' := by
  have HX0 := hidp (Held.new w 51 #[.int .i64 t, .int .i64 q, .int .i64 s, .slice A n c])
  obtain ⟨c0, c1, c2, c3⟩ := HX0.out.four
  unfold cfV rulesC
  go_enter Tryz.func47, Tryz.ntmps47
  go_wp2_with fail
  go_ret
  refine ⟨_, rfl, Held.new2 w _ _ _, by simp, Bnew (Bnew (B0 w) _) _⟩


def AuH.rule (H : AuH) : Nat → Prop
  | 1 => H.Tiled
  | 2 => H.R3
  | 3 => H.R4
  | 4 => H.R5
  | 5 => ∀ k, k < 11 → H.ListOk (2 + k)
  | 6 => ∀ k, k < 9 → H.ListOk (13 + k)
  | 7 => H.R8
  | 8 => H.R9
  | 9 => H.R10
  | _ => True
def AuH.Told (H : AuH) (m : Nat) (b : Bool) : Prop := (b = true ∧ m = 0 ∧ ∀ i, i < 10 → H.rule i) ∨ (b = false ∧ ∃ k, m = k + 1 ∧ 1 ≤ k ∧ k < 10 ∧ (∀ i, i < k → H.rule i) ∧ ¬ H.rule k)
theorem AuH.Told.one {H : AuH} {m m' : Nat} {b b' : Bool} (h : H.Told m b) (h' : H.Told m' b') : m = m' ∧ b = b' := by
  rcases h with ⟨rfl, rfl, h1⟩ | ⟨rfl, k, rfl, k1, k2, h1, h2⟩ <;> rcases h' with ⟨rfl, rfl, h3⟩ | ⟨rfl, j, rfl, j1, j2, h3, h4⟩
  · exact ⟨rfl, rfl⟩
  · exact absurd (h1 j j2) h4
  · exact absurd (h3 k k2) h2
  · rcases Nat.lt_trichotomy k j with h5 | h5 | h5
    · exact absurd (h3 k h5) h2
    · subst h5; exact ⟨rfl, rfl⟩
    · exact absurd (h1 j h5) h4
theorem first_no (R : Nat → Prop) : ∀ n, (∀ i, i < n → R i) ∨ ∃ k, k < n ∧ (∀ i, i < k → R i) ∧ ¬ R k
  | 0 => .inl fun i h => absurd h (by omega)
  | n + 1 => by
    rcases first_no R n with h | ⟨k, h1, h2, h3⟩
    · by_cases hn : R n
      · exact .inl fun i hi => by
          rcases Nat.lt_or_ge i n with h4 | h4
          · exact h i h4
          · have : i = n := by omega
            subst this; exact hn
      · exact .inr ⟨n, by omega, h, hn⟩
    · exact .inr ⟨k, by omega, h2, h3⟩
theorem AuH.told_is (H : AuH) : ∃ m b, H.Told m b := by
  rcases first_no H.rule 10 with h | ⟨k, h1, h2, h3⟩
  · exact ⟨0, true, .inl ⟨rfl, rfl, h⟩⟩
  · refine ⟨k + 1, false, .inr ⟨rfl, k, rfl, ?_, h1, h2, h3⟩⟩
    rcases Nat.eq_zero_or_pos k with h6 | h6
    · subst h6; exact absurd trivial h3
    · exact h6


set_option maxHeartbeats 6400000 in
set_option maxRecDepth 100000 in
theorem auCheck_c {H : AuH} {n c : Nat} (HV : HeapV H n c) (ad : Addr) (w : World) (hv : IsVals w ad n H.V) (hT : SlotsLaid w) :
    Calls Tryz.prog 28 #[.agg #[.int .i64 (H.t : Int), .int .i64 (H.p : Int), .int .i64 (H.s : Int)], .slice (some ad) n c] w fun e w' => ∃ m b, e = .returned (.tuple #[.int .i64 ((m : Nat) : Int), .bool b]) ∧ H.Told m b ∧ Below w.heap.size w w' := by
  have HVL := hidp hv
  have HTL := hidp hT
  have hx := Held.new w 23 #[.int .i64 (H.t : Int), .int .i64 (H.p : Int), .int .i64 (H.s : Int)]
  obtain ⟨c0, c1, c2⟩ := hx.three
  have HBW := hidp (Bnew (B0 w) (.cells #[.int .i64 (H.t : Int), .int .i64 (H.p : Int), .int .i64 (H.s : Int)] 23))
  have HRU := hidp (fun W => auRules_c (H.t : Int) (H.p : Int) (H.s : Int) (some ad) n c W)
  have HOF := hidp (fun W => auIsOf_c (H.t : Int) (H.p : Int) (H.s : Int) (some ad) n c HV.cap HV.max true ⟨fun _ => (cells_of HV), fun _ => rfl⟩ W)
  have hcm : c ≤ 9223372036854775807 := HV.max
  clear hx hv hT
  unfold cfV at HRU HOF
  go_enter Tryz.func28, Tryz.ntmps28
  go_wp2_with (first
    | (go_at_call 47; refine (HRU.out _).mono ?_; rintro e w2 ⟨g, rfl, hh2, hg2, hb2⟩; have HR2 := hidp hh2; have HB2 := hidp (Bgo HBW.out hb2); clear hh2 hg2 hb2)
    | fail)
  clear c0 c1 c2 HBW HRU
  refine wp_loop_rounds 11 ?_
  rw [rounds_succ]
  have e0 := HR2.out.cell 0
  simp only [rulesC, List.getElem?_toArray, List.getElem?_cons_zero, List.getElem?_cons_succ] at e0
  go_wp2_with (first
    | (go_at_call 77; refine (HOF.out _).mono ?_; rintro e w3 ⟨rfl, hb3⟩; have HB3 := hidp (Bgo HB2.out hb3); have HR3 := hidp (HR2.out.keep hb3); clear hb3)
    | fail)
  clear e0 HR2
  rw [rounds_succ]
  have e1 := HR3.out.cell 1
  simp only [rulesC, List.getElem?_toArray, List.getElem?_cons_zero, List.getElem?_cons_succ] at e1
  by_cases hr : H.rule 1
  · have HOK : Hid (H.rule 1) := hidp hr
    have HOK1 := HOK
    have HTI : Hid H.Tiled := hidp hr
    clear hr
    go_wp2_with (first
      | (go_at_call 78; refine (auHasSpans_c HV ad true ⟨fun _ => HOK.out, fun _ => rfl⟩ _ (HVL.out.below HB3.out)).mono ?_; rintro e w4 ⟨rfl, hb4⟩; have HB4 := hidp (Bgo HB3.out hb4); have HR4 := hidp (HR3.out.keep hb4); clear hb4)
      | fail)
    clear e1 HOK HR3
    rw [rounds_succ]
    have e2 := HR4.out.cell 2
    simp only [rulesC, List.getElem?_toArray, List.getElem?_cons_zero, List.getElem?_cons_succ] at e2
    by_cases hr : H.rule 2
    · have HOK : Hid (H.rule 2) := hidp hr
      have HOK2 := HOK
      skip
      clear hr
      go_wp2_with (first
        | (go_at_call 79; refine (auHasFeet_c HV HTI.out ad true ⟨fun _ => HOK.out, fun _ => rfl⟩ _ (HVL.out.below HB4.out)).mono ?_; rintro e w5 ⟨rfl, hb5⟩; have HB5 := hidp (Bgo HB4.out hb5); have HR5 := hidp (HR4.out.keep hb5); clear hb5)
        | fail)
      clear e2 HOK HR4
      rw [rounds_succ]
      have e3 := HR5.out.cell 3
      simp only [rulesC, List.getElem?_toArray, List.getElem?_cons_zero, List.getElem?_cons_succ] at e3
      by_cases hr : H.rule 3
      · have HOK : Hid (H.rule 3) := hidp hr
        have HOK3 := HOK
        skip
        clear hr
        go_wp2_with (first
          | (go_at_call 80; refine (auHasFreeApart_c HV HTI.out ad true ⟨fun _ => HOK.out, fun _ => rfl⟩ _ (HVL.out.below HB5.out)).mono ?_; rintro e w6 ⟨rfl, hb6⟩; have HB6 := hidp (Bgo HB5.out hb6); have HR6 := hidp (HR5.out.keep hb6); clear hb6)
          | fail)
        clear e3 HOK HR5
        rw [rounds_succ]
        have e4 := HR6.out.cell 4
        simp only [rulesC, List.getElem?_toArray, List.getElem?_cons_zero, List.getElem?_cons_succ] at e4
        by_cases hr : H.rule 4
        · have HOK : Hid (H.rule 4) := hidp hr
          have HOK4 := HOK
          skip
          clear hr
          go_wp2_with (first
            | (go_at_call 81; refine (auHasSlots_c HV HTI.out ad true ⟨fun _ => HOK.out, fun _ => rfl⟩ _ (HVL.out.below HB6.out) (HTL.out.below HB6.out)).mono ?_; rintro e w7 ⟨rfl, hb7⟩; have HB7 := hidp (Bgo HB6.out hb7); have HR7 := hidp (HR6.out.keep hb7); clear hb7)
            | fail)
          clear e4 HOK HR6
          rw [rounds_succ]
          have e5 := HR7.out.cell 5
          simp only [rulesC, List.getElem?_toArray, List.getElem?_cons_zero, List.getElem?_cons_succ] at e5
          by_cases hr : H.rule 5
          · have HOK : Hid (H.rule 5) := hidp hr
            have HOK5 := HOK
            skip
            clear hr
            go_wp2_with (first
              | (go_at_call 82; refine (auHasBins_c HV HTI.out ad true ⟨fun _ => HOK.out, fun _ => rfl⟩ _ (HVL.out.below HB7.out) (HTL.out.below HB7.out)).mono ?_; rintro e w8 ⟨rfl, hb8⟩; have HB8 := hidp (Bgo HB7.out hb8); have HR8 := hidp (HR7.out.keep hb8); clear hb8)
              | fail)
            clear e5 HOK HR7
            rw [rounds_succ]
            have e6 := HR8.out.cell 6
            simp only [rulesC, List.getElem?_toArray, List.getElem?_cons_zero, List.getElem?_cons_succ] at e6
            by_cases hr : H.rule 6
            · have HOK : Hid (H.rule 6) := hidp hr
              have HOK6 := HOK
              skip
              clear hr
              go_wp2_with (first
                | (go_at_call 83; refine (auHasRacks_c HV HTI.out ad true ⟨fun _ => HOK.out, fun _ => rfl⟩ _ (HVL.out.below HB8.out) (HTL.out.below HB8.out)).mono ?_; rintro e w9 ⟨rfl, hb9⟩; have HB9 := hidp (Bgo HB8.out hb9); have HR9 := hidp (HR8.out.keep hb9); clear hb9)
                | fail)
              clear e6 HOK HR8
              rw [rounds_succ]
              have e7 := HR9.out.cell 7
              simp only [rulesC, List.getElem?_toArray, List.getElem?_cons_zero, List.getElem?_cons_succ] at e7
              by_cases hr : H.rule 7
              · have HOK : Hid (H.rule 7) := hidp hr
                have HOK7 := HOK
                skip
                clear hr
                go_wp2_with (first
                  | (go_at_call 84; refine (auHasNoOther_c HV HTI.out ad true ⟨fun _ => HOK.out, fun _ => rfl⟩ _ (HVL.out.below HB9.out) (HTL.out.below HB9.out)).mono ?_; rintro e w10 ⟨rfl, hb10⟩; have HB10 := hidp (Bgo HB9.out hb10); have HR10 := hidp (HR9.out.keep hb10); clear hb10)
                  | fail)
                clear e7 HOK HR9
                rw [rounds_succ]
                have e8 := HR10.out.cell 8
                simp only [rulesC, List.getElem?_toArray, List.getElem?_cons_zero, List.getElem?_cons_succ] at e8
                by_cases hr : H.rule 8
                · have HOK : Hid (H.rule 8) := hidp hr
                  have HOK8 := HOK
                  skip
                  clear hr
                  go_wp2_with (first
                    | (go_at_call 85; refine (auHasCounts_c HV HTI.out ad true ⟨fun _ => HOK.out, fun _ => rfl⟩ _ (HVL.out.below HB10.out)).mono ?_; rintro e w11 ⟨rfl, hb11⟩; have HB11 := hidp (Bgo HB10.out hb11); have HR11 := hidp (HR10.out.keep hb11); clear hb11)
                    | fail)
                  clear e8 HOK HR10
                  rw [rounds_succ]
                  have e9 := HR11.out.cell 9
                  simp only [rulesC, List.getElem?_toArray, List.getElem?_cons_zero, List.getElem?_cons_succ] at e9
                  by_cases hr : H.rule 9
                  · have HOK : Hid (H.rule 9) := hidp hr
                    have HOK9 := HOK
                    skip
                    clear hr
                    go_wp2_with (first
                      | (go_at_call 86; refine (auHasRoots_c HV ad true ⟨fun _ => HOK.out, fun _ => rfl⟩ _ (HVL.out.below HB11.out) (HTL.out.below HB11.out)).mono ?_; rintro e w12 ⟨rfl, hb12⟩; have HB12 := hidp (Bgo HB11.out hb12); have HR12 := hidp (HR11.out.keep hb12); clear hb12)
                      | fail)
                    clear e9 HOK HR11
                    rw [rounds_succ]
                    go_wp2_with fail
                    go_ret2
                    exact ⟨0, true, rfl, .inl ⟨rfl, rfl, fun j hj => by
                      rcases (by omega : j = 0 ∨ j = 1 ∨ j = 2 ∨ j = 3 ∨ j = 4 ∨ j = 5 ∨ j = 6 ∨ j = 7 ∨ j = 8 ∨ j = 9) with rfl | rfl | rfl | rfl | rfl | rfl | rfl | rfl | rfl | rfl
                      · exact trivial
                      · exact HOK1.out
                      · exact HOK2.out
                      · exact HOK3.out
                      · exact HOK4.out
                      · exact HOK5.out
                      · exact HOK6.out
                      · exact HOK7.out
                      · exact HOK8.out
                      · exact HOK9.out⟩, HB12.out⟩
                  · have HNO : Hid (¬ H.rule 9) := hidp hr
                    clear hr
                    go_wp2_with (first
                      | (go_at_call 86; refine (auHasRoots_c HV ad false ⟨fun h => (by cases h), fun h => absurd h HNO.out⟩ _ (HVL.out.below HB11.out) (HTL.out.below HB11.out)).mono ?_; rintro e w12 ⟨rfl, hb12⟩; have HB12 := hidp (Bgo HB11.out hb12); have HR12 := hidp (HR11.out.keep hb12); clear hb12)
                      | fail)
                    go_ret2
                    refine ⟨10, false, rfl, .inr ⟨rfl, 9, rfl, by omega, by omega, fun j hj => ?_, HNO.out⟩, HB12.out⟩
                    rcases (by omega : j = 0 ∨ j = 1 ∨ j = 2 ∨ j = 3 ∨ j = 4 ∨ j = 5 ∨ j = 6 ∨ j = 7 ∨ j = 8) with rfl | rfl | rfl | rfl | rfl | rfl | rfl | rfl | rfl
                    · exact trivial
                    · exact HOK1.out
                    · exact HOK2.out
                    · exact HOK3.out
                    · exact HOK4.out
                    · exact HOK5.out
                    · exact HOK6.out
                    · exact HOK7.out
                    · exact HOK8.out
                · have HNO : Hid (¬ H.rule 8) := hidp hr
                  clear hr
                  go_wp2_with (first
                    | (go_at_call 85; refine (auHasCounts_c HV HTI.out ad false ⟨fun h => (by cases h), fun h => absurd h HNO.out⟩ _ (HVL.out.below HB10.out)).mono ?_; rintro e w11 ⟨rfl, hb11⟩; have HB11 := hidp (Bgo HB10.out hb11); have HR11 := hidp (HR10.out.keep hb11); clear hb11)
                    | fail)
                  go_ret2
                  refine ⟨9, false, rfl, .inr ⟨rfl, 8, rfl, by omega, by omega, fun j hj => ?_, HNO.out⟩, HB11.out⟩
                  rcases (by omega : j = 0 ∨ j = 1 ∨ j = 2 ∨ j = 3 ∨ j = 4 ∨ j = 5 ∨ j = 6 ∨ j = 7) with rfl | rfl | rfl | rfl | rfl | rfl | rfl | rfl
                  · exact trivial
                  · exact HOK1.out
                  · exact HOK2.out
                  · exact HOK3.out
                  · exact HOK4.out
                  · exact HOK5.out
                  · exact HOK6.out
                  · exact HOK7.out
              · have HNO : Hid (¬ H.rule 7) := hidp hr
                clear hr
                go_wp2_with (first
                  | (go_at_call 84; refine (auHasNoOther_c HV HTI.out ad false ⟨fun h => (by cases h), fun h => absurd h HNO.out⟩ _ (HVL.out.below HB9.out) (HTL.out.below HB9.out)).mono ?_; rintro e w10 ⟨rfl, hb10⟩; have HB10 := hidp (Bgo HB9.out hb10); have HR10 := hidp (HR9.out.keep hb10); clear hb10)
                  | fail)
                go_ret2
                refine ⟨8, false, rfl, .inr ⟨rfl, 7, rfl, by omega, by omega, fun j hj => ?_, HNO.out⟩, HB10.out⟩
                rcases (by omega : j = 0 ∨ j = 1 ∨ j = 2 ∨ j = 3 ∨ j = 4 ∨ j = 5 ∨ j = 6) with rfl | rfl | rfl | rfl | rfl | rfl | rfl
                · exact trivial
                · exact HOK1.out
                · exact HOK2.out
                · exact HOK3.out
                · exact HOK4.out
                · exact HOK5.out
                · exact HOK6.out
            · have HNO : Hid (¬ H.rule 6) := hidp hr
              clear hr
              go_wp2_with (first
                | (go_at_call 83; refine (auHasRacks_c HV HTI.out ad false ⟨fun h => (by cases h), fun h => absurd h HNO.out⟩ _ (HVL.out.below HB8.out) (HTL.out.below HB8.out)).mono ?_; rintro e w9 ⟨rfl, hb9⟩; have HB9 := hidp (Bgo HB8.out hb9); have HR9 := hidp (HR8.out.keep hb9); clear hb9)
                | fail)
              go_ret2
              refine ⟨7, false, rfl, .inr ⟨rfl, 6, rfl, by omega, by omega, fun j hj => ?_, HNO.out⟩, HB9.out⟩
              rcases (by omega : j = 0 ∨ j = 1 ∨ j = 2 ∨ j = 3 ∨ j = 4 ∨ j = 5) with rfl | rfl | rfl | rfl | rfl | rfl
              · exact trivial
              · exact HOK1.out
              · exact HOK2.out
              · exact HOK3.out
              · exact HOK4.out
              · exact HOK5.out
          · have HNO : Hid (¬ H.rule 5) := hidp hr
            clear hr
            go_wp2_with (first
              | (go_at_call 82; refine (auHasBins_c HV HTI.out ad false ⟨fun h => (by cases h), fun h => absurd h HNO.out⟩ _ (HVL.out.below HB7.out) (HTL.out.below HB7.out)).mono ?_; rintro e w8 ⟨rfl, hb8⟩; have HB8 := hidp (Bgo HB7.out hb8); have HR8 := hidp (HR7.out.keep hb8); clear hb8)
              | fail)
            go_ret2
            refine ⟨6, false, rfl, .inr ⟨rfl, 5, rfl, by omega, by omega, fun j hj => ?_, HNO.out⟩, HB8.out⟩
            rcases (by omega : j = 0 ∨ j = 1 ∨ j = 2 ∨ j = 3 ∨ j = 4) with rfl | rfl | rfl | rfl | rfl
            · exact trivial
            · exact HOK1.out
            · exact HOK2.out
            · exact HOK3.out
            · exact HOK4.out
        · have HNO : Hid (¬ H.rule 4) := hidp hr
          clear hr
          go_wp2_with (first
            | (go_at_call 81; refine (auHasSlots_c HV HTI.out ad false ⟨fun h => (by cases h), fun h => absurd h HNO.out⟩ _ (HVL.out.below HB6.out) (HTL.out.below HB6.out)).mono ?_; rintro e w7 ⟨rfl, hb7⟩; have HB7 := hidp (Bgo HB6.out hb7); have HR7 := hidp (HR6.out.keep hb7); clear hb7)
            | fail)
          go_ret2
          refine ⟨5, false, rfl, .inr ⟨rfl, 4, rfl, by omega, by omega, fun j hj => ?_, HNO.out⟩, HB7.out⟩
          rcases (by omega : j = 0 ∨ j = 1 ∨ j = 2 ∨ j = 3) with rfl | rfl | rfl | rfl
          · exact trivial
          · exact HOK1.out
          · exact HOK2.out
          · exact HOK3.out
      · have HNO : Hid (¬ H.rule 3) := hidp hr
        clear hr
        go_wp2_with (first
          | (go_at_call 80; refine (auHasFreeApart_c HV HTI.out ad false ⟨fun h => (by cases h), fun h => absurd h HNO.out⟩ _ (HVL.out.below HB5.out)).mono ?_; rintro e w6 ⟨rfl, hb6⟩; have HB6 := hidp (Bgo HB5.out hb6); have HR6 := hidp (HR5.out.keep hb6); clear hb6)
          | fail)
        go_ret2
        refine ⟨4, false, rfl, .inr ⟨rfl, 3, rfl, by omega, by omega, fun j hj => ?_, HNO.out⟩, HB6.out⟩
        rcases (by omega : j = 0 ∨ j = 1 ∨ j = 2) with rfl | rfl | rfl
        · exact trivial
        · exact HOK1.out
        · exact HOK2.out
    · have HNO : Hid (¬ H.rule 2) := hidp hr
      clear hr
      go_wp2_with (first
        | (go_at_call 79; refine (auHasFeet_c HV HTI.out ad false ⟨fun h => (by cases h), fun h => absurd h HNO.out⟩ _ (HVL.out.below HB4.out)).mono ?_; rintro e w5 ⟨rfl, hb5⟩; have HB5 := hidp (Bgo HB4.out hb5); have HR5 := hidp (HR4.out.keep hb5); clear hb5)
        | fail)
      go_ret2
      refine ⟨3, false, rfl, .inr ⟨rfl, 2, rfl, by omega, by omega, fun j hj => ?_, HNO.out⟩, HB5.out⟩
      rcases (by omega : j = 0 ∨ j = 1) with rfl | rfl
      · exact trivial
      · exact HOK1.out
  · have HNO : Hid (¬ H.rule 1) := hidp hr
    clear hr
    go_wp2_with (first
      | (go_at_call 78; refine (auHasSpans_c HV ad false ⟨fun h => (by cases h), fun h => absurd h HNO.out⟩ _ (HVL.out.below HB3.out)).mono ?_; rintro e w4 ⟨rfl, hb4⟩; have HB4 := hidp (Bgo HB3.out hb4); have HR4 := hidp (HR3.out.keep hb4); clear hb4)
      | fail)
    go_ret2
    refine ⟨2, false, rfl, .inr ⟨rfl, 1, rfl, by omega, by omega, fun j hj => ?_, HNO.out⟩, HB4.out⟩
    rcases (by omega : j = 0) with rfl
    · exact trivial
end
section
set_option maxHeartbeats 1600000 in
set_option maxRecDepth 100000 in
theorem auCheck_no (t q s : Int) (A : Option Addr) (n c : Nat) (hnc : n ≤ c) (hc : c ≤ maxLen) (h : ¬ (lC t q s ≠ 0 ∧ (n : Int) = lC t q s)) (w : World) :
    Calls Tryz.prog 28 #[.agg #[.int .i64 t, .int .i64 q, .int .i64 s], .slice A n c] w fun e w' => e = .returned (.tuple #[.int .i64 1, .bool false]) ∧ Below w.heap.size w w' := by
  have hx := Held.new w 23 #[.int .i64 t, .int .i64 q, .int .i64 s]
  obtain ⟨c0, c1, c2⟩ := hx.three
  have HBW := hidp (Bnew (B0 w) (.cells #[.int .i64 t, .int .i64 q, .int .i64 s] 23))
  have HRU := hidp (fun W => auRules_c t q s A n c W)
  have HOF := hidp (fun W => auIsOf_c t q s A n c hnc hc false ⟨fun h2 => (by cases h2), fun h2 => absurd h2 h⟩ W)
  clear hx h
  unfold cfV at HRU HOF
  go_enter Tryz.func28, Tryz.ntmps28
  go_wp2_with (first
    | (go_at_call 47; refine (HRU.out _).mono ?_; rintro e w2 ⟨g, rfl, hh2, hg2, hb2⟩; have HR2 := hidp hh2; have HB2 := hidp (Bgo HBW.out hb2); clear hh2 hg2 hb2)
    | fail)
  clear c0 c1 c2 HBW HRU
  refine wp_loop_rounds 1 ?_
  rw [rounds_succ]
  have e0 := HR2.out.cell 0
  simp only [rulesC, List.getElem?_toArray, List.getElem?_cons_zero, List.getElem?_cons_succ] at e0
  go_wp2_with (first
    | (go_at_call 77; refine (HOF.out _).mono ?_; rintro e w3 ⟨rfl, hb3⟩; have HB3 := hidp (Bgo HB2.out hb3); clear hb3)
    | fail)
  go_ret2
  exact ⟨rfl, HB3.out⟩

def CheckIs (w : World) (t q s : Int) (A : Option Addr) (n c : Nat) (m : Nat) (b : Bool) : Prop :=
  ∀ W, Below w.heap.size w W → Calls Tryz.prog 28 #[.agg #[.int .i64 t, .int .i64 q, .int .i64 s], .slice A n c] W fun e w' => e = .returned (.tuple #[.int .i64 (m : Int), .bool b]) ∧ Below W.heap.size W w'
theorem CheckIs.grown {w w1 : World} {t q s : Int} {A : Option Addr} {n c m : Nat} {b : Bool} (h : CheckIs w t q s A n c m b) (hb : Below w.heap.size w w1) : CheckIs w1 t q s A n c m b :=
  fun W hW => h W (Bgo hb hW)
theorem checkIs_no (w : World) (t q s : Int) (A : Option Addr) (n c : Nat) (hnc : n ≤ c) (hc : c ≤ maxLen) (h : ¬ (lC t q s ≠ 0 ∧ (n : Int) = lC t q s)) : CheckIs w t q s A n c 1 false :=
  fun W _ => auCheck_no t q s A n c hnc hc h W
theorem checkIs_yes {H : AuH} {n c : Nat} (HV : HeapV H n c) (ad : Addr) (w : World) (hv : IsVals w ad n H.V) (hT : SlotsLaid w) {m : Nat} {b : Bool} (h : H.Told m b) : CheckIs w H.t H.p H.s (some ad) n c m b :=
  fun W hW => (auCheck_c HV ad W (hv.below hW) (hT.below hW)).mono (by
    rintro e w' ⟨m', b', rfl, h', hb⟩
    obtain ⟨rfl, rfl⟩ := h.one h'
    exact ⟨rfl, hb⟩)

set_option maxHeartbeats 1600000 in
theorem auHeapOf_c (t q s : Int) (A : Option Addr) (n c m : Nat) (b : Bool) (w : World) (hC : CheckIs w t q s A n c m b) :
    Calls Tryz.prog 20 #[.agg #[.int .i64 t, .int .i64 q, .int .i64 s], .slice A n c] w fun e w' => e = .returned (.tuple #[cfV t q s A n c, .bool b]) ∧ Below w.heap.size w w' := by
  have hx := (Held.new w 23 #[.int .i64 t, .int .i64 q, .int .i64 s]).alloc (.cells #[.int .i64 0, .int .i64 0, .int .i64 0, .slice none 0 0] 51)
  obtain ⟨c0, c1, c2⟩ := hx.three
  have HX := hidp hx
  have h4 := Held.new2 w (.cells #[.int .i64 t, .int .i64 q, .int .i64 s] 23) 51 #[.int .i64 0, .int .i64 0, .int .i64 0, .slice none 0 0]
  have HX4 := hidp h4
  have HBW := hidp (Bnew (Bnew (B0 w) (.cells #[.int .i64 t, .int .i64 q, .int .i64 s] 23)) (.cells #[.int .i64 0, .int .i64 0, .int .i64 0, .slice none 0 0] 51))
  have HCK := hidp hC
  clear hx hC h4
  go_enter Tryz.func20, Tryz.ntmps20
  go_wp2_with (first
    | (go_at_call 28; refine (HCK.out _ HBW.out).mono ?_; rintro e w2 ⟨rfl, hb2⟩; have HB2 := hidp (Bgo HBW.out hb2); have HX2 := hidp (HX.out.keep hb2); have HX42 := hidp (HX4.out.keep hb2); clear hb2 c0 c1 c2; obtain ⟨c0, c1, c2⟩ := HX2.out.three; obtain ⟨d0, d1, d2, d3⟩ := HX42.out.four; have f0 := HX42.out.thawed 0; have f1 := HX42.out.thawed 1; have f2 := HX42.out.thawed 2; have f3 := HX42.out.thawed 3)
    | fail)
  have z := (((HX42.out.put 0 (.int .i64 t)).put 1 (.int .i64 q)).put 2 (.int .i64 s)).put 3 (.slice A n c)
  have y0 := z.cell 0
  have y1 := z.cell 1
  have y2 := z.cell 2
  have y3 := z.cell 3
  simp at y0 y1 y2 y3
  refine bodyPost_ret (v := .tuple #[cfV t q s A n c, .bool b]) (by simp [results, Tryz.results20, go_sem, cfV, y0, y1, y2, y3]) rfl ⟨rfl, ?_⟩
  exact Bput (Bput (Bput (Bput HB2.out (by simp) _) (by simp) _) (by simp) _) (by simp) _
end
section
def blocksOf (l : List (Int × Int × Int)) : List (Int × Int) := (l.filter fun x => decide (x.1 = 2)).map fun x => x.2
def bkVs (l : List (Int × Int)) : List Value := l.flatMap fun x => [.int .i64 x.1, .int .i64 x.2]
theorem bkVs_snoc (l : List (Int × Int)) (x : Int × Int) : bkVs (l ++ [x]) = bkVs l ++ [.int .i64 x.1, .int .i64 x.2] := by unfold bkVs; rw [List.flatMap_append]; simp
theorem blocksOf_app (l m : List (Int × Int × Int)) : blocksOf (l ++ m) = blocksOf l ++ blocksOf m := by unfold blocksOf; rw [List.filter_append, List.map_append]
theorem blocksOf_yes {x : Int × Int × Int} (h : x.1 = 2) : blocksOf [x] = [x.2] := by simp [blocksOf, h]
theorem blocksOf_no {x : Int × Int × Int} (h : x.1 ≠ 2) : blocksOf [x] = [] := by simp [blocksOf, h]
theorem blocksOf_len (l : List (Int × Int × Int)) : (blocksOf l).length ≤ l.length := by unfold blocksOf; rw [List.length_map]; exact List.length_filter_le _ _
theorem blockInfo : (Tryz.prog.info? 110).map (fun i => (i.zero, i.size, i.bytes)) = some (some (.agg #[.int .i64 0, .int .i64 0]), 2, 16) := by kernel_rfl
theorem ptVs_get : ∀ (l : List (Int × Int × Int)) (i : Nat) (x : Int × Int × Int), l[i]? = some x → (ptVs l)[i * 3]? = some (.int .i64 x.1) ∧ (ptVs l)[i * 3 + 1]? = some (.int .i64 x.2.1) ∧ (ptVs l)[i * 3 + 2]? = some (.int .i64 x.2.2)
  | [], i, x, h => by simp at h
  | y :: l, 0, x, h => by
    simp at h
    subst h
    simp [ptVs]
  | y :: l, i + 1, x, h => by
    have h' : l[i]? = some x := by simpa using h
    obtain ⟨h1, h2, h3⟩ := ptVs_get l i x h'
    have e : ptVs (y :: l) = [.int .i64 y.1, .int .i64 y.2.1, .int .i64 y.2.2] ++ ptVs l := by simp [ptVs]
    have g : ∀ k, (ptVs (y :: l))[(i * 3 + k) + 3]? = (ptVs l)[i * 3 + k]? := fun k => by
      rw [e, List.getElem?_append_right (by simp)]
      simp
    exact ⟨by have := g 0; rw [Nat.add_zero] at this; rw [show (i + 1) * 3 = i * 3 + 3 by omega, this]; exact h1, by rw [show (i + 1) * 3 + 1 = (i * 3 + 1) + 3 by omega, g]; exact h2, by rw [show (i + 1) * 3 + 2 = (i * 3 + 2) + 3 by omega, g]; exact h3⟩
theorem own_caps3 {w : World} {base : Nat} {e : TypeId} {size n c : Nat} {A : Option Addr} {xs : List Value} (h : w.ownsRow base e size (.slice A n c) n xs) : n ≤ c ∧ c ≤ maxLen := by
  rcases h.2 with ⟨h1, h2⟩ | ⟨g, cap, cur, h1, hb, hg, hnc, hcm, hr⟩
  · injection h1 with _ h1 h3; omega
  · injection h1 with _ _ h3; omega
theorem own_part {w : World} {base n g cap : Nat} {e : TypeId} {l : List (Int × Int × Int)} (h : w.ownsRow base e 3 (.slice (some ⟨g, 0, none⟩) n cap) n (ptVs l)) (hn : l.length = n) {i : Nat} {x : Int × Int × Int} (hx : l[i]? = some x) :
    w.cell? ⟨g, i * 3, none⟩ = some (.int .i64 x.1) ∧ w.cell? ⟨g, i * 3 + 1, none⟩ = some (.int .i64 x.2.1) ∧ w.cell? ⟨g, i * 3 + 2, none⟩ = some (.int .i64 x.2.2) := by
  have hi : i < n := by
    rcases Nat.lt_or_ge i n with h1 | h1
    · exact h1
    · rw [List.getElem?_eq_none (by omega)] at hx; cases hx
  obtain ⟨h1, h2, h3⟩ := ptVs_get l i x hx
  exact ⟨(h.cellAt _ (by omega)).trans h1, (h.cellAt _ (by omega)).trans h2, (h.cellAt _ (by omega)).trans h3⟩

set_option maxHeartbeats 1600000 in
theorem auPartsTop_no (t q s : Int) (A : Option Addr) (n c m : Nat) (w : World) (hC : CheckIs w t q s A n c m false) :
    Calls Tryz.prog 11 #[.agg #[.int .i64 t, .int .i64 q, .int .i64 s], .slice A n c] w fun e w' => e = .returned (.slice none 0 0) ∧ Below w.heap.size w w' := by
  have hx := Held.new w 23 #[.int .i64 t, .int .i64 q, .int .i64 s]
  obtain ⟨c0, c1, c2⟩ := hx.three
  have HBW := hidp (Bnew (B0 w) (.cells #[.int .i64 t, .int .i64 q, .int .i64 s] 23))
  have HHO := hidp (auHeapOf_c t q s A n c m false _ (hC.grown HBW.out))
  clear hx hC
  unfold cfV at HHO
  go_enter Tryz.func11, Tryz.ntmps11
  go_wp2_with (first
    | (go_at_call 20; refine HHO.out.mono ?_; rintro e w2 ⟨rfl, hb2⟩; have HB2 := hidp (Bgo HBW.out hb2); clear hb2)
    | fail)
  go_ret
  exact ⟨rfl, Bnew HB2.out _⟩
set_option maxHeartbeats 1600000 in
theorem auPartsTop_yes {H : AuH} {n c : Nat} (HV : HeapV H n c) (ht : H.Tiled) (ad : Addr) (m : Nat) (w : World) (hv : IsVals w ad n H.V) (hT : SlotsLaid w) (hC : CheckIs w H.t H.p H.s (some ad) n c m true) :
    Calls Tryz.prog 11 #[.agg #[.int .i64 (H.t : Int), .int .i64 (H.p : Int), .int .i64 (H.s : Int)], .slice (some ad) n c] w fun e w' => ∃ u, e = .returned u ∧ w'.ownsRow w.heap.size 43 3 u H.parts.length (ptVs H.parts) ∧ Below w.heap.size w w' := by
  have hx := Held.new w 23 #[.int .i64 (H.t : Int), .int .i64 (H.p : Int), .int .i64 (H.s : Int)]
  obtain ⟨c0, c1, c2⟩ := hx.three
  have HBW := hidp (Bnew (B0 w) (.cells #[.int .i64 (H.t : Int), .int .i64 (H.p : Int), .int .i64 (H.s : Int)] 23))
  have HHO := hidp (auHeapOf_c (H.t : Int) (H.p : Int) (H.s : Int) (some ad) n c m true _ (hC.grown HBW.out))
  have HVL := hidp hv
  have HTL := hidp hT
  clear hx hC hv hT
  unfold cfV at HHO
  have HPP := hidp (fun (W : World) (h1 : Below w.heap.size w W) => auParts_c HV ht ad W (HVL.out.below h1) (HTL.out.below h1))
  unfold hpV at HPP
  go_enter Tryz.func11, Tryz.ntmps11
  go_wp2_with (first
    | (go_at_call 20; refine HHO.out.mono ?_; rintro e w2 ⟨rfl, hb2⟩; have HB2 := hidp (Bgo HBW.out hb2); have HB3 := hidp (Bnew HB2.out (.cells #[.int .i64 (H.t : Int), .int .i64 (H.p : Int), .int .i64 (H.s : Int), .slice (some ad) n c] 51)); have hx2 := Held.new w2 51 #[.int .i64 (H.t : Int), .int .i64 (H.p : Int), .int .i64 (H.s : Int), .slice (some ad) n c]; clear hb2 c0 c1 c2; obtain ⟨c0, c1, c2, c3⟩ := hx2.four)
    | (go_at_call 21; refine (HPP.out _ HB3.out).mono ?_; rintro e w4 ⟨u, rfl, hown4, hb4⟩; have HO4 := hidp hown4; have HB4 := hidp (Bgo HB3.out hb4); clear hown4 hb4)
    | fail)
  go_ret
  exact ⟨u, rfl, own_down HO4.out HB3.out.size, HB4.out⟩
end
end Go.Proofs.YtkbjckhbllmclaaGreatDoor

namespace Go.Proofs.YtkbjckhbllmclaaGreatDoor
open Go.ChangeShapes Go.WideShapes Go.ChangeAt Go.RowKit
set_option linter.unusedVariables false
section
def Contig : Int → List (Int × Int × Int) → Int → Prop
  | a, [], b => a = b
  | a, x :: l, b => (x.2.1 = a ∧ 1 ≤ x.2.2 ∧ 1 ≤ x.1 ∧ x.1 ≤ 5) ∧ Contig (a + x.2.2) l b
theorem Contig.app : ∀ {l : List (Int × Int × Int)} {a b c : Int} {m : List (Int × Int × Int)}, Contig a l b → Contig b m c → Contig a (l ++ m) c
  | [], a, b, c, m, h, h' => by
    have : a = b := h
    subst this
    exact h'
  | x :: l, a, b, c, m, h, h' => ⟨h.1, Contig.app h.2 h'⟩
theorem Contig.one {k a z : Int} (hk : 1 ≤ k ∧ k ≤ 5) (hz : 1 ≤ z) : Contig a [(k, a, z)] (a + z) := ⟨⟨rfl, hz, hk.1, hk.2⟩, rfl⟩
theorem Contig.le : ∀ {l : List (Int × Int × Int)} {a b : Int}, Contig a l b → a ≤ b
  | [], a, b, h => by have : a = b := h; omega
  | x :: l, a, b, h => by have := Contig.le h.2; have := h.1.2.1; omega
theorem Contig.at_ : ∀ {l : List (Int × Int × Int)} {a b : Int} {i : Nat} {x : Int × Int × Int}, Contig a (l.drop i) b → l[i]? = some x → (x.2.1 = a ∧ 1 ≤ x.2.2 ∧ 1 ≤ x.1 ∧ x.1 ≤ 5) ∧ Contig (a + x.2.2) (l.drop (i + 1)) b := by
  intro l a b i x h hx
  have hi : i < l.length := by
    rcases Nat.lt_or_ge i l.length with h1 | h1
    · exact h1
    · rw [List.getElem?_eq_none h1] at hx; cases hx
  rw [List.drop_eq_getElem_cons hi] at h
  have e : l[i] = x := by rw [List.getElem?_eq_getElem hi] at hx; injection hx
  rw [e] at h
  exact h
namespace AuH
variable {H : AuH}
theorem first_add (q m : Nat) : H.first q + (m : Int) * (H.pg : Int) = H.first (q + m) := by
  unfold first
  rw [← Int.add_mul]
  congr 1
  push_cast
  omega
theorem slot_kd (q i : Nat) : 1 ≤ (H.slotPart q i).1 ∧ (H.slotPart q i).1 ≤ 5 := by
  show 1 ≤ ((slotKd _ _ i : Nat) : Int) ∧ ((slotKd _ _ i : Nat) : Int) ≤ 5
  unfold slotKd
  split
  · decide
  · split <;> decide
theorem slots_contig (q : Nat) (hz : 1 ≤ H.zs q) : ∀ k, Contig (H.first q) (H.slotsTo q k) (H.first q + (k : Int) * (H.zs q : Int))
  | 0 => by
    have e : H.first q + ((0 : Nat) : Int) * (H.zs q : Int) = H.first q := by simp
    rw [e]
    exact rfl
  | k + 1 => by
    rw [slotsTo_succ]
    have e : H.first q + ((k + 1 : Nat) : Int) * (H.zs q : Int) = (H.first q + (k : Int) * (H.zs q : Int)) + (H.zs q : Int) := by
      push_cast
      rw [Int.add_mul]
      omega
    rw [e]
    exact (slots_contig q hz k).app ⟨⟨rfl, by show 1 ≤ (H.zs q : Int); omega, (slot_kd q k).1, (slot_kd q k).2⟩, rfl⟩
theorem partsAt_contig {n c : Nat} (HV : HeapV H n c) {q : Nat} (hk : H.K q ≠ 0) : Contig (H.first q) (H.partsAt q) (H.first (H.nx q)) := by
  have hg := pg_le HV
  have hs := HV.nums
  have hkc := H.K_cases q
  have hnx : H.first (H.nx q) = H.first q + (H.ln q : Int) * (H.pg : Int) := (first_add q (H.ln q)).symm
  have hpos : ∀ m : Nat, 1 ≤ m → 1 ≤ (m : Int) * (H.pg : Int) := fun m hm => by
    have h1 : 1 * 1 ≤ m * H.pg := Nat.mul_le_mul hm (by omega)
    have h2 : ((m * H.pg : Nat) : Int) = (m : Int) * (H.pg : Int) := by push_cast; rfl
    rw [← h2]
    omega
  rw [hnx]
  unfold partsAt
  by_cases h1 : H.K q = 1
  · rw [if_pos h1]
    exact Contig.one (by omega) (hpos _ (by omega))
  · rw [if_neg h1]
    by_cases h2 : H.K q = 2
    · rw [if_pos h2]
      exact Contig.one (by omega) (hpos _ (by omega))
    · have h3 : H.K q = 3 := by omega
      have hl : H.ln q = 1 := by omega
      rw [if_neg h2, if_pos h3, hl]
      obtain ⟨kc, hkc2⟩ : ∃ kc : Nat, H.Cl q = kc := ⟨(H.Cl q).toNat, by omega⟩
      have hf := size_facts (s := (H.s : Int)) (by omega) (k := kc) (by omega)
      have hz : H.zs q = sizeN (H.s : Int) (kc : Int) := by unfold zs; rw [hkc2]
      have hsl : H.sl q = slotN kc := by unfold sl; rw [hkc2, slotI_nat]
      have hfit : H.sl q * H.zs q ≤ H.pg := by rw [hz, hsl, hg.2.2.1, Nat.mul_comm]; exact hf.2.2.1
      have hc := slots_contig (H := H) q (by rw [hz]; omega) (H.sl q)
      have e1 : (H.sl q : Int) * (H.zs q : Int) = ((H.sl q * H.zs q : Nat) : Int) := by push_cast; rfl
      rw [e1] at hc
      unfold slack
      have e2 : H.first q + ((1 : Nat) : Int) * (H.pg : Int) = H.first q + (H.pg : Int) := by simp
      rw [e2]
      by_cases h4 : H.sl q * H.zs q < H.pg
      · rw [if_pos h4]
        have := hc.app (Contig.one (k := 5) (a := H.first q + ((H.sl q * H.zs q : Nat) : Int)) (z := (H.pg : Int) - ((H.sl q * H.zs q : Nat) : Int)) (by omega) (by omega))
        have e3 : H.first q + ((H.sl q * H.zs q : Nat) : Int) + ((H.pg : Int) - ((H.sl q * H.zs q : Nat) : Int)) = H.first q + (H.pg : Int) := by omega
        rwa [e3] at this
      · rw [if_neg h4, List.append_nil]
        have e3 : ((H.sl q * H.zs q : Nat) : Int) = (H.pg : Int) := by omega
        rwa [e3] at hc
theorem parts_contig {n c : Nat} (HV : HeapV H n c) (ht : H.Tiled) : Contig (H.pg : Int) H.parts (H.first H.p) := by
  have h : ∀ x, H.At x → Contig (H.pg : Int) (catTo H.partsAt x) (H.first x) := by
    intro x hx
    induction hx with
    | zero =>
      show (H.pg : Int) = H.first 0
      unfold first
      simp
    | step ha hc ih =>
      have hk := (H.can_iff _).1 hc
      rw [ht.cat ha hk.1 (fun q _ h => partsAt_no h)]
      exact ih.app (partsAt_contig HV hk.2.1)
  exact h _ ht.1
end AuH
end
end Go.Proofs.YtkbjckhbllmclaaGreatDoor

namespace Go.Proofs.YtkbjckhbllmclaaGreatDoor
open Go.ChangeShapes Go.WideShapes Go.ChangeAt Go.RowKit
set_option linter.unusedVariables false
set_option linter.unusedSimpArgs false
section
def pkA (parts : List (Int × Int × Int)) (z : Int) : List Int := (parts.filter fun x => decide (x.1 = 4) && decide (x.2.2 = z)).map fun x => x.2.1
structure FitsP (parts : List (Int × Int × Int)) (sz : Nat → Int) (T : Nat) (Z : Nat → Nat → List Int) : Prop where
  few : ∀ k, k < 9 → ∀ t, t < T → (Z t k).length ≤ 4
  perm : ∀ k, k < 9 → (haveT Z k T).Perm (pkA parts (sz k))
theorem perm_of_once : ∀ {ps l : List Int}, ps.Nodup → (∀ a ∈ ps, l.count a = 1) → ∃ r, l.Perm (ps ++ r)
  | [], l, _, _ => ⟨l, List.Perm.refl _⟩
  | a :: ps, l, hn, h => by
    have hn' := List.nodup_cons.1 hn
    have ha : a ∈ l := List.count_pos_iff.1 (by rw [h a (List.mem_cons_self ..)]; omega)
    have e1 : l.Perm (a :: l.erase a) := List.perm_cons_erase ha
    obtain ⟨r, hr⟩ := perm_of_once (ps := ps) (l := l.erase a) hn'.2 (fun b hb => by
      have hne : b ≠ a := fun e => hn'.1 (e ▸ hb)
      have h1 := h b (List.mem_cons_of_mem _ hb)
      rw [e1.count_eq b, List.count_cons] at h1
      simpa [Ne.symm hne] using h1)
    exact ⟨r, e1.trans (hr.cons a)⟩
theorem once_len {ps l : List Int} (hn : ps.Nodup) (h : ∀ a ∈ ps, l.count a = 1) : ps.length ≤ l.length ∧ (l.length = ps.length → l.Perm ps) := by
  obtain ⟨r, hr⟩ := perm_of_once hn h
  have h1 := hr.length_eq
  rw [List.length_append] at h1
  refine ⟨by omega, fun e => ?_⟩
  have h2 : r = [] := List.length_eq_zero_iff.1 (by omega)
  rw [h2, List.append_nil] at hr
  exact hr
def overN (parts : List (Int × Int × Int)) (sz : Nat → Int) (T : Nat) (Z : Nat → Nat → List Int) : Nat → Int
  | 0 => 0
  | j + 1 => overN parts sz T Z j + ((haveT Z j T).length : Int) - ((pkA parts (sz j)).length : Int)
def OnceP (parts : List (Int × Int × Int)) (sz : Nat → Int) (T : Nat) (Z : Nat → Nat → List Int) (k : Nat) : Prop :=
  (∀ t, t < T → (Z t k).length ≤ 4) ∧ ∀ a ∈ pkA parts (sz k), (haveT Z k T).count a = 1
section
variable {parts : List (Int × Int × Int)} {sz : Nat → Int} {T : Nat} {Z : Nat → Nat → List Int}
theorem overN_pos (hn : ∀ k, k < 9 → (pkA parts (sz k)).Nodup) (h : ∀ k, k < 9 → OnceP parts sz T Z k) : ∀ j, j ≤ 9 → 0 ≤ overN parts sz T Z j ∧ (overN parts sz T Z j = 0 → ∀ k, k < j → (haveT Z k T).Perm (pkA parts (sz k)))
  | 0, _ => ⟨Int.le_refl _, fun _ k hk => absurd hk (Nat.not_lt_zero _)⟩
  | j + 1, hj => by
    obtain ⟨h1, h2⟩ := overN_pos hn h j (by omega)
    obtain ⟨h3, h4⟩ := once_len (hn j (by omega)) (h j (by omega)).2
    refine ⟨by unfold overN; omega, fun e k hk => ?_⟩
    unfold overN at e
    by_cases hkj : k = j
    · subst hkj; exact h4 (by omega)
    · exact h2 (by omega) k (by omega)
theorem fits_iff (hn : ∀ k, k < 9 → (pkA parts (sz k)).Nodup) : ((∀ k, k < 9 → OnceP parts sz T Z k) ∧ overN parts sz T Z 9 = 0) ↔ FitsP parts sz T Z := by
  constructor
  · intro ⟨h, h0⟩
    exact ⟨fun k hk => (h k hk).1, (overN_pos hn h 9 (Nat.le_refl _)).2 h0⟩
  · intro h
    have h1 : ∀ k, k < 9 → OnceP parts sz T Z k := fun k hk => ⟨h.few k hk, fun a ha => by
      rw [(h.perm k hk).count_eq a]
      rw [(hn k hk).count, if_pos ha]⟩
    refine ⟨h1, ?_⟩
    have : ∀ j, j ≤ 9 → overN parts sz T Z j = 0 := fun j => by
      induction j with
      | zero => intro _; rfl
      | succ j ih =>
        intro hj
        unfold overN
        rw [ih (by omega), (h.perm j (by omega)).length_eq]
        omega
    exact this 9 (Nat.le_refl _)
end
theorem contig_low : ∀ {l : List (Int × Int × Int)} {a b : Int}, Contig a l b → (∀ x ∈ l, a ≤ x.2.1) ∧ (l.map fun x => x.2.1).Nodup
  | [], a, b, h => ⟨fun x hx => by simp at hx, List.nodup_nil⟩
  | x :: l, a, b, h => by
    obtain ⟨⟨h1, h2, _, _⟩, h3⟩ := h
    obtain ⟨g1, g2⟩ := contig_low h3
    refine ⟨fun y hy => ?_, ?_⟩
    · rcases List.mem_cons.1 hy with rfl | hy
      · omega
      · have := g1 y hy; omega
    · rw [List.map_cons]
      refine List.nodup_cons.2 ⟨fun hm => ?_, g2⟩
      obtain ⟨y, hy, e⟩ := List.mem_map.1 hm
      have := g1 y hy
      omega
theorem pkA_nodup {l : List (Int × Int × Int)} {a b : Int} (h : Contig a l b) (z : Int) : (pkA l z).Nodup := by
  unfold pkA
  exact (contig_low h).2.sublist (List.filter_sublist.map _)
end
end Go.Proofs.YtkbjckhbllmclaaGreatDoor
