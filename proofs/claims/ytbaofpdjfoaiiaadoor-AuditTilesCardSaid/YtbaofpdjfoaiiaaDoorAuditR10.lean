/-
  Rule 10: the roots. Written by audit/gen_r10.py.
-/
import Derived.Test.YtbaofpdjfoaiiaaDoorAuditR5
namespace Go.Proofs.YtbaofpdjfoaiiaaDoor
open Go.ChangeShapes Go.WideShapes Go.ChangeAt Go.RowKit Go.Shelf
set_option linter.unusedVariables false
set_option linter.unusedSimpArgs false

theorem cellSame {w w' : World} {p : Addr} (h : w'.heap[p.block]? = w.heap[p.block]?) : w'.cell? p = w.cell? p := by unfold World.cell?; rw [h]
namespace AuH
variable (H : AuH)
/-- a live block begins at an address -/
def LiveAt (a : Int) : Prop := spotB H.t H.p H.s a = true ∧
  ((H.K (spotP H.t H.p H.s a).toNat = 2 ∧ spotO H.t H.p H.s a = 0) ∨
   (H.K (spotP H.t H.p H.s a).toNat = 3 ∧ slotB H.t H.p H.s (H.Cl (spotP H.t H.p H.s a).toNat) (spotO H.t H.p H.s a) = true ∧
     (H.cel (spotP H.t H.p H.s a).toNat 4).testBit (slotR H.t H.p H.s (H.Cl (spotP H.t H.p H.s a).toNat) (spotO H.t H.p H.s a)).toNat = true))
def R10 : Prop := ∀ i, i < 8 → H.V (22 + i) ≠ 0 → H.LiveAt (H.V (22 + i) : Int)
end AuH

set_option maxHeartbeats 3200000 in
set_option maxRecDepth 100000 in
theorem auIsLive_c {H : AuH} {n c : Nat} (HV : HeapV H n c) (ad : Addr) (a : Nat) (ha : a < 2 ^ 32) (b : Bool) (hb : b = true ↔ H.LiveAt a) (w : World) (hv : IsVals w ad n H.V) (hT : SlotsLaid w) :
    Calls Tryd.prog 47 #[hpV H ad n c, .int .i64 (a : Int)] w fun e w' => e = .returned (.bool b) ∧ Below w.heap.size w w' := by
  have HVL := hidp hv
  have HTL := hidp hT
  have HX0 := hidp (Held.new w 41 #[.int .i64 (H.t : Int), .int .i64 (H.p : Int), .int .i64 (H.s : Int), .slice (some ad) n c])
  obtain ⟨c0, c1, c2, c3⟩ := HX0.out.four
  have HBW := hidp (Bnew (B0 w) (.cells #[.int .i64 (H.t : Int), .int .i64 (H.p : Int), .int .i64 (H.s : Int), .slice (some ad) n c] 41))
  have HPG := hidp (fun W => adPage_c H.t H.p H.s (a : Int) (by omega) (by omega) W)
  have hlv : H.LiveAt a ↔ spotB H.t H.p H.s a = true ∧ ((H.K (spotP H.t H.p H.s a).toNat = 2 ∧ spotO H.t H.p H.s a = 0) ∨ (H.K (spotP H.t H.p H.s a).toNat = 3 ∧ slotB H.t H.p H.s (H.Cl (spotP H.t H.p H.s a).toNat) (spotO H.t H.p H.s a) = true ∧ (H.cel (spotP H.t H.p H.s a).toNat 4).testBit (slotR H.t H.p H.s (H.Cl (spotP H.t H.p H.s a).toNat) (spotO H.t H.p H.s a)).toNat = true)) := Iff.rfl
  have HBC : b = true ↔ _ := hb.trans hlv
  clear hv hT hb hlv
  unfold hpV
  cases hs : spotB H.t H.p H.s a
  · have HBF : Hid (b = false) := hidp (bool_no HBC (fun h => by rw [hs] at h; cases h.1))
    rw [hs] at HPG
    clear HBC hs
    go_enter Tryd.func47, Tryd.ntmps47
    go_wp2_with (first
        | (go_at_call 65; refine (HPG.out _).mono ?_; rintro e w1 ⟨rfl, hb1⟩; have HB1 := hidp (Bgo HBW.out hb1); have HX1 := hidp (HX0.out.keep hb1); have HV1 := hidp (HVL.out.below HB1.out); clear hb1 c0 c1 c2 c3; obtain ⟨c0, c1, c2, c3⟩ := HX1.out.four)
        | fail)
    go_ret
    exact ⟨by rw [HBF.out]; rfl, HB1.out⟩
  · obtain ⟨h1, h2, h3, h4, ⟨h5, h6⟩, h7, h8⟩ := spot_parts hs
    obtain ⟨_, ⟨h9, h10⟩, _⟩ := addr_parts h1
    obtain ⟨q, hqq⟩ : ∃ q : Nat, spotP H.t H.p H.s a = q := ⟨(spotP H.t H.p H.s a).toNat, by omega⟩
    obtain ⟨o, hoo⟩ : ∃ o : Nat, spotO H.t H.p H.s a = o := ⟨(spotO H.t H.p H.s a).toNat, by omega⟩
    rw [hs] at HPG HBC
    rw [hqq, hoo] at HPG HBC
    have hq : q < H.p := by omega
    have ho : o < 1048576 := by omega
    simp only [Int.toNat_natCast, true_and] at HBC
    clear hs h1 h2 h3 h4 h5 h6 h7 h8 h9 h10 hqq hoo
    have hkc := H.K_cases q
    have hie := H.info_eq q
    rw [H.L_ln] at hie
    have hok := H.ok_of q
    generalize H.ok q = okb at *
    generalize H.K q = k at *
    generalize H.ln q = m at *
    have hcl : 0 ≤ H.Cl q ∧ H.Cl q ≤ 8 := by omega
    have HSL := hidp (fun W => fun hT => adSlot_c H.t H.p H.s (H.Cl q) (o : Int) (by omega) (by omega) (by omega) (by omega) W hT)
    obtain ⟨sb, hsb⟩ : ∃ sb, slotB H.t H.p H.s (H.Cl q) (o : Int) = sb := ⟨_, rfl⟩
    have hsr : sb = true → ∃ i : Nat, i < 32 ∧ slotR H.t H.p H.s (H.Cl q) (o : Int) = i := fun h => by
      obtain ⟨_, i, h1, _, h2⟩ := slot_parts (hsb.trans h)
      exact ⟨i, Nat.lt_of_lt_of_le h1 (slotI_le _), h2⟩
    rw [hsb] at HSL HBC
    generalize slotR H.t H.p H.s (H.Cl q) (o : Int) = sr0 at *
    generalize H.Cl q = cl at *
    clear hsb
    have HEI : Hid (infoG (H.cel q 0) = (k, (m : Int), cl, okb)) := hidp hie
    clear hie
    rcases (by omega : k = 0 ∨ k = 2 ∨ k = 3 ∨ k = 1) with hk | hk | hk | hk
    · subst hk
      have HBF : Hid (b = false) := hidp (bool_no HBC (fun h => by rcases h with h | h <;> exact absurd h.1 (by omega)))
      clear HBC hok hkc hsr
      go_enter Tryd.func47, Tryd.ntmps47
      go_wp2_with (first
        | (go_at_call 65; refine (HPG.out _).mono ?_; rintro e w1 ⟨rfl, hb1⟩; have HB1 := hidp (Bgo HBW.out hb1); have HX1 := hidp (HX0.out.keep hb1); have HV1 := hidp (HVL.out.below HB1.out); clear hb1 c0 c1 c2 c3; obtain ⟨c0, c1, c2, c3⟩ := HX1.out.four)
        | (have hz0 := HEI.out; clear hz0; go_at_call 27; refine (auAt_Info_c HV ad hq _ HV1.out).mono ?_; rintro e w2 ⟨rfl, hb2⟩; have HB2 := hidp (Bgo HB1.out hb2); have HX2 := hidp (HX1.out.keep hb2); clear hb2)
        | (go_at_call 26; refine (inGet_c _ _ _ _ _ (HV.cel_lt hq (by omega)) HEI.out _).mono ?_; rintro e w3 ⟨rfl, hb3⟩; have HB3 := hidp (Bgo HB2.out hb3); have HX3 := hidp ((HX2.out.keep hb3).alloc (.cells #[.int .i64 0, .int .i64 (m : Int), .int .i64 cl] 50)); have HB3n := hidp (Bnew HB3.out (.cells #[.int .i64 0, .int .i64 (m : Int), .int .i64 cl] 50)); have HN3 := hidp (Held.new w3 50 #[.int .i64 0, .int .i64 (m : Int), .int .i64 cl]); clear hb3 HEI c0 c1 c2 c3; obtain ⟨c0, c1, c2, c3⟩ := HX3.out.four; obtain ⟨d0, d1, d2⟩ := HN3.out.three)
        | fail)
      go_ret
      exact ⟨by rw [HBF.out]; rfl, HB3n.out⟩
    · subst hk
      have HBF : Hid (((o : Int) == 0) = b) := hidp (by
        by_cases h0 : o = 0
        · rw [bool_yes HBC (.inl ⟨rfl, by omega⟩)]; simp; omega
        · rw [bool_no HBC (fun h => by rcases h with h | h; (exact h0 (by omega)); exact absurd h.1 (by omega))]; simp; omega)
      have t0 := HBF.out
      clear HBC hok hkc hsr
      go_enter Tryd.func47, Tryd.ntmps47
      go_wp2_with (first
        | (go_at_call 65; refine (HPG.out _).mono ?_; rintro e w1 ⟨rfl, hb1⟩; have HB1 := hidp (Bgo HBW.out hb1); have HX1 := hidp (HX0.out.keep hb1); have HV1 := hidp (HVL.out.below HB1.out); clear hb1 c0 c1 c2 c3; obtain ⟨c0, c1, c2, c3⟩ := HX1.out.four)
        | (have hz0 := HEI.out; clear hz0; go_at_call 27; refine (auAt_Info_c HV ad hq _ HV1.out).mono ?_; rintro e w2 ⟨rfl, hb2⟩; have HB2 := hidp (Bgo HB1.out hb2); have HX2 := hidp (HX1.out.keep hb2); clear hb2)
        | (go_at_call 26; refine (inGet_c _ _ _ _ _ (HV.cel_lt hq (by omega)) HEI.out _).mono ?_; rintro e w3 ⟨rfl, hb3⟩; have HB3 := hidp (Bgo HB2.out hb3); have HX3 := hidp ((HX2.out.keep hb3).alloc (.cells #[.int .i64 2, .int .i64 (m : Int), .int .i64 cl] 50)); have HB3n := hidp (Bnew HB3.out (.cells #[.int .i64 2, .int .i64 (m : Int), .int .i64 cl] 50)); have HN3 := hidp (Held.new w3 50 #[.int .i64 2, .int .i64 (m : Int), .int .i64 cl]); clear hb3 HEI c0 c1 c2 c3; obtain ⟨c0, c1, c2, c3⟩ := HX3.out.four; obtain ⟨d0, d1, d2⟩ := HN3.out.three)
        | fail)
      go_ret
      exact ⟨rfl, HB3n.out⟩
    · subst hk
      obtain ⟨sl, hsl⟩ : ∃ sl, H.cel q 4 = sl := ⟨_, rfl⟩
      have HES := hidp hsl
      have hsl32 := HV.cel_lt hq (show 4 < 6 by omega)
      rw [hsl] at hsl32 HBC
      clear hok hkc hsl
      cases sb
      · have HBF : Hid (b = false) := hidp (bool_no HBC (fun h => by rcases h with h | h; (exact absurd h.1 (by omega)); exact absurd h.2.1 (by simp)))
        clear HBC hsr
        go_enter Tryd.func47, Tryd.ntmps47
        go_wp2_with (first
        | (go_at_call 65; refine (HPG.out _).mono ?_; rintro e w1 ⟨rfl, hb1⟩; have HB1 := hidp (Bgo HBW.out hb1); have HX1 := hidp (HX0.out.keep hb1); have HV1 := hidp (HVL.out.below HB1.out); clear hb1 c0 c1 c2 c3; obtain ⟨c0, c1, c2, c3⟩ := HX1.out.four)
        | (have hz0 := HEI.out; clear hz0; go_at_call 27; refine (auAt_Info_c HV ad hq _ HV1.out).mono ?_; rintro e w2 ⟨rfl, hb2⟩; have HB2 := hidp (Bgo HB1.out hb2); have HX2 := hidp (HX1.out.keep hb2); clear hb2)
        | (go_at_call 26; refine (inGet_c _ _ _ _ _ (HV.cel_lt hq (by omega)) HEI.out _).mono ?_; rintro e w3 ⟨rfl, hb3⟩; have HB3 := hidp (Bgo HB2.out hb3); have HX3 := hidp ((HX2.out.keep hb3).alloc (.cells #[.int .i64 3, .int .i64 (m : Int), .int .i64 cl] 50)); have HB3n := hidp (Bnew HB3.out (.cells #[.int .i64 3, .int .i64 (m : Int), .int .i64 cl] 50)); have HN3 := hidp (Held.new w3 50 #[.int .i64 3, .int .i64 (m : Int), .int .i64 cl]); clear hb3 HEI c0 c1 c2 c3; obtain ⟨c0, c1, c2, c3⟩ := HX3.out.four; obtain ⟨d0, d1, d2⟩ := HN3.out.three)
        | (go_at_call 66; refine (HSL.out _ (HTL.out.below HB3n.out)).mono ?_; rintro e w4 ⟨rfl, hb4⟩; have HB4 := hidp (Bgo HB3n.out hb4); have HX4 := hidp (HX3.out.keep hb4); have HV4 := hidp (HVL.out.below HB4.out); clear hb4 c0 c1 c2 c3; obtain ⟨c0, c1, c2, c3⟩ := HX4.out.four)
        | fail)
        go_ret
        exact ⟨by rw [HBF.out]; rfl, HB4.out⟩
      · obtain ⟨sr, hsr2, rfl⟩ := hsr rfl
        clear hsr
        obtain ⟨z, hz⟩ : ∃ z, sl.testBit sr = z := ⟨_, rfl⟩
        have HZ := hidp hz
        have HBF : Hid (z = b) := hidp (by
          rw [Int.toNat_natCast, hz] at HBC
          cases z <;> cases b <;> simp at HBC ⊢)
        clear HBC hz
        go_enter Tryd.func47, Tryd.ntmps47
        go_wp2_with (first
        | (go_at_call 65; refine (HPG.out _).mono ?_; rintro e w1 ⟨rfl, hb1⟩; have HB1 := hidp (Bgo HBW.out hb1); have HX1 := hidp (HX0.out.keep hb1); have HV1 := hidp (HVL.out.below HB1.out); clear hb1 c0 c1 c2 c3; obtain ⟨c0, c1, c2, c3⟩ := HX1.out.four)
        | (have hz0 := HEI.out; clear hz0; go_at_call 27; refine (auAt_Info_c HV ad hq _ HV1.out).mono ?_; rintro e w2 ⟨rfl, hb2⟩; have HB2 := hidp (Bgo HB1.out hb2); have HX2 := hidp (HX1.out.keep hb2); clear hb2)
        | (go_at_call 26; refine (inGet_c _ _ _ _ _ (HV.cel_lt hq (by omega)) HEI.out _).mono ?_; rintro e w3 ⟨rfl, hb3⟩; have HB3 := hidp (Bgo HB2.out hb3); have HX3 := hidp ((HX2.out.keep hb3).alloc (.cells #[.int .i64 3, .int .i64 (m : Int), .int .i64 cl] 50)); have HB3n := hidp (Bnew HB3.out (.cells #[.int .i64 3, .int .i64 (m : Int), .int .i64 cl] 50)); have HN3 := hidp (Held.new w3 50 #[.int .i64 3, .int .i64 (m : Int), .int .i64 cl]); clear hb3 HEI c0 c1 c2 c3; obtain ⟨c0, c1, c2, c3⟩ := HX3.out.four; obtain ⟨d0, d1, d2⟩ := HN3.out.three)
        | (go_at_call 66; refine (HSL.out _ (HTL.out.below HB3n.out)).mono ?_; rintro e w4 ⟨rfl, hb4⟩; have HB4 := hidp (Bgo HB3n.out hb4); have HX4 := hidp (HX3.out.keep hb4); have HV4 := hidp (HVL.out.below HB4.out); clear hb4 c0 c1 c2 c3; obtain ⟨c0, c1, c2, c3⟩ := HX4.out.four)
        | (have hz0 := HES.out; clear hz0; go_at_call 27; refine (auAt_Slots_c HV ad hq _ HV4.out).mono ?_; rintro e w5 ⟨rfl, hb5⟩; rw [HES.out]; have HB5 := hidp (Bgo HB4.out hb5); clear hb5)
        | (go_at_call 57; refine (auHasSlot_c sl sr z hsl32 hsr2 HZ.out _).mono ?_; rintro e w6 ⟨rfl, rfl⟩)
        | fail)
        go_ret
        exact ⟨by rw [← HBF.out]; rfl, HB5.out⟩
    · subst hk
      have HBF : Hid (b = false) := hidp (bool_no HBC (fun h => by rcases h with h | h <;> exact absurd h.1 (by omega)))
      clear HBC hok hkc hsr
      go_enter Tryd.func47, Tryd.ntmps47
      go_wp2_with (first
        | (go_at_call 65; refine (HPG.out _).mono ?_; rintro e w1 ⟨rfl, hb1⟩; have HB1 := hidp (Bgo HBW.out hb1); have HX1 := hidp (HX0.out.keep hb1); have HV1 := hidp (HVL.out.below HB1.out); clear hb1 c0 c1 c2 c3; obtain ⟨c0, c1, c2, c3⟩ := HX1.out.four)
        | (have hz0 := HEI.out; clear hz0; go_at_call 27; refine (auAt_Info_c HV ad hq _ HV1.out).mono ?_; rintro e w2 ⟨rfl, hb2⟩; have HB2 := hidp (Bgo HB1.out hb2); have HX2 := hidp (HX1.out.keep hb2); clear hb2)
        | (go_at_call 26; refine (inGet_c _ _ _ _ _ (HV.cel_lt hq (by omega)) HEI.out _).mono ?_; rintro e w3 ⟨rfl, hb3⟩; have HB3 := hidp (Bgo HB2.out hb3); have HX3 := hidp ((HX2.out.keep hb3).alloc (.cells #[.int .i64 1, .int .i64 (m : Int), .int .i64 cl] 50)); have HB3n := hidp (Bnew HB3.out (.cells #[.int .i64 1, .int .i64 (m : Int), .int .i64 cl] 50)); have HN3 := hidp (Held.new w3 50 #[.int .i64 1, .int .i64 (m : Int), .int .i64 cl]); clear hb3 HEI c0 c1 c2 c3; obtain ⟨c0, c1, c2, c3⟩ := HX3.out.four; obtain ⟨d0, d1, d2⟩ := HN3.out.three)
        | fail)
      go_ret
      exact ⟨by rw [HBF.out]; rfl, HB3n.out⟩


def rootF (H : AuH) (k : Nat) (i : Nat) : Value := if i < k then .int .i64 (H.V (22 + i) : Nat) else .int .i64 0
def rootsV (H : AuH) : Value := .agg #[.int .i64 (H.V 22 : Nat), .int .i64 (H.V 23 : Nat), .int .i64 (H.V 24 : Nat), .int .i64 (H.V 25 : Nat), .int .i64 (H.V 26 : Nat), .int .i64 (H.V 27 : Nat), .int .i64 (H.V 28 : Nat), .int .i64 (H.V 29 : Nat)]

set_option maxHeartbeats 3200000 in
set_option maxRecDepth 100000 in
theorem auRoots_c {H : AuH} {n c : Nat} (HV : HeapV H n c) (ad : Addr) (w : World) (hv : IsVals w ad n H.V) :
    Calls Tryd.prog 46 #[hpV H ad n c] w fun e w' => e = .returned (rootsV H) ∧ Below w.heap.size w w' := by
  have HVL := hidp hv
  have hn := HV.nums
  have hnr : 30 ≤ n := by have := HV.len; omega
  have hcm : c ≤ 9223372036854775807 := hn.2.2.2.2.2.2.2.2
  have hnc := HV.cap
  have hbl : ad.block < w.heap.size := hv.1
  obtain ⟨W3, hW3⟩ : ∃ W3, ((w.alloc (.cells #[.int .i64 (H.t : Int), .int .i64 (H.p : Int), .int .i64 (H.s : Int), .slice (some ad) n c] 41)).alloc (.cells #[.int .i64 0, .int .i64 0, .int .i64 0, .int .i64 0, .int .i64 0, .int .i64 0, .int .i64 0, .int .i64 0] 69)).alloc (.cells #[.int .i64 0, .int .i64 0, .int .i64 0, .int .i64 0, .int .i64 0, .int .i64 0, .int .i64 0, .int .i64 0] 69) = W3 := ⟨_, rfl⟩
  have h0 := ((Held.new w 41 #[.int .i64 (H.t : Int), .int .i64 (H.p : Int), .int .i64 (H.s : Int), .slice (some ad) n c]).alloc (.cells #[.int .i64 0, .int .i64 0, .int .i64 0, .int .i64 0, .int .i64 0, .int .i64 0, .int .i64 0, .int .i64 0] 69)).alloc (.cells #[.int .i64 0, .int .i64 0, .int .i64 0, .int .i64 0, .int .i64 0, .int .i64 0, .int .i64 0, .int .i64 0] 69)
  have h1 := (Held.new (w.alloc (.cells #[.int .i64 (H.t : Int), .int .i64 (H.p : Int), .int .i64 (H.s : Int), .slice (some ad) n c] 41)) 69 #[.int .i64 0, .int .i64 0, .int .i64 0, .int .i64 0, .int .i64 0, .int .i64 0, .int .i64 0, .int .i64 0]).alloc (.cells #[.int .i64 0, .int .i64 0, .int .i64 0, .int .i64 0, .int .i64 0, .int .i64 0, .int .i64 0, .int .i64 0] 69)
  have h2 := Held.new ((w.alloc (.cells #[.int .i64 (H.t : Int), .int .i64 (H.p : Int), .int .i64 (H.s : Int), .slice (some ad) n c] 41)).alloc (.cells #[.int .i64 0, .int .i64 0, .int .i64 0, .int .i64 0, .int .i64 0, .int .i64 0, .int .i64 0, .int .i64 0] 69)) 69 #[.int .i64 0, .int .i64 0, .int .i64 0, .int .i64 0, .int .i64 0, .int .i64 0, .int .i64 0, .int .i64 0]
  have hbw := Bnew (Bnew (Bnew (B0 w) (.cells #[.int .i64 (H.t : Int), .int .i64 (H.p : Int), .int .i64 (H.s : Int), .slice (some ad) n c] 41)) (.cells #[.int .i64 0, .int .i64 0, .int .i64 0, .int .i64 0, .int .i64 0, .int .i64 0, .int .i64 0, .int .i64 0] 69)) (.cells #[.int .i64 0, .int .i64 0, .int .i64 0, .int .i64 0, .int .i64 0, .int .i64 0, .int .i64 0, .int .i64 0] 69)
  rw [World.size_alloc] at h1
  rw [World.size_alloc, World.size_alloc] at h2
  unfold hpV
  go_enter Tryd.func46, Tryd.ntmps46
  go_wp2_with fail
  rw [hW3] at h0 h1 h2 hbw
  have HX0 := hidp h0
  have HX1 := hidp h1
  have HR0 : Hid (RowF W3 (w.heap.size + 1 + 1) 69 8 8 (rootF H 0)) := hidp ⟨_, h2, by simp, by omega, by unfold maxLen; omega, fun i hi => by
    have e : rootF H 0 i = .int .i64 0 := by unfold rootF; rw [if_neg (by omega)]
    rw [e]
    rcases (by omega : i = 0 ∨ i = 1 ∨ i = 2 ∨ i = 3 ∨ i = 4 ∨ i = 5 ∨ i = 6 ∨ i = 7) with rfl | rfl | rfl | rfl | rfl | rfl | rfl | rfl <;> rfl⟩
  have HBW := hidp hbw
  clear h0 h1 h2 hbw hW3
  go_loopw [5] (fun u wr => ∃ k : Nat, k ≤ 8 ∧ u = .int .i64 (k : Int) ∧ Hid (Turns (fun i => i = w.heap.size + 1 + 1) W3 wr) ∧ Hid (RowF wr (w.heap.size + 1 + 1) 69 8 8 (rootF H k))) (fun u _ => 8 - (intOf u).toNat)
  case atStart => exact ⟨0, by omega, rfl, hidp (T0 _ _), HR0⟩
  case round =>
    clear HR0
    obtain ⟨k, hk, rfl, HT0, HR⟩ := hrel
    have HQ0 := hidp (HT0.out.held HX0.out (by omega))
    have HB := hidp (HT0.out.below HBW.out (by omega))
    by_cases hlt : k < 8
    · have t0 : decide ((k : Int) < 8) = true := decide_eq_true (by omega)
      have t8 : (k : Int) < 8 := by omega
      have HRT : Hid (nthI 22 8 1 (k : Int) = ((22 + k : Nat) : Int)) := hidp (by rw [nth_on (by omega) (by omega) (by omega)]; push_cast; omega)
      obtain ⟨c0, c1, c2, c3⟩ := HQ0.out.four
      have hin : 22 + k < n := by omega
      have hvk := (HVL.out.below HB.out).2 (22 + k) hin
      have hv32 := HV.lt (22 + k) hin
      have HRK := hidp (HR.out.congr (f' := rootF H k) (fun _ _ => rfl))
      have hrc := HR.out.cell hlt
      have hrf := HR.out.thawed k
      have HUP : Hid (∀ i, i < 8 → updF (rootF H k) k (.int .i64 (H.V (22 + k) : Nat)) i = rootF H (k + 1) i) := hidp (fun i hi => by
        unfold updF rootF
        by_cases e : i = k
        · subst e; rw [if_pos rfl, if_pos (by omega)]
        · rw [if_neg e]
          by_cases e2 : i < k
          · rw [if_pos e2, if_pos (by omega)]
          · rw [if_neg e2, if_neg (by omega)])
      have hr0 : rootF H k k = .int .i64 0 := by unfold rootF; rw [if_neg (by omega)]
      rw [hr0] at hrc
      obtain ⟨v, hvv⟩ : ∃ v, H.V (22 + k) = v := ⟨_, rfl⟩
      obtain ⟨ix, hHIX⟩ : ∃ ix, 22 + k = ix := ⟨_, rfl⟩
      rw [hHIX] at hin hvk HRT
      rw [← hHIX, hvv, hHIX] at hvk
      rw [hvv] at hv32 HUP
      have wv : IntKind.i64.wrap (v : Int) = (v : Int) := i64_same (by omega) (by omega)
      have HSV : Hid (∀ w', Turns (fun i => i = w.heap.size + 1 + 1) wr w' → (fun w' => w'.cell? ⟨w.heap.size, 3, none⟩ = some (.slice (some ad) n c) ∧ w'.cell? (ad.add ix) = some (.int .u32 (v : Int))) w') := hidp (fun w' hT => ⟨(hT.held HQ0.out (by omega)).four.2.2.2, by
        have e : (ad.add ix).block = ad.block := block_of_add _ _
        exact (cellSame (hT.block _ (by rw [e]; exact Nat.lt_of_lt_of_le hbl HB.out.size) (by rw [e]; omega))).trans hvk⟩)
      have HT9 : Hid (Turns (fun i => i = w.heap.size + 1 + 1) wr (wr.drew.setCell ⟨w.heap.size + 1 + 1, k, none⟩ (.int .i64 (v : Int)))) := hidp ((T0 (fun i => i = w.heap.size + 1 + 1) wr).drew.put (p := ⟨w.heap.size + 1 + 1, k, none⟩) rfl _)
      clear hvv hHIX
      go_wp2_with fail
      refine wp_region_held_drew (S := (fun w' => w'.cell? ⟨w.heap.size, 3, none⟩ = some (.slice (some ad) n c) ∧ w'.cell? (ad.add ix) = some (.int .u32 (v : Int)))) (by kernel_rfl) ?_ (fun hHeld => ?_)
      · (try dsimp only)
        first | exact ⟨c3, hvk⟩ | exact HSV.out _ HT9.out | exact hHeld
      refine wpAnyH_take (i := 0) (oi := _) (v := ?_) rfl (by kernel_rfl) (by kernel_rfl) (by kernel_rfl) (fun _ _ _ h => h) (Or.inl ⟨by rfl, ?_⟩) (by assumption) ?_
      rotate_left
      · intro w hSw; (try dsimp only at hSw); go_simp; (try with_reducible rfl)
      (try simp only [Act.put, List.getElem_toArray, List.getElem_cons_zero, List.getElem_cons_succ, List.setIfInBounds_toArray, List.set_cons_zero, List.set_cons_succ])
      refine wpAnyH_take (i := 1) (oi := _) (v := ?_) rfl (by kernel_rfl) (by kernel_rfl) (by kernel_rfl) (fun _ _ _ h => h) (Or.inl ⟨by rfl, ?_⟩) (by assumption) ?_
      rotate_left
      · intro w hSw; (try dsimp only at hSw); go_simp; (try with_reducible rfl)
      (try simp only [Act.put, List.getElem_toArray, List.getElem_cons_zero, List.getElem_cons_succ, List.setIfInBounds_toArray, List.set_cons_zero, List.set_cons_succ])
      refine wpAnyH_take (i := 2) (oi := _) (v := ?_) rfl (by kernel_rfl) (by kernel_rfl) (by kernel_rfl) (fun _ _ _ h => h) (Or.inl ⟨by rfl, ?_⟩) (by assumption) ?_
      rotate_left
      · intro w hSw; (try dsimp only at hSw); go_simp; (try with_reducible rfl)
      (try simp only [Act.put, List.getElem_toArray, List.getElem_cons_zero, List.getElem_cons_succ, List.setIfInBounds_toArray, List.set_cons_zero, List.set_cons_succ])
      refine wpAnyH_take (i := 3) (oi := _) (v := ?_) rfl (by kernel_rfl) (by kernel_rfl) (by kernel_rfl) (fun _ _ _ h => h) (Or.inl ⟨by rfl, ?_⟩) (by assumption) ?_
      rotate_left
      · intro w hSw; (try dsimp only at hSw); go_simp; (try with_reducible rfl)
      (try simp only [Act.put, List.getElem_toArray, List.getElem_cons_zero, List.getElem_cons_succ, List.setIfInBounds_toArray, List.set_cons_zero, List.set_cons_succ])
      refine wpAnyH_ready (rs := [4]) (by kernel_rfl) (by simp) ?_
      refine AllReadyH.cons (o := _) rfl (fun K hK => ?_) AllReadyH.nil
      go_simp
      (go_at_call 64; refine (plRoot_c _ _).mono ?_; rintro e w4 ⟨rfl, rfl⟩; rw [HRT.out])
      refine hK.out _ _ ?_ (fun hHeld => ?_)
      · (try dsimp only)
        first | exact ⟨c3, hvk⟩ | exact HSV.out _ HT9.out | exact hHeld
      clear hK K
      (try simp only [Act.put, List.getElem_toArray, List.getElem_cons_zero, List.getElem_cons_succ, List.setIfInBounds_toArray, List.set_cons_zero, List.set_cons_succ])
      refine wpAnyH_take (i := 5) (oi := _) (v := ?_) rfl (by kernel_rfl) (by kernel_rfl) (by kernel_rfl) (fun _ _ _ h => h) (Or.inl ⟨by rfl, ?_⟩) (by assumption) ?_
      rotate_left
      · intro w hSw; (try dsimp only at hSw); go_simp; (try with_reducible rfl)
      (try simp only [Act.put, List.getElem_toArray, List.getElem_cons_zero, List.getElem_cons_succ, List.setIfInBounds_toArray, List.set_cons_zero, List.set_cons_succ])
      refine wpAnyH_take (i := 6) (oi := _) (v := ?_) rfl (by kernel_rfl) (by kernel_rfl) (by kernel_rfl) (fun _ _ _ h => h) (Or.inl ⟨by rfl, ?_⟩) (by assumption) ?_
      rotate_left
      · intro w hSw; (try dsimp only at hSw); go_simp; (try with_reducible rfl)
      (try simp only [Act.put, List.getElem_toArray, List.getElem_cons_zero, List.getElem_cons_succ, List.setIfInBounds_toArray, List.set_cons_zero, List.set_cons_succ])
      refine wpAnyH_take (i := 7) (oi := _) (v := ?_) rfl (by kernel_rfl) (by kernel_rfl) (by kernel_rfl) (fun _ _ _ h => h) (Or.inl ⟨by rfl, ?_⟩) (by assumption) ?_
      rotate_left
      · intro w hSw; (try dsimp only at hSw); go_simp; (try with_reducible rfl)
      (try simp only [Act.put, List.getElem_toArray, List.getElem_cons_zero, List.getElem_cons_succ, List.setIfInBounds_toArray, List.set_cons_zero, List.set_cons_succ])
      refine wpAnyH_take (i := 8) (oi := _) (v := ?_) rfl (by kernel_rfl) (by kernel_rfl) (by kernel_rfl) (fun _ _ _ h => h) (Or.inl ⟨by rfl, ?_⟩) (by assumption) ?_
      rotate_left
      · intro w hSw; (try dsimp only at hSw); go_simp; (try with_reducible rfl)
      (try simp only [Act.put, List.getElem_toArray, List.getElem_cons_zero, List.getElem_cons_succ, List.setIfInBounds_toArray, List.set_cons_zero, List.set_cons_succ])
      refine wpAnyH_ready (rs := [9]) (by kernel_rfl) (by simp) ?_
      refine AllReadyH.cons (o := _) rfl (fun K hK => ?_) AllReadyH.nil
      go_simp
      skip
      refine hK.out _ _ ?_ (fun hHeld => ?_)
      · (try dsimp only)
        first | exact ⟨c3, hvk⟩ | exact HSV.out _ HT9.out | exact hHeld
      clear hK K
      (try simp only [Act.put, List.getElem_toArray, List.getElem_cons_zero, List.getElem_cons_succ, List.setIfInBounds_toArray, List.set_cons_zero, List.set_cons_succ])
      refine wpAnyH_done (by kernel_rfl) ?_ _
      go_wp2
      go_roundw
      case rel => exact ⟨k + 1, by omega, by go_num, hidp (HT0.out.trans HT9.out), hidp ((HR.out.put (w := wr.drew) hlt (.int .i64 (v : Int))).congr HUP.out)⟩
      case measure => simp [intOf]; omega
    · have t0 : decide ((k : Int) < 8) = false := decide_eq_false (by omega)
      have hk8 : k = 8 := by omega
      subst hk8
      have hf : ∀ i, i < 8 → rootF H 8 i = .int .i64 (H.V (22 + i) : Nat) := fun i hi => by unfold rootF; rw [if_pos hi]
      have HQ1 := hidp (HT0.out.held HX1.out (by omega))
      have r0 := (HR.out.cell (show 0 < 8 by omega)).trans (congrArg some (hf 0 (by omega)))
      have r1 := (HR.out.cell (show 1 < 8 by omega)).trans (congrArg some (hf 1 (by omega)))
      have r2 := (HR.out.cell (show 2 < 8 by omega)).trans (congrArg some (hf 2 (by omega)))
      have r3 := (HR.out.cell (show 3 < 8 by omega)).trans (congrArg some (hf 3 (by omega)))
      have r4 := (HR.out.cell (show 4 < 8 by omega)).trans (congrArg some (hf 4 (by omega)))
      have r5 := (HR.out.cell (show 5 < 8 by omega)).trans (congrArg some (hf 5 (by omega)))
      have r6 := (HR.out.cell (show 6 < 8 by omega)).trans (congrArg some (hf 6 (by omega)))
      have r7 := (HR.out.cell (show 7 < 8 by omega)).trans (congrArg some (hf 7 (by omega)))
      have s0 := HQ1.out.cell 0
      have s1 := HQ1.out.cell 1
      have s2 := HQ1.out.cell 2
      have s3 := HQ1.out.cell 3
      have s4 := HQ1.out.cell 4
      have s5 := HQ1.out.cell 5
      have s6 := HQ1.out.cell 6
      have s7 := HQ1.out.cell 7
      have f0 := HQ1.out.thawed 0
      have f1 := HQ1.out.thawed 1
      have f2 := HQ1.out.thawed 2
      have f3 := HQ1.out.thawed 3
      have f4 := HQ1.out.thawed 4
      have f5 := HQ1.out.thawed 5
      have f6 := HQ1.out.thawed 6
      have f7 := HQ1.out.thawed 7
      simp only [List.getElem?_toArray, List.getElem?_cons_zero, List.getElem?_cons_succ] at s0 s1 s2 s3 s4 s5 s6 s7
      have HBE := hidp (HB.out)
      go_wp2_with fail
      have z := ((((((((HQ1.out.put 0 (.int .i64 (H.V 22 : Nat))).put 1 (.int .i64 (H.V 23 : Nat))).put 2 (.int .i64 (H.V 24 : Nat))).put 3 (.int .i64 (H.V 25 : Nat))).put 4 (.int .i64 (H.V 26 : Nat))).put 5 (.int .i64 (H.V 27 : Nat))).put 6 (.int .i64 (H.V 28 : Nat))).put 7 (.int .i64 (H.V 29 : Nat)))
      have y0 := z.cell 0
      have y1 := z.cell 1
      have y2 := z.cell 2
      have y3 := z.cell 3
      have y4 := z.cell 4
      have y5 := z.cell 5
      have y6 := z.cell 6
      have y7 := z.cell 7
      simp at y0 y1 y2 y3 y4 y5 y6 y7
      refine bodyPost_ret (v := rootsV H) (by simp [results, Tryd.results46, go_sem, rootsV, y0, y1, y2, y3, y4, y5, y6, y7]) rfl ⟨rfl, ?_⟩
      exact (Bput (Bput (Bput (Bput (Bput (Bput (Bput (Bput HBE.out (p := ⟨w.heap.size + 1, 0, none⟩) (by simp) (.int .i64 (H.V 22 : Nat))) (p := ⟨w.heap.size + 1, 1, none⟩) (by simp) (.int .i64 (H.V 23 : Nat))) (p := ⟨w.heap.size + 1, 2, none⟩) (by simp) (.int .i64 (H.V 24 : Nat))) (p := ⟨w.heap.size + 1, 3, none⟩) (by simp) (.int .i64 (H.V 25 : Nat))) (p := ⟨w.heap.size + 1, 4, none⟩) (by simp) (.int .i64 (H.V 26 : Nat))) (p := ⟨w.heap.size + 1, 5, none⟩) (by simp) (.int .i64 (H.V 27 : Nat))) (p := ⟨w.heap.size + 1, 6, none⟩) (by simp) (.int .i64 (H.V 28 : Nat))) (p := ⟨w.heap.size + 1, 7, none⟩) (by simp) (.int .i64 (H.V 29 : Nat)))
end Go.Proofs.YtbaofpdjfoaiiaaDoor
