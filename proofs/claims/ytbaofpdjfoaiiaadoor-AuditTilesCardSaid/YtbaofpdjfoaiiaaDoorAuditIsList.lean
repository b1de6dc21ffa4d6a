/-
  Rules 6 to 8: the bins, the racks, and no other links. Written by audit/gen_islist.py.
-/
import Derived.Test.YtbaofpdjfoaiiaaDoorAuditLists
namespace Go.Proofs.YtbaofpdjfoaiiaaDoor
open Go.ChangeShapes Go.WideShapes Go.ChangeAt Go.RowKit Go.Shelf
set_option linter.unusedVariables false
set_option linter.unusedSimpArgs false

namespace AuH
variable (H : AuH)
/-- m pages are linked from at_ on, all of those of the list of the head, ahead ahead of the first one, and none behind the last one -/
def chain (head : Int) : Nat → Nat → Nat → Prop
  | 0, at_, _ => at_ = 0
  | m + 1, at_, ahead => (1 ≤ at_ ∧ at_ ≤ H.p ∧ H.tgt (at_ - 1) = head ∧ H.cel (at_ - 1) 3 = ahead) ∧ chain head m (H.cel (at_ - 1) 2) at_
def isF (head : Int) (q : Nat) : Nat := if H.tgt q = head then 1 else 0
/-- how many of the first x pages belong in a list -/
def cnt (head : Int) (x : Nat) : Nat := sumTo (H.isF head) x
def ListOk (head : Nat) : Prop := H.chain head (H.cnt head H.p) (H.V head) 0
variable {H}
theorem cnt_succ (head : Int) (x : Nat) : H.cnt head (x + 1) = H.cnt head x + H.isF head x := rfl
theorem cnt_mono (head : Int) {x y : Nat} (h : x ≤ y) : H.cnt head x ≤ H.cnt head y := by
  induction h with
  | refl => exact Nat.le_refl _
  | step h ih => rw [cnt_succ]; omega
end AuH

set_option maxHeartbeats 1600000 in
set_option maxRecDepth 100000 in
theorem auIsList_c {H : AuH} {n c : Nat} (HV : HeapV H n c) (ad : Addr) (head : Nat) (hh : head < 30) (g : Nat) (b : Bool) (hb : b = true ↔ H.ListOk head) (w : World) (hv : IsVals w ad n H.V) (hl : IntsF w g H.p H.tgt) :
    Calls Tryd.prog 59 #[hpV H ad n c, .int .i64 (head : Int), .slice (some ⟨g, 0, none⟩) H.p H.p] w fun e w' => e = .returned (.bool b) ∧ Below w.heap.size w w' := by
  have hn := HV.nums
  have hln := HV.len
  have hin : head < n := by omega
  have hpm : H.p ≤ 1024 := hn.2.2.2.1
  have hcm : c ≤ 9223372036854775807 := hn.2.2.2.2.2.2.2.2
  have hnc := HV.cap
  have HVL := hidp hv
  have HL := hidp hl
  have hbl : (ad.add head).block < w.heap.size := by rw [block_of_add]; exact hv.1
  have hv32 := HV.lt head hin
  have hv0 : (w.alloc (.cells #[.int .i64 (H.t : Int), .int .i64 (H.p : Int), .int .i64 (H.s : Int), .slice (some ad) n c] 41)).cell? (ad.add head) = some (.int .u32 (H.V head : Nat)) := (Below.cell (Bnew (B0 w) _) hbl).trans (hv.2 head hin)
  obtain ⟨v, hvv⟩ : ∃ v, H.V head = v := ⟨_, rfl⟩
  have HBV : Hid (b = true ↔ H.chain head (H.cnt head H.p) v 0) := hidp (by rw [← hvv]; exact hb)
  rw [hvv] at hv0 hv32
  have HX0 := hidp (Held.new w 41 #[.int .i64 (H.t : Int), .int .i64 (H.p : Int), .int .i64 (H.s : Int), .slice (some ad) n c])
  obtain ⟨c0, c1, c2, c3⟩ := HX0.out.four
  have HBW := hidp (Bnew (B0 w) (.cells #[.int .i64 (H.t : Int), .int .i64 (H.p : Int), .int .i64 (H.s : Int), .slice (some ad) n c] 41))
  clear hv hl hvv hbl hb hn hln
  unfold hpV
  go_enter Tryd.func59, Tryd.ntmps59
  go_wp2_with fail
  clear c0 c1 c2 c3 hv0
  generalize w.alloc (.cells #[.int .i64 (H.t : Int), .int .i64 (H.p : Int), .int .i64 (H.s : Int), .slice (some ad) n c] 41) = W3 at *
  go_loopw [7, 8, 20] (fun u x y wr => ∃ (i a h r : Nat), i ≤ H.p ∧ y = .int .i64 (i : Int) ∧ u = .int .u32 (a : Int) ∧ x = .int .u32 (h : Int) ∧ a < 2 ^ 32 ∧ h < 2 ^ 32 ∧ Hid (H.cnt head i + r = H.cnt head H.p) ∧ Hid (b = true ↔ H.chain head r a h) ∧ Hid (Held wr w.heap.size 41 #[.int .i64 (H.t : Int), .int .i64 (H.p : Int), .int .i64 (H.s : Int), .slice (some ad) n c]) ∧ Hid (Below w.heap.size w wr)) (fun _ _ y _ => H.p - (intOf y).toNat)
  case atStart => exact ⟨0, v, 0, H.cnt head H.p, by omega, rfl, rfl, rfl, by omega, by omega, hidp (by show 0 + _ = _; omega), HBV, HX0, HBW⟩
  case round =>
    clear HX0 HBW HBV
    obtain ⟨i, a, h, r, hi, rfl, rfl, rfl, ha32, hh32, HR, HBC, HX0, HB⟩ := hrel
    obtain ⟨c0, c1, c2, c3⟩ := HX0.out.four
    have HLR := hidp (HL.out.keep HB.out)
    have HVR := hidp (HVL.out.below HB.out)
    by_cases hlt : i < H.p
    · have l0 := HLR.out.at_ hlt
      have t0 : decide ((i : Int) < H.p) = true := decide_eq_true (by omega)
      have HM1 := hidp (AuH.cnt_mono (H := H) head (show i + 1 ≤ H.p by omega))
      by_cases ht : H.tgt i = head
      · have HC1 : Hid (H.cnt head (i + 1) = H.cnt head i + 1) := hidp (by rw [AuH.cnt_succ]; unfold AuH.isF; rw [if_pos ht])
        obtain ⟨r', hr'⟩ : ∃ r', r = r' + 1 := ⟨r - 1, by have := HR.out; have := HC1.out; have := HM1.out; omega⟩
        subst hr'
        rw [ht] at l0
        have q0 : ((head : Int) != (head : Int)) = false := by simp
        clear ht
        by_cases hz : 1 ≤ a ∧ a ≤ H.p
        · obtain ⟨q, rfl⟩ : ∃ q, a = q + 1 := ⟨a - 1, by omega⟩
          have hq : q < H.p := by omega
          have l1 := HLR.out.at_ hq
          obtain ⟨tq, htq⟩ : ∃ tq, H.tgt q = tq := ⟨_, rfl⟩
          obtain ⟨pv, hpv⟩ : ∃ pv, H.cel q 3 = pv := ⟨_, rfl⟩
          obtain ⟨nv, hnv⟩ : ∃ nv, H.cel q 2 = nv := ⟨_, rfl⟩
          have HPV := hidp hpv
          have HNV := hidp hnv
          have hn32 : nv < 2 ^ 32 := by rw [← hnv]; exact HV.cel_lt hq (by omega)
          have HCI : Hid (H.chain head (r' + 1) (q + 1) h ↔ (tq = head ∧ pv = h) ∧ H.chain head r' nv (q + 1)) := hidp (by
            show ((1 ≤ q + 1 ∧ q + 1 ≤ H.p ∧ H.tgt (q + 1 - 1) = head ∧ H.cel (q + 1 - 1) 3 = h) ∧ H.chain head r' (H.cel (q + 1 - 1) 2) (q + 1)) ↔ _
            rw [Nat.add_sub_cancel, htq, hpv, hnv]
            constructor
            · rintro ⟨⟨_, _, h1, h2⟩, h3⟩; exact ⟨⟨h1, h2⟩, h3⟩
            · rintro ⟨⟨h1, h2⟩, h3⟩; exact ⟨⟨by omega, by omega, h1, h2⟩, h3⟩)
          rw [htq] at l1
          clear htq hpv hnv
          by_cases h1 : tq = head
          · subst h1
            by_cases h2 : pv = h
            · subst h2
              have q2 : ((pv : Int) != (pv : Int)) = false := by simp
              go_wp2_with (first
                | (go_at_call 77; refine (auLinked_yes HV ad q hq _).mono ?_; rintro e w4 ⟨rfl, hb4⟩; have HB4 := hidp (Bgo HB.out hb4); have HX4 := hidp (HX0.out.keep hb4); have l2 := (hb4.cell (p := ⟨g, q, none⟩) HLR.out.lt).trans l1; have HV4 := hidp (HVR.out.below hb4); clear hb4; obtain ⟨e0, e1, e2, e3⟩ := HX4.out.four)
                | (have hz0 := HPV.out; clear hz0; go_at_call 27; refine (auAt_Prev_c HV ad hq _ HV4.out).mono ?_; rintro e w5 ⟨rfl, hb5⟩; rw [HPV.out]; have HB5 := hidp (Bgo HB4.out hb5); have HX5 := hidp (HX4.out.keep hb5); have HV5 := hidp (HV4.out.below hb5); clear hb5 HPV e0 e1 e2 e3; obtain ⟨e0, e1, e2, e3⟩ := HX5.out.four)
                | (go_at_call 27; refine (auAt_Next_c HV ad hq _ HV5.out).mono ?_; rintro e w6 ⟨rfl, hb6⟩; rw [HNV.out]; have HB6 := hidp (Bgo HB5.out hb6); have HX6 := hidp (HX5.out.keep hb6); clear hb6)
                | fail)
              go_roundw
              case rel => exact ⟨i + 1, nv, q + 1, r', by omega, by go_num, by go_num, by go_num, hn32, by omega, hidp (by have := HR.out; have := HC1.out; omega), hidp (by rw [HBC.out, HCI.out]; simp), HX6, HB6⟩
              case measure => simp [intOf]; omega
            · have q2 : ((pv : Int) != (h : Int)) = true := by simp; omega
              have HBF : Hid (b = false) := hidp (bool_no HBC.out (fun hc => h2 (HCI.out.1 hc).1.2))
              clear h2
              go_wp2_with (first
                | (go_at_call 77; refine (auLinked_yes HV ad q hq _).mono ?_; rintro e w4 ⟨rfl, hb4⟩; have HB4 := hidp (Bgo HB.out hb4); have HX4 := hidp (HX0.out.keep hb4); have l2 := (hb4.cell (p := ⟨g, q, none⟩) HLR.out.lt).trans l1; have HV4 := hidp (HVR.out.below hb4); clear hb4; obtain ⟨e0, e1, e2, e3⟩ := HX4.out.four)
                | (have hz0 := HPV.out; clear hz0; go_at_call 27; refine (auAt_Prev_c HV ad hq _ HV4.out).mono ?_; rintro e w5 ⟨rfl, hb5⟩; rw [HPV.out]; have HB5 := hidp (Bgo HB4.out hb5); have HX5 := hidp (HX4.out.keep hb5); have HV5 := hidp (HV4.out.below hb5); clear hb5 HPV e0 e1 e2 e3; obtain ⟨e0, e1, e2, e3⟩ := HX5.out.four)
                | fail)
              go_ret
              exact ⟨by rw [HBF.out]; rfl, HB5.out⟩
          · have q1 : (tq != (head : Int)) = true := by simpa using h1
            have HBF : Hid (b = false) := hidp (bool_no HBC.out (fun hc => h1 (HCI.out.1 hc).1.1))
            clear h1
            go_wp2_with (first
              | (go_at_call 77; refine (auLinked_yes HV ad q hq _).mono ?_; rintro e w4 ⟨rfl, hb4⟩; have HB4 := hidp (Bgo HB.out hb4); have HX4 := hidp (HX0.out.keep hb4); have l2 := (hb4.cell (p := ⟨g, q, none⟩) HLR.out.lt).trans l1; have HV4 := hidp (HVR.out.below hb4); clear hb4; obtain ⟨e0, e1, e2, e3⟩ := HX4.out.four)
              | fail)
            go_ret
            exact ⟨by rw [HBF.out]; rfl, HB4.out⟩
        · have HBF : Hid (b = false) := hidp (bool_no HBC.out (fun hc => hz ⟨hc.1.1, hc.1.2.1⟩))
          have hzz : a = 0 ∨ H.p < a := by omega
          go_wp2_with (first
            | (go_at_call 77; refine (auLinked_no HV ad a ha32 hzz _).mono ?_; rintro e w4 ⟨rfl, hb4⟩; have HB4 := hidp (Bgo HB.out hb4); clear hb4)
            | fail)
          go_ret
          exact ⟨by rw [HBF.out]; rfl, HB4.out⟩
      · have HC1 : Hid (H.cnt head (i + 1) = H.cnt head i) := hidp (by rw [AuH.cnt_succ]; unfold AuH.isF; rw [if_neg ht, Nat.add_zero])
        obtain ⟨ti, hti⟩ : ∃ ti, H.tgt i = ti := ⟨_, rfl⟩
        rw [hti] at ht l0
        have q0 : (ti != (head : Int)) = true := by simpa using ht
        clear hti ht
        go_wp2_with fail
        go_roundw
        case rel => exact ⟨i + 1, a, h, r, by omega, by go_num, rfl, rfl, ha32, hh32, hidp (by rw [HC1.out]; exact HR.out), HBC, HX0, HB⟩
        case measure => simp [intOf]; omega
    · have hie : i = H.p := by omega
      have t0 : decide ((i : Int) < H.p) = false := decide_eq_false (by omega)
      have HR0 : Hid (r = 0) := hidp (by have := HR.out; rw [hie] at this; omega)
      have HBZ : Hid (b = true ↔ a = 0) := hidp (by have := HBC.out; rw [HR0.out] at this; exact this)
      have q0 : ((a : Int) == 0) = b := by
        by_cases hz : a = 0
        · rw [bool_yes HBZ.out hz]; simp; omega
        · rw [bool_no HBZ.out hz]; simp; omega
      clear hie
      go_wp2_with fail
      go_ret
      exact ⟨rfl, HB.out⟩

end Go.Proofs.YtbaofpdjfoaiiaaDoor
