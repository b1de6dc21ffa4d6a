/-
  Rule 2: the spans go up to the end, and nothing is told behind their first pages.
-/
import Derived.Test.YtbaofpdjfoaiiaaGreatDoorZSpans
import Derived.Test.YtbaofpdjfoaiiaaGreatDoorZAt
namespace Go.Proofs.YtbaofpdjfoaiiaaGreatDoor
open Go.ChangeShapes Go.WideShapes Go.ChangeAt Go.RowKit Go.Shelf
set_option linter.unusedVariables false
set_option linter.unusedSimpArgs false
section
attribute [local go_sem] Oper.semAt_some
set_option maxHeartbeats 1600000 in
theorem auHasSpans_c {H : AuH} {n c : Nat} (HV : HeapV H n c) (ad : Addr) (b : Bool) (hb : b = true ↔ H.Tiled) (w : World) (hv : IsVals w ad n H.V) :
    Calls Tryz.prog 40 #[hpV H ad n c] w fun e w' => e = .returned (.bool b) ∧ Below w.heap.size w w' := by
  have HVL := hidp hv
  have HP : H.p ≤ 1024 := HV.nums.2.2.2.1
  refine calls_of_wp_mark Tryz.func40 rfl ?_
  unfold hpV
  simp only [Tryz.ntmps40, List.size_toArray, List.length_cons, List.length_nil, Nat.reduceAdd, Nat.reduceSub, Array.replicate_succ, Array.replicate_zero, List.push_toArray, List.append_toArray, List.nil_append, List.cons_append]
  have HX0 := hidp (((Held.new w 47 #[.int .i64 (H.t : Int), .int .i64 (H.p : Int), .int .i64 (H.s : Int), .slice (some ad) n c]).alloc (.cells #[.bool false] 4)).alloc (.cells #[.int .i64 0] 3))
  have HX1 := hidp ((Held.new (w.alloc (.cells #[.int .i64 (H.t : Int), .int .i64 (H.p : Int), .int .i64 (H.s : Int), .slice (some ad) n c] 47)) 4 #[.bool false]).alloc (.cells #[.int .i64 0] 3))
  have HX2 := hidp (Held.new ((w.alloc (.cells #[.int .i64 (H.t : Int), .int .i64 (H.p : Int), .int .i64 (H.s : Int), .slice (some ad) n c] 47)).alloc (.cells #[.bool false] 4)) 3 #[.int .i64 0])
  have HBW := hidp (Bnew (Bnew (Bnew (B0 w) (.cells #[.int .i64 (H.t : Int), .int .i64 (H.p : Int), .int .i64 (H.s : Int), .slice (some ad) n c] 47)) (.cells #[.bool false] 4)) (.cells #[.int .i64 0] 3))
  rw [World.size_alloc] at HX1
  rw [World.size_alloc, World.size_alloc] at HX2
  go_wp2_with fail
  generalize ((w.alloc (.cells #[.int .i64 (H.t : Int), .int .i64 (H.p : Int), .int .i64 (H.s : Int), .slice (some ad) n c] 47)).alloc (.cells #[.bool false] 4)).alloc (.cells #[.int .i64 0] 3) = W3 at *
  refine wp_seq (w0 := w) (gf := 70) (bound := #[hpV H ad n c]) (enc := encS H) (can := H.can) (next := H.nx) rfl (enters_of Tryz.func70 (by kernel_rfl) rfl) (auSpans_seq HV ad w HVL.out) HBW.out (fun _ => rfl)
    (fun pos F A => F = (fun i => i = w.heap.size + 1 ∨ i = w.heap.size + 1 + 1) ∧ H.At pos ∧ H.Bare pos ∧ Held A w.heap.size 47 #[.int .i64 (H.t : Int), .int .i64 (H.p : Int), .int .i64 (H.s : Int), .slice (some ad) n c] ∧ Held A (w.heap.size + 1) 4 #[.bool false] ∧ Held A (w.heap.size + 1 + 1) 3 #[.int .i64 (pos : Int)] ∧ Below w.heap.size w A)
    (fun c A => c = .ret ∧ b = false ∧ Held A (w.heap.size + 1) 4 #[.bool false] ∧ Below w.heap.size w A)
    ?hI ?hIx ?hIB ?hIF (F0 := fun i => i = w.heap.size + 1 ∨ i = w.heap.size + 1 + 1) ⟨rfl, .zero, fun a _ _ h => absurd h (by omega), HX0.out, HX1.out, HX2.out, HBW.out⟩ ?round ?done ?stop
  case hI => rintro pos F A B ⟨h1, h2, h3, h4, h5, h6, h7⟩ hm; exact ⟨h1, h2, h3, hm.held h4, hm.held h5, hm.held h6, hm.below h7 HBW.out.size⟩
  case hIx => rintro c A B ⟨h1, h2, h3, h4⟩ hm; exact ⟨h1, h2, hm.held h3, hm.below h4 HBW.out.size⟩
  case hIB => rintro pos F A ⟨h1, h2, h3, h4, h5, h6, h7⟩; exact h7
  case hIF => rintro pos F A ⟨rfl, h2, h3, h4, h5, h6, h7⟩ i (rfl | rfl); exact ⟨_, h5, rfl⟩; exact ⟨_, h6, rfl⟩
  case round =>
    rintro l pos F A hc ⟨rfl, hat, hbare, x0, x1, x2, hB⟩ hsz
    unfold encS
    gi_wp2_with fail
    refine ⟨Bnew (B0 A) _, fun A2 hM hs => ?_⟩
    have HN := hidp (hM.held (Held.new A 66 #[.int .i64 (H.K pos), .int .i64 (H.ln pos : Int), .int .i64 (H.Cl pos)]))
    have HX0 := hidp (hM.held (x0.alloc (.cells #[.int .i64 (H.K pos), .int .i64 (H.ln pos : Int), .int .i64 (H.Cl pos)] 66)))
    have HX1 := hidp (hM.held (x1.alloc (.cells #[.int .i64 (H.K pos), .int .i64 (H.ln pos : Int), .int .i64 (H.Cl pos)] 66)))
    have HX2 := hidp (hM.held (x2.alloc (.cells #[.int .i64 (H.K pos), .int .i64 (H.ln pos : Int), .int .i64 (H.Cl pos)] 66)))
    have HB := hidp (hM.below (Bnew hB (.cells #[.int .i64 (H.K pos), .int .i64 (H.ln pos : Int), .int .i64 (H.Cl pos)] 66)) HBW.out.size)
    have HAT := hidp hat
    have HBARE := hidp hbare
    have HC := hidp hc
    have HAL : Hid (w.heap.size + 1 + 1 < A.heap.size) := hidp x2.lt
    obtain ⟨hlt, hk0, hle⟩ := (H.can_iff pos).1 hc
    have hm := H.ln_pos pos hk0
    have HNX : Hid (H.nx pos = pos + H.ln pos) := hidp rfl
    clear hM x0 x1 x2 hB hat hbare hc hk0 hs hsz
    obtain ⟨c0, c1, c2, c3⟩ := HX0.out.four
    have d1 := HN.out.three.2.1
    have e0 : A2.frozen? ⟨w.heap.size + 1 + 1, 0, none⟩ = false := HX2.out.thawed 0
    have e1 := HX2.out.cell 0
    simp only [List.getElem?_toArray, List.getElem?_cons_zero] at e1
    generalize H.ln pos = m at *
    gi_wp2_with fail
    have HT0 : Hid (Turns (fun i => i = w.heap.size + 1 ∨ i = w.heap.size + 1 + 1) A2 (A2.setCell ⟨w.heap.size + 1 + 1, 0, none⟩ (.int .i64 ((pos : Int) + m)))) := hidp ((T0 _ _).put (.inr rfl) _)
    have HY2 : Hid (Held (A2.setCell ⟨w.heap.size + 1 + 1, 0, none⟩ (.int .i64 ((pos : Int) + m))) (w.heap.size + 1 + 1) 3 #[.int .i64 ((pos : Int) + m)]) := hidp (HX2.out.put 0 _)
    have HY1 : Hid (Held (A2.setCell ⟨w.heap.size + 1 + 1, 0, none⟩ (.int .i64 ((pos : Int) + m))) (w.heap.size + 1) 4 #[.bool false]) := hidp (HX1.out.far (by simp) _)
    gi_loopw [6] (fun u wr => ∃ q : Nat, u = .int .i64 (q : Int) ∧ pos < q ∧ q ≤ pos + m ∧ Hid (∀ r, pos < r → r < q → H.cel r 0 = 0) ∧ Hid (Turns (fun i => i = w.heap.size + 1 ∨ i = w.heap.size + 1 + 1) A2 wr) ∧ Hid (Held wr (w.heap.size + 1 + 1) 3 #[.int .i64 ((pos : Int) + m)]) ∧ Hid (Held wr (w.heap.size + 1) 4 #[.bool false])) (fun u _ => pos + m - (intOf u).toNat)
    case atStart => exact ⟨pos + 1, by go_num, by omega, by omega, hidp (fun r h1 h2 => by omega), HT0, HY2, HY1⟩
    case round =>
      clear HT0 HY2 HY1 e0 e1
      obtain ⟨q, rfl, hq1, hq2, HZ, HT, HY2, HY1⟩ := hrel
      have HQ0 := hidp (HT.out.held HX0.out (by omega))
      have HBR := hidp (HT.out.below HB.out (by omega))
      obtain ⟨c0, c1, c2, c3⟩ := HQ0.out.four
      have e1 := HY2.out.cell 0
      simp only [List.getElem?_toArray, List.getElem?_cons_zero] at e1
      by_cases hl : q < pos + m
      · have f0 : wr.frozen? ⟨w.heap.size + 1, 0, none⟩ = false := HY1.out.thawed 0
        have HVR := hidp (HVL.out.below HBR.out)
        by_cases hz : H.cel q 0 = 0
        · have HZ1 : Hid (∀ r, pos < r → r < q + 1 → H.cel r 0 = 0) := hidp (fun r h1 h2 => by
            rcases Nat.lt_or_ge r q with h3 | h3
            · exact HZ.out r h1 h3
            · have : r = q := by omega
              subst this; exact hz)
          gi_wp2_with (first
            | (refine ⟨trivial, rfl, ?_⟩; gi_at_call 77; refine (calls_in (auAt_Info_c HV ad (show q < H.p by omega) _ HVR.out)).mono ?_; rintro e w4 ⟨rfl, hb4⟩; rw [hz]; have HT4 := hidp (HT.out.trans (Turns.of_below hb4 _)); have HY24 := hidp (HY2.out.keep hb4); have HY14 := hidp (HY1.out.keep hb4); clear hb4)
            | fail)
          go_roundw
          case rel => exact ⟨q + 1, by go_num, by omega, by omega, HZ1, HT4, HY24, HY14⟩
          case measure => simp [intOf]; omega
        · obtain ⟨z, hzz⟩ : ∃ z, H.cel q 0 = z := ⟨_, rfl⟩
          have HE := hidp hzz
          rw [hzz] at hz
          clear hzz
          have t0 : ((z : Int) != 0) = true := by simp; omega
          gi_wp2_with (first
            | (refine ⟨trivial, rfl, ?_⟩; gi_at_call 77; refine (calls_in (auAt_Info_c HV ad (show q < H.p by omega) _ HVR.out)).mono ?_; rintro e w4 ⟨rfl, hb4⟩; rw [HE.out]; have HT4 := hidp (HT.out.trans (Turns.of_below hb4 _)); have HY14 := hidp (HY1.out.keep hb4); clear hb4; obtain ⟨g4, f4⟩ := HY14.out.one)
            | fail)
          have HT5 := hidp (HT4.out.put (p := ⟨w.heap.size + 1, 0, none⟩) (.inl rfl) (.bool false))
          exact ⟨HT5.out, rfl, bool_no hb (AuH.not_tiled_in HAT.out HC.out hq1 (by rw [HNX.out]; omega) (by rw [HE.out]; exact hz)), HY14.out.put1 _, HT5.out.below HB.out (by omega)⟩
      · have hqe : q = pos + m := by omega
        subst hqe
        gi_wp2_with fail
        exact ⟨HT.out, _, ⟨rfl, .step HAT.out HC.out, HBARE.out.step HAT.out (fun r h1 h2 => HZ.out r h1 (by rw [HNX.out] at h2; exact h2)), HQ0.out, HY1.out, by rw [HNX.out]; exact HY2.out, HBR.out⟩, fun i hi => .inl hi⟩
  case done =>
    rintro D pos F A hD hc ⟨rfl, hat, hbare, x0, x1, x2, hB⟩ hk
    have hple := hat.le
    have HDN : Hid (w.heap.size + 1 < D ∧ w.heap.size ≤ D) := hidp (by have := HX1.out.lt; omega)
    have HK := hidp hk
    have HX0 := hidp x0
    have HX1 := hidp x1
    have HB := hidp hB
    have HE : Hid (((pos : Int) == (H.p : Int)) = b) := hidp (by
      by_cases h : pos = H.p
      · rw [bool_yes hb (AuH.tiled_of hat hbare h)]; simp; omega
      · rw [bool_no hb (AuH.not_tiled_end hat hc h)]; simp; omega)
    have q0 := HE.out
    obtain ⟨c0, c1, c2, c3⟩ := x0.four
    obtain ⟨g1, f1⟩ := x1.one
    obtain ⟨g2, f2⟩ := x2.one
    clear hk x0 x1 x2 hB hD hat hbare hc
    go_wp2_with fail
    refine mark_end rfl ((Below.heap_setCell _ _ _ _ (by have := HDN.out; simp; omega)).trans HK.out) ?_
    have z1 := (HX1.out.put1 (.bool b)).shut (o' := .deferred none) ((Below.heap_setCell A ⟨w.heap.size + 1, 0, none⟩ (.bool b) _ (by have := HDN.out; simp; omega)).trans HK.out) rfl
    obtain ⟨z2, z3⟩ := z1.one
    refine bodyPost_ret (v := .bool b) (by simp [results, Tryz.results40, go_sem, z2]) rfl ⟨rfl, ?_⟩
    exact shutB (Bput HB.out (by simp) _) ((Below.heap_setCell A ⟨w.heap.size + 1, 0, none⟩ (.bool b) _ (by have := HDN.out; simp; omega)).trans HK.out) rfl HDN.out.2
  case stop =>
    rintro D c A hD ⟨rfl, hb0, x1, hB⟩ hk
    have HDN : Hid (w.heap.size ≤ D) := hidp (by have := HX1.out.lt; omega)
    go_wp2_with fail
    refine mark_end rfl hk ?_
    obtain ⟨z2, z3⟩ := (x1.shut (o' := .deferred none) hk rfl).one
    rw [hb0]
    refine bodyPost_ret (v := .bool false) (by simp [results, Tryz.results40, go_sem, z2]) rfl ⟨rfl, ?_⟩
    exact shutB hB hk rfl HDN.out
end
end Go.Proofs.YtbaofpdjfoaiiaaGreatDoor

/-
  Rule 3: the feet. Written by audit/gen_feet.py.
-/
namespace Go.Proofs.YtbaofpdjfoaiiaaGreatDoor
open Go.ChangeShapes Go.WideShapes Go.ChangeAt Go.RowKit Go.Shelf
set_option linter.unusedVariables false
set_option linter.unusedSimpArgs false

namespace AuH
def Foot (H : AuH) (q : Nat) : Prop := (∀ r, q ≤ r → r + 1 < q + H.ln q → H.cel r 1 = 0) ∧ H.cel (q + H.ln q - 1) 1 = q + 1
/-- rule 3 -/
def R3 (H : AuH) : Prop := ∀ q, q < H.p → H.K q ≠ 0 → H.Foot q
end AuH
section
attribute [local go_sem] Oper.semAt_some

set_option maxHeartbeats 1600000 in
theorem auHasFeet_c {H : AuH} {n c : Nat} (HV : HeapV H n c) (ht : H.Tiled) (ad : Addr) (b : Bool) (hb : b = true ↔ H.R3) (w : World) (hv : IsVals w ad n H.V) :
    Calls Tryz.prog 41 #[hpV H ad n c] w fun e w' => e = .returned (.bool b) ∧ Below w.heap.size w w' := by
  have HVL := hidp hv
  have HP : H.p ≤ 1024 := HV.nums.2.2.2.1
  refine calls_of_wp_mark Tryz.func41 rfl ?_
  unfold hpV
  simp only [Tryz.ntmps41, List.size_toArray, List.length_cons, List.length_nil, Nat.reduceAdd, Nat.reduceSub, Array.replicate_succ, Array.replicate_zero, List.push_toArray, List.append_toArray, List.nil_append, List.cons_append]
  have HX0 := hidp ((Held.new w 47 #[.int .i64 (H.t : Int), .int .i64 (H.p : Int), .int .i64 (H.s : Int), .slice (some ad) n c]).alloc (.cells #[.bool false] 4))
  have HX1 := hidp (Held.new (w.alloc (.cells #[.int .i64 (H.t : Int), .int .i64 (H.p : Int), .int .i64 (H.s : Int), .slice (some ad) n c] 47)) 4 #[.bool false])
  rw [World.size_alloc] at HX1
  have HBW := hidp (Bnew (Bnew (B0 w) (.cells #[.int .i64 (H.t : Int), .int .i64 (H.p : Int), .int .i64 (H.s : Int), .slice (some ad) n c] 47)) (.cells #[.bool false] 4))
  go_wp2_with fail
  generalize (w.alloc (.cells #[.int .i64 (H.t : Int), .int .i64 (H.p : Int), .int .i64 (H.s : Int), .slice (some ad) n c] 47)).alloc (.cells #[.bool false] 4) = W3 at *
  refine wp_seq (w0 := w) (gf := 70) (bound := #[hpV H ad n c]) (enc := encS H) (can := H.can) (next := H.nx) rfl (enters_of Tryz.func70 (by kernel_rfl) rfl) (auSpans_seq HV ad w HVL.out) HBW.out (fun _ => rfl)
    (fun pos F A => F = (fun i => i = (w.heap.size + 1)) ∧ H.At pos ∧ (∀ q, q < pos → H.K q ≠ 0 → H.Foot q) ∧ Held A w.heap.size 47 #[.int .i64 (H.t : Int), .int .i64 (H.p : Int), .int .i64 (H.s : Int), .slice (some ad) n c] ∧ Held A (w.heap.size + 1) 4 #[.bool false] ∧ Below w.heap.size w A)
    (fun c A => c = .ret ∧ b = false ∧ Held A (w.heap.size + 1) 4 #[.bool false] ∧ Below w.heap.size w A)
    ?hI ?hIx ?hIB ?hIF (F0 := (fun i => i = (w.heap.size + 1))) ⟨rfl, .zero, fun a h => absurd h (by omega), HX0.out, HX1.out, HBW.out⟩ ?round ?done ?stop
  case hI => rintro pos F A B ⟨h1, h2, h3, h4, h5, h7⟩ hm; exact ⟨h1, h2, h3, hm.held h4, hm.held h5, hm.below h7 HBW.out.size⟩
  case hIx => rintro c A B ⟨h1, h2, h3, h4⟩ hm; exact ⟨h1, h2, hm.held h3, hm.below h4 HBW.out.size⟩
  case hIB => rintro pos F A ⟨h1, h2, h3, h4, h5, h7⟩; exact h7
  case hIF => rintro pos F A ⟨rfl, h2, h3, h4, h5, h7⟩ i rfl; exact ⟨_, h5, rfl⟩
  case round =>
    rintro l pos F A hc ⟨rfl, hat, hft, x0, x1, hB⟩ hsz
    unfold encS
    gi_wp2_with fail
    refine ⟨Bnew (B0 A) _, fun A2 hM hs => ?_⟩
    have HN := hidp (hM.held (Held.new A 66 #[.int .i64 (H.K pos), .int .i64 (H.ln pos : Int), .int .i64 (H.Cl pos)]))
    have HX0 := hidp (hM.held (x0.alloc (.cells #[.int .i64 (H.K pos), .int .i64 (H.ln pos : Int), .int .i64 (H.Cl pos)] 66)))
    have HX1 := hidp (hM.held (x1.alloc (.cells #[.int .i64 (H.K pos), .int .i64 (H.ln pos : Int), .int .i64 (H.Cl pos)] 66)))
    have HB := hidp (hM.below (Bnew hB (.cells #[.int .i64 (H.K pos), .int .i64 (H.ln pos : Int), .int .i64 (H.Cl pos)] 66)) HBW.out.size)
    have HAT := hidp hat
    have HFT := hidp hft
    have HC := hidp hc
    obtain ⟨hlt, hk0, hle⟩ := (H.can_iff pos).1 hc
    have hm := H.ln_pos pos hk0
    have HNX : Hid (H.nx pos = pos + H.ln pos) := hidp rfl
    clear hM x0 x1 hB hat hft hc hs hsz
    obtain ⟨c0, c1, c2, c3⟩ := HX0.out.four
    have d1 := HN.out.three.2.1
    obtain ⟨m, hmm⟩ : ∃ m, H.ln pos = m := ⟨_, rfl⟩
    have HM := hidp hmm
    rw [hmm] at hm hle d1 HNX
    have HFP : Hid (H.Foot pos ↔ (∀ r, pos ≤ r → r + 1 < pos + m → H.cel r 1 = 0) ∧ H.cel (pos + m - 1) 1 = pos + 1) := hidp (by unfold AuH.Foot; rw [hmm])
    clear hmm
    gi_wp2_with fail
    gi_loopw [6] (fun u wr => ∃ q : Nat, u = .int .i64 (q : Int) ∧ pos ≤ q ∧ q + 1 ≤ pos + m ∧ Hid (∀ r, pos ≤ r → r < q → H.cel r 1 = 0) ∧ Hid (Turns (fun i => i = (w.heap.size + 1)) A2 wr) ∧ Hid (Held wr (w.heap.size + 1) 4 #[.bool false])) (fun u _ => pos + m - (intOf u).toNat)
    case atStart => exact ⟨pos, rfl, by omega, by omega, hidp (fun r h1 h2 => by omega), hidp (T0 _ _), HX1⟩
    case round =>
      obtain ⟨q, rfl, hq1, hq2, HZ, HT, HY1⟩ := hrel
      have HQ0 := hidp (HT.out.held HX0.out (by omega))
      have HBR := hidp (HT.out.below HB.out (by omega))
      obtain ⟨c0, c1, c2, c3⟩ := HQ0.out.four
      have HVR := hidp (HVL.out.below HBR.out)
      by_cases hl : q + 1 < pos + m
      · have q0 : decide ((q : Int) < (pos : Int) + m - 1) = true := decide_eq_true (by omega)
        obtain ⟨z, hzz⟩ : ∃ z, H.cel q 1 = z := ⟨_, rfl⟩
        have HE := hidp hzz
        by_cases hz : z = 0
        · subst hz
          have HZ1 : Hid (∀ r, pos ≤ r → r < q + 1 → H.cel r 1 = 0) := hidp (fun r h1 h2 => by
            rcases Nat.lt_or_ge r q with h3 | h3
            · exact HZ.out r h1 h3
            · have : r = q := by omega
              subst this; exact HE.out)
          clear hzz
          gi_wp2_with (first
            | (refine ⟨trivial, rfl, ?_⟩; gi_at_call 77; refine (calls_in (auAt_Foot_c HV ad (show q < H.p by omega) _ HVR.out)).mono ?_; rintro e w4 ⟨rfl, hb4⟩; rw [HE.out]; have HT4 := hidp (HT.out.trans (Turns.of_below hb4 _)); have HY14 := hidp (HY1.out.keep hb4); clear hb4)
            | fail)
          go_roundw
          case rel => exact ⟨q + 1, by go_num, by omega, by omega, HZ1, HT4, HY14⟩
          case measure => simp [intOf]; omega
        · clear hzz
          have t0 : ((z : Int) != 0) = true := by simp; omega
          gi_wp2_with (first
            | (refine ⟨trivial, rfl, ?_⟩; gi_at_call 77; refine (calls_in (auAt_Foot_c HV ad (show q < H.p by omega) _ HVR.out)).mono ?_; rintro e w4 ⟨rfl, hb4⟩; rw [HE.out]; have HT4 := hidp (HT.out.trans (Turns.of_below hb4 _)); have HY14 := hidp (HY1.out.keep hb4); clear hb4; obtain ⟨g4, f4⟩ := HY14.out.one)
            | fail)
          have HT5 := hidp (HT4.out.put (p := ⟨(w.heap.size + 1), 0, none⟩) rfl (.bool false))
          exact ⟨HT5.out, rfl, bool_no hb (fun h => hz (by rw [← HE.out]; exact (HFP.out.1 (h pos hlt hk0)).1 q hq1 hl)), HY14.out.put1 _, HT5.out.below HB.out (by omega)⟩
      · have q0 : decide ((q : Int) < (pos : Int) + m - 1) = false := decide_eq_false (by omega)
        have hqe : q + 1 = pos + m := by omega
        have HLQ : Hid (pos + m - 1 = q) := hidp (by omega)
        have HQL : Hid (IntKind.i64.wrap ((pos : Int) + m - 1) = (q : Int)) := hidp (by rw [show (pos : Int) + m - 1 = (q : Int) by omega]; exact i64_same (by omega) (by omega))
        have hQe : (pos : Int) + m - 1 = (q : Int) := by omega
        obtain ⟨z, hzz⟩ : ∃ z, H.cel q 1 = z := ⟨_, rfl⟩
        have HE := hidp hzz
        by_cases hz : z = pos + 1
        · subst hz
          clear hzz
          have t0 : ((((pos + 1 : Nat) : Int)) != ((pos + 1 : Nat) : Int)) = false := by simp
          gi_wp2_with (first
            | (refine ⟨trivial, rfl, ?_⟩; gi_at_call 77; rw [hQe]; refine (calls_in (auAt_Foot_c HV ad (show q < H.p by omega) _ HVR.out)).mono ?_; rintro e w4 ⟨rfl, hb4⟩; rw [HE.out]; have HT4 := hidp (HT.out.trans (Turns.of_below hb4 _)); have HY14 := hidp (HY1.out.keep hb4); clear hb4)
            | (refine ⟨trivial, rfl, ?_⟩; gi_at_call 80; refine (calls_in (auLink_c pos (by omega) _)).mono ?_; rintro e w5 ⟨rfl, rfl⟩)
            | fail)
          exact ⟨HT4.out, _, ⟨rfl, .step HAT.out HC.out, ht.step HAT.out hlt HFT.out (HFP.out.2 ⟨fun r h1 h2 => HZ.out r h1 (by omega), by rw [HLQ.out]; exact HE.out⟩), HT4.out.held HX0.out (by omega), HY14.out, HT4.out.below HB.out (by omega)⟩, fun i hi => .inl hi⟩
        · clear hzz
          have t0 : ((z : Int) != ((pos + 1 : Nat) : Int)) = true := by simp; omega
          gi_wp2_with (first
            | (refine ⟨trivial, rfl, ?_⟩; gi_at_call 77; rw [hQe]; refine (calls_in (auAt_Foot_c HV ad (show q < H.p by omega) _ HVR.out)).mono ?_; rintro e w4 ⟨rfl, hb4⟩; rw [HE.out]; have HT4 := hidp (HT.out.trans (Turns.of_below hb4 _)); have HY14 := hidp (HY1.out.keep hb4); clear hb4; obtain ⟨g4, f4⟩ := HY14.out.one)
            | (refine ⟨trivial, rfl, ?_⟩; gi_at_call 80; refine (calls_in (auLink_c pos (by omega) _)).mono ?_; rintro e w5 ⟨rfl, rfl⟩)
            | fail)
          have HT5 := hidp (HT4.out.put (p := ⟨(w.heap.size + 1), 0, none⟩) rfl (.bool false))
          exact ⟨HT5.out, rfl, bool_no hb (fun h => hz (by rw [← HE.out, ← HLQ.out]; exact (HFP.out.1 (h pos hlt hk0)).2)), HY14.out.put1 _, HT5.out.below HB.out (by omega)⟩
  case done =>
    rintro D pos F A hD hc ⟨rfl, hat, hft, x0, x1, hB⟩ hk
    have HDN : Hid ((w.heap.size + 1) < D ∧ w.heap.size ≤ D) := hidp (by have := HX1.out.lt; omega)
    have hpe : pos = H.p := by
      rw [ht.can_eq hat] at hc
      have := hat.le
      have := of_decide_eq_false hc
      omega
    subst hpe
    obtain rfl : b = true := bool_yes hb hft
    have HK := hidp hk
    have HXR := hidp x1
    have HB := hidp hB
    obtain ⟨g1, f1⟩ := x1.one
    clear hk x0 x1 hB hD hat hc hft
    go_wp2_with fail
    refine mark_end rfl ((Below.heap_setCell _ _ _ _ (by have := HDN.out; simp; omega)).trans HK.out) ?_
    have z1 := (HXR.out.put1 (.bool true)).shut (o' := .deferred none) ((Below.heap_setCell A ⟨(w.heap.size + 1), 0, none⟩ (.bool true) _ (by have := HDN.out; simp; omega)).trans HK.out) rfl
    obtain ⟨z2, z3⟩ := z1.one
    refine bodyPost_ret (v := .bool true) (by simp [results, Tryz.results41, go_sem, z2]) rfl ⟨rfl, ?_⟩
    exact shutB (Bput HB.out (by simp) _) ((Below.heap_setCell A ⟨(w.heap.size + 1), 0, none⟩ (.bool true) _ (by have := HDN.out; simp; omega)).trans HK.out) rfl HDN.out.2
  case stop =>
    rintro D c A hD ⟨rfl, hb0, x1, hB⟩ hk
    have HDN : Hid (w.heap.size ≤ D) := hidp (by have := HX1.out.lt; omega)
    go_wp2_with fail
    refine mark_end rfl hk ?_
    obtain ⟨z2, z3⟩ := (x1.shut (o' := .deferred none) hk rfl).one
    rw [hb0]
    refine bodyPost_ret (v := .bool false) (by simp [results, Tryz.results41, go_sem, z2]) rfl ⟨rfl, ?_⟩
    exact shutB hB hk rfl HDN.out
end
end Go.Proofs.YtbaofpdjfoaiiaaGreatDoor

/-
  Rule 4: no two free spans are side by side. Written by audit/gen_r4.py.
-/
namespace Go.Proofs.YtbaofpdjfoaiiaaGreatDoor
open Go.ChangeShapes Go.WideShapes Go.ChangeAt Go.RowKit Go.Shelf
set_option linter.unusedVariables false
set_option linter.unusedSimpArgs false

namespace AuH
/-- rule 4 -/
def R4 (H : AuH) : Prop := ∀ q, H.At q → q < H.p → H.K q = 1 → H.nx q < H.p → H.K (H.nx q) ≠ 1
def R4to (H : AuH) (x : Nat) : Prop := ∀ q, H.At q → q < H.p → H.K q = 1 → H.nx q < x → H.K (H.nx q) ≠ 1
def Ahead (H : AuH) (x : Nat) : Prop := ∃ q, H.At q ∧ q < H.p ∧ H.nx q = x ∧ H.K q = 1
variable {H : AuH}
theorem R4to.step (ht : H.Tiled) {a : Nat} (h : H.R4to a) (ha : H.At a) (h0 : a < H.p) (hn : ¬ (H.K a = 1 ∧ H.Ahead a)) : H.R4to (H.nx a) := by
  intro q hq hqp hk hl hk2
  have hx := AuH.At.step hq (ht.at_can hq hqp)
  rcases Nat.lt_trichotomy (H.nx q) a with h1 | h1 | h1
  · exact h q hq hqp hk h1 hk2
  · exact hn ⟨by rw [← h1]; exact hk2, q, hq, hqp, h1, hk⟩
  · have := (At.next ha hx h1).2; omega
theorem Ahead.iff (ht : H.Tiled) {a : Nat} (ha : H.At a) (h0 : a < H.p) : H.K a = 1 ↔ H.Ahead (H.nx a) := by
  constructor
  · intro h; exact ⟨a, ha, h0, rfl, h⟩
  · rintro ⟨q, hq, hqp, he, hk⟩
    have h1 := H.nx_gt (ht.at_can ha h0)
    have h2 := H.nx_gt (ht.at_can hq hqp)
    rcases Nat.lt_trichotomy q a with h3 | h3 | h3
    · have := (At.next hq ha h3).2; omega
    · subst h3; exact hk
    · have := (At.next ha hq h3).2; omega
theorem Ahead.zero (ht : H.Tiled) : ¬ H.Ahead 0 := by
  rintro ⟨q, hq, hqp, he, hk⟩
  have := (H.nx_gt (ht.at_can hq hqp)).1
  omega
end AuH
section
attribute [local go_sem] Oper.semAt_some

set_option maxHeartbeats 1600000 in
theorem auHasFreeApart_c {H : AuH} {n c : Nat} (HV : HeapV H n c) (ht : H.Tiled) (ad : Addr) (b : Bool) (hb : b = true ↔ H.R4) (w : World) (hv : IsVals w ad n H.V) :
    Calls Tryz.prog 42 #[hpV H ad n c] w fun e w' => e = .returned (.bool b) ∧ Below w.heap.size w w' := by
  have HVL := hidp hv
  have HP : H.p ≤ 1024 := HV.nums.2.2.2.1
  refine calls_of_wp_mark Tryz.func42 rfl ?_
  unfold hpV
  simp only [Tryz.ntmps42, List.size_toArray, List.length_cons, List.length_nil, Nat.reduceAdd, Nat.reduceSub, Array.replicate_succ, Array.replicate_zero, List.push_toArray, List.append_toArray, List.nil_append, List.cons_append]
  have HX0 := hidp (((Held.new w 47 #[.int .i64 (H.t : Int), .int .i64 (H.p : Int), .int .i64 (H.s : Int), .slice (some ad) n c]).alloc (.cells #[.bool false] 4)).alloc (.cells #[.int .i64 0] 3))
  have HX1 := hidp ((Held.new (w.alloc (.cells #[.int .i64 (H.t : Int), .int .i64 (H.p : Int), .int .i64 (H.s : Int), .slice (some ad) n c] 47)) 4 #[.bool false]).alloc (.cells #[.int .i64 0] 3))
  rw [World.size_alloc] at HX1
  have HX2 := hidp (Held.new ((w.alloc (.cells #[.int .i64 (H.t : Int), .int .i64 (H.p : Int), .int .i64 (H.s : Int), .slice (some ad) n c] 47)).alloc (.cells #[.bool false] 4)) 3 #[.int .i64 0])
  rw [World.size_alloc, World.size_alloc] at HX2
  have HBW := hidp (Bnew (Bnew (Bnew (B0 w) (.cells #[.int .i64 (H.t : Int), .int .i64 (H.p : Int), .int .i64 (H.s : Int), .slice (some ad) n c] 47)) (.cells #[.bool false] 4)) (.cells #[.int .i64 0] 3))
  go_wp2_with fail
  generalize ((w.alloc (.cells #[.int .i64 (H.t : Int), .int .i64 (H.p : Int), .int .i64 (H.s : Int), .slice (some ad) n c] 47)).alloc (.cells #[.bool false] 4)).alloc (.cells #[.int .i64 0] 3) = W3 at *
  refine wp_seq (w0 := w) (gf := 70) (bound := #[hpV H ad n c]) (enc := encS H) (can := H.can) (next := H.nx) rfl (enters_of Tryz.func70 (by kernel_rfl) rfl) (auSpans_seq HV ad w HVL.out) HBW.out (fun _ => rfl)
    (fun pos F A => F = (fun i => i = (w.heap.size + 1) ∨ i = (w.heap.size + 1 + 1)) ∧ H.At pos ∧ H.R4to pos ∧ Held A w.heap.size 47 #[.int .i64 (H.t : Int), .int .i64 (H.p : Int), .int .i64 (H.s : Int), .slice (some ad) n c] ∧ Held A (w.heap.size + 1) 4 #[.bool false] ∧ (∃ a : Int, Held A (w.heap.size + 1 + 1) 3 #[.int .i64 a] ∧ (a = 1 ↔ H.Ahead pos)) ∧ Below w.heap.size w A)
    (fun c A => c = .ret ∧ b = false ∧ Held A (w.heap.size + 1) 4 #[.bool false] ∧ Below w.heap.size w A)
    ?hI ?hIx ?hIB ?hIF (F0 := (fun i => i = (w.heap.size + 1) ∨ i = (w.heap.size + 1 + 1))) ⟨rfl, .zero, fun q _ _ _ h => absurd h (by omega), HX0.out, HX1.out, ⟨0, HX2.out, ⟨fun h => absurd h (by omega), fun h => absurd h (AuH.Ahead.zero ht)⟩⟩, HBW.out⟩ ?round ?done ?stop
  case hI => rintro pos F A B ⟨h1, h2, h3, h4, h5, ⟨a, h6, h6'⟩, h7⟩ hm; exact ⟨h1, h2, h3, hm.held h4, hm.held h5, ⟨a, hm.held h6, h6'⟩, hm.below h7 HBW.out.size⟩
  case hIx => rintro c A B ⟨h1, h2, h3, h4⟩ hm; exact ⟨h1, h2, hm.held h3, hm.below h4 HBW.out.size⟩
  case hIB => rintro pos F A ⟨h1, h2, h3, h4, h5, h6, h7⟩; exact h7
  case hIF => rintro pos F A ⟨rfl, h2, h3, h4, h5, ⟨a, h6, h6'⟩, h7⟩ i (rfl | rfl); exact ⟨_, h5, rfl⟩; exact ⟨_, h6, rfl⟩
  case round =>
    rintro l pos F A hc ⟨rfl, hat, hr4, x0, x1, ⟨a, x2, ha⟩, hB⟩ hsz
    unfold encS
    gi_wp2_with fail
    refine ⟨Bnew (B0 A) _, fun A2 hM hs => ?_⟩
    have HN := hidp (hM.held (Held.new A 66 #[.int .i64 (H.K pos), .int .i64 (H.ln pos : Int), .int .i64 (H.Cl pos)]))
    have HX0 := hidp (hM.held (x0.alloc (.cells #[.int .i64 (H.K pos), .int .i64 (H.ln pos : Int), .int .i64 (H.Cl pos)] 66)))
    have HX1 := hidp (hM.held (x1.alloc (.cells #[.int .i64 (H.K pos), .int .i64 (H.ln pos : Int), .int .i64 (H.Cl pos)] 66)))
    have HX2 := hidp (hM.held (x2.alloc (.cells #[.int .i64 (H.K pos), .int .i64 (H.ln pos : Int), .int .i64 (H.Cl pos)] 66)))
    have HB := hidp (hM.below (Bnew hB (.cells #[.int .i64 (H.K pos), .int .i64 (H.ln pos : Int), .int .i64 (H.Cl pos)] 66)) HBW.out.size)
    have HAT := hidp hat
    have HR4 := hidp hr4
    have HA := hidp ha
    have HC := hidp hc
    obtain ⟨hlt, hk0, hle⟩ := (H.can_iff pos).1 hc
    have HLT := hidp hlt
    clear hM x0 x1 x2 hB hat hr4 ha hc hs hsz hk0 hle
    obtain ⟨c0, c1, c2, c3⟩ := HX0.out.four
    have d0 := HN.out.three.1
    obtain ⟨e1, e2⟩ := HX1.out.one
    obtain ⟨e3, e4⟩ := HX2.out.one
    obtain ⟨k, hkk⟩ : ∃ k, H.K pos = k := ⟨_, rfl⟩
    have HK := hidp hkk
    rw [hkk] at d0
    clear hkk
    have hend : ¬ (k = 1 ∧ a = 1) → seqPost
      (fun pos F A => F = (fun i => i = (w.heap.size + 1) ∨ i = (w.heap.size + 1 + 1)) ∧ H.At pos ∧ H.R4to pos ∧ Held A w.heap.size 47 #[.int .i64 (H.t : Int), .int .i64 (H.p : Int), .int .i64 (H.s : Int), .slice (some ad) n c] ∧ Held A (w.heap.size + 1) 4 #[.bool false] ∧ (∃ a : Int, Held A (w.heap.size + 1 + 1) 3 #[.int .i64 a] ∧ (a = 1 ↔ H.Ahead pos)) ∧ Below w.heap.size w A)
      (fun c A => c = .ret ∧ b = false ∧ Held A (w.heap.size + 1) 4 #[.bool false] ∧ Below w.heap.size w A) (H.nx pos) (fun i => i = (w.heap.size + 1) ∨ i = (w.heap.size + 1 + 1)) A.heap.size A2 .normal { tmps := #[], defers := [] } (A2.setCell ⟨(w.heap.size + 1 + 1), 0, none⟩ (.int .i64 k)) := fun hn => by
      have HT2 := (T0 (fun i => i = (w.heap.size + 1) ∨ i = (w.heap.size + 1 + 1)) A2).put (p := ⟨(w.heap.size + 1 + 1), 0, none⟩) (.inr rfl) (.int .i64 k)
      exact ⟨HT2, _, ⟨rfl, .step HAT.out HC.out, HR4.out.step ht HAT.out HLT.out (fun h => hn ⟨by rw [← HK.out]; exact h.1, HA.out.2 h.2⟩), HT2.held HX0.out (by omega), HX1.out.far (by simp) _, ⟨k, HX2.out.put1 _, by rw [← HK.out]; exact AuH.Ahead.iff ht HAT.out HLT.out⟩, HT2.below HB.out (by omega)⟩, fun i hi => .inl hi⟩
    have HEND := hidp hend
    clear hend
    by_cases h1 : k = 1
    · subst h1
      by_cases h2 : a = 1
      · subst h2
        clear HEND
        gi_wp2_with fail
        have HT5 := (T0 (fun i => i = (w.heap.size + 1) ∨ i = (w.heap.size + 1 + 1)) A2).put (p := ⟨(w.heap.size + 1), 0, none⟩) (.inl rfl) (.bool false)
        refine ⟨HT5, rfl, bool_no hb (fun h => ?_), HX1.out.put1 _, HT5.below HB.out (by omega)⟩
        obtain ⟨q, hq, hqp, he, hk⟩ := HA.out.1 (by first | trivial | rfl)
        exact h q hq hqp hk (by rw [he]; exact HLT.out) (by rw [he]; exact HK.out)
      · have t0 : (a == 1) = false := by simpa using h2
        gi_wp2_with fail
        exact HEND.out (fun h => h2 h.2)
    · have t0 : (k == 1) = false := by simpa using h1
      gi_wp2_with fail
      exact HEND.out (fun h => h1 h.1)
  case done =>
    rintro D pos F A hD hc ⟨rfl, hat, hr4, x0, x1, x2, hB⟩ hk
    have HDN : Hid ((w.heap.size + 1) < D ∧ w.heap.size ≤ D) := hidp (by have := HX1.out.lt; omega)
    have hpe : pos = H.p := by
      rw [ht.can_eq hat] at hc
      have := hat.le
      have := of_decide_eq_false hc
      omega
    subst hpe
    obtain rfl : b = true := bool_yes hb hr4
    have HK := hidp hk
    have HXR := hidp x1
    have HB := hidp hB
    obtain ⟨g1, f1⟩ := x1.one
    clear hk x0 x1 x2 hB hD hat hc hr4
    go_wp2_with fail
    refine mark_end rfl ((Below.heap_setCell _ _ _ _ (by have := HDN.out; simp; omega)).trans HK.out) ?_
    have z1 := (HXR.out.put1 (.bool true)).shut (o' := .deferred none) ((Below.heap_setCell A ⟨(w.heap.size + 1), 0, none⟩ (.bool true) _ (by have := HDN.out; simp; omega)).trans HK.out) rfl
    obtain ⟨z2, z3⟩ := z1.one
    refine bodyPost_ret (v := .bool true) (by simp [results, Tryz.results42, go_sem, z2]) rfl ⟨rfl, ?_⟩
    exact shutB (Bput HB.out (by simp) _) ((Below.heap_setCell A ⟨(w.heap.size + 1), 0, none⟩ (.bool true) _ (by have := HDN.out; simp; omega)).trans HK.out) rfl HDN.out.2
  case stop =>
    rintro D c A hD ⟨rfl, hb0, x1, hB⟩ hk
    have HDN : Hid (w.heap.size ≤ D) := hidp (by have := HX1.out.lt; omega)
    go_wp2_with fail
    refine mark_end rfl hk ?_
    obtain ⟨z2, z3⟩ := (x1.shut (o' := .deferred none) hk rfl).one
    rw [hb0]
    refine bodyPost_ret (v := .bool false) (by simp [results, Tryz.results42, go_sem, z2]) rfl ⟨rfl, ?_⟩
    exact shutB hB hk rfl HDN.out
end
end Go.Proofs.YtbaofpdjfoaiiaaGreatDoor
