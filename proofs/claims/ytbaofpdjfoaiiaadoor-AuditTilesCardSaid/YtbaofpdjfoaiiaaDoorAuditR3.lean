/-
  Rule 3: the feet. Written by audit/gen_feet.py.
-/
import Derived.Test.YtbaofpdjfoaiiaaDoorAuditR2
namespace Go.Proofs.YtbaofpdjfoaiiaaDoor
open Go.ChangeShapes Go.WideShapes Go.ChangeAt Go.RowKit Go.Shelf
set_option linter.unusedVariables false
set_option linter.unusedSimpArgs false

namespace AuH
def Foot (H : AuH) (q : Nat) : Prop := (∀ r, q ≤ r → r + 1 < q + H.ln q → H.cel r 1 = 0) ∧ H.cel (q + H.ln q - 1) 1 = q + 1
/-- rule 3 -/
def R3 (H : AuH) : Prop := ∀ q, q < H.p → H.K q ≠ 0 → H.Foot q
end AuH
section
attribute [local go_sem] Oper.semAt_some

set_option maxHeartbeats 1600000 in
theorem auHasFeet_c {H : AuH} {n c : Nat} (HV : HeapV H n c) (ht : H.Tiled) (ad : Addr) (b : Bool) (hb : b = true ↔ H.R3) (w : World) (hv : IsVals w ad n H.V) :
    Calls Tryd.prog 18 #[hpV H ad n c] w fun e w' => e = .returned (.bool b) ∧ Below w.heap.size w w' := by
  have HVL := hidp hv
  have HP : H.p ≤ 1024 := HV.nums.2.2.2.1
  refine calls_of_wp_mark Tryd.func18 rfl ?_
  unfold hpV
  simp only [Tryd.ntmps18, List.size_toArray, List.length_cons, List.length_nil, Nat.reduceAdd, Nat.reduceSub, Array.replicate_succ, Array.replicate_zero, List.push_toArray, List.append_toArray, List.nil_append, List.cons_append]
  have HX0 := hidp ((Held.new w 41 #[.int .i64 (H.t : Int), .int .i64 (H.p : Int), .int .i64 (H.s : Int), .slice (some ad) n c]).alloc (.cells #[.bool false] 4))
  have HX1 := hidp (Held.new (w.alloc (.cells #[.int .i64 (H.t : Int), .int .i64 (H.p : Int), .int .i64 (H.s : Int), .slice (some ad) n c] 41)) 4 #[.bool false])
  rw [World.size_alloc] at HX1
  have HBW := hidp (Bnew (Bnew (B0 w) (.cells #[.int .i64 (H.t : Int), .int .i64 (H.p : Int), .int .i64 (H.s : Int), .slice (some ad) n c] 41)) (.cells #[.bool false] 4))
  go_wp2_with fail
  generalize (w.alloc (.cells #[.int .i64 (H.t : Int), .int .i64 (H.p : Int), .int .i64 (H.s : Int), .slice (some ad) n c] 41)).alloc (.cells #[.bool false] 4) = W3 at *
  refine wp_seq (w0 := w) (gf := 13) (bound := #[hpV H ad n c]) (enc := encS H) (can := H.can) (next := H.nx) rfl (enters_of Tryd.func13 (by kernel_rfl) rfl) (auSpans_seq HV ad w HVL.out) HBW.out (fun _ => rfl)
    (fun pos F A => F = (fun i => i = (w.heap.size + 1)) ∧ H.At pos ∧ (∀ q, q < pos → H.K q ≠ 0 → H.Foot q) ∧ Held A w.heap.size 41 #[.int .i64 (H.t : Int), .int .i64 (H.p : Int), .int .i64 (H.s : Int), .slice (some ad) n c] ∧ Held A (w.heap.size + 1) 4 #[.bool false] ∧ Below w.heap.size w A)
    (fun c A => c = .ret ∧ b = false ∧ Held A (w.heap.size + 1) 4 #[.bool false] ∧ Below w.heap.size w A)
    ?hI ?hIx ?hIB ?hIF (F0 := (fun i => i = (w.heap.size + 1))) ⟨rfl, .zero, fun a h => absurd h (by omega), HX0.out, HX1.out, HBW.out⟩ ?round ?done ?stop
  case hI => rintro pos F A B ⟨h1, h2, h3, h4, h5, h7⟩ hm; exact ⟨h1, h2, h3, hm.held h4, hm.held h5, hm.below h7 HBW.out.size⟩
  case hIx => rintro c A B ⟨h1, h2, h3, h4⟩ hm; exact ⟨h1, h2, hm.held h3, hm.below h4 HBW.out.size⟩
  case hIB => rintro pos F A ⟨h1, h2, h3, h4, h5, h7⟩; exact h7
  case hIF => rintro pos F A ⟨rfl, h2, h3, h4, h5, h7⟩ i rfl; exact ⟨_, h5, rfl⟩
  case round =>
    rintro l pos F A hc ⟨rfl, hat, hft, x0, x1, hB⟩ hsz
    unfold encS
    gi_wp2_with fail
    refine ⟨Bnew (B0 A) _, fun A2 hM hs => ?_⟩
    have HN := hidp (hM.held (Held.new A 50 #[.int .i64 (H.K pos), .int .i64 (H.ln pos : Int), .int .i64 (H.Cl pos)]))
    have HX0 := hidp (hM.held (x0.alloc (.cells #[.int .i64 (H.K pos), .int .i64 (H.ln pos : Int), .int .i64 (H.Cl pos)] 50)))
    have HX1 := hidp (hM.held (x1.alloc (.cells #[.int .i64 (H.K pos), .int .i64 (H.ln pos : Int), .int .i64 (H.Cl pos)] 50)))
    have HB := hidp (hM.below (Bnew hB (.cells #[.int .i64 (H.K pos), .int .i64 (H.ln pos : Int), .int .i64 (H.Cl pos)] 50)) HBW.out.size)
    have HAT := hidp hat
    have HFT := hidp hft
    have HC := hidp hc
    obtain ⟨hlt, hk0, hle⟩ := (H.can_iff pos).1 hc
    have hm := H.ln_pos pos hk0
    have HNX : Hid (H.nx pos = pos + H.ln pos) := hidp rfl
    clear hM x0 x1 hB hat hft hc hs hsz
    obtain ⟨c0, c1, c2, c3⟩ := HX0.out.four
    have d1 := HN.out.three.2.1
    obtain ⟨m, hmm⟩ : ∃ m, H.ln pos = m := ⟨_, rfl⟩
    have HM := hidp hmm
    rw [hmm] at hm hle d1 HNX
    have HFP : Hid (H.Foot pos ↔ (∀ r, pos ≤ r → r + 1 < pos + m → H.cel r 1 = 0) ∧ H.cel (pos + m - 1) 1 = pos + 1) := hidp (by unfold AuH.Foot; rw [hmm])
    clear hmm
    gi_wp2_with fail
    gi_loopw [6] (fun u wr => ∃ q : Nat, u = .int .i64 (q : Int) ∧ pos ≤ q ∧ q + 1 ≤ pos + m ∧ Hid (∀ r, pos ≤ r → r < q → H.cel r 1 = 0) ∧ Hid (Turns (fun i => i = (w.heap.size + 1)) A2 wr) ∧ Hid (Held wr (w.heap.size + 1) 4 #[.bool false])) (fun u _ => pos + m - (intOf u).toNat)
    case atStart => exact ⟨pos, rfl, by omega, by omega, hidp (fun r h1 h2 => by omega), hidp (T0 _ _), HX1⟩
    case round =>
      obtain ⟨q, rfl, hq1, hq2, HZ, HT, HY1⟩ := hrel
      have HQ0 := hidp (HT.out.held HX0.out (by omega))
      have HBR := hidp (HT.out.below HB.out (by omega))
      obtain ⟨c0, c1, c2, c3⟩ := HQ0.out.four
      have HVR := hidp (HVL.out.below HBR.out)
      by_cases hl : q + 1 < pos + m
      · have q0 : decide ((q : Int) < (pos : Int) + m - 1) = true := decide_eq_true (by omega)
        obtain ⟨z, hzz⟩ : ∃ z, H.cel q 1 = z := ⟨_, rfl⟩
        have HE := hidp hzz
        by_cases hz : z = 0
        · subst hz
          have HZ1 : Hid (∀ r, pos ≤ r → r < q + 1 → H.cel r 1 = 0) := hidp (fun r h1 h2 => by
            rcases Nat.lt_or_ge r q with h3 | h3
            · exact HZ.out r h1 h3
            · have : r = q := by omega
              subst this; exact HE.out)
          clear hzz
          gi_wp2_with (first
            | (refine ⟨trivial, rfl, ?_⟩; gi_at_call 27; refine (calls_in (auAt_Foot_c HV ad (show q < H.p by omega) _ HVR.out)).mono ?_; rintro e w4 ⟨rfl, hb4⟩; rw [HE.out]; have HT4 := hidp (HT.out.trans (Turns.of_below hb4 _)); have HY14 := hidp (HY1.out.keep hb4); clear hb4)
            | fail)
          go_roundw
          case rel => exact ⟨q + 1, by go_num, by omega, by omega, HZ1, HT4, HY14⟩
          case measure => simp [intOf]; omega
        · clear hzz
          have t0 : ((z : Int) != 0) = true := by simp; omega
          gi_wp2_with (first
            | (refine ⟨trivial, rfl, ?_⟩; gi_at_call 27; refine (calls_in (auAt_Foot_c HV ad (show q < H.p by omega) _ HVR.out)).mono ?_; rintro e w4 ⟨rfl, hb4⟩; rw [HE.out]; have HT4 := hidp (HT.out.trans (Turns.of_below hb4 _)); have HY14 := hidp (HY1.out.keep hb4); clear hb4; obtain ⟨g4, f4⟩ := HY14.out.one)
            | fail)
          have HT5 := hidp (HT4.out.put (p := ⟨(w.heap.size + 1), 0, none⟩) rfl (.bool false))
          exact ⟨HT5.out, rfl, bool_no hb (fun h => hz (by rw [← HE.out]; exact (HFP.out.1 (h pos hlt hk0)).1 q hq1 hl)), HY14.out.put1 _, HT5.out.below HB.out (by omega)⟩
      · have q0 : decide ((q : Int) < (pos : Int) + m - 1) = false := decide_eq_false (by omega)
        have hqe : q + 1 = pos + m := by omega
        have HLQ : Hid (pos + m - 1 = q) := hidp (by omega)
        have HQL : Hid (IntKind.i64.wrap ((pos : Int) + m - 1) = (q : Int)) := hidp (by rw [show (pos : Int) + m - 1 = (q : Int) by omega]; exact i64_same (by omega) (by omega))
        have hQe : (pos : Int) + m - 1 = (q : Int) := by omega
        obtain ⟨z, hzz⟩ : ∃ z, H.cel q 1 = z := ⟨_, rfl⟩
        have HE := hidp hzz
        by_cases hz : z = pos + 1
        · subst hz
          clear hzz
          have t0 : ((((pos + 1 : Nat) : Int)) != ((pos + 1 : Nat) : Int)) = false := by simp
          gi_wp2_with (first
            | (refine ⟨trivial, rfl, ?_⟩; gi_at_call 27; rw [hQe]; refine (calls_in (auAt_Foot_c HV ad (show q < H.p by omega) _ HVR.out)).mono ?_; rintro e w4 ⟨rfl, hb4⟩; rw [HE.out]; have HT4 := hidp (HT.out.trans (Turns.of_below hb4 _)); have HY14 := hidp (HY1.out.keep hb4); clear hb4)
            | (refine ⟨trivial, rfl, ?_⟩; gi_at_call 37; refine (calls_in (auLink_c pos (by omega) _)).mono ?_; rintro e w5 ⟨rfl, rfl⟩)
            | fail)
          exact ⟨HT4.out, _, ⟨rfl, .step HAT.out HC.out, ht.step HAT.out hlt HFT.out (HFP.out.2 ⟨fun r h1 h2 => HZ.out r h1 (by omega), by rw [HLQ.out]; exact HE.out⟩), HT4.out.held HX0.out (by omega), HY14.out, HT4.out.below HB.out (by omega)⟩, fun i hi => .inl hi⟩
        · clear hzz
          have t0 : ((z : Int) != ((pos + 1 : Nat) : Int)) = true := by simp; omega
          gi_wp2_with (first
            | (refine ⟨trivial, rfl, ?_⟩; gi_at_call 27; rw [hQe]; refine (calls_in (auAt_Foot_c HV ad (show q < H.p by omega) _ HVR.out)).mono ?_; rintro e w4 ⟨rfl, hb4⟩; rw [HE.out]; have HT4 := hidp (HT.out.trans (Turns.of_below hb4 _)); have HY14 := hidp (HY1.out.keep hb4); clear hb4; obtain ⟨g4, f4⟩ := HY14.out.one)
            | (refine ⟨trivial, rfl, ?_⟩; gi_at_call 37; refine (calls_in (auLink_c pos (by omega) _)).mono ?_; rintro e w5 ⟨rfl, rfl⟩)
            | fail)
          have HT5 := hidp (HT4.out.put (p := ⟨(w.heap.size + 1), 0, none⟩) rfl (.bool false))
          exact ⟨HT5.out, rfl, bool_no hb (fun h => hz (by rw [← HE.out, ← HLQ.out]; exact (HFP.out.1 (h pos hlt hk0)).2)), HY14.out.put1 _, HT5.out.below HB.out (by omega)⟩
  case done =>
    rintro D pos F A hD hc ⟨rfl, hat, hft, x0, x1, hB⟩ hk
    have HDN : Hid ((w.heap.size + 1) < D ∧ w.heap.size ≤ D) := hidp (by have := HX1.out.lt; omega)
    have hpe : pos = H.p := by
      rw [ht.can_eq hat] at hc
      have := hat.le
      have := of_decide_eq_false hc
      omega
    subst hpe
    obtain rfl : b = true := bool_yes hb hft
    have HK := hidp hk
    have HXR := hidp x1
    have HB := hidp hB
    obtain ⟨g1, f1⟩ := x1.one
    clear hk x0 x1 hB hD hat hc hft
    go_wp2_with fail
    refine mark_end rfl ((Below.heap_setCell _ _ _ _ (by have := HDN.out; simp; omega)).trans HK.out) ?_
    have z1 := (HXR.out.put1 (.bool true)).shut (o' := .deferred none) ((Below.heap_setCell A ⟨(w.heap.size + 1), 0, none⟩ (.bool true) _ (by have := HDN.out; simp; omega)).trans HK.out) rfl
    obtain ⟨z2, z3⟩ := z1.one
    refine bodyPost_ret (v := .bool true) (by simp [results, Tryd.results18, go_sem, z2]) rfl ⟨rfl, ?_⟩
    exact shutB (Bput HB.out (by simp) _) ((Below.heap_setCell A ⟨(w.heap.size + 1), 0, none⟩ (.bool true) _ (by have := HDN.out; simp; omega)).trans HK.out) rfl HDN.out.2
  case stop =>
    rintro D c A hD ⟨rfl, hb0, x1, hB⟩ hk
    have HDN : Hid (w.heap.size ≤ D) := hidp (by have := HX1.out.lt; omega)
    go_wp2_with fail
    refine mark_end rfl hk ?_
    obtain ⟨z2, z3⟩ := (x1.shut (o' := .deferred none) hk rfl).one
    rw [hb0]
    refine bodyPost_ret (v := .bool false) (by simp [results, Tryd.results18, go_sem, z2]) rfl ⟨rfl, ?_⟩
    exact shutB hB hk rfl HDN.out
end
end Go.Proofs.YtbaofpdjfoaiiaaDoor
