/-
  Rule 3: the feet. Written by audit/gen_feet.py.
-/
import Derived.Test.YtkbjckhbllmclaaGreatDoorT04
import Derived.Test.YtkbjckhbllmclaaGreatDoorT03
import Derived.Test.YtkbjckhbllmclaaGreatDoorT01
import Derived.Laws.CopyOwn
import Derived.Laws.MakeOwn
import Derived.Laws.BitsAllLaws
import Derived.Deep.RegionLaw
namespace Go.Proofs.YtkbjckhbllmclaaGreatDoor
open Go.ChangeShapes Go.WideShapes Go.ChangeAt Go.RowKit Go.Shelf
set_option linter.unusedVariables false
set_option linter.unusedSimpArgs false
section
namespace AuH
def Foot (H : AuH) (q : Nat) : Prop := (∀ r, q ≤ r → r + 1 < q + H.ln q → H.cel r 1 = 0) ∧ H.cel (q + H.ln q - 1) 1 = q + 1
def R3 (H : AuH) : Prop := ∀ q, q < H.p → H.K q ≠ 0 → H.Foot q
end AuH
section
attribute [local go_sem] Oper.semAt_some

set_option maxHeartbeats 1600000 in
theorem auHasFeet_c {H : AuH} {n c : Nat} (HV : HeapV H n c) (ht : H.Tiled) (ad : Addr) (b : Bool) (hb : b = true ↔ H.R3) (w : World) (hv : IsVals w ad n H.V) :
    Calls Tryz.prog 79 #[hpV H ad n c] w fun e w' => e = .returned (.bool b) ∧ Below w.heap.size w w' := by
  have HVL := hidp hv
  have HP : H.p ≤ 1024 := HV.nums.2.2.2.1
  refine calls_of_wp_mark Tryz.func79 rfl ?_
  unfold hpV
  simp only [Tryz.ntmps79, List.size_toArray, List.length_cons, List.length_nil, Nat.reduceAdd, Nat.reduceSub, Array.replicate_succ, Array.replicate_zero, List.push_toArray, List.append_toArray, List.nil_append, List.cons_append]
  have HX0 := hidp ((Held.new w 51 #[.int .i64 (H.t : Int), .int .i64 (H.p : Int), .int .i64 (H.s : Int), .slice (some ad) n c]).alloc (.cells #[.bool false] 4))
  have HX1 := hidp (Held.new (w.alloc (.cells #[.int .i64 (H.t : Int), .int .i64 (H.p : Int), .int .i64 (H.s : Int), .slice (some ad) n c] 51)) 4 #[.bool false])
  rw [World.size_alloc] at HX1
  have HBW := hidp (Bnew (Bnew (B0 w) (.cells #[.int .i64 (H.t : Int), .int .i64 (H.p : Int), .int .i64 (H.s : Int), .slice (some ad) n c] 51)) (.cells #[.bool false] 4))
  go_wp2_with fail
  generalize (w.alloc (.cells #[.int .i64 (H.t : Int), .int .i64 (H.p : Int), .int .i64 (H.s : Int), .slice (some ad) n c] 51)).alloc (.cells #[.bool false] 4) = W3 at *
  refine wp_seq (w0 := w) (gf := 29) (bound := #[hpV H ad n c]) (enc := encS H) (can := H.can) (next := H.nx) rfl (enters_of Tryz.func29 (by kernel_rfl) rfl) (auSpans_seq HV ad w HVL.out) HBW.out (fun _ => rfl)
    (fun pos F A => F = (fun i => i = (w.heap.size + 1)) ∧ H.At pos ∧ (∀ q, q < pos → H.K q ≠ 0 → H.Foot q) ∧ Held A w.heap.size 51 #[.int .i64 (H.t : Int), .int .i64 (H.p : Int), .int .i64 (H.s : Int), .slice (some ad) n c] ∧ Held A (w.heap.size + 1) 4 #[.bool false] ∧ Below w.heap.size w A)
    (fun c A => c = .ret ∧ b = false ∧ Held A (w.heap.size + 1) 4 #[.bool false] ∧ Below w.heap.size w A)
    ?hI ?hIx ?hIB ?hIF (F0 := (fun i => i = (w.heap.size + 1))) ⟨rfl, .zero, fun a h => absurd h (by omega), HX0.out, HX1.out, HBW.out⟩ ?round ?done ?stop
  case hI => rintro pos F A B ⟨h1, h2, h3, h4, h5, h7⟩ hm; exact ⟨h1, h2, h3, hm.held h4, hm.held h5, hm.below h7 HBW.out.size⟩
  case hIx => rintro c A B ⟨h1, h2, h3, h4⟩ hm; exact ⟨h1, h2, hm.held h3, hm.below h4 HBW.out.size⟩
  case hIB => rintro pos F A ⟨h1, h2, h3, h4, h5, h7⟩; exact h7
  case hIF => rintro pos F A ⟨rfl, h2, h3, h4, h5, h7⟩ i rfl; exact ⟨_, h5, rfl⟩
  case round =>
    rintro l pos F A hc ⟨rfl, hat, hft, x0, x1, hB⟩ hsz
    unfold encS
    gi_wp2_with fail
    refine ⟨Bnew (B0 A) _, fun A2 hM hs => ?_⟩
    have HN := hidp (hM.held (Held.new A 63 #[.int .i64 (H.K pos), .int .i64 (H.ln pos : Int), .int .i64 (H.Cl pos)]))
    have HX0 := hidp (hM.held (x0.alloc (.cells #[.int .i64 (H.K pos), .int .i64 (H.ln pos : Int), .int .i64 (H.Cl pos)] 63)))
    have HX1 := hidp (hM.held (x1.alloc (.cells #[.int .i64 (H.K pos), .int .i64 (H.ln pos : Int), .int .i64 (H.Cl pos)] 63)))
    have HB := hidp (hM.below (Bnew hB (.cells #[.int .i64 (H.K pos), .int .i64 (H.ln pos : Int), .int .i64 (H.Cl pos)] 63)) HBW.out.size)
    have HAT := hidp hat
    have HFT := hidp hft
    have HC := hidp hc
    obtain ⟨hlt, hk0, hle⟩ := (H.can_iff pos).1 hc
    have hm := H.ln_pos pos hk0
    have HNX : Hid (H.nx pos = pos + H.ln pos) := hidp rfl
    clear hM x0 x1 hB hat hft hc hs hsz
    obtain ⟨c0, c1, c2, c3⟩ := HX0.out.four
    have d1 := HN.out.three.2.1
    obtain ⟨m, hmm⟩ : ∃ m, H.ln pos = m := ⟨_, rfl⟩
    have HM := hidp hmm
    rw [hmm] at hm hle d1 HNX
    have HFP : Hid (H.Foot pos ↔ (∀ r, pos ≤ r → r + 1 < pos + m → H.cel r 1 = 0) ∧ H.cel (pos + m - 1) 1 = pos + 1) := hidp (by unfold AuH.Foot; rw [hmm])
    clear hmm
    gi_wp2_with fail
    gi_loopw [6] (fun u wr => ∃ q : Nat, u = .int .i64 (q : Int) ∧ pos ≤ q ∧ q + 1 ≤ pos + m ∧ Hid (∀ r, pos ≤ r → r < q → H.cel r 1 = 0) ∧ Hid (Turns (fun i => i = (w.heap.size + 1)) A2 wr) ∧ Hid (Held wr (w.heap.size + 1) 4 #[.bool false])) (fun u _ => pos + m - (intOf u).toNat)
    case atStart => exact ⟨pos, rfl, by omega, by omega, hidp (fun r h1 h2 => by omega), hidp (T0 _ _), HX1⟩
    case round =>
      obtain ⟨q, rfl, hq1, hq2, HZ, HT, HY1⟩ := hrel
      have HQ0 := hidp (HT.out.held HX0.out (by omega))
      have HBR := hidp (HT.out.below HB.out (by omega))
      obtain ⟨c0, c1, c2, c3⟩ := HQ0.out.four
      have HVR := hidp (HVL.out.below HBR.out)
      by_cases hl : q + 1 < pos + m
      · have q0 : decide ((q : Int) < (pos : Int) + m - 1) = true := decide_eq_true (by omega)
        obtain ⟨z, hzz⟩ : ∃ z, H.cel q 1 = z := ⟨_, rfl⟩
        have HE := hidp hzz
        by_cases hz : z = 0
        · subst hz
          have HZ1 : Hid (∀ r, pos ≤ r → r < q + 1 → H.cel r 1 = 0) := hidp (fun r h1 h2 => by
            rcases Nat.lt_or_ge r q with h3 | h3
            · exact HZ.out r h1 h3
            · have : r = q := by omega
              subst this; exact HE.out)
          clear hzz
          gi_wp2_with (first
            | (refine ⟨trivial, rfl, ?_⟩; gi_at_call 49; refine (calls_in (auAt_Foot_c HV ad (show q < H.p by omega) _ HVR.out)).mono ?_; rintro e w4 ⟨rfl, hb4⟩; rw [HE.out]; have HT4 := hidp (HT.out.trans (Turns.of_below hb4 _)); have HY14 := hidp (HY1.out.keep hb4); clear hb4)
            | fail)
          go_roundw
          case rel => exact ⟨q + 1, by go_num, by omega, by omega, HZ1, HT4, HY14⟩
          case measure => simp [intOf]; omega
        · clear hzz
          have t0 : ((z : Int) != 0) = true := by simp; omega
          gi_wp2_with (first
            | (refine ⟨trivial, rfl, ?_⟩; gi_at_call 49; refine (calls_in (auAt_Foot_c HV ad (show q < H.p by omega) _ HVR.out)).mono ?_; rintro e w4 ⟨rfl, hb4⟩; rw [HE.out]; have HT4 := hidp (HT.out.trans (Turns.of_below hb4 _)); have HY14 := hidp (HY1.out.keep hb4); clear hb4; obtain ⟨g4, f4⟩ := HY14.out.one)
            | fail)
          have HT5 := hidp (HT4.out.put (p := ⟨(w.heap.size + 1), 0, none⟩) rfl (.bool false))
          exact ⟨HT5.out, rfl, bool_no hb (fun h => hz (by rw [← HE.out]; exact (HFP.out.1 (h pos hlt hk0)).1 q hq1 hl)), HY14.out.put1 _, HT5.out.below HB.out (by omega)⟩
      · have q0 : decide ((q : Int) < (pos : Int) + m - 1) = false := decide_eq_false (by omega)
        have hqe : q + 1 = pos + m := by omega
        have HLQ : Hid (pos + m - 1 = q) := hidp (by omega)
        have HQL : Hid (IntKind.i64.wrap ((pos : Int) + m - 1) = (q : Int)) := hidp (by rw [show (pos : Int) + m - 1 = (q : Int) by omega]; exact i64_same (by omega) (by omega))
        have hQe : (pos : Int) + m - 1 = (q : Int) := by omega
        obtain ⟨z, hzz⟩ : ∃ z, H.cel q 1 = z := ⟨_, rfl⟩
        have HE := hidp hzz
        by_cases hz : z = pos + 1
        · subst hz
          clear hzz
          have t0 : ((((pos + 1 : Nat) : Int)) != ((pos + 1 : Nat) : Int)) = false := by simp
          gi_wp2_with (first
            | (refine ⟨trivial, rfl, ?_⟩; gi_at_call 49; rw [hQe]; refine (calls_in (auAt_Foot_c HV ad (show q < H.p by omega) _ HVR.out)).mono ?_; rintro e w4 ⟨rfl, hb4⟩; rw [HE.out]; have HT4 := hidp (HT.out.trans (Turns.of_below hb4 _)); have HY14 := hidp (HY1.out.keep hb4); clear hb4)
            | (refine ⟨trivial, rfl, ?_⟩; gi_at_call 104; refine (calls_in (auLink_c pos (by omega) _)).mono ?_; rintro e w5 ⟨rfl, rfl⟩)
            | fail)
          exact ⟨HT4.out, _, ⟨rfl, .step HAT.out HC.out, ht.step HAT.out hlt HFT.out (HFP.out.2 ⟨fun r h1 h2 => HZ.out r h1 (by omega), by rw [HLQ.out]; exact HE.out⟩), HT4.out.held HX0.out (by omega), HY14.out, HT4.out.below HB.out (by omega)⟩, fun i hi => .inl hi⟩
        · clear hzz
          have t0 : ((z : Int) != ((pos + 1 : Nat) : Int)) = true := by simp; omega
          gi_wp2_with (first
            | (refine ⟨trivial, rfl, ?_⟩; gi_at_call 49; rw [hQe]; refine (calls_in (auAt_Foot_c HV ad (show q < H.p by omega) _ HVR.out)).mono ?_; rintro e w4 ⟨rfl, hb4⟩; rw [HE.out]; have HT4 := hidp (HT.out.trans (Turns.of_below hb4 _)); have HY14 := hidp (HY1.out.keep hb4); clear hb4; obtain ⟨g4, f4⟩ := HY14.out.one)
            | (refine ⟨trivial, rfl, ?_⟩; gi_at_call 104; refine (calls_in (auLink_c pos (by omega) _)).mono ?_; rintro e w5 ⟨rfl, rfl⟩)
            | fail)
          have HT5 := hidp (HT4.out.put (p := ⟨(w.heap.size + 1), 0, none⟩) rfl (.bool false))
          exact ⟨HT5.out, rfl, bool_no hb (fun h => hz (by rw [← HE.out, ← HLQ.out]; exact (HFP.out.1 (h pos hlt hk0)).2)), HY14.out.put1 _, HT5.out.below HB.out (by omega)⟩
  case done =>
    rintro D pos F A hD hc ⟨rfl, hat, hft, x0, x1, hB⟩ hk
    have HDN : Hid ((w.heap.size + 1) < D ∧ w.heap.size ≤ D) := hidp (by have := HX1.out.lt; omega)
    have hpe : pos = H.p := by
      rw [ht.can_eq hat] at hc
      have := hat.le
      have := of_decide_eq_false hc
      omega
    subst hpe
    obtain rfl : b = true := bool_yes hb hft
    have HK := hidp hk
    have HXR := hidp x1
    have HB := hidp hB
    obtain ⟨g1, f1⟩ := x1.one
    clear hk x0 x1 hB hD hat hc hft
    go_wp2_with fail
    refine mark_end rfl ((Below.heap_setCell _ _ _ _ (by have := HDN.out; simp; omega)).trans HK.out) ?_
    have z1 := (HXR.out.put1 (.bool true)).shut (o' := .deferred none) ((Below.heap_setCell A ⟨(w.heap.size + 1), 0, none⟩ (.bool true) _ (by have := HDN.out; simp; omega)).trans HK.out) rfl
    obtain ⟨z2, z3⟩ := z1.one
    refine bodyPost_ret (v := .bool true) (by simp [results, Tryz.results79, go_sem, z2]) rfl ⟨rfl, ?_⟩
    exact shutB (Bput HB.out (by simp) _) ((Below.heap_setCell A ⟨(w.heap.size + 1), 0, none⟩ (.bool true) _ (by have := HDN.out; simp; omega)).trans HK.out) rfl HDN.out.2
  case stop =>
    rintro D c A hD ⟨rfl, hb0, x1, hB⟩ hk
    have HDN : Hid (w.heap.size ≤ D) := hidp (by have := HX1.out.lt; omega)
    go_wp2_with fail
    refine mark_end rfl hk ?_
    obtain ⟨z2, z3⟩ := (x1.shut (o' := .deferred none) hk rfl).one
    rw [hb0]
    refine bodyPost_ret (v := .bool false) (by simp [results, Tryz.results79, go_sem, z2]) rfl ⟨rfl, ?_⟩
    exact shutB hB hk rfl HDN.out
end
end
section
namespace AuH
def R4 (H : AuH) : Prop := ∀ q, H.At q → q < H.p → H.K q = 1 → H.nx q < H.p → H.K (H.nx q) ≠ 1
def R4to (H : AuH) (x : Nat) : Prop := ∀ q, H.At q → q < H.p → H.K q = 1 → H.nx q < x → H.K (H.nx q) ≠ 1
def Ahead (H : AuH) (x : Nat) : Prop := ∃ q, H.At q ∧ q < H.p ∧ H.nx q = x ∧ H.K q = 1
variable {H : AuH}
theorem R4to.step (ht : H.Tiled) {a : Nat} (h : H.R4to a) (ha : H.At a) (h0 : a < H.p) (hn : ¬ (H.K a = 1 ∧ H.Ahead a)) : H.R4to (H.nx a) := by
  intro q hq hqp hk hl hk2
  have hx := AuH.At.step hq (ht.at_can hq hqp)
  rcases Nat.lt_trichotomy (H.nx q) a with h1 | h1 | h1
  · exact h q hq hqp hk h1 hk2
  · exact hn ⟨by rw [← h1]; exact hk2, q, hq, hqp, h1, hk⟩
  · have := (At.next ha hx h1).2; omega
theorem Ahead.iff (ht : H.Tiled) {a : Nat} (ha : H.At a) (h0 : a < H.p) : H.K a = 1 ↔ H.Ahead (H.nx a) := by
  constructor
  · intro h; exact ⟨a, ha, h0, rfl, h⟩
  · rintro ⟨q, hq, hqp, he, hk⟩
    have h1 := H.nx_gt (ht.at_can ha h0)
    have h2 := H.nx_gt (ht.at_can hq hqp)
    rcases Nat.lt_trichotomy q a with h3 | h3 | h3
    · have := (At.next hq ha h3).2; omega
    · subst h3; exact hk
    · have := (At.next ha hq h3).2; omega
theorem Ahead.zero (ht : H.Tiled) : ¬ H.Ahead 0 := by
  rintro ⟨q, hq, hqp, he, hk⟩
  have := (H.nx_gt (ht.at_can hq hqp)).1
  omega
end AuH
section
attribute [local go_sem] Oper.semAt_some

set_option maxHeartbeats 1600000 in
theorem auHasFreeApart_c {H : AuH} {n c : Nat} (HV : HeapV H n c) (ht : H.Tiled) (ad : Addr) (b : Bool) (hb : b = true ↔ H.R4) (w : World) (hv : IsVals w ad n H.V) :
    Calls Tryz.prog 80 #[hpV H ad n c] w fun e w' => e = .returned (.bool b) ∧ Below w.heap.size w w' := by
  have HVL := hidp hv
  have HP : H.p ≤ 1024 := HV.nums.2.2.2.1
  refine calls_of_wp_mark Tryz.func80 rfl ?_
  unfold hpV
  simp only [Tryz.ntmps80, List.size_toArray, List.length_cons, List.length_nil, Nat.reduceAdd, Nat.reduceSub, Array.replicate_succ, Array.replicate_zero, List.push_toArray, List.append_toArray, List.nil_append, List.cons_append]
  have HX0 := hidp (((Held.new w 51 #[.int .i64 (H.t : Int), .int .i64 (H.p : Int), .int .i64 (H.s : Int), .slice (some ad) n c]).alloc (.cells #[.bool false] 4)).alloc (.cells #[.int .i64 0] 3))
  have HX1 := hidp ((Held.new (w.alloc (.cells #[.int .i64 (H.t : Int), .int .i64 (H.p : Int), .int .i64 (H.s : Int), .slice (some ad) n c] 51)) 4 #[.bool false]).alloc (.cells #[.int .i64 0] 3))
  rw [World.size_alloc] at HX1
  have HX2 := hidp (Held.new ((w.alloc (.cells #[.int .i64 (H.t : Int), .int .i64 (H.p : Int), .int .i64 (H.s : Int), .slice (some ad) n c] 51)).alloc (.cells #[.bool false] 4)) 3 #[.int .i64 0])
  rw [World.size_alloc, World.size_alloc] at HX2
  have HBW := hidp (Bnew (Bnew (Bnew (B0 w) (.cells #[.int .i64 (H.t : Int), .int .i64 (H.p : Int), .int .i64 (H.s : Int), .slice (some ad) n c] 51)) (.cells #[.bool false] 4)) (.cells #[.int .i64 0] 3))
  go_wp2_with fail
  generalize ((w.alloc (.cells #[.int .i64 (H.t : Int), .int .i64 (H.p : Int), .int .i64 (H.s : Int), .slice (some ad) n c] 51)).alloc (.cells #[.bool false] 4)).alloc (.cells #[.int .i64 0] 3) = W3 at *
  refine wp_seq (w0 := w) (gf := 29) (bound := #[hpV H ad n c]) (enc := encS H) (can := H.can) (next := H.nx) rfl (enters_of Tryz.func29 (by kernel_rfl) rfl) (auSpans_seq HV ad w HVL.out) HBW.out (fun _ => rfl)
    (fun pos F A => F = (fun i => i = (w.heap.size + 1) ∨ i = (w.heap.size + 1 + 1)) ∧ H.At pos ∧ H.R4to pos ∧ Held A w.heap.size 51 #[.int .i64 (H.t : Int), .int .i64 (H.p : Int), .int .i64 (H.s : Int), .slice (some ad) n c] ∧ Held A (w.heap.size + 1) 4 #[.bool false] ∧ (∃ a : Int, Held A (w.heap.size + 1 + 1) 3 #[.int .i64 a] ∧ (a = 1 ↔ H.Ahead pos)) ∧ Below w.heap.size w A)
    (fun c A => c = .ret ∧ b = false ∧ Held A (w.heap.size + 1) 4 #[.bool false] ∧ Below w.heap.size w A)
    ?hI ?hIx ?hIB ?hIF (F0 := (fun i => i = (w.heap.size + 1) ∨ i = (w.heap.size + 1 + 1))) ⟨rfl, .zero, fun q _ _ _ h => absurd h (by omega), HX0.out, HX1.out, ⟨0, HX2.out, ⟨fun h => absurd h (by omega), fun h => absurd h (AuH.Ahead.zero ht)⟩⟩, HBW.out⟩ ?round ?done ?stop
  case hI => rintro pos F A B ⟨h1, h2, h3, h4, h5, ⟨a, h6, h6'⟩, h7⟩ hm; exact ⟨h1, h2, h3, hm.held h4, hm.held h5, ⟨a, hm.held h6, h6'⟩, hm.below h7 HBW.out.size⟩
  case hIx => rintro c A B ⟨h1, h2, h3, h4⟩ hm; exact ⟨h1, h2, hm.held h3, hm.below h4 HBW.out.size⟩
  case hIB => rintro pos F A ⟨h1, h2, h3, h4, h5, h6, h7⟩; exact h7
  case hIF => rintro pos F A ⟨rfl, h2, h3, h4, h5, ⟨a, h6, h6'⟩, h7⟩ i (rfl | rfl); exact ⟨_, h5, rfl⟩; exact ⟨_, h6, rfl⟩
  case round =>
    rintro l pos F A hc ⟨rfl, hat, hr4, x0, x1, ⟨a, x2, ha⟩, hB⟩ hsz
    unfold encS
    gi_wp2_with fail
    refine ⟨Bnew (B0 A) _, fun A2 hM hs => ?_⟩
    have HN := hidp (hM.held (Held.new A 63 #[.int .i64 (H.K pos), .int .i64 (H.ln pos : Int), .int .i64 (H.Cl pos)]))
    have HX0 := hidp (hM.held (x0.alloc (.cells #[.int .i64 (H.K pos), .int .i64 (H.ln pos : Int), .int .i64 (H.Cl pos)] 63)))
    have HX1 := hidp (hM.held (x1.alloc (.cells #[.int .i64 (H.K pos), .int .i64 (H.ln pos : Int), .int .i64 (H.Cl pos)] 63)))
    have HX2 := hidp (hM.held (x2.alloc (.cells #[.int .i64 (H.K pos), .int .i64 (H.ln pos : Int), .int .i64 (H.Cl pos)] 63)))
    have HB := hidp (hM.below (Bnew hB (.cells #[.int .i64 (H.K pos), .int .i64 (H.ln pos : Int), .int .i64 (H.Cl pos)] 63)) HBW.out.size)
    have HAT := hidp hat
    have HR4 := hidp hr4
    have HA := hidp ha
    have HC := hidp hc
    obtain ⟨hlt, hk0, hle⟩ := (H.can_iff pos).1 hc
    have HLT := hidp hlt
    clear hM x0 x1 x2 hB hat hr4 ha hc hs hsz hk0 hle
    obtain ⟨c0, c1, c2, c3⟩ := HX0.out.four
    have d0 := HN.out.three.1
    obtain ⟨e1, e2⟩ := HX1.out.one
    obtain ⟨e3, e4⟩ := HX2.out.one
    obtain ⟨k, hkk⟩ : ∃ k, H.K pos = k := ⟨_, rfl⟩
    have HK := hidp hkk
    rw [hkk] at d0
    clear hkk
    have hend : ¬ (k = 1 ∧ a = 1) → seqPost
      (fun pos F A => F = (fun i => i = (w.heap.size + 1) ∨ i = (w.heap.size + 1 + 1)) ∧ H.At pos ∧ H.R4to pos ∧ Held A w.heap.size 51 #[.int .i64 (H.t : Int), .int .i64 (H.p : Int), .int .i64 (H.s : Int), .slice (some ad) n c] ∧ Held A (w.heap.size + 1) 4 #[.bool false] ∧ (∃ a : Int, Held A (w.heap.size + 1 + 1) 3 #[.int .i64 a] ∧ (a = 1 ↔ H.Ahead pos)) ∧ Below w.heap.size w A)
      (fun c A => c = .ret ∧ b = false ∧ Held A (w.heap.size + 1) 4 #[.bool false] ∧ Below w.heap.size w A) (H.nx pos) (fun i => i = (w.heap.size + 1) ∨ i = (w.heap.size + 1 + 1)) A.heap.size A2 .normal { tmps := #[], defers := [] } (A2.setCell ⟨(w.heap.size + 1 + 1), 0, none⟩ (.int .i64 k)) := fun hn => by
      have HT2 := (T0 (fun i => i = (w.heap.size + 1) ∨ i = (w.heap.size + 1 + 1)) A2).put (p := ⟨(w.heap.size + 1 + 1), 0, none⟩) (.inr rfl) (.int .i64 k)
      exact ⟨HT2, _, ⟨rfl, .step HAT.out HC.out, HR4.out.step ht HAT.out HLT.out (fun h => hn ⟨by rw [← HK.out]; exact h.1, HA.out.2 h.2⟩), HT2.held HX0.out (by omega), HX1.out.far (by simp) _, ⟨k, HX2.out.put1 _, by rw [← HK.out]; exact AuH.Ahead.iff ht HAT.out HLT.out⟩, HT2.below HB.out (by omega)⟩, fun i hi => .inl hi⟩
    have HEND := hidp hend
    clear hend
    by_cases h1 : k = 1
    · subst h1
      by_cases h2 : a = 1
      · subst h2
        clear HEND
        gi_wp2_with fail
        have HT5 := (T0 (fun i => i = (w.heap.size + 1) ∨ i = (w.heap.size + 1 + 1)) A2).put (p := ⟨(w.heap.size + 1), 0, none⟩) (.inl rfl) (.bool false)
        refine ⟨HT5, rfl, bool_no hb (fun h => ?_), HX1.out.put1 _, HT5.below HB.out (by omega)⟩
        obtain ⟨q, hq, hqp, he, hk⟩ := HA.out.1 (by first | trivial | rfl)
        exact h q hq hqp hk (by rw [he]; exact HLT.out) (by rw [he]; exact HK.out)
      · have t0 : (a == 1) = false := by simpa using h2
        gi_wp2_with fail
        exact HEND.out (fun h => h2 h.2)
    · have t0 : (k == 1) = false := by simpa using h1
      gi_wp2_with fail
      exact HEND.out (fun h => h1 h.1)
  case done =>
    rintro D pos F A hD hc ⟨rfl, hat, hr4, x0, x1, x2, hB⟩ hk
    have HDN : Hid ((w.heap.size + 1) < D ∧ w.heap.size ≤ D) := hidp (by have := HX1.out.lt; omega)
    have hpe : pos = H.p := by
      rw [ht.can_eq hat] at hc
      have := hat.le
      have := of_decide_eq_false hc
      omega
    subst hpe
    obtain rfl : b = true := bool_yes hb hr4
    have HK := hidp hk
    have HXR := hidp x1
    have HB := hidp hB
    obtain ⟨g1, f1⟩ := x1.one
    clear hk x0 x1 x2 hB hD hat hc hr4
    go_wp2_with fail
    refine mark_end rfl ((Below.heap_setCell _ _ _ _ (by have := HDN.out; simp; omega)).trans HK.out) ?_
    have z1 := (HXR.out.put1 (.bool true)).shut (o' := .deferred none) ((Below.heap_setCell A ⟨(w.heap.size + 1), 0, none⟩ (.bool true) _ (by have := HDN.out; simp; omega)).trans HK.out) rfl
    obtain ⟨z2, z3⟩ := z1.one
    refine bodyPost_ret (v := .bool true) (by simp [results, Tryz.results80, go_sem, z2]) rfl ⟨rfl, ?_⟩
    exact shutB (Bput HB.out (by simp) _) ((Below.heap_setCell A ⟨(w.heap.size + 1), 0, none⟩ (.bool true) _ (by have := HDN.out; simp; omega)).trans HK.out) rfl HDN.out.2
  case stop =>
    rintro D c A hD ⟨rfl, hb0, x1, hB⟩ hk
    have HDN : Hid (w.heap.size ≤ D) := hidp (by have := HX1.out.lt; omega)
    go_wp2_with fail
    refine mark_end rfl hk ?_
    obtain ⟨z2, z3⟩ := (x1.shut (o' := .deferred none) hk rfl).one
    rw [hb0]
    refine bodyPost_ret (v := .bool false) (by simp [results, Tryz.results80, go_sem, z2]) rfl ⟨rfl, ?_⟩
    exact shutB hB hk rfl HDN.out
end
end
section
namespace AuH
variable (H : AuH)
def freeF (q : Nat) : Nat := if H.K q = 1 then H.ln q else 0
def liveF (q : Nat) : Nat := if H.K q = 2 then 1 else if H.K q = 3 then HM.onesTo (H.cel q 4) 32 else 0
def R9 : Prop := H.V 0 = sumTo H.freeF H.p % 4294967296 ∧ H.V 1 = sumTo H.liveF H.p % 4294967296
variable {H}
theorem freeF_no {q : Nat} (h : H.K q = 0) : H.freeF q = 0 := by unfold freeF; rw [if_neg (by omega)]
theorem liveF_no {q : Nat} (h : H.K q = 0) : H.liveF q = 0 := by unfold liveF; rw [if_neg (by omega), if_neg (by omega)]
theorem freeF_le (q : Nat) : H.freeF q ≤ 1024 := by
  unfold freeF
  split
  · exact (H.ln_pos q (by omega)).2
  · omega
theorem liveF_le (q : Nat) : H.liveF q ≤ 32 := by
  unfold liveF
  split
  · omega
  · split
    · exact HM.onesTo_le _ _
    · omega
theorem sums_le (x : Nat) (hx : x ≤ 1024) : sumTo H.freeF x ≤ 1048576 ∧ sumTo H.liveF x ≤ 32768 := by
  have h1 := sumTo_le H.freeF 1024 x (fun q _ => freeF_le q)
  have h2 := sumTo_le H.liveF 32 x (fun q _ => liveF_le q)
  have h3 : x * 1024 ≤ 1024 * 1024 := Nat.mul_le_mul_right _ hx
  have h4 : x * 32 ≤ 1024 * 32 := Nat.mul_le_mul_right _ hx
  omega
end AuH
section
attribute [local go_sem] Oper.semAt_some

set_option maxHeartbeats 3200000 in
set_option maxRecDepth 100000 in
theorem auHasCounts_c {H : AuH} {n c : Nat} (HV : HeapV H n c) (ht : H.Tiled) (ad : Addr) (b : Bool) (hb : b = true ↔ H.R9) (w : World) (hv : IsVals w ad n H.V) :
    Calls Tryz.prog 85 #[hpV H ad n c] w fun e w' => e = .returned (.bool b) ∧ Below w.heap.size w w' := by
  have HVL := hidp hv
  have HP : H.p ≤ 1024 := HV.nums.2.2.2.1
  refine calls_of_wp_mark Tryz.func85 rfl ?_
  unfold hpV
  simp only [Tryz.ntmps85, List.size_toArray, List.length_cons, List.length_nil, Nat.reduceAdd, Nat.reduceSub, Array.replicate_succ, Array.replicate_zero, List.push_toArray, List.append_toArray, List.nil_append, List.cons_append]
  have HX0 := hidp (((Held.new w 51 #[.int .i64 (H.t : Int), .int .i64 (H.p : Int), .int .i64 (H.s : Int), .slice (some ad) n c]).alloc (.cells #[.int .i64 0] 3)).alloc (.cells #[.int .i64 0] 3))
  have HX1 := hidp ((Held.new (w.alloc (.cells #[.int .i64 (H.t : Int), .int .i64 (H.p : Int), .int .i64 (H.s : Int), .slice (some ad) n c] 51)) 3 #[.int .i64 0]).alloc (.cells #[.int .i64 0] 3))
  rw [World.size_alloc] at HX1
  have HX2 := hidp (Held.new ((w.alloc (.cells #[.int .i64 (H.t : Int), .int .i64 (H.p : Int), .int .i64 (H.s : Int), .slice (some ad) n c] 51)).alloc (.cells #[.int .i64 0] 3)) 3 #[.int .i64 0])
  rw [World.size_alloc, World.size_alloc] at HX2
  have HBW := hidp (Bnew (Bnew (Bnew (B0 w) (.cells #[.int .i64 (H.t : Int), .int .i64 (H.p : Int), .int .i64 (H.s : Int), .slice (some ad) n c] 51)) (.cells #[.int .i64 0] 3)) (.cells #[.int .i64 0] 3))
  go_wp2_with fail
  generalize ((w.alloc (.cells #[.int .i64 (H.t : Int), .int .i64 (H.p : Int), .int .i64 (H.s : Int), .slice (some ad) n c] 51)).alloc (.cells #[.int .i64 0] 3)).alloc (.cells #[.int .i64 0] 3) = W3 at *
  refine wp_seq (w0 := w) (gf := 29) (bound := #[hpV H ad n c]) (enc := encS H) (can := H.can) (next := H.nx) rfl (enters_of Tryz.func29 (by kernel_rfl) rfl) (auSpans_seq HV ad w HVL.out) HBW.out (fun _ => rfl)
    (fun pos F A => F = (fun i => i = (w.heap.size + 1) ∨ i = (w.heap.size + 1 + 1)) ∧ H.At pos ∧ Held A w.heap.size 51 #[.int .i64 (H.t : Int), .int .i64 (H.p : Int), .int .i64 (H.s : Int), .slice (some ad) n c] ∧ Held A (w.heap.size + 1) 3 #[.int .i64 (AuH.sumTo H.freeF pos : Nat)] ∧ Held A (w.heap.size + 1 + 1) 3 #[.int .i64 (AuH.sumTo H.liveF pos : Nat)] ∧ Below w.heap.size w A)
    (fun c A => False)
    ?hI ?hIx ?hIB ?hIF (F0 := (fun i => i = (w.heap.size + 1) ∨ i = (w.heap.size + 1 + 1))) ⟨rfl, .zero, HX0.out, HX1.out, HX2.out, HBW.out⟩ ?round ?done ?stop
  case hI => rintro pos F A B ⟨h1, h2, h4, h5, h6, h7⟩ hm; exact ⟨h1, h2, hm.held h4, hm.held h5, hm.held h6, hm.below h7 HBW.out.size⟩
  case hIx => rintro c A B h hm; exact h
  case hIB => rintro pos F A ⟨h1, h2, h4, h5, h6, h7⟩; exact h7
  case hIF => rintro pos F A ⟨rfl, h2, h4, h5, h6, h7⟩ i (rfl | rfl); exact ⟨_, h5, rfl⟩; exact ⟨_, h6, rfl⟩
  case round =>
    rintro l pos F A hc ⟨rfl, hat, x0, x1, x2, hB⟩ hsz
    unfold encS
    gi_wp2_with fail
    refine ⟨Bnew (B0 A) _, fun A2 hM hs => ?_⟩
    have HN := hidp (hM.held (Held.new A 63 #[.int .i64 (H.K pos), .int .i64 (H.ln pos : Int), .int .i64 (H.Cl pos)]))
    have HX0 := hidp (hM.held (x0.alloc (.cells #[.int .i64 (H.K pos), .int .i64 (H.ln pos : Int), .int .i64 (H.Cl pos)] 63)))
    have HX1 := hidp (hM.held (x1.alloc (.cells #[.int .i64 (H.K pos), .int .i64 (H.ln pos : Int), .int .i64 (H.Cl pos)] 63)))
    have HX2 := hidp (hM.held (x2.alloc (.cells #[.int .i64 (H.K pos), .int .i64 (H.ln pos : Int), .int .i64 (H.Cl pos)] 63)))
    have HB := hidp (hM.below (Bnew hB (.cells #[.int .i64 (H.K pos), .int .i64 (H.ln pos : Int), .int .i64 (H.Cl pos)] 63)) HBW.out.size)
    have HAT := hidp hat
    have HC := hidp hc
    obtain ⟨hlt, hk0, hle⟩ := (H.can_iff pos).1 hc
    have HLT := hidp hlt
    have HS1 := hidp (ht.sum hat hlt (fun q _ h => AuH.freeF_no h))
    have HS2 := hidp (ht.sum hat hlt (fun q _ h => AuH.liveF_no h))
    have hs1 := AuH.sums_le (H := H) pos (by omega)
    have hf1 := AuH.freeF_le (H := H) pos
    have hf2 := AuH.liveF_le (H := H) pos
    have HVR := hidp (HVL.out.below HB.out)
    clear hM x0 x1 x2 hB hat hc hs hsz hle
    have hkc := H.K_cases pos
    have hfree : H.K pos = 1 → H.freeF pos = H.ln pos := fun h => by unfold AuH.freeF; rw [if_pos h]
    have hfree0 : H.K pos ≠ 1 → H.freeF pos = 0 := fun h => by unfold AuH.freeF; rw [if_neg h]
    have hlive0 : H.K pos = 1 → H.liveF pos = 0 := fun h => by unfold AuH.liveF; rw [if_neg (by omega), if_neg (by omega)]
    have hlive2 : H.K pos = 2 → H.liveF pos = 1 := fun h => by unfold AuH.liveF; rw [if_pos h]
    have hlive3 : H.K pos = 3 → H.liveF pos = HM.onesTo (H.cel pos 4) 32 := fun h => by unfold AuH.liveF; rw [if_neg (by omega), if_pos h]
    generalize H.freeF pos = f1 at *
    generalize H.liveF pos = f2 at *
    generalize AuH.sumTo H.freeF pos = y1 at *
    generalize AuH.sumTo H.liveF pos = y2 at *
    obtain ⟨c0, c1, c2, c3⟩ := HX0.out.four
    obtain ⟨e1, e2⟩ := HX1.out.one
    obtain ⟨e3, e4⟩ := HX2.out.one
    rcases hkc with hk | ⟨hk | hk, hl1, hl2, _⟩ | ⟨hk, hl1, hcl⟩
    · exact absurd hk.1 hk0
    · obtain rfl := hfree hk
      obtain rfl := hlive0 hk
      clear hfree hfree0 hlive0 hlive2 hlive3 hk0
      rw [hk] at HN
      obtain ⟨d0, d1, d2⟩ := HN.out.three
      generalize H.ln pos = m at *
      gi_wp2_with fail
      have HT5 := (T0 (fun i => i = (w.heap.size + 1) ∨ i = (w.heap.size + 1 + 1)) A2).put (p := ⟨(w.heap.size + 1), 0, none⟩) (.inl rfl) (.int .i64 ((y1 : Int) + m))
      refine ⟨HT5, _, ⟨rfl, .step HAT.out HC.out, HT5.held HX0.out (by omega), ?_, ?_, HT5.below HB.out (by omega)⟩, fun i hi => .inl hi⟩
      · rw [HS1.out]; have := HX1.out.put1 (.int .i64 ((y1 : Int) + m)); push_cast; exact this
      · rw [HS2.out]; exact HX2.out.far (by simp) _
    · obtain rfl := hfree0 (by omega)
      obtain rfl := hlive2 hk
      clear hfree hfree0 hlive0 hlive2 hlive3 hk0
      rw [hk] at HN
      obtain ⟨d0, d1, d2⟩ := HN.out.three
      gi_wp2_with fail
      have HT5 := (T0 (fun i => i = (w.heap.size + 1) ∨ i = (w.heap.size + 1 + 1)) A2).put (p := ⟨(w.heap.size + 1 + 1), 0, none⟩) (.inr rfl) (.int .i64 ((y2 : Int) + 1))
      refine ⟨HT5, _, ⟨rfl, .step HAT.out HC.out, HT5.held HX0.out (by omega), ?_, ?_, HT5.below HB.out (by omega)⟩, fun i hi => .inl hi⟩
      · rw [HS1.out]; exact HX1.out.far (by simp) _
      · rw [HS2.out]; have := HX2.out.put1 (.int .i64 ((y2 : Int) + 1)); push_cast; exact this
    · obtain rfl := hfree0 (by omega)
      obtain rfl := hlive3 hk
      clear hfree hfree0 hlive0 hlive2 hlive3 hk0 hcl
      rw [hk] at HN
      obtain ⟨d0, d1, d2⟩ := HN.out.three
      obtain ⟨sl, hsl⟩ : ∃ sl, H.cel pos 4 = sl := ⟨_, rfl⟩
      have HES := hidp hsl
      have hsl32 := HV.cel_lt HLT.out (show 4 < 6 by omega)
      rw [hsl] at hsl32 HS2
      rw [hsl] at hf2
      clear hsl
      have HON : Hid (∀ W : World, Calls Tryz.prog 112 #[.int .u32 (sl : Int)] W fun e w' => e = .returned (.int .i64 ((HM.onesTo sl 32 : Nat) : Int)) ∧ W = w') := hidp (Ones_c sl hsl32)
      generalize HM.onesTo sl 32 = on at *
      have sw : IntKind.i64.wrap ((y2 : Int) + on) = (y2 : Int) + on := i64_same (by omega) (by omega)
      gi_wp2_with fail
      refine wp_region_round (S := (fun w' => w'.cell? ⟨w.heap.size, 0, none⟩ = some (.int .i64 (H.t : Int)) ∧ w'.cell? ⟨w.heap.size, 1, none⟩ = some (.int .i64 (H.p : Int)) ∧ w'.cell? ⟨w.heap.size, 2, none⟩ = some (.int .i64 (H.s : Int)) ∧ w'.cell? ⟨w.heap.size, 3, none⟩ = some (.slice (some ad) n c))) (by kernel_rfl) (by kernel_rfl) (fun _ _ h => h) ?_ (fun hHeld => ?_)
      · (try dsimp only)
        first | exact HX0.out.drew.four | exact HQ4.out.four | exact (HQ4.out.far (p := ⟨w.heap.size + 1 + 1, 0, none⟩) (by simp; omega) _).four | exact hHeld | trivial
      refine tkz 1 ?_
      refine tkz 2 ?_
      refine wpAnyH_ready (rs := [0, 3]) (by kernel_rfl) (by simp) ?_
      refine (AllReadyH.cons (o := _) rfl (fun K hK => ?_) (AllReadyH.cons (o := _) rfl (fun K hK => ?_) AllReadyH.nil))
      · go_simp
        refine hK.out _ _ ?_ (fun hHeld => ?_)
        · (try dsimp only)
          first | exact HX0.out.drew.four | exact HQ4.out.four | exact (HQ4.out.far (p := ⟨w.heap.size + 1 + 1, 0, none⟩) (by simp; omega) _).four | exact hHeld | trivial
        clear hK K
        (try simp only [Act.put, gA, gB, gC, sA, sB, sC])
        refine wpAnyH_ready (rs := [3]) (by kernel_rfl) (by simp) ?_
        refine AllReadyH.cons (o := _) rfl (fun K hK => ?_) AllReadyH.nil
        go_simp
        (go_at_call 49; refine (auAt_Slots_c HV ad HLT.out _ HVR.out.drew).mono ?_; rintro e w4 ⟨rfl, hb4⟩; rw [HES.out]; have HQ4 := hidp (HX0.out.drew.keep hb4); have HT4 := hidp ((T0 (fun i => i = (w.heap.size + 1) ∨ i = (w.heap.size + 1 + 1)) A2).drew.trans (Turns.of_below hb4 _)); have HY4 := hidp (HX2.out.drew.keep hb4); have HY3 := hidp (HX1.out.drew.keep hb4); clear hb4; obtain ⟨e3, e4⟩ := HY4.out.one)
        refine hK.out _ _ ?_ (fun hHeld => ?_)
        · (try dsimp only)
          first | exact HX0.out.drew.four | exact HQ4.out.four | exact (HQ4.out.far (p := ⟨w.heap.size + 1 + 1, 0, none⟩) (by simp; omega) _).four | exact hHeld | trivial
        clear hK K
        (try simp only [Act.put, gA, gB, gC, sA, sB, sC])
        refine wpAnyH_ready (rs := [4]) (by kernel_rfl) (by simp) ?_
        refine AllReadyH.cons (o := _) rfl (fun K hK => ?_) AllReadyH.nil
        go_simp
        (go_at_call 112; refine (HON.out _).mono ?_; rintro e w5 ⟨rfl, rfl⟩)
        refine hK.out _ _ ?_ (fun hHeld => ?_)
        · (try dsimp only)
          first | exact HX0.out.drew.four | exact HQ4.out.four | exact (HQ4.out.far (p := ⟨w.heap.size + 1 + 1, 0, none⟩) (by simp; omega) _).four | exact hHeld | trivial
        clear hK K
        (try simp only [Act.put, gA, gB, gC, sA, sB, sC])
        refine tkz 5 ?_
        refine wpAnyH_ready (rs := [6]) (by kernel_rfl) (by simp) ?_
        refine AllReadyH.cons (o := _) rfl (fun K hK => ?_) AllReadyH.nil
        go_simp
        skip
        refine hK.out _ _ ?_ (fun hHeld => ?_)
        · (try dsimp only)
          first | exact HX0.out.drew.four | exact HQ4.out.four | exact (HQ4.out.far (p := ⟨w.heap.size + 1 + 1, 0, none⟩) (by simp; omega) _).four | exact hHeld | trivial
        clear hK K
        (try simp only [Act.put, gA, gB, gC, sA, sB, sC])
        refine wpAnyH_done (by kernel_rfl) ?_ _
        gi_wp2
        have HT5 := HT4.out.put (p := ⟨(w.heap.size + 1 + 1), 0, none⟩) (.inr rfl) (.int .i64 ((y2 : Int) + on))
        refine ⟨HT5, _, ⟨rfl, .step HAT.out HC.out, HT5.held HX0.out (by omega), ?_, ?_, HT5.below HB.out (by omega)⟩, fun i hi => .inl hi⟩
        · rw [HS1.out]; exact HY3.out.far (by simp) _
        · rw [HS2.out]; have := HY4.out.put1 (.int .i64 ((y2 : Int) + on)); push_cast; exact this
      · go_simp
        (go_at_call 49; refine (auAt_Slots_c HV ad HLT.out _ HVR.out.drew).mono ?_; rintro e w4 ⟨rfl, hb4⟩; rw [HES.out]; have HQ4 := hidp (HX0.out.drew.keep hb4); have HT4 := hidp ((T0 (fun i => i = (w.heap.size + 1) ∨ i = (w.heap.size + 1 + 1)) A2).drew.trans (Turns.of_below hb4 _)); have HY4 := hidp (HX2.out.drew.keep hb4); have HY3 := hidp (HX1.out.drew.keep hb4); clear hb4; obtain ⟨e3, e4⟩ := HY4.out.one)
        refine hK.out _ _ ?_ (fun hHeld => ?_)
        · (try dsimp only)
          first | exact HX0.out.drew.four | exact HQ4.out.four | exact (HQ4.out.far (p := ⟨w.heap.size + 1 + 1, 0, none⟩) (by simp; omega) _).four | exact hHeld | trivial
        clear hK K
        (try simp only [Act.put, gA, gB, gC, sA, sB, sC])
        refine wpAnyH_ready (rs := [0, 4]) (by kernel_rfl) (by simp) ?_
        refine (AllReadyH.cons (o := _) rfl (fun K hK => ?_) (AllReadyH.cons (o := _) rfl (fun K hK => ?_) AllReadyH.nil))
        · go_simp
          refine hK.out _ _ ?_ (fun hHeld => ?_)
          · (try dsimp only)
            first | exact HX0.out.drew.four | exact HQ4.out.four | exact (HQ4.out.far (p := ⟨w.heap.size + 1 + 1, 0, none⟩) (by simp; omega) _).four | exact hHeld | trivial
          clear hK K
          (try simp only [Act.put, gA, gB, gC, sA, sB, sC])
          refine wpAnyH_ready (rs := [4]) (by kernel_rfl) (by simp) ?_
          refine AllReadyH.cons (o := _) rfl (fun K hK => ?_) AllReadyH.nil
          go_simp
          (go_at_call 112; refine (HON.out _).mono ?_; rintro e w5 ⟨rfl, rfl⟩)
          refine hK.out _ _ ?_ (fun hHeld => ?_)
          · (try dsimp only)
            first | exact HX0.out.drew.four | exact HQ4.out.four | exact (HQ4.out.far (p := ⟨w.heap.size + 1 + 1, 0, none⟩) (by simp; omega) _).four | exact hHeld | trivial
          clear hK K
          (try simp only [Act.put, gA, gB, gC, sA, sB, sC])
          refine tkz 5 ?_
          refine wpAnyH_ready (rs := [6]) (by kernel_rfl) (by simp) ?_
          refine AllReadyH.cons (o := _) rfl (fun K hK => ?_) AllReadyH.nil
          go_simp
          skip
          refine hK.out _ _ ?_ (fun hHeld => ?_)
          · (try dsimp only)
            first | exact HX0.out.drew.four | exact HQ4.out.four | exact (HQ4.out.far (p := ⟨w.heap.size + 1 + 1, 0, none⟩) (by simp; omega) _).four | exact hHeld | trivial
          clear hK K
          (try simp only [Act.put, gA, gB, gC, sA, sB, sC])
          refine wpAnyH_done (by kernel_rfl) ?_ _
          gi_wp2
          have HT5 := HT4.out.put (p := ⟨(w.heap.size + 1 + 1), 0, none⟩) (.inr rfl) (.int .i64 ((y2 : Int) + on))
          refine ⟨HT5, _, ⟨rfl, .step HAT.out HC.out, HT5.held HX0.out (by omega), ?_, ?_, HT5.below HB.out (by omega)⟩, fun i hi => .inl hi⟩
          · rw [HS1.out]; exact HY3.out.far (by simp) _
          · rw [HS2.out]; have := HY4.out.put1 (.int .i64 ((y2 : Int) + on)); push_cast; exact this
        · go_simp
          (go_at_call 112; refine (HON.out _).mono ?_; rintro e w5 ⟨rfl, rfl⟩)
          refine hK.out _ _ ?_ (fun hHeld => ?_)
          · (try dsimp only)
            first | exact HX0.out.drew.four | exact HQ4.out.four | exact (HQ4.out.far (p := ⟨w.heap.size + 1 + 1, 0, none⟩) (by simp; omega) _).four | exact hHeld | trivial
          clear hK K
          (try simp only [Act.put, gA, gB, gC, sA, sB, sC])
          refine wpAnyH_ready (rs := [0]) (by kernel_rfl) (by simp) ?_
          refine AllReadyH.cons (o := _) rfl (fun K hK => ?_) AllReadyH.nil
          go_simp
          skip
          refine hK.out _ _ ?_ (fun hHeld => ?_)
          · (try dsimp only)
            first | exact HX0.out.drew.four | exact HQ4.out.four | exact (HQ4.out.far (p := ⟨w.heap.size + 1 + 1, 0, none⟩) (by simp; omega) _).four | exact hHeld | trivial
          clear hK K
          (try simp only [Act.put, gA, gB, gC, sA, sB, sC])
          refine tkz 5 ?_
          refine wpAnyH_ready (rs := [6]) (by kernel_rfl) (by simp) ?_
          refine AllReadyH.cons (o := _) rfl (fun K hK => ?_) AllReadyH.nil
          go_simp
          skip
          refine hK.out _ _ ?_ (fun hHeld => ?_)
          · (try dsimp only)
            first | exact HX0.out.drew.four | exact HQ4.out.four | exact (HQ4.out.far (p := ⟨w.heap.size + 1 + 1, 0, none⟩) (by simp; omega) _).four | exact hHeld | trivial
          clear hK K
          (try simp only [Act.put, gA, gB, gC, sA, sB, sC])
          refine wpAnyH_done (by kernel_rfl) ?_ _
          gi_wp2
          have HT5 := HT4.out.put (p := ⟨(w.heap.size + 1 + 1), 0, none⟩) (.inr rfl) (.int .i64 ((y2 : Int) + on))
          refine ⟨HT5, _, ⟨rfl, .step HAT.out HC.out, HT5.held HX0.out (by omega), ?_, ?_, HT5.below HB.out (by omega)⟩, fun i hi => .inl hi⟩
          · rw [HS1.out]; exact HY3.out.far (by simp) _
          · rw [HS2.out]; have := HY4.out.put1 (.int .i64 ((y2 : Int) + on)); push_cast; exact this
  case done =>
    rintro D pos F A hD hc ⟨rfl, hat, x0, x1, x2, hB⟩ hk
    have HDN : Hid ((w.heap.size + 1) < D ∧ w.heap.size ≤ D) := hidp (by have := HX1.out.lt; omega)
    have hpe : pos = H.p := by
      rw [ht.can_eq hat] at hc
      have := hat.le
      have := of_decide_eq_false hc
      omega
    subst hpe
    have hs1 := AuH.sums_le (H := H) H.p HP
    have hn := HV.len
    have hv0 := (HVL.out.below hB).2 0 (by omega)
    have hv1 := (HVL.out.below hB).2 1 (by omega)
    have hl0 := HV.lt 0 (by omega)
    have hl1 := HV.lt 1 (by omega)
    have hR : b = true ↔ H.V 0 = AuH.sumTo H.freeF H.p ∧ H.V 1 = AuH.sumTo H.liveF H.p := by
      rw [hb]
      unfold AuH.R9
      rw [Nat.mod_eq_of_lt (by omega), Nat.mod_eq_of_lt (by omega)]
    generalize AuH.sumTo H.freeF H.p = y1 at *
    generalize AuH.sumTo H.liveF H.p = y2 at *
    generalize H.V 0 = v0 at *
    generalize H.V 1 = v1 at *
    have w1 : IntKind.u32.wrap (y1 : Int) = (y1 : Int) := wrap_nat32 _ (by omega)
    have w2 : IntKind.u32.wrap (y2 : Int) = (y2 : Int) := wrap_nat32 _ (by omega)
    have hcm : c ≤ 9223372036854775807 := HV.max
    have hnc := HV.cap
    have n0 : 0 < n := by omega
    have n1 : 1 < n := by omega
    have n2 : (1 : Int) < n := by omega
    have hv11 : A.cell? ⟨ad.block, ad.off + 1, none⟩ = some (.int .u32 (v1 : Int)) := hv1
    have hv00 : A.cell? ad = some (.int .u32 (v0 : Int)) := hv0
    have HK := hidp hk
    have HB := hidp hB
    have g0 := x0.four.2.2.2
    have g3 := x1.one.1
    have g4 := x2.one.1
    have HR := hidp hR
    clear hk x0 x1 x2 hB hD hat hc hn hR hb
    have HBE : Hid (Below w.heap.size w (A.drew.putObj D (.deferred none))) := hidp (shutB (Bdrew HB.out) HK.out rfl HDN.out.2)
    by_cases h1 : v0 = y1
    · have q0 : ((v0 : Int) == y1) = true := by simp; omega
      by_cases h2 : v1 = y2
      · have HBB : Hid (b = true) := hidp (bool_yes HR.out ⟨h1, h2⟩)
        have q1 : ((v1 : Int) == y2) = true := by simp; omega
        clear h1 h2
        go_wp2_with fail
        refine wp_region_held_drew (S := (fun w' => w'.cell? ⟨w.heap.size, 3, none⟩ = some (.slice (some ad) n c) ∧ w'.cell? ad = some (.int .u32 (v0 : Int)) ∧ w'.cell? ⟨ad.block, ad.off + 1, none⟩ = some (.int .u32 (v1 : Int)) ∧ w'.cell? ⟨(w.heap.size + 1), 0, none⟩ = some (.int .i64 (y1 : Int)) ∧ w'.cell? ⟨(w.heap.size + 1 + 1), 0, none⟩ = some (.int .i64 (y2 : Int)))) (by kernel_rfl) ?_ (fun hHeld => ?_)
        · (try dsimp only)
          first | exact ⟨g0, hv00, hv11, g3, g4⟩ | exact hHeld
        refine tkz 0 ?_
        refine tkz 1 ?_
        refine tkz 2 ?_
        refine tkz 3 ?_
        refine tkz 4 ?_
        refine tkz 5 ?_
        refine tkz 6 ?_
        refine tkz 7 ?_
        refine tkz 8 ?_
        refine tkz 9 ?_
        refine tkz 10 ?_
        refine tkz 11 ?_
        refine tkz 12 ?_
        refine tkz 13 ?_
        refine tkz 14 ?_
        refine tkz 15 ?_
        refine tkz 16 ?_
        refine wpAnyH_done (by kernel_rfl) ?_ _
        go_wp2
        refine mark_end rfl HK.out ?_
        refine bodyPost_ret (results_tmp rfl _ _ _) rfl ?_
        exact ⟨by rw [HBB.out]; first | rfl | simp, HBE.out⟩
      · have HBB : Hid (b = false) := hidp (bool_no HR.out (fun h => h2 h.2))
        have q1 : ((v1 : Int) == y2) = false := by simp; omega
        clear h1 h2
        go_wp2_with fail
        refine wp_region_held_drew (S := (fun w' => w'.cell? ⟨w.heap.size, 3, none⟩ = some (.slice (some ad) n c) ∧ w'.cell? ad = some (.int .u32 (v0 : Int)) ∧ w'.cell? ⟨ad.block, ad.off + 1, none⟩ = some (.int .u32 (v1 : Int)) ∧ w'.cell? ⟨(w.heap.size + 1), 0, none⟩ = some (.int .i64 (y1 : Int)) ∧ w'.cell? ⟨(w.heap.size + 1 + 1), 0, none⟩ = some (.int .i64 (y2 : Int)))) (by kernel_rfl) ?_ (fun hHeld => ?_)
        · (try dsimp only)
          first | exact ⟨g0, hv00, hv11, g3, g4⟩ | exact hHeld
        refine tkz 0 ?_
        refine tkz 1 ?_
        refine tkz 2 ?_
        refine tkz 3 ?_
        refine tkz 4 ?_
        refine tkz 5 ?_
        refine tkz 6 ?_
        refine tkz 7 ?_
        refine tkz 8 ?_
        refine tkz 9 ?_
        refine tkz 10 ?_
        refine tkz 11 ?_
        refine tkz 12 ?_
        refine tkz 13 ?_
        refine tkz 14 ?_
        refine tkz 15 ?_
        refine tkz 16 ?_
        refine wpAnyH_done (by kernel_rfl) ?_ _
        go_wp2
        refine mark_end rfl HK.out ?_
        refine bodyPost_ret (results_tmp rfl _ _ _) rfl ?_
        exact ⟨by rw [HBB.out]; first | rfl | simp, HBE.out⟩
    · have HBB : Hid (b = false) := hidp (bool_no HR.out (fun h => h1 h.1))
      have q0 : ((v0 : Int) == y1) = false := by simp; omega
      clear h1
      go_wp2_with fail
      refine wp_region_held_drew (S := (fun w' => w'.cell? ⟨w.heap.size, 3, none⟩ = some (.slice (some ad) n c) ∧ w'.cell? ad = some (.int .u32 (v0 : Int)) ∧ w'.cell? ⟨ad.block, ad.off + 1, none⟩ = some (.int .u32 (v1 : Int)) ∧ w'.cell? ⟨(w.heap.size + 1), 0, none⟩ = some (.int .i64 (y1 : Int)) ∧ w'.cell? ⟨(w.heap.size + 1 + 1), 0, none⟩ = some (.int .i64 (y2 : Int)))) (by kernel_rfl) ?_ (fun hHeld => ?_)
      · (try dsimp only)
        first | exact ⟨g0, hv00, hv11, g3, g4⟩ | exact hHeld
      refine tkz 0 ?_
      refine tkz 1 ?_
      refine tkz 2 ?_
      refine tkz 3 ?_
      refine tkz 4 ?_
      refine tkz 5 ?_
      refine tkz 6 ?_
      refine tkz 7 ?_
      refine skO (i := 8) rfl (by kernel_rfl) (fun _ _ _ h => h) (by rfl) (by assumption) ?_
      (try simp only [Act.put, gA, gB, gC, sA, sB, sC])
      refine skO (i := 9) rfl (by kernel_rfl) (fun _ _ _ h => h) (by rfl) (by assumption) ?_
      (try simp only [Act.put, gA, gB, gC, sA, sB, sC])
      refine skO (i := 10) rfl (by kernel_rfl) (fun _ _ _ h => h) (by rfl) (by assumption) ?_
      (try simp only [Act.put, gA, gB, gC, sA, sB, sC])
      refine skO (i := 11) rfl (by kernel_rfl) (fun _ _ _ h => h) (by rfl) (by assumption) ?_
      (try simp only [Act.put, gA, gB, gC, sA, sB, sC])
      refine skO (i := 12) rfl (by kernel_rfl) (fun _ _ _ h => h) (by rfl) (by assumption) ?_
      (try simp only [Act.put, gA, gB, gC, sA, sB, sC])
      refine skO (i := 13) rfl (by kernel_rfl) (fun _ _ _ h => h) (by rfl) (by assumption) ?_
      (try simp only [Act.put, gA, gB, gC, sA, sB, sC])
      refine skO (i := 14) rfl (by kernel_rfl) (fun _ _ _ h => h) (by rfl) (by assumption) ?_
      (try simp only [Act.put, gA, gB, gC, sA, sB, sC])
      refine tkz 15 ?_
      refine tkz 16 ?_
      refine wpAnyH_done (by kernel_rfl) ?_ _
      go_wp2
      refine mark_end rfl HK.out ?_
      refine bodyPost_ret (results_tmp rfl _ _ _) rfl ?_
      exact ⟨by rw [HBB.out]; first | rfl | simp, HBE.out⟩
  case stop =>
    rintro D c A hD h hk
    exact h.elim
end
end
end Go.Proofs.YtkbjckhbllmclaaGreatDoor

namespace Go.Proofs.YtkbjckhbllmclaaGreatDoor
open Go.ChangeShapes Go.WideShapes Go.ChangeAt Go.RowKit Go.Maps
set_option linter.unusedVariables false
set_option linter.unusedSimpArgs false
section
theorem step_copy_at {P : Program} {ops : Array Oper} {o : Oper} {a : Act} {w : World} {K : Act → World → Prop} {Q : Exit → Act → World → Prop} {E : Prop} (hgd : o.guard = none) (d s : Operand) (dT sT : TypeId)
    (ho : o.op = .call { callee := .builtin .copy, args := #[d, s], argTypes := #[dT, sT] }) (elem : TypeId) (hu : P.underlying dT = some (.slice elem)) (hsz : (P.info? elem).map (·.size) = some 1)
    (g off dLen dCap : Nat) (ad : Addr) (sLen sCap : Nat) (hd : a.eval d = .slice (some ⟨g, off, none⟩) dLen dCap) (hs : a.eval s = .slice (some ad) sLen sCap) (cur : Array Value) (t : TypeId) (hg : Held w g t cur) (cs : List Value) (hn : cs.length = Nat.min sLen dLen)
    (hsrc : ∀ j v, cs[j]? = some v → w.cell? (ad.add j) = some v) (hfit : off + cs.length ≤ cur.size) (h1 : ∀ v ∈ cs, v.oneCell' = true)
    (hK : ∀ w', Held w' g t (cur.toList.take off ++ (cs ++ cur.toList.drop (off + cs.length))).toArray → Turns (fun i => i = g) w w' → K (a.put o.dst (goInt cs.length)) w') :
    if Region.wanted o (yielded ops a.tmps) = true then Oper.wp P o a w K Q else E := by
  have hw : Region.wanted o (yielded ops a.tmps) = true := by simp [Region.wanted, hgd]
  rw [if_pos hw]
  have hrun := run_copy_row (P := P) w dT sT o.type elem g off dLen dCap ad sLen sCap cur t cs hu hsz hg hn hsrc hfit h1
  unfold Oper.wp
  simp only [execOp, ho, resolve, invoke, builtin, hd, hs]
  simp [hd, hs, hrun, Result.andThen]
  exact hK _ (setRow_heap w g cur _ t _ hg) ⟨rfl, rfl, rfl, by simp [World.setRow], fun i hi hf => setRow_other w g i _ (by omega)⟩

theorem copied_at {cur : Array Value} {k m p : Nat} {u : Value} (hs : cur.size = p) (hk : ∀ i, i < k → cur[i]? = some u) (hm : k + m ≤ p) :
    (cur.toList.take k ++ (List.replicate m u ++ cur.toList.drop (k + m))).toArray.size = p ∧ ∀ i, i < k + m → (cur.toList.take k ++ (List.replicate m u ++ cur.toList.drop (k + m))).toArray[i]? = some u := by
  have hl : cur.toList.length = p := by simpa using hs
  refine ⟨by simp; omega, fun i hi => ?_⟩
  rw [List.getElem?_toArray]
  rcases Nat.lt_or_ge i k with h1 | h1
  · rw [List.getElem?_append_left (by simp; omega), List.getElem?_take_of_lt h1]
    have := hk i h1
    simpa using this
  · rw [List.getElem?_append_right (by simp; omega), List.length_take, Nat.min_eq_left (by omega), List.getElem?_append_left (by simp; omega), List.getElem?_replicate]
    rw [if_pos (by omega)]

theorem mul64_c (p : Nat) (hp : p < 2 ^ 32) (w : World) :
    Calls Tryz.prog 140 #[.int .u64 1, .int .u64 (p : Int)] w fun e w' => e = .returned (.tuple #[.int .u64 0, .int .u64 (p : Int)]) ∧ w = w' := by
  have a1 : bits .and .u64 (p : Int) 4294967295 = (p : Int) := by
    have h := u64_and_nat p 4294967295 (by omega) (by omega)
    have e : p &&& 4294967295 = p := by
      have := Nat.and_two_pow_sub_one_eq_mod p 32
      simp at this
      rw [this]
      exact Nat.mod_eq_of_lt hp
    rw [e] at h
    exact h
  have a2 : bits .and .u64 0 4294967295 = 0 := by decide
  have a3 : bits .and .u64 1 4294967295 = 1 := by decide
  have d1 : (p : Int) / 4294967296 = 0 := by omega
  have w1 : IntKind.u64.wrap (p : Int) = (p : Int) := wrap_nat64 p (by omega)
  go_enter Tryz.func140, Tryz.ntmps140
  go_wp2
  go_ret2
  refine ⟨?_, rfl⟩
  simp [w1, d1]
theorem mul_c (p : Nat) (hp : p < 2 ^ 32) (w : World) :
    Calls Tryz.prog 137 #[.int .u64 1, .int .u64 (p : Int)] w fun e w' => e = .returned (.tuple #[.int .u64 0, .int .u64 (p : Int)]) ∧ w = w' := by
  go_enter Tryz.func137, Tryz.ntmps137
  go_wp2_with (first
    | (go_at_call 140; refine (mul64_c p hp _).mono ?_; rintro e w1 ⟨rfl, rfl⟩)
    | fail)
  go_ret2
  exact ⟨rfl, rfl⟩

set_option maxRecDepth 100000 in
set_option maxHeartbeats 1600000 in
theorem repeat_c (v : Int) (g0 p : Nat) (hp : 1 ≤ p) (hp2 : p ≤ 1024) (w : World) (hc : Held w g0 3 #[.int .i64 v]) :
    Calls Tryz.prog 125 #[.slice (some ⟨g0, 0, none⟩) 1 1, .int .i64 (p : Int)] w fun e w' => ∃ g cs, e = .returned (.slice (some ⟨g, 0, none⟩) p p) ∧ Held w' g 3 cs ∧ cs.size = p ∧ (∀ i, i < p → cs[i]? = some (.int .i64 v)) ∧ w.heap.size ≤ g ∧ Below w.heap.size w w' := by
  obtain ⟨i0, hin, hz0, hz1, hz2⟩ := info_parts intInfo
  have w1 : IntKind.u64.wrap (p : Int) = (p : Int) := wrap_nat64 p (by omega)
  have w2 : IntKind.i64.wrap (p : Int) = (p : Int) := (by simp only [IntKind.wrap, IntKind.bits, IntKind.signed]; simp; omega)
  obtain ⟨cur, hcur, hcs⟩ : ∃ cur, madeCells (Value.int .i64 0).cells (p * i0.size) = cur ∧ cur.size = p := ⟨_, rfl, by rw [hz1]; simp [size_madeCells]⟩
  have hmk : ∀ w : World, (Instr.makeSlice 81 (.int .i64 (p : Int)) (.int .i64 (p : Int))).run Tryz.prog w = .ok (.slice (some ⟨w.heap.size, 0, none⟩) p p) (w.alloc (.cells cur 3)) := fun w => by
    have := run_makeSlice (w := w) 81 3 i0 _ Tryz.underlying81 hin hz0 .i64 .i64 (p : Int) (p : Int) (by omega) (by omega) (by rw [hz1]; simp; omega) (by rw [hz2]; omega) (by omega)
    simp only [Int.toNat_natCast] at this
    rw [hcur] at this
    exact this
  clear hcur hin hz0 hz1 hz2
  have hc0 := hc.cell 0
  simp only [List.getElem?_toArray, List.getElem?_cons_zero] at hc0
  go_enter Tryz.func125, Tryz.ntmps125
  have hcb := hc.lt
  have q0 : decide ((p : Int) < 0) = false := decide_eq_false (by omega)
  have q1 : decide ((9223372036854775807 : Int) < p) = false := decide_eq_false (by omega)
  have hsrc : ∀ (j : Nat) (y : Value), (List.replicate 1 (Value.int .i64 v))[j]? = some y → (w.alloc (.cells cur 3)).cell? ((⟨g0, 0, none⟩ : Addr).add j) = some y := by
    intro j y hy
    rcases j with _ | j
    · simp at hy; subst hy; exact (Below.cell (w := w) (Bnew (B0 w) (.cells cur 3)) (p := ⟨g0, 0, none⟩) hcb).trans hc0
    · simp at hy
  have hn1 : (List.replicate 1 (Value.int .i64 v)).length = Nat.min 1 p := by rw [List.length_replicate]; exact (Nat.min_eq_left hp).symm
  have hf1 : 0 + (List.replicate 1 (Value.int .i64 v)).length ≤ cur.size := by rw [List.length_replicate, hcs]; omega
  have ho1 : ∀ u ∈ List.replicate 1 (Value.int .i64 v), u.oneCell' = true := by intro u hu; rw [List.eq_of_mem_replicate hu]; rfl
  have hrun := run_copy_row (P := Tryz.prog) (w.alloc (.cells cur 3)) 81 81 3 3 w.heap.size 0 p p ⟨g0, 0, none⟩ 1 1 cur 3 (List.replicate 1 (.int .i64 v)) Tryz.underlying81 (by kernel_rfl) (Held.new w _ _) hn1 hsrc hf1 ho1
  have hh4 := setRow_heap (w.alloc (.cells cur 3)) w.heap.size cur (cur.toList.take 0 ++ List.replicate 1 (Value.int .i64 v) ++ cur.toList.drop (0 + (List.replicate 1 (Value.int .i64 v)).length)).toArray 3 (0, 0) (Held.new w _ _)
  have ht4 : Turns (fun i => i = w.heap.size) (w.alloc (.cells cur 3)) ((w.alloc (.cells cur 3)).setRow w.heap.size (cur.toList.take 0 ++ List.replicate 1 (Value.int .i64 v) ++ cur.toList.drop (0 + (List.replicate 1 (Value.int .i64 v)).length)).toArray) := ⟨rfl, rfl, rfl, by simp [World.setRow], fun i hi hf => setRow_other _ _ i _ (by omega)⟩
  have h4 := copied_at (k := 0) (m := 1) (u := .int .i64 v) hcs (fun i hi => absurd hi (by omega)) (by omega)
  generalize (w.alloc (.cells cur 3)).setRow w.heap.size (cur.toList.take 0 ++ List.replicate 1 (Value.int .i64 v) ++ cur.toList.drop (0 + (List.replicate 1 (Value.int .i64 v)).length)).toArray = w4 at hrun hh4 ht4
  rw [List.append_assoc] at hh4
  simp only [List.length_replicate] at hh4 hrun
  generalize (cur.toList.take 0 ++ (List.replicate 1 (Value.int .i64 v) ++ cur.toList.drop (0 + 1))).toArray = cs4 at hh4 h4
  go_wp2_with (first
    | (go_at_call 137; refine (mul_c p (by omega) _).mono ?_; rintro e w1 ⟨rfl, rfl⟩)
    | fail)
  have HH4 := hidp hh4
  have HB4 : Hid (Below w.heap.size w w4) := hidp (ht4.below (Bnew (B0 w) _) (fun i hi => by omega))
  have HS4 := hidp h4
  clear hh4 ht4 h4 hc0 hmk hrun
  go_loopw [8] (fun u wr => ∃ (k : Nat) (cs : Array Value), 1 ≤ k ∧ k ≤ p ∧ u = .int .i64 (k : Int) ∧ Hid (Held wr w.heap.size 3 cs) ∧ Hid (cs.size = p ∧ ∀ i, i < k → cs[i]? = some (.int .i64 v)) ∧ Hid (Below w.heap.size w wr)) (fun u _ => p - (intOf u).toNat)
  case atStart => exact ⟨1, cs4, by omega, by omega, rfl, HH4, HS4, HB4⟩
  case round =>
    clear HH4 HS4 HB4
    obtain ⟨k, cs, hk1, hk2, rfl, HH, HS, HB⟩ := hrel
    by_cases hl : k < p
    · obtain ⟨m, hm⟩ : ∃ m, min k (p - k) = m := ⟨_, rfl⟩
      have hmp : 1 ≤ m ∧ k + m ≤ p ∧ m ≤ k := by omega
      have HC := hidp (copied_at (m := m) HS.out.1 HS.out.2 (by omega))
      have HM : Hid (Nat.min k (p - k) = m) := hidp hm
      have hpk : ¬ p = k := by omega
      have sw : IntKind.i64.wrap ((k : Int) + m) = (k : Int) + m := by simp only [IntKind.wrap, IntKind.bits, IntKind.signed]; simp; omega
      have hle : decide ((k : Int) < p) = true := decide_eq_true (by omega)
      have HSRC : Hid (∀ (j : Nat) (y : Value), (List.replicate m (Value.int .i64 v))[j]? = some y → wr.drew.cell? ((⟨w.heap.size, 0, none⟩ : Addr).add j) = some y) := hidp (fun j y hy => by
        have hj : j < m := by
          rcases Nat.lt_or_ge j m with h | h
          · exact h
          · rw [List.getElem?_eq_none (by simpa using h)] at hy; cases hy
        rw [List.getElem?_replicate, if_pos hj] at hy
        have e : ((⟨w.heap.size, 0, none⟩ : Addr).add j) = ⟨w.heap.size, j, none⟩ := by
          unfold Addr.add
          by_cases hz : j = 0
          · rw [if_pos hz, hz]
          · rw [if_neg hz]; simp
        rw [e, ← hy]
        exact (HH.out.cell j).trans (HS.out.2 j (by omega)))
      clear hm
      go_wp2_with fail
      go_region_law (refine step_copy_at rfl (.tmp 41) (.tmp 44) 81 81 rfl 3 Tryz.underlying81 (by kernel_rfl) w.heap.size k (p - k) (p - k) ⟨w.heap.size, 0, none⟩ k p (by simp [Act.eval, Act.put, hpk]) (by simp [Act.eval, Act.put]) cs 3 HH.out (List.replicate m (.int .i64 v)) (by rw [List.length_replicate, HM.out]) HSRC.out (by rw [List.length_replicate, HS.out.1]; omega) (by intro v hv; rw [List.eq_of_mem_replicate hv]; rfl) ?_; intro w5 hh5 ht5)
      have HT5 := hidp ht5
      have hl5 : Held w5 w.heap.size 3 (cs.toList.take k ++ (List.replicate m (Value.int .i64 v) ++ cs.toList.drop (k + m))).toArray := by simpa using hh5
      have HH5 := hidp hl5
      clear ht5 hh5 hl5
      simp only [Act.put, List.getElem_toArray, List.getElem_cons_zero, List.getElem_cons_succ, List.setIfInBounds_toArray, List.set_cons_zero, List.set_cons_succ]
      go_wp2_with fail
      go_roundw
      case rel => exact ⟨k + m, _, by omega, by omega, by go_num, HH5, HC, hidp (HT5.out.below (Bdrew HB.out) (fun i hi => by omega))⟩
      case measure => simp [intOf]; omega
    · have hle : decide ((k : Int) < p) = false := decide_eq_false (by omega)
      have hkp : k = p := by omega
      subst hkp
      go_wp2_with fail
      go_ret
      exact ⟨_, cs, rfl, HH.out, HS.out.1, HS.out.2, Nat.le_refl _, HB.out⟩
end
end Go.Proofs.YtkbjckhbllmclaaGreatDoor
