/-
  Rule 4: no two free spans are side by side. Written by audit/gen_r4.py.
-/
import Derived.Test.YtbaofpdjfoaiiaaDoorAuditR2
namespace Go.Proofs.YtbaofpdjfoaiiaaDoor
open Go.ChangeShapes Go.WideShapes Go.ChangeAt Go.RowKit Go.Shelf
set_option linter.unusedVariables false
set_option linter.unusedSimpArgs false

namespace AuH
/-- rule 4 -/
def R4 (H : AuH) : Prop := ∀ q, H.At q → q < H.p → H.K q = 1 → H.nx q < H.p → H.K (H.nx q) ≠ 1
def R4to (H : AuH) (x : Nat) : Prop := ∀ q, H.At q → q < H.p → H.K q = 1 → H.nx q < x → H.K (H.nx q) ≠ 1
def Ahead (H : AuH) (x : Nat) : Prop := ∃ q, H.At q ∧ q < H.p ∧ H.nx q = x ∧ H.K q = 1
variable {H : AuH}
theorem R4to.step (ht : H.Tiled) {a : Nat} (h : H.R4to a) (ha : H.At a) (h0 : a < H.p) (hn : ¬ (H.K a = 1 ∧ H.Ahead a)) : H.R4to (H.nx a) := by
  intro q hq hqp hk hl hk2
  have hx := AuH.At.step hq (ht.at_can hq hqp)
  rcases Nat.lt_trichotomy (H.nx q) a with h1 | h1 | h1
  · exact h q hq hqp hk h1 hk2
  · exact hn ⟨by rw [← h1]; exact hk2, q, hq, hqp, h1, hk⟩
  · have := (At.next ha hx h1).2; omega
theorem Ahead.iff (ht : H.Tiled) {a : Nat} (ha : H.At a) (h0 : a < H.p) : H.K a = 1 ↔ H.Ahead (H.nx a) := by
  constructor
  · intro h; exact ⟨a, ha, h0, rfl, h⟩
  · rintro ⟨q, hq, hqp, he, hk⟩
    have h1 := H.nx_gt (ht.at_can ha h0)
    have h2 := H.nx_gt (ht.at_can hq hqp)
    rcases Nat.lt_trichotomy q a with h3 | h3 | h3
    · have := (At.next hq ha h3).2; omega
    · subst h3; exact hk
    · have := (At.next ha hq h3).2; omega
theorem Ahead.zero (ht : H.Tiled) : ¬ H.Ahead 0 := by
  rintro ⟨q, hq, hqp, he, hk⟩
  have := (H.nx_gt (ht.at_can hq hqp)).1
  omega
end AuH
section
attribute [local go_sem] Oper.semAt_some

set_option maxHeartbeats 1600000 in
theorem auHasFreeApart_c {H : AuH} {n c : Nat} (HV : HeapV H n c) (ht : H.Tiled) (ad : Addr) (b : Bool) (hb : b = true ↔ H.R4) (w : World) (hv : IsVals w ad n H.V) :
    Calls Tryd.prog 19 #[hpV H ad n c] w fun e w' => e = .returned (.bool b) ∧ Below w.heap.size w w' := by
  have HVL := hidp hv
  have HP : H.p ≤ 1024 := HV.nums.2.2.2.1
  refine calls_of_wp_mark Tryd.func19 rfl ?_
  unfold hpV
  simp only [Tryd.ntmps19, List.size_toArray, List.length_cons, List.length_nil, Nat.reduceAdd, Nat.reduceSub, Array.replicate_succ, Array.replicate_zero, List.push_toArray, List.append_toArray, List.nil_append, List.cons_append]
  have HX0 := hidp (((Held.new w 41 #[.int .i64 (H.t : Int), .int .i64 (H.p : Int), .int .i64 (H.s : Int), .slice (some ad) n c]).alloc (.cells #[.bool false] 4)).alloc (.cells #[.int .i64 0] 3))
  have HX1 := hidp ((Held.new (w.alloc (.cells #[.int .i64 (H.t : Int), .int .i64 (H.p : Int), .int .i64 (H.s : Int), .slice (some ad) n c] 41)) 4 #[.bool false]).alloc (.cells #[.int .i64 0] 3))
  rw [World.size_alloc] at HX1
  have HX2 := hidp (Held.new ((w.alloc (.cells #[.int .i64 (H.t : Int), .int .i64 (H.p : Int), .int .i64 (H.s : Int), .slice (some ad) n c] 41)).alloc (.cells #[.bool false] 4)) 3 #[.int .i64 0])
  rw [World.size_alloc, World.size_alloc] at HX2
  have HBW := hidp (Bnew (Bnew (Bnew (B0 w) (.cells #[.int .i64 (H.t : Int), .int .i64 (H.p : Int), .int .i64 (H.s : Int), .slice (some ad) n c] 41)) (.cells #[.bool false] 4)) (.cells #[.int .i64 0] 3))
  go_wp2_with fail
  generalize ((w.alloc (.cells #[.int .i64 (H.t : Int), .int .i64 (H.p : Int), .int .i64 (H.s : Int), .slice (some ad) n c] 41)).alloc (.cells #[.bool false] 4)).alloc (.cells #[.int .i64 0] 3) = W3 at *
  refine wp_seq (w0 := w) (gf := 13) (bound := #[hpV H ad n c]) (enc := encS H) (can := H.can) (next := H.nx) rfl (enters_of Tryd.func13 (by kernel_rfl) rfl) (auSpans_seq HV ad w HVL.out) HBW.out (fun _ => rfl)
    (fun pos F A => F = (fun i => i = (w.heap.size + 1) ∨ i = (w.heap.size + 1 + 1)) ∧ H.At pos ∧ H.R4to pos ∧ Held A w.heap.size 41 #[.int .i64 (H.t : Int), .int .i64 (H.p : Int), .int .i64 (H.s : Int), .slice (some ad) n c] ∧ Held A (w.heap.size + 1) 4 #[.bool false] ∧ (∃ a : Int, Held A (w.heap.size + 1 + 1) 3 #[.int .i64 a] ∧ (a = 1 ↔ H.Ahead pos)) ∧ Below w.heap.size w A)
    (fun c A => c = .ret ∧ b = false ∧ Held A (w.heap.size + 1) 4 #[.bool false] ∧ Below w.heap.size w A)
    ?hI ?hIx ?hIB ?hIF (F0 := (fun i => i = (w.heap.size + 1) ∨ i = (w.heap.size + 1 + 1))) ⟨rfl, .zero, fun q _ _ _ h => absurd h (by omega), HX0.out, HX1.out, ⟨0, HX2.out, ⟨fun h => absurd h (by omega), fun h => absurd h (AuH.Ahead.zero ht)⟩⟩, HBW.out⟩ ?round ?done ?stop
  case hI => rintro pos F A B ⟨h1, h2, h3, h4, h5, ⟨a, h6, h6'⟩, h7⟩ hm; exact ⟨h1, h2, h3, hm.held h4, hm.held h5, ⟨a, hm.held h6, h6'⟩, hm.below h7 HBW.out.size⟩
  case hIx => rintro c A B ⟨h1, h2, h3, h4⟩ hm; exact ⟨h1, h2, hm.held h3, hm.below h4 HBW.out.size⟩
  case hIB => rintro pos F A ⟨h1, h2, h3, h4, h5, h6, h7⟩; exact h7
  case hIF => rintro pos F A ⟨rfl, h2, h3, h4, h5, ⟨a, h6, h6'⟩, h7⟩ i (rfl | rfl); exact ⟨_, h5, rfl⟩; exact ⟨_, h6, rfl⟩
  case round =>
    rintro l pos F A hc ⟨rfl, hat, hr4, x0, x1, ⟨a, x2, ha⟩, hB⟩ hsz
    unfold encS
    gi_wp2_with fail
    refine ⟨Bnew (B0 A) _, fun A2 hM hs => ?_⟩
    have HN := hidp (hM.held (Held.new A 50 #[.int .i64 (H.K pos), .int .i64 (H.ln pos : Int), .int .i64 (H.Cl pos)]))
    have HX0 := hidp (hM.held (x0.alloc (.cells #[.int .i64 (H.K pos), .int .i64 (H.ln pos : Int), .int .i64 (H.Cl pos)] 50)))
    have HX1 := hidp (hM.held (x1.alloc (.cells #[.int .i64 (H.K pos), .int .i64 (H.ln pos : Int), .int .i64 (H.Cl pos)] 50)))
    have HX2 := hidp (hM.held (x2.alloc (.cells #[.int .i64 (H.K pos), .int .i64 (H.ln pos : Int), .int .i64 (H.Cl pos)] 50)))
    have HB := hidp (hM.below (Bnew hB (.cells #[.int .i64 (H.K pos), .int .i64 (H.ln pos : Int), .int .i64 (H.Cl pos)] 50)) HBW.out.size)
    have HAT := hidp hat
    have HR4 := hidp hr4
    have HA := hidp ha
    have HC := hidp hc
    obtain ⟨hlt, hk0, hle⟩ := (H.can_iff pos).1 hc
    have HLT := hidp hlt
    clear hM x0 x1 x2 hB hat hr4 ha hc hs hsz hk0 hle
    obtain ⟨c0, c1, c2, c3⟩ := HX0.out.four
    have d0 := HN.out.three.1
    obtain ⟨e1, e2⟩ := HX1.out.one
    obtain ⟨e3, e4⟩ := HX2.out.one
    obtain ⟨k, hkk⟩ : ∃ k, H.K pos = k := ⟨_, rfl⟩
    have HK := hidp hkk
    rw [hkk] at d0
    clear hkk
    have hend : ¬ (k = 1 ∧ a = 1) → seqPost
      (fun pos F A => F = (fun i => i = (w.heap.size + 1) ∨ i = (w.heap.size + 1 + 1)) ∧ H.At pos ∧ H.R4to pos ∧ Held A w.heap.size 41 #[.int .i64 (H.t : Int), .int .i64 (H.p : Int), .int .i64 (H.s : Int), .slice (some ad) n c] ∧ Held A (w.heap.size + 1) 4 #[.bool false] ∧ (∃ a : Int, Held A (w.heap.size + 1 + 1) 3 #[.int .i64 a] ∧ (a = 1 ↔ H.Ahead pos)) ∧ Below w.heap.size w A)
      (fun c A => c = .ret ∧ b = false ∧ Held A (w.heap.size + 1) 4 #[.bool false] ∧ Below w.heap.size w A) (H.nx pos) (fun i => i = (w.heap.size + 1) ∨ i = (w.heap.size + 1 + 1)) A.heap.size A2 .normal { tmps := #[], defers := [] } (A2.setCell ⟨(w.heap.size + 1 + 1), 0, none⟩ (.int .i64 k)) := fun hn => by
      have HT2 := (T0 (fun i => i = (w.heap.size + 1) ∨ i = (w.heap.size + 1 + 1)) A2).put (p := ⟨(w.heap.size + 1 + 1), 0, none⟩) (.inr rfl) (.int .i64 k)
      exact ⟨HT2, _, ⟨rfl, .step HAT.out HC.out, HR4.out.step ht HAT.out HLT.out (fun h => hn ⟨by rw [← HK.out]; exact h.1, HA.out.2 h.2⟩), HT2.held HX0.out (by omega), HX1.out.far (by simp) _, ⟨k, HX2.out.put1 _, by rw [← HK.out]; exact AuH.Ahead.iff ht HAT.out HLT.out⟩, HT2.below HB.out (by omega)⟩, fun i hi => .inl hi⟩
    have HEND := hidp hend
    clear hend
    by_cases h1 : k = 1
    · subst h1
      by_cases h2 : a = 1
      · subst h2
        clear HEND
        gi_wp2_with fail
        have HT5 := (T0 (fun i => i = (w.heap.size + 1) ∨ i = (w.heap.size + 1 + 1)) A2).put (p := ⟨(w.heap.size + 1), 0, none⟩) (.inl rfl) (.bool false)
        refine ⟨HT5, rfl, bool_no hb (fun h => ?_), HX1.out.put1 _, HT5.below HB.out (by omega)⟩
        obtain ⟨q, hq, hqp, he, hk⟩ := HA.out.1 (by first | trivial | rfl)
        exact h q hq hqp hk (by rw [he]; exact HLT.out) (by rw [he]; exact HK.out)
      · have t0 : (a == 1) = false := by simpa using h2
        gi_wp2_with fail
        exact HEND.out (fun h => h2 h.2)
    · have t0 : (k == 1) = false := by simpa using h1
      gi_wp2_with fail
      exact HEND.out (fun h => h1 h.1)
  case done =>
    rintro D pos F A hD hc ⟨rfl, hat, hr4, x0, x1, x2, hB⟩ hk
    have HDN : Hid ((w.heap.size + 1) < D ∧ w.heap.size ≤ D) := hidp (by have := HX1.out.lt; omega)
    have hpe : pos = H.p := by
      rw [ht.can_eq hat] at hc
      have := hat.le
      have := of_decide_eq_false hc
      omega
    subst hpe
    obtain rfl : b = true := bool_yes hb hr4
    have HK := hidp hk
    have HXR := hidp x1
    have HB := hidp hB
    obtain ⟨g1, f1⟩ := x1.one
    clear hk x0 x1 x2 hB hD hat hc hr4
    go_wp2_with fail
    refine mark_end rfl ((Below.heap_setCell _ _ _ _ (by have := HDN.out; simp; omega)).trans HK.out) ?_
    have z1 := (HXR.out.put1 (.bool true)).shut (o' := .deferred none) ((Below.heap_setCell A ⟨(w.heap.size + 1), 0, none⟩ (.bool true) _ (by have := HDN.out; simp; omega)).trans HK.out) rfl
    obtain ⟨z2, z3⟩ := z1.one
    refine bodyPost_ret (v := .bool true) (by simp [results, Tryd.results19, go_sem, z2]) rfl ⟨rfl, ?_⟩
    exact shutB (Bput HB.out (by simp) _) ((Below.heap_setCell A ⟨(w.heap.size + 1), 0, none⟩ (.bool true) _ (by have := HDN.out; simp; omega)).trans HK.out) rfl HDN.out.2
  case stop =>
    rintro D c A hD ⟨rfl, hb0, x1, hB⟩ hk
    have HDN : Hid (w.heap.size ≤ D) := hidp (by have := HX1.out.lt; omega)
    go_wp2_with fail
    refine mark_end rfl hk ?_
    obtain ⟨z2, z3⟩ := (x1.shut (o' := .deferred none) hk rfl).one
    rw [hb0]
    refine bodyPost_ret (v := .bool false) (by simp [results, Tryd.results19, go_sem, z2]) rfl ⟨rfl, ?_⟩
    exact shutB hB hk rfl HDN.out
end
end Go.Proofs.YtbaofpdjfoaiiaaDoor
