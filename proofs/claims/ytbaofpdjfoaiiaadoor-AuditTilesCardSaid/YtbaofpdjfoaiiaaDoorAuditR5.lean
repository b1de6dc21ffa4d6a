/-
  Rule 5: the bits of slots. Written by audit/gen_r5.py.
-/
import Derived.Test.YtbaofpdjfoaiiaaDoorAuditR2
namespace Go.Proofs.YtbaofpdjfoaiiaaDoor
open Go.ChangeShapes Go.WideShapes Go.ChangeAt Go.RowKit Go.Shelf
set_option linter.unusedVariables false
set_option linter.unusedSimpArgs false

/-- each bit of a is one of b -/
def SubB (a b : Nat) : Prop := ∀ i, i < 32 → a.testBit i = true → b.testBit i = true
theorem andNot_zero (a b : Nat) (ha : a < 2 ^ 32) (hb : b < 2 ^ 32) : a &&& (4294967295 - b) = 0 ↔ SubB a b := by
  have hbit : ∀ i, i < 32 → (4294967295 - b).testBit i = !(b.testBit i) := fun i hi => by
    have e : 4294967295 - b = 2 ^ 32 - (b + 1) := by omega
    rw [e, Nat.testBit_two_pow_sub_succ hb]
    simp [hi]
  constructor
  · intro h i hi hai
    have := congrArg (fun x => x.testBit i) h
    simp only [Nat.testBit_and, Nat.zero_testBit, hbit i hi, hai, Bool.true_and, Bool.not_eq_false'] at this
    exact this
  · intro h
    apply Nat.eq_of_testBit_eq
    intro i
    rw [Nat.testBit_and, Nat.zero_testBit]
    rcases Nat.lt_or_ge i 32 with hi | hi
    · rw [hbit i hi]
      cases hai : a.testBit i
      · rfl
      · rw [h i hi hai]; rfl
    · rw [Nat.testBit_lt_two_pow (Nat.lt_of_lt_of_le ha (Nat.pow_le_pow_right (by omega) hi))]; rfl
theorem sub_mask (a n : Nat) (ha : a < 2 ^ 32) (hn : n ≤ 32) : SubB a (2 ^ n - 1) ↔ a < 2 ^ n := by
  constructor
  · intro h
    apply Nat.lt_pow_two_of_testBit
    intro i hi
    rcases Nat.lt_or_ge i 32 with h2 | h2
    · cases hai : a.testBit i
      · rfl
      · have := h i h2 hai
        rw [Nat.testBit_two_pow_sub_one] at this
        have := of_decide_eq_true this
        omega
    · exact Nat.testBit_lt_two_pow (Nat.lt_of_lt_of_le ha (Nat.pow_le_pow_right (by omega) h2))
  · intro h i hi hai
    rw [Nat.testBit_two_pow_sub_one]
    rcases Nat.lt_or_ge i n with h2 | h2
    · exact decide_eq_true h2
    · rw [Nat.testBit_lt_two_pow (Nat.lt_of_lt_of_le h (Nat.pow_le_pow_right (by omega) h2))] at hai; cases hai
theorem sub_zero (a : Nat) (ha : a < 2 ^ 32) : SubB a 0 ↔ a = 0 := by
  have := sub_mask a 0 ha (by omega)
  simpa using this
theorem mask_lt32 (n : Nat) (hn : n ≤ 32) : 2 ^ n - 1 < 2 ^ 32 := by
  have : (2 : Nat) ^ n ≤ 2 ^ 32 := Nat.pow_le_pow_right (by omega) hn
  omega

namespace AuH
def Slot5 (H : AuH) (q : Nat) : Prop := (H.K q = 3 → H.cel q 5 ≠ 0 ∧ H.cel q 5 < 2 ^ slotI (H.Cl q) ∧ SubB (H.cel q 4) (H.cel q 5)) ∧ (H.K q ≠ 3 → H.cel q 5 = 0 ∧ H.cel q 4 = 0)
/-- rule 5 -/
def R5 (H : AuH) : Prop := ∀ q, q < H.p → H.Slot5 q
/-- the bits that may be taken in pages of a span -/
def may (H : AuH) (q : Nat) : Nat := if H.K q = 3 then 2 ^ slotI (H.Cl q) - 1 else 0
variable {H : AuH}
theorem slot5_in (ht : H.Tiled) {a q : Nat} (ha : H.At a) (h0 : a < H.p) (h1 : a ≤ q) (h2 : q < H.nx a) {m : Nat} (hm : H.may a = m) (hc : H.cel q 5 < 2 ^ 32) (hs : H.K a = 3 → H.cel a 5 ≠ 0) (h3 : SubB (H.cel q 5) m) (h4 : SubB (H.cel q 4) (H.cel q 5)) (hc4 : H.cel q 4 < 2 ^ 32) : H.Slot5 q := by
  by_cases hk : H.K a = 3
  · have hl : H.ln a = 1 := by have := H.K_cases a; omega
    have : q = a := by unfold nx at h2; omega
    subst this
    unfold may at hm
    rw [if_pos hk] at hm
    subst hm
    exact ⟨fun _ => ⟨hs hk, (sub_mask _ _ hc (slotI_le _)).1 h3, h4⟩, fun h => absurd hk h⟩
  · have hkq : H.K q ≠ 3 := by
      rcases Nat.eq_or_lt_of_le h1 with h5 | h5
      · subst h5; exact hk
      · rw [ht.inside ha h0 h5 h2]; omega
    unfold may at hm
    rw [if_neg hk] at hm
    subst hm
    have h5 := (sub_zero _ hc).1 h3
    rw [h5] at h4
    exact ⟨fun h => absurd h hkq, fun _ => ⟨h5, (sub_zero _ hc4).1 h4⟩⟩
theorem slot5_out (ht : H.Tiled) {a q : Nat} (ha : H.At a) (h0 : a < H.p) (h1 : a ≤ q) (h2 : q < H.nx a) {m : Nat} (hm : H.may a = m) (hc : H.cel q 5 < 2 ^ 32) (hc4 : H.cel q 4 < 2 ^ 32) (h : H.Slot5 q) : SubB (H.cel q 5) m ∧ SubB (H.cel q 4) (H.cel q 5) := by
  by_cases hk : H.K a = 3
  · have hl : H.ln a = 1 := by have := H.K_cases a; omega
    have : q = a := by unfold nx at h2; omega
    subst this
    unfold may at hm
    rw [if_pos hk] at hm
    subst hm
    obtain ⟨e1, e2, e3⟩ := h.1 hk
    exact ⟨(sub_mask _ _ hc (slotI_le _)).2 e2, e3⟩
  · have hkq : H.K q ≠ 3 := by
      rcases Nat.eq_or_lt_of_le h1 with h5 | h5
      · subst h5; exact hk
      · rw [ht.inside ha h0 h5 h2]; omega
    unfold may at hm
    rw [if_neg hk] at hm
    subst hm
    obtain ⟨e1, e2⟩ := h.2 hkq
    rw [e1, e2]
    exact ⟨(sub_zero 0 (by omega)).2 rfl, (sub_zero 0 (by omega)).2 rfl⟩
end AuH
section
attribute [local go_sem] Oper.semAt_some

set_option maxHeartbeats 6400000 in
set_option maxRecDepth 100000 in
theorem auHasSlots_c {H : AuH} {n c : Nat} (HV : HeapV H n c) (ht : H.Tiled) (ad : Addr) (b : Bool) (hb : b = true ↔ H.R5) (w : World) (hv : IsVals w ad n H.V) (hT : SlotsLaid w) :
    Calls Tryd.prog 20 #[hpV H ad n c] w fun e w' => e = .returned (.bool b) ∧ Below w.heap.size w w' := by
  have HTL := hidp hT
  have HVL := hidp hv
  have HP : H.p ≤ 1024 := HV.nums.2.2.2.1
  refine calls_of_wp_mark Tryd.func20 rfl ?_
  unfold hpV
  simp only [Tryd.ntmps20, List.size_toArray, List.length_cons, List.length_nil, Nat.reduceAdd, Nat.reduceSub, Array.replicate_succ, Array.replicate_zero, List.push_toArray, List.append_toArray, List.nil_append, List.cons_append]
  have HX0 := hidp ((Held.new w 41 #[.int .i64 (H.t : Int), .int .i64 (H.p : Int), .int .i64 (H.s : Int), .slice (some ad) n c]).alloc (.cells #[.bool false] 4))
  have HX1 := hidp (Held.new (w.alloc (.cells #[.int .i64 (H.t : Int), .int .i64 (H.p : Int), .int .i64 (H.s : Int), .slice (some ad) n c] 41)) 4 #[.bool false])
  rw [World.size_alloc] at HX1
  have HBW := hidp (Bnew (Bnew (B0 w) (.cells #[.int .i64 (H.t : Int), .int .i64 (H.p : Int), .int .i64 (H.s : Int), .slice (some ad) n c] 41)) (.cells #[.bool false] 4))
  go_wp2_with fail
  generalize (w.alloc (.cells #[.int .i64 (H.t : Int), .int .i64 (H.p : Int), .int .i64 (H.s : Int), .slice (some ad) n c] 41)).alloc (.cells #[.bool false] 4) = W3 at *
  refine wp_seq (w0 := w) (gf := 13) (bound := #[hpV H ad n c]) (enc := encS H) (can := H.can) (next := H.nx) rfl (enters_of Tryd.func13 (by kernel_rfl) rfl) (auSpans_seq HV ad w HVL.out) HBW.out (fun _ => rfl)
    (fun pos F A => F = (fun i => i = (w.heap.size + 1)) ∧ H.At pos ∧ (∀ q, q < pos → H.Slot5 q) ∧ Held A w.heap.size 41 #[.int .i64 (H.t : Int), .int .i64 (H.p : Int), .int .i64 (H.s : Int), .slice (some ad) n c] ∧ Held A (w.heap.size + 1) 4 #[.bool false] ∧ Below w.heap.size w A)
    (fun c A => c = .ret ∧ b = false ∧ Held A (w.heap.size + 1) 4 #[.bool false] ∧ Below w.heap.size w A)
    ?hI ?hIx ?hIB ?hIF (F0 := (fun i => i = (w.heap.size + 1))) ⟨rfl, .zero, fun q h => absurd h (by omega), HX0.out, HX1.out, HBW.out⟩ ?round ?done ?stop
  case hI => rintro pos F A B ⟨h1, h2, h3, h4, h5, h7⟩ hm; exact ⟨h1, h2, h3, hm.held h4, hm.held h5, hm.below h7 HBW.out.size⟩
  case hIx => rintro c A B ⟨h1, h2, h3, h4⟩ hm; exact ⟨h1, h2, hm.held h3, hm.below h4 HBW.out.size⟩
  case hIB => rintro pos F A ⟨h1, h2, h3, h4, h5, h7⟩; exact h7
  case hIF => rintro pos F A ⟨rfl, h2, h3, h4, h5, h7⟩ i rfl; exact ⟨_, h5, rfl⟩
  case round =>
    rintro l pos F A hc ⟨rfl, hat, hft, x0, x1, hB⟩ hsz
    unfold encS
    have HAL : Hid ((w.heap.size + 1) < A.heap.size) := hidp x1.lt
    gi_wp2_with fail
    refine ⟨Bnew (B0 A) _, fun A2 hM hs => ?_⟩
    have HN := hidp (hM.held (Held.new A 50 #[.int .i64 (H.K pos), .int .i64 (H.ln pos : Int), .int .i64 (H.Cl pos)]))
    have HX0 := hidp (hM.held (x0.alloc (.cells #[.int .i64 (H.K pos), .int .i64 (H.ln pos : Int), .int .i64 (H.Cl pos)] 50)))
    have HX1 := hidp (hM.held (x1.alloc (.cells #[.int .i64 (H.K pos), .int .i64 (H.ln pos : Int), .int .i64 (H.Cl pos)] 50)))
    have HB := hidp (hM.below (Bnew hB (.cells #[.int .i64 (H.K pos), .int .i64 (H.ln pos : Int), .int .i64 (H.Cl pos)] 50)) HBW.out.size)
    have HAT := hidp hat
    have HFT := hidp hft
    have HC := hidp hc
    obtain ⟨hlt, hk0, hle⟩ := (H.can_iff pos).1 hc
    have hm := H.ln_pos pos hk0
    have HNX : Hid (H.nx pos = pos + H.ln pos) := hidp rfl
    have HLT := hidp hlt
    clear hM x0 x1 hB hat hft hc hs hsz
    obtain ⟨c0, c1, c2, c3⟩ := HX0.out.four
    obtain ⟨d0, d1, d2⟩ := HN.out.three
    obtain ⟨m, hmm⟩ : ∃ m, H.ln pos = m := ⟨_, rfl⟩
    obtain ⟨y, hyy⟩ : ∃ y, H.may pos = y := ⟨_, rfl⟩
    have HY := hidp hyy
    obtain ⟨k, hkk⟩ : ∃ k, H.K pos = k := ⟨_, rfl⟩
    have HK := hidp hkk
    have hcl := H.K_cases pos
    rw [hmm] at hm hle d1 HNX HN
    rw [hkk] at d0 HN
    have hyl : y < 2 ^ 32 := by
      rw [← hyy]; unfold AuH.may; split
      · exact mask_lt32 _ (slotI_le _)
      · omega
    by_cases h3 : k = 3
    · subst h3
      have hmay : 2 ^ slotI (H.Cl pos) - 1 = y := by rw [← hyy]; unfold AuH.may; rw [if_pos hkk]
      have hc1 : 0 ≤ H.Cl pos ∧ H.Cl pos ≤ 8 := by omega
      have HCS : Hid (∀ W, SlotsLaid W → Calls Tryd.prog 38 #[.int .i64 (H.Cl pos)] W fun e w' => e = .returned (.int .u32 ((y : Nat) : Int)) ∧ W = w') := hidp (fun W h => by
        have := auSlotBits_c (H.Cl pos) (by omega) (by omega) W h
        rw [hmay] at this
        exact this)
      have HTL2 := hidp (HTL.out.below HB.out)
      have HV2 := hidp (HVL.out.below HB.out)
      obtain ⟨tp, htp⟩ : ∃ tp, H.cel pos 5 = tp := ⟨_, rfl⟩
      have HTP := hidp htp
      clear hcl hmay hyy hkk hmm hk0
      generalize H.Cl pos = cl at *
      by_cases h0 : tp = 0
      · have t0 : ((tp : Int) == 0) = true := by simp; omega
        gi_wp2_with (first
          | (refine ⟨trivial, rfl, ?_⟩; gi_at_call 38; refine (calls_in (HCS.out _ HTL2.out)).mono ?_; rintro e w7 ⟨rfl, rfl⟩)
          | (refine ⟨trivial, rfl, ?_⟩; gi_at_call 27; refine (calls_in (auAt_Taken_c HV ad HLT.out _ HV2.out)).mono ?_; rintro e w8 ⟨rfl, hb8⟩; rw [HTP.out]; have HT8 := hidp (Turns.of_below hb8 (fun i => i = (w.heap.size + 1))); have HY8 := hidp (HX1.out.keep hb8); clear hb8; obtain ⟨e1, e2⟩ := HY8.out.one)
          | fail)
        have HT6 := hidp (HT8.out.put (p := ⟨(w.heap.size + 1), 0, none⟩) rfl (.bool false))
        exact ⟨HT6.out, rfl, bool_no hb (fun h => ((h pos HLT.out).1 HK.out).1 (by rw [HTP.out]; exact h0)), HY8.out.put1 _, HT6.out.below HB.out (by omega)⟩
      · have t0 : ((tp : Int) == 0) = false := by simp; omega
        have HS0 : Hid (H.K pos = 3 → H.cel pos 5 ≠ 0) := hidp (fun _ => by rw [HTP.out]; exact h0)
        gi_wp2_with (first
          | (refine ⟨trivial, rfl, ?_⟩; gi_at_call 38; refine (calls_in (HCS.out _ HTL2.out)).mono ?_; rintro e w7 ⟨rfl, rfl⟩)
          | (refine ⟨trivial, rfl, ?_⟩; gi_at_call 27; refine (calls_in (auAt_Taken_c HV ad HLT.out _ HV2.out)).mono ?_; rintro e w8 ⟨rfl, hb8⟩; rw [HTP.out]; have HTS := hidp (Turns.of_below hb8 (fun i => i = (w.heap.size + 1))); have HXS := hidp (HX1.out.keep hb8); clear hb8)
          | fail)
        gi_loopw [6] (fun u wr => ∃ q : Nat, u = .int .i64 (q : Int) ∧ pos ≤ q ∧ q ≤ pos + m ∧ Hid (∀ r, pos ≤ r → r < q → H.Slot5 r) ∧ Hid (Turns (fun i => i = (w.heap.size + 1)) A2 wr) ∧ Hid (Held wr (w.heap.size + 1) 4 #[.bool false])) (fun u _ => pos + m - (intOf u).toNat)
        case atStart => exact ⟨pos, rfl, by omega, by omega, hidp (fun r h1 h2 => by omega), HTS, HXS⟩
        case round =>
          clear HTS HXS
          obtain ⟨q, rfl, hq1, hq2, HZ, HT, HY1⟩ := hrel
          have HQ0 := hidp (HT.out.held HX0.out (by omega))
          have HQN := hidp (HT.out.held HN.out (by have := HAL.out; omega))
          have HBR := hidp (HT.out.below HB.out (by omega))
          obtain ⟨c0, c1, c2, c3⟩ := HQ0.out.four
          have d1 := HQN.out.three.2.1
          have HVR := hidp (HVL.out.below HBR.out)
          by_cases hl : q < pos + m
          · have HQX : Hid (q < H.nx pos) := hidp (by rw [HNX.out]; omega)
            obtain ⟨tk, htk⟩ : ∃ tk, H.cel q 5 = tk := ⟨_, rfl⟩
            obtain ⟨sl, hsl⟩ : ∃ sl, H.cel q 4 = sl := ⟨_, rfl⟩
            have ht5 := HV.cel_lt (show q < H.p by omega) (show 5 < 6 by omega)
            have ht4 := HV.cel_lt (show q < H.p by omega) (show 4 < 6 by omega)
            have HI5 := hidp (fun h1 h2 => AuH.slot5_in ht HAT.out HLT.out hq1 HQX.out HY.out ht5 HS0.out h1 h2 ht4)
            have HO5 := hidp (AuH.slot5_out ht HAT.out HLT.out hq1 HQX.out HY.out ht5 ht4)
            have HET := hidp htk
            have HES := hidp hsl
            rw [htk, hsl] at HI5 HO5
            rw [htk] at ht5
            rw [hsl] at ht4
            have b1 := u32_andNot_nat tk y ht5 hyl
            have b2 := u32_andNot_nat sl tk ht4 ht5
            have z1 := andNot_zero tk y ht5 hyl
            have z2 := andNot_zero sl tk ht4 ht5
            have HZ1 := hidp z1
            have HZ2 := hidp z2
            generalize tk &&& (4294967295 - y) = x1 at *
            generalize sl &&& (4294967295 - tk) = x2 at *
            clear htk hsl z1 z2
            gi_wp2_with fail
            refine wp_region_round (S := (fun w' => w'.cell? ⟨w.heap.size, 0, none⟩ = some (.int .i64 (H.t : Int)) ∧ w'.cell? ⟨w.heap.size, 1, none⟩ = some (.int .i64 (H.p : Int)) ∧ w'.cell? ⟨w.heap.size, 2, none⟩ = some (.int .i64 (H.s : Int)) ∧ w'.cell? ⟨w.heap.size, 3, none⟩ = some (.slice (some ad) n c))) (by kernel_rfl) (by kernel_rfl) (fun _ _ h => h) ?_ (fun hHeld => ?_)
            · (try dsimp only)
              first | exact HQ0.out.drew.four | exact HQ5.out.four | exact HQ4.out.four | exact hHeld
            refine wpAnyH_take (i := 0) (oi := _) (v := ?_) rfl (by kernel_rfl) (by kernel_rfl) (by kernel_rfl) (fun _ _ _ h => h) (Or.inl ⟨by rfl, ?_⟩) (by assumption) ?_
            rotate_left
            · intro w hSw; (try dsimp only at hSw); go_simp; (try with_reducible rfl)
            (try simp only [Act.put, List.getElem_toArray, List.getElem_cons_zero, List.getElem_cons_succ, List.setIfInBounds_toArray, List.set_cons_zero, List.set_cons_succ])
            refine wpAnyH_take (i := 1) (oi := _) (v := ?_) rfl (by kernel_rfl) (by kernel_rfl) (by kernel_rfl) (fun _ _ _ h => h) (Or.inl ⟨by rfl, ?_⟩) (by assumption) ?_
            rotate_left
            · intro w hSw; (try dsimp only at hSw); go_simp; (try with_reducible rfl)
            (try simp only [Act.put, List.getElem_toArray, List.getElem_cons_zero, List.getElem_cons_succ, List.setIfInBounds_toArray, List.set_cons_zero, List.set_cons_succ])
            refine wpAnyH_take (i := 3) (oi := _) (v := ?_) rfl (by kernel_rfl) (by kernel_rfl) (by kernel_rfl) (fun _ _ _ h => h) (Or.inl ⟨by rfl, ?_⟩) (by assumption) ?_
            rotate_left
            · intro w hSw; (try dsimp only at hSw); go_simp; (try with_reducible rfl)
            (try simp only [Act.put, List.getElem_toArray, List.getElem_cons_zero, List.getElem_cons_succ, List.setIfInBounds_toArray, List.set_cons_zero, List.set_cons_succ])
            refine wpAnyH_take (i := 4) (oi := _) (v := ?_) rfl (by kernel_rfl) (by kernel_rfl) (by kernel_rfl) (fun _ _ _ h => h) (Or.inl ⟨by rfl, ?_⟩) (by assumption) ?_
            rotate_left
            · intro w hSw; (try dsimp only at hSw); go_simp; (try with_reducible rfl)
            (try simp only [Act.put, List.getElem_toArray, List.getElem_cons_zero, List.getElem_cons_succ, List.setIfInBounds_toArray, List.set_cons_zero, List.set_cons_succ])
            refine wpAnyH_ready (rs := [2]) (by kernel_rfl) (by simp) ?_
            refine AllReadyH.cons (o := _) rfl (fun K hK => ?_) AllReadyH.nil
            go_simp
            (go_at_call 27; refine (auAt_Taken_c HV ad (show q < H.p by omega) _ HVR.out.drew).mono ?_; rintro e w4 ⟨rfl, hb4⟩; rw [HET.out]; have HQ4 := hidp (HQ0.out.drew.keep hb4); have HT4 := hidp (HT.out.drew.trans (Turns.of_below hb4 _)); have HY4 := hidp (HY1.out.drew.keep hb4); have HV4 := hidp (HVR.out.drew.below hb4); clear hb4)
            refine hK.out _ _ ?_ (fun hHeld => ?_)
            · (try dsimp only)
              first | exact HQ0.out.drew.four | exact HQ5.out.four | exact HQ4.out.four | exact hHeld
            clear hK K
            (try simp only [Act.put, List.getElem_toArray, List.getElem_cons_zero, List.getElem_cons_succ, List.setIfInBounds_toArray, List.set_cons_zero, List.set_cons_succ])
            refine wpAnyH_ready (rs := [5]) (by kernel_rfl) (by simp) ?_
            refine AllReadyH.cons (o := _) rfl (fun K hK => ?_) AllReadyH.nil
            go_simp
            (go_at_call 27; refine (auAt_Slots_c HV ad (show q < H.p by omega) _ HV4.out).mono ?_; rintro e w5 ⟨rfl, hb5⟩; rw [HES.out]; have HQ5 := hidp (HQ4.out.keep hb5); have HT5 := hidp (HT4.out.trans (Turns.of_below hb5 _)); have HY5 := hidp (HY4.out.keep hb5); clear hb5)
            refine hK.out _ _ ?_ (fun hHeld => ?_)
            · (try dsimp only)
              first | exact HQ0.out.drew.four | exact HQ5.out.four | exact HQ4.out.four | exact hHeld
            clear hK K
            (try simp only [Act.put, List.getElem_toArray, List.getElem_cons_zero, List.getElem_cons_succ, List.setIfInBounds_toArray, List.set_cons_zero, List.set_cons_succ])
            refine wpAnyH_take (i := 6) (oi := _) (v := ?_) rfl (by kernel_rfl) (by kernel_rfl) (by kernel_rfl) (fun _ _ _ h => h) (Or.inl ⟨by rfl, ?_⟩) (by assumption) ?_
            rotate_left
            · intro w hSw; (try dsimp only at hSw); go_simp; (try with_reducible rfl)
            (try simp only [Act.put, List.getElem_toArray, List.getElem_cons_zero, List.getElem_cons_succ, List.setIfInBounds_toArray, List.set_cons_zero, List.set_cons_succ])
            refine wpAnyH_take (i := 7) (oi := _) (v := ?_) rfl (by kernel_rfl) (by kernel_rfl) (by kernel_rfl) (fun _ _ _ h => h) (Or.inl ⟨by rfl, ?_⟩) (by assumption) ?_
            rotate_left
            · intro w hSw; (try dsimp only at hSw); go_simp; (try with_reducible rfl)
            (try simp only [Act.put, List.getElem_toArray, List.getElem_cons_zero, List.getElem_cons_succ, List.setIfInBounds_toArray, List.set_cons_zero, List.set_cons_succ])
            refine wpAnyH_done (by kernel_rfl) ?_ _
            obtain ⟨c0, c1, c2, c3⟩ := HQ5.out.four
            obtain ⟨e1, e2⟩ := HY5.out.one
            by_cases h1 : x1 = 0
            · by_cases h2 : x2 = 0
              · have t1 : ((x1 : Int) != 0) = false := by simp; omega
                have t2 : ((x2 : Int) != 0) = false := by simp; omega
                gi_wp2_with fail
                go_roundw
                case rel => exact ⟨q + 1, by go_num, by omega, by omega, hidp (fun r h3 h4 => by
                  rcases Nat.lt_or_ge r q with h5 | h5
                  · exact HZ.out r h3 h5
                  · have : r = q := by omega
                    subst this; exact HI5.out (HZ1.out.1 h1) (HZ2.out.1 h2)), HT5, HY5⟩
                case measure => simp [intOf]; omega
              · have t1 : ((x1 : Int) != 0) = false := by simp; omega
                have t2 : ((x2 : Int) != 0) = true := by simp; omega
                gi_wp2_with fail
                have HT6 := hidp (HT5.out.put (p := ⟨(w.heap.size + 1), 0, none⟩) rfl (.bool false))
                exact ⟨HT6.out, rfl, bool_no hb (fun h => h2 (HZ2.out.2 (HO5.out (h q (by omega))).2)), HY5.out.put1 _, HT6.out.below HB.out (by omega)⟩
            · have t1 : ((x1 : Int) != 0) = true := by simp; omega
              gi_wp2_with fail
              have HT6 := hidp (HT5.out.put (p := ⟨(w.heap.size + 1), 0, none⟩) rfl (.bool false))
              exact ⟨HT6.out, rfl, bool_no hb (fun h => h1 (HZ1.out.2 (HO5.out (h q (by omega))).1)), HY5.out.put1 _, HT6.out.below HB.out (by omega)⟩
          · have hqe : q = pos + m := by omega
            have t9 : decide ((q : Int) < (pos : Int) + m) = false := decide_eq_false (by omega)
            gi_wp2_with fail
            exact ⟨HT.out, _, ⟨rfl, .step HAT.out HC.out, fun r h1 => by
              rw [HNX.out] at h1
              rcases Nat.lt_or_ge r pos with h2 | h2
              · exact HFT.out r h2
              · exact HZ.out r h2 (by omega), HQ0.out, HY1.out, HBR.out⟩, fun i hi => .inl hi⟩

    · have t0 : (k == 3) = false := by simpa using h3
      have hy0 : y = 0 := by rw [← hyy]; unfold AuH.may; rw [if_neg (by rw [hkk]; exact h3)]
      subst hy0
      have HS0 : Hid (H.K pos = 3 → H.cel pos 5 ≠ 0) := hidp (fun h => absurd (HK.out.symm.trans h) h3)
      have HTS := hidp (T0 (fun i => i = (w.heap.size + 1)) A2)
      have HXS := HX1
      clear hcl hyy hkk hmm hk0
      gi_wp2_with fail
      gi_loopw [6] (fun u wr => ∃ q : Nat, u = .int .i64 (q : Int) ∧ pos ≤ q ∧ q ≤ pos + m ∧ Hid (∀ r, pos ≤ r → r < q → H.Slot5 r) ∧ Hid (Turns (fun i => i = (w.heap.size + 1)) A2 wr) ∧ Hid (Held wr (w.heap.size + 1) 4 #[.bool false])) (fun u _ => pos + m - (intOf u).toNat)
      case atStart => exact ⟨pos, rfl, by omega, by omega, hidp (fun r h1 h2 => by omega), HTS, HXS⟩
      case round =>
        clear HTS HXS
        obtain ⟨q, rfl, hq1, hq2, HZ, HT, HY1⟩ := hrel
        have HQ0 := hidp (HT.out.held HX0.out (by omega))
        have HQN := hidp (HT.out.held HN.out (by have := HAL.out; omega))
        have HBR := hidp (HT.out.below HB.out (by omega))
        obtain ⟨c0, c1, c2, c3⟩ := HQ0.out.four
        have d1 := HQN.out.three.2.1
        have HVR := hidp (HVL.out.below HBR.out)
        by_cases hl : q < pos + m
        · have HQX : Hid (q < H.nx pos) := hidp (by rw [HNX.out]; omega)
          obtain ⟨tk, htk⟩ : ∃ tk, H.cel q 5 = tk := ⟨_, rfl⟩
          obtain ⟨sl, hsl⟩ : ∃ sl, H.cel q 4 = sl := ⟨_, rfl⟩
          have ht5 := HV.cel_lt (show q < H.p by omega) (show 5 < 6 by omega)
          have ht4 := HV.cel_lt (show q < H.p by omega) (show 4 < 6 by omega)
          have HI5 := hidp (fun h1 h2 => AuH.slot5_in ht HAT.out HLT.out hq1 HQX.out HY.out ht5 HS0.out h1 h2 ht4)
          have HO5 := hidp (AuH.slot5_out ht HAT.out HLT.out hq1 HQX.out HY.out ht5 ht4)
          have HET := hidp htk
          have HES := hidp hsl
          rw [htk, hsl] at HI5 HO5
          rw [htk] at ht5
          rw [hsl] at ht4
          have b1 : bits .andNot .u32 (tk : Int) 0 = ((tk &&& (4294967295 - 0) : Nat) : Int) := u32_andNot_nat tk 0 ht5 hyl
          have b2 := u32_andNot_nat sl tk ht4 ht5
          have z1 := andNot_zero tk 0 ht5 hyl
          have z2 := andNot_zero sl tk ht4 ht5
          have HZ1 := hidp z1
          have HZ2 := hidp z2
          generalize tk &&& (4294967295 - 0) = x1 at *
          generalize sl &&& (4294967295 - tk) = x2 at *
          clear htk hsl z1 z2
          gi_wp2_with fail
          refine wp_region_round (S := (fun w' => w'.cell? ⟨w.heap.size, 0, none⟩ = some (.int .i64 (H.t : Int)) ∧ w'.cell? ⟨w.heap.size, 1, none⟩ = some (.int .i64 (H.p : Int)) ∧ w'.cell? ⟨w.heap.size, 2, none⟩ = some (.int .i64 (H.s : Int)) ∧ w'.cell? ⟨w.heap.size, 3, none⟩ = some (.slice (some ad) n c))) (by kernel_rfl) (by kernel_rfl) (fun _ _ h => h) ?_ (fun hHeld => ?_)
          · (try dsimp only)
            first | exact HQ0.out.drew.four | exact HQ5.out.four | exact HQ4.out.four | exact hHeld
          refine wpAnyH_take (i := 0) (oi := _) (v := ?_) rfl (by kernel_rfl) (by kernel_rfl) (by kernel_rfl) (fun _ _ _ h => h) (Or.inl ⟨by rfl, ?_⟩) (by assumption) ?_
          rotate_left
          · intro w hSw; (try dsimp only at hSw); go_simp; (try with_reducible rfl)
          (try simp only [Act.put, List.getElem_toArray, List.getElem_cons_zero, List.getElem_cons_succ, List.setIfInBounds_toArray, List.set_cons_zero, List.set_cons_succ])
          refine wpAnyH_take (i := 1) (oi := _) (v := ?_) rfl (by kernel_rfl) (by kernel_rfl) (by kernel_rfl) (fun _ _ _ h => h) (Or.inl ⟨by rfl, ?_⟩) (by assumption) ?_
          rotate_left
          · intro w hSw; (try dsimp only at hSw); go_simp; (try with_reducible rfl)
          (try simp only [Act.put, List.getElem_toArray, List.getElem_cons_zero, List.getElem_cons_succ, List.setIfInBounds_toArray, List.set_cons_zero, List.set_cons_succ])
          refine wpAnyH_take (i := 3) (oi := _) (v := ?_) rfl (by kernel_rfl) (by kernel_rfl) (by kernel_rfl) (fun _ _ _ h => h) (Or.inl ⟨by rfl, ?_⟩) (by assumption) ?_
          rotate_left
          · intro w hSw; (try dsimp only at hSw); go_simp; (try with_reducible rfl)
          (try simp only [Act.put, List.getElem_toArray, List.getElem_cons_zero, List.getElem_cons_succ, List.setIfInBounds_toArray, List.set_cons_zero, List.set_cons_succ])
          refine wpAnyH_take (i := 4) (oi := _) (v := ?_) rfl (by kernel_rfl) (by kernel_rfl) (by kernel_rfl) (fun _ _ _ h => h) (Or.inl ⟨by rfl, ?_⟩) (by assumption) ?_
          rotate_left
          · intro w hSw; (try dsimp only at hSw); go_simp; (try with_reducible rfl)
          (try simp only [Act.put, List.getElem_toArray, List.getElem_cons_zero, List.getElem_cons_succ, List.setIfInBounds_toArray, List.set_cons_zero, List.set_cons_succ])
          refine wpAnyH_ready (rs := [2]) (by kernel_rfl) (by simp) ?_
          refine AllReadyH.cons (o := _) rfl (fun K hK => ?_) AllReadyH.nil
          go_simp
          (go_at_call 27; refine (auAt_Taken_c HV ad (show q < H.p by omega) _ HVR.out.drew).mono ?_; rintro e w4 ⟨rfl, hb4⟩; rw [HET.out]; have HQ4 := hidp (HQ0.out.drew.keep hb4); have HT4 := hidp (HT.out.drew.trans (Turns.of_below hb4 _)); have HY4 := hidp (HY1.out.drew.keep hb4); have HV4 := hidp (HVR.out.drew.below hb4); clear hb4)
          refine hK.out _ _ ?_ (fun hHeld => ?_)
          · (try dsimp only)
            first | exact HQ0.out.drew.four | exact HQ5.out.four | exact HQ4.out.four | exact hHeld
          clear hK K
          (try simp only [Act.put, List.getElem_toArray, List.getElem_cons_zero, List.getElem_cons_succ, List.setIfInBounds_toArray, List.set_cons_zero, List.set_cons_succ])
          refine wpAnyH_ready (rs := [5]) (by kernel_rfl) (by simp) ?_
          refine AllReadyH.cons (o := _) rfl (fun K hK => ?_) AllReadyH.nil
          go_simp
          (go_at_call 27; refine (auAt_Slots_c HV ad (show q < H.p by omega) _ HV4.out).mono ?_; rintro e w5 ⟨rfl, hb5⟩; rw [HES.out]; have HQ5 := hidp (HQ4.out.keep hb5); have HT5 := hidp (HT4.out.trans (Turns.of_below hb5 _)); have HY5 := hidp (HY4.out.keep hb5); clear hb5)
          refine hK.out _ _ ?_ (fun hHeld => ?_)
          · (try dsimp only)
            first | exact HQ0.out.drew.four | exact HQ5.out.four | exact HQ4.out.four | exact hHeld
          clear hK K
          (try simp only [Act.put, List.getElem_toArray, List.getElem_cons_zero, List.getElem_cons_succ, List.setIfInBounds_toArray, List.set_cons_zero, List.set_cons_succ])
          refine wpAnyH_take (i := 6) (oi := _) (v := ?_) rfl (by kernel_rfl) (by kernel_rfl) (by kernel_rfl) (fun _ _ _ h => h) (Or.inl ⟨by rfl, ?_⟩) (by assumption) ?_
          rotate_left
          · intro w hSw; (try dsimp only at hSw); go_simp; (try with_reducible rfl)
          (try simp only [Act.put, List.getElem_toArray, List.getElem_cons_zero, List.getElem_cons_succ, List.setIfInBounds_toArray, List.set_cons_zero, List.set_cons_succ])
          refine wpAnyH_take (i := 7) (oi := _) (v := ?_) rfl (by kernel_rfl) (by kernel_rfl) (by kernel_rfl) (fun _ _ _ h => h) (Or.inl ⟨by rfl, ?_⟩) (by assumption) ?_
          rotate_left
          · intro w hSw; (try dsimp only at hSw); go_simp; (try with_reducible rfl)
          (try simp only [Act.put, List.getElem_toArray, List.getElem_cons_zero, List.getElem_cons_succ, List.setIfInBounds_toArray, List.set_cons_zero, List.set_cons_succ])
          refine wpAnyH_done (by kernel_rfl) ?_ _
          obtain ⟨c0, c1, c2, c3⟩ := HQ5.out.four
          obtain ⟨e1, e2⟩ := HY5.out.one
          by_cases h1 : x1 = 0
          · by_cases h2 : x2 = 0
            · have t1 : ((x1 : Int) != 0) = false := by simp; omega
              have t2 : ((x2 : Int) != 0) = false := by simp; omega
              gi_wp2_with fail
              go_roundw
              case rel => exact ⟨q + 1, by go_num, by omega, by omega, hidp (fun r h3 h4 => by
                rcases Nat.lt_or_ge r q with h5 | h5
                · exact HZ.out r h3 h5
                · have : r = q := by omega
                  subst this; exact HI5.out (HZ1.out.1 h1) (HZ2.out.1 h2)), HT5, HY5⟩
              case measure => simp [intOf]; omega
            · have t1 : ((x1 : Int) != 0) = false := by simp; omega
              have t2 : ((x2 : Int) != 0) = true := by simp; omega
              gi_wp2_with fail
              have HT6 := hidp (HT5.out.put (p := ⟨(w.heap.size + 1), 0, none⟩) rfl (.bool false))
              exact ⟨HT6.out, rfl, bool_no hb (fun h => h2 (HZ2.out.2 (HO5.out (h q (by omega))).2)), HY5.out.put1 _, HT6.out.below HB.out (by omega)⟩
          · have t1 : ((x1 : Int) != 0) = true := by simp; omega
            gi_wp2_with fail
            have HT6 := hidp (HT5.out.put (p := ⟨(w.heap.size + 1), 0, none⟩) rfl (.bool false))
            exact ⟨HT6.out, rfl, bool_no hb (fun h => h1 (HZ1.out.2 (HO5.out (h q (by omega))).1)), HY5.out.put1 _, HT6.out.below HB.out (by omega)⟩
        · have hqe : q = pos + m := by omega
          have t9 : decide ((q : Int) < (pos : Int) + m) = false := decide_eq_false (by omega)
          gi_wp2_with fail
          exact ⟨HT.out, _, ⟨rfl, .step HAT.out HC.out, fun r h1 => by
            rw [HNX.out] at h1
            rcases Nat.lt_or_ge r pos with h2 | h2
            · exact HFT.out r h2
            · exact HZ.out r h2 (by omega), HQ0.out, HY1.out, HBR.out⟩, fun i hi => .inl hi⟩
  case done =>
    rintro D pos F A hD hc ⟨rfl, hat, hft, x0, x1, hB⟩ hk
    have HDN : Hid ((w.heap.size + 1) < D ∧ w.heap.size ≤ D) := hidp (by have := HX1.out.lt; omega)
    have hpe : pos = H.p := by
      rw [ht.can_eq hat] at hc
      have := hat.le
      have := of_decide_eq_false hc
      omega
    subst hpe
    obtain rfl : b = true := bool_yes hb hft
    have HK := hidp hk
    have HXR := hidp x1
    have HB := hidp hB
    obtain ⟨g1, f1⟩ := x1.one
    clear hk x0 x1 hB hD hat hc hft
    go_wp2_with fail
    refine mark_end rfl ((Below.heap_setCell _ _ _ _ (by have := HDN.out; simp; omega)).trans HK.out) ?_
    have z1 := (HXR.out.put1 (.bool true)).shut (o' := .deferred none) ((Below.heap_setCell A ⟨(w.heap.size + 1), 0, none⟩ (.bool true) _ (by have := HDN.out; simp; omega)).trans HK.out) rfl
    obtain ⟨z2, z3⟩ := z1.one
    refine bodyPost_ret (v := .bool true) (by simp [results, Tryd.results20, go_sem, z2]) rfl ⟨rfl, ?_⟩
    exact shutB (Bput HB.out (by simp) _) ((Below.heap_setCell A ⟨(w.heap.size + 1), 0, none⟩ (.bool true) _ (by have := HDN.out; simp; omega)).trans HK.out) rfl HDN.out.2
  case stop =>
    rintro D c A hD ⟨rfl, hb0, x1, hB⟩ hk
    have HDN : Hid (w.heap.size ≤ D) := hidp (by have := HX1.out.lt; omega)
    go_wp2_with fail
    refine mark_end rfl hk ?_
    obtain ⟨z2, z3⟩ := (x1.shut (o' := .deferred none) hk rfl).one
    rw [hb0]
    refine bodyPost_ret (v := .bool false) (by simp [results, Tryd.results20, go_sem, z2]) rfl ⟨rfl, ?_⟩
    exact shutB hB hk rfl HDN.out
end
end Go.Proofs.YtbaofpdjfoaiiaaDoor
