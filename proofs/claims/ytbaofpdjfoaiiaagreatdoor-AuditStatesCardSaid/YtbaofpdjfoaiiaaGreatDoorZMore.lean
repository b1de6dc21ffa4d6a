/-
  Rule 5: the bits of slots. Written by audit/gen_r5.py.
-/
import Derived.Test.YtbaofpdjfoaiiaaGreatDoorZRules
namespace Go.Proofs.YtbaofpdjfoaiiaaGreatDoor
open Go.ChangeShapes Go.WideShapes Go.ChangeAt Go.RowKit Go.Shelf
set_option linter.unusedVariables false
set_option linter.unusedSimpArgs false

/-- each bit of a is one of b -/
def SubB (a b : Nat) : Prop := ∀ i, i < 32 → a.testBit i = true → b.testBit i = true
theorem andNot_zero (a b : Nat) (ha : a < 2 ^ 32) (hb : b < 2 ^ 32) : a &&& (4294967295 - b) = 0 ↔ SubB a b := by
  have hbit : ∀ i, i < 32 → (4294967295 - b).testBit i = !(b.testBit i) := fun i hi => by
    have e : 4294967295 - b = 2 ^ 32 - (b + 1) := by omega
    rw [e, Nat.testBit_two_pow_sub_succ hb]
    simp [hi]
  constructor
  · intro h i hi hai
    have := congrArg (fun x => x.testBit i) h
    simp only [Nat.testBit_and, Nat.zero_testBit, hbit i hi, hai, Bool.true_and, Bool.not_eq_false'] at this
    exact this
  · intro h
    apply Nat.eq_of_testBit_eq
    intro i
    rw [Nat.testBit_and, Nat.zero_testBit]
    rcases Nat.lt_or_ge i 32 with hi | hi
    · rw [hbit i hi]
      cases hai : a.testBit i
      · rfl
      · rw [h i hi hai]; rfl
    · rw [Nat.testBit_lt_two_pow (Nat.lt_of_lt_of_le ha (Nat.pow_le_pow_right (by omega) hi))]; rfl
theorem sub_mask (a n : Nat) (ha : a < 2 ^ 32) (hn : n ≤ 32) : SubB a (2 ^ n - 1) ↔ a < 2 ^ n := by
  constructor
  · intro h
    apply Nat.lt_pow_two_of_testBit
    intro i hi
    rcases Nat.lt_or_ge i 32 with h2 | h2
    · cases hai : a.testBit i
      · rfl
      · have := h i h2 hai
        rw [Nat.testBit_two_pow_sub_one] at this
        have := of_decide_eq_true this
        omega
    · exact Nat.testBit_lt_two_pow (Nat.lt_of_lt_of_le ha (Nat.pow_le_pow_right (by omega) h2))
  · intro h i hi hai
    rw [Nat.testBit_two_pow_sub_one]
    rcases Nat.lt_or_ge i n with h2 | h2
    · exact decide_eq_true h2
    · rw [Nat.testBit_lt_two_pow (Nat.lt_of_lt_of_le h (Nat.pow_le_pow_right (by omega) h2))] at hai; cases hai
theorem sub_zero (a : Nat) (ha : a < 2 ^ 32) : SubB a 0 ↔ a = 0 := by
  have := sub_mask a 0 ha (by omega)
  simpa using this
theorem mask_lt32 (n : Nat) (hn : n ≤ 32) : 2 ^ n - 1 < 2 ^ 32 := by
  have : (2 : Nat) ^ n ≤ 2 ^ 32 := Nat.pow_le_pow_right (by omega) hn
  omega

namespace AuH
def Slot5 (H : AuH) (q : Nat) : Prop := (H.K q = 3 → H.cel q 5 ≠ 0 ∧ H.cel q 5 < 2 ^ slotI (H.Cl q) ∧ SubB (H.cel q 4) (H.cel q 5)) ∧ (H.K q ≠ 3 → H.cel q 5 = 0 ∧ H.cel q 4 = 0)
/-- rule 5 -/
def R5 (H : AuH) : Prop := ∀ q, q < H.p → H.Slot5 q
/-- the bits that may be taken in pages of a span -/
def may (H : AuH) (q : Nat) : Nat := if H.K q = 3 then 2 ^ slotI (H.Cl q) - 1 else 0
variable {H : AuH}
theorem slot5_in (ht : H.Tiled) {a q : Nat} (ha : H.At a) (h0 : a < H.p) (h1 : a ≤ q) (h2 : q < H.nx a) {m : Nat} (hm : H.may a = m) (hc : H.cel q 5 < 2 ^ 32) (hs : H.K a = 3 → H.cel a 5 ≠ 0) (h3 : SubB (H.cel q 5) m) (h4 : SubB (H.cel q 4) (H.cel q 5)) (hc4 : H.cel q 4 < 2 ^ 32) : H.Slot5 q := by
  by_cases hk : H.K a = 3
  · have hl : H.ln a = 1 := by have := H.K_cases a; omega
    have : q = a := by unfold nx at h2; omega
    subst this
    unfold may at hm
    rw [if_pos hk] at hm
    subst hm
    exact ⟨fun _ => ⟨hs hk, (sub_mask _ _ hc (slotI_le _)).1 h3, h4⟩, fun h => absurd hk h⟩
  · have hkq : H.K q ≠ 3 := by
      rcases Nat.eq_or_lt_of_le h1 with h5 | h5
      · subst h5; exact hk
      · rw [ht.inside ha h0 h5 h2]; omega
    unfold may at hm
    rw [if_neg hk] at hm
    subst hm
    have h5 := (sub_zero _ hc).1 h3
    rw [h5] at h4
    exact ⟨fun h => absurd h hkq, fun _ => ⟨h5, (sub_zero _ hc4).1 h4⟩⟩
theorem slot5_out (ht : H.Tiled) {a q : Nat} (ha : H.At a) (h0 : a < H.p) (h1 : a ≤ q) (h2 : q < H.nx a) {m : Nat} (hm : H.may a = m) (hc : H.cel q 5 < 2 ^ 32) (hc4 : H.cel q 4 < 2 ^ 32) (h : H.Slot5 q) : SubB (H.cel q 5) m ∧ SubB (H.cel q 4) (H.cel q 5) := by
  by_cases hk : H.K a = 3
  · have hl : H.ln a = 1 := by have := H.K_cases a; omega
    have : q = a := by unfold nx at h2; omega
    subst this
    unfold may at hm
    rw [if_pos hk] at hm
    subst hm
    obtain ⟨e1, e2, e3⟩ := h.1 hk
    exact ⟨(sub_mask _ _ hc (slotI_le _)).2 e2, e3⟩
  · have hkq : H.K q ≠ 3 := by
      rcases Nat.eq_or_lt_of_le h1 with h5 | h5
      · subst h5; exact hk
      · rw [ht.inside ha h0 h5 h2]; omega
    unfold may at hm
    rw [if_neg hk] at hm
    subst hm
    obtain ⟨e1, e2⟩ := h.2 hkq
    rw [e1, e2]
    exact ⟨(sub_zero 0 (by omega)).2 rfl, (sub_zero 0 (by omega)).2 rfl⟩
end AuH
section
attribute [local go_sem] Oper.semAt_some

set_option maxHeartbeats 6400000 in
set_option maxRecDepth 100000 in
theorem auHasSlots_c {H : AuH} {n c : Nat} (HV : HeapV H n c) (ht : H.Tiled) (ad : Addr) (b : Bool) (hb : b = true ↔ H.R5) (w : World) (hv : IsVals w ad n H.V) (hT : SlotsLaid w) :
    Calls Tryz.prog 43 #[hpV H ad n c] w fun e w' => e = .returned (.bool b) ∧ Below w.heap.size w w' := by
  have HTL := hidp hT
  have HVL := hidp hv
  have HP : H.p ≤ 1024 := HV.nums.2.2.2.1
  refine calls_of_wp_mark Tryz.func43 rfl ?_
  unfold hpV
  simp only [Tryz.ntmps43, List.size_toArray, List.length_cons, List.length_nil, Nat.reduceAdd, Nat.reduceSub, Array.replicate_succ, Array.replicate_zero, List.push_toArray, List.append_toArray, List.nil_append, List.cons_append]
  have HX0 := hidp ((Held.new w 47 #[.int .i64 (H.t : Int), .int .i64 (H.p : Int), .int .i64 (H.s : Int), .slice (some ad) n c]).alloc (.cells #[.bool false] 4))
  have HX1 := hidp (Held.new (w.alloc (.cells #[.int .i64 (H.t : Int), .int .i64 (H.p : Int), .int .i64 (H.s : Int), .slice (some ad) n c] 47)) 4 #[.bool false])
  rw [World.size_alloc] at HX1
  have HBW := hidp (Bnew (Bnew (B0 w) (.cells #[.int .i64 (H.t : Int), .int .i64 (H.p : Int), .int .i64 (H.s : Int), .slice (some ad) n c] 47)) (.cells #[.bool false] 4))
  go_wp2_with fail
  generalize (w.alloc (.cells #[.int .i64 (H.t : Int), .int .i64 (H.p : Int), .int .i64 (H.s : Int), .slice (some ad) n c] 47)).alloc (.cells #[.bool false] 4) = W3 at *
  refine wp_seq (w0 := w) (gf := 70) (bound := #[hpV H ad n c]) (enc := encS H) (can := H.can) (next := H.nx) rfl (enters_of Tryz.func70 (by kernel_rfl) rfl) (auSpans_seq HV ad w HVL.out) HBW.out (fun _ => rfl)
    (fun pos F A => F = (fun i => i = (w.heap.size + 1)) ∧ H.At pos ∧ (∀ q, q < pos → H.Slot5 q) ∧ Held A w.heap.size 47 #[.int .i64 (H.t : Int), .int .i64 (H.p : Int), .int .i64 (H.s : Int), .slice (some ad) n c] ∧ Held A (w.heap.size + 1) 4 #[.bool false] ∧ Below w.heap.size w A)
    (fun c A => c = .ret ∧ b = false ∧ Held A (w.heap.size + 1) 4 #[.bool false] ∧ Below w.heap.size w A)
    ?hI ?hIx ?hIB ?hIF (F0 := (fun i => i = (w.heap.size + 1))) ⟨rfl, .zero, fun q h => absurd h (by omega), HX0.out, HX1.out, HBW.out⟩ ?round ?done ?stop
  case hI => rintro pos F A B ⟨h1, h2, h3, h4, h5, h7⟩ hm; exact ⟨h1, h2, h3, hm.held h4, hm.held h5, hm.below h7 HBW.out.size⟩
  case hIx => rintro c A B ⟨h1, h2, h3, h4⟩ hm; exact ⟨h1, h2, hm.held h3, hm.below h4 HBW.out.size⟩
  case hIB => rintro pos F A ⟨h1, h2, h3, h4, h5, h7⟩; exact h7
  case hIF => rintro pos F A ⟨rfl, h2, h3, h4, h5, h7⟩ i rfl; exact ⟨_, h5, rfl⟩
  case round =>
    rintro l pos F A hc ⟨rfl, hat, hft, x0, x1, hB⟩ hsz
    unfold encS
    have HAL : Hid ((w.heap.size + 1) < A.heap.size) := hidp x1.lt
    gi_wp2_with fail
    refine ⟨Bnew (B0 A) _, fun A2 hM hs => ?_⟩
    have HN := hidp (hM.held (Held.new A 66 #[.int .i64 (H.K pos), .int .i64 (H.ln pos : Int), .int .i64 (H.Cl pos)]))
    have HX0 := hidp (hM.held (x0.alloc (.cells #[.int .i64 (H.K pos), .int .i64 (H.ln pos : Int), .int .i64 (H.Cl pos)] 66)))
    have HX1 := hidp (hM.held (x1.alloc (.cells #[.int .i64 (H.K pos), .int .i64 (H.ln pos : Int), .int .i64 (H.Cl pos)] 66)))
    have HB := hidp (hM.below (Bnew hB (.cells #[.int .i64 (H.K pos), .int .i64 (H.ln pos : Int), .int .i64 (H.Cl pos)] 66)) HBW.out.size)
    have HAT := hidp hat
    have HFT := hidp hft
    have HC := hidp hc
    obtain ⟨hlt, hk0, hle⟩ := (H.can_iff pos).1 hc
    have hm := H.ln_pos pos hk0
    have HNX : Hid (H.nx pos = pos + H.ln pos) := hidp rfl
    have HLT := hidp hlt
    clear hM x0 x1 hB hat hft hc hs hsz
    obtain ⟨c0, c1, c2, c3⟩ := HX0.out.four
    obtain ⟨d0, d1, d2⟩ := HN.out.three
    obtain ⟨m, hmm⟩ : ∃ m, H.ln pos = m := ⟨_, rfl⟩
    obtain ⟨y, hyy⟩ : ∃ y, H.may pos = y := ⟨_, rfl⟩
    have HY := hidp hyy
    obtain ⟨k, hkk⟩ : ∃ k, H.K pos = k := ⟨_, rfl⟩
    have HK := hidp hkk
    have hcl := H.K_cases pos
    rw [hmm] at hm hle d1 HNX HN
    rw [hkk] at d0 HN
    have hyl : y < 2 ^ 32 := by
      rw [← hyy]; unfold AuH.may; split
      · exact mask_lt32 _ (slotI_le _)
      · omega
    by_cases h3 : k = 3
    · subst h3
      have hmay : 2 ^ slotI (H.Cl pos) - 1 = y := by rw [← hyy]; unfold AuH.may; rw [if_pos hkk]
      have hc1 : 0 ≤ H.Cl pos ∧ H.Cl pos ≤ 8 := by omega
      have HCS : Hid (∀ W, SlotsLaid W → Calls Tryz.prog 81 #[.int .i64 (H.Cl pos)] W fun e w' => e = .returned (.int .u32 ((y : Nat) : Int)) ∧ W = w') := hidp (fun W h => by
        have := auSlotBits_c (H.Cl pos) (by omega) (by omega) W h
        rw [hmay] at this
        exact this)
      have HTL2 := hidp (HTL.out.below HB.out)
      have HV2 := hidp (HVL.out.below HB.out)
      obtain ⟨tp, htp⟩ : ∃ tp, H.cel pos 5 = tp := ⟨_, rfl⟩
      have HTP := hidp htp
      clear hcl hmay hyy hkk hmm hk0
      generalize H.Cl pos = cl at *
      by_cases h0 : tp = 0
      · have t0 : ((tp : Int) == 0) = true := by simp; omega
        gi_wp2_with (first
          | (refine ⟨trivial, rfl, ?_⟩; gi_at_call 81; refine (calls_in (HCS.out _ HTL2.out)).mono ?_; rintro e w7 ⟨rfl, rfl⟩)
          | (refine ⟨trivial, rfl, ?_⟩; gi_at_call 77; refine (calls_in (auAt_Taken_c HV ad HLT.out _ HV2.out)).mono ?_; rintro e w8 ⟨rfl, hb8⟩; rw [HTP.out]; have HT8 := hidp (Turns.of_below hb8 (fun i => i = (w.heap.size + 1))); have HY8 := hidp (HX1.out.keep hb8); clear hb8; obtain ⟨e1, e2⟩ := HY8.out.one)
          | fail)
        have HT6 := hidp (HT8.out.put (p := ⟨(w.heap.size + 1), 0, none⟩) rfl (.bool false))
        exact ⟨HT6.out, rfl, bool_no hb (fun h => ((h pos HLT.out).1 HK.out).1 (by rw [HTP.out]; exact h0)), HY8.out.put1 _, HT6.out.below HB.out (by omega)⟩
      · have t0 : ((tp : Int) == 0) = false := by simp; omega
        have HS0 : Hid (H.K pos = 3 → H.cel pos 5 ≠ 0) := hidp (fun _ => by rw [HTP.out]; exact h0)
        gi_wp2_with (first
          | (refine ⟨trivial, rfl, ?_⟩; gi_at_call 81; refine (calls_in (HCS.out _ HTL2.out)).mono ?_; rintro e w7 ⟨rfl, rfl⟩)
          | (refine ⟨trivial, rfl, ?_⟩; gi_at_call 77; refine (calls_in (auAt_Taken_c HV ad HLT.out _ HV2.out)).mono ?_; rintro e w8 ⟨rfl, hb8⟩; rw [HTP.out]; have HTS := hidp (Turns.of_below hb8 (fun i => i = (w.heap.size + 1))); have HXS := hidp (HX1.out.keep hb8); clear hb8)
          | fail)
        gi_loopw [6] (fun u wr => ∃ q : Nat, u = .int .i64 (q : Int) ∧ pos ≤ q ∧ q ≤ pos + m ∧ Hid (∀ r, pos ≤ r → r < q → H.Slot5 r) ∧ Hid (Turns (fun i => i = (w.heap.size + 1)) A2 wr) ∧ Hid (Held wr (w.heap.size + 1) 4 #[.bool false])) (fun u _ => pos + m - (intOf u).toNat)
        case atStart => exact ⟨pos, rfl, by omega, by omega, hidp (fun r h1 h2 => by omega), HTS, HXS⟩
        case round =>
          clear HTS HXS
          obtain ⟨q, rfl, hq1, hq2, HZ, HT, HY1⟩ := hrel
          have HQ0 := hidp (HT.out.held HX0.out (by omega))
          have HQN := hidp (HT.out.held HN.out (by have := HAL.out; omega))
          have HBR := hidp (HT.out.below HB.out (by omega))
          obtain ⟨c0, c1, c2, c3⟩ := HQ0.out.four
          have d1 := HQN.out.three.2.1
          have HVR := hidp (HVL.out.below HBR.out)
          by_cases hl : q < pos + m
          · have HQX : Hid (q < H.nx pos) := hidp (by rw [HNX.out]; omega)
            obtain ⟨tk, htk⟩ : ∃ tk, H.cel q 5 = tk := ⟨_, rfl⟩
            obtain ⟨sl, hsl⟩ : ∃ sl, H.cel q 4 = sl := ⟨_, rfl⟩
            have ht5 := HV.cel_lt (show q < H.p by omega) (show 5 < 6 by omega)
            have ht4 := HV.cel_lt (show q < H.p by omega) (show 4 < 6 by omega)
            have HI5 := hidp (fun h1 h2 => AuH.slot5_in ht HAT.out HLT.out hq1 HQX.out HY.out ht5 HS0.out h1 h2 ht4)
            have HO5 := hidp (AuH.slot5_out ht HAT.out HLT.out hq1 HQX.out HY.out ht5 ht4)
            have HET := hidp htk
            have HES := hidp hsl
            rw [htk, hsl] at HI5 HO5
            rw [htk] at ht5
            rw [hsl] at ht4
            have b1 := u32_andNot_nat tk y ht5 hyl
            have b2 := u32_andNot_nat sl tk ht4 ht5
            have z1 := andNot_zero tk y ht5 hyl
            have z2 := andNot_zero sl tk ht4 ht5
            have HZ1 := hidp z1
            have HZ2 := hidp z2
            generalize tk &&& (4294967295 - y) = x1 at *
            generalize sl &&& (4294967295 - tk) = x2 at *
            clear htk hsl z1 z2
            gi_wp2_with fail
            refine wp_region_round (S := (fun w' => w'.cell? ⟨w.heap.size, 0, none⟩ = some (.int .i64 (H.t : Int)) ∧ w'.cell? ⟨w.heap.size, 1, none⟩ = some (.int .i64 (H.p : Int)) ∧ w'.cell? ⟨w.heap.size, 2, none⟩ = some (.int .i64 (H.s : Int)) ∧ w'.cell? ⟨w.heap.size, 3, none⟩ = some (.slice (some ad) n c))) (by kernel_rfl) (by kernel_rfl) (fun _ _ h => h) ?_ (fun hHeld => ?_)
            · (try dsimp only)
              first | exact HQ0.out.drew.four | exact HQ5.out.four | exact HQ4.out.four | exact hHeld
            refine tkO (i := 0) (v := ?_) rfl (by kernel_rfl) (fun _ _ _ h => h) (by rfl) ?_ (by assumption) ?_
            rotate_left
            · intro w hSw; (try dsimp only at hSw); go_simp; (try with_reducible rfl)
            (try simp only [Act.put, gA, gB, gC, sA, sB, sC])
            refine tkO (i := 1) (v := ?_) rfl (by kernel_rfl) (fun _ _ _ h => h) (by rfl) ?_ (by assumption) ?_
            rotate_left
            · intro w hSw; (try dsimp only at hSw); go_simp; (try with_reducible rfl)
            (try simp only [Act.put, gA, gB, gC, sA, sB, sC])
            refine tkO (i := 3) (v := ?_) rfl (by kernel_rfl) (fun _ _ _ h => h) (by rfl) ?_ (by assumption) ?_
            rotate_left
            · intro w hSw; (try dsimp only at hSw); go_simp; (try with_reducible rfl)
            (try simp only [Act.put, gA, gB, gC, sA, sB, sC])
            refine tkO (i := 4) (v := ?_) rfl (by kernel_rfl) (fun _ _ _ h => h) (by rfl) ?_ (by assumption) ?_
            rotate_left
            · intro w hSw; (try dsimp only at hSw); go_simp; (try with_reducible rfl)
            (try simp only [Act.put, gA, gB, gC, sA, sB, sC])
            refine wpAnyH_ready (rs := [2]) (by kernel_rfl) (by simp) ?_
            refine AllReadyH.cons (o := _) rfl (fun K hK => ?_) AllReadyH.nil
            go_simp
            (go_at_call 77; refine (auAt_Taken_c HV ad (show q < H.p by omega) _ HVR.out.drew).mono ?_; rintro e w4 ⟨rfl, hb4⟩; rw [HET.out]; have HQ4 := hidp (HQ0.out.drew.keep hb4); have HT4 := hidp (HT.out.drew.trans (Turns.of_below hb4 _)); have HY4 := hidp (HY1.out.drew.keep hb4); have HV4 := hidp (HVR.out.drew.below hb4); clear hb4)
            refine hK.out _ _ ?_ (fun hHeld => ?_)
            · (try dsimp only)
              first | exact HQ0.out.drew.four | exact HQ5.out.four | exact HQ4.out.four | exact hHeld
            clear hK K
            (try simp only [Act.put, gA, gB, gC, sA, sB, sC])
            refine wpAnyH_ready (rs := [5]) (by kernel_rfl) (by simp) ?_
            refine AllReadyH.cons (o := _) rfl (fun K hK => ?_) AllReadyH.nil
            go_simp
            (go_at_call 77; refine (auAt_Slots_c HV ad (show q < H.p by omega) _ HV4.out).mono ?_; rintro e w5 ⟨rfl, hb5⟩; rw [HES.out]; have HQ5 := hidp (HQ4.out.keep hb5); have HT5 := hidp (HT4.out.trans (Turns.of_below hb5 _)); have HY5 := hidp (HY4.out.keep hb5); clear hb5)
            refine hK.out _ _ ?_ (fun hHeld => ?_)
            · (try dsimp only)
              first | exact HQ0.out.drew.four | exact HQ5.out.four | exact HQ4.out.four | exact hHeld
            clear hK K
            (try simp only [Act.put, gA, gB, gC, sA, sB, sC])
            refine tkO (i := 6) (v := ?_) rfl (by kernel_rfl) (fun _ _ _ h => h) (by rfl) ?_ (by assumption) ?_
            rotate_left
            · intro w hSw; (try dsimp only at hSw); go_simp; (try with_reducible rfl)
            (try simp only [Act.put, gA, gB, gC, sA, sB, sC])
            refine tkO (i := 7) (v := ?_) rfl (by kernel_rfl) (fun _ _ _ h => h) (by rfl) ?_ (by assumption) ?_
            rotate_left
            · intro w hSw; (try dsimp only at hSw); go_simp; (try with_reducible rfl)
            (try simp only [Act.put, gA, gB, gC, sA, sB, sC])
            refine wpAnyH_done (by kernel_rfl) ?_ _
            obtain ⟨c0, c1, c2, c3⟩ := HQ5.out.four
            obtain ⟨e1, e2⟩ := HY5.out.one
            by_cases h1 : x1 = 0
            · by_cases h2 : x2 = 0
              · have t1 : ((x1 : Int) != 0) = false := by simp; omega
                have t2 : ((x2 : Int) != 0) = false := by simp; omega
                gi_wp2_with fail
                go_roundw
                case rel => exact ⟨q + 1, by go_num, by omega, by omega, hidp (fun r h3 h4 => by
                  rcases Nat.lt_or_ge r q with h5 | h5
                  · exact HZ.out r h3 h5
                  · have : r = q := by omega
                    subst this; exact HI5.out (HZ1.out.1 h1) (HZ2.out.1 h2)), HT5, HY5⟩
                case measure => simp [intOf]; omega
              · have t1 : ((x1 : Int) != 0) = false := by simp; omega
                have t2 : ((x2 : Int) != 0) = true := by simp; omega
                gi_wp2_with fail
                have HT6 := hidp (HT5.out.put (p := ⟨(w.heap.size + 1), 0, none⟩) rfl (.bool false))
                exact ⟨HT6.out, rfl, bool_no hb (fun h => h2 (HZ2.out.2 (HO5.out (h q (by omega))).2)), HY5.out.put1 _, HT6.out.below HB.out (by omega)⟩
            · have t1 : ((x1 : Int) != 0) = true := by simp; omega
              gi_wp2_with fail
              have HT6 := hidp (HT5.out.put (p := ⟨(w.heap.size + 1), 0, none⟩) rfl (.bool false))
              exact ⟨HT6.out, rfl, bool_no hb (fun h => h1 (HZ1.out.2 (HO5.out (h q (by omega))).1)), HY5.out.put1 _, HT6.out.below HB.out (by omega)⟩
          · have hqe : q = pos + m := by omega
            have t9 : decide ((q : Int) < (pos : Int) + m) = false := decide_eq_false (by omega)
            gi_wp2_with fail
            exact ⟨HT.out, _, ⟨rfl, .step HAT.out HC.out, fun r h1 => by
              rw [HNX.out] at h1
              rcases Nat.lt_or_ge r pos with h2 | h2
              · exact HFT.out r h2
              · exact HZ.out r h2 (by omega), HQ0.out, HY1.out, HBR.out⟩, fun i hi => .inl hi⟩

    · have t0 : (k == 3) = false := by simpa using h3
      have hy0 : y = 0 := by rw [← hyy]; unfold AuH.may; rw [if_neg (by rw [hkk]; exact h3)]
      subst hy0
      have HS0 : Hid (H.K pos = 3 → H.cel pos 5 ≠ 0) := hidp (fun h => absurd (HK.out.symm.trans h) h3)
      have HTS := hidp (T0 (fun i => i = (w.heap.size + 1)) A2)
      have HXS := HX1
      clear hcl hyy hkk hmm hk0
      gi_wp2_with fail
      gi_loopw [6] (fun u wr => ∃ q : Nat, u = .int .i64 (q : Int) ∧ pos ≤ q ∧ q ≤ pos + m ∧ Hid (∀ r, pos ≤ r → r < q → H.Slot5 r) ∧ Hid (Turns (fun i => i = (w.heap.size + 1)) A2 wr) ∧ Hid (Held wr (w.heap.size + 1) 4 #[.bool false])) (fun u _ => pos + m - (intOf u).toNat)
      case atStart => exact ⟨pos, rfl, by omega, by omega, hidp (fun r h1 h2 => by omega), HTS, HXS⟩
      case round =>
        clear HTS HXS
        obtain ⟨q, rfl, hq1, hq2, HZ, HT, HY1⟩ := hrel
        have HQ0 := hidp (HT.out.held HX0.out (by omega))
        have HQN := hidp (HT.out.held HN.out (by have := HAL.out; omega))
        have HBR := hidp (HT.out.below HB.out (by omega))
        obtain ⟨c0, c1, c2, c3⟩ := HQ0.out.four
        have d1 := HQN.out.three.2.1
        have HVR := hidp (HVL.out.below HBR.out)
        by_cases hl : q < pos + m
        · have HQX : Hid (q < H.nx pos) := hidp (by rw [HNX.out]; omega)
          obtain ⟨tk, htk⟩ : ∃ tk, H.cel q 5 = tk := ⟨_, rfl⟩
          obtain ⟨sl, hsl⟩ : ∃ sl, H.cel q 4 = sl := ⟨_, rfl⟩
          have ht5 := HV.cel_lt (show q < H.p by omega) (show 5 < 6 by omega)
          have ht4 := HV.cel_lt (show q < H.p by omega) (show 4 < 6 by omega)
          have HI5 := hidp (fun h1 h2 => AuH.slot5_in ht HAT.out HLT.out hq1 HQX.out HY.out ht5 HS0.out h1 h2 ht4)
          have HO5 := hidp (AuH.slot5_out ht HAT.out HLT.out hq1 HQX.out HY.out ht5 ht4)
          have HET := hidp htk
          have HES := hidp hsl
          rw [htk, hsl] at HI5 HO5
          rw [htk] at ht5
          rw [hsl] at ht4
          have b1 : bits .andNot .u32 (tk : Int) 0 = ((tk &&& (4294967295 - 0) : Nat) : Int) := u32_andNot_nat tk 0 ht5 hyl
          have b2 := u32_andNot_nat sl tk ht4 ht5
          have z1 := andNot_zero tk 0 ht5 hyl
          have z2 := andNot_zero sl tk ht4 ht5
          have HZ1 := hidp z1
          have HZ2 := hidp z2
          generalize tk &&& (4294967295 - 0) = x1 at *
          generalize sl &&& (4294967295 - tk) = x2 at *
          clear htk hsl z1 z2
          gi_wp2_with fail
          refine wp_region_round (S := (fun w' => w'.cell? ⟨w.heap.size, 0, none⟩ = some (.int .i64 (H.t : Int)) ∧ w'.cell? ⟨w.heap.size, 1, none⟩ = some (.int .i64 (H.p : Int)) ∧ w'.cell? ⟨w.heap.size, 2, none⟩ = some (.int .i64 (H.s : Int)) ∧ w'.cell? ⟨w.heap.size, 3, none⟩ = some (.slice (some ad) n c))) (by kernel_rfl) (by kernel_rfl) (fun _ _ h => h) ?_ (fun hHeld => ?_)
          · (try dsimp only)
            first | exact HQ0.out.drew.four | exact HQ5.out.four | exact HQ4.out.four | exact hHeld
          refine tkO (i := 0) (v := ?_) rfl (by kernel_rfl) (fun _ _ _ h => h) (by rfl) ?_ (by assumption) ?_
          rotate_left
          · intro w hSw; (try dsimp only at hSw); go_simp; (try with_reducible rfl)
          (try simp only [Act.put, gA, gB, gC, sA, sB, sC])
          refine tkO (i := 1) (v := ?_) rfl (by kernel_rfl) (fun _ _ _ h => h) (by rfl) ?_ (by assumption) ?_
          rotate_left
          · intro w hSw; (try dsimp only at hSw); go_simp; (try with_reducible rfl)
          (try simp only [Act.put, gA, gB, gC, sA, sB, sC])
          refine tkO (i := 3) (v := ?_) rfl (by kernel_rfl) (fun _ _ _ h => h) (by rfl) ?_ (by assumption) ?_
          rotate_left
          · intro w hSw; (try dsimp only at hSw); go_simp; (try with_reducible rfl)
          (try simp only [Act.put, gA, gB, gC, sA, sB, sC])
          refine tkO (i := 4) (v := ?_) rfl (by kernel_rfl) (fun _ _ _ h => h) (by rfl) ?_ (by assumption) ?_
          rotate_left
          · intro w hSw; (try dsimp only at hSw); go_simp; (try with_reducible rfl)
          (try simp only [Act.put, gA, gB, gC, sA, sB, sC])
          refine wpAnyH_ready (rs := [2]) (by kernel_rfl) (by simp) ?_
          refine AllReadyH.cons (o := _) rfl (fun K hK => ?_) AllReadyH.nil
          go_simp
          (go_at_call 77; refine (auAt_Taken_c HV ad (show q < H.p by omega) _ HVR.out.drew).mono ?_; rintro e w4 ⟨rfl, hb4⟩; rw [HET.out]; have HQ4 := hidp (HQ0.out.drew.keep hb4); have HT4 := hidp (HT.out.drew.trans (Turns.of_below hb4 _)); have HY4 := hidp (HY1.out.drew.keep hb4); have HV4 := hidp (HVR.out.drew.below hb4); clear hb4)
          refine hK.out _ _ ?_ (fun hHeld => ?_)
          · (try dsimp only)
            first | exact HQ0.out.drew.four | exact HQ5.out.four | exact HQ4.out.four | exact hHeld
          clear hK K
          (try simp only [Act.put, gA, gB, gC, sA, sB, sC])
          refine wpAnyH_ready (rs := [5]) (by kernel_rfl) (by simp) ?_
          refine AllReadyH.cons (o := _) rfl (fun K hK => ?_) AllReadyH.nil
          go_simp
          (go_at_call 77; refine (auAt_Slots_c HV ad (show q < H.p by omega) _ HV4.out).mono ?_; rintro e w5 ⟨rfl, hb5⟩; rw [HES.out]; have HQ5 := hidp (HQ4.out.keep hb5); have HT5 := hidp (HT4.out.trans (Turns.of_below hb5 _)); have HY5 := hidp (HY4.out.keep hb5); clear hb5)
          refine hK.out _ _ ?_ (fun hHeld => ?_)
          · (try dsimp only)
            first | exact HQ0.out.drew.four | exact HQ5.out.four | exact HQ4.out.four | exact hHeld
          clear hK K
          (try simp only [Act.put, gA, gB, gC, sA, sB, sC])
          refine tkO (i := 6) (v := ?_) rfl (by kernel_rfl) (fun _ _ _ h => h) (by rfl) ?_ (by assumption) ?_
          rotate_left
          · intro w hSw; (try dsimp only at hSw); go_simp; (try with_reducible rfl)
          (try simp only [Act.put, gA, gB, gC, sA, sB, sC])
          refine tkO (i := 7) (v := ?_) rfl (by kernel_rfl) (fun _ _ _ h => h) (by rfl) ?_ (by assumption) ?_
          rotate_left
          · intro w hSw; (try dsimp only at hSw); go_simp; (try with_reducible rfl)
          (try simp only [Act.put, gA, gB, gC, sA, sB, sC])
          refine wpAnyH_done (by kernel_rfl) ?_ _
          obtain ⟨c0, c1, c2, c3⟩ := HQ5.out.four
          obtain ⟨e1, e2⟩ := HY5.out.one
          by_cases h1 : x1 = 0
          · by_cases h2 : x2 = 0
            · have t1 : ((x1 : Int) != 0) = false := by simp; omega
              have t2 : ((x2 : Int) != 0) = false := by simp; omega
              gi_wp2_with fail
              go_roundw
              case rel => exact ⟨q + 1, by go_num, by omega, by omega, hidp (fun r h3 h4 => by
                rcases Nat.lt_or_ge r q with h5 | h5
                · exact HZ.out r h3 h5
                · have : r = q := by omega
                  subst this; exact HI5.out (HZ1.out.1 h1) (HZ2.out.1 h2)), HT5, HY5⟩
              case measure => simp [intOf]; omega
            · have t1 : ((x1 : Int) != 0) = false := by simp; omega
              have t2 : ((x2 : Int) != 0) = true := by simp; omega
              gi_wp2_with fail
              have HT6 := hidp (HT5.out.put (p := ⟨(w.heap.size + 1), 0, none⟩) rfl (.bool false))
              exact ⟨HT6.out, rfl, bool_no hb (fun h => h2 (HZ2.out.2 (HO5.out (h q (by omega))).2)), HY5.out.put1 _, HT6.out.below HB.out (by omega)⟩
          · have t1 : ((x1 : Int) != 0) = true := by simp; omega
            gi_wp2_with fail
            have HT6 := hidp (HT5.out.put (p := ⟨(w.heap.size + 1), 0, none⟩) rfl (.bool false))
            exact ⟨HT6.out, rfl, bool_no hb (fun h => h1 (HZ1.out.2 (HO5.out (h q (by omega))).1)), HY5.out.put1 _, HT6.out.below HB.out (by omega)⟩
        · have hqe : q = pos + m := by omega
          have t9 : decide ((q : Int) < (pos : Int) + m) = false := decide_eq_false (by omega)
          gi_wp2_with fail
          exact ⟨HT.out, _, ⟨rfl, .step HAT.out HC.out, fun r h1 => by
            rw [HNX.out] at h1
            rcases Nat.lt_or_ge r pos with h2 | h2
            · exact HFT.out r h2
            · exact HZ.out r h2 (by omega), HQ0.out, HY1.out, HBR.out⟩, fun i hi => .inl hi⟩
  case done =>
    rintro D pos F A hD hc ⟨rfl, hat, hft, x0, x1, hB⟩ hk
    have HDN : Hid ((w.heap.size + 1) < D ∧ w.heap.size ≤ D) := hidp (by have := HX1.out.lt; omega)
    have hpe : pos = H.p := by
      rw [ht.can_eq hat] at hc
      have := hat.le
      have := of_decide_eq_false hc
      omega
    subst hpe
    obtain rfl : b = true := bool_yes hb hft
    have HK := hidp hk
    have HXR := hidp x1
    have HB := hidp hB
    obtain ⟨g1, f1⟩ := x1.one
    clear hk x0 x1 hB hD hat hc hft
    go_wp2_with fail
    refine mark_end rfl ((Below.heap_setCell _ _ _ _ (by have := HDN.out; simp; omega)).trans HK.out) ?_
    have z1 := (HXR.out.put1 (.bool true)).shut (o' := .deferred none) ((Below.heap_setCell A ⟨(w.heap.size + 1), 0, none⟩ (.bool true) _ (by have := HDN.out; simp; omega)).trans HK.out) rfl
    obtain ⟨z2, z3⟩ := z1.one
    refine bodyPost_ret (v := .bool true) (by simp [results, Tryz.results43, go_sem, z2]) rfl ⟨rfl, ?_⟩
    exact shutB (Bput HB.out (by simp) _) ((Below.heap_setCell A ⟨(w.heap.size + 1), 0, none⟩ (.bool true) _ (by have := HDN.out; simp; omega)).trans HK.out) rfl HDN.out.2
  case stop =>
    rintro D c A hD ⟨rfl, hb0, x1, hB⟩ hk
    have HDN : Hid (w.heap.size ≤ D) := hidp (by have := HX1.out.lt; omega)
    go_wp2_with fail
    refine mark_end rfl hk ?_
    obtain ⟨z2, z3⟩ := (x1.shut (o' := .deferred none) hk rfl).one
    rw [hb0]
    refine bodyPost_ret (v := .bool false) (by simp [results, Tryz.results43, go_sem, z2]) rfl ⟨rfl, ?_⟩
    exact shutB hB hk rfl HDN.out
end
end Go.Proofs.YtbaofpdjfoaiiaaGreatDoor

/-
  Rule 9: how many pages are free, and how many blocks live. Written by audit/gen_r9.py.
-/
namespace Go.Proofs.YtbaofpdjfoaiiaaGreatDoor
open Go.ChangeShapes Go.WideShapes Go.ChangeAt Go.RowKit Go.Shelf
set_option linter.unusedVariables false
set_option linter.unusedSimpArgs false

namespace AuH
variable (H : AuH)
def freeF (q : Nat) : Nat := if H.K q = 1 then H.ln q else 0
def liveF (q : Nat) : Nat := if H.K q = 2 then 1 else if H.K q = 3 then HM.onesTo (H.cel q 4) 32 else 0
/-- rule 9 -/
def R9 : Prop := H.V 0 = sumTo H.freeF H.p % 4294967296 ∧ H.V 1 = sumTo H.liveF H.p % 4294967296
variable {H}
theorem freeF_no {q : Nat} (h : H.K q = 0) : H.freeF q = 0 := by unfold freeF; rw [if_neg (by omega)]
theorem liveF_no {q : Nat} (h : H.K q = 0) : H.liveF q = 0 := by unfold liveF; rw [if_neg (by omega), if_neg (by omega)]
theorem freeF_le (q : Nat) : H.freeF q ≤ 1024 := by
  unfold freeF
  split
  · exact (H.ln_pos q (by omega)).2
  · omega
theorem liveF_le (q : Nat) : H.liveF q ≤ 32 := by
  unfold liveF
  split
  · omega
  · split
    · exact HM.onesTo_le _ _
    · omega
theorem sums_le (x : Nat) (hx : x ≤ 1024) : sumTo H.freeF x ≤ 1048576 ∧ sumTo H.liveF x ≤ 32768 := by
  have h1 := sumTo_le H.freeF 1024 x (fun q _ => freeF_le q)
  have h2 := sumTo_le H.liveF 32 x (fun q _ => liveF_le q)
  have h3 : x * 1024 ≤ 1024 * 1024 := Nat.mul_le_mul_right _ hx
  have h4 : x * 32 ≤ 1024 * 32 := Nat.mul_le_mul_right _ hx
  omega
end AuH
section
attribute [local go_sem] Oper.semAt_some

set_option maxHeartbeats 3200000 in
set_option maxRecDepth 100000 in
theorem auHasCounts_c {H : AuH} {n c : Nat} (HV : HeapV H n c) (ht : H.Tiled) (ad : Addr) (b : Bool) (hb : b = true ↔ H.R9) (w : World) (hv : IsVals w ad n H.V) :
    Calls Tryz.prog 47 #[hpV H ad n c] w fun e w' => e = .returned (.bool b) ∧ Below w.heap.size w w' := by
  have HVL := hidp hv
  have HP : H.p ≤ 1024 := HV.nums.2.2.2.1
  refine calls_of_wp_mark Tryz.func47 rfl ?_
  unfold hpV
  simp only [Tryz.ntmps47, List.size_toArray, List.length_cons, List.length_nil, Nat.reduceAdd, Nat.reduceSub, Array.replicate_succ, Array.replicate_zero, List.push_toArray, List.append_toArray, List.nil_append, List.cons_append]
  have HX0 := hidp (((Held.new w 47 #[.int .i64 (H.t : Int), .int .i64 (H.p : Int), .int .i64 (H.s : Int), .slice (some ad) n c]).alloc (.cells #[.int .i64 0] 3)).alloc (.cells #[.int .i64 0] 3))
  have HX1 := hidp ((Held.new (w.alloc (.cells #[.int .i64 (H.t : Int), .int .i64 (H.p : Int), .int .i64 (H.s : Int), .slice (some ad) n c] 47)) 3 #[.int .i64 0]).alloc (.cells #[.int .i64 0] 3))
  rw [World.size_alloc] at HX1
  have HX2 := hidp (Held.new ((w.alloc (.cells #[.int .i64 (H.t : Int), .int .i64 (H.p : Int), .int .i64 (H.s : Int), .slice (some ad) n c] 47)).alloc (.cells #[.int .i64 0] 3)) 3 #[.int .i64 0])
  rw [World.size_alloc, World.size_alloc] at HX2
  have HBW := hidp (Bnew (Bnew (Bnew (B0 w) (.cells #[.int .i64 (H.t : Int), .int .i64 (H.p : Int), .int .i64 (H.s : Int), .slice (some ad) n c] 47)) (.cells #[.int .i64 0] 3)) (.cells #[.int .i64 0] 3))
  go_wp2_with fail
  generalize ((w.alloc (.cells #[.int .i64 (H.t : Int), .int .i64 (H.p : Int), .int .i64 (H.s : Int), .slice (some ad) n c] 47)).alloc (.cells #[.int .i64 0] 3)).alloc (.cells #[.int .i64 0] 3) = W3 at *
  refine wp_seq (w0 := w) (gf := 70) (bound := #[hpV H ad n c]) (enc := encS H) (can := H.can) (next := H.nx) rfl (enters_of Tryz.func70 (by kernel_rfl) rfl) (auSpans_seq HV ad w HVL.out) HBW.out (fun _ => rfl)
    (fun pos F A => F = (fun i => i = (w.heap.size + 1) ∨ i = (w.heap.size + 1 + 1)) ∧ H.At pos ∧ Held A w.heap.size 47 #[.int .i64 (H.t : Int), .int .i64 (H.p : Int), .int .i64 (H.s : Int), .slice (some ad) n c] ∧ Held A (w.heap.size + 1) 3 #[.int .i64 (AuH.sumTo H.freeF pos : Nat)] ∧ Held A (w.heap.size + 1 + 1) 3 #[.int .i64 (AuH.sumTo H.liveF pos : Nat)] ∧ Below w.heap.size w A)
    (fun c A => False)
    ?hI ?hIx ?hIB ?hIF (F0 := (fun i => i = (w.heap.size + 1) ∨ i = (w.heap.size + 1 + 1))) ⟨rfl, .zero, HX0.out, HX1.out, HX2.out, HBW.out⟩ ?round ?done ?stop
  case hI => rintro pos F A B ⟨h1, h2, h4, h5, h6, h7⟩ hm; exact ⟨h1, h2, hm.held h4, hm.held h5, hm.held h6, hm.below h7 HBW.out.size⟩
  case hIx => rintro c A B h hm; exact h
  case hIB => rintro pos F A ⟨h1, h2, h4, h5, h6, h7⟩; exact h7
  case hIF => rintro pos F A ⟨rfl, h2, h4, h5, h6, h7⟩ i (rfl | rfl); exact ⟨_, h5, rfl⟩; exact ⟨_, h6, rfl⟩
  case round =>
    rintro l pos F A hc ⟨rfl, hat, x0, x1, x2, hB⟩ hsz
    unfold encS
    gi_wp2_with fail
    refine ⟨Bnew (B0 A) _, fun A2 hM hs => ?_⟩
    have HN := hidp (hM.held (Held.new A 66 #[.int .i64 (H.K pos), .int .i64 (H.ln pos : Int), .int .i64 (H.Cl pos)]))
    have HX0 := hidp (hM.held (x0.alloc (.cells #[.int .i64 (H.K pos), .int .i64 (H.ln pos : Int), .int .i64 (H.Cl pos)] 66)))
    have HX1 := hidp (hM.held (x1.alloc (.cells #[.int .i64 (H.K pos), .int .i64 (H.ln pos : Int), .int .i64 (H.Cl pos)] 66)))
    have HX2 := hidp (hM.held (x2.alloc (.cells #[.int .i64 (H.K pos), .int .i64 (H.ln pos : Int), .int .i64 (H.Cl pos)] 66)))
    have HB := hidp (hM.below (Bnew hB (.cells #[.int .i64 (H.K pos), .int .i64 (H.ln pos : Int), .int .i64 (H.Cl pos)] 66)) HBW.out.size)
    have HAT := hidp hat
    have HC := hidp hc
    obtain ⟨hlt, hk0, hle⟩ := (H.can_iff pos).1 hc
    have HLT := hidp hlt
    have HS1 := hidp (ht.sum hat hlt (fun q _ h => AuH.freeF_no h))
    have HS2 := hidp (ht.sum hat hlt (fun q _ h => AuH.liveF_no h))
    have hs1 := AuH.sums_le (H := H) pos (by omega)
    have hf1 := AuH.freeF_le (H := H) pos
    have hf2 := AuH.liveF_le (H := H) pos
    have HVR := hidp (HVL.out.below HB.out)
    clear hM x0 x1 x2 hB hat hc hs hsz hle
    have hkc := H.K_cases pos
    have hfree : H.K pos = 1 → H.freeF pos = H.ln pos := fun h => by unfold AuH.freeF; rw [if_pos h]
    have hfree0 : H.K pos ≠ 1 → H.freeF pos = 0 := fun h => by unfold AuH.freeF; rw [if_neg h]
    have hlive0 : H.K pos = 1 → H.liveF pos = 0 := fun h => by unfold AuH.liveF; rw [if_neg (by omega), if_neg (by omega)]
    have hlive2 : H.K pos = 2 → H.liveF pos = 1 := fun h => by unfold AuH.liveF; rw [if_pos h]
    have hlive3 : H.K pos = 3 → H.liveF pos = HM.onesTo (H.cel pos 4) 32 := fun h => by unfold AuH.liveF; rw [if_neg (by omega), if_pos h]
    generalize H.freeF pos = f1 at *
    generalize H.liveF pos = f2 at *
    generalize AuH.sumTo H.freeF pos = y1 at *
    generalize AuH.sumTo H.liveF pos = y2 at *
    obtain ⟨c0, c1, c2, c3⟩ := HX0.out.four
    obtain ⟨e1, e2⟩ := HX1.out.one
    obtain ⟨e3, e4⟩ := HX2.out.one
    rcases hkc with hk | ⟨hk | hk, hl1, hl2, _⟩ | ⟨hk, hl1, hcl⟩
    · exact absurd hk.1 hk0
    · obtain rfl := hfree hk
      obtain rfl := hlive0 hk
      clear hfree hfree0 hlive0 hlive2 hlive3 hk0
      rw [hk] at HN
      obtain ⟨d0, d1, d2⟩ := HN.out.three
      generalize H.ln pos = m at *
      gi_wp2_with fail
      have HT5 := (T0 (fun i => i = (w.heap.size + 1) ∨ i = (w.heap.size + 1 + 1)) A2).put (p := ⟨(w.heap.size + 1), 0, none⟩) (.inl rfl) (.int .i64 ((y1 : Int) + m))
      refine ⟨HT5, _, ⟨rfl, .step HAT.out HC.out, HT5.held HX0.out (by omega), ?_, ?_, HT5.below HB.out (by omega)⟩, fun i hi => .inl hi⟩
      · rw [HS1.out]; have := HX1.out.put1 (.int .i64 ((y1 : Int) + m)); push_cast; exact this
      · rw [HS2.out]; exact HX2.out.far (by simp) _
    · obtain rfl := hfree0 (by omega)
      obtain rfl := hlive2 hk
      clear hfree hfree0 hlive0 hlive2 hlive3 hk0
      rw [hk] at HN
      obtain ⟨d0, d1, d2⟩ := HN.out.three
      gi_wp2_with fail
      have HT5 := (T0 (fun i => i = (w.heap.size + 1) ∨ i = (w.heap.size + 1 + 1)) A2).put (p := ⟨(w.heap.size + 1 + 1), 0, none⟩) (.inr rfl) (.int .i64 ((y2 : Int) + 1))
      refine ⟨HT5, _, ⟨rfl, .step HAT.out HC.out, HT5.held HX0.out (by omega), ?_, ?_, HT5.below HB.out (by omega)⟩, fun i hi => .inl hi⟩
      · rw [HS1.out]; exact HX1.out.far (by simp) _
      · rw [HS2.out]; have := HX2.out.put1 (.int .i64 ((y2 : Int) + 1)); push_cast; exact this
    · obtain rfl := hfree0 (by omega)
      obtain rfl := hlive3 hk
      clear hfree hfree0 hlive0 hlive2 hlive3 hk0 hcl
      rw [hk] at HN
      obtain ⟨d0, d1, d2⟩ := HN.out.three
      obtain ⟨sl, hsl⟩ : ∃ sl, H.cel pos 4 = sl := ⟨_, rfl⟩
      have HES := hidp hsl
      have hsl32 := HV.cel_lt HLT.out (show 4 < 6 by omega)
      rw [hsl] at hsl32 HS2
      rw [hsl] at hf2
      clear hsl
      have HON : Hid (∀ W : World, Calls Tryz.prog 90 #[.int .u32 (sl : Int)] W fun e w' => e = .returned (.int .i64 ((HM.onesTo sl 32 : Nat) : Int)) ∧ W = w') := hidp (Ones_c sl hsl32)
      generalize HM.onesTo sl 32 = on at *
      have sw : IntKind.i64.wrap ((y2 : Int) + on) = (y2 : Int) + on := i64_same (by omega) (by omega)
      gi_wp2_with fail
      refine wp_region_round (S := (fun w' => w'.cell? ⟨w.heap.size, 0, none⟩ = some (.int .i64 (H.t : Int)) ∧ w'.cell? ⟨w.heap.size, 1, none⟩ = some (.int .i64 (H.p : Int)) ∧ w'.cell? ⟨w.heap.size, 2, none⟩ = some (.int .i64 (H.s : Int)) ∧ w'.cell? ⟨w.heap.size, 3, none⟩ = some (.slice (some ad) n c))) (by kernel_rfl) (by kernel_rfl) (fun _ _ h => h) ?_ (fun hHeld => ?_)
      · (try dsimp only)
        first | exact HX0.out.drew.four | exact HQ4.out.four | exact (HQ4.out.far (p := ⟨w.heap.size + 1 + 1, 0, none⟩) (by simp; omega) _).four | exact hHeld | trivial
      refine tkO (i := 1) (v := ?_) rfl (by kernel_rfl) (fun _ _ _ h => h) (by rfl) ?_ (by assumption) ?_
      rotate_left
      · intro w hSw; (try dsimp only at hSw); go_simp; (try with_reducible rfl)
      (try simp only [Act.put, gA, gB, gC, sA, sB, sC])
      refine tkO (i := 2) (v := ?_) rfl (by kernel_rfl) (fun _ _ _ h => h) (by rfl) ?_ (by assumption) ?_
      rotate_left
      · intro w hSw; (try dsimp only at hSw); go_simp; (try with_reducible rfl)
      (try simp only [Act.put, gA, gB, gC, sA, sB, sC])
      refine wpAnyH_ready (rs := [0, 3]) (by kernel_rfl) (by simp) ?_
      refine (AllReadyH.cons (o := _) rfl (fun K hK => ?_) (AllReadyH.cons (o := _) rfl (fun K hK => ?_) AllReadyH.nil))
      · go_simp
        refine hK.out _ _ ?_ (fun hHeld => ?_)
        · (try dsimp only)
          first | exact HX0.out.drew.four | exact HQ4.out.four | exact (HQ4.out.far (p := ⟨w.heap.size + 1 + 1, 0, none⟩) (by simp; omega) _).four | exact hHeld | trivial
        clear hK K
        (try simp only [Act.put, gA, gB, gC, sA, sB, sC])
        refine wpAnyH_ready (rs := [3]) (by kernel_rfl) (by simp) ?_
        refine AllReadyH.cons (o := _) rfl (fun K hK => ?_) AllReadyH.nil
        go_simp
        (go_at_call 77; refine (auAt_Slots_c HV ad HLT.out _ HVR.out.drew).mono ?_; rintro e w4 ⟨rfl, hb4⟩; rw [HES.out]; have HQ4 := hidp (HX0.out.drew.keep hb4); have HT4 := hidp ((T0 (fun i => i = (w.heap.size + 1) ∨ i = (w.heap.size + 1 + 1)) A2).drew.trans (Turns.of_below hb4 _)); have HY4 := hidp (HX2.out.drew.keep hb4); have HY3 := hidp (HX1.out.drew.keep hb4); clear hb4; obtain ⟨e3, e4⟩ := HY4.out.one)
        refine hK.out _ _ ?_ (fun hHeld => ?_)
        · (try dsimp only)
          first | exact HX0.out.drew.four | exact HQ4.out.four | exact (HQ4.out.far (p := ⟨w.heap.size + 1 + 1, 0, none⟩) (by simp; omega) _).four | exact hHeld | trivial
        clear hK K
        (try simp only [Act.put, gA, gB, gC, sA, sB, sC])
        refine wpAnyH_ready (rs := [4]) (by kernel_rfl) (by simp) ?_
        refine AllReadyH.cons (o := _) rfl (fun K hK => ?_) AllReadyH.nil
        go_simp
        (go_at_call 90; refine (HON.out _).mono ?_; rintro e w5 ⟨rfl, rfl⟩)
        refine hK.out _ _ ?_ (fun hHeld => ?_)
        · (try dsimp only)
          first | exact HX0.out.drew.four | exact HQ4.out.four | exact (HQ4.out.far (p := ⟨w.heap.size + 1 + 1, 0, none⟩) (by simp; omega) _).four | exact hHeld | trivial
        clear hK K
        (try simp only [Act.put, gA, gB, gC, sA, sB, sC])
        refine tkO (i := 5) (v := ?_) rfl (by kernel_rfl) (fun _ _ _ h => h) (by rfl) ?_ (by assumption) ?_
        rotate_left
        · intro w hSw; (try dsimp only at hSw); go_simp; (try with_reducible rfl)
        (try simp only [Act.put, gA, gB, gC, sA, sB, sC])
        refine wpAnyH_ready (rs := [6]) (by kernel_rfl) (by simp) ?_
        refine AllReadyH.cons (o := _) rfl (fun K hK => ?_) AllReadyH.nil
        go_simp
        skip
        refine hK.out _ _ ?_ (fun hHeld => ?_)
        · (try dsimp only)
          first | exact HX0.out.drew.four | exact HQ4.out.four | exact (HQ4.out.far (p := ⟨w.heap.size + 1 + 1, 0, none⟩) (by simp; omega) _).four | exact hHeld | trivial
        clear hK K
        (try simp only [Act.put, gA, gB, gC, sA, sB, sC])
        refine wpAnyH_done (by kernel_rfl) ?_ _
        gi_wp2
        have HT5 := HT4.out.put (p := ⟨(w.heap.size + 1 + 1), 0, none⟩) (.inr rfl) (.int .i64 ((y2 : Int) + on))
        refine ⟨HT5, _, ⟨rfl, .step HAT.out HC.out, HT5.held HX0.out (by omega), ?_, ?_, HT5.below HB.out (by omega)⟩, fun i hi => .inl hi⟩
        · rw [HS1.out]; exact HY3.out.far (by simp) _
        · rw [HS2.out]; have := HY4.out.put1 (.int .i64 ((y2 : Int) + on)); push_cast; exact this
      · go_simp
        (go_at_call 77; refine (auAt_Slots_c HV ad HLT.out _ HVR.out.drew).mono ?_; rintro e w4 ⟨rfl, hb4⟩; rw [HES.out]; have HQ4 := hidp (HX0.out.drew.keep hb4); have HT4 := hidp ((T0 (fun i => i = (w.heap.size + 1) ∨ i = (w.heap.size + 1 + 1)) A2).drew.trans (Turns.of_below hb4 _)); have HY4 := hidp (HX2.out.drew.keep hb4); have HY3 := hidp (HX1.out.drew.keep hb4); clear hb4; obtain ⟨e3, e4⟩ := HY4.out.one)
        refine hK.out _ _ ?_ (fun hHeld => ?_)
        · (try dsimp only)
          first | exact HX0.out.drew.four | exact HQ4.out.four | exact (HQ4.out.far (p := ⟨w.heap.size + 1 + 1, 0, none⟩) (by simp; omega) _).four | exact hHeld | trivial
        clear hK K
        (try simp only [Act.put, gA, gB, gC, sA, sB, sC])
        refine wpAnyH_ready (rs := [0, 4]) (by kernel_rfl) (by simp) ?_
        refine (AllReadyH.cons (o := _) rfl (fun K hK => ?_) (AllReadyH.cons (o := _) rfl (fun K hK => ?_) AllReadyH.nil))
        · go_simp
          refine hK.out _ _ ?_ (fun hHeld => ?_)
          · (try dsimp only)
            first | exact HX0.out.drew.four | exact HQ4.out.four | exact (HQ4.out.far (p := ⟨w.heap.size + 1 + 1, 0, none⟩) (by simp; omega) _).four | exact hHeld | trivial
          clear hK K
          (try simp only [Act.put, gA, gB, gC, sA, sB, sC])
          refine wpAnyH_ready (rs := [4]) (by kernel_rfl) (by simp) ?_
          refine AllReadyH.cons (o := _) rfl (fun K hK => ?_) AllReadyH.nil
          go_simp
          (go_at_call 90; refine (HON.out _).mono ?_; rintro e w5 ⟨rfl, rfl⟩)
          refine hK.out _ _ ?_ (fun hHeld => ?_)
          · (try dsimp only)
            first | exact HX0.out.drew.four | exact HQ4.out.four | exact (HQ4.out.far (p := ⟨w.heap.size + 1 + 1, 0, none⟩) (by simp; omega) _).four | exact hHeld | trivial
          clear hK K
          (try simp only [Act.put, gA, gB, gC, sA, sB, sC])
          refine tkO (i := 5) (v := ?_) rfl (by kernel_rfl) (fun _ _ _ h => h) (by rfl) ?_ (by assumption) ?_
          rotate_left
          · intro w hSw; (try dsimp only at hSw); go_simp; (try with_reducible rfl)
          (try simp only [Act.put, gA, gB, gC, sA, sB, sC])
          refine wpAnyH_ready (rs := [6]) (by kernel_rfl) (by simp) ?_
          refine AllReadyH.cons (o := _) rfl (fun K hK => ?_) AllReadyH.nil
          go_simp
          skip
          refine hK.out _ _ ?_ (fun hHeld => ?_)
          · (try dsimp only)
            first | exact HX0.out.drew.four | exact HQ4.out.four | exact (HQ4.out.far (p := ⟨w.heap.size + 1 + 1, 0, none⟩) (by simp; omega) _).four | exact hHeld | trivial
          clear hK K
          (try simp only [Act.put, gA, gB, gC, sA, sB, sC])
          refine wpAnyH_done (by kernel_rfl) ?_ _
          gi_wp2
          have HT5 := HT4.out.put (p := ⟨(w.heap.size + 1 + 1), 0, none⟩) (.inr rfl) (.int .i64 ((y2 : Int) + on))
          refine ⟨HT5, _, ⟨rfl, .step HAT.out HC.out, HT5.held HX0.out (by omega), ?_, ?_, HT5.below HB.out (by omega)⟩, fun i hi => .inl hi⟩
          · rw [HS1.out]; exact HY3.out.far (by simp) _
          · rw [HS2.out]; have := HY4.out.put1 (.int .i64 ((y2 : Int) + on)); push_cast; exact this
        · go_simp
          (go_at_call 90; refine (HON.out _).mono ?_; rintro e w5 ⟨rfl, rfl⟩)
          refine hK.out _ _ ?_ (fun hHeld => ?_)
          · (try dsimp only)
            first | exact HX0.out.drew.four | exact HQ4.out.four | exact (HQ4.out.far (p := ⟨w.heap.size + 1 + 1, 0, none⟩) (by simp; omega) _).four | exact hHeld | trivial
          clear hK K
          (try simp only [Act.put, gA, gB, gC, sA, sB, sC])
          refine wpAnyH_ready (rs := [0]) (by kernel_rfl) (by simp) ?_
          refine AllReadyH.cons (o := _) rfl (fun K hK => ?_) AllReadyH.nil
          go_simp
          skip
          refine hK.out _ _ ?_ (fun hHeld => ?_)
          · (try dsimp only)
            first | exact HX0.out.drew.four | exact HQ4.out.four | exact (HQ4.out.far (p := ⟨w.heap.size + 1 + 1, 0, none⟩) (by simp; omega) _).four | exact hHeld | trivial
          clear hK K
          (try simp only [Act.put, gA, gB, gC, sA, sB, sC])
          refine tkO (i := 5) (v := ?_) rfl (by kernel_rfl) (fun _ _ _ h => h) (by rfl) ?_ (by assumption) ?_
          rotate_left
          · intro w hSw; (try dsimp only at hSw); go_simp; (try with_reducible rfl)
          (try simp only [Act.put, gA, gB, gC, sA, sB, sC])
          refine wpAnyH_ready (rs := [6]) (by kernel_rfl) (by simp) ?_
          refine AllReadyH.cons (o := _) rfl (fun K hK => ?_) AllReadyH.nil
          go_simp
          skip
          refine hK.out _ _ ?_ (fun hHeld => ?_)
          · (try dsimp only)
            first | exact HX0.out.drew.four | exact HQ4.out.four | exact (HQ4.out.far (p := ⟨w.heap.size + 1 + 1, 0, none⟩) (by simp; omega) _).four | exact hHeld | trivial
          clear hK K
          (try simp only [Act.put, gA, gB, gC, sA, sB, sC])
          refine wpAnyH_done (by kernel_rfl) ?_ _
          gi_wp2
          have HT5 := HT4.out.put (p := ⟨(w.heap.size + 1 + 1), 0, none⟩) (.inr rfl) (.int .i64 ((y2 : Int) + on))
          refine ⟨HT5, _, ⟨rfl, .step HAT.out HC.out, HT5.held HX0.out (by omega), ?_, ?_, HT5.below HB.out (by omega)⟩, fun i hi => .inl hi⟩
          · rw [HS1.out]; exact HY3.out.far (by simp) _
          · rw [HS2.out]; have := HY4.out.put1 (.int .i64 ((y2 : Int) + on)); push_cast; exact this
  case done =>
    rintro D pos F A hD hc ⟨rfl, hat, x0, x1, x2, hB⟩ hk
    have HDN : Hid ((w.heap.size + 1) < D ∧ w.heap.size ≤ D) := hidp (by have := HX1.out.lt; omega)
    have hpe : pos = H.p := by
      rw [ht.can_eq hat] at hc
      have := hat.le
      have := of_decide_eq_false hc
      omega
    subst hpe
    have hs1 := AuH.sums_le (H := H) H.p HP
    have hn := HV.len
    have hv0 := (HVL.out.below hB).2 0 (by omega)
    have hv1 := (HVL.out.below hB).2 1 (by omega)
    have hl0 := HV.lt 0 (by omega)
    have hl1 := HV.lt 1 (by omega)
    have hR : b = true ↔ H.V 0 = AuH.sumTo H.freeF H.p ∧ H.V 1 = AuH.sumTo H.liveF H.p := by
      rw [hb]
      unfold AuH.R9
      rw [Nat.mod_eq_of_lt (by omega), Nat.mod_eq_of_lt (by omega)]
    generalize AuH.sumTo H.freeF H.p = y1 at *
    generalize AuH.sumTo H.liveF H.p = y2 at *
    generalize H.V 0 = v0 at *
    generalize H.V 1 = v1 at *
    have w1 : IntKind.u32.wrap (y1 : Int) = (y1 : Int) := wrap_nat32 _ (by omega)
    have w2 : IntKind.u32.wrap (y2 : Int) = (y2 : Int) := wrap_nat32 _ (by omega)
    have hcm : c ≤ 9223372036854775807 := HV.max
    have hnc := HV.cap
    have n0 : 0 < n := by omega
    have n1 : 1 < n := by omega
    have n2 : (1 : Int) < n := by omega
    have hv11 : A.cell? ⟨ad.block, ad.off + 1, none⟩ = some (.int .u32 (v1 : Int)) := hv1
    have hv00 : A.cell? ad = some (.int .u32 (v0 : Int)) := hv0
    have HK := hidp hk
    have HB := hidp hB
    have g0 := x0.four.2.2.2
    have g3 := x1.one.1
    have g4 := x2.one.1
    have HR := hidp hR
    clear hk x0 x1 x2 hB hD hat hc hn hR hb
    have HBE : Hid (Below w.heap.size w (A.drew.putObj D (.deferred none))) := hidp (shutB (Bdrew HB.out) HK.out rfl HDN.out.2)
    by_cases h1 : v0 = y1
    · have q0 : ((v0 : Int) == y1) = true := by simp; omega
      by_cases h2 : v1 = y2
      · have HBB : Hid (b = true) := hidp (bool_yes HR.out ⟨h1, h2⟩)
        have q1 : ((v1 : Int) == y2) = true := by simp; omega
        clear h1 h2
        go_wp2_with fail
        refine wp_region_held_drew (S := (fun w' => w'.cell? ⟨w.heap.size, 3, none⟩ = some (.slice (some ad) n c) ∧ w'.cell? ad = some (.int .u32 (v0 : Int)) ∧ w'.cell? ⟨ad.block, ad.off + 1, none⟩ = some (.int .u32 (v1 : Int)) ∧ w'.cell? ⟨(w.heap.size + 1), 0, none⟩ = some (.int .i64 (y1 : Int)) ∧ w'.cell? ⟨(w.heap.size + 1 + 1), 0, none⟩ = some (.int .i64 (y2 : Int)))) (by kernel_rfl) ?_ (fun hHeld => ?_)
        · (try dsimp only)
          first | exact ⟨g0, hv00, hv11, g3, g4⟩ | exact hHeld
        refine tkO (i := 0) (v := ?_) rfl (by kernel_rfl) (fun _ _ _ h => h) (by rfl) ?_ (by assumption) ?_
        rotate_left
        · intro w hSw; (try dsimp only at hSw); go_simp; (try with_reducible rfl)
        (try simp only [Act.put, gA, gB, gC, sA, sB, sC])
        refine tkO (i := 1) (v := ?_) rfl (by kernel_rfl) (fun _ _ _ h => h) (by rfl) ?_ (by assumption) ?_
        rotate_left
        · intro w hSw; (try dsimp only at hSw); go_simp; (try with_reducible rfl)
        (try simp only [Act.put, gA, gB, gC, sA, sB, sC])
        refine tkO (i := 2) (v := ?_) rfl (by kernel_rfl) (fun _ _ _ h => h) (by rfl) ?_ (by assumption) ?_
        rotate_left
        · intro w hSw; (try dsimp only at hSw); go_simp; (try with_reducible rfl)
        (try simp only [Act.put, gA, gB, gC, sA, sB, sC])
        refine tkO (i := 3) (v := ?_) rfl (by kernel_rfl) (fun _ _ _ h => h) (by rfl) ?_ (by assumption) ?_
        rotate_left
        · intro w hSw; (try dsimp only at hSw); go_simp; (try with_reducible rfl)
        (try simp only [Act.put, gA, gB, gC, sA, sB, sC])
        refine tkO (i := 4) (v := ?_) rfl (by kernel_rfl) (fun _ _ _ h => h) (by rfl) ?_ (by assumption) ?_
        rotate_left
        · intro w hSw; (try dsimp only at hSw); go_simp; (try with_reducible rfl)
        (try simp only [Act.put, gA, gB, gC, sA, sB, sC])
        refine tkO (i := 5) (v := ?_) rfl (by kernel_rfl) (fun _ _ _ h => h) (by rfl) ?_ (by assumption) ?_
        rotate_left
        · intro w hSw; (try dsimp only at hSw); go_simp; (try with_reducible rfl)
        (try simp only [Act.put, gA, gB, gC, sA, sB, sC])
        refine tkO (i := 6) (v := ?_) rfl (by kernel_rfl) (fun _ _ _ h => h) (by rfl) ?_ (by assumption) ?_
        rotate_left
        · intro w hSw; (try dsimp only at hSw); go_simp; (try with_reducible rfl)
        (try simp only [Act.put, gA, gB, gC, sA, sB, sC])
        refine tkO (i := 7) (v := ?_) rfl (by kernel_rfl) (fun _ _ _ h => h) (by rfl) ?_ (by assumption) ?_
        rotate_left
        · intro w hSw; (try dsimp only at hSw); go_simp; (try with_reducible rfl)
        (try simp only [Act.put, gA, gB, gC, sA, sB, sC])
        refine tkO (i := 8) (v := ?_) rfl (by kernel_rfl) (fun _ _ _ h => h) (by rfl) ?_ (by assumption) ?_
        rotate_left
        · intro w hSw; (try dsimp only at hSw); go_simp; (try with_reducible rfl)
        (try simp only [Act.put, gA, gB, gC, sA, sB, sC])
        refine tkO (i := 9) (v := ?_) rfl (by kernel_rfl) (fun _ _ _ h => h) (by rfl) ?_ (by assumption) ?_
        rotate_left
        · intro w hSw; (try dsimp only at hSw); go_simp; (try with_reducible rfl)
        (try simp only [Act.put, gA, gB, gC, sA, sB, sC])
        refine tkO (i := 10) (v := ?_) rfl (by kernel_rfl) (fun _ _ _ h => h) (by rfl) ?_ (by assumption) ?_
        rotate_left
        · intro w hSw; (try dsimp only at hSw); go_simp; (try with_reducible rfl)
        (try simp only [Act.put, gA, gB, gC, sA, sB, sC])
        refine tkO (i := 11) (v := ?_) rfl (by kernel_rfl) (fun _ _ _ h => h) (by rfl) ?_ (by assumption) ?_
        rotate_left
        · intro w hSw; (try dsimp only at hSw); go_simp; (try with_reducible rfl)
        (try simp only [Act.put, gA, gB, gC, sA, sB, sC])
        refine tkO (i := 12) (v := ?_) rfl (by kernel_rfl) (fun _ _ _ h => h) (by rfl) ?_ (by assumption) ?_
        rotate_left
        · intro w hSw; (try dsimp only at hSw); go_simp; (try with_reducible rfl)
        (try simp only [Act.put, gA, gB, gC, sA, sB, sC])
        refine tkO (i := 13) (v := ?_) rfl (by kernel_rfl) (fun _ _ _ h => h) (by rfl) ?_ (by assumption) ?_
        rotate_left
        · intro w hSw; (try dsimp only at hSw); go_simp; (try with_reducible rfl)
        (try simp only [Act.put, gA, gB, gC, sA, sB, sC])
        refine tkO (i := 14) (v := ?_) rfl (by kernel_rfl) (fun _ _ _ h => h) (by rfl) ?_ (by assumption) ?_
        rotate_left
        · intro w hSw; (try dsimp only at hSw); go_simp; (try with_reducible rfl)
        (try simp only [Act.put, gA, gB, gC, sA, sB, sC])
        refine tkO (i := 15) (v := ?_) rfl (by kernel_rfl) (fun _ _ _ h => h) (by rfl) ?_ (by assumption) ?_
        rotate_left
        · intro w hSw; (try dsimp only at hSw); go_simp; (try with_reducible rfl)
        (try simp only [Act.put, gA, gB, gC, sA, sB, sC])
        refine tkO (i := 16) (v := ?_) rfl (by kernel_rfl) (fun _ _ _ h => h) (by rfl) ?_ (by assumption) ?_
        rotate_left
        · intro w hSw; (try dsimp only at hSw); go_simp; (try with_reducible rfl)
        (try simp only [Act.put, gA, gB, gC, sA, sB, sC])
        refine wpAnyH_done (by kernel_rfl) ?_ _
        go_wp2
        refine mark_end rfl HK.out ?_
        refine bodyPost_ret (results_tmp rfl _ _ _) rfl ?_
        exact ⟨by rw [HBB.out]; first | rfl | simp, HBE.out⟩
      · have HBB : Hid (b = false) := hidp (bool_no HR.out (fun h => h2 h.2))
        have q1 : ((v1 : Int) == y2) = false := by simp; omega
        clear h1 h2
        go_wp2_with fail
        refine wp_region_held_drew (S := (fun w' => w'.cell? ⟨w.heap.size, 3, none⟩ = some (.slice (some ad) n c) ∧ w'.cell? ad = some (.int .u32 (v0 : Int)) ∧ w'.cell? ⟨ad.block, ad.off + 1, none⟩ = some (.int .u32 (v1 : Int)) ∧ w'.cell? ⟨(w.heap.size + 1), 0, none⟩ = some (.int .i64 (y1 : Int)) ∧ w'.cell? ⟨(w.heap.size + 1 + 1), 0, none⟩ = some (.int .i64 (y2 : Int)))) (by kernel_rfl) ?_ (fun hHeld => ?_)
        · (try dsimp only)
          first | exact ⟨g0, hv00, hv11, g3, g4⟩ | exact hHeld
        refine tkO (i := 0) (v := ?_) rfl (by kernel_rfl) (fun _ _ _ h => h) (by rfl) ?_ (by assumption) ?_
        rotate_left
        · intro w hSw; (try dsimp only at hSw); go_simp; (try with_reducible rfl)
        (try simp only [Act.put, gA, gB, gC, sA, sB, sC])
        refine tkO (i := 1) (v := ?_) rfl (by kernel_rfl) (fun _ _ _ h => h) (by rfl) ?_ (by assumption) ?_
        rotate_left
        · intro w hSw; (try dsimp only at hSw); go_simp; (try with_reducible rfl)
        (try simp only [Act.put, gA, gB, gC, sA, sB, sC])
        refine tkO (i := 2) (v := ?_) rfl (by kernel_rfl) (fun _ _ _ h => h) (by rfl) ?_ (by assumption) ?_
        rotate_left
        · intro w hSw; (try dsimp only at hSw); go_simp; (try with_reducible rfl)
        (try simp only [Act.put, gA, gB, gC, sA, sB, sC])
        refine tkO (i := 3) (v := ?_) rfl (by kernel_rfl) (fun _ _ _ h => h) (by rfl) ?_ (by assumption) ?_
        rotate_left
        · intro w hSw; (try dsimp only at hSw); go_simp; (try with_reducible rfl)
        (try simp only [Act.put, gA, gB, gC, sA, sB, sC])
        refine tkO (i := 4) (v := ?_) rfl (by kernel_rfl) (fun _ _ _ h => h) (by rfl) ?_ (by assumption) ?_
        rotate_left
        · intro w hSw; (try dsimp only at hSw); go_simp; (try with_reducible rfl)
        (try simp only [Act.put, gA, gB, gC, sA, sB, sC])
        refine tkO (i := 5) (v := ?_) rfl (by kernel_rfl) (fun _ _ _ h => h) (by rfl) ?_ (by assumption) ?_
        rotate_left
        · intro w hSw; (try dsimp only at hSw); go_simp; (try with_reducible rfl)
        (try simp only [Act.put, gA, gB, gC, sA, sB, sC])
        refine tkO (i := 6) (v := ?_) rfl (by kernel_rfl) (fun _ _ _ h => h) (by rfl) ?_ (by assumption) ?_
        rotate_left
        · intro w hSw; (try dsimp only at hSw); go_simp; (try with_reducible rfl)
        (try simp only [Act.put, gA, gB, gC, sA, sB, sC])
        refine tkO (i := 7) (v := ?_) rfl (by kernel_rfl) (fun _ _ _ h => h) (by rfl) ?_ (by assumption) ?_
        rotate_left
        · intro w hSw; (try dsimp only at hSw); go_simp; (try with_reducible rfl)
        (try simp only [Act.put, gA, gB, gC, sA, sB, sC])
        refine tkO (i := 8) (v := ?_) rfl (by kernel_rfl) (fun _ _ _ h => h) (by rfl) ?_ (by assumption) ?_
        rotate_left
        · intro w hSw; (try dsimp only at hSw); go_simp; (try with_reducible rfl)
        (try simp only [Act.put, gA, gB, gC, sA, sB, sC])
        refine tkO (i := 9) (v := ?_) rfl (by kernel_rfl) (fun _ _ _ h => h) (by rfl) ?_ (by assumption) ?_
        rotate_left
        · intro w hSw; (try dsimp only at hSw); go_simp; (try with_reducible rfl)
        (try simp only [Act.put, gA, gB, gC, sA, sB, sC])
        refine tkO (i := 10) (v := ?_) rfl (by kernel_rfl) (fun _ _ _ h => h) (by rfl) ?_ (by assumption) ?_
        rotate_left
        · intro w hSw; (try dsimp only at hSw); go_simp; (try with_reducible rfl)
        (try simp only [Act.put, gA, gB, gC, sA, sB, sC])
        refine tkO (i := 11) (v := ?_) rfl (by kernel_rfl) (fun _ _ _ h => h) (by rfl) ?_ (by assumption) ?_
        rotate_left
        · intro w hSw; (try dsimp only at hSw); go_simp; (try with_reducible rfl)
        (try simp only [Act.put, gA, gB, gC, sA, sB, sC])
        refine tkO (i := 12) (v := ?_) rfl (by kernel_rfl) (fun _ _ _ h => h) (by rfl) ?_ (by assumption) ?_
        rotate_left
        · intro w hSw; (try dsimp only at hSw); go_simp; (try with_reducible rfl)
        (try simp only [Act.put, gA, gB, gC, sA, sB, sC])
        refine tkO (i := 13) (v := ?_) rfl (by kernel_rfl) (fun _ _ _ h => h) (by rfl) ?_ (by assumption) ?_
        rotate_left
        · intro w hSw; (try dsimp only at hSw); go_simp; (try with_reducible rfl)
        (try simp only [Act.put, gA, gB, gC, sA, sB, sC])
        refine tkO (i := 14) (v := ?_) rfl (by kernel_rfl) (fun _ _ _ h => h) (by rfl) ?_ (by assumption) ?_
        rotate_left
        · intro w hSw; (try dsimp only at hSw); go_simp; (try with_reducible rfl)
        (try simp only [Act.put, gA, gB, gC, sA, sB, sC])
        refine tkO (i := 15) (v := ?_) rfl (by kernel_rfl) (fun _ _ _ h => h) (by rfl) ?_ (by assumption) ?_
        rotate_left
        · intro w hSw; (try dsimp only at hSw); go_simp; (try with_reducible rfl)
        (try simp only [Act.put, gA, gB, gC, sA, sB, sC])
        refine tkO (i := 16) (v := ?_) rfl (by kernel_rfl) (fun _ _ _ h => h) (by rfl) ?_ (by assumption) ?_
        rotate_left
        · intro w hSw; (try dsimp only at hSw); go_simp; (try with_reducible rfl)
        (try simp only [Act.put, gA, gB, gC, sA, sB, sC])
        refine wpAnyH_done (by kernel_rfl) ?_ _
        go_wp2
        refine mark_end rfl HK.out ?_
        refine bodyPost_ret (results_tmp rfl _ _ _) rfl ?_
        exact ⟨by rw [HBB.out]; first | rfl | simp, HBE.out⟩
    · have HBB : Hid (b = false) := hidp (bool_no HR.out (fun h => h1 h.1))
      have q0 : ((v0 : Int) == y1) = false := by simp; omega
      clear h1
      go_wp2_with fail
      refine wp_region_held_drew (S := (fun w' => w'.cell? ⟨w.heap.size, 3, none⟩ = some (.slice (some ad) n c) ∧ w'.cell? ad = some (.int .u32 (v0 : Int)) ∧ w'.cell? ⟨ad.block, ad.off + 1, none⟩ = some (.int .u32 (v1 : Int)) ∧ w'.cell? ⟨(w.heap.size + 1), 0, none⟩ = some (.int .i64 (y1 : Int)) ∧ w'.cell? ⟨(w.heap.size + 1 + 1), 0, none⟩ = some (.int .i64 (y2 : Int)))) (by kernel_rfl) ?_ (fun hHeld => ?_)
      · (try dsimp only)
        first | exact ⟨g0, hv00, hv11, g3, g4⟩ | exact hHeld
      refine tkO (i := 0) (v := ?_) rfl (by kernel_rfl) (fun _ _ _ h => h) (by rfl) ?_ (by assumption) ?_
      rotate_left
      · intro w hSw; (try dsimp only at hSw); go_simp; (try with_reducible rfl)
      (try simp only [Act.put, gA, gB, gC, sA, sB, sC])
      refine tkO (i := 1) (v := ?_) rfl (by kernel_rfl) (fun _ _ _ h => h) (by rfl) ?_ (by assumption) ?_
      rotate_left
      · intro w hSw; (try dsimp only at hSw); go_simp; (try with_reducible rfl)
      (try simp only [Act.put, gA, gB, gC, sA, sB, sC])
      refine tkO (i := 2) (v := ?_) rfl (by kernel_rfl) (fun _ _ _ h => h) (by rfl) ?_ (by assumption) ?_
      rotate_left
      · intro w hSw; (try dsimp only at hSw); go_simp; (try with_reducible rfl)
      (try simp only [Act.put, gA, gB, gC, sA, sB, sC])
      refine tkO (i := 3) (v := ?_) rfl (by kernel_rfl) (fun _ _ _ h => h) (by rfl) ?_ (by assumption) ?_
      rotate_left
      · intro w hSw; (try dsimp only at hSw); go_simp; (try with_reducible rfl)
      (try simp only [Act.put, gA, gB, gC, sA, sB, sC])
      refine tkO (i := 4) (v := ?_) rfl (by kernel_rfl) (fun _ _ _ h => h) (by rfl) ?_ (by assumption) ?_
      rotate_left
      · intro w hSw; (try dsimp only at hSw); go_simp; (try with_reducible rfl)
      (try simp only [Act.put, gA, gB, gC, sA, sB, sC])
      refine tkO (i := 5) (v := ?_) rfl (by kernel_rfl) (fun _ _ _ h => h) (by rfl) ?_ (by assumption) ?_
      rotate_left
      · intro w hSw; (try dsimp only at hSw); go_simp; (try with_reducible rfl)
      (try simp only [Act.put, gA, gB, gC, sA, sB, sC])
      refine tkO (i := 6) (v := ?_) rfl (by kernel_rfl) (fun _ _ _ h => h) (by rfl) ?_ (by assumption) ?_
      rotate_left
      · intro w hSw; (try dsimp only at hSw); go_simp; (try with_reducible rfl)
      (try simp only [Act.put, gA, gB, gC, sA, sB, sC])
      refine tkO (i := 7) (v := ?_) rfl (by kernel_rfl) (fun _ _ _ h => h) (by rfl) ?_ (by assumption) ?_
      rotate_left
      · intro w hSw; (try dsimp only at hSw); go_simp; (try with_reducible rfl)
      (try simp only [Act.put, gA, gB, gC, sA, sB, sC])
      refine skO (i := 8) rfl (by kernel_rfl) (fun _ _ _ h => h) (by rfl) (by assumption) ?_
      (try simp only [Act.put, gA, gB, gC, sA, sB, sC])
      refine skO (i := 9) rfl (by kernel_rfl) (fun _ _ _ h => h) (by rfl) (by assumption) ?_
      (try simp only [Act.put, gA, gB, gC, sA, sB, sC])
      refine skO (i := 10) rfl (by kernel_rfl) (fun _ _ _ h => h) (by rfl) (by assumption) ?_
      (try simp only [Act.put, gA, gB, gC, sA, sB, sC])
      refine skO (i := 11) rfl (by kernel_rfl) (fun _ _ _ h => h) (by rfl) (by assumption) ?_
      (try simp only [Act.put, gA, gB, gC, sA, sB, sC])
      refine skO (i := 12) rfl (by kernel_rfl) (fun _ _ _ h => h) (by rfl) (by assumption) ?_
      (try simp only [Act.put, gA, gB, gC, sA, sB, sC])
      refine skO (i := 13) rfl (by kernel_rfl) (fun _ _ _ h => h) (by rfl) (by assumption) ?_
      (try simp only [Act.put, gA, gB, gC, sA, sB, sC])
      refine skO (i := 14) rfl (by kernel_rfl) (fun _ _ _ h => h) (by rfl) (by assumption) ?_
      (try simp only [Act.put, gA, gB, gC, sA, sB, sC])
      refine tkO (i := 15) (v := ?_) rfl (by kernel_rfl) (fun _ _ _ h => h) (by rfl) ?_ (by assumption) ?_
      rotate_left
      · intro w hSw; (try dsimp only at hSw); go_simp; (try with_reducible rfl)
      (try simp only [Act.put, gA, gB, gC, sA, sB, sC])
      refine tkO (i := 16) (v := ?_) rfl (by kernel_rfl) (fun _ _ _ h => h) (by rfl) ?_ (by assumption) ?_
      rotate_left
      · intro w hSw; (try dsimp only at hSw); go_simp; (try with_reducible rfl)
      (try simp only [Act.put, gA, gB, gC, sA, sB, sC])
      refine wpAnyH_done (by kernel_rfl) ?_ _
      go_wp2
      refine mark_end rfl HK.out ?_
      refine bodyPost_ret (results_tmp rfl _ _ _) rfl ?_
      exact ⟨by rw [HBB.out]; first | rfl | simp, HBE.out⟩
  case stop =>
    rintro D c A hD h hk
    exact h.elim
end
end Go.Proofs.YtbaofpdjfoaiiaaGreatDoor

/-
  Rule 10: the roots. Written by audit/gen_r10.py.
-/
namespace Go.Proofs.YtbaofpdjfoaiiaaGreatDoor
open Go.ChangeShapes Go.WideShapes Go.ChangeAt Go.RowKit Go.Shelf
set_option linter.unusedVariables false
set_option linter.unusedSimpArgs false

theorem cellSame {w w' : World} {p : Addr} (h : w'.heap[p.block]? = w.heap[p.block]?) : w'.cell? p = w.cell? p := by unfold World.cell?; rw [h]
namespace AuH
variable (H : AuH)
/-- a live block begins at an address -/
def LiveAt (a : Int) : Prop := spotB H.t H.p H.s a = true ∧
  ((H.K (spotP H.t H.p H.s a).toNat = 2 ∧ spotO H.t H.p H.s a = 0) ∨
   (H.K (spotP H.t H.p H.s a).toNat = 3 ∧ slotB H.t H.p H.s (H.Cl (spotP H.t H.p H.s a).toNat) (spotO H.t H.p H.s a) = true ∧
     (H.cel (spotP H.t H.p H.s a).toNat 4).testBit (slotR H.t H.p H.s (H.Cl (spotP H.t H.p H.s a).toNat) (spotO H.t H.p H.s a)).toNat = true))
def R10 : Prop := ∀ i, i < 8 → H.V (22 + i) ≠ 0 → H.LiveAt (H.V (22 + i) : Int)
end AuH

set_option maxHeartbeats 3200000 in
set_option maxRecDepth 100000 in
theorem auIsLive_c {H : AuH} {n c : Nat} (HV : HeapV H n c) (ad : Addr) (a : Nat) (ha : a < 2 ^ 32) (b : Bool) (hb : b = true ↔ H.LiveAt a) (w : World) (hv : IsVals w ad n H.V) (hT : SlotsLaid w) :
    Calls Tryz.prog 91 #[hpV H ad n c, .int .i64 (a : Int)] w fun e w' => e = .returned (.bool b) ∧ Below w.heap.size w w' := by
  have HVL := hidp hv
  have HTL := hidp hT
  have HX0 := hidp (Held.new w 47 #[.int .i64 (H.t : Int), .int .i64 (H.p : Int), .int .i64 (H.s : Int), .slice (some ad) n c])
  obtain ⟨c0, c1, c2, c3⟩ := HX0.out.four
  have HBW := hidp (Bnew (B0 w) (.cells #[.int .i64 (H.t : Int), .int .i64 (H.p : Int), .int .i64 (H.s : Int), .slice (some ad) n c] 47))
  have HPG := hidp (fun W => adPage_c H.t H.p H.s (a : Int) (by omega) (by omega) W)
  have hlv : H.LiveAt a ↔ spotB H.t H.p H.s a = true ∧ ((H.K (spotP H.t H.p H.s a).toNat = 2 ∧ spotO H.t H.p H.s a = 0) ∨ (H.K (spotP H.t H.p H.s a).toNat = 3 ∧ slotB H.t H.p H.s (H.Cl (spotP H.t H.p H.s a).toNat) (spotO H.t H.p H.s a) = true ∧ (H.cel (spotP H.t H.p H.s a).toNat 4).testBit (slotR H.t H.p H.s (H.Cl (spotP H.t H.p H.s a).toNat) (spotO H.t H.p H.s a)).toNat = true)) := Iff.rfl
  have HBC : b = true ↔ _ := hb.trans hlv
  clear hv hT hb hlv
  unfold hpV
  cases hs : spotB H.t H.p H.s a
  · have HBF : Hid (b = false) := hidp (bool_no HBC (fun h => by rw [hs] at h; cases h.1))
    rw [hs] at HPG
    clear HBC hs
    go_enter Tryz.func91, Tryz.ntmps91
    go_wp2_with (first
        | (go_at_call 111; refine (HPG.out _).mono ?_; rintro e w1 ⟨rfl, hb1⟩; have HB1 := hidp (Bgo HBW.out hb1); have HX1 := hidp (HX0.out.keep hb1); have HV1 := hidp (HVL.out.below HB1.out); clear hb1 c0 c1 c2 c3; obtain ⟨c0, c1, c2, c3⟩ := HX1.out.four)
        | fail)
    go_ret
    exact ⟨by rw [HBF.out]; rfl, HB1.out⟩
  · obtain ⟨h1, h2, h3, h4, ⟨h5, h6⟩, h7, h8⟩ := spot_parts hs
    obtain ⟨_, ⟨h9, h10⟩, _⟩ := addr_parts h1
    obtain ⟨q, hqq⟩ : ∃ q : Nat, spotP H.t H.p H.s a = q := ⟨(spotP H.t H.p H.s a).toNat, by omega⟩
    obtain ⟨o, hoo⟩ : ∃ o : Nat, spotO H.t H.p H.s a = o := ⟨(spotO H.t H.p H.s a).toNat, by omega⟩
    rw [hs] at HPG HBC
    rw [hqq, hoo] at HPG HBC
    have hq : q < H.p := by omega
    have ho : o < 1048576 := by omega
    simp only [Int.toNat_natCast, true_and] at HBC
    clear hs h1 h2 h3 h4 h5 h6 h7 h8 h9 h10 hqq hoo
    have hkc := H.K_cases q
    have hie := H.info_eq q
    rw [H.L_ln] at hie
    have hok := H.ok_of q
    generalize H.ok q = okb at *
    generalize H.K q = k at *
    generalize H.ln q = m at *
    have hcl : 0 ≤ H.Cl q ∧ H.Cl q ≤ 8 := by omega
    have HSL := hidp (fun W => fun hT => adSlot_c H.t H.p H.s (H.Cl q) (o : Int) (by omega) (by omega) (by omega) (by omega) W hT)
    obtain ⟨sb, hsb⟩ : ∃ sb, slotB H.t H.p H.s (H.Cl q) (o : Int) = sb := ⟨_, rfl⟩
    have hsr : sb = true → ∃ i : Nat, i < 32 ∧ slotR H.t H.p H.s (H.Cl q) (o : Int) = i := fun h => by
      obtain ⟨_, i, h1, _, h2⟩ := slot_parts (hsb.trans h)
      exact ⟨i, Nat.lt_of_lt_of_le h1 (slotI_le _), h2⟩
    rw [hsb] at HSL HBC
    generalize slotR H.t H.p H.s (H.Cl q) (o : Int) = sr0 at *
    generalize H.Cl q = cl at *
    clear hsb
    have HEI : Hid (infoG (H.cel q 0) = (k, (m : Int), cl, okb)) := hidp hie
    clear hie
    rcases (by omega : k = 0 ∨ k = 2 ∨ k = 3 ∨ k = 1) with hk | hk | hk | hk
    · subst hk
      have HBF : Hid (b = false) := hidp (bool_no HBC (fun h => by rcases h with h | h <;> exact absurd h.1 (by omega)))
      clear HBC hok hkc hsr
      go_enter Tryz.func91, Tryz.ntmps91
      go_wp2_with (first
        | (go_at_call 111; refine (HPG.out _).mono ?_; rintro e w1 ⟨rfl, hb1⟩; have HB1 := hidp (Bgo HBW.out hb1); have HX1 := hidp (HX0.out.keep hb1); have HV1 := hidp (HVL.out.below HB1.out); clear hb1 c0 c1 c2 c3; obtain ⟨c0, c1, c2, c3⟩ := HX1.out.four)
        | (have hz0 := HEI.out; clear hz0; go_at_call 77; refine (auAt_Info_c HV ad hq _ HV1.out).mono ?_; rintro e w2 ⟨rfl, hb2⟩; have HB2 := hidp (Bgo HB1.out hb2); have HX2 := hidp (HX1.out.keep hb2); clear hb2)
        | (go_at_call 98; refine (inGet_c _ _ _ _ _ (HV.cel_lt hq (by omega)) HEI.out _).mono ?_; rintro e w3 ⟨rfl, hb3⟩; have HB3 := hidp (Bgo HB2.out hb3); have HX3 := hidp ((HX2.out.keep hb3).alloc (.cells #[.int .i64 0, .int .i64 (m : Int), .int .i64 cl] 66)); have HB3n := hidp (Bnew HB3.out (.cells #[.int .i64 0, .int .i64 (m : Int), .int .i64 cl] 66)); have HN3 := hidp (Held.new w3 66 #[.int .i64 0, .int .i64 (m : Int), .int .i64 cl]); clear hb3 HEI c0 c1 c2 c3; obtain ⟨c0, c1, c2, c3⟩ := HX3.out.four; obtain ⟨d0, d1, d2⟩ := HN3.out.three)
        | fail)
      go_ret
      exact ⟨by rw [HBF.out]; rfl, HB3n.out⟩
    · subst hk
      have HBF : Hid (((o : Int) == 0) = b) := hidp (by
        by_cases h0 : o = 0
        · rw [bool_yes HBC (.inl ⟨rfl, by omega⟩)]; simp; omega
        · rw [bool_no HBC (fun h => by rcases h with h | h; (exact h0 (by omega)); exact absurd h.1 (by omega))]; simp; omega)
      have t0 := HBF.out
      clear HBC hok hkc hsr
      go_enter Tryz.func91, Tryz.ntmps91
      go_wp2_with (first
        | (go_at_call 111; refine (HPG.out _).mono ?_; rintro e w1 ⟨rfl, hb1⟩; have HB1 := hidp (Bgo HBW.out hb1); have HX1 := hidp (HX0.out.keep hb1); have HV1 := hidp (HVL.out.below HB1.out); clear hb1 c0 c1 c2 c3; obtain ⟨c0, c1, c2, c3⟩ := HX1.out.four)
        | (have hz0 := HEI.out; clear hz0; go_at_call 77; refine (auAt_Info_c HV ad hq _ HV1.out).mono ?_; rintro e w2 ⟨rfl, hb2⟩; have HB2 := hidp (Bgo HB1.out hb2); have HX2 := hidp (HX1.out.keep hb2); clear hb2)
        | (go_at_call 98; refine (inGet_c _ _ _ _ _ (HV.cel_lt hq (by omega)) HEI.out _).mono ?_; rintro e w3 ⟨rfl, hb3⟩; have HB3 := hidp (Bgo HB2.out hb3); have HX3 := hidp ((HX2.out.keep hb3).alloc (.cells #[.int .i64 2, .int .i64 (m : Int), .int .i64 cl] 66)); have HB3n := hidp (Bnew HB3.out (.cells #[.int .i64 2, .int .i64 (m : Int), .int .i64 cl] 66)); have HN3 := hidp (Held.new w3 66 #[.int .i64 2, .int .i64 (m : Int), .int .i64 cl]); clear hb3 HEI c0 c1 c2 c3; obtain ⟨c0, c1, c2, c3⟩ := HX3.out.four; obtain ⟨d0, d1, d2⟩ := HN3.out.three)
        | fail)
      go_ret
      exact ⟨rfl, HB3n.out⟩
    · subst hk
      obtain ⟨sl, hsl⟩ : ∃ sl, H.cel q 4 = sl := ⟨_, rfl⟩
      have HES := hidp hsl
      have hsl32 := HV.cel_lt hq (show 4 < 6 by omega)
      rw [hsl] at hsl32 HBC
      clear hok hkc hsl
      cases sb
      · have HBF : Hid (b = false) := hidp (bool_no HBC (fun h => by rcases h with h | h; (exact absurd h.1 (by omega)); exact absurd h.2.1 (by simp)))
        clear HBC hsr
        go_enter Tryz.func91, Tryz.ntmps91
        go_wp2_with (first
        | (go_at_call 111; refine (HPG.out _).mono ?_; rintro e w1 ⟨rfl, hb1⟩; have HB1 := hidp (Bgo HBW.out hb1); have HX1 := hidp (HX0.out.keep hb1); have HV1 := hidp (HVL.out.below HB1.out); clear hb1 c0 c1 c2 c3; obtain ⟨c0, c1, c2, c3⟩ := HX1.out.four)
        | (have hz0 := HEI.out; clear hz0; go_at_call 77; refine (auAt_Info_c HV ad hq _ HV1.out).mono ?_; rintro e w2 ⟨rfl, hb2⟩; have HB2 := hidp (Bgo HB1.out hb2); have HX2 := hidp (HX1.out.keep hb2); clear hb2)
        | (go_at_call 98; refine (inGet_c _ _ _ _ _ (HV.cel_lt hq (by omega)) HEI.out _).mono ?_; rintro e w3 ⟨rfl, hb3⟩; have HB3 := hidp (Bgo HB2.out hb3); have HX3 := hidp ((HX2.out.keep hb3).alloc (.cells #[.int .i64 3, .int .i64 (m : Int), .int .i64 cl] 66)); have HB3n := hidp (Bnew HB3.out (.cells #[.int .i64 3, .int .i64 (m : Int), .int .i64 cl] 66)); have HN3 := hidp (Held.new w3 66 #[.int .i64 3, .int .i64 (m : Int), .int .i64 cl]); clear hb3 HEI c0 c1 c2 c3; obtain ⟨c0, c1, c2, c3⟩ := HX3.out.four; obtain ⟨d0, d1, d2⟩ := HN3.out.three)
        | (go_at_call 112; refine (HSL.out _ (HTL.out.below HB3n.out)).mono ?_; rintro e w4 ⟨rfl, hb4⟩; have HB4 := hidp (Bgo HB3n.out hb4); have HX4 := hidp (HX3.out.keep hb4); have HV4 := hidp (HVL.out.below HB4.out); clear hb4 c0 c1 c2 c3; obtain ⟨c0, c1, c2, c3⟩ := HX4.out.four)
        | fail)
        go_ret
        exact ⟨by rw [HBF.out]; rfl, HB4.out⟩
      · obtain ⟨sr, hsr2, rfl⟩ := hsr rfl
        clear hsr
        obtain ⟨z, hz⟩ : ∃ z, sl.testBit sr = z := ⟨_, rfl⟩
        have HZ := hidp hz
        have HBF : Hid (z = b) := hidp (by
          rw [Int.toNat_natCast, hz] at HBC
          cases z <;> cases b <;> simp at HBC ⊢)
        clear HBC hz
        go_enter Tryz.func91, Tryz.ntmps91
        go_wp2_with (first
        | (go_at_call 111; refine (HPG.out _).mono ?_; rintro e w1 ⟨rfl, hb1⟩; have HB1 := hidp (Bgo HBW.out hb1); have HX1 := hidp (HX0.out.keep hb1); have HV1 := hidp (HVL.out.below HB1.out); clear hb1 c0 c1 c2 c3; obtain ⟨c0, c1, c2, c3⟩ := HX1.out.four)
        | (have hz0 := HEI.out; clear hz0; go_at_call 77; refine (auAt_Info_c HV ad hq _ HV1.out).mono ?_; rintro e w2 ⟨rfl, hb2⟩; have HB2 := hidp (Bgo HB1.out hb2); have HX2 := hidp (HX1.out.keep hb2); clear hb2)
        | (go_at_call 98; refine (inGet_c _ _ _ _ _ (HV.cel_lt hq (by omega)) HEI.out _).mono ?_; rintro e w3 ⟨rfl, hb3⟩; have HB3 := hidp (Bgo HB2.out hb3); have HX3 := hidp ((HX2.out.keep hb3).alloc (.cells #[.int .i64 3, .int .i64 (m : Int), .int .i64 cl] 66)); have HB3n := hidp (Bnew HB3.out (.cells #[.int .i64 3, .int .i64 (m : Int), .int .i64 cl] 66)); have HN3 := hidp (Held.new w3 66 #[.int .i64 3, .int .i64 (m : Int), .int .i64 cl]); clear hb3 HEI c0 c1 c2 c3; obtain ⟨c0, c1, c2, c3⟩ := HX3.out.four; obtain ⟨d0, d1, d2⟩ := HN3.out.three)
        | (go_at_call 112; refine (HSL.out _ (HTL.out.below HB3n.out)).mono ?_; rintro e w4 ⟨rfl, hb4⟩; have HB4 := hidp (Bgo HB3n.out hb4); have HX4 := hidp (HX3.out.keep hb4); have HV4 := hidp (HVL.out.below HB4.out); clear hb4 c0 c1 c2 c3; obtain ⟨c0, c1, c2, c3⟩ := HX4.out.four)
        | (have hz0 := HES.out; clear hz0; go_at_call 77; refine (auAt_Slots_c HV ad hq _ HV4.out).mono ?_; rintro e w5 ⟨rfl, hb5⟩; rw [HES.out]; have HB5 := hidp (Bgo HB4.out hb5); clear hb5)
        | (go_at_call 113; refine (auHasSlot_c sl sr z hsl32 hsr2 HZ.out _).mono ?_; rintro e w6 ⟨rfl, rfl⟩)
        | fail)
        go_ret
        exact ⟨by rw [← HBF.out]; rfl, HB5.out⟩
    · subst hk
      have HBF : Hid (b = false) := hidp (bool_no HBC (fun h => by rcases h with h | h <;> exact absurd h.1 (by omega)))
      clear HBC hok hkc hsr
      go_enter Tryz.func91, Tryz.ntmps91
      go_wp2_with (first
        | (go_at_call 111; refine (HPG.out _).mono ?_; rintro e w1 ⟨rfl, hb1⟩; have HB1 := hidp (Bgo HBW.out hb1); have HX1 := hidp (HX0.out.keep hb1); have HV1 := hidp (HVL.out.below HB1.out); clear hb1 c0 c1 c2 c3; obtain ⟨c0, c1, c2, c3⟩ := HX1.out.four)
        | (have hz0 := HEI.out; clear hz0; go_at_call 77; refine (auAt_Info_c HV ad hq _ HV1.out).mono ?_; rintro e w2 ⟨rfl, hb2⟩; have HB2 := hidp (Bgo HB1.out hb2); have HX2 := hidp (HX1.out.keep hb2); clear hb2)
        | (go_at_call 98; refine (inGet_c _ _ _ _ _ (HV.cel_lt hq (by omega)) HEI.out _).mono ?_; rintro e w3 ⟨rfl, hb3⟩; have HB3 := hidp (Bgo HB2.out hb3); have HX3 := hidp ((HX2.out.keep hb3).alloc (.cells #[.int .i64 1, .int .i64 (m : Int), .int .i64 cl] 66)); have HB3n := hidp (Bnew HB3.out (.cells #[.int .i64 1, .int .i64 (m : Int), .int .i64 cl] 66)); have HN3 := hidp (Held.new w3 66 #[.int .i64 1, .int .i64 (m : Int), .int .i64 cl]); clear hb3 HEI c0 c1 c2 c3; obtain ⟨c0, c1, c2, c3⟩ := HX3.out.four; obtain ⟨d0, d1, d2⟩ := HN3.out.three)
        | fail)
      go_ret
      exact ⟨by rw [HBF.out]; rfl, HB3n.out⟩


def rootF (H : AuH) (k : Nat) (i : Nat) : Value := if i < k then .int .i64 (H.V (22 + i) : Nat) else .int .i64 0
def rootsV (H : AuH) : Value := .agg #[.int .i64 (H.V 22 : Nat), .int .i64 (H.V 23 : Nat), .int .i64 (H.V 24 : Nat), .int .i64 (H.V 25 : Nat), .int .i64 (H.V 26 : Nat), .int .i64 (H.V 27 : Nat), .int .i64 (H.V 28 : Nat), .int .i64 (H.V 29 : Nat)]

set_option maxHeartbeats 3200000 in
set_option maxRecDepth 100000 in
theorem auRoots_c {H : AuH} {n c : Nat} (HV : HeapV H n c) (ad : Addr) (w : World) (hv : IsVals w ad n H.V) :
    Calls Tryz.prog 32 #[hpV H ad n c] w fun e w' => e = .returned (rootsV H) ∧ Below w.heap.size w w' := by
  have HVL := hidp hv
  have hn := HV.nums
  have hnr : 30 ≤ n := by have := HV.len; omega
  have hcm : c ≤ 9223372036854775807 := hn.2.2.2.2.2.2.2.2
  have hnc := HV.cap
  have hbl : ad.block < w.heap.size := hv.1
  obtain ⟨W3, hW3⟩ : ∃ W3, ((w.alloc (.cells #[.int .i64 (H.t : Int), .int .i64 (H.p : Int), .int .i64 (H.s : Int), .slice (some ad) n c] 47)).alloc (.cells #[.int .i64 0, .int .i64 0, .int .i64 0, .int .i64 0, .int .i64 0, .int .i64 0, .int .i64 0, .int .i64 0] 31)).alloc (.cells #[.int .i64 0, .int .i64 0, .int .i64 0, .int .i64 0, .int .i64 0, .int .i64 0, .int .i64 0, .int .i64 0] 31) = W3 := ⟨_, rfl⟩
  have h0 := ((Held.new w 47 #[.int .i64 (H.t : Int), .int .i64 (H.p : Int), .int .i64 (H.s : Int), .slice (some ad) n c]).alloc (.cells #[.int .i64 0, .int .i64 0, .int .i64 0, .int .i64 0, .int .i64 0, .int .i64 0, .int .i64 0, .int .i64 0] 31)).alloc (.cells #[.int .i64 0, .int .i64 0, .int .i64 0, .int .i64 0, .int .i64 0, .int .i64 0, .int .i64 0, .int .i64 0] 31)
  have h1 := (Held.new (w.alloc (.cells #[.int .i64 (H.t : Int), .int .i64 (H.p : Int), .int .i64 (H.s : Int), .slice (some ad) n c] 47)) 31 #[.int .i64 0, .int .i64 0, .int .i64 0, .int .i64 0, .int .i64 0, .int .i64 0, .int .i64 0, .int .i64 0]).alloc (.cells #[.int .i64 0, .int .i64 0, .int .i64 0, .int .i64 0, .int .i64 0, .int .i64 0, .int .i64 0, .int .i64 0] 31)
  have h2 := Held.new ((w.alloc (.cells #[.int .i64 (H.t : Int), .int .i64 (H.p : Int), .int .i64 (H.s : Int), .slice (some ad) n c] 47)).alloc (.cells #[.int .i64 0, .int .i64 0, .int .i64 0, .int .i64 0, .int .i64 0, .int .i64 0, .int .i64 0, .int .i64 0] 31)) 31 #[.int .i64 0, .int .i64 0, .int .i64 0, .int .i64 0, .int .i64 0, .int .i64 0, .int .i64 0, .int .i64 0]
  have hbw := Bnew (Bnew (Bnew (B0 w) (.cells #[.int .i64 (H.t : Int), .int .i64 (H.p : Int), .int .i64 (H.s : Int), .slice (some ad) n c] 47)) (.cells #[.int .i64 0, .int .i64 0, .int .i64 0, .int .i64 0, .int .i64 0, .int .i64 0, .int .i64 0, .int .i64 0] 31)) (.cells #[.int .i64 0, .int .i64 0, .int .i64 0, .int .i64 0, .int .i64 0, .int .i64 0, .int .i64 0, .int .i64 0] 31)
  rw [World.size_alloc] at h1
  rw [World.size_alloc, World.size_alloc] at h2
  unfold hpV
  go_enter Tryz.func32, Tryz.ntmps32
  go_wp2_with fail
  rw [hW3] at h0 h1 h2 hbw
  have HX0 := hidp h0
  have HX1 := hidp h1
  have HR0 : Hid (RowF W3 (w.heap.size + 1 + 1) 31 8 8 (rootF H 0)) := hidp ⟨_, h2, by simp, by omega, by unfold maxLen; omega, fun i hi => by
    have e : rootF H 0 i = .int .i64 0 := by unfold rootF; rw [if_neg (by omega)]
    rw [e]
    rcases (by omega : i = 0 ∨ i = 1 ∨ i = 2 ∨ i = 3 ∨ i = 4 ∨ i = 5 ∨ i = 6 ∨ i = 7) with rfl | rfl | rfl | rfl | rfl | rfl | rfl | rfl <;> rfl⟩
  have HBW := hidp hbw
  clear h0 h1 h2 hbw hW3
  go_loopw [5] (fun u wr => ∃ k : Nat, k ≤ 8 ∧ u = .int .i64 (k : Int) ∧ Hid (Turns (fun i => i = w.heap.size + 1 + 1) W3 wr) ∧ Hid (RowF wr (w.heap.size + 1 + 1) 31 8 8 (rootF H k))) (fun u _ => 8 - (intOf u).toNat)
  case atStart => exact ⟨0, by omega, rfl, hidp (T0 _ _), HR0⟩
  case round =>
    clear HR0
    obtain ⟨k, hk, rfl, HT0, HR⟩ := hrel
    have HQ0 := hidp (HT0.out.held HX0.out (by omega))
    have HB := hidp (HT0.out.below HBW.out (by omega))
    by_cases hlt : k < 8
    · have t0 : decide ((k : Int) < 8) = true := decide_eq_true (by omega)
      have t8 : (k : Int) < 8 := by omega
      have HRT : Hid (nthI 22 8 1 (k : Int) = ((22 + k : Nat) : Int)) := hidp (by rw [nth_on (by omega) (by omega) (by omega)]; push_cast; omega)
      obtain ⟨c0, c1, c2, c3⟩ := HQ0.out.four
      have hin : 22 + k < n := by omega
      have hvk := (HVL.out.below HB.out).2 (22 + k) hin
      have hv32 := HV.lt (22 + k) hin
      have HRK := hidp (HR.out.congr (f' := rootF H k) (fun _ _ => rfl))
      have hrc := HR.out.cell hlt
      have hrf := HR.out.thawed k
      have HUP : Hid (∀ i, i < 8 → updF (rootF H k) k (.int .i64 (H.V (22 + k) : Nat)) i = rootF H (k + 1) i) := hidp (fun i hi => by
        unfold updF rootF
        by_cases e : i = k
        · subst e; rw [if_pos rfl, if_pos (by omega)]
        · rw [if_neg e]
          by_cases e2 : i < k
          · rw [if_pos e2, if_pos (by omega)]
          · rw [if_neg e2, if_neg (by omega)])
      have hr0 : rootF H k k = .int .i64 0 := by unfold rootF; rw [if_neg (by omega)]
      rw [hr0] at hrc
      obtain ⟨v, hvv⟩ : ∃ v, H.V (22 + k) = v := ⟨_, rfl⟩
      obtain ⟨ix, hHIX⟩ : ∃ ix, 22 + k = ix := ⟨_, rfl⟩
      rw [hHIX] at hin hvk HRT
      rw [← hHIX, hvv, hHIX] at hvk
      rw [hvv] at hv32 HUP
      have wv : IntKind.i64.wrap (v : Int) = (v : Int) := i64_same (by omega) (by omega)
      have HSV : Hid (∀ w', Turns (fun i => i = w.heap.size + 1 + 1) wr w' → (fun w' => w'.cell? ⟨w.heap.size, 3, none⟩ = some (.slice (some ad) n c) ∧ w'.cell? (ad.add ix) = some (.int .u32 (v : Int))) w') := hidp (fun w' hT => ⟨(hT.held HQ0.out (by omega)).four.2.2.2, by
        have e : (ad.add ix).block = ad.block := block_of_add _ _
        exact (cellSame (hT.block _ (by rw [e]; exact Nat.lt_of_lt_of_le hbl HB.out.size) (by rw [e]; omega))).trans hvk⟩)
      have HT9 : Hid (Turns (fun i => i = w.heap.size + 1 + 1) wr (wr.drew.setCell ⟨w.heap.size + 1 + 1, k, none⟩ (.int .i64 (v : Int)))) := hidp ((T0 (fun i => i = w.heap.size + 1 + 1) wr).drew.put (p := ⟨w.heap.size + 1 + 1, k, none⟩) rfl _)
      clear hvv hHIX
      go_wp2_with fail
      refine wp_region_held_drew (S := (fun w' => w'.cell? ⟨w.heap.size, 3, none⟩ = some (.slice (some ad) n c) ∧ w'.cell? (ad.add ix) = some (.int .u32 (v : Int)))) (by kernel_rfl) ?_ (fun hHeld => ?_)
      · (try dsimp only)
        first | exact ⟨c3, hvk⟩ | exact HSV.out _ HT9.out | exact hHeld
      refine tkO (i := 0) (v := ?_) rfl (by kernel_rfl) (fun _ _ _ h => h) (by rfl) ?_ (by assumption) ?_
      rotate_left
      · intro w hSw; (try dsimp only at hSw); go_simp; (try with_reducible rfl)
      (try simp only [Act.put, gA, gB, gC, sA, sB, sC])
      refine tkO (i := 1) (v := ?_) rfl (by kernel_rfl) (fun _ _ _ h => h) (by rfl) ?_ (by assumption) ?_
      rotate_left
      · intro w hSw; (try dsimp only at hSw); go_simp; (try with_reducible rfl)
      (try simp only [Act.put, gA, gB, gC, sA, sB, sC])
      refine tkO (i := 2) (v := ?_) rfl (by kernel_rfl) (fun _ _ _ h => h) (by rfl) ?_ (by assumption) ?_
      rotate_left
      · intro w hSw; (try dsimp only at hSw); go_simp; (try with_reducible rfl)
      (try simp only [Act.put, gA, gB, gC, sA, sB, sC])
      refine tkO (i := 3) (v := ?_) rfl (by kernel_rfl) (fun _ _ _ h => h) (by rfl) ?_ (by assumption) ?_
      rotate_left
      · intro w hSw; (try dsimp only at hSw); go_simp; (try with_reducible rfl)
      (try simp only [Act.put, gA, gB, gC, sA, sB, sC])
      refine wpAnyH_ready (rs := [4]) (by kernel_rfl) (by simp) ?_
      refine AllReadyH.cons (o := _) rfl (fun K hK => ?_) AllReadyH.nil
      go_simp
      (go_at_call 69; refine (plRoot_c _ _).mono ?_; rintro e w4 ⟨rfl, rfl⟩; rw [HRT.out])
      refine hK.out _ _ ?_ (fun hHeld => ?_)
      · (try dsimp only)
        first | exact ⟨c3, hvk⟩ | exact HSV.out _ HT9.out | exact hHeld
      clear hK K
      (try simp only [Act.put, gA, gB, gC, sA, sB, sC])
      refine tkO (i := 5) (v := ?_) rfl (by kernel_rfl) (fun _ _ _ h => h) (by rfl) ?_ (by assumption) ?_
      rotate_left
      · intro w hSw; (try dsimp only at hSw); go_simp; (try with_reducible rfl)
      (try simp only [Act.put, gA, gB, gC, sA, sB, sC])
      refine tkO (i := 6) (v := ?_) rfl (by kernel_rfl) (fun _ _ _ h => h) (by rfl) ?_ (by assumption) ?_
      rotate_left
      · intro w hSw; (try dsimp only at hSw); go_simp; (try with_reducible rfl)
      (try simp only [Act.put, gA, gB, gC, sA, sB, sC])
      refine tkO (i := 7) (v := ?_) rfl (by kernel_rfl) (fun _ _ _ h => h) (by rfl) ?_ (by assumption) ?_
      rotate_left
      · intro w hSw; (try dsimp only at hSw); go_simp; (try with_reducible rfl)
      (try simp only [Act.put, gA, gB, gC, sA, sB, sC])
      refine tkO (i := 8) (v := ?_) rfl (by kernel_rfl) (fun _ _ _ h => h) (by rfl) ?_ (by assumption) ?_
      rotate_left
      · intro w hSw; (try dsimp only at hSw); go_simp; (try with_reducible rfl)
      (try simp only [Act.put, gA, gB, gC, sA, sB, sC])
      refine wpAnyH_ready (rs := [9]) (by kernel_rfl) (by simp) ?_
      refine AllReadyH.cons (o := _) rfl (fun K hK => ?_) AllReadyH.nil
      go_simp
      skip
      refine hK.out _ _ ?_ (fun hHeld => ?_)
      · (try dsimp only)
        first | exact ⟨c3, hvk⟩ | exact HSV.out _ HT9.out | exact hHeld
      clear hK K
      (try simp only [Act.put, gA, gB, gC, sA, sB, sC])
      refine wpAnyH_done (by kernel_rfl) ?_ _
      go_wp2
      go_roundw
      case rel => exact ⟨k + 1, by omega, by go_num, hidp (HT0.out.trans HT9.out), hidp ((HR.out.put (w := wr.drew) hlt (.int .i64 (v : Int))).congr HUP.out)⟩
      case measure => simp [intOf]; omega
    · have t0 : decide ((k : Int) < 8) = false := decide_eq_false (by omega)
      have hk8 : k = 8 := by omega
      subst hk8
      have hf : ∀ i, i < 8 → rootF H 8 i = .int .i64 (H.V (22 + i) : Nat) := fun i hi => by unfold rootF; rw [if_pos hi]
      have HQ1 := hidp (HT0.out.held HX1.out (by omega))
      have r0 := (HR.out.cell (show 0 < 8 by omega)).trans (congrArg some (hf 0 (by omega)))
      have r1 := (HR.out.cell (show 1 < 8 by omega)).trans (congrArg some (hf 1 (by omega)))
      have r2 := (HR.out.cell (show 2 < 8 by omega)).trans (congrArg some (hf 2 (by omega)))
      have r3 := (HR.out.cell (show 3 < 8 by omega)).trans (congrArg some (hf 3 (by omega)))
      have r4 := (HR.out.cell (show 4 < 8 by omega)).trans (congrArg some (hf 4 (by omega)))
      have r5 := (HR.out.cell (show 5 < 8 by omega)).trans (congrArg some (hf 5 (by omega)))
      have r6 := (HR.out.cell (show 6 < 8 by omega)).trans (congrArg some (hf 6 (by omega)))
      have r7 := (HR.out.cell (show 7 < 8 by omega)).trans (congrArg some (hf 7 (by omega)))
      have s0 := HQ1.out.cell 0
      have s1 := HQ1.out.cell 1
      have s2 := HQ1.out.cell 2
      have s3 := HQ1.out.cell 3
      have s4 := HQ1.out.cell 4
      have s5 := HQ1.out.cell 5
      have s6 := HQ1.out.cell 6
      have s7 := HQ1.out.cell 7
      have f0 := HQ1.out.thawed 0
      have f1 := HQ1.out.thawed 1
      have f2 := HQ1.out.thawed 2
      have f3 := HQ1.out.thawed 3
      have f4 := HQ1.out.thawed 4
      have f5 := HQ1.out.thawed 5
      have f6 := HQ1.out.thawed 6
      have f7 := HQ1.out.thawed 7
      simp only [List.getElem?_toArray, List.getElem?_cons_zero, List.getElem?_cons_succ] at s0 s1 s2 s3 s4 s5 s6 s7
      have HBE := hidp (HB.out)
      go_wp2_with fail
      have z := ((((((((HQ1.out.put 0 (.int .i64 (H.V 22 : Nat))).put 1 (.int .i64 (H.V 23 : Nat))).put 2 (.int .i64 (H.V 24 : Nat))).put 3 (.int .i64 (H.V 25 : Nat))).put 4 (.int .i64 (H.V 26 : Nat))).put 5 (.int .i64 (H.V 27 : Nat))).put 6 (.int .i64 (H.V 28 : Nat))).put 7 (.int .i64 (H.V 29 : Nat)))
      have y0 := z.cell 0
      have y1 := z.cell 1
      have y2 := z.cell 2
      have y3 := z.cell 3
      have y4 := z.cell 4
      have y5 := z.cell 5
      have y6 := z.cell 6
      have y7 := z.cell 7
      simp at y0 y1 y2 y3 y4 y5 y6 y7
      refine bodyPost_ret (v := rootsV H) (by simp [results, Tryz.results32, go_sem, rootsV, y0, y1, y2, y3, y4, y5, y6, y7]) rfl ⟨rfl, ?_⟩
      exact (Bput (Bput (Bput (Bput (Bput (Bput (Bput (Bput HBE.out (p := ⟨w.heap.size + 1, 0, none⟩) (by simp) (.int .i64 (H.V 22 : Nat))) (p := ⟨w.heap.size + 1, 1, none⟩) (by simp) (.int .i64 (H.V 23 : Nat))) (p := ⟨w.heap.size + 1, 2, none⟩) (by simp) (.int .i64 (H.V 24 : Nat))) (p := ⟨w.heap.size + 1, 3, none⟩) (by simp) (.int .i64 (H.V 25 : Nat))) (p := ⟨w.heap.size + 1, 4, none⟩) (by simp) (.int .i64 (H.V 26 : Nat))) (p := ⟨w.heap.size + 1, 5, none⟩) (by simp) (.int .i64 (H.V 27 : Nat))) (p := ⟨w.heap.size + 1, 6, none⟩) (by simp) (.int .i64 (H.V 28 : Nat))) (p := ⟨w.heap.size + 1, 7, none⟩) (by simp) (.int .i64 (H.V 29 : Nat)))
end Go.Proofs.YtbaofpdjfoaiiaaGreatDoor
