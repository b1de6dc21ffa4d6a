/-
  Which list each page belongs in. Written by audit/gen_lists.py.
-/
import Derived.Test.YtkbjckhbllmclaaGreatDoorT04
import Derived.Test.YtkbjckhbllmclaaGreatDoorT06
namespace Go.Proofs.YtkbjckhbllmclaaGreatDoor
open Go.ChangeShapes Go.WideShapes Go.ChangeAt Go.RowKit Go.Shelf
set_option linter.unusedVariables false
set_option linter.unusedSimpArgs false
section
namespace AuH
def tgt (H : AuH) (q : Nat) : Int := if H.K q = 1 then 2 + HM.logI (H.ln q : Int) else if H.K q = 3 ∧ H.cel q 5 ≠ 2 ^ slotI (H.Cl q) - 1 then 13 + H.Cl q else -1
variable {H : AuH}
theorem tgt_free {q : Nat} (h : H.K q = 1) : H.tgt q = 2 + HM.logI (H.ln q : Int) := by unfold tgt; rw [if_pos h]
theorem tgt_slab {q : Nat} (h : H.K q = 3) (h2 : H.cel q 5 ≠ 2 ^ slotI (H.Cl q) - 1) : H.tgt q = 13 + H.Cl q := by unfold tgt; rw [if_neg (by omega), if_pos ⟨h, h2⟩]
theorem tgt_full {q : Nat} (h : H.K q = 3) (h2 : H.cel q 5 = 2 ^ slotI (H.Cl q) - 1) : H.tgt q = -1 := by unfold tgt; rw [if_neg (by omega), if_neg (fun h3 => h3.2 h2)]
theorem tgt_used {q : Nat} (h : H.K q = 2) : H.tgt q = -1 := by unfold tgt; rw [if_neg (by omega), if_neg (by omega)]
theorem tgt_none {q : Nat} (h : H.K q = 0) : H.tgt q = -1 := by unfold tgt; rw [if_neg (by omega), if_neg (by omega)]
theorem log_few {n : Nat} (h1 : 1 ≤ n) (h2 : n ≤ 1024) : 0 ≤ HM.logI (n : Int) ∧ HM.logI (n : Int) ≤ 10 := by
  have h : ∃ k : Nat, k ≤ 10 ∧ 2 ^ k ≤ n ∧ n < 2 ^ (k + 1) := by
    rcases Nat.lt_or_ge n 1024 with h3 | h3
    · refine ⟨Nat.log2 n, ?_, Nat.log2_self_le (by omega), Nat.lt_log2_self⟩
      have := Nat.log2_lt (n := n) (k := 10) (by omega)
      have := this.2 h3
      omega
    · exact ⟨10, by omega, by omega, by omega⟩
  obtain ⟨k, hk, ha, hb⟩ := h
  rw [HM.logI_at (n : Int) k (by
    have e : ((n : Int) / 2 ^ k) = ((n / 2 ^ k : Nat) : Int) := by push_cast; rfl
    rw [e]
    have := Nat.div_le_div_right (c := 2 ^ k) ha
    rw [Nat.div_self (Nat.two_pow_pos k)] at this
    omega) (by
    have e : ((n : Int) / 2 ^ (k + 1)) = ((n / 2 ^ (k + 1) : Nat) : Int) := by push_cast; rfl
    rw [e, Nat.div_eq_of_lt hb]
    omega)]
  omega
def lsTo (H : AuH) (x i : Nat) : Int := if i < x then H.tgt i else -1
theorem lsTo_step (ht : H.Tiled) {a : Nat} (ha : H.At a) (h0 : a < H.p) {i : Nat} (hi : i < H.p) : H.lsTo (H.nx a) i = if i = a then H.tgt a else H.lsTo a i := by
  have hn := H.nx_gt (ht.at_can ha h0)
  unfold lsTo
  rcases Nat.lt_trichotomy i a with h | h | h
  · rw [if_pos (by omega), if_neg (by omega), if_pos h]
  · subst h; rw [if_pos hn.1, if_pos rfl]
  · rw [if_neg (show ¬ i = a by omega), if_neg (show ¬ i < a by omega)]
    rcases Nat.lt_or_ge i (H.nx a) with h2 | h2
    · rw [if_pos h2, tgt_none (ht.inside ha h0 h h2)]
    · rw [if_neg (by omega)]
end AuH
def IntsF (w : World) (g p : Nat) (f : Nat → Int) : Prop := ∃ cs, Held w g 3 cs ∧ cs.size = p ∧ ∀ i, i < p → cs[i]? = some (.int .i64 (f i))
theorem IntsF.at_ {w : World} {g p : Nat} {f : Nat → Int} (h : IntsF w g p f) {i : Nat} (hi : i < p) : w.cell? ⟨g, i, none⟩ = some (.int .i64 (f i)) := by
  obtain ⟨cs, h1, h2, h3⟩ := h
  exact (h1.cell i).trans (h3 i hi)
theorem IntsF.thawed {w : World} {g p : Nat} {f : Nat → Int} (h : IntsF w g p f) (i : Nat) : w.frozen? ⟨g, i, none⟩ = false := by
  obtain ⟨cs, h1, h2, h3⟩ := h
  exact h1.thawed i
theorem IntsF.lt {w : World} {g p : Nat} {f : Nat → Int} (h : IntsF w g p f) : g < w.heap.size := by obtain ⟨cs, h1, _⟩ := h; exact h1.lt
theorem IntsF.of {w w' : World} {g p : Nat} {f : Nat → Int} (h : IntsF w g p f) (hb : ∀ cs, Held w g 3 cs → Held w' g 3 cs) : IntsF w' g p f := by
  obtain ⟨cs, h1, h2, h3⟩ := h
  exact ⟨cs, hb cs h1, h2, h3⟩
theorem IntsF.keep {w w' : World} {g p : Nat} {f : Nat → Int} (h : IntsF w g p f) (hb : Below w.heap.size w w') : IntsF w' g p f := h.of fun cs h1 => h1.keep hb
theorem IntsF.drew {w : World} {g p : Nat} {f : Nat → Int} (h : IntsF w g p f) : IntsF w.drew g p f := h
theorem IntsF.same {w : World} {g p : Nat} {f f' : Nat → Int} (h : IntsF w g p f) (he : ∀ i, i < p → f i = f' i) : IntsF w g p f' := by
  obtain ⟨cs, h1, h2, h3⟩ := h
  exact ⟨cs, h1, h2, fun i hi => by rw [← he i hi]; exact h3 i hi⟩
theorem IntsF.put {w : World} {g p : Nat} {f : Nat → Int} (h : IntsF w g p f) {k : Nat} (hk : k < p) (u : Int) : IntsF (w.setCell ⟨g, k, none⟩ (.int .i64 u)) g p (fun i => if i = k then u else f i) := by
  obtain ⟨cs, h1, h2, h3⟩ := h
  refine ⟨_, h1.put k (.int .i64 u), by simp; exact h2, fun i hi => ?_⟩
  by_cases e : i = k
  · subst e; simp [h2, hi]
  · rw [Array.getElem?_setIfInBounds_ne (by omega), h3 i hi]
    show _ = some (Value.int .i64 (if i = k then u else f i))
    rw [if_neg e]
section
attribute [local go_sem] Oper.semAt_some

set_option maxHeartbeats 6400000 in
set_option maxRecDepth 100000 in
theorem auLists_c {H : AuH} {n c : Nat} (HV : HeapV H n c) (ht : H.Tiled) (ad : Addr) (w : World) (hv : IsVals w ad n H.V) (hT : SlotsLaid w) :
    Calls Tryz.prog 109 #[hpV H ad n c] w fun e w' => ∃ g, e = .returned (.slice (some ⟨g, 0, none⟩) H.p H.p) ∧ IntsF w' g H.p H.tgt ∧ w.heap.size ≤ g ∧ Below w.heap.size w w' := by
  have HTL := hidp hT
  have HVL := hidp hv
  have hn := HV.nums
  have HP : H.p ≤ 1024 := hn.2.2.2.1
  refine calls_of_wp_mark Tryz.func109 rfl ?_
  unfold hpV
  simp only [Tryz.ntmps109, List.size_toArray, List.length_cons, List.length_nil, Nat.reduceAdd, Nat.reduceSub, Array.replicate_succ, Array.replicate_zero, List.push_toArray, List.append_toArray, List.nil_append, List.cons_append]
  have HX0 := hidp ((Held.new w 51 #[.int .i64 (H.t : Int), .int .i64 (H.p : Int), .int .i64 (H.s : Int), .slice (some ad) n c]).alloc (.cells #[.int .i64 (-1)] 3))
  have hr0 := Held.new (w.alloc (.cells #[.int .i64 (H.t : Int), .int .i64 (H.p : Int), .int .i64 (H.s : Int), .slice (some ad) n c] 51)) 3 #[.int .i64 (-1)]
  rw [World.size_alloc] at hr0
  have HB0 := hidp (Bnew (Bnew (B0 w) (.cells #[.int .i64 (H.t : Int), .int .i64 (H.p : Int), .int .i64 (H.s : Int), .slice (some ad) n c] 51)) (.cells #[.int .i64 (-1)] 3))
  go_wp2_with (first
    | (go_at_call 125; refine (repeat_c (-1) (w.heap.size + 1) H.p (by omega) (by omega) _ hr0).mono ?_; rintro e w2 ⟨g, cs, rfl, hh2, hs2, hc2, hg2, hb2⟩; have HR2 : Hid (IntsF w2 g H.p (H.lsTo 0)) := hidp ⟨cs, hh2, hs2, fun i hi => by rw [hc2 i hi]; unfold AuH.lsTo; rw [if_neg (by omega)]⟩; have HX02 := hidp (HX0.out.keep hb2); obtain ⟨z0, z1, z2, z3⟩ := (HX02.out.alloc (.cells #[.slice (some ⟨g, 0, none⟩) H.p H.p] 81)).four; have HB2 := hidp (Bgo HB0.out hb2); have HG2 : Hid (w.heap.size + 1 < g) := hidp (by simp at hg2; omega); clear hh2 hs2 hc2 hg2 hb2)
    | fail)
  have HX0' := hidp (HX02.out.alloc (.cells #[.slice (some ⟨g, 0, none⟩) H.p H.p] 81))
  have HX1 := hidp (Held.new w2 81 #[.slice (some ⟨g, 0, none⟩) H.p H.p])
  have HX2 := hidp (HR2.out.keep (Bnew (B0 w2) (.cells #[.slice (some ⟨g, 0, none⟩) H.p H.p] 81)))
  have HBW := hidp (Bnew HB2.out (.cells #[.slice (some ⟨g, 0, none⟩) H.p H.p] 81))
  have HNE : Hid (w.heap.size + 1 < g ∧ g < w2.heap.size) := hidp ⟨HG2.out, HR2.out.lt⟩
  clear HX0 HX02 HR2 HB0 HB2 hr0 z0 z1 z2 z3
  generalize w2.alloc (.cells #[.slice (some ⟨g, 0, none⟩) H.p H.p] 81) = W3 at *
  obtain ⟨gb, hgb⟩ : ∃ gb, w2.heap.size = gb := ⟨_, rfl⟩
  rw [hgb] at HX1 HNE ⊢
  clear hgb HG2
  refine wp_seq (w0 := w) (gf := 29) (bound := #[hpV H ad n c]) (enc := encS H) (can := H.can) (next := H.nx) rfl (enters_of Tryz.func29 (by kernel_rfl) rfl) (auSpans_seq HV ad w HVL.out) HBW.out (fun _ => rfl)
    (fun pos F A => F = (fun i => i = g) ∧ H.At pos ∧ Held A w.heap.size 51 #[.int .i64 (H.t : Int), .int .i64 (H.p : Int), .int .i64 (H.s : Int), .slice (some ad) n c] ∧ Held A gb 81 #[.slice (some ⟨g, 0, none⟩) H.p H.p] ∧ IntsF A g H.p (H.lsTo pos) ∧ Below w.heap.size w A)
    (fun c A => False)
    ?hI ?hIx ?hIB ?hIF (F0 := (fun i => i = g)) ⟨rfl, .zero, HX0'.out, HX1.out, HX2.out, HBW.out⟩ ?round ?done ?stop
  case hI => rintro pos F A B ⟨h1, h2, h4, h5, h6, h7⟩ hm; exact ⟨h1, h2, hm.held h4, hm.held h5, h6.of (fun cs h => hm.held h), hm.below h7 HBW.out.size⟩
  case hIx => rintro c A B h hm; exact h
  case hIB => rintro pos F A ⟨h1, h2, h4, h5, h6, h7⟩; exact h7
  case hIF => rintro pos F A ⟨rfl, h2, h4, h5, ⟨cs, h6, _⟩, h7⟩ i rfl; exact ⟨_, h6, rfl⟩
  case round =>
    rintro l pos F A hc ⟨rfl, hat, x0, x1, x2, hB⟩ hsz
    unfold encS
    have HAL : Hid (gb < A.heap.size ∧ g < A.heap.size) := hidp ⟨x1.lt, x2.lt⟩
    gi_wp2_with fail
    refine ⟨Bnew (B0 A) _, fun A2 hM hs => ?_⟩
    have HN := hidp (hM.held (Held.new A 63 #[.int .i64 (H.K pos), .int .i64 (H.ln pos : Int), .int .i64 (H.Cl pos)]))
    have HX0 := hidp (hM.held (x0.alloc (.cells #[.int .i64 (H.K pos), .int .i64 (H.ln pos : Int), .int .i64 (H.Cl pos)] 63)))
    have HX1 := hidp (hM.held (x1.alloc (.cells #[.int .i64 (H.K pos), .int .i64 (H.ln pos : Int), .int .i64 (H.Cl pos)] 63)))
    have HB := hidp (hM.below (Bnew hB (.cells #[.int .i64 (H.K pos), .int .i64 (H.ln pos : Int), .int .i64 (H.Cl pos)] 63)) HBW.out.size)
    have HI := hidp ((x2.keep (Bnew (B0 A) (.cells #[.int .i64 (H.K pos), .int .i64 (H.ln pos : Int), .int .i64 (H.Cl pos)] 63))).of (fun cs h => hM.held h))
    have HAT := hidp hat
    have HC := hidp hc
    obtain ⟨hlt, hk0, hle⟩ := (H.can_iff pos).1 hc
    have HLT := hidp hlt
    have HLS := hidp (fun i => AuH.lsTo_step ht hat hlt (i := i))
    have HVR := hidp (HVL.out.below HB.out)
    have HTLR := hidp (HTL.out.below HB.out)
    clear hM x0 x1 x2 hB hat hc hs hsz hle
    have hkc := H.K_cases pos
    have hlog := fun h1 h2 => AuH.log_few (n := H.ln pos) h1 h2
    have htf := AuH.tgt_free (H := H) (q := pos)
    have htu := AuH.tgt_used (H := H) (q := pos)
    have hts := AuH.tgt_slab (H := H) (q := pos)
    have hte := AuH.tgt_full (H := H) (q := pos)
    have HCS : Hid (0 ≤ H.Cl pos → H.Cl pos ≤ 8 → ∀ W, SlotsLaid W → Calls Tryz.prog 105 #[.int .i64 (H.Cl pos)] W fun e w' => e = .returned (.int .u32 ((2 ^ slotI (H.Cl pos) - 1 : Nat) : Int)) ∧ W = w') := hidp (fun h1 h2 W h => auSlotBits_c (H.Cl pos) (by omega) (by omega) W h)
    have hsb := mask_lt32 _ (slotI_le (H.Cl pos))
    generalize 2 ^ slotI (H.Cl pos) - 1 = sb at *
    obtain ⟨tk, htk⟩ : ∃ tk, H.cel pos 5 = tk := ⟨_, rfl⟩
    have HET := hidp htk
    rw [htk] at hts hte
    clear htk
    generalize hkk : H.K pos = kk at *
    generalize H.ln pos = m at *
    generalize H.Cl pos = cl at *
    have HS : Hid (∀ w', Turns (fun i => i = g) A2 w' → (fun w' => w'.cell? ⟨w.heap.size, 0, none⟩ = some (.int .i64 (H.t : Int)) ∧ w'.cell? ⟨w.heap.size, 1, none⟩ = some (.int .i64 (H.p : Int)) ∧ w'.cell? ⟨w.heap.size, 2, none⟩ = some (.int .i64 (H.s : Int)) ∧ w'.cell? ⟨w.heap.size, 3, none⟩ = some (.slice (some ad) n c) ∧ w'.cell? ⟨gb, 0, none⟩ = some (.slice (some ⟨g, 0, none⟩) H.p H.p) ∧ w'.cell? ⟨A.heap.size, 0, none⟩ = some (.int .i64 kk) ∧ w'.cell? ⟨A.heap.size, 1, none⟩ = some (.int .i64 (m : Int)) ∧ w'.cell? ⟨A.heap.size, 2, none⟩ = some (.int .i64 cl)) w') := hidp (fun w' hT => by
      have h0 := (hT.held HX0.out (by have := HNE.out; omega)).four
      have h1 := (hT.held HX1.out (by have := HNE.out; omega)).one.1
      have h2 := (hT.held HN.out (by have := HAL.out; omega)).three
      exact ⟨h0.1, h0.2.1, h0.2.2.1, h0.2.2.2, h1, h2.1, h2.2.1, h2.2.2⟩)
    obtain ⟨c0, c1, c2, c3, c4, d0, d1, d2⟩ := HS.out A2 (T0 _ _)
    clear hkk
    have HTG : Hid (∀ u w', IntsF w' g H.p (fun i => if i = pos then u else H.lsTo pos i) → u = H.tgt pos → IntsF w' g H.p (H.lsTo (H.nx pos))) := hidp (fun u w' h e => h.same (fun i hi => by rw [HLS.out i hi, e]))
    rcases hkc with hk | ⟨hk | hk, hl1, hl2, -⟩ | ⟨hk, hl1, hcl1, hcl2⟩
    · exact absurd hk.1 hk0
    · subst hk
      have hlg := hlog hl1 hl2
      have HTF := hidp (htf rfl)
      clear hlog htf htu hts hte hk0
      have hbi : nthI 2 11 1 (HM.logI (m : Int)) = 2 + HM.logI (m : Int) := by rw [nth_on (by omega) (by omega) (by omega)]; omega
      have HLG : Hid (∀ W : World, Calls Tryz.prog 126 #[.int .i64 (m : Int)] W fun e w' => e = .returned (.int .i64 (HM.logI (m : Int))) ∧ W = w') := hidp (Log_c (m : Int) (by omega) (by omega))
      generalize HM.logI (m : Int) = lg at *
      obtain ⟨y, hy⟩ : ∃ y : Int, 2 + lg = y := ⟨_, rfl⟩
      rw [hy] at hbi HTF
      have HBI := hidp hbi
      have HTS : Hid (Turns (fun i => i = g) A2 (A2.drew.setCell ⟨g, pos, none⟩ (.int .i64 y))) := hidp ((T0 (fun i => i = g) A2).drew.put (p := ⟨g, pos, none⟩) rfl _)
      have hcell : A2.drew.cell? ⟨g, pos, none⟩ = some (.int .i64 (H.lsTo pos pos)) := HI.out.at_ HLT.out
      have hfro : A2.drew.frozen? ⟨g, pos, none⟩ = false := HI.out.thawed pos
      clear hbi
      gi_wp2_with fail
      refine wp_region_round (S := (fun w' => w'.cell? ⟨w.heap.size, 0, none⟩ = some (.int .i64 (H.t : Int)) ∧ w'.cell? ⟨w.heap.size, 1, none⟩ = some (.int .i64 (H.p : Int)) ∧ w'.cell? ⟨w.heap.size, 2, none⟩ = some (.int .i64 (H.s : Int)) ∧ w'.cell? ⟨w.heap.size, 3, none⟩ = some (.slice (some ad) n c) ∧ w'.cell? ⟨gb, 0, none⟩ = some (.slice (some ⟨g, 0, none⟩) H.p H.p) ∧ w'.cell? ⟨A.heap.size, 0, none⟩ = some (.int .i64 1) ∧ w'.cell? ⟨A.heap.size, 1, none⟩ = some (.int .i64 (m : Int)) ∧ w'.cell? ⟨A.heap.size, 2, none⟩ = some (.int .i64 cl))) (by kernel_rfl) (by kernel_rfl) (fun _ _ h => h) ?_ (fun hHeld => ?_)
      · (try dsimp only)
        first | exact HS.out _ (T0 _ A2) | exact HS.out _ (T0 _ A2).drew | exact HS.out _ HTS.out | exact hHeld
      refine tkz 0 ?_
      refine tkz 1 ?_
      refine tkz 2 ?_
      refine tkz 3 ?_
      refine wpAnyH_ready (rs := [4]) (by kernel_rfl) (by simp) ?_
      refine AllReadyH.cons (o := _) rfl (fun K hK => ?_) AllReadyH.nil
      go_simp
      (go_at_call 126; refine (HLG.out _).mono ?_; rintro e w4 ⟨rfl, rfl⟩)
      refine hK.out _ _ ?_ (fun hHeld => ?_)
      · (try dsimp only)
        first | exact HS.out _ (T0 _ A2) | exact HS.out _ (T0 _ A2).drew | exact HS.out _ HTS.out | exact hHeld
      clear hK K
      (try simp only [Act.put, gA, gB, gC, sA, sB, sC])
      refine wpAnyH_ready (rs := [5]) (by kernel_rfl) (by simp) ?_
      refine AllReadyH.cons (o := _) rfl (fun K hK => ?_) AllReadyH.nil
      go_simp
      (go_at_call 107; refine (plBin_c _ _).mono ?_; rintro e w5 ⟨rfl, rfl⟩; rw [HBI.out])
      refine hK.out _ _ ?_ (fun hHeld => ?_)
      · (try dsimp only)
        first | exact HS.out _ (T0 _ A2) | exact HS.out _ (T0 _ A2).drew | exact HS.out _ HTS.out | exact hHeld
      clear hK K
      (try simp only [Act.put, gA, gB, gC, sA, sB, sC])
      refine tkz 6 ?_
      refine wpAnyH_ready (rs := [7]) (by kernel_rfl) (by simp) ?_
      refine AllReadyH.cons (o := _) rfl (fun K hK => ?_) AllReadyH.nil
      go_simp
      skip
      refine hK.out _ _ ?_ (fun hHeld => ?_)
      · (try dsimp only)
        first | exact HS.out _ (T0 _ A2) | exact HS.out _ (T0 _ A2).drew | exact HS.out _ HTS.out | exact hHeld
      clear hK K
      (try simp only [Act.put, gA, gB, gC, sA, sB, sC])
      refine wpAnyH_done (by kernel_rfl) ?_ _
      gi_wp2
      exact ⟨HTS.out, _, ⟨rfl, .step HAT.out HC.out, HTS.out.held HX0.out (by have := HNE.out; omega), HTS.out.held HX1.out (by have := HNE.out; omega), HTG.out _ _ (HI.out.put (w := A2.drew) HLT.out y) HTF.out.symm, HTS.out.below HB.out (by have := HNE.out; omega)⟩, fun i hi => .inl hi⟩
    · subst hk
      have HTU := hidp (htu rfl)
      clear hlog htf htu hts hte hk0
      gi_wp2_with fail
      refine wp_region_round (S := (fun w' => w'.cell? ⟨w.heap.size, 0, none⟩ = some (.int .i64 (H.t : Int)) ∧ w'.cell? ⟨w.heap.size, 1, none⟩ = some (.int .i64 (H.p : Int)) ∧ w'.cell? ⟨w.heap.size, 2, none⟩ = some (.int .i64 (H.s : Int)) ∧ w'.cell? ⟨w.heap.size, 3, none⟩ = some (.slice (some ad) n c) ∧ w'.cell? ⟨gb, 0, none⟩ = some (.slice (some ⟨g, 0, none⟩) H.p H.p) ∧ w'.cell? ⟨A.heap.size, 0, none⟩ = some (.int .i64 2) ∧ w'.cell? ⟨A.heap.size, 1, none⟩ = some (.int .i64 (m : Int)) ∧ w'.cell? ⟨A.heap.size, 2, none⟩ = some (.int .i64 cl))) (by kernel_rfl) (by kernel_rfl) (fun _ _ h => h) ?_ (fun hHeld => ?_)
      · (try dsimp only)
        first | exact HS.out _ (T0 _ A2) | exact HS.out _ (T0 _ A2).drew | exact hHeld
      refine tkz 0 ?_
      refine tkz 1 ?_
      refine tkz 2 ?_
      refine tkz 3 ?_
      refine skO (i := 4) rfl (by kernel_rfl) (fun _ _ _ h => h) (by rfl) (by assumption) ?_
      (try simp only [Act.put, gA, gB, gC, sA, sB, sC])
      refine skO (i := 5) rfl (by kernel_rfl) (fun _ _ _ h => h) (by rfl) (by assumption) ?_
      (try simp only [Act.put, gA, gB, gC, sA, sB, sC])
      refine skO (i := 6) rfl (by kernel_rfl) (fun _ _ _ h => h) (by rfl) (by assumption) ?_
      (try simp only [Act.put, gA, gB, gC, sA, sB, sC])
      refine skO (i := 7) rfl (by kernel_rfl) (fun _ _ _ h => h) (by rfl) (by assumption) ?_
      (try simp only [Act.put, gA, gB, gC, sA, sB, sC])
      refine skO (i := 8) rfl (by kernel_rfl) (fun _ _ _ h => h) (by rfl) (by assumption) ?_
      (try simp only [Act.put, gA, gB, gC, sA, sB, sC])
      refine skO (i := 9) rfl (by kernel_rfl) (fun _ _ _ h => h) (by rfl) (by assumption) ?_
      (try simp only [Act.put, gA, gB, gC, sA, sB, sC])
      refine skO (i := 10) rfl (by kernel_rfl) (fun _ _ _ h => h) (by rfl) (by assumption) ?_
      (try simp only [Act.put, gA, gB, gC, sA, sB, sC])
      refine tkz 11 ?_
      refine tkz 12 ?_
      refine wpAnyH_done (by kernel_rfl) ?_ _
      gi_wp2
      have HT9 := (T0 (fun i => i = g) A2).drew
      exact ⟨HT9, _, ⟨rfl, .step HAT.out HC.out, HT9.held HX0.out (by have := HNE.out; omega), HT9.held HX1.out (by have := HNE.out; omega), HTG.out (-1) _ (HI.out.same (fun i hi => by split; (rename_i h; subst h; unfold AuH.lsTo; rw [if_neg (by omega)]); rfl)) HTU.out.symm, HT9.below HB.out (by have := HNE.out; omega)⟩, fun i hi => .inl hi⟩
    · subst hk
      have HCS2 := hidp (HCS.out hcl1 hcl2)
      clear HCS
      have HCS := HCS2
      have hrk : nthI 13 9 1 cl = 13 + cl := by rw [nth_on (by omega) (by omega) (by omega)]; omega
      obtain ⟨y, hy⟩ : ∃ y : Int, 13 + cl = y := ⟨_, rfl⟩
      rw [hy] at hrk hts
      have HRK := hidp hrk
      have ht32 : tk < 2 ^ 32 := by rw [← HET.out]; exact HV.cel_lt HLT.out (by omega)
      clear hlog htf htu hk0 hrk
      by_cases hfull : tk = sb
      · have HTE := hidp (hte rfl hfull)
        have t0 : ((tk : Int) != (sb : Int)) = false := by simp; omega
        clear hte hts
        gi_wp2_with fail
        refine wp_region_round (S := (fun w' => w'.cell? ⟨w.heap.size, 0, none⟩ = some (.int .i64 (H.t : Int)) ∧ w'.cell? ⟨w.heap.size, 1, none⟩ = some (.int .i64 (H.p : Int)) ∧ w'.cell? ⟨w.heap.size, 2, none⟩ = some (.int .i64 (H.s : Int)) ∧ w'.cell? ⟨w.heap.size, 3, none⟩ = some (.slice (some ad) n c) ∧ w'.cell? ⟨gb, 0, none⟩ = some (.slice (some ⟨g, 0, none⟩) H.p H.p) ∧ w'.cell? ⟨A.heap.size, 0, none⟩ = some (.int .i64 3) ∧ w'.cell? ⟨A.heap.size, 1, none⟩ = some (.int .i64 (m : Int)) ∧ w'.cell? ⟨A.heap.size, 2, none⟩ = some (.int .i64 cl))) (by kernel_rfl) (by kernel_rfl) (fun _ _ h => h) ?_ (fun hHeld => ?_)
        · (try dsimp only)
          first | exact HS.out _ (T0 _ A2) | exact HS.out _ (T0 _ A2).drew | exact HS.out _ HT4.out | exact hHeld
        refine tkz 0 ?_
        refine tkz 1 ?_
        refine tkz 2 ?_
        refine tkz 3 ?_
        refine tkz 4 ?_
        refine tkz 5 ?_
        refine tkz 7 ?_
        refine tkz 8 ?_
        refine wpAnyH_ready (rs := [6]) (by kernel_rfl) (by simp) ?_
        refine AllReadyH.cons (o := _) rfl (fun K hK => ?_) AllReadyH.nil
        go_simp
        (go_at_call 49; refine (auAt_Taken_c HV ad HLT.out _ HVR.out.drew).mono ?_; rintro e w4 ⟨rfl, hb4⟩; rw [HET.out]; have HT4 := hidp ((T0 (fun i => i = g) A2).drew.trans (Turns.of_below hb4 _)); have HI4 := hidp (HI.out.drew.keep hb4); have HTL4 := hidp (HTLR.out.drew.below hb4); clear hb4)
        refine hK.out _ _ ?_ (fun hHeld => ?_)
        · (try dsimp only)
          first | exact HS.out _ (T0 _ A2) | exact HS.out _ (T0 _ A2).drew | exact HS.out _ HT4.out | exact hHeld
        clear hK K
        (try simp only [Act.put, gA, gB, gC, sA, sB, sC])
        refine wpAnyH_ready (rs := [9]) (by kernel_rfl) (by simp) ?_
        refine AllReadyH.cons (o := _) rfl (fun K hK => ?_) AllReadyH.nil
        go_simp
        (go_at_call 105; refine (HCS.out _ HTL4.out).mono ?_; rintro e w5 ⟨rfl, rfl⟩)
        refine hK.out _ _ ?_ (fun hHeld => ?_)
        · (try dsimp only)
          first | exact HS.out _ (T0 _ A2) | exact HS.out _ (T0 _ A2).drew | exact HS.out _ HT4.out | exact hHeld
        clear hK K
        (try simp only [Act.put, gA, gB, gC, sA, sB, sC])
        refine tkz 10 ?_
        refine tkz 11 ?_
        refine tkz 12 ?_
        refine wpAnyH_done (by kernel_rfl) ?_ _
        gi_wp2
        exact ⟨HT4.out, _, ⟨rfl, .step HAT.out HC.out, HT4.out.held HX0.out (by have := HNE.out; omega), HT4.out.held HX1.out (by have := HNE.out; omega), HTG.out (-1) _ (HI4.out.same (fun i hi => by split; (rename_i h; subst h; unfold AuH.lsTo; rw [if_neg (by omega)]); rfl)) HTE.out.symm, HT4.out.below HB.out (by have := HNE.out; omega)⟩, fun i hi => .inl hi⟩
      · have HTE := hidp (hts rfl hfull)
        have t0 : ((tk : Int) != (sb : Int)) = true := by simp; omega
        clear hte hts
        gi_wp2_with fail
        refine wp_region_round (S := (fun w' => w'.cell? ⟨w.heap.size, 0, none⟩ = some (.int .i64 (H.t : Int)) ∧ w'.cell? ⟨w.heap.size, 1, none⟩ = some (.int .i64 (H.p : Int)) ∧ w'.cell? ⟨w.heap.size, 2, none⟩ = some (.int .i64 (H.s : Int)) ∧ w'.cell? ⟨w.heap.size, 3, none⟩ = some (.slice (some ad) n c) ∧ w'.cell? ⟨gb, 0, none⟩ = some (.slice (some ⟨g, 0, none⟩) H.p H.p) ∧ w'.cell? ⟨A.heap.size, 0, none⟩ = some (.int .i64 3) ∧ w'.cell? ⟨A.heap.size, 1, none⟩ = some (.int .i64 (m : Int)) ∧ w'.cell? ⟨A.heap.size, 2, none⟩ = some (.int .i64 cl))) (by kernel_rfl) (by kernel_rfl) (fun _ _ h => h) ?_ (fun hHeld => ?_)
        · (try dsimp only)
          first | exact HS.out _ (T0 _ A2) | exact HS.out _ (T0 _ A2).drew | exact HS.out _ HT4.out | exact hHeld
        refine tkz 0 ?_
        refine tkz 1 ?_
        refine tkz 2 ?_
        refine tkz 3 ?_
        refine tkz 4 ?_
        refine tkz 5 ?_
        refine tkz 7 ?_
        refine tkz 8 ?_
        refine wpAnyH_ready (rs := [6]) (by kernel_rfl) (by simp) ?_
        refine AllReadyH.cons (o := _) rfl (fun K hK => ?_) AllReadyH.nil
        go_simp
        (go_at_call 49; refine (auAt_Taken_c HV ad HLT.out _ HVR.out.drew).mono ?_; rintro e w4 ⟨rfl, hb4⟩; rw [HET.out]; have HT4 := hidp ((T0 (fun i => i = g) A2).drew.trans (Turns.of_below hb4 _)); have HI4 := hidp (HI.out.drew.keep hb4); have HTL4 := hidp (HTLR.out.drew.below hb4); clear hb4)
        refine hK.out _ _ ?_ (fun hHeld => ?_)
        · (try dsimp only)
          first | exact HS.out _ (T0 _ A2) | exact HS.out _ (T0 _ A2).drew | exact HS.out _ HT4.out | exact hHeld
        clear hK K
        (try simp only [Act.put, gA, gB, gC, sA, sB, sC])
        refine wpAnyH_ready (rs := [9]) (by kernel_rfl) (by simp) ?_
        refine AllReadyH.cons (o := _) rfl (fun K hK => ?_) AllReadyH.nil
        go_simp
        (go_at_call 105; refine (HCS.out _ HTL4.out).mono ?_; rintro e w5 ⟨rfl, rfl⟩)
        refine hK.out _ _ ?_ (fun hHeld => ?_)
        · (try dsimp only)
          first | exact HS.out _ (T0 _ A2) | exact HS.out _ (T0 _ A2).drew | exact HS.out _ HT4.out | exact hHeld
        clear hK K
        (try simp only [Act.put, gA, gB, gC, sA, sB, sC])
        refine tkz 10 ?_
        refine tkz 11 ?_
        refine tkz 12 ?_
        refine wpAnyH_done (by kernel_rfl) ?_ _
        have HTS : Hid (Turns (fun i => i = g) A2 (w4.drew.setCell ⟨g, pos, none⟩ (.int .i64 y))) := hidp (HT4.out.drew.put (p := ⟨g, pos, none⟩) rfl _)
        have hcell : w4.drew.cell? ⟨g, pos, none⟩ = some (.int .i64 (H.lsTo pos pos)) := HI4.out.at_ HLT.out
        have hfro : w4.drew.frozen? ⟨g, pos, none⟩ = false := HI4.out.thawed pos
        gi_wp2_with fail
        refine wp_region_round (S := (fun w' => w'.cell? ⟨w.heap.size, 0, none⟩ = some (.int .i64 (H.t : Int)) ∧ w'.cell? ⟨w.heap.size, 1, none⟩ = some (.int .i64 (H.p : Int)) ∧ w'.cell? ⟨w.heap.size, 2, none⟩ = some (.int .i64 (H.s : Int)) ∧ w'.cell? ⟨w.heap.size, 3, none⟩ = some (.slice (some ad) n c) ∧ w'.cell? ⟨gb, 0, none⟩ = some (.slice (some ⟨g, 0, none⟩) H.p H.p) ∧ w'.cell? ⟨A.heap.size, 0, none⟩ = some (.int .i64 3) ∧ w'.cell? ⟨A.heap.size, 1, none⟩ = some (.int .i64 (m : Int)) ∧ w'.cell? ⟨A.heap.size, 2, none⟩ = some (.int .i64 cl))) (by kernel_rfl) (by kernel_rfl) (fun _ _ h => h) ?_ (fun hHeld => ?_)
        · (try dsimp only)
          first | exact HS.out _ HT4.out | exact HS.out _ HT4.out.drew | exact HS.out _ HTS.out | exact hHeld
        refine tkz 0 ?_
        refine tkz 1 ?_
        refine tkz 2 ?_
        refine tkz 3 ?_
        refine wpAnyH_ready (rs := [4]) (by kernel_rfl) (by simp) ?_
        refine AllReadyH.cons (o := _) rfl (fun K hK => ?_) AllReadyH.nil
        go_simp
        (go_at_call 108; refine (plRack_c _ _).mono ?_; rintro e w5 ⟨rfl, rfl⟩; rw [HRK.out])
        refine hK.out _ _ ?_ (fun hHeld => ?_)
        · (try dsimp only)
          first | exact HS.out _ HT4.out | exact HS.out _ HT4.out.drew | exact HS.out _ HTS.out | exact hHeld
        clear hK K
        (try simp only [Act.put, gA, gB, gC, sA, sB, sC])
        refine tkz 5 ?_
        refine wpAnyH_ready (rs := [6]) (by kernel_rfl) (by simp) ?_
        refine AllReadyH.cons (o := _) rfl (fun K hK => ?_) AllReadyH.nil
        go_simp
        skip
        refine hK.out _ _ ?_ (fun hHeld => ?_)
        · (try dsimp only)
          first | exact HS.out _ HT4.out | exact HS.out _ HT4.out.drew | exact HS.out _ HTS.out | exact hHeld
        clear hK K
        (try simp only [Act.put, gA, gB, gC, sA, sB, sC])
        refine wpAnyH_done (by kernel_rfl) ?_ _
        gi_wp2
        exact ⟨HTS.out, _, ⟨rfl, .step HAT.out HC.out, HTS.out.held HX0.out (by have := HNE.out; omega), HTS.out.held HX1.out (by have := HNE.out; omega), HTG.out _ _ (HI4.out.put (w := w4.drew) HLT.out y) HTE.out.symm, HTS.out.below HB.out (by have := HNE.out; omega)⟩, fun i hi => .inl hi⟩
  case done =>
    rintro D pos F A hD hc ⟨rfl, hat, x0, x1, x2, hB⟩ hk
    have HDN : Hid (w.heap.size ≤ D) := hidp (Nat.le_trans HBW.out.size hD)
    have hpe : pos = H.p := by
      rw [ht.can_eq hat] at hc
      have := hat.le
      have := of_decide_eq_false hc
      omega
    subst hpe
    have HK := hidp hk
    have HB := hidp hB
    have HI := hidp x2
    have c0 := x1.one.1
    clear hk x0 x1 x2 hB hD hat hc
    go_wp2_with fail
    refine mark_end rfl HK.out ?_
    refine bodyPost_ret (results_tmp rfl _ _ _) rfl ?_
    exact ⟨g, rfl, (HI.out.of (fun cs h => h.shut HK.out rfl)).same (fun i hi => by unfold AuH.lsTo; rw [if_pos hi]), by have := HNE.out; omega, shutB HB.out HK.out rfl HDN.out⟩
  case stop =>
    rintro D c A hD h hk
    exact h.elim
end
end
section
namespace AuH
variable (H : AuH)
def chain (head : Int) : Nat → Nat → Nat → Prop
  | 0, at_, _ => at_ = 0
  | m + 1, at_, ahead => (1 ≤ at_ ∧ at_ ≤ H.p ∧ H.tgt (at_ - 1) = head ∧ H.cel (at_ - 1) 3 = ahead) ∧ chain head m (H.cel (at_ - 1) 2) at_
def isF (head : Int) (q : Nat) : Nat := if H.tgt q = head then 1 else 0
def cnt (head : Int) (x : Nat) : Nat := sumTo (H.isF head) x
def ListOk (head : Nat) : Prop := H.chain head (H.cnt head H.p) (H.V head) 0
variable {H}
theorem cnt_succ (head : Int) (x : Nat) : H.cnt head (x + 1) = H.cnt head x + H.isF head x := rfl
theorem cnt_mono (head : Int) {x y : Nat} (h : x ≤ y) : H.cnt head x ≤ H.cnt head y := by
  induction h with
  | refl => exact Nat.le_refl _
  | step h ih => rw [cnt_succ]; omega
end AuH

set_option maxHeartbeats 1600000 in
set_option maxRecDepth 100000 in
theorem auIsList_c {H : AuH} {n c : Nat} (HV : HeapV H n c) (ad : Addr) (head : Nat) (hh : head < 30) (g : Nat) (b : Bool) (hb : b = true ↔ H.ListOk head) (w : World) (hv : IsVals w ad n H.V) (hl : IntsF w g H.p H.tgt) :
    Calls Tryz.prog 124 #[hpV H ad n c, .int .i64 (head : Int), .slice (some ⟨g, 0, none⟩) H.p H.p] w fun e w' => e = .returned (.bool b) ∧ Below w.heap.size w w' := by
  have hn := HV.nums
  have hln := HV.len
  have hin : head < n := by omega
  have hpm : H.p ≤ 1024 := hn.2.2.2.1
  have hcm : c ≤ 9223372036854775807 := hn.2.2.2.2.2.2.2.2
  have hnc := HV.cap
  have HVL := hidp hv
  have HL := hidp hl
  have hbl : (ad.add head).block < w.heap.size := by rw [block_of_add]; exact hv.1
  have hv32 := HV.lt head hin
  have hv0 : (w.alloc (.cells #[.int .i64 (H.t : Int), .int .i64 (H.p : Int), .int .i64 (H.s : Int), .slice (some ad) n c] 51)).cell? (ad.add head) = some (.int .u32 (H.V head : Nat)) := (Below.cell (Bnew (B0 w) _) hbl).trans (hv.2 head hin)
  obtain ⟨v, hvv⟩ : ∃ v, H.V head = v := ⟨_, rfl⟩
  have HBV : Hid (b = true ↔ H.chain head (H.cnt head H.p) v 0) := hidp (by rw [← hvv]; exact hb)
  rw [hvv] at hv0 hv32
  have HX0 := hidp (Held.new w 51 #[.int .i64 (H.t : Int), .int .i64 (H.p : Int), .int .i64 (H.s : Int), .slice (some ad) n c])
  obtain ⟨c0, c1, c2, c3⟩ := HX0.out.four
  have HBW := hidp (Bnew (B0 w) (.cells #[.int .i64 (H.t : Int), .int .i64 (H.p : Int), .int .i64 (H.s : Int), .slice (some ad) n c] 51))
  clear hv hl hvv hbl hb hn hln
  unfold hpV
  go_enter Tryz.func124, Tryz.ntmps124
  go_wp2_with fail
  clear c0 c1 c2 c3 hv0
  generalize w.alloc (.cells #[.int .i64 (H.t : Int), .int .i64 (H.p : Int), .int .i64 (H.s : Int), .slice (some ad) n c] 51) = W3 at *
  go_loopw [7, 8, 20] (fun u x y wr => ∃ (i a h r : Nat), i ≤ H.p ∧ y = .int .i64 (i : Int) ∧ u = .int .u32 (a : Int) ∧ x = .int .u32 (h : Int) ∧ a < 2 ^ 32 ∧ h < 2 ^ 32 ∧ Hid (H.cnt head i + r = H.cnt head H.p) ∧ Hid (b = true ↔ H.chain head r a h) ∧ Hid (Held wr w.heap.size 51 #[.int .i64 (H.t : Int), .int .i64 (H.p : Int), .int .i64 (H.s : Int), .slice (some ad) n c]) ∧ Hid (Below w.heap.size w wr)) (fun _ _ y _ => H.p - (intOf y).toNat)
  case atStart => exact ⟨0, v, 0, H.cnt head H.p, by omega, rfl, rfl, rfl, by omega, by omega, hidp (by show 0 + _ = _; omega), HBV, HX0, HBW⟩
  case round =>
    clear HX0 HBW HBV
    obtain ⟨i, a, h, r, hi, rfl, rfl, rfl, ha32, hh32, HR, HBC, HX0, HB⟩ := hrel
    obtain ⟨c0, c1, c2, c3⟩ := HX0.out.four
    have HLR := hidp (HL.out.keep HB.out)
    have HVR := hidp (HVL.out.below HB.out)
    by_cases hlt : i < H.p
    · have l0 := HLR.out.at_ hlt
      have t0 : decide ((i : Int) < H.p) = true := decide_eq_true (by omega)
      have HM1 := hidp (AuH.cnt_mono (H := H) head (show i + 1 ≤ H.p by omega))
      by_cases ht : H.tgt i = head
      · have HC1 : Hid (H.cnt head (i + 1) = H.cnt head i + 1) := hidp (by rw [AuH.cnt_succ]; unfold AuH.isF; rw [if_pos ht])
        obtain ⟨r', hr'⟩ : ∃ r', r = r' + 1 := ⟨r - 1, by have := HR.out; have := HC1.out; have := HM1.out; omega⟩
        subst hr'
        rw [ht] at l0
        have q0 : ((head : Int) != (head : Int)) = false := by simp
        clear ht
        by_cases hz : 1 ≤ a ∧ a ≤ H.p
        · obtain ⟨q, rfl⟩ : ∃ q, a = q + 1 := ⟨a - 1, by omega⟩
          have hq : q < H.p := by omega
          have l1 := HLR.out.at_ hq
          obtain ⟨tq, htq⟩ : ∃ tq, H.tgt q = tq := ⟨_, rfl⟩
          obtain ⟨pv, hpv⟩ : ∃ pv, H.cel q 3 = pv := ⟨_, rfl⟩
          obtain ⟨nv, hnv⟩ : ∃ nv, H.cel q 2 = nv := ⟨_, rfl⟩
          have HPV := hidp hpv
          have HNV := hidp hnv
          have hn32 : nv < 2 ^ 32 := by rw [← hnv]; exact HV.cel_lt hq (by omega)
          have HCI : Hid (H.chain head (r' + 1) (q + 1) h ↔ (tq = head ∧ pv = h) ∧ H.chain head r' nv (q + 1)) := hidp (by
            show ((1 ≤ q + 1 ∧ q + 1 ≤ H.p ∧ H.tgt (q + 1 - 1) = head ∧ H.cel (q + 1 - 1) 3 = h) ∧ H.chain head r' (H.cel (q + 1 - 1) 2) (q + 1)) ↔ _
            rw [Nat.add_sub_cancel, htq, hpv, hnv]
            constructor
            · rintro ⟨⟨_, _, h1, h2⟩, h3⟩; exact ⟨⟨h1, h2⟩, h3⟩
            · rintro ⟨⟨h1, h2⟩, h3⟩; exact ⟨⟨by omega, by omega, h1, h2⟩, h3⟩)
          rw [htq] at l1
          clear htq hpv hnv
          by_cases h1 : tq = head
          · subst h1
            by_cases h2 : pv = h
            · subst h2
              have q2 : ((pv : Int) != (pv : Int)) = false := by simp
              go_wp2_with (first
                | (go_at_call 136; refine (auLinked_yes HV ad q hq _).mono ?_; rintro e w4 ⟨rfl, hb4⟩; have HB4 := hidp (Bgo HB.out hb4); have HX4 := hidp (HX0.out.keep hb4); have l2 := (hb4.cell (p := ⟨g, q, none⟩) HLR.out.lt).trans l1; have HV4 := hidp (HVR.out.below hb4); clear hb4; obtain ⟨e0, e1, e2, e3⟩ := HX4.out.four)
                | (have hz0 := HPV.out; clear hz0; go_at_call 49; refine (auAt_Prev_c HV ad hq _ HV4.out).mono ?_; rintro e w5 ⟨rfl, hb5⟩; rw [HPV.out]; have HB5 := hidp (Bgo HB4.out hb5); have HX5 := hidp (HX4.out.keep hb5); have HV5 := hidp (HV4.out.below hb5); clear hb5 HPV e0 e1 e2 e3; obtain ⟨e0, e1, e2, e3⟩ := HX5.out.four)
                | (go_at_call 49; refine (auAt_Next_c HV ad hq _ HV5.out).mono ?_; rintro e w6 ⟨rfl, hb6⟩; rw [HNV.out]; have HB6 := hidp (Bgo HB5.out hb6); have HX6 := hidp (HX5.out.keep hb6); clear hb6)
                | fail)
              go_roundw
              case rel => exact ⟨i + 1, nv, q + 1, r', by omega, by go_num, by go_num, by go_num, hn32, by omega, hidp (by have := HR.out; have := HC1.out; omega), hidp (by rw [HBC.out, HCI.out]; simp), HX6, HB6⟩
              case measure => simp [intOf]; omega
            · have q2 : ((pv : Int) != (h : Int)) = true := by simp; omega
              have HBF : Hid (b = false) := hidp (bool_no HBC.out (fun hc => h2 (HCI.out.1 hc).1.2))
              clear h2
              go_wp2_with (first
                | (go_at_call 136; refine (auLinked_yes HV ad q hq _).mono ?_; rintro e w4 ⟨rfl, hb4⟩; have HB4 := hidp (Bgo HB.out hb4); have HX4 := hidp (HX0.out.keep hb4); have l2 := (hb4.cell (p := ⟨g, q, none⟩) HLR.out.lt).trans l1; have HV4 := hidp (HVR.out.below hb4); clear hb4; obtain ⟨e0, e1, e2, e3⟩ := HX4.out.four)
                | (have hz0 := HPV.out; clear hz0; go_at_call 49; refine (auAt_Prev_c HV ad hq _ HV4.out).mono ?_; rintro e w5 ⟨rfl, hb5⟩; rw [HPV.out]; have HB5 := hidp (Bgo HB4.out hb5); have HX5 := hidp (HX4.out.keep hb5); have HV5 := hidp (HV4.out.below hb5); clear hb5 HPV e0 e1 e2 e3; obtain ⟨e0, e1, e2, e3⟩ := HX5.out.four)
                | fail)
              go_ret
              exact ⟨by rw [HBF.out]; rfl, HB5.out⟩
          · have q1 : (tq != (head : Int)) = true := by simpa using h1
            have HBF : Hid (b = false) := hidp (bool_no HBC.out (fun hc => h1 (HCI.out.1 hc).1.1))
            clear h1
            go_wp2_with (first
              | (go_at_call 136; refine (auLinked_yes HV ad q hq _).mono ?_; rintro e w4 ⟨rfl, hb4⟩; have HB4 := hidp (Bgo HB.out hb4); have HX4 := hidp (HX0.out.keep hb4); have l2 := (hb4.cell (p := ⟨g, q, none⟩) HLR.out.lt).trans l1; have HV4 := hidp (HVR.out.below hb4); clear hb4; obtain ⟨e0, e1, e2, e3⟩ := HX4.out.four)
              | fail)
            go_ret
            exact ⟨by rw [HBF.out]; rfl, HB4.out⟩
        · have HBF : Hid (b = false) := hidp (bool_no HBC.out (fun hc => hz ⟨hc.1.1, hc.1.2.1⟩))
          have hzz : a = 0 ∨ H.p < a := by omega
          go_wp2_with (first
            | (go_at_call 136; refine (auLinked_no HV ad a ha32 hzz _).mono ?_; rintro e w4 ⟨rfl, hb4⟩; have HB4 := hidp (Bgo HB.out hb4); clear hb4)
            | fail)
          go_ret
          exact ⟨by rw [HBF.out]; rfl, HB4.out⟩
      · have HC1 : Hid (H.cnt head (i + 1) = H.cnt head i) := hidp (by rw [AuH.cnt_succ]; unfold AuH.isF; rw [if_neg ht, Nat.add_zero])
        obtain ⟨ti, hti⟩ : ∃ ti, H.tgt i = ti := ⟨_, rfl⟩
        rw [hti] at ht l0
        have q0 : (ti != (head : Int)) = true := by simpa using ht
        clear hti ht
        go_wp2_with fail
        go_roundw
        case rel => exact ⟨i + 1, a, h, r, by omega, by go_num, rfl, rfl, ha32, hh32, hidp (by rw [HC1.out]; exact HR.out), HBC, HX0, HB⟩
        case measure => simp [intOf]; omega
    · have hie : i = H.p := by omega
      have t0 : decide ((i : Int) < H.p) = false := decide_eq_false (by omega)
      have HR0 : Hid (r = 0) := hidp (by have := HR.out; rw [hie] at this; omega)
      have HBZ : Hid (b = true ↔ a = 0) := hidp (by have := HBC.out; rw [HR0.out] at this; exact this)
      have q0 : ((a : Int) == 0) = b := by
        by_cases hz : a = 0
        · rw [bool_yes HBZ.out hz]; simp; omega
        · rw [bool_no HBZ.out hz]; simp; omega
      clear hie
      go_wp2_with fail
      go_ret
      exact ⟨rfl, HB.out⟩
end
section
set_option maxHeartbeats 1600000 in
set_option maxRecDepth 100000 in
theorem auAreLists_Bins_c {H : AuH} {n c : Nat} (HV : HeapV H n c) (ht : H.Tiled) (ad : Addr) (b : Bool) (hb : b = true ↔ ∀ k, k < 11 → H.ListOk (2 + k)) (w : World) (hv : IsVals w ad n H.V) (hT : SlotsLaid w) :
    Calls Tryz.prog 106 #[hpV H ad n c, .int .i64 11, .func (.func 107) #[] #[]] w fun e w' => e = .returned (.bool b) ∧ Below w.heap.size w w' := by
  have HVL := hidp hv
  have HX0 := hidp (Held.new w 51 #[.int .i64 (H.t : Int), .int .i64 (H.p : Int), .int .i64 (H.s : Int), .slice (some ad) n c])
  obtain ⟨c0, c1, c2, c3⟩ := HX0.out.four
  have HBW := hidp (Bnew (B0 w) (.cells #[.int .i64 (H.t : Int), .int .i64 (H.p : Int), .int .i64 (H.s : Int), .slice (some ad) n c] 51))
  have HLS : Hid (Calls Tryz.prog 109 #[hpV H ad n c] (w.alloc (.cells #[.int .i64 (H.t : Int), .int .i64 (H.p : Int), .int .i64 (H.s : Int), .slice (some ad) n c] 51)) fun e w' => ∃ g, e = .returned (.slice (some ⟨g, 0, none⟩) H.p H.p) ∧ IntsF w' g H.p H.tgt ∧ (w.alloc (.cells #[.int .i64 (H.t : Int), .int .i64 (H.p : Int), .int .i64 (H.s : Int), .slice (some ad) n c] 51)).heap.size ≤ g ∧ Below (w.alloc (.cells #[.int .i64 (H.t : Int), .int .i64 (H.p : Int), .int .i64 (H.s : Int), .slice (some ad) n c] 51)).heap.size (w.alloc (.cells #[.int .i64 (H.t : Int), .int .i64 (H.p : Int), .int .i64 (H.s : Int), .slice (some ad) n c] 51)) w') := hidp (auLists_c HV ht ad _ (HVL.out.below HBW.out) (hT.below HBW.out))
  have HBC := hidp hb
  clear hv hT hb
  unfold hpV
  go_enter Tryz.func106, Tryz.ntmps106
  go_wp2_with (first
    | (go_at_call 109; refine HLS.out.mono ?_; rintro e w2 ⟨g, rfl, hi2, hg2, hb2⟩; have HI2 := hidp hi2; have HX2 := hidp (HX0.out.keep hb2); have HB2 := hidp (Bgo HBW.out hb2); clear hi2 hg2 hb2)
    | fail)
  clear c0 c1 c2 c3 HLS HBW HX0
  go_loopw [12] (fun u wr => ∃ k : Nat, k ≤ 11 ∧ u = .int .i64 (k : Int) ∧ Hid (∀ j, j < k → H.ListOk (2 + j)) ∧ Hid (Held wr w.heap.size 51 #[.int .i64 (H.t : Int), .int .i64 (H.p : Int), .int .i64 (H.s : Int), .slice (some ad) n c]) ∧ Hid (IntsF wr g H.p H.tgt) ∧ Hid (Below w.heap.size w wr)) (fun u _ => 11 - (intOf u).toNat)
  case atStart => exact ⟨0, by omega, rfl, hidp (fun j h => absurd h (by omega)), HX2, HI2, HB2⟩
  case round =>
    clear HX2 HI2 HB2
    obtain ⟨k, hk, rfl, HOK, HX, HLR, HB⟩ := hrel
    obtain ⟨c0, c1, c2, c3⟩ := HX.out.four
    have HVR := hidp (HVL.out.below HB.out)
    by_cases hlt : k < 11
    · have t0 : decide ((k : Int) < 11) = true := decide_eq_true (by omega)
      have HNT : Hid (nthI 2 11 1 (k : Int) = ((2 + k : Nat) : Int)) := hidp (by rw [nth_on (by omega) (by omega) (by omega)]; push_cast; omega)
      by_cases hz : ¬ H.ListOk (2 + k)
      · have HZN := hidp hz
        have HBF : Hid (b = false) := hidp (bool_no HBC.out (fun h => hz (h k hlt)))
        clear hz
        go_wp2_with fail
        refine wp_region_held_drew (S := (fun w' => w'.cell? ⟨w.heap.size, 0, none⟩ = some (.int .i64 (H.t : Int)) ∧ w'.cell? ⟨w.heap.size, 1, none⟩ = some (.int .i64 (H.p : Int)) ∧ w'.cell? ⟨w.heap.size, 2, none⟩ = some (.int .i64 (H.s : Int)) ∧ w'.cell? ⟨w.heap.size, 3, none⟩ = some (.slice (some ad) n c))) (by kernel_rfl) ?_ (fun hHeld => ?_)
        · (try dsimp only)
          first | exact HX.out.drew.four | exact HX5.out.four | exact hHeld
        refine tkz 0 ?_
        refine tkz 1 ?_
        refine tkz 2 ?_
        refine tkz 4 ?_
        refine wpAnyH_ready (rs := [3]) (by kernel_rfl) (by simp) ?_
        refine AllReadyH.cons (o := _) rfl (fun K hK => ?_) AllReadyH.nil
        go_simp
        (go_at_call 107; refine (plBin_c _ _).mono ?_; rintro e w4 ⟨rfl, rfl⟩; rw [HNT.out])
        refine hK.out _ _ ?_ (fun hHeld => ?_)
        · (try dsimp only)
          first | exact HX.out.drew.four | exact HX5.out.four | exact hHeld
        clear hK K
        (try simp only [Act.put, gA, gB, gC, sA, sB, sC])
        refine wpAnyH_ready (rs := [5]) (by kernel_rfl) (by simp) ?_
        refine AllReadyH.cons (o := _) rfl (fun K hK => ?_) AllReadyH.nil
        go_simp
        (go_at_call 124; refine (auIsList_c HV ad (2 + k) (by omega) g false ⟨fun h => (by cases h), fun h => absurd h HZN.out⟩ _ HVR.out.drew HLR.out.drew).mono ?_; rintro e w5 ⟨rfl, hb5⟩; have HX5 := hidp (HX.out.drew.keep hb5); have HB5 := hidp (Bgo (Bdrew HB.out) hb5); have HLR5 := hidp (HLR.out.drew.keep hb5); clear hb5)
        refine hK.out _ _ ?_ (fun hHeld => ?_)
        · (try dsimp only)
          first | exact HX.out.drew.four | exact HX5.out.four | exact hHeld
        clear hK K
        (try simp only [Act.put, gA, gB, gC, sA, sB, sC])
        refine tkz 6 ?_
        refine wpAnyH_done (by kernel_rfl) ?_ _
        go_wp2
        go_ret
        exact ⟨by rw [HBF.out]; rfl, HB5.out⟩
      · have HZT := hidp (Classical.byContradiction hz)
        clear hz
        go_wp2_with fail
        refine wp_region_held_drew (S := (fun w' => w'.cell? ⟨w.heap.size, 0, none⟩ = some (.int .i64 (H.t : Int)) ∧ w'.cell? ⟨w.heap.size, 1, none⟩ = some (.int .i64 (H.p : Int)) ∧ w'.cell? ⟨w.heap.size, 2, none⟩ = some (.int .i64 (H.s : Int)) ∧ w'.cell? ⟨w.heap.size, 3, none⟩ = some (.slice (some ad) n c))) (by kernel_rfl) ?_ (fun hHeld => ?_)
        · (try dsimp only)
          first | exact HX.out.drew.four | exact HX5.out.four | exact hHeld
        refine tkz 0 ?_
        refine tkz 1 ?_
        refine tkz 2 ?_
        refine tkz 4 ?_
        refine wpAnyH_ready (rs := [3]) (by kernel_rfl) (by simp) ?_
        refine AllReadyH.cons (o := _) rfl (fun K hK => ?_) AllReadyH.nil
        go_simp
        (go_at_call 107; refine (plBin_c _ _).mono ?_; rintro e w4 ⟨rfl, rfl⟩; rw [HNT.out])
        refine hK.out _ _ ?_ (fun hHeld => ?_)
        · (try dsimp only)
          first | exact HX.out.drew.four | exact HX5.out.four | exact hHeld
        clear hK K
        (try simp only [Act.put, gA, gB, gC, sA, sB, sC])
        refine wpAnyH_ready (rs := [5]) (by kernel_rfl) (by simp) ?_
        refine AllReadyH.cons (o := _) rfl (fun K hK => ?_) AllReadyH.nil
        go_simp
        (go_at_call 124; refine (auIsList_c HV ad (2 + k) (by omega) g true ⟨fun _ => HZT.out, fun _ => rfl⟩ _ HVR.out.drew HLR.out.drew).mono ?_; rintro e w5 ⟨rfl, hb5⟩; have HX5 := hidp (HX.out.drew.keep hb5); have HB5 := hidp (Bgo (Bdrew HB.out) hb5); have HLR5 := hidp (HLR.out.drew.keep hb5); clear hb5)
        refine hK.out _ _ ?_ (fun hHeld => ?_)
        · (try dsimp only)
          first | exact HX.out.drew.four | exact HX5.out.four | exact hHeld
        clear hK K
        (try simp only [Act.put, gA, gB, gC, sA, sB, sC])
        refine tkz 6 ?_
        refine wpAnyH_done (by kernel_rfl) ?_ _
        go_wp2
        go_roundw
        case rel => exact ⟨k + 1, by omega, by go_num, hidp (fun j h => by
          rcases Nat.lt_or_ge j k with h2 | h2
          · exact HOK.out j h2
          · have : j = k := by omega
            subst this; exact HZT.out), HX5, HLR5, HB5⟩
        case measure => simp [intOf]; omega
    · have t0 : decide ((k : Int) < 11) = false := decide_eq_false (by omega)
      have HBT : Hid (b = true) := hidp (bool_yes HBC.out (fun j hj => HOK.out j (by omega)))
      go_wp2_with fail
      go_ret
      exact ⟨by rw [HBT.out]; rfl, HB.out⟩
set_option maxRecDepth 100000 in
theorem auHasBins_c {H : AuH} {n c : Nat} (HV : HeapV H n c) (ht : H.Tiled) (ad : Addr) (b : Bool) (hb : b = true ↔ ∀ k, k < 11 → H.ListOk (2 + k)) (w : World) (hv : IsVals w ad n H.V) (hT : SlotsLaid w) :
    Calls Tryz.prog 82 #[hpV H ad n c] w fun e w' => e = .returned (.bool b) ∧ Below w.heap.size w w' := by
  have HX0 := hidp (Held.new w 51 #[.int .i64 (H.t : Int), .int .i64 (H.p : Int), .int .i64 (H.s : Int), .slice (some ad) n c])
  obtain ⟨c0, c1, c2, c3⟩ := HX0.out.four
  have HBW := hidp (Bnew (B0 w) (.cells #[.int .i64 (H.t : Int), .int .i64 (H.p : Int), .int .i64 (H.s : Int), .slice (some ad) n c] 51))
  have HLS := hidp (auAreLists_Bins_c HV ht ad b hb _ (hv.below HBW.out) (hT.below HBW.out))
  clear hv hT hb
  unfold hpV
  go_enter Tryz.func82, Tryz.ntmps82
  go_wp2_with (first
    | (go_at_call 106; refine HLS.out.mono ?_; rintro e w2 ⟨rfl, hb2⟩; have HB2 := hidp (Bgo HBW.out hb2); clear hb2)
    | fail)
  go_ret
  exact ⟨rfl, HB2.out⟩

set_option maxHeartbeats 1600000 in
set_option maxRecDepth 100000 in
theorem auAreLists_Racks_c {H : AuH} {n c : Nat} (HV : HeapV H n c) (ht : H.Tiled) (ad : Addr) (b : Bool) (hb : b = true ↔ ∀ k, k < 9 → H.ListOk (13 + k)) (w : World) (hv : IsVals w ad n H.V) (hT : SlotsLaid w) :
    Calls Tryz.prog 106 #[hpV H ad n c, .int .i64 9, .func (.func 108) #[] #[]] w fun e w' => e = .returned (.bool b) ∧ Below w.heap.size w w' := by
  have HVL := hidp hv
  have HX0 := hidp (Held.new w 51 #[.int .i64 (H.t : Int), .int .i64 (H.p : Int), .int .i64 (H.s : Int), .slice (some ad) n c])
  obtain ⟨c0, c1, c2, c3⟩ := HX0.out.four
  have HBW := hidp (Bnew (B0 w) (.cells #[.int .i64 (H.t : Int), .int .i64 (H.p : Int), .int .i64 (H.s : Int), .slice (some ad) n c] 51))
  have HLS : Hid (Calls Tryz.prog 109 #[hpV H ad n c] (w.alloc (.cells #[.int .i64 (H.t : Int), .int .i64 (H.p : Int), .int .i64 (H.s : Int), .slice (some ad) n c] 51)) fun e w' => ∃ g, e = .returned (.slice (some ⟨g, 0, none⟩) H.p H.p) ∧ IntsF w' g H.p H.tgt ∧ (w.alloc (.cells #[.int .i64 (H.t : Int), .int .i64 (H.p : Int), .int .i64 (H.s : Int), .slice (some ad) n c] 51)).heap.size ≤ g ∧ Below (w.alloc (.cells #[.int .i64 (H.t : Int), .int .i64 (H.p : Int), .int .i64 (H.s : Int), .slice (some ad) n c] 51)).heap.size (w.alloc (.cells #[.int .i64 (H.t : Int), .int .i64 (H.p : Int), .int .i64 (H.s : Int), .slice (some ad) n c] 51)) w') := hidp (auLists_c HV ht ad _ (HVL.out.below HBW.out) (hT.below HBW.out))
  have HBC := hidp hb
  clear hv hT hb
  unfold hpV
  go_enter Tryz.func106, Tryz.ntmps106
  go_wp2_with (first
    | (go_at_call 109; refine HLS.out.mono ?_; rintro e w2 ⟨g, rfl, hi2, hg2, hb2⟩; have HI2 := hidp hi2; have HX2 := hidp (HX0.out.keep hb2); have HB2 := hidp (Bgo HBW.out hb2); clear hi2 hg2 hb2)
    | fail)
  clear c0 c1 c2 c3 HLS HBW HX0
  go_loopw [12] (fun u wr => ∃ k : Nat, k ≤ 9 ∧ u = .int .i64 (k : Int) ∧ Hid (∀ j, j < k → H.ListOk (13 + j)) ∧ Hid (Held wr w.heap.size 51 #[.int .i64 (H.t : Int), .int .i64 (H.p : Int), .int .i64 (H.s : Int), .slice (some ad) n c]) ∧ Hid (IntsF wr g H.p H.tgt) ∧ Hid (Below w.heap.size w wr)) (fun u _ => 9 - (intOf u).toNat)
  case atStart => exact ⟨0, by omega, rfl, hidp (fun j h => absurd h (by omega)), HX2, HI2, HB2⟩
  case round =>
    clear HX2 HI2 HB2
    obtain ⟨k, hk, rfl, HOK, HX, HLR, HB⟩ := hrel
    obtain ⟨c0, c1, c2, c3⟩ := HX.out.four
    have HVR := hidp (HVL.out.below HB.out)
    by_cases hlt : k < 9
    · have t0 : decide ((k : Int) < 9) = true := decide_eq_true (by omega)
      have HNT : Hid (nthI 13 9 1 (k : Int) = ((13 + k : Nat) : Int)) := hidp (by rw [nth_on (by omega) (by omega) (by omega)]; push_cast; omega)
      by_cases hz : ¬ H.ListOk (13 + k)
      · have HZN := hidp hz
        have HBF : Hid (b = false) := hidp (bool_no HBC.out (fun h => hz (h k hlt)))
        clear hz
        go_wp2_with fail
        refine wp_region_held_drew (S := (fun w' => w'.cell? ⟨w.heap.size, 0, none⟩ = some (.int .i64 (H.t : Int)) ∧ w'.cell? ⟨w.heap.size, 1, none⟩ = some (.int .i64 (H.p : Int)) ∧ w'.cell? ⟨w.heap.size, 2, none⟩ = some (.int .i64 (H.s : Int)) ∧ w'.cell? ⟨w.heap.size, 3, none⟩ = some (.slice (some ad) n c))) (by kernel_rfl) ?_ (fun hHeld => ?_)
        · (try dsimp only)
          first | exact HX.out.drew.four | exact HX5.out.four | exact hHeld
        refine tkz 0 ?_
        refine tkz 1 ?_
        refine tkz 2 ?_
        refine tkz 4 ?_
        refine wpAnyH_ready (rs := [3]) (by kernel_rfl) (by simp) ?_
        refine AllReadyH.cons (o := _) rfl (fun K hK => ?_) AllReadyH.nil
        go_simp
        (go_at_call 108; refine (plRack_c _ _).mono ?_; rintro e w4 ⟨rfl, rfl⟩; rw [HNT.out])
        refine hK.out _ _ ?_ (fun hHeld => ?_)
        · (try dsimp only)
          first | exact HX.out.drew.four | exact HX5.out.four | exact hHeld
        clear hK K
        (try simp only [Act.put, gA, gB, gC, sA, sB, sC])
        refine wpAnyH_ready (rs := [5]) (by kernel_rfl) (by simp) ?_
        refine AllReadyH.cons (o := _) rfl (fun K hK => ?_) AllReadyH.nil
        go_simp
        (go_at_call 124; refine (auIsList_c HV ad (13 + k) (by omega) g false ⟨fun h => (by cases h), fun h => absurd h HZN.out⟩ _ HVR.out.drew HLR.out.drew).mono ?_; rintro e w5 ⟨rfl, hb5⟩; have HX5 := hidp (HX.out.drew.keep hb5); have HB5 := hidp (Bgo (Bdrew HB.out) hb5); have HLR5 := hidp (HLR.out.drew.keep hb5); clear hb5)
        refine hK.out _ _ ?_ (fun hHeld => ?_)
        · (try dsimp only)
          first | exact HX.out.drew.four | exact HX5.out.four | exact hHeld
        clear hK K
        (try simp only [Act.put, gA, gB, gC, sA, sB, sC])
        refine tkz 6 ?_
        refine wpAnyH_done (by kernel_rfl) ?_ _
        go_wp2
        go_ret
        exact ⟨by rw [HBF.out]; rfl, HB5.out⟩
      · have HZT := hidp (Classical.byContradiction hz)
        clear hz
        go_wp2_with fail
        refine wp_region_held_drew (S := (fun w' => w'.cell? ⟨w.heap.size, 0, none⟩ = some (.int .i64 (H.t : Int)) ∧ w'.cell? ⟨w.heap.size, 1, none⟩ = some (.int .i64 (H.p : Int)) ∧ w'.cell? ⟨w.heap.size, 2, none⟩ = some (.int .i64 (H.s : Int)) ∧ w'.cell? ⟨w.heap.size, 3, none⟩ = some (.slice (some ad) n c))) (by kernel_rfl) ?_ (fun hHeld => ?_)
        · (try dsimp only)
          first | exact HX.out.drew.four | exact HX5.out.four | exact hHeld
        refine tkz 0 ?_
        refine tkz 1 ?_
        refine tkz 2 ?_
        refine tkz 4 ?_
        refine wpAnyH_ready (rs := [3]) (by kernel_rfl) (by simp) ?_
        refine AllReadyH.cons (o := _) rfl (fun K hK => ?_) AllReadyH.nil
        go_simp
        (go_at_call 108; refine (plRack_c _ _).mono ?_; rintro e w4 ⟨rfl, rfl⟩; rw [HNT.out])
        refine hK.out _ _ ?_ (fun hHeld => ?_)
        · (try dsimp only)
          first | exact HX.out.drew.four | exact HX5.out.four | exact hHeld
        clear hK K
        (try simp only [Act.put, gA, gB, gC, sA, sB, sC])
        refine wpAnyH_ready (rs := [5]) (by kernel_rfl) (by simp) ?_
        refine AllReadyH.cons (o := _) rfl (fun K hK => ?_) AllReadyH.nil
        go_simp
        (go_at_call 124; refine (auIsList_c HV ad (13 + k) (by omega) g true ⟨fun _ => HZT.out, fun _ => rfl⟩ _ HVR.out.drew HLR.out.drew).mono ?_; rintro e w5 ⟨rfl, hb5⟩; have HX5 := hidp (HX.out.drew.keep hb5); have HB5 := hidp (Bgo (Bdrew HB.out) hb5); have HLR5 := hidp (HLR.out.drew.keep hb5); clear hb5)
        refine hK.out _ _ ?_ (fun hHeld => ?_)
        · (try dsimp only)
          first | exact HX.out.drew.four | exact HX5.out.four | exact hHeld
        clear hK K
        (try simp only [Act.put, gA, gB, gC, sA, sB, sC])
        refine tkz 6 ?_
        refine wpAnyH_done (by kernel_rfl) ?_ _
        go_wp2
        go_roundw
        case rel => exact ⟨k + 1, by omega, by go_num, hidp (fun j h => by
          rcases Nat.lt_or_ge j k with h2 | h2
          · exact HOK.out j h2
          · have : j = k := by omega
            subst this; exact HZT.out), HX5, HLR5, HB5⟩
        case measure => simp [intOf]; omega
    · have t0 : decide ((k : Int) < 9) = false := decide_eq_false (by omega)
      have HBT : Hid (b = true) := hidp (bool_yes HBC.out (fun j hj => HOK.out j (by omega)))
      go_wp2_with fail
      go_ret
      exact ⟨by rw [HBT.out]; rfl, HB.out⟩
set_option maxRecDepth 100000 in
theorem auHasRacks_c {H : AuH} {n c : Nat} (HV : HeapV H n c) (ht : H.Tiled) (ad : Addr) (b : Bool) (hb : b = true ↔ ∀ k, k < 9 → H.ListOk (13 + k)) (w : World) (hv : IsVals w ad n H.V) (hT : SlotsLaid w) :
    Calls Tryz.prog 83 #[hpV H ad n c] w fun e w' => e = .returned (.bool b) ∧ Below w.heap.size w w' := by
  have HX0 := hidp (Held.new w 51 #[.int .i64 (H.t : Int), .int .i64 (H.p : Int), .int .i64 (H.s : Int), .slice (some ad) n c])
  obtain ⟨c0, c1, c2, c3⟩ := HX0.out.four
  have HBW := hidp (Bnew (B0 w) (.cells #[.int .i64 (H.t : Int), .int .i64 (H.p : Int), .int .i64 (H.s : Int), .slice (some ad) n c] 51))
  have HLS := hidp (auAreLists_Racks_c HV ht ad b hb _ (hv.below HBW.out) (hT.below HBW.out))
  clear hv hT hb
  unfold hpV
  go_enter Tryz.func83, Tryz.ntmps83
  go_wp2_with (first
    | (go_at_call 106; refine HLS.out.mono ?_; rintro e w2 ⟨rfl, hb2⟩; have HB2 := hidp (Bgo HBW.out hb2); clear hb2)
    | fail)
  go_ret
  exact ⟨rfl, HB2.out⟩

namespace AuH
def R8 (H : AuH) : Prop := ∀ q, q < H.p → H.tgt q = -1 → H.cel q 2 = 0 ∧ H.cel q 3 = 0
end AuH
set_option maxHeartbeats 1600000 in
set_option maxRecDepth 100000 in
theorem auHasNoOther_c {H : AuH} {n c : Nat} (HV : HeapV H n c) (ht : H.Tiled) (ad : Addr) (b : Bool) (hb : b = true ↔ H.R8) (w : World) (hv : IsVals w ad n H.V) (hT : SlotsLaid w) :
    Calls Tryz.prog 84 #[hpV H ad n c] w fun e w' => e = .returned (.bool b) ∧ Below w.heap.size w w' := by
  have HVL := hidp hv
  have hpm : H.p ≤ 1024 := HV.nums.2.2.2.1
  have HX0 := hidp (Held.new w 51 #[.int .i64 (H.t : Int), .int .i64 (H.p : Int), .int .i64 (H.s : Int), .slice (some ad) n c])
  obtain ⟨c0, c1, c2, c3⟩ := HX0.out.four
  have HBW := hidp (Bnew (B0 w) (.cells #[.int .i64 (H.t : Int), .int .i64 (H.p : Int), .int .i64 (H.s : Int), .slice (some ad) n c] 51))
  have HLS := hidp (auLists_c HV ht ad _ (HVL.out.below HBW.out) (hT.below HBW.out))
  have HBC := hidp hb
  clear hv hT hb
  unfold hpV
  go_enter Tryz.func84, Tryz.ntmps84
  go_wp2_with (first
    | (go_at_call 109; refine HLS.out.mono ?_; rintro e w2 ⟨g, rfl, hi2, hg2, hb2⟩; have HI2 := hidp hi2; have HX2 := hidp (HX0.out.keep hb2); have HB2 := hidp (Bgo HBW.out hb2); clear hi2 hg2 hb2)
    | fail)
  clear c0 c1 c2 c3 HLS HBW HX0
  go_loopw [8] (fun u wr => ∃ k : Nat, k ≤ H.p ∧ u = .int .i64 (k : Int) ∧ Hid (∀ j, j < k → H.tgt j = -1 → H.cel j 2 = 0 ∧ H.cel j 3 = 0) ∧ Hid (Held wr w.heap.size 51 #[.int .i64 (H.t : Int), .int .i64 (H.p : Int), .int .i64 (H.s : Int), .slice (some ad) n c]) ∧ Hid (IntsF wr g H.p H.tgt) ∧ Hid (Below w.heap.size w wr)) (fun u _ => H.p - (intOf u).toNat)
  case atStart => exact ⟨0, by omega, rfl, hidp (fun j h => absurd h (by omega)), HX2, HI2, HB2⟩
  case round =>
    clear HX2 HI2 HB2
    obtain ⟨k, hk, rfl, HOK, HX, HLR, HB⟩ := hrel
    obtain ⟨c0, c1, c2, c3⟩ := HX.out.four
    have HVR := hidp (HVL.out.below HB.out)
    by_cases hlt : k < H.p
    · have t0 : decide ((k : Int) < H.p) = true := decide_eq_true (by omega)
      have l0 := HLR.out.at_ hlt
      have HST : Hid ((H.tgt k = -1 → H.cel k 2 = 0 ∧ H.cel k 3 = 0) → ∀ j, j < k + 1 → H.tgt j = -1 → H.cel j 2 = 0 ∧ H.cel j 3 = 0) := hidp (fun h j hj => by
        rcases Nat.lt_or_ge j k with h2 | h2
        · exact HOK.out j h2
        · have : j = k := by omega
          subst this; exact h)
      obtain ⟨ti, hti⟩ : ∃ ti, H.tgt k = ti := ⟨_, rfl⟩
      obtain ⟨nv, hnv⟩ : ∃ nv, H.cel k 2 = nv := ⟨_, rfl⟩
      obtain ⟨pv, hpv⟩ : ∃ pv, H.cel k 3 = pv := ⟨_, rfl⟩
      have HNV := hidp hnv
      have HPV := hidp hpv
      have HBK : Hid (ti = -1 → (nv ≠ 0 ∨ pv ≠ 0) → b = false) := hidp (fun h1 h2 => bool_no HBC.out (fun h => by
        have := h k hlt (hti.trans h1)
        omega))
      have HSK : Hid ((ti = -1 → nv = 0 ∧ pv = 0) → ∀ j, j < k + 1 → H.tgt j = -1 → H.cel j 2 = 0 ∧ H.cel j 3 = 0) := hidp (fun h => HST.out (fun h2 => by rw [hnv, hpv]; exact h (hti.symm.trans h2)))
      rw [hti] at l0
      clear hti hnv hpv HST
      by_cases h1 : ti = -1
      · subst h1
        by_cases h2 : nv = 0
        · have q1 : ((nv : Int) != 0) = false := by simp; omega
          by_cases h3 : pv = 0
          · have q2 : ((pv : Int) != 0) = false := by simp; omega
            have HSN := hidp (HSK.out (fun _ => ⟨h2, h3⟩))
            go_wp2_with (first
              | (have hz0 := HNV.out; clear hz0; go_at_call 49; refine (auAt_Next_c HV ad hlt _ HVR.out).mono ?_; rintro e w5 ⟨rfl, hb5⟩; rw [HNV.out]; have HB5 := hidp (Bgo HB.out hb5); have HX5 := hidp (HX.out.keep hb5); have HV5 := hidp (HVR.out.below hb5); have HL5 := hidp (HLR.out.keep hb5); clear hb5 HNV c0 c1 c2 c3; obtain ⟨c0, c1, c2, c3⟩ := HX5.out.four)
              | (have hz0 := HPV.out; clear hz0; go_at_call 49; refine (auAt_Prev_c HV ad hlt _ HV5.out).mono ?_; rintro e w6 ⟨rfl, hb6⟩; rw [HPV.out]; have HB6 := hidp (Bgo HB5.out hb6); have HX6 := hidp (HX5.out.keep hb6); have HL6 := hidp (HL5.out.keep hb6); clear hb6)
              | fail)
            go_roundw
            case rel => exact ⟨k + 1, by omega, by go_num, HSN, HX6, HL6, HB6⟩
            case measure => simp [intOf]; omega
          · have q2 : ((pv : Int) != 0) = true := by simp; omega
            have HBF := hidp (HBK.out rfl (.inr h3))
            go_wp2_with (first
              | (have hz0 := HNV.out; clear hz0; go_at_call 49; refine (auAt_Next_c HV ad hlt _ HVR.out).mono ?_; rintro e w5 ⟨rfl, hb5⟩; rw [HNV.out]; have HB5 := hidp (Bgo HB.out hb5); have HX5 := hidp (HX.out.keep hb5); have HV5 := hidp (HVR.out.below hb5); have HL5 := hidp (HLR.out.keep hb5); clear hb5 HNV c0 c1 c2 c3; obtain ⟨c0, c1, c2, c3⟩ := HX5.out.four)
              | (have hz0 := HPV.out; clear hz0; go_at_call 49; refine (auAt_Prev_c HV ad hlt _ HV5.out).mono ?_; rintro e w6 ⟨rfl, hb6⟩; rw [HPV.out]; have HB6 := hidp (Bgo HB5.out hb6); have HX6 := hidp (HX5.out.keep hb6); have HL6 := hidp (HL5.out.keep hb6); clear hb6)
              | fail)
            go_ret
            exact ⟨by rw [HBF.out]; rfl, HB6.out⟩
        · have q1 : ((nv : Int) != 0) = true := by simp; omega
          have HBF := hidp (HBK.out rfl (.inl h2))
          go_wp2_with (first
            | (have hz0 := HNV.out; clear hz0; go_at_call 49; refine (auAt_Next_c HV ad hlt _ HVR.out).mono ?_; rintro e w5 ⟨rfl, hb5⟩; rw [HNV.out]; have HB5 := hidp (Bgo HB.out hb5); have HX5 := hidp (HX.out.keep hb5); have HV5 := hidp (HVR.out.below hb5); have HL5 := hidp (HLR.out.keep hb5); clear hb5 HNV c0 c1 c2 c3; obtain ⟨c0, c1, c2, c3⟩ := HX5.out.four)
            | fail)
          go_ret
          exact ⟨by rw [HBF.out]; rfl, HB5.out⟩
      · have q1 : (ti == -1) = false := by simpa using h1
        have HSN := hidp (HSK.out (fun h => absurd h h1))
        go_wp2_with fail
        go_roundw
        case rel => exact ⟨k + 1, by omega, by go_num, HSN, HX, HLR, HB⟩
        case measure => simp [intOf]; omega
    · have t0 : decide ((k : Int) < H.p) = false := decide_eq_false (by omega)
      have HBT : Hid (b = true) := hidp (bool_yes HBC.out (fun j hj => HOK.out j (by omega)))
      go_wp2_with fail
      go_ret
      exact ⟨by rw [HBT.out]; rfl, HB.out⟩
end
end Go.Proofs.YtkbjckhbllmclaaGreatDoor
