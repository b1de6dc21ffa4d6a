/-
  Which list each page belongs in. Written by audit/gen_lists.py.
-/
import Derived.Test.YtbaofpdjfoaiiaaDoorAuditR5
import Derived.Test.YtbaofpdjfoaiiaaDoorRepeat
namespace Go.Proofs.YtbaofpdjfoaiiaaDoor
open Go.ChangeShapes Go.WideShapes Go.ChangeAt Go.RowKit Go.Shelf
set_option linter.unusedVariables false
set_option linter.unusedSimpArgs false

namespace AuH
/-- the cell of the list in which a page belongs; -1: in none -/
def tgt (H : AuH) (q : Nat) : Int := if H.K q = 1 then 2 + HM.logI (H.ln q : Int) else if H.K q = 3 ∧ H.cel q 5 ≠ 2 ^ slotI (H.Cl q) - 1 then 13 + H.Cl q else -1
variable {H : AuH}
theorem tgt_free {q : Nat} (h : H.K q = 1) : H.tgt q = 2 + HM.logI (H.ln q : Int) := by unfold tgt; rw [if_pos h]
theorem tgt_slab {q : Nat} (h : H.K q = 3) (h2 : H.cel q 5 ≠ 2 ^ slotI (H.Cl q) - 1) : H.tgt q = 13 + H.Cl q := by unfold tgt; rw [if_neg (by omega), if_pos ⟨h, h2⟩]
theorem tgt_full {q : Nat} (h : H.K q = 3) (h2 : H.cel q 5 = 2 ^ slotI (H.Cl q) - 1) : H.tgt q = -1 := by unfold tgt; rw [if_neg (by omega), if_neg (fun h3 => h3.2 h2)]
theorem tgt_used {q : Nat} (h : H.K q = 2) : H.tgt q = -1 := by unfold tgt; rw [if_neg (by omega), if_neg (by omega)]
theorem tgt_none {q : Nat} (h : H.K q = 0) : H.tgt q = -1 := by unfold tgt; rw [if_neg (by omega), if_neg (by omega)]
theorem log_few {n : Nat} (h1 : 1 ≤ n) (h2 : n ≤ 1024) : 0 ≤ HM.logI (n : Int) ∧ HM.logI (n : Int) ≤ 10 := by
  have h : ∃ k : Nat, k ≤ 10 ∧ 2 ^ k ≤ n ∧ n < 2 ^ (k + 1) := by
    rcases Nat.lt_or_ge n 1024 with h3 | h3
    · refine ⟨Nat.log2 n, ?_, Nat.log2_self_le (by omega), Nat.lt_log2_self⟩
      have := Nat.log2_lt (n := n) (k := 10) (by omega)
      have := this.2 h3
      omega
    · exact ⟨10, by omega, by omega, by omega⟩
  obtain ⟨k, hk, ha, hb⟩ := h
  rw [HM.logI_at (n : Int) k (by
    have e : ((n : Int) / 2 ^ k) = ((n / 2 ^ k : Nat) : Int) := by push_cast; rfl
    rw [e]
    have := Nat.div_le_div_right (c := 2 ^ k) ha
    rw [Nat.div_self (Nat.two_pow_pos k)] at this
    omega) (by
    have e : ((n : Int) / 2 ^ (k + 1)) = ((n / 2 ^ (k + 1) : Nat) : Int) := by push_cast; rfl
    rw [e, Nat.div_eq_of_lt hb]
    omega)]
  omega
def lsTo (H : AuH) (x i : Nat) : Int := if i < x then H.tgt i else -1
theorem lsTo_step (ht : H.Tiled) {a : Nat} (ha : H.At a) (h0 : a < H.p) {i : Nat} (hi : i < H.p) : H.lsTo (H.nx a) i = if i = a then H.tgt a else H.lsTo a i := by
  have hn := H.nx_gt (ht.at_can ha h0)
  unfold lsTo
  rcases Nat.lt_trichotomy i a with h | h | h
  · rw [if_pos (by omega), if_neg (by omega), if_pos h]
  · subst h; rw [if_pos hn.1, if_pos rfl]
  · rw [if_neg (show ¬ i = a by omega), if_neg (show ¬ i < a by omega)]
    rcases Nat.lt_or_ge i (H.nx a) with h2 | h2
    · rw [if_pos h2, tgt_none (ht.inside ha h0 h h2)]
    · rw [if_neg (by omega)]
end AuH
/-- a row of ints that are told by a function -/
def IntsF (w : World) (g p : Nat) (f : Nat → Int) : Prop := ∃ cs, Held w g 3 cs ∧ cs.size = p ∧ ∀ i, i < p → cs[i]? = some (.int .i64 (f i))
theorem IntsF.at_ {w : World} {g p : Nat} {f : Nat → Int} (h : IntsF w g p f) {i : Nat} (hi : i < p) : w.cell? ⟨g, i, none⟩ = some (.int .i64 (f i)) := by
  obtain ⟨cs, h1, h2, h3⟩ := h
  exact (h1.cell i).trans (h3 i hi)
theorem IntsF.thawed {w : World} {g p : Nat} {f : Nat → Int} (h : IntsF w g p f) (i : Nat) : w.frozen? ⟨g, i, none⟩ = false := by
  obtain ⟨cs, h1, h2, h3⟩ := h
  exact h1.thawed i
theorem IntsF.lt {w : World} {g p : Nat} {f : Nat → Int} (h : IntsF w g p f) : g < w.heap.size := by obtain ⟨cs, h1, _⟩ := h; exact h1.lt
theorem IntsF.of {w w' : World} {g p : Nat} {f : Nat → Int} (h : IntsF w g p f) (hb : ∀ cs, Held w g 3 cs → Held w' g 3 cs) : IntsF w' g p f := by
  obtain ⟨cs, h1, h2, h3⟩ := h
  exact ⟨cs, hb cs h1, h2, h3⟩
theorem IntsF.keep {w w' : World} {g p : Nat} {f : Nat → Int} (h : IntsF w g p f) (hb : Below w.heap.size w w') : IntsF w' g p f := h.of fun cs h1 => h1.keep hb
theorem IntsF.drew {w : World} {g p : Nat} {f : Nat → Int} (h : IntsF w g p f) : IntsF w.drew g p f := h
theorem IntsF.same {w : World} {g p : Nat} {f f' : Nat → Int} (h : IntsF w g p f) (he : ∀ i, i < p → f i = f' i) : IntsF w g p f' := by
  obtain ⟨cs, h1, h2, h3⟩ := h
  exact ⟨cs, h1, h2, fun i hi => by rw [← he i hi]; exact h3 i hi⟩
theorem IntsF.put {w : World} {g p : Nat} {f : Nat → Int} (h : IntsF w g p f) {k : Nat} (hk : k < p) (u : Int) : IntsF (w.setCell ⟨g, k, none⟩ (.int .i64 u)) g p (fun i => if i = k then u else f i) := by
  obtain ⟨cs, h1, h2, h3⟩ := h
  refine ⟨_, h1.put k (.int .i64 u), by simp; exact h2, fun i hi => ?_⟩
  by_cases e : i = k
  · subst e; simp [h2, hi]
  · rw [Array.getElem?_setIfInBounds_ne (by omega), h3 i hi]
    show _ = some (Value.int .i64 (if i = k then u else f i))
    rw [if_neg e]
section
attribute [local go_sem] Oper.semAt_some

set_option maxHeartbeats 6400000 in
set_option maxRecDepth 100000 in
theorem auLists_c {H : AuH} {n c : Nat} (HV : HeapV H n c) (ht : H.Tiled) (ad : Addr) (w : World) (hv : IsVals w ad n H.V) (hT : SlotsLaid w) :
    Calls Tryd.prog 42 #[hpV H ad n c] w fun e w' => ∃ g, e = .returned (.slice (some ⟨g, 0, none⟩) H.p H.p) ∧ IntsF w' g H.p H.tgt ∧ w.heap.size ≤ g ∧ Below w.heap.size w w' := by
  have HTL := hidp hT
  have HVL := hidp hv
  have hn := HV.nums
  have HP : H.p ≤ 1024 := hn.2.2.2.1
  refine calls_of_wp_mark Tryd.func42 rfl ?_
  unfold hpV
  simp only [Tryd.ntmps42, List.size_toArray, List.length_cons, List.length_nil, Nat.reduceAdd, Nat.reduceSub, Array.replicate_succ, Array.replicate_zero, List.push_toArray, List.append_toArray, List.nil_append, List.cons_append]
  have HX0 := hidp ((Held.new w 41 #[.int .i64 (H.t : Int), .int .i64 (H.p : Int), .int .i64 (H.s : Int), .slice (some ad) n c]).alloc (.cells #[.int .i64 (-1)] 3))
  have hr0 := Held.new (w.alloc (.cells #[.int .i64 (H.t : Int), .int .i64 (H.p : Int), .int .i64 (H.s : Int), .slice (some ad) n c] 41)) 3 #[.int .i64 (-1)]
  rw [World.size_alloc] at hr0
  have HB0 := hidp (Bnew (Bnew (B0 w) (.cells #[.int .i64 (H.t : Int), .int .i64 (H.p : Int), .int .i64 (H.s : Int), .slice (some ad) n c] 41)) (.cells #[.int .i64 (-1)] 3))
  go_wp2_with (first
    | (go_at_call 61; refine (repeat_c (-1) (w.heap.size + 1) H.p (by omega) (by omega) _ hr0).mono ?_; rintro e w2 ⟨g, cs, rfl, hh2, hs2, hc2, hg2, hb2⟩; have HR2 : Hid (IntsF w2 g H.p (H.lsTo 0)) := hidp ⟨cs, hh2, hs2, fun i hi => by rw [hc2 i hi]; unfold AuH.lsTo; rw [if_neg (by omega)]⟩; have HX02 := hidp (HX0.out.keep hb2); obtain ⟨z0, z1, z2, z3⟩ := (HX02.out.alloc (.cells #[.slice (some ⟨g, 0, none⟩) H.p H.p] 66)).four; have HB2 := hidp (Bgo HB0.out hb2); have HG2 : Hid (w.heap.size + 1 < g) := hidp (by simp at hg2; omega); clear hh2 hs2 hc2 hg2 hb2)
    | fail)
  have HX0' := hidp (HX02.out.alloc (.cells #[.slice (some ⟨g, 0, none⟩) H.p H.p] 66))
  have HX1 := hidp (Held.new w2 66 #[.slice (some ⟨g, 0, none⟩) H.p H.p])
  have HX2 := hidp (HR2.out.keep (Bnew (B0 w2) (.cells #[.slice (some ⟨g, 0, none⟩) H.p H.p] 66)))
  have HBW := hidp (Bnew HB2.out (.cells #[.slice (some ⟨g, 0, none⟩) H.p H.p] 66))
  have HNE : Hid (w.heap.size + 1 < g ∧ g < w2.heap.size) := hidp ⟨HG2.out, HR2.out.lt⟩
  clear HX0 HX02 HR2 HB0 HB2 hr0 z0 z1 z2 z3
  generalize w2.alloc (.cells #[.slice (some ⟨g, 0, none⟩) H.p H.p] 66) = W3 at *
  obtain ⟨gb, hgb⟩ : ∃ gb, w2.heap.size = gb := ⟨_, rfl⟩
  rw [hgb] at HX1 HNE ⊢
  clear hgb HG2
  refine wp_seq (w0 := w) (gf := 13) (bound := #[hpV H ad n c]) (enc := encS H) (can := H.can) (next := H.nx) rfl (enters_of Tryd.func13 (by kernel_rfl) rfl) (auSpans_seq HV ad w HVL.out) HBW.out (fun _ => rfl)
    (fun pos F A => F = (fun i => i = g) ∧ H.At pos ∧ Held A w.heap.size 41 #[.int .i64 (H.t : Int), .int .i64 (H.p : Int), .int .i64 (H.s : Int), .slice (some ad) n c] ∧ Held A gb 66 #[.slice (some ⟨g, 0, none⟩) H.p H.p] ∧ IntsF A g H.p (H.lsTo pos) ∧ Below w.heap.size w A)
    (fun c A => False)
    ?hI ?hIx ?hIB ?hIF (F0 := (fun i => i = g)) ⟨rfl, .zero, HX0'.out, HX1.out, HX2.out, HBW.out⟩ ?round ?done ?stop
  case hI => rintro pos F A B ⟨h1, h2, h4, h5, h6, h7⟩ hm; exact ⟨h1, h2, hm.held h4, hm.held h5, h6.of (fun cs h => hm.held h), hm.below h7 HBW.out.size⟩
  case hIx => rintro c A B h hm; exact h
  case hIB => rintro pos F A ⟨h1, h2, h4, h5, h6, h7⟩; exact h7
  case hIF => rintro pos F A ⟨rfl, h2, h4, h5, ⟨cs, h6, _⟩, h7⟩ i rfl; exact ⟨_, h6, rfl⟩
  case round =>
    rintro l pos F A hc ⟨rfl, hat, x0, x1, x2, hB⟩ hsz
    unfold encS
    have HAL : Hid (gb < A.heap.size ∧ g < A.heap.size) := hidp ⟨x1.lt, x2.lt⟩
    gi_wp2_with fail
    refine ⟨Bnew (B0 A) _, fun A2 hM hs => ?_⟩
    have HN := hidp (hM.held (Held.new A 50 #[.int .i64 (H.K pos), .int .i64 (H.ln pos : Int), .int .i64 (H.Cl pos)]))
    have HX0 := hidp (hM.held (x0.alloc (.cells #[.int .i64 (H.K pos), .int .i64 (H.ln pos : Int), .int .i64 (H.Cl pos)] 50)))
    have HX1 := hidp (hM.held (x1.alloc (.cells #[.int .i64 (H.K pos), .int .i64 (H.ln pos : Int), .int .i64 (H.Cl pos)] 50)))
    have HB := hidp (hM.below (Bnew hB (.cells #[.int .i64 (H.K pos), .int .i64 (H.ln pos : Int), .int .i64 (H.Cl pos)] 50)) HBW.out.size)
    have HI := hidp ((x2.keep (Bnew (B0 A) (.cells #[.int .i64 (H.K pos), .int .i64 (H.ln pos : Int), .int .i64 (H.Cl pos)] 50))).of (fun cs h => hM.held h))
    have HAT := hidp hat
    have HC := hidp hc
    obtain ⟨hlt, hk0, hle⟩ := (H.can_iff pos).1 hc
    have HLT := hidp hlt
    have HLS := hidp (fun i => AuH.lsTo_step ht hat hlt (i := i))
    have HVR := hidp (HVL.out.below HB.out)
    have HTLR := hidp (HTL.out.below HB.out)
    clear hM x0 x1 x2 hB hat hc hs hsz hle
    have hkc := H.K_cases pos
    have hlog := fun h1 h2 => AuH.log_few (n := H.ln pos) h1 h2
    have htf := AuH.tgt_free (H := H) (q := pos)
    have htu := AuH.tgt_used (H := H) (q := pos)
    have hts := AuH.tgt_slab (H := H) (q := pos)
    have hte := AuH.tgt_full (H := H) (q := pos)
    have HCS : Hid (0 ≤ H.Cl pos → H.Cl pos ≤ 8 → ∀ W, SlotsLaid W → Calls Tryd.prog 38 #[.int .i64 (H.Cl pos)] W fun e w' => e = .returned (.int .u32 ((2 ^ slotI (H.Cl pos) - 1 : Nat) : Int)) ∧ W = w') := hidp (fun h1 h2 W h => auSlotBits_c (H.Cl pos) (by omega) (by omega) W h)
    have hsb := mask_lt32 _ (slotI_le (H.Cl pos))
    generalize 2 ^ slotI (H.Cl pos) - 1 = sb at *
    obtain ⟨tk, htk⟩ : ∃ tk, H.cel pos 5 = tk := ⟨_, rfl⟩
    have HET := hidp htk
    rw [htk] at hts hte
    clear htk
    generalize hkk : H.K pos = kk at *
    generalize H.ln pos = m at *
    generalize H.Cl pos = cl at *
    have HS : Hid (∀ w', Turns (fun i => i = g) A2 w' → (fun w' => w'.cell? ⟨w.heap.size, 0, none⟩ = some (.int .i64 (H.t : Int)) ∧ w'.cell? ⟨w.heap.size, 1, none⟩ = some (.int .i64 (H.p : Int)) ∧ w'.cell? ⟨w.heap.size, 2, none⟩ = some (.int .i64 (H.s : Int)) ∧ w'.cell? ⟨w.heap.size, 3, none⟩ = some (.slice (some ad) n c) ∧ w'.cell? ⟨gb, 0, none⟩ = some (.slice (some ⟨g, 0, none⟩) H.p H.p) ∧ w'.cell? ⟨A.heap.size, 0, none⟩ = some (.int .i64 kk) ∧ w'.cell? ⟨A.heap.size, 1, none⟩ = some (.int .i64 (m : Int)) ∧ w'.cell? ⟨A.heap.size, 2, none⟩ = some (.int .i64 cl)) w') := hidp (fun w' hT => by
      have h0 := (hT.held HX0.out (by have := HNE.out; omega)).four
      have h1 := (hT.held HX1.out (by have := HNE.out; omega)).one.1
      have h2 := (hT.held HN.out (by have := HAL.out; omega)).three
      exact ⟨h0.1, h0.2.1, h0.2.2.1, h0.2.2.2, h1, h2.1, h2.2.1, h2.2.2⟩)
    obtain ⟨c0, c1, c2, c3, c4, d0, d1, d2⟩ := HS.out A2 (T0 _ _)
    clear hkk
    have HTG : Hid (∀ u w', IntsF w' g H.p (fun i => if i = pos then u else H.lsTo pos i) → u = H.tgt pos → IntsF w' g H.p (H.lsTo (H.nx pos))) := hidp (fun u w' h e => h.same (fun i hi => by rw [HLS.out i hi, e]))
    rcases hkc with hk | ⟨hk | hk, hl1, hl2, -⟩ | ⟨hk, hl1, hcl1, hcl2⟩
    · exact absurd hk.1 hk0
    · subst hk
      have hlg := hlog hl1 hl2
      have HTF := hidp (htf rfl)
      clear hlog htf htu hts hte hk0
      have hbi : nthI 2 11 1 (HM.logI (m : Int)) = 2 + HM.logI (m : Int) := by rw [nth_on (by omega) (by omega) (by omega)]; omega
      have HLG : Hid (∀ W : World, Calls Tryd.prog 62 #[.int .i64 (m : Int)] W fun e w' => e = .returned (.int .i64 (HM.logI (m : Int))) ∧ W = w') := hidp (Log_c (m : Int) (by omega) (by omega))
      generalize HM.logI (m : Int) = lg at *
      obtain ⟨y, hy⟩ : ∃ y : Int, 2 + lg = y := ⟨_, rfl⟩
      rw [hy] at hbi HTF
      have HBI := hidp hbi
      have HTS : Hid (Turns (fun i => i = g) A2 (A2.drew.setCell ⟨g, pos, none⟩ (.int .i64 y))) := hidp ((T0 (fun i => i = g) A2).drew.put (p := ⟨g, pos, none⟩) rfl _)
      have hcell : A2.drew.cell? ⟨g, pos, none⟩ = some (.int .i64 (H.lsTo pos pos)) := HI.out.at_ HLT.out
      have hfro : A2.drew.frozen? ⟨g, pos, none⟩ = false := HI.out.thawed pos
      clear hbi
      gi_wp2_with fail
      refine wp_region_round (S := (fun w' => w'.cell? ⟨w.heap.size, 0, none⟩ = some (.int .i64 (H.t : Int)) ∧ w'.cell? ⟨w.heap.size, 1, none⟩ = some (.int .i64 (H.p : Int)) ∧ w'.cell? ⟨w.heap.size, 2, none⟩ = some (.int .i64 (H.s : Int)) ∧ w'.cell? ⟨w.heap.size, 3, none⟩ = some (.slice (some ad) n c) ∧ w'.cell? ⟨gb, 0, none⟩ = some (.slice (some ⟨g, 0, none⟩) H.p H.p) ∧ w'.cell? ⟨A.heap.size, 0, none⟩ = some (.int .i64 1) ∧ w'.cell? ⟨A.heap.size, 1, none⟩ = some (.int .i64 (m : Int)) ∧ w'.cell? ⟨A.heap.size, 2, none⟩ = some (.int .i64 cl))) (by kernel_rfl) (by kernel_rfl) (fun _ _ h => h) ?_ (fun hHeld => ?_)
      · (try dsimp only)
        first | exact HS.out _ (T0 _ A2) | exact HS.out _ (T0 _ A2).drew | exact HS.out _ HTS.out | exact hHeld
      refine wpAnyH_take (i := 0) (oi := _) (v := ?_) rfl (by kernel_rfl) (by kernel_rfl) (by kernel_rfl) (fun _ _ _ h => h) (Or.inl ⟨by rfl, ?_⟩) (by assumption) ?_
      rotate_left
      · intro w hSw; (try dsimp only at hSw); go_simp; (try with_reducible rfl)
      (try simp only [Act.put, List.getElem_toArray, List.getElem_cons_zero, List.getElem_cons_succ, List.setIfInBounds_toArray, List.set_cons_zero, List.set_cons_succ])
      refine wpAnyH_take (i := 1) (oi := _) (v := ?_) rfl (by kernel_rfl) (by kernel_rfl) (by kernel_rfl) (fun _ _ _ h => h) (Or.inl ⟨by rfl, ?_⟩) (by assumption) ?_
      rotate_left
      · intro w hSw; (try dsimp only at hSw); go_simp; (try with_reducible rfl)
      (try simp only [Act.put, List.getElem_toArray, List.getElem_cons_zero, List.getElem_cons_succ, List.setIfInBounds_toArray, List.set_cons_zero, List.set_cons_succ])
      refine wpAnyH_take (i := 2) (oi := _) (v := ?_) rfl (by kernel_rfl) (by kernel_rfl) (by kernel_rfl) (fun _ _ _ h => h) (Or.inl ⟨by rfl, ?_⟩) (by assumption) ?_
      rotate_left
      · intro w hSw; (try dsimp only at hSw); go_simp; (try with_reducible rfl)
      (try simp only [Act.put, List.getElem_toArray, List.getElem_cons_zero, List.getElem_cons_succ, List.setIfInBounds_toArray, List.set_cons_zero, List.set_cons_succ])
      refine wpAnyH_take (i := 3) (oi := _) (v := ?_) rfl (by kernel_rfl) (by kernel_rfl) (by kernel_rfl) (fun _ _ _ h => h) (Or.inl ⟨by rfl, ?_⟩) (by assumption) ?_
      rotate_left
      · intro w hSw; (try dsimp only at hSw); go_simp; (try with_reducible rfl)
      (try simp only [Act.put, List.getElem_toArray, List.getElem_cons_zero, List.getElem_cons_succ, List.setIfInBounds_toArray, List.set_cons_zero, List.set_cons_succ])
      refine wpAnyH_ready (rs := [4]) (by kernel_rfl) (by simp) ?_
      refine AllReadyH.cons (o := _) rfl (fun K hK => ?_) AllReadyH.nil
      go_simp
      (go_at_call 62; refine (HLG.out _).mono ?_; rintro e w4 ⟨rfl, rfl⟩)
      refine hK.out _ _ ?_ (fun hHeld => ?_)
      · (try dsimp only)
        first | exact HS.out _ (T0 _ A2) | exact HS.out _ (T0 _ A2).drew | exact HS.out _ HTS.out | exact hHeld
      clear hK K
      (try simp only [Act.put, List.getElem_toArray, List.getElem_cons_zero, List.getElem_cons_succ, List.setIfInBounds_toArray, List.set_cons_zero, List.set_cons_succ])
      refine wpAnyH_ready (rs := [5]) (by kernel_rfl) (by simp) ?_
      refine AllReadyH.cons (o := _) rfl (fun K hK => ?_) AllReadyH.nil
      go_simp
      (go_at_call 40; refine (plBin_c _ _).mono ?_; rintro e w5 ⟨rfl, rfl⟩; rw [HBI.out])
      refine hK.out _ _ ?_ (fun hHeld => ?_)
      · (try dsimp only)
        first | exact HS.out _ (T0 _ A2) | exact HS.out _ (T0 _ A2).drew | exact HS.out _ HTS.out | exact hHeld
      clear hK K
      (try simp only [Act.put, List.getElem_toArray, List.getElem_cons_zero, List.getElem_cons_succ, List.setIfInBounds_toArray, List.set_cons_zero, List.set_cons_succ])
      refine wpAnyH_take (i := 6) (oi := _) (v := ?_) rfl (by kernel_rfl) (by kernel_rfl) (by kernel_rfl) (fun _ _ _ h => h) (Or.inl ⟨by rfl, ?_⟩) (by assumption) ?_
      rotate_left
      · intro w hSw; (try dsimp only at hSw); go_simp; (try with_reducible rfl)
      (try simp only [Act.put, List.getElem_toArray, List.getElem_cons_zero, List.getElem_cons_succ, List.setIfInBounds_toArray, List.set_cons_zero, List.set_cons_succ])
      refine wpAnyH_ready (rs := [7]) (by kernel_rfl) (by simp) ?_
      refine AllReadyH.cons (o := _) rfl (fun K hK => ?_) AllReadyH.nil
      go_simp
      skip
      refine hK.out _ _ ?_ (fun hHeld => ?_)
      · (try dsimp only)
        first | exact HS.out _ (T0 _ A2) | exact HS.out _ (T0 _ A2).drew | exact HS.out _ HTS.out | exact hHeld
      clear hK K
      (try simp only [Act.put, List.getElem_toArray, List.getElem_cons_zero, List.getElem_cons_succ, List.setIfInBounds_toArray, List.set_cons_zero, List.set_cons_succ])
      refine wpAnyH_done (by kernel_rfl) ?_ _
      gi_wp2
      exact ⟨HTS.out, _, ⟨rfl, .step HAT.out HC.out, HTS.out.held HX0.out (by have := HNE.out; omega), HTS.out.held HX1.out (by have := HNE.out; omega), HTG.out _ _ (HI.out.put (w := A2.drew) HLT.out y) HTF.out.symm, HTS.out.below HB.out (by have := HNE.out; omega)⟩, fun i hi => .inl hi⟩
    · subst hk
      have HTU := hidp (htu rfl)
      clear hlog htf htu hts hte hk0
      gi_wp2_with fail
      refine wp_region_round (S := (fun w' => w'.cell? ⟨w.heap.size, 0, none⟩ = some (.int .i64 (H.t : Int)) ∧ w'.cell? ⟨w.heap.size, 1, none⟩ = some (.int .i64 (H.p : Int)) ∧ w'.cell? ⟨w.heap.size, 2, none⟩ = some (.int .i64 (H.s : Int)) ∧ w'.cell? ⟨w.heap.size, 3, none⟩ = some (.slice (some ad) n c) ∧ w'.cell? ⟨gb, 0, none⟩ = some (.slice (some ⟨g, 0, none⟩) H.p H.p) ∧ w'.cell? ⟨A.heap.size, 0, none⟩ = some (.int .i64 2) ∧ w'.cell? ⟨A.heap.size, 1, none⟩ = some (.int .i64 (m : Int)) ∧ w'.cell? ⟨A.heap.size, 2, none⟩ = some (.int .i64 cl))) (by kernel_rfl) (by kernel_rfl) (fun _ _ h => h) ?_ (fun hHeld => ?_)
      · (try dsimp only)
        first | exact HS.out _ (T0 _ A2) | exact HS.out _ (T0 _ A2).drew | exact hHeld
      refine wpAnyH_take (i := 0) (oi := _) (v := ?_) rfl (by kernel_rfl) (by kernel_rfl) (by kernel_rfl) (fun _ _ _ h => h) (Or.inl ⟨by rfl, ?_⟩) (by assumption) ?_
      rotate_left
      · intro w hSw; (try dsimp only at hSw); go_simp; (try with_reducible rfl)
      (try simp only [Act.put, List.getElem_toArray, List.getElem_cons_zero, List.getElem_cons_succ, List.setIfInBounds_toArray, List.set_cons_zero, List.set_cons_succ])
      refine wpAnyH_take (i := 1) (oi := _) (v := ?_) rfl (by kernel_rfl) (by kernel_rfl) (by kernel_rfl) (fun _ _ _ h => h) (Or.inl ⟨by rfl, ?_⟩) (by assumption) ?_
      rotate_left
      · intro w hSw; (try dsimp only at hSw); go_simp; (try with_reducible rfl)
      (try simp only [Act.put, List.getElem_toArray, List.getElem_cons_zero, List.getElem_cons_succ, List.setIfInBounds_toArray, List.set_cons_zero, List.set_cons_succ])
      refine wpAnyH_take (i := 2) (oi := _) (v := ?_) rfl (by kernel_rfl) (by kernel_rfl) (by kernel_rfl) (fun _ _ _ h => h) (Or.inl ⟨by rfl, ?_⟩) (by assumption) ?_
      rotate_left
      · intro w hSw; (try dsimp only at hSw); go_simp; (try with_reducible rfl)
      (try simp only [Act.put, List.getElem_toArray, List.getElem_cons_zero, List.getElem_cons_succ, List.setIfInBounds_toArray, List.set_cons_zero, List.set_cons_succ])
      refine wpAnyH_take (i := 3) (oi := _) (v := ?_) rfl (by kernel_rfl) (by kernel_rfl) (by kernel_rfl) (fun _ _ _ h => h) (Or.inl ⟨by rfl, ?_⟩) (by assumption) ?_
      rotate_left
      · intro w hSw; (try dsimp only at hSw); go_simp; (try with_reducible rfl)
      (try simp only [Act.put, List.getElem_toArray, List.getElem_cons_zero, List.getElem_cons_succ, List.setIfInBounds_toArray, List.set_cons_zero, List.set_cons_succ])
      refine wpAnyH_take (i := 4) (oi := _) (v := undef) rfl (by kernel_rfl) (by kernel_rfl) (by kernel_rfl) (fun _ _ _ h => h) (Or.inr ⟨by rfl, rfl⟩) (by assumption) ?_
      (try simp only [Act.put, List.getElem_toArray, List.getElem_cons_zero, List.getElem_cons_succ, List.setIfInBounds_toArray, List.set_cons_zero, List.set_cons_succ])
      refine wpAnyH_take (i := 5) (oi := _) (v := undef) rfl (by kernel_rfl) (by kernel_rfl) (by kernel_rfl) (fun _ _ _ h => h) (Or.inr ⟨by rfl, rfl⟩) (by assumption) ?_
      (try simp only [Act.put, List.getElem_toArray, List.getElem_cons_zero, List.getElem_cons_succ, List.setIfInBounds_toArray, List.set_cons_zero, List.set_cons_succ])
      refine wpAnyH_take (i := 6) (oi := _) (v := undef) rfl (by kernel_rfl) (by kernel_rfl) (by kernel_rfl) (fun _ _ _ h => h) (Or.inr ⟨by rfl, rfl⟩) (by assumption) ?_
      (try simp only [Act.put, List.getElem_toArray, List.getElem_cons_zero, List.getElem_cons_succ, List.setIfInBounds_toArray, List.set_cons_zero, List.set_cons_succ])
      refine wpAnyH_take (i := 7) (oi := _) (v := undef) rfl (by kernel_rfl) (by kernel_rfl) (by kernel_rfl) (fun _ _ _ h => h) (Or.inr ⟨by rfl, rfl⟩) (by assumption) ?_
      (try simp only [Act.put, List.getElem_toArray, List.getElem_cons_zero, List.getElem_cons_succ, List.setIfInBounds_toArray, List.set_cons_zero, List.set_cons_succ])
      refine wpAnyH_take (i := 8) (oi := _) (v := undef) rfl (by kernel_rfl) (by kernel_rfl) (by kernel_rfl) (fun _ _ _ h => h) (Or.inr ⟨by rfl, rfl⟩) (by assumption) ?_
      (try simp only [Act.put, List.getElem_toArray, List.getElem_cons_zero, List.getElem_cons_succ, List.setIfInBounds_toArray, List.set_cons_zero, List.set_cons_succ])
      refine wpAnyH_take (i := 9) (oi := _) (v := undef) rfl (by kernel_rfl) (by kernel_rfl) (by kernel_rfl) (fun _ _ _ h => h) (Or.inr ⟨by rfl, rfl⟩) (by assumption) ?_
      (try simp only [Act.put, List.getElem_toArray, List.getElem_cons_zero, List.getElem_cons_succ, List.setIfInBounds_toArray, List.set_cons_zero, List.set_cons_succ])
      refine wpAnyH_take (i := 10) (oi := _) (v := undef) rfl (by kernel_rfl) (by kernel_rfl) (by kernel_rfl) (fun _ _ _ h => h) (Or.inr ⟨by rfl, rfl⟩) (by assumption) ?_
      (try simp only [Act.put, List.getElem_toArray, List.getElem_cons_zero, List.getElem_cons_succ, List.setIfInBounds_toArray, List.set_cons_zero, List.set_cons_succ])
      refine wpAnyH_take (i := 11) (oi := _) (v := ?_) rfl (by kernel_rfl) (by kernel_rfl) (by kernel_rfl) (fun _ _ _ h => h) (Or.inl ⟨by rfl, ?_⟩) (by assumption) ?_
      rotate_left
      · intro w hSw; (try dsimp only at hSw); go_simp; (try with_reducible rfl)
      (try simp only [Act.put, List.getElem_toArray, List.getElem_cons_zero, List.getElem_cons_succ, List.setIfInBounds_toArray, List.set_cons_zero, List.set_cons_succ])
      refine wpAnyH_take (i := 12) (oi := _) (v := ?_) rfl (by kernel_rfl) (by kernel_rfl) (by kernel_rfl) (fun _ _ _ h => h) (Or.inl ⟨by rfl, ?_⟩) (by assumption) ?_
      rotate_left
      · intro w hSw; (try dsimp only at hSw); go_simp; (try with_reducible rfl)
      (try simp only [Act.put, List.getElem_toArray, List.getElem_cons_zero, List.getElem_cons_succ, List.setIfInBounds_toArray, List.set_cons_zero, List.set_cons_succ])
      refine wpAnyH_done (by kernel_rfl) ?_ _
      gi_wp2
      have HT9 := (T0 (fun i => i = g) A2).drew
      exact ⟨HT9, _, ⟨rfl, .step HAT.out HC.out, HT9.held HX0.out (by have := HNE.out; omega), HT9.held HX1.out (by have := HNE.out; omega), HTG.out (-1) _ (HI.out.same (fun i hi => by split; (rename_i h; subst h; unfold AuH.lsTo; rw [if_neg (by omega)]); rfl)) HTU.out.symm, HT9.below HB.out (by have := HNE.out; omega)⟩, fun i hi => .inl hi⟩
    · subst hk
      have HCS2 := hidp (HCS.out hcl1 hcl2)
      clear HCS
      have HCS := HCS2
      have hrk : nthI 13 9 1 cl = 13 + cl := by rw [nth_on (by omega) (by omega) (by omega)]; omega
      obtain ⟨y, hy⟩ : ∃ y : Int, 13 + cl = y := ⟨_, rfl⟩
      rw [hy] at hrk hts
      have HRK := hidp hrk
      have ht32 : tk < 2 ^ 32 := by rw [← HET.out]; exact HV.cel_lt HLT.out (by omega)
      clear hlog htf htu hk0 hrk
      by_cases hfull : tk = sb
      · have HTE := hidp (hte rfl hfull)
        have t0 : ((tk : Int) != (sb : Int)) = false := by simp; omega
        clear hte hts
        gi_wp2_with fail
        refine wp_region_round (S := (fun w' => w'.cell? ⟨w.heap.size, 0, none⟩ = some (.int .i64 (H.t : Int)) ∧ w'.cell? ⟨w.heap.size, 1, none⟩ = some (.int .i64 (H.p : Int)) ∧ w'.cell? ⟨w.heap.size, 2, none⟩ = some (.int .i64 (H.s : Int)) ∧ w'.cell? ⟨w.heap.size, 3, none⟩ = some (.slice (some ad) n c) ∧ w'.cell? ⟨gb, 0, none⟩ = some (.slice (some ⟨g, 0, none⟩) H.p H.p) ∧ w'.cell? ⟨A.heap.size, 0, none⟩ = some (.int .i64 3) ∧ w'.cell? ⟨A.heap.size, 1, none⟩ = some (.int .i64 (m : Int)) ∧ w'.cell? ⟨A.heap.size, 2, none⟩ = some (.int .i64 cl))) (by kernel_rfl) (by kernel_rfl) (fun _ _ h => h) ?_ (fun hHeld => ?_)
        · (try dsimp only)
          first | exact HS.out _ (T0 _ A2) | exact HS.out _ (T0 _ A2).drew | exact HS.out _ HT4.out | exact hHeld
        refine wpAnyH_take (i := 0) (oi := _) (v := ?_) rfl (by kernel_rfl) (by kernel_rfl) (by kernel_rfl) (fun _ _ _ h => h) (Or.inl ⟨by rfl, ?_⟩) (by assumption) ?_
        rotate_left
        · intro w hSw; (try dsimp only at hSw); go_simp; (try with_reducible rfl)
        (try simp only [Act.put, List.getElem_toArray, List.getElem_cons_zero, List.getElem_cons_succ, List.setIfInBounds_toArray, List.set_cons_zero, List.set_cons_succ])
        refine wpAnyH_take (i := 1) (oi := _) (v := ?_) rfl (by kernel_rfl) (by kernel_rfl) (by kernel_rfl) (fun _ _ _ h => h) (Or.inl ⟨by rfl, ?_⟩) (by assumption) ?_
        rotate_left
        · intro w hSw; (try dsimp only at hSw); go_simp; (try with_reducible rfl)
        (try simp only [Act.put, List.getElem_toArray, List.getElem_cons_zero, List.getElem_cons_succ, List.setIfInBounds_toArray, List.set_cons_zero, List.set_cons_succ])
        refine wpAnyH_take (i := 2) (oi := _) (v := ?_) rfl (by kernel_rfl) (by kernel_rfl) (by kernel_rfl) (fun _ _ _ h => h) (Or.inl ⟨by rfl, ?_⟩) (by assumption) ?_
        rotate_left
        · intro w hSw; (try dsimp only at hSw); go_simp; (try with_reducible rfl)
        (try simp only [Act.put, List.getElem_toArray, List.getElem_cons_zero, List.getElem_cons_succ, List.setIfInBounds_toArray, List.set_cons_zero, List.set_cons_succ])
        refine wpAnyH_take (i := 3) (oi := _) (v := ?_) rfl (by kernel_rfl) (by kernel_rfl) (by kernel_rfl) (fun _ _ _ h => h) (Or.inl ⟨by rfl, ?_⟩) (by assumption) ?_
        rotate_left
        · intro w hSw; (try dsimp only at hSw); go_simp; (try with_reducible rfl)
        (try simp only [Act.put, List.getElem_toArray, List.getElem_cons_zero, List.getElem_cons_succ, List.setIfInBounds_toArray, List.set_cons_zero, List.set_cons_succ])
        refine wpAnyH_take (i := 4) (oi := _) (v := ?_) rfl (by kernel_rfl) (by kernel_rfl) (by kernel_rfl) (fun _ _ _ h => h) (Or.inl ⟨by rfl, ?_⟩) (by assumption) ?_
        rotate_left
        · intro w hSw; (try dsimp only at hSw); go_simp; (try with_reducible rfl)
        (try simp only [Act.put, List.getElem_toArray, List.getElem_cons_zero, List.getElem_cons_succ, List.setIfInBounds_toArray, List.set_cons_zero, List.set_cons_succ])
        refine wpAnyH_take (i := 5) (oi := _) (v := ?_) rfl (by kernel_rfl) (by kernel_rfl) (by kernel_rfl) (fun _ _ _ h => h) (Or.inl ⟨by rfl, ?_⟩) (by assumption) ?_
        rotate_left
        · intro w hSw; (try dsimp only at hSw); go_simp; (try with_reducible rfl)
        (try simp only [Act.put, List.getElem_toArray, List.getElem_cons_zero, List.getElem_cons_succ, List.setIfInBounds_toArray, List.set_cons_zero, List.set_cons_succ])
        refine wpAnyH_take (i := 7) (oi := _) (v := ?_) rfl (by kernel_rfl) (by kernel_rfl) (by kernel_rfl) (fun _ _ _ h => h) (Or.inl ⟨by rfl, ?_⟩) (by assumption) ?_
        rotate_left
        · intro w hSw; (try dsimp only at hSw); go_simp; (try with_reducible rfl)
        (try simp only [Act.put, List.getElem_toArray, List.getElem_cons_zero, List.getElem_cons_succ, List.setIfInBounds_toArray, List.set_cons_zero, List.set_cons_succ])
        refine wpAnyH_take (i := 8) (oi := _) (v := ?_) rfl (by kernel_rfl) (by kernel_rfl) (by kernel_rfl) (fun _ _ _ h => h) (Or.inl ⟨by rfl, ?_⟩) (by assumption) ?_
        rotate_left
        · intro w hSw; (try dsimp only at hSw); go_simp; (try with_reducible rfl)
        (try simp only [Act.put, List.getElem_toArray, List.getElem_cons_zero, List.getElem_cons_succ, List.setIfInBounds_toArray, List.set_cons_zero, List.set_cons_succ])
        refine wpAnyH_ready (rs := [6]) (by kernel_rfl) (by simp) ?_
        refine AllReadyH.cons (o := _) rfl (fun K hK => ?_) AllReadyH.nil
        go_simp
        (go_at_call 27; refine (auAt_Taken_c HV ad HLT.out _ HVR.out.drew).mono ?_; rintro e w4 ⟨rfl, hb4⟩; rw [HET.out]; have HT4 := hidp ((T0 (fun i => i = g) A2).drew.trans (Turns.of_below hb4 _)); have HI4 := hidp (HI.out.drew.keep hb4); have HTL4 := hidp (HTLR.out.drew.below hb4); clear hb4)
        refine hK.out _ _ ?_ (fun hHeld => ?_)
        · (try dsimp only)
          first | exact HS.out _ (T0 _ A2) | exact HS.out _ (T0 _ A2).drew | exact HS.out _ HT4.out | exact hHeld
        clear hK K
        (try simp only [Act.put, List.getElem_toArray, List.getElem_cons_zero, List.getElem_cons_succ, List.setIfInBounds_toArray, List.set_cons_zero, List.set_cons_succ])
        refine wpAnyH_ready (rs := [9]) (by kernel_rfl) (by simp) ?_
        refine AllReadyH.cons (o := _) rfl (fun K hK => ?_) AllReadyH.nil
        go_simp
        (go_at_call 38; refine (HCS.out _ HTL4.out).mono ?_; rintro e w5 ⟨rfl, rfl⟩)
        refine hK.out _ _ ?_ (fun hHeld => ?_)
        · (try dsimp only)
          first | exact HS.out _ (T0 _ A2) | exact HS.out _ (T0 _ A2).drew | exact HS.out _ HT4.out | exact hHeld
        clear hK K
        (try simp only [Act.put, List.getElem_toArray, List.getElem_cons_zero, List.getElem_cons_succ, List.setIfInBounds_toArray, List.set_cons_zero, List.set_cons_succ])
        refine wpAnyH_take (i := 10) (oi := _) (v := ?_) rfl (by kernel_rfl) (by kernel_rfl) (by kernel_rfl) (fun _ _ _ h => h) (Or.inl ⟨by rfl, ?_⟩) (by assumption) ?_
        rotate_left
        · intro w hSw; (try dsimp only at hSw); go_simp; (try with_reducible rfl)
        (try simp only [Act.put, List.getElem_toArray, List.getElem_cons_zero, List.getElem_cons_succ, List.setIfInBounds_toArray, List.set_cons_zero, List.set_cons_succ])
        refine wpAnyH_take (i := 11) (oi := _) (v := ?_) rfl (by kernel_rfl) (by kernel_rfl) (by kernel_rfl) (fun _ _ _ h => h) (Or.inl ⟨by rfl, ?_⟩) (by assumption) ?_
        rotate_left
        · intro w hSw; (try dsimp only at hSw); go_simp; (try with_reducible rfl)
        (try simp only [Act.put, List.getElem_toArray, List.getElem_cons_zero, List.getElem_cons_succ, List.setIfInBounds_toArray, List.set_cons_zero, List.set_cons_succ])
        refine wpAnyH_take (i := 12) (oi := _) (v := ?_) rfl (by kernel_rfl) (by kernel_rfl) (by kernel_rfl) (fun _ _ _ h => h) (Or.inl ⟨by rfl, ?_⟩) (by assumption) ?_
        rotate_left
        · intro w hSw; (try dsimp only at hSw); go_simp; (try with_reducible rfl)
        (try simp only [Act.put, List.getElem_toArray, List.getElem_cons_zero, List.getElem_cons_succ, List.setIfInBounds_toArray, List.set_cons_zero, List.set_cons_succ])
        refine wpAnyH_done (by kernel_rfl) ?_ _
        gi_wp2
        exact ⟨HT4.out, _, ⟨rfl, .step HAT.out HC.out, HT4.out.held HX0.out (by have := HNE.out; omega), HT4.out.held HX1.out (by have := HNE.out; omega), HTG.out (-1) _ (HI4.out.same (fun i hi => by split; (rename_i h; subst h; unfold AuH.lsTo; rw [if_neg (by omega)]); rfl)) HTE.out.symm, HT4.out.below HB.out (by have := HNE.out; omega)⟩, fun i hi => .inl hi⟩
      · have HTE := hidp (hts rfl hfull)
        have t0 : ((tk : Int) != (sb : Int)) = true := by simp; omega
        clear hte hts
        gi_wp2_with fail
        refine wp_region_round (S := (fun w' => w'.cell? ⟨w.heap.size, 0, none⟩ = some (.int .i64 (H.t : Int)) ∧ w'.cell? ⟨w.heap.size, 1, none⟩ = some (.int .i64 (H.p : Int)) ∧ w'.cell? ⟨w.heap.size, 2, none⟩ = some (.int .i64 (H.s : Int)) ∧ w'.cell? ⟨w.heap.size, 3, none⟩ = some (.slice (some ad) n c) ∧ w'.cell? ⟨gb, 0, none⟩ = some (.slice (some ⟨g, 0, none⟩) H.p H.p) ∧ w'.cell? ⟨A.heap.size, 0, none⟩ = some (.int .i64 3) ∧ w'.cell? ⟨A.heap.size, 1, none⟩ = some (.int .i64 (m : Int)) ∧ w'.cell? ⟨A.heap.size, 2, none⟩ = some (.int .i64 cl))) (by kernel_rfl) (by kernel_rfl) (fun _ _ h => h) ?_ (fun hHeld => ?_)
        · (try dsimp only)
          first | exact HS.out _ (T0 _ A2) | exact HS.out _ (T0 _ A2).drew | exact HS.out _ HT4.out | exact hHeld
        refine wpAnyH_take (i := 0) (oi := _) (v := ?_) rfl (by kernel_rfl) (by kernel_rfl) (by kernel_rfl) (fun _ _ _ h => h) (Or.inl ⟨by rfl, ?_⟩) (by assumption) ?_
        rotate_left
        · intro w hSw; (try dsimp only at hSw); go_simp; (try with_reducible rfl)
        (try simp only [Act.put, List.getElem_toArray, List.getElem_cons_zero, List.getElem_cons_succ, List.setIfInBounds_toArray, List.set_cons_zero, List.set_cons_succ])
        refine wpAnyH_take (i := 1) (oi := _) (v := ?_) rfl (by kernel_rfl) (by kernel_rfl) (by kernel_rfl) (fun _ _ _ h => h) (Or.inl ⟨by rfl, ?_⟩) (by assumption) ?_
        rotate_left
        · intro w hSw; (try dsimp only at hSw); go_simp; (try with_reducible rfl)
        (try simp only [Act.put, List.getElem_toArray, List.getElem_cons_zero, List.getElem_cons_succ, List.setIfInBounds_toArray, List.set_cons_zero, List.set_cons_succ])
        refine wpAnyH_take (i := 2) (oi := _) (v := ?_) rfl (by kernel_rfl) (by kernel_rfl) (by kernel_rfl) (fun _ _ _ h => h) (Or.inl ⟨by rfl, ?_⟩) (by assumption) ?_
        rotate_left
        · intro w hSw; (try dsimp only at hSw); go_simp; (try with_reducible rfl)
        (try simp only [Act.put, List.getElem_toArray, List.getElem_cons_zero, List.getElem_cons_succ, List.setIfInBounds_toArray, List.set_cons_zero, List.set_cons_succ])
        refine wpAnyH_take (i := 3) (oi := _) (v := ?_) rfl (by kernel_rfl) (by kernel_rfl) (by kernel_rfl) (fun _ _ _ h => h) (Or.inl ⟨by rfl, ?_⟩) (by assumption) ?_
        rotate_left
        · intro w hSw; (try dsimp only at hSw); go_simp; (try with_reducible rfl)
        (try simp only [Act.put, List.getElem_toArray, List.getElem_cons_zero, List.getElem_cons_succ, List.setIfInBounds_toArray, List.set_cons_zero, List.set_cons_succ])
        refine wpAnyH_take (i := 4) (oi := _) (v := ?_) rfl (by kernel_rfl) (by kernel_rfl) (by kernel_rfl) (fun _ _ _ h => h) (Or.inl ⟨by rfl, ?_⟩) (by assumption) ?_
        rotate_left
        · intro w hSw; (try dsimp only at hSw); go_simp; (try with_reducible rfl)
        (try simp only [Act.put, List.getElem_toArray, List.getElem_cons_zero, List.getElem_cons_succ, List.setIfInBounds_toArray, List.set_cons_zero, List.set_cons_succ])
        refine wpAnyH_take (i := 5) (oi := _) (v := ?_) rfl (by kernel_rfl) (by kernel_rfl) (by kernel_rfl) (fun _ _ _ h => h) (Or.inl ⟨by rfl, ?_⟩) (by assumption) ?_
        rotate_left
        · intro w hSw; (try dsimp only at hSw); go_simp; (try with_reducible rfl)
        (try simp only [Act.put, List.getElem_toArray, List.getElem_cons_zero, List.getElem_cons_succ, List.setIfInBounds_toArray, List.set_cons_zero, List.set_cons_succ])
        refine wpAnyH_take (i := 7) (oi := _) (v := ?_) rfl (by kernel_rfl) (by kernel_rfl) (by kernel_rfl) (fun _ _ _ h => h) (Or.inl ⟨by rfl, ?_⟩) (by assumption) ?_
        rotate_left
        · intro w hSw; (try dsimp only at hSw); go_simp; (try with_reducible rfl)
        (try simp only [Act.put, List.getElem_toArray, List.getElem_cons_zero, List.getElem_cons_succ, List.setIfInBounds_toArray, List.set_cons_zero, List.set_cons_succ])
        refine wpAnyH_take (i := 8) (oi := _) (v := ?_) rfl (by kernel_rfl) (by kernel_rfl) (by kernel_rfl) (fun _ _ _ h => h) (Or.inl ⟨by rfl, ?_⟩) (by assumption) ?_
        rotate_left
        · intro w hSw; (try dsimp only at hSw); go_simp; (try with_reducible rfl)
        (try simp only [Act.put, List.getElem_toArray, List.getElem_cons_zero, List.getElem_cons_succ, List.setIfInBounds_toArray, List.set_cons_zero, List.set_cons_succ])
        refine wpAnyH_ready (rs := [6]) (by kernel_rfl) (by simp) ?_
        refine AllReadyH.cons (o := _) rfl (fun K hK => ?_) AllReadyH.nil
        go_simp
        (go_at_call 27; refine (auAt_Taken_c HV ad HLT.out _ HVR.out.drew).mono ?_; rintro e w4 ⟨rfl, hb4⟩; rw [HET.out]; have HT4 := hidp ((T0 (fun i => i = g) A2).drew.trans (Turns.of_below hb4 _)); have HI4 := hidp (HI.out.drew.keep hb4); have HTL4 := hidp (HTLR.out.drew.below hb4); clear hb4)
        refine hK.out _ _ ?_ (fun hHeld => ?_)
        · (try dsimp only)
          first | exact HS.out _ (T0 _ A2) | exact HS.out _ (T0 _ A2).drew | exact HS.out _ HT4.out | exact hHeld
        clear hK K
        (try simp only [Act.put, List.getElem_toArray, List.getElem_cons_zero, List.getElem_cons_succ, List.setIfInBounds_toArray, List.set_cons_zero, List.set_cons_succ])
        refine wpAnyH_ready (rs := [9]) (by kernel_rfl) (by simp) ?_
        refine AllReadyH.cons (o := _) rfl (fun K hK => ?_) AllReadyH.nil
        go_simp
        (go_at_call 38; refine (HCS.out _ HTL4.out).mono ?_; rintro e w5 ⟨rfl, rfl⟩)
        refine hK.out _ _ ?_ (fun hHeld => ?_)
        · (try dsimp only)
          first | exact HS.out _ (T0 _ A2) | exact HS.out _ (T0 _ A2).drew | exact HS.out _ HT4.out | exact hHeld
        clear hK K
        (try simp only [Act.put, List.getElem_toArray, List.getElem_cons_zero, List.getElem_cons_succ, List.setIfInBounds_toArray, List.set_cons_zero, List.set_cons_succ])
        refine wpAnyH_take (i := 10) (oi := _) (v := ?_) rfl (by kernel_rfl) (by kernel_rfl) (by kernel_rfl) (fun _ _ _ h => h) (Or.inl ⟨by rfl, ?_⟩) (by assumption) ?_
        rotate_left
        · intro w hSw; (try dsimp only at hSw); go_simp; (try with_reducible rfl)
        (try simp only [Act.put, List.getElem_toArray, List.getElem_cons_zero, List.getElem_cons_succ, List.setIfInBounds_toArray, List.set_cons_zero, List.set_cons_succ])
        refine wpAnyH_take (i := 11) (oi := _) (v := ?_) rfl (by kernel_rfl) (by kernel_rfl) (by kernel_rfl) (fun _ _ _ h => h) (Or.inl ⟨by rfl, ?_⟩) (by assumption) ?_
        rotate_left
        · intro w hSw; (try dsimp only at hSw); go_simp; (try with_reducible rfl)
        (try simp only [Act.put, List.getElem_toArray, List.getElem_cons_zero, List.getElem_cons_succ, List.setIfInBounds_toArray, List.set_cons_zero, List.set_cons_succ])
        refine wpAnyH_take (i := 12) (oi := _) (v := ?_) rfl (by kernel_rfl) (by kernel_rfl) (by kernel_rfl) (fun _ _ _ h => h) (Or.inl ⟨by rfl, ?_⟩) (by assumption) ?_
        rotate_left
        · intro w hSw; (try dsimp only at hSw); go_simp; (try with_reducible rfl)
        (try simp only [Act.put, List.getElem_toArray, List.getElem_cons_zero, List.getElem_cons_succ, List.setIfInBounds_toArray, List.set_cons_zero, List.set_cons_succ])
        refine wpAnyH_done (by kernel_rfl) ?_ _
        have HTS : Hid (Turns (fun i => i = g) A2 (w4.drew.setCell ⟨g, pos, none⟩ (.int .i64 y))) := hidp (HT4.out.drew.put (p := ⟨g, pos, none⟩) rfl _)
        have hcell : w4.drew.cell? ⟨g, pos, none⟩ = some (.int .i64 (H.lsTo pos pos)) := HI4.out.at_ HLT.out
        have hfro : w4.drew.frozen? ⟨g, pos, none⟩ = false := HI4.out.thawed pos
        gi_wp2_with fail
        refine wp_region_round (S := (fun w' => w'.cell? ⟨w.heap.size, 0, none⟩ = some (.int .i64 (H.t : Int)) ∧ w'.cell? ⟨w.heap.size, 1, none⟩ = some (.int .i64 (H.p : Int)) ∧ w'.cell? ⟨w.heap.size, 2, none⟩ = some (.int .i64 (H.s : Int)) ∧ w'.cell? ⟨w.heap.size, 3, none⟩ = some (.slice (some ad) n c) ∧ w'.cell? ⟨gb, 0, none⟩ = some (.slice (some ⟨g, 0, none⟩) H.p H.p) ∧ w'.cell? ⟨A.heap.size, 0, none⟩ = some (.int .i64 3) ∧ w'.cell? ⟨A.heap.size, 1, none⟩ = some (.int .i64 (m : Int)) ∧ w'.cell? ⟨A.heap.size, 2, none⟩ = some (.int .i64 cl))) (by kernel_rfl) (by kernel_rfl) (fun _ _ h => h) ?_ (fun hHeld => ?_)
        · (try dsimp only)
          first | exact HS.out _ HT4.out | exact HS.out _ HT4.out.drew | exact HS.out _ HTS.out | exact hHeld
        refine wpAnyH_take (i := 0) (oi := _) (v := ?_) rfl (by kernel_rfl) (by kernel_rfl) (by kernel_rfl) (fun _ _ _ h => h) (Or.inl ⟨by rfl, ?_⟩) (by assumption) ?_
        rotate_left
        · intro w hSw; (try dsimp only at hSw); go_simp; (try with_reducible rfl)
        (try simp only [Act.put, List.getElem_toArray, List.getElem_cons_zero, List.getElem_cons_succ, List.setIfInBounds_toArray, List.set_cons_zero, List.set_cons_succ])
        refine wpAnyH_take (i := 1) (oi := _) (v := ?_) rfl (by kernel_rfl) (by kernel_rfl) (by kernel_rfl) (fun _ _ _ h => h) (Or.inl ⟨by rfl, ?_⟩) (by assumption) ?_
        rotate_left
        · intro w hSw; (try dsimp only at hSw); go_simp; (try with_reducible rfl)
        (try simp only [Act.put, List.getElem_toArray, List.getElem_cons_zero, List.getElem_cons_succ, List.setIfInBounds_toArray, List.set_cons_zero, List.set_cons_succ])
        refine wpAnyH_take (i := 2) (oi := _) (v := ?_) rfl (by kernel_rfl) (by kernel_rfl) (by kernel_rfl) (fun _ _ _ h => h) (Or.inl ⟨by rfl, ?_⟩) (by assumption) ?_
        rotate_left
        · intro w hSw; (try dsimp only at hSw); go_simp; (try with_reducible rfl)
        (try simp only [Act.put, List.getElem_toArray, List.getElem_cons_zero, List.getElem_cons_succ, List.setIfInBounds_toArray, List.set_cons_zero, List.set_cons_succ])
        refine wpAnyH_take (i := 3) (oi := _) (v := ?_) rfl (by kernel_rfl) (by kernel_rfl) (by kernel_rfl) (fun _ _ _ h => h) (Or.inl ⟨by rfl, ?_⟩) (by assumption) ?_
        rotate_left
        · intro w hSw; (try dsimp only at hSw); go_simp; (try with_reducible rfl)
        (try simp only [Act.put, List.getElem_toArray, List.getElem_cons_zero, List.getElem_cons_succ, List.setIfInBounds_toArray, List.set_cons_zero, List.set_cons_succ])
        refine wpAnyH_ready (rs := [4]) (by kernel_rfl) (by simp) ?_
        refine AllReadyH.cons (o := _) rfl (fun K hK => ?_) AllReadyH.nil
        go_simp
        (go_at_call 41; refine (plRack_c _ _).mono ?_; rintro e w5 ⟨rfl, rfl⟩; rw [HRK.out])
        refine hK.out _ _ ?_ (fun hHeld => ?_)
        · (try dsimp only)
          first | exact HS.out _ HT4.out | exact HS.out _ HT4.out.drew | exact HS.out _ HTS.out | exact hHeld
        clear hK K
        (try simp only [Act.put, List.getElem_toArray, List.getElem_cons_zero, List.getElem_cons_succ, List.setIfInBounds_toArray, List.set_cons_zero, List.set_cons_succ])
        refine wpAnyH_take (i := 5) (oi := _) (v := ?_) rfl (by kernel_rfl) (by kernel_rfl) (by kernel_rfl) (fun _ _ _ h => h) (Or.inl ⟨by rfl, ?_⟩) (by assumption) ?_
        rotate_left
        · intro w hSw; (try dsimp only at hSw); go_simp; (try with_reducible rfl)
        (try simp only [Act.put, List.getElem_toArray, List.getElem_cons_zero, List.getElem_cons_succ, List.setIfInBounds_toArray, List.set_cons_zero, List.set_cons_succ])
        refine wpAnyH_ready (rs := [6]) (by kernel_rfl) (by simp) ?_
        refine AllReadyH.cons (o := _) rfl (fun K hK => ?_) AllReadyH.nil
        go_simp
        skip
        refine hK.out _ _ ?_ (fun hHeld => ?_)
        · (try dsimp only)
          first | exact HS.out _ HT4.out | exact HS.out _ HT4.out.drew | exact HS.out _ HTS.out | exact hHeld
        clear hK K
        (try simp only [Act.put, List.getElem_toArray, List.getElem_cons_zero, List.getElem_cons_succ, List.setIfInBounds_toArray, List.set_cons_zero, List.set_cons_succ])
        refine wpAnyH_done (by kernel_rfl) ?_ _
        gi_wp2
        exact ⟨HTS.out, _, ⟨rfl, .step HAT.out HC.out, HTS.out.held HX0.out (by have := HNE.out; omega), HTS.out.held HX1.out (by have := HNE.out; omega), HTG.out _ _ (HI4.out.put (w := w4.drew) HLT.out y) HTE.out.symm, HTS.out.below HB.out (by have := HNE.out; omega)⟩, fun i hi => .inl hi⟩
  case done =>
    rintro D pos F A hD hc ⟨rfl, hat, x0, x1, x2, hB⟩ hk
    have HDN : Hid (w.heap.size ≤ D) := hidp (Nat.le_trans HBW.out.size hD)
    have hpe : pos = H.p := by
      rw [ht.can_eq hat] at hc
      have := hat.le
      have := of_decide_eq_false hc
      omega
    subst hpe
    have HK := hidp hk
    have HB := hidp hB
    have HI := hidp x2
    have c0 := x1.one.1
    clear hk x0 x1 x2 hB hD hat hc
    go_wp2_with fail
    refine mark_end rfl HK.out ?_
    refine bodyPost_ret (results_tmp rfl _ _ _) rfl ?_
    exact ⟨g, rfl, (HI.out.of (fun cs h => h.shut HK.out rfl)).same (fun i hi => by unfold AuH.lsTo; rw [if_pos hi]), by have := HNE.out; omega, shutB HB.out HK.out rfl HDN.out⟩
  case stop =>
    rintro D c A hD h hk
    exact h.elim
end
end Go.Proofs.YtbaofpdjfoaiiaaDoor
