/-
  The document's answer for memories (nacreref10.M): New, Crash, Load, Store, Swap, Flush.
-/
import Derived.Test.YtobeapibiebpaaaNvmRef
import Derived.Test.YtobeapibiebpaaaNvmMake
namespace Go.Proofs.Ytobeapibiebpaaa
open Go.ChangeShapes Go.WideShapes Go.ChangeAt Go.RowKit Go.Maps
set_option linter.unusedVariables false
set_option linter.unusedSimpArgs false

theorem add_blk2 (g k : Nat) : (⟨g, 0, none⟩ : Addr).add k = ⟨g, k, none⟩ := by
  unfold Addr.add
  by_cases h : k = 0
  · rw [if_pos h, h]
  · rw [if_neg h]; simp
theorem Turns.of_grown_new {F : Nat → Prop} {w w' : World} {v : Value} (h : w.grownBy w' v.ownBlock) (hv : ∀ b, v.ownBlock = some b → F b) : Turns F w w' :=
  ⟨h.os, h.tape, h.output, h.size, fun i hi hf => h.block i hi (fun e => hf (hv i e.symm))⟩

/-- 'append([]uint64{}, x...)' -/
theorem wpList_append_words {w : World} {ops : Array Oper} {rest : List Oper} {o : Oper} {a : Act} {Q : Exit → Act → World → Prop} (hgd : o.guard = none) (s x : Operand)
    (ho : o.op = .call { callee := .builtin .append, args := #[s, x], argTypes := #[22, 22] })
    (hs : a.eval s = .slice (some ⟨w.heap.size, 0, none⟩) 0 0) (ad : Addr) (n c : Nat) (f : Nat → Nat) (hn : 0 < n) (hmx : n * 8 ≤ 140737488355328) (hx : a.eval x = .slice (some ad) n c) (hc : ∀ j, j < n → w.cell? (ad.add j) = some (wordF f j))
    (h : ∀ g cap w', w.heap.size ≤ g → Hid (RowF w' g 30 n cap (wordF f)) → Hid (Below w.heap.size w w') → wpList Try.prog ops Q rest (a.put o.dst (.slice (some ⟨g, 0, none⟩) n cap)) w') :
    wpList Try.prog ops Q (o :: rest) a (w.alloc (.cells #[] 30)) := by
  obtain ⟨i0, hi, hz0, hz1, hz2⟩ := info_parts wordInfo
  refine wpList_append_own _ hgd _ _ 22 ho w.heap.size 30 i0 (.int .u64 0) 1 8 Try.underlying22 hi hz0 hz1 hz2 rfl (by decide) _ 0 [] hs (World.ownsRow_made w #[] 0 (Nat.le_refl _) (Nat.zero_le _) (by simp)) ad n c ((List.range n).map (wordF f)) hx (by simp) ?_ ?_ (by rw [Nat.zero_add]; unfold maxLen; omega) (by rw [Nat.zero_add]; exact hmx) (by simp) ?_
  · intro j u hj
    have hj' : j < n := by
      rcases Nat.lt_or_ge j n with h1 | h1
      · exact h1
      · rw [List.getElem?_eq_none (by simp; omega)] at hj; cases hj
    rw [List.getElem?_map, List.getElem?_range hj'] at hj
    exact Lib.cell?_alloc_some _ ((hc j hj').trans hj)
  · intro u hu
    obtain ⟨j, _, rfl⟩ := List.mem_map.1 hu
    rfl
  · intro v' w1 hown hgrow hnil
    rw [Nat.zero_add, List.nil_append] at hown
    obtain ⟨g, cap, rfl, hg1, hg2⟩ := hown.form hn
    have hr := RowF.of_own hown
    exact h g cap w1 hr.1 (hidp hr.2) (hidp (((Below.refl _ w).alloc (Nat.le_refl _) (.cells #[] 30)).grown hgrow (by simp) (by intro k hk; simp [Value.ownBlock] at hk; omega)))

/-- the struct as it is made -/
def headF0 (g h n cg ch : Nat) : Nat → Value := fun i => if i = 0 then .slice (some ⟨g, 0, none⟩) n cg else if i = 1 then .slice (some ⟨h, 0, none⟩) n ch else .slice none 0 0
theorem headF_quiet (b g h n k cg ch : Nat) (p : Nat → Nat) (i : Nat) (hi : i < 19) (f : Nat → Value) (h0 : f 0 = .slice (some ⟨g, 0, none⟩) n cg) (h1 : f 1 = .slice (some ⟨h, 0, none⟩) n ch) : quietF f p k 17 i = headF ⟨b, g, h, p, n, k, cg, ch⟩ i := by
  unfold quietF headF
  by_cases e0 : i = 0
  · subst e0
    rw [if_neg (by omega), if_pos rfl, h0]
  · by_cases e1 : i = 1
    · subst e1
      rw [if_neg (by omega), if_neg (by omega), if_pos rfl, h1]
    · rw [if_pos ⟨by omega, by omega⟩, if_neg e0, if_neg e1]

theorem head0_row (w : World) (g h n cg ch : Nat) : RowF (w.alloc (.cells #[.slice (some ⟨g, 0, none⟩) n cg, .slice (some ⟨h, 0, none⟩) n ch, .slice none 0 0, .slice none 0 0, .slice none 0 0, .slice none 0 0, .slice none 0 0, .slice none 0 0, .slice none 0 0, .slice none 0 0, .slice none 0 0, .slice none 0 0, .slice none 0 0, .slice none 0 0, .slice none 0 0, .slice none 0 0, .slice none 0 0, .slice none 0 0, .slice none 0 0] 41)) w.heap.size 41 19 19 (headF0 g h n cg ch) :=
  ⟨_, Held.new _ _ _, rfl, Nat.le_refl _, by unfold maxLen; omega, fun i hi => by
    have hi' : i < 19 := hi
    clear hi
    have h19 : i = 0 ∨ i = 1 ∨ i = 2 ∨ i = 3 ∨ i = 4 ∨ i = 5 ∨ i = 6 ∨ i = 7 ∨ i = 8 ∨ i = 9 ∨ i = 10 ∨ i = 11 ∨ i = 12 ∨ i = 13 ∨ i = 14 ∨ i = 15 ∨ i = 16 ∨ i = 17 ∨ i = 18 := by omega
    rcases h19 with rfl | rfl | rfl | rfl | rfl | rfl | rfl | rfl | rfl | rfl | rfl | rfl | rfl | rfl | rfl | rfl | rfl | rfl | rfl <;> rfl⟩

theorem RNew_yes (ad : Addr) (n c : Nat) (f : Nat → Nat) (h8 : 8 ≤ n) (hmx : n ≤ 65536) (hmod : n % 8 = 0) (hf : ∀ i, f i < 2 ^ 64) (w : World) (had : ad.block < w.heap.size) (hc : ∀ j, j < n → w.cell? (ad.add j) = some (wordF f j)) :
    Calls Try.prog 10 #[.slice (some ad) n c] w fun e w' =>
      ∃ o : RGeo, o.n = n ∧ e = .returned (.pointer (some ⟨o.b, 0, none⟩)) ∧ IsRef w' o (newS f) ∧ (∀ i, o.F i → w.heap.size ≤ i) ∧ Below w.heap.size w w' := by
  obtain ⟨t1, t2, t3, t4⟩ := mod8 hmod
  have HC := hidp hc
  have HF := hidp hf
  have HMOD := hidp hmod
  have HAD := hidp had
  clear hc hf hmod had
  go_enter Try.func10, Try.ntmps10
  go_wp2_with (first
    | (at_builtin; refine wpList_append_words (w := w) rfl _ _ rfl rfl ad n c f (by omega) (by omega) rfl HC.out ?_; intro g1 c1 w1 hg1 HR1 HB1)
    | (at_builtin; refine wpList_append_words (w := w1) rfl _ _ rfl rfl ad n c f (by omega) (by omega) rfl (fun j hj => (HB1.out.cell (p := ad.add j) (by rw [block_of_add]; exact HAD.out)).trans (HC.out j hj)) ?_; intro g2 c2 w2 hg2 HR2 HB2))
  have hbn := Bnew (B0 w2) (.cells #[.slice (some ⟨g1, 0, none⟩) n c1, .slice (some ⟨g2, 0, none⟩) n c2, .slice none 0 0, .slice none 0 0, .slice none 0 0, .slice none 0 0, .slice none 0 0, .slice none 0 0, .slice none 0 0, .slice none 0 0, .slice none 0 0, .slice none 0 0, .slice none 0 0, .slice none 0 0, .slice none 0 0, .slice none 0 0, .slice none 0 0, .slice none 0 0, .slice none 0 0] 41)
  obtain ⟨k, hk⟩ : ∃ k, n = 8 * k := ⟨n / 8, by have := HMOD.out; omega⟩
  refine (quiet_c w2.heap.size g1 n c1 k (headF0 g1 g2 n c1 c2) hk hmx rfl _ (head0_row w2 g1 g2 n c1 c2)).mono ?_
  rintro e w3 ⟨rfl, hr3, hp3, ht3, hs3⟩
  have HR3 := hidp hr3
  have HP3 := hidp hp3
  have HT3 := hidp ht3
  clear hr3 hp3 ht3
  go_wp2
  go_ret
  have hl1 := HR1.out.lt
  have hl2 := HR2.out.lt
  have hs1 := HB1.out.size
  have hs2 := HB2.out.size
  have hz : (w2.alloc (.cells #[.slice (some ⟨g1, 0, none⟩) n c1, .slice (some ⟨g2, 0, none⟩) n c2, .slice none 0 0, .slice none 0 0, .slice none 0 0, .slice none 0 0, .slice none 0 0, .slice none 0 0, .slice none 0 0, .slice none 0 0, .slice none 0 0, .slice none 0 0, .slice none 0 0, .slice none 0 0, .slice none 0 0, .slice none 0 0, .slice none 0 0, .slice none 0 0, .slice none 0 0] 41)).heap.size = w2.heap.size + 1 := by simp
  have HR3' := HR3.out
  have HP3' := HP3.out
  rw [hz] at HR3' HP3'
  refine ⟨⟨w2.heap.size, g1, g2, fun i => w2.heap.size + 1 + i, n, k, c1, c2⟩, rfl, rfl, ?_, ?_, HT3.out.below (Bgo (Bgo HB1.out HB2.out) hbn) (fun i hi => by subst hi; omega)⟩
  · exact { head := HR3'.congr (fun i hi => headF_quiet _ _ _ _ _ _ _ _ i hi _ rfl rfl)
            words := ((HR1.out.keep HB2.out).keep hbn).turns HT3.out (by show ¬ g1 = w2.heap.size; omega)
            kept := (HR2.out.keep hbn).turns HT3.out (by show ¬ g2 = w2.heap.size; omega)
            rows := fun i hi => HP3' i hi
            n8 := h8
            nmax := hmx
            nk := hk
            bg := by show w2.heap.size ≠ g1; omega
            bh := by show w2.heap.size ≠ g2; omega
            gh := by show g1 ≠ g2; omega
            bp := fun i hi => by show w2.heap.size ≠ w2.heap.size + 1 + i; omega
            gp := fun i hi => by show g1 ≠ w2.heap.size + 1 + i; omega
            hp := fun i hi => by show g2 ≠ w2.heap.size + 1 + i; omega
            pp := fun i j hi hj hne => by show w2.heap.size + 1 + i ≠ w2.heap.size + 1 + j; omega
            w64 := HF.out
            k64 := HF.out
            low := fun a l h => by cases h }
  · intro i hi
    rcases hi with hi | hi | hi | ⟨j, hj, hi⟩
    · have hi : i = w2.heap.size := hi
      omega
    · have hi : i = g1 := hi
      omega
    · have hi : i = g2 := hi
      omega
    · have hi : i = w2.heap.size + 1 + j := hi
      omega

theorem RNew_low (A : Option Addr) (n c : Nat) (h8 : n < 8) (w : World) :
    Calls Try.prog 10 #[.slice A n c] w fun e w' => e = .returned (.pointer none) ∧ w' = w := by
  go_enter Try.func10, Try.ntmps10
  go_wp2
  go_ret
  exact ⟨rfl, rfl⟩
theorem RNew_mod (A : Option Addr) (n c : Nat) (h8 : 8 ≤ n) (hmx : n ≤ 65536) (hmod : n % 8 ≠ 0) (w : World) :
    Calls Try.prog 10 #[.slice A n c] w fun e w' => e = .returned (.pointer none) ∧ w' = w := by
  obtain ⟨t1, t2, t3, t4⟩ := mod8_no hmod
  clear hmod
  go_enter Try.func10, Try.ntmps10
  go_wp2
  go_ret
  exact ⟨rfl, rfl⟩

theorem RCrash_m (o : RGeo) (s : Mst) (w : World) (h : IsRef w o s) :
    Calls Try.prog 36 #[.pointer (some ⟨o.b, 0, none⟩)] w fun e w' =>
      e = .returned (.tuple #[]) ∧ ∃ o' : RGeo, o'.b = o.b ∧ o'.n = o.n ∧ IsRef w' o' (newS s.K) ∧ (∀ i, o'.F i → o.F i ∨ w.heap.size ≤ i) ∧ Turns o.F w w' := by
  have c1 := h.c1
  have h8 := h.n8
  have hmx := h.nmax
  have hbl := h.head.lt
  have HH := hidp h
  have d0 := h.c0
  have f0 := h.head.thawed 0
  clear h
  go_enter Try.func36, Try.ntmps36
  go_wp2_with (first
    | (at_builtin; refine wpList_append_words (w := w) rfl _ _ rfl rfl ⟨o.h, 0, none⟩ o.n o.ch s.K (by omega) (by omega) rfl (fun j hj => by rw [add_blk2]; exact HH.out.kept.cell hj) ?_; intro g1 c1 w1 hg1 HR1 HB1; have e0 := (HB1.out.cell (p := ⟨o.b, 0, none⟩) hbl).trans d0; have e1 := (HB1.out.frozen (p := ⟨o.b, 0, none⟩) hbl).trans f0))
  have HE := hidp (T0 (fun i => i = o.b) w1)
  obtain ⟨k, hk⟩ : ∃ k, o.k = k := ⟨_, rfl⟩
  have hnk : o.n = 8 * k := by rw [← hk]; exact HH.out.nk
  have hR : RowF (w1.setCell ⟨o.b, 0, none⟩ (.slice (some ⟨g1, 0, none⟩) o.n c1)) o.b 41 19 19 (updF (headF o) 0 (.slice (some ⟨g1, 0, none⟩) o.n c1)) := (HH.out.head.keep HB1.out).put (by omega) _
  refine (quiet_c o.b g1 o.n c1 k (updF (headF o) 0 (.slice (some ⟨g1, 0, none⟩) o.n c1)) hnk hmx (updF_same _ _ _) _ hR).mono ?_
  rintro e w3 ⟨rfl, hr3, hp3, ht3, hs3⟩
  have HR3 := hidp hr3
  have HP3 := hidp hp3
  have HT3 := hidp ht3
  clear hr3 hp3 ht3
  go_wp2
  go_end0
  have hl1 := HR1.out.lt
  have hs1 := HB1.out.size
  have hz : (w1.setCell ⟨o.b, 0, none⟩ (.slice (some ⟨g1, 0, none⟩) o.n c1)).heap.size = w1.heap.size := by simp
  have HR3' := HR3.out
  have HP3' := HP3.out
  rw [hz] at HR3' HP3'
  have hlk := HH.out.kept.lt
  refine ⟨rfl, ⟨o.b, g1, o.h, fun i => w1.heap.size + i, o.n, k, c1, o.ch⟩, rfl, rfl, ?_, ?_, ?_⟩
  · exact { head := HR3'.congr (fun i hi => headF_quiet _ _ _ _ _ _ _ _ i hi _ (updF_same _ _ _) (updF_other _ _ (by omega)))
            words := (HR1.out.far (p := ⟨o.b, 0, none⟩) (by show g1 ≠ o.b; omega) _).turns HT3.out (by show ¬ g1 = o.b; omega)
            kept := ((HH.out.kept.keep HB1.out).far (p := ⟨o.b, 0, none⟩) HH.out.bh.symm _).turns HT3.out (by show ¬ o.h = o.b; exact HH.out.bh.symm)
            rows := fun i hi => HP3' i hi
            n8 := h8
            nmax := hmx
            nk := hnk
            bg := by show o.b ≠ g1; omega
            bh := HH.out.bh
            gh := by show g1 ≠ o.h; omega
            bp := fun i hi => by show o.b ≠ w1.heap.size + i; omega
            gp := fun i hi => by show g1 ≠ w1.heap.size + i; omega
            hp := fun i hi => by show o.h ≠ w1.heap.size + i; omega
            pp := fun i j hi hj hne => by show w1.heap.size + i ≠ w1.heap.size + j; omega
            w64 := HH.out.k64
            k64 := HH.out.k64
            low := fun a l h => by cases h }
  · intro i hi
    rcases hi with hi | hi | hi | ⟨j, hj, hi⟩
    · exact .inl (.inl hi)
    · have hi : i = g1 := hi
      exact .inr (by omega)
    · exact .inl (.inr (.inr (.inl hi)))
    · have hi : i = w1.heap.size + j := hi
      exact .inr (by omega)
  · exact (((Turns.of_below HB1.out o.F).put (p := ⟨o.b, 0, none⟩) (.inl rfl) _).trans (HT3.out.more (fun i hi => .inl hi)))

theorem RLoad_c (o : RGeo) (s : Mst) (a : Int) (w : World) (h : IsRef w o s) :
    Calls Try.prog 30 #[.pointer (some ⟨o.b, 0, none⟩), .int .i64 a] w fun e w' => e = .returned (.tuple #[.int .u64 ((loadV o.n s a : Nat) : Int), .bool (hasW o.n a)]) ∧ w' = w := by
  have c0 := h.c0
  have hmx := h.words.max
  have hle := h.words.le
  unfold maxLen at hmx
  rcases Int.lt_or_le a 0 with h1 | h1
  · have hh : hasW o.n a = false := decide_eq_false (by omega)
    rw [loadV_no hh, hh]
    clear h
    have u1 : decide (a < 0) = true := decide_eq_true h1
    go_enter Try.func30, Try.ntmps30
    go_wp2
    go_ret2
    exact ⟨rfl, rfl⟩
  · obtain ⟨k, rfl⟩ := Int.eq_ofNat_of_zero_le h1
    rcases Nat.lt_or_ge k o.n with hk | hk
    · have c1 := h.words.cell hk
      unfold wordF at c1
      rw [loadV_yes hk, hasW_yes hk]
      have u2 : decide ((o.n : Int) ≤ k) = false := decide_eq_false (by omega)
      have u3 : decide (o.n ≤ k) = false := decide_eq_false (by omega)
      clear h
      go_enter Try.func30, Try.ntmps30
      go_wp2
      go_ret2
      exact ⟨rfl, rfl⟩
    · have hh : hasW o.n (k : Int) = false := decide_eq_false (by omega)
      rw [loadV_no hh, hh]
      have u2 : decide ((o.n : Int) ≤ k) = true := decide_eq_true (by omega)
      have u3 : decide (o.n ≤ k) = true := decide_eq_true (by omega)
      clear h
      go_enter Try.func30, Try.ntmps30
      go_wp2
      go_ret2
      exact ⟨rfl, rfl⟩

theorem RStore_c (o : RGeo) (s : Mst) (a : Int) (v : Nat) (hv : v < 2 ^ 64) (w : World) (h : IsRef w o s) :
    Calls Try.prog 31 #[.pointer (some ⟨o.b, 0, none⟩), .int .i64 a, .int .u64 (v : Int)] w fun e w' => e = .returned (.bool (hasW o.n a)) ∧ IsRef w' o (storeS o.n s a v) ∧ Turns o.F w w' := by
  have c0 := h.c0
  have hmx := h.words.max
  have hle := h.words.le
  have HH := hidp h
  have HV := hidp hv
  unfold maxLen at hmx
  clear hv
  rcases Int.lt_or_le a 0 with h1 | h1
  · have hh : hasW o.n a = false := decide_eq_false (by omega)
    rw [storeS_no hh, hh]
    clear h
    have u1 : decide (a < 0) = true := decide_eq_true h1
    go_enter Try.func31, Try.ntmps31
    go_wp2
    go_ret
    exact ⟨rfl, HH.out, T0 _ _⟩
  · obtain ⟨k, rfl⟩ := Int.eq_ofNat_of_zero_le h1
    rcases Nat.lt_or_ge k o.n with hk | hk
    · have c1 := h.words.cell hk
      have f1 := h.words.thawed k
      unfold wordF at c1
      rw [storeS_yes hk, hasW_yes hk]
      have u2 : decide ((o.n : Int) ≤ k) = false := decide_eq_false (by omega)
      have u3 : decide (o.n ≤ k) = false := decide_eq_false (by omega)
      clear h
      go_enter Try.func31, Try.ntmps31
      go_wp2
      go_ret
      exact ⟨rfl, HH.out.setW hk HV.out, (T0 _ _).put (p := ⟨o.g, k, none⟩) (.inr (.inl rfl)) _⟩
    · have hh : hasW o.n (k : Int) = false := decide_eq_false (by omega)
      rw [storeS_no hh, hh]
      have u2 : decide ((o.n : Int) ≤ k) = true := decide_eq_true (by omega)
      have u3 : decide (o.n ≤ k) = true := decide_eq_true (by omega)
      clear h
      go_enter Try.func31, Try.ntmps31
      go_wp2
      go_ret
      exact ⟨rfl, HH.out, T0 _ _⟩

theorem RSwap_c (o : RGeo) (s : Mst) (a : Int) (old v : Nat) (hv : v < 2 ^ 64) (w : World) (h : IsRef w o s) :
    Calls Try.prog 32 #[.pointer (some ⟨o.b, 0, none⟩), .int .i64 a, .int .u64 (old : Int), .int .u64 (v : Int)] w fun e w' => e = .returned (.bool (swapB o.n s a old)) ∧ IsRef w' o (swapS o.n s a old v) ∧ Turns o.F w w' := by
  have HH := hidp h
  have HV := hidp hv
  clear hv
  by_cases hh : hasW o.n a = true
  · have hh' := hh
    have h0 : 0 ≤ a := (of_decide_eq_true hh).1
    obtain ⟨k, rfl⟩ := Int.eq_ofNat_of_zero_le h0
    have hk : k < o.n := by have := (of_decide_eq_true hh).2; omega
    have HL := hidp (loadV_yes (s := s) hk)
    clear h hh h0
    by_cases he : s.W k = old
    · have HB : Hid (swapB o.n s (k : Int) old = true) := hidp (by unfold swapB; rw [hh']; simp [he])
      rw [swapS, HB.out, if_pos rfl]
      clear hh'
      go_enter Try.func32, Try.ntmps32
      go_wp2_with fail
      refine (RLoad_c o s _ _ HH.out).mono ?_
      rintro e w1 ⟨rfl, rfl⟩
      rw [hasW_yes hk, HL.out, he]
      go_wp2_with fail
      refine (RStore_c o s _ v HV.out _ HH.out).mono ?_
      rintro e w2 ⟨rfl, h2, ht⟩
      rw [hasW_yes hk]
      go_wp2
      go_ret
      exact ⟨rfl, h2, ht⟩
    · have HB : Hid (swapB o.n s (k : Int) old = false) := hidp (by unfold swapB; rw [hh']; simp [he])
      rw [swapS, HB.out, if_neg (by simp)]
      have t0 : (((s.W k : Nat) : Int) != old) = true := by simp; omega
      have t1 : (((s.W k : Nat) : Int) == old) = false := by simp; omega
      have t2 : (s.W k == old) = false := by simp; omega
      clear hh' he
      go_enter Try.func32, Try.ntmps32
      go_wp2_with fail
      refine (RLoad_c o s _ _ HH.out).mono ?_
      rintro e w1 ⟨rfl, rfl⟩
      rw [hasW_yes hk, HL.out]
      go_wp2
      go_ret
      exact ⟨rfl, HH.out, T0 _ _⟩
  · have hh : hasW o.n a = false := by simpa using hh
    have HB : Hid (swapB o.n s a old = false) := hidp (by unfold swapB; rw [hh]; rfl)
    rw [swapS, HB.out, if_neg (by simp)]
    clear h
    go_enter Try.func32, Try.ntmps32
    go_wp2_with fail
    refine (RLoad_c o s _ _ HH.out).mono ?_
    rintro e w1 ⟨rfl, rfl⟩
    rw [hh]
    go_wp2
    go_ret
    exact ⟨rfl, HH.out, T0 _ _⟩
end Go.Proofs.Ytobeapibiebpaaa
