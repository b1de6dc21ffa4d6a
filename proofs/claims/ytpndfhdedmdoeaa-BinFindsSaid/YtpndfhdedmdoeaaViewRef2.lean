/-
  The document's answer for Views: blank, Whole, Known. Written by view/gen_ref2.py.
-/
import Derived.Test.YtpndfhdedmdoeaaViewRef
import Derived.Deep.RegionHeld3
namespace Go.Proofs.Ytpndfhdedmdoeaa
open Go.ChangeShapes Go.WideShapes Go.ChangeAt Go.RowKit Go.Maps
set_option linter.unusedVariables false
set_option maxRecDepth 100000
set_option linter.unusedSimpArgs false

/-- so many cells of each row, of which nothing is known or put -/
def bN (k i : Nat) : Nat := if i < 4 then k else 0
def bX (k i : Nat) : List Value := if i = 0 then rowL k (bitF fun _ => false) else if i = 1 then rowL k (valF fun _ => 0) else if i = 2 then rowL k (bitF fun _ => false) else if i = 3 then rowL k (valF fun _ => 0) else []
theorem bN_rN (n : Nat) : ∀ i, i < 6 → bN n i = rN n freshS i := six rfl rfl rfl rfl rfl rfl
theorem bX_rX (n : Nat) : ∀ i, i < 6 → bX n i = rX n (fun _ => none) freshS i := six rfl rfl rfl rfl rfl rfl
def bN1 (k i : Nat) : Nat := updF (updF (updF (updF (bN k) 0 (k + 1)) 1 (k + 1)) 2 (k + 1)) 3 (k + 1) i
def bX1 (k i : Nat) : List Value := updF (updF (updF (updF (bX k) 0 (bX k 0 ++ [.bool false])) 1 (bX k 1 ++ [.int .u32 0])) 2 (bX k 2 ++ [.bool false])) 3 (bX k 3 ++ [.int .u32 0]) i
theorem bN_step (k : Nat) : ∀ i, i < 6 → bN1 k i = bN (k + 1) i := six rfl rfl rfl rfl rfl rfl
theorem bX_step (k : Nat) : ∀ i, i < 6 → bX1 k i = bX (k + 1) i := six (rowL_snoc _ _).symm (rowL_snoc _ _).symm (rowL_snoc _ _).symm (rowL_snoc _ _).symm rfl rfl
theorem boolInfo11 : (Try.prog.info? 4).map (fun i => (i.zero, i.size, i.bytes)) = some (some (.bool false), 1, 1) := by kernel_rfl

set_option maxHeartbeats 1600000 in
theorem blank_c (n : Nat) (hn : n ≤ 2 ^ 40) (w : World) :
    Calls Try.prog 28 #[.int .i64 (n : Int)] w fun e w' => ∃ (b : Nat) (v : Nat → Value), e = .returned (.pointer (some ⟨b, 0, none⟩)) ∧ IsRefV w' w.heap.size b n false v (fun _ => none) freshS ∧ Below w.heap.size w w' := by
  obtain ⟨i0, hi0, hi1, hi2, hi3⟩ := info_parts boolInfo11
  obtain ⟨j0, hj0, hj1, hj2, hj3⟩ := info_parts valInfo
  have HP0 : Hid (RParts (w.alloc (.cells #[.int .i64 (n : Int), .slice none 0 0, .slice none 0 0, .slice none 0 0, .slice none 0 0, .slice none 0 0, .slice none 0 0, .int .i64 (-1), .bool false] 66)) w.heap.size w.heap.size (fun _ => .slice none 0 0) (rHead n (fun _ => .slice none 0 0) freshS false) (bN 0) (bX 0)) :=
    hidp ⟨Held.new _ _ _, (OwnAll.nil _ _ _ _ _ _).congr (six rfl rfl rfl rfl rfl rfl) (six rfl rfl rfl rfl rfl rfl), Nat.le_refl _⟩
  have HB0 : Hid (Below w.heap.size w (w.alloc (.cells #[.int .i64 (n : Int), .slice none 0 0, .slice none 0 0, .slice none 0 0, .slice none 0 0, .slice none 0 0, .slice none 0 0, .int .i64 (-1), .bool false] 66))) := hidp (Bnew (B0 _) _)
  go_enter Try.func28, Try.ntmps28
  go_wp2_with fail
  go_loopw [4] (fun i wr => ∃ (k : Nat) (v : Nat → Value), k ≤ n ∧ i = .int .i64 k ∧ Hid (RParts wr w.heap.size w.heap.size v (rHead n v freshS false) (bN k) (bX k)) ∧ Hid (Below w.heap.size w wr)) (fun i _ => n - (intOf i).toNat)
  case atStart => exact ⟨0, _, by omega, rfl, HP0, HB0⟩
  case round =>
    clear HP0 HB0
    obtain ⟨k, v, hk, rfl, HP, HB⟩ := hrel
    by_cases hlt : k < n
    · have hbl := HP.out.head.lt
      have c1 : wr.cell? ⟨w.heap.size, 1, none⟩ = some (v 0) := HP.out.head.cell 1
      have O0 : Hid (wr.ownsRow w.heap.size 4 1 (v 0) k (bX k 0)) := hidp (HP.out.own.own 0 (by omega))
      go_wp2_with (first
        | (at_builtin
           refine wpList_append_lies _ rfl _ _ 64 rfl w.heap.size 4 i0 (.bool false) 1 1 Try.underlying64 hi0 hi1 hi2 hi3 rfl (by decide) (v 0) k (bX k 0) rfl (O0.out.alloc _) ⟨_, 0, none⟩ 1 1 [.bool false] rfl rfl ?c1 ?c2 (by omega) ?c3 ?c4 ?c5 _ rfl ?_
           case c1 => intro j y hy; have h9 := World.news_of_block (heap_alloc_new wr (.cells #[.bool false] 4)) j y (by simpa using hy); simpa using h9
           case c2 => simp [Value.oneCell']
           case c3 => unfold maxLen; omega
           case c4 => omega
           case c5 => have := HB.out.size; simp at this ⊢; omega
           intro g1 cap1 w1 hown hgrow hat hlt'
           obtain ⟨hp, _, hT⟩ := (HP.out.keep (Bnew (B0 _) (.cells #[.bool false] 4))).grow (i := 0) (by omega) hown hgrow (fun q hq => by
             have hq : g1 = q := by simpa [Value.ownBlock] using hq
             subst hq
             rcases hat with h1 | h1
             · exact .inl h1
             · right; rw [h1]; exact Nat.le_refl _)
           have d0 : w1.cell? ⟨w.heap.size, 1, none⟩ = some (v 0) := hp.head.cell 1
           have e0 : w1.cell? ⟨w.heap.size, 2, none⟩ = some (v 1) := hp.head.cell 2
           have f0 := hp.head.thawed 1
           have hl0 := hp.head.lt
           have P1 := hidp (hp.setHead 1 (.slice (some ⟨g1, 0, none⟩) (k + 1) cap1)).1
           have B1 := hidp (Bput (hT.below (Bgo HB.out (Bnew (B0 _) (.cells #[.bool false] 4))) (fun q hq => HP.out.ge q hq)) (p := ⟨w.heap.size, 1, none⟩) (Nat.le_refl _) (.slice (some ⟨g1, 0, none⟩) (k + 1) cap1))
           have O1 : Hid ((w1.setCell ⟨w.heap.size, 1, none⟩ (.slice (some ⟨g1, 0, none⟩) (k + 1) cap1)).ownsRow w.heap.size 62 1 (v 1) k (bX k 1)) := hidp (P1.out.own.own 1 (by omega))
           clear hp hT hown hgrow hat hlt')
        | (at_builtin
           refine wpList_append_lies _ rfl _ _ 24 rfl w.heap.size 62 j0 (.int .u32 0) 1 4 Try.underlying24 hj0 hj1 hj2 hj3 rfl (by decide) (v 1) k (bX k 1) rfl (O1.out.alloc _) ⟨_, 0, none⟩ 1 1 [.int .u32 0] rfl rfl ?c1 ?c2 (by omega) ?c3 ?c4 ?c5 _ rfl ?_
           case c1 => intro j y hy; have h9 := World.news_of_block (heap_alloc_new (w1.setCell ⟨w.heap.size, 1, none⟩ (.slice (some ⟨g1, 0, none⟩) (k + 1) cap1)) (.cells #[.int .u32 0] 62)) j y (by simpa using hy); simpa using h9
           case c2 => simp [Value.oneCell']
           case c3 => unfold maxLen; omega
           case c4 => omega
           case c5 => have := B1.out.size; simp at this ⊢; omega
           intro g2 cap2 w2 hown hgrow hat hlt'
           obtain ⟨hp, _, hT⟩ := (P1.out.keep (Bnew (B0 _) (.cells #[.int .u32 0] 62))).grow (i := 1) (by omega) hown hgrow (fun q hq => by
             have hq : g2 = q := by simpa [Value.ownBlock] using hq
             subst hq
             rcases hat with h1 | h1
             · exact .inl h1
             · right; rw [h1]; exact Nat.le_refl _)
           have d1 : w2.cell? ⟨w.heap.size, 2, none⟩ = some (v 1) := hp.head.cell 2
           have e1 : w2.cell? ⟨w.heap.size, 3, none⟩ = some (v 2) := hp.head.cell 3
           have f1 := hp.head.thawed 2
           have hl1 := hp.head.lt
           have P2 := hidp (hp.setHead 2 (.slice (some ⟨g2, 0, none⟩) (k + 1) cap2)).1
           have B2 := hidp (Bput (hT.below (Bgo B1.out (Bnew (B0 _) (.cells #[.int .u32 0] 62))) (fun q hq => P1.out.ge q hq)) (p := ⟨w.heap.size, 2, none⟩) (Nat.le_refl _) (.slice (some ⟨g2, 0, none⟩) (k + 1) cap2))
           have O2 : Hid ((w2.setCell ⟨w.heap.size, 2, none⟩ (.slice (some ⟨g2, 0, none⟩) (k + 1) cap2)).ownsRow w.heap.size 4 1 (v 2) k (bX k 2)) := hidp (P2.out.own.own 2 (by omega))
           clear hp hT hown hgrow hat hlt')
        | (at_builtin
           refine wpList_append_lies _ rfl _ _ 64 rfl w.heap.size 4 i0 (.bool false) 1 1 Try.underlying64 hi0 hi1 hi2 hi3 rfl (by decide) (v 2) k (bX k 2) rfl (O2.out.alloc _) ⟨_, 0, none⟩ 1 1 [.bool false] rfl rfl ?c1 ?c2 (by omega) ?c3 ?c4 ?c5 _ rfl ?_
           case c1 => intro j y hy; have h9 := World.news_of_block (heap_alloc_new (w2.setCell ⟨w.heap.size, 2, none⟩ (.slice (some ⟨g2, 0, none⟩) (k + 1) cap2)) (.cells #[.bool false] 4)) j y (by simpa using hy); simpa using h9
           case c2 => simp [Value.oneCell']
           case c3 => unfold maxLen; omega
           case c4 => omega
           case c5 => have := B2.out.size; simp at this ⊢; omega
           intro g3 cap3 w3 hown hgrow hat hlt'
           obtain ⟨hp, _, hT⟩ := (P2.out.keep (Bnew (B0 _) (.cells #[.bool false] 4))).grow (i := 2) (by omega) hown hgrow (fun q hq => by
             have hq : g3 = q := by simpa [Value.ownBlock] using hq
             subst hq
             rcases hat with h1 | h1
             · exact .inl h1
             · right; rw [h1]; exact Nat.le_refl _)
           have d2 : w3.cell? ⟨w.heap.size, 3, none⟩ = some (v 2) := hp.head.cell 3
           have e2 : w3.cell? ⟨w.heap.size, 4, none⟩ = some (v 3) := hp.head.cell 4
           have f2 := hp.head.thawed 3
           have hl2 := hp.head.lt
           have P3 := hidp (hp.setHead 3 (.slice (some ⟨g3, 0, none⟩) (k + 1) cap3)).1
           have B3 := hidp (Bput (hT.below (Bgo B2.out (Bnew (B0 _) (.cells #[.bool false] 4))) (fun q hq => P2.out.ge q hq)) (p := ⟨w.heap.size, 3, none⟩) (Nat.le_refl _) (.slice (some ⟨g3, 0, none⟩) (k + 1) cap3))
           have O3 : Hid ((w3.setCell ⟨w.heap.size, 3, none⟩ (.slice (some ⟨g3, 0, none⟩) (k + 1) cap3)).ownsRow w.heap.size 62 1 (v 3) k (bX k 3)) := hidp (P3.out.own.own 3 (by omega))
           clear hp hT hown hgrow hat hlt')
        | (at_builtin
           refine wpList_append_lies _ rfl _ _ 24 rfl w.heap.size 62 j0 (.int .u32 0) 1 4 Try.underlying24 hj0 hj1 hj2 hj3 rfl (by decide) (v 3) k (bX k 3) rfl (O3.out.alloc _) ⟨_, 0, none⟩ 1 1 [.int .u32 0] rfl rfl ?c1 ?c2 (by omega) ?c3 ?c4 ?c5 _ rfl ?_
           case c1 => intro j y hy; have h9 := World.news_of_block (heap_alloc_new (w3.setCell ⟨w.heap.size, 3, none⟩ (.slice (some ⟨g3, 0, none⟩) (k + 1) cap3)) (.cells #[.int .u32 0] 62)) j y (by simpa using hy); simpa using h9
           case c2 => simp [Value.oneCell']
           case c3 => unfold maxLen; omega
           case c4 => omega
           case c5 => have := B3.out.size; simp at this ⊢; omega
           intro g4 cap4 w4 hown hgrow hat hlt'
           obtain ⟨hp, _, hT⟩ := (P3.out.keep (Bnew (B0 _) (.cells #[.int .u32 0] 62))).grow (i := 3) (by omega) hown hgrow (fun q hq => by
             have hq : g4 = q := by simpa [Value.ownBlock] using hq
             subst hq
             rcases hat with h1 | h1
             · exact .inl h1
             · right; rw [h1]; exact Nat.le_refl _)
           have d3 : w4.cell? ⟨w.heap.size, 4, none⟩ = some (v 3) := hp.head.cell 4
           have e3 : w4.cell? ⟨w.heap.size, 5, none⟩ = some (v 4) := hp.head.cell 5
           have f3 := hp.head.thawed 4
           have hl3 := hp.head.lt
           have P4 := hidp (hp.setHead 4 (.slice (some ⟨g4, 0, none⟩) (k + 1) cap4)).1
           have B4 := hidp (Bput (hT.below (Bgo B3.out (Bnew (B0 _) (.cells #[.int .u32 0] 62))) (fun q hq => P3.out.ge q hq)) (p := ⟨w.heap.size, 4, none⟩) (Nat.le_refl _) (.slice (some ⟨g4, 0, none⟩) (k + 1) cap4))
           have O4 : Hid ((w4.setCell ⟨w.heap.size, 4, none⟩ (.slice (some ⟨g4, 0, none⟩) (k + 1) cap4)).ownsRow w.heap.size 3 1 (v 4) 0 []) := hidp (P4.out.own.own 4 (by omega))
           clear hp hT hown hgrow hat hlt')
        | fail)
      go_roundw
      case rel => exact ⟨k + 1, _, by omega, by go_num, hidp (P4.out.congr rfl (bN_step k) (bX_step k)), B4⟩
      case measure => simp [intOf]; omega
    · obtain rfl : k = n := by omega
      go_wp2
      go_ret
      exact ⟨w.heap.size, v, rfl, { parts := HP.out.congr rfl (bN_rN k) (bX_rX k), ok := VOk.fresh k, nmax := hn, k32 := fun i x h => by cases h }, HB.out⟩


def firstK (vals : List Nat) (k : Nat) : Nat → Option Nat := fun i => if i < k then vals[i]? else none
theorem firstK_step {vals : List Nat} {k : Nat} (h : k < vals.length) : firstK vals (k + 1) = updF (firstK vals k) k (some (vals.getD k 0)) := by
  funext i
  unfold firstK updF
  by_cases e : i = k
  · subst e
    simp [List.getD, List.getElem?_eq_getElem h]
  · have : (i < k + 1) ↔ (i < k) := by omega
    simp only [this, if_neg e]
theorem firstK_all (vals : List Nat) : firstK vals vals.length = fun i => vals[i]? := by
  funext i
  unfold firstK
  split
  · rfl
  · rename_i h
    rw [List.getElem?_eq_none (by omega)]
/-- a cell is known from now on -/
theorem rX_know (n : Nat) (K : Nat → Option Nat) (s : Vst) (j x : Nat) : ∀ i, i < 6 → updF (updF (rX n K s) 0 ((rX n K s 0).set j (.bool true))) 1 ((updF (rX n K s) 0 ((rX n K s 0).set j (.bool true)) 1).set j (.int .u32 (x : Int))) i = rX n (updF K j (some x)) s i := by
  refine six ?_ ?_ rfl rfl rfl rfl
  · show (rowL n (bitF fun j => (K j).isSome)).set j (.bool true) = rowL n (bitF fun i => (updF K j (some x) i).isSome)
    rw [rowL_set]
    refine rowL_congr (fun i _ => ?_)
    unfold bitF updF
    by_cases e : i = j <;> simp [e]
  · show (rowL n (valF fun j => (K j).getD 0)).set j (.int .u32 (x : Int)) = rowL n (valF fun i => (updF K j (some x) i).getD 0)
    rw [rowL_set]
    refine rowL_congr (fun i _ => ?_)
    unfold valF updF
    by_cases e : i = j <;> simp [e]

set_option maxHeartbeats 1600000 in
theorem RWhole_c (A : Option Addr) (c : Nat) (vals : List Nat) (n : Nat) (hl : vals.length = n) (hmx : n ≤ 2 ^ 40) (hnc : n ≤ c) (hc : c ≤ maxLen) (h32 : ∀ x ∈ vals, x < 2 ^ 32) (w : World)
    (HR : Reads w w.heap.size 1 A n (valVs vals)) :
    Calls Try.prog 9 #[.slice A n c] w fun e w' => ∃ (b : Nat) (v : Nat → Value), e = .returned (.pointer (some ⟨b, 0, none⟩)) ∧ IsRefV w' w.heap.size b n true v (fun i => vals[i]?) freshS ∧ Below w.heap.size w w' := by
  have HL := hidp hl
  have HRR := hidp HR
  have H32 : Hid (∀ i x, vals[i]? = some x → x < 2 ^ 32) := hidp (fun i x h => h32 x (List.mem_of_getElem? h))
  have hc2 : c ≤ 9223372036854775807 := hc
  clear hl HR h32
  go_enter Try.func9, Try.ntmps9
  go_wp2_with fail
  refine (blank_c n hmx _).mono ?_
  rintro e w1 ⟨b, v, rfl, hI, hB⟩
  have HP1 : Hid (RParts w1 w.heap.size b v (rHead n v freshS false) (rN n freshS) (rX n (firstK vals 0) freshS)) := hidp (hI.parts.congr rfl (fun _ _ => rfl) (fun i hi => by
    have : firstK vals 0 = fun _ => none := by funext i; simp [firstK]
    rw [this]))
  have HB1 := hidp hB
  clear hI hB
  go_wp2_with fail
  go_loopw [4] (fun i wr => ∃ k : Nat, k ≤ n ∧ i = .int .i64 k ∧ Hid (RParts wr w.heap.size b v (rHead n v freshS false) (rN n freshS) (rX n (firstK vals k) freshS)) ∧ Hid (Below w.heap.size w wr)) (fun i _ => n - (intOf i).toNat)
  case atStart => exact ⟨0, by omega, rfl, HP1, HB1⟩
  case round =>
    clear HP1 HB1
    obtain ⟨k, hk, rfl, HP, HB⟩ := hrel
    by_cases hlt : k < n
    · obtain ⟨ad, rfl, hadb, hcl⟩ := HRR.out.2 (by omega)
      obtain ⟨x, hx⟩ : ∃ x, vals.getD k 0 = x := ⟨_, rfl⟩
      have hvx : (valVs vals)[k]? = some (.int .u32 (x : Int)) := by
        unfold valVs
        rw [List.getElem?_map, List.getElem?_eq_getElem (by have := HL.out; omega), ← hx]
        simp [List.getD, List.getElem?_eq_getElem (show k < vals.length by have := HL.out; omega)]
      have x0 := (HB.out.cell (p := ad.add k) (by rw [block_of_add]; exact hadb)).trans (hcl k _ hvx)
      have c1 : wr.cell? ⟨b, 1, none⟩ = some (v 0) := HP.out.head.cell 1
      have c2 : wr.cell? ⟨b, 2, none⟩ = some (v 1) := HP.out.head.cell 2
      obtain ⟨g0, p0, hv0, hp0, hm0, hg0, hl0⟩ := HP.out.form (i := 0) (by omega) (show 0 < n by omega)
      obtain ⟨g1, p1, hv1, hp1, hm1, hg1, hl1⟩ := HP.out.form (i := 1) (by omega) (show 0 < n by omega)
      have hg01 : g1 ≠ g0 := fun e => by
        have := HP.out.own.apart 0 1 g0 (by omega) (by omega) (by rw [hv0]; rfl) (by rw [hv1, e]; rfl)
        omega
      have hn0 : rN n freshS 0 = n := rfl
      have hn1 : rN n freshS 1 = n := rfl
      rw [hv0, hn0] at c1
      rw [hv1, hn1] at c2
      rw [hn0] at hp0
      rw [hn1] at hp1
      obtain ⟨d0, f0⟩ := HP.out.at_ (i := 0) (by omega) hv0 (show k < n from hlt)
      rw [rX_0 n _ _ hlt] at d0
      obtain ⟨d1, f1⟩ := HP.out.at_ (i := 1) (by omega) hv1 (show k < n from hlt)
      rw [rX_1 n _ _ hlt] at d1
      have hag : w.heap.size ≤ g0 := HP.out.ge g0 (.inr ⟨0, by omega, by rw [hv0]; rfl⟩)
      have hag1 : w.heap.size ≤ g1 := HP.out.ge g1 (.inr ⟨1, by omega, by rw [hv1]; rfl⟩)
      have HST := hidp (firstK_step (vals := vals) (k := k) (by have := HL.out; omega))
      rw [hx] at HST
      have HP5 := hidp (HP.out.store (i := 0) (by omega) hv0 k (.bool true)).1
      have HT5 := hidp (HP.out.store (i := 0) (by omega) hv0 k (.bool true)).2
      have HB5 := hidp (Bput HB.out (p := ⟨g0, k, none⟩) hag (.bool true))
      have y0 : (wr.setCell ⟨g0, k, none⟩ (.bool true)).cell? ⟨b, 2, none⟩ = some (.slice (some ⟨g1, 0, none⟩) n p1) := by
        have h1 : (wr.setCell ⟨g0, k, none⟩ (.bool true)).cell? ⟨b, 2, none⟩ = some (v 1) := HP5.out.head.cell 2
        rw [h1, hv1, hn1]
      have y1 : (wr.setCell ⟨g0, k, none⟩ (.bool true)).cell? (ad.add k) = some (.int .u32 (x : Int)) := (HB5.out.cell (p := ad.add k) (by rw [block_of_add]; exact hadb)).trans (hcl k _ hvx)
      obtain ⟨z1, z2⟩ := HP5.out.at_ (i := 1) (by omega) hv1 (show k < n from hlt)
      have z3 : (wr.setCell ⟨g0, k, none⟩ (.bool true)).cell? ⟨g1, k, none⟩ = some (.int .u32 (((firstK vals k k).getD 0 : Nat) : Int)) := z1.trans (rX_1 n (firstK vals k) freshS hlt)
      have HP6 := hidp (HP5.out.store (i := 1) (by omega) hv1 k (.int .u32 (x : Int))).1
      have HB6 := hidp (Bput HB5.out (p := ⟨g1, k, none⟩) hag1 (.int .u32 (x : Int)))
      have y2 : ((wr.setCell ⟨g0, k, none⟩ (.bool true)).setCell ⟨g1, k, none⟩ (.int .u32 (x : Int))).cell? ⟨b, 2, none⟩ = some (.slice (some ⟨g1, 0, none⟩) n p1) := by
        have h1 : ((wr.setCell ⟨g0, k, none⟩ (.bool true)).setCell ⟨g1, k, none⟩ (.int .u32 (x : Int))).cell? ⟨b, 2, none⟩ = some (v 1) := HP6.out.head.cell 2
        rw [h1, hv1, hn1]
      have y3 : ((wr.setCell ⟨g0, k, none⟩ (.bool true)).setCell ⟨g1, k, none⟩ (.int .u32 (x : Int))).cell? (ad.add k) = some (.int .u32 (x : Int)) := (HB6.out.cell (p := ad.add k) (by rw [block_of_add]; exact hadb)).trans (hcl k _ hvx)
      clear hcl hvx z1 hx
      generalize (firstK vals k k).getD 0 = old at *
      generalize (firstK vals k k).isSome = old0 at *
      go_wp2_with fail
      refine wp_region_held_drew (S := (fun w' => w'.cell? ⟨b, 2, none⟩ = some (.slice (some ⟨g1, 0, none⟩) n p1) ∧ w'.cell? (ad.add k) = some (.int .u32 (x : Int)))) (by kernel_rfl) ?_ (fun hHeld => ?_)
      · (try dsimp only)
        first | exact ⟨y0, y1⟩ | exact ⟨y2, y3⟩ | exact hHeld
      refine wpAnyH_take (i := 0) (oi := _) (v := ?_) rfl (by kernel_rfl) (by kernel_rfl) (by kernel_rfl) (fun _ _ _ h => h) (Or.inl ⟨by rfl, ?_⟩) (by assumption) ?_
      rotate_left
      · intro w hSw; (try dsimp only at hSw); go_simp; (try with_reducible rfl)
      (try simp only [Act.put, List.getElem_toArray, List.getElem_cons_zero, List.getElem_cons_succ, List.setIfInBounds_toArray, List.set_cons_zero, List.set_cons_succ])
      refine wpAnyH_take (i := 1) (oi := _) (v := ?_) rfl (by kernel_rfl) (by kernel_rfl) (by kernel_rfl) (fun _ _ _ h => h) (Or.inl ⟨by rfl, ?_⟩) (by assumption) ?_
      rotate_left
      · intro w hSw; (try dsimp only at hSw); go_simp; (try with_reducible rfl)
      (try simp only [Act.put, List.getElem_toArray, List.getElem_cons_zero, List.getElem_cons_succ, List.setIfInBounds_toArray, List.set_cons_zero, List.set_cons_succ])
      refine wpAnyH_take (i := 2) (oi := _) (v := ?_) rfl (by kernel_rfl) (by kernel_rfl) (by kernel_rfl) (fun _ _ _ h => h) (Or.inl ⟨by rfl, ?_⟩) (by assumption) ?_
      rotate_left
      · intro w hSw; (try dsimp only at hSw); go_simp; (try with_reducible rfl)
      (try simp only [Act.put, List.getElem_toArray, List.getElem_cons_zero, List.getElem_cons_succ, List.setIfInBounds_toArray, List.set_cons_zero, List.set_cons_succ])
      refine wpAnyH_take (i := 3) (oi := _) (v := ?_) rfl (by kernel_rfl) (by kernel_rfl) (by kernel_rfl) (fun _ _ _ h => h) (Or.inl ⟨by rfl, ?_⟩) (by assumption) ?_
      rotate_left
      · intro w hSw; (try dsimp only at hSw); go_simp; (try with_reducible rfl)
      (try simp only [Act.put, List.getElem_toArray, List.getElem_cons_zero, List.getElem_cons_succ, List.setIfInBounds_toArray, List.set_cons_zero, List.set_cons_succ])
      refine wpAnyH_take (i := 4) (oi := _) (v := ?_) rfl (by kernel_rfl) (by kernel_rfl) (by kernel_rfl) (fun _ _ _ h => h) (Or.inl ⟨by rfl, ?_⟩) (by assumption) ?_
      rotate_left
      · intro w hSw; (try dsimp only at hSw); go_simp; (try with_reducible rfl)
      (try simp only [Act.put, List.getElem_toArray, List.getElem_cons_zero, List.getElem_cons_succ, List.setIfInBounds_toArray, List.set_cons_zero, List.set_cons_succ])
      refine wpAnyH_take (i := 5) (oi := _) (v := ?_) rfl (by kernel_rfl) (by kernel_rfl) (by kernel_rfl) (fun _ _ _ h => h) (Or.inl ⟨by rfl, ?_⟩) (by assumption) ?_
      rotate_left
      · intro w hSw; (try dsimp only at hSw); go_simp; (try with_reducible rfl)
      (try simp only [Act.put, List.getElem_toArray, List.getElem_cons_zero, List.getElem_cons_succ, List.setIfInBounds_toArray, List.set_cons_zero, List.set_cons_succ])
      refine wpAnyH_take (i := 6) (oi := _) (v := ?_) rfl (by kernel_rfl) (by kernel_rfl) (by kernel_rfl) (fun _ _ _ h => h) (Or.inl ⟨by rfl, ?_⟩) (by assumption) ?_
      rotate_left
      · intro w hSw; (try dsimp only at hSw); go_simp; (try with_reducible rfl)
      (try simp only [Act.put, List.getElem_toArray, List.getElem_cons_zero, List.getElem_cons_succ, List.setIfInBounds_toArray, List.set_cons_zero, List.set_cons_succ])
      refine wpAnyH_take (i := 7) (oi := _) (v := ?_) rfl (by kernel_rfl) (by kernel_rfl) (by kernel_rfl) (fun _ _ _ h => h) (Or.inl ⟨by rfl, ?_⟩) (by assumption) ?_
      rotate_left
      · intro w hSw; (try dsimp only at hSw); go_simp; (try with_reducible rfl)
      (try simp only [Act.put, List.getElem_toArray, List.getElem_cons_zero, List.getElem_cons_succ, List.setIfInBounds_toArray, List.set_cons_zero, List.set_cons_succ])
      refine wpAnyH_take (i := 8) (oi := _) (v := ?_) rfl (by kernel_rfl) (by kernel_rfl) (by kernel_rfl) (fun _ _ _ h => h) (Or.inl ⟨by rfl, ?_⟩) (by assumption) ?_
      rotate_left
      · intro w hSw; (try dsimp only at hSw); go_simp; (try with_reducible rfl)
      (try simp only [Act.put, List.getElem_toArray, List.getElem_cons_zero, List.getElem_cons_succ, List.setIfInBounds_toArray, List.set_cons_zero, List.set_cons_succ])
      refine wpAnyH_take (i := 9) (oi := _) (v := ?_) rfl (by kernel_rfl) (by kernel_rfl) (by kernel_rfl) (fun _ _ _ h => h) (Or.inl ⟨by rfl, ?_⟩) (by assumption) ?_
      rotate_left
      · intro w hSw; (try dsimp only at hSw); go_simp; (try with_reducible rfl)
      (try simp only [Act.put, List.getElem_toArray, List.getElem_cons_zero, List.getElem_cons_succ, List.setIfInBounds_toArray, List.set_cons_zero, List.set_cons_succ])
      refine wpAnyH_ready (rs := [10]) (by kernel_rfl) (by simp) ?_
      refine AllReadyH.cons (o := _) rfl (fun K hK => ?_) AllReadyH.nil
      go_simp
      skip
      refine hK.out _ _ ?_ (fun hHeld => ?_)
      · (try dsimp only)
        first | exact ⟨y0, y1⟩ | exact ⟨y2, y3⟩ | exact hHeld
      clear hK K
      (try simp only [Act.put, List.getElem_toArray, List.getElem_cons_zero, List.getElem_cons_succ, List.setIfInBounds_toArray, List.set_cons_zero, List.set_cons_succ])
      refine wpAnyH_done (by kernel_rfl) ?_ _
      go_wp2
      go_roundw
      case rel => exact ⟨k + 1, by omega, by go_num, hidp ((HP6.out.keep (Bdrew (B0 _))).congr rfl (fun _ _ => rfl) (by rw [HST.out]; exact rX_know n (firstK vals k) freshS k x)), hidp (Bdrew HB6.out)⟩
      case measure => simp [intOf]; omega
    · obtain rfl : k = n := by omega
      have f8 := HP.out.head.thawed 8
      have c8 : wr.cell? ⟨b, 8, none⟩ = some (.bool false) := HP.out.head.cell 8
      have hbg : w.heap.size ≤ b := HP.out.bb
      have HKA : Hid (firstK vals k = fun i => vals[i]?) := hidp (by rw [← HL.out]; exact firstK_all vals)
      go_wp2
      go_ret
      refine ⟨b, v, rfl, { parts := ?_, ok := VOk.fresh k, nmax := hmx, k32 := H32.out }, Bput HB.out (p := ⟨b, 8, none⟩) hbg _⟩
      have := (HP.out.setHead 8 (.bool true)).1
      rw [HKA.out] at this
      exact this
end Go.Proofs.Ytpndfhdedmdoeaa
