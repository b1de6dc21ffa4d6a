/-
  What the document's answer of layer 17 does to the pockets of one thread: taken out.
-/
import Derived.Test.YtkbjckhbllmclaaGreatDoorT17
import Derived.Test.YtkbjckhbllmclaaGreatDoorT03
import Derived.Test.YtkbjckhbllmclaaGreatDoorT01
import Derived.Test.YtkbjckhbllmclaaGreatDoorT04
import Derived.ArgAppend
import Derived.Below
import Derived.Test.YtkbjckhbllmclaaGreatDoorT02
import Derived.Test.YtkbjckhbllmclaaGreatDoorT09
import Derived.Test.YtkbjckhbllmclaaGreatDoorKit
import Derived.Deep.DeepFit
import Derived.Maps.OwnSet
import Derived.Maps.AppendAt
import Derived.Test.YtkbjckhbllmclaaGreatDoorT08
import Derived.Test.YtkbjckhbllmclaaGreatDoorT16
import Derived.Test.YtkbjckhbllmclaaGreatDoorT15
namespace Go.Proofs.YtkbjckhbllmclaaGreatDoor
open Go.ChangeShapes Go.WideShapes Go.ChangeAt Go.RowKit Go.Maps
set_option linter.unusedVariables false
set_option linter.unusedSimpArgs false
set_option maxRecDepth 100000
section
def setP (w : World) (g : Nat) (U : Nat → Sl) : World := ((((((((w.setCell ⟨g, 0, none⟩ (.slice (U 0).a (U 0).n (U 0).c)).setCell ⟨g, 1, none⟩ (.slice (U 1).a (U 1).n (U 1).c)).setCell ⟨g, 2, none⟩ (.slice (U 2).a (U 2).n (U 2).c)).setCell ⟨g, 3, none⟩ (.slice (U 3).a (U 3).n (U 3).c)).setCell ⟨g, 4, none⟩ (.slice (U 4).a (U 4).n (U 4).c)).setCell ⟨g, 5, none⟩ (.slice (U 5).a (U 5).n (U 5).c)).setCell ⟨g, 6, none⟩ (.slice (U 6).a (U 6).n (U 6).c)).setCell ⟨g, 7, none⟩ (.slice (U 7).a (U 7).n (U 7).c)).setCell ⟨g, 8, none⟩ (.slice (U 8).a (U 8).n (U 8).c)
def zeroU : Nat → Sl := fun _ => ⟨none, 0, 0⟩
section
variable {W w WF : World} {g j : Nat} {t : TypeId} {U V : Nat → Sl}
theorem Held.setP (h : Held w g t (pkC V)) (U : Nat → Sl) : Held (_root_.Go.Proofs.YtkbjckhbllmclaaGreatDoor.setP w g U) g t (pkC U) := by
  have h0 : Held _ g t #[(U 0).v, (V 1).v, (V 2).v, (V 3).v, (V 4).v, (V 5).v, (V 6).v, (V 7).v, (V 8).v] := h.put 0 (U 0).v
  have h1 : Held _ g t #[(U 0).v, (U 1).v, (V 2).v, (V 3).v, (V 4).v, (V 5).v, (V 6).v, (V 7).v, (V 8).v] := h0.put 1 (U 1).v
  have h2 : Held _ g t #[(U 0).v, (U 1).v, (U 2).v, (V 3).v, (V 4).v, (V 5).v, (V 6).v, (V 7).v, (V 8).v] := h1.put 2 (U 2).v
  have h3 : Held _ g t #[(U 0).v, (U 1).v, (U 2).v, (U 3).v, (V 4).v, (V 5).v, (V 6).v, (V 7).v, (V 8).v] := h2.put 3 (U 3).v
  have h4 : Held _ g t #[(U 0).v, (U 1).v, (U 2).v, (U 3).v, (U 4).v, (V 5).v, (V 6).v, (V 7).v, (V 8).v] := h3.put 4 (U 4).v
  have h5 : Held _ g t #[(U 0).v, (U 1).v, (U 2).v, (U 3).v, (U 4).v, (U 5).v, (V 6).v, (V 7).v, (V 8).v] := h4.put 5 (U 5).v
  have h6 : Held _ g t #[(U 0).v, (U 1).v, (U 2).v, (U 3).v, (U 4).v, (U 5).v, (U 6).v, (V 7).v, (V 8).v] := h5.put 6 (U 6).v
  have h7 : Held _ g t #[(U 0).v, (U 1).v, (U 2).v, (U 3).v, (U 4).v, (U 5).v, (U 6).v, (U 7).v, (V 8).v] := h6.put 7 (U 7).v
  exact h7.put 8 (U 8).v
theorem heap_setP (hj : j ≠ g) (U : Nat → Sl) : (setP w g U).heap[j]? = w.heap[j]? := by
  unfold _root_.Go.Proofs.YtkbjckhbllmclaaGreatDoor.setP
  repeat rw [Below.heap_setCell _ _ _ _ hj]
theorem below_setP (h : Below W.heap.size W w) (hg : W.heap.size ≤ g) (U : Nat → Sl) : Below W.heap.size W (setP w g U) :=
  Bput (Bput (Bput (Bput (Bput (Bput (Bput (Bput (Bput h (p := ⟨g, 0, none⟩) hg _) (p := ⟨g, 1, none⟩) hg _) (p := ⟨g, 2, none⟩) hg _) (p := ⟨g, 3, none⟩) hg _) (p := ⟨g, 4, none⟩) hg _) (p := ⟨g, 5, none⟩) hg _) (p := ⟨g, 6, none⟩) hg _) (p := ⟨g, 7, none⟩) hg _) (p := ⟨g, 8, none⟩) hg _
theorem Held.nineP (h : Held w g t (pkC U)) : w.cell? ⟨g, 0, none⟩ = some (U 0).v ∧ w.cell? ⟨g, 1, none⟩ = some (U 1).v ∧ w.cell? ⟨g, 2, none⟩ = some (U 2).v ∧ w.cell? ⟨g, 3, none⟩ = some (U 3).v ∧ w.cell? ⟨g, 4, none⟩ = some (U 4).v ∧ w.cell? ⟨g, 5, none⟩ = some (U 5).v ∧ w.cell? ⟨g, 6, none⟩ = some (U 6).v ∧ w.cell? ⟨g, 7, none⟩ = some (U 7).v ∧ w.cell? ⟨g, 8, none⟩ = some (U 8).v :=
  ⟨h.pk (by omega), h.pk (by omega), h.pk (by omega), h.pk (by omega), h.pk (by omega), h.pk (by omega), h.pk (by omega), h.pk (by omega), h.pk (by omega)⟩
theorem Held.thawP {cs : Array Value} (h : Held w g t cs) : w.frozen? ⟨g, 0, none⟩ = false ∧ w.frozen? ⟨g, 1, none⟩ = false ∧ w.frozen? ⟨g, 2, none⟩ = false ∧ w.frozen? ⟨g, 3, none⟩ = false ∧ w.frozen? ⟨g, 4, none⟩ = false ∧ w.frozen? ⟨g, 5, none⟩ = false ∧ w.frozen? ⟨g, 6, none⟩ = false ∧ w.frozen? ⟨g, 7, none⟩ = false ∧ w.frozen? ⟨g, 8, none⟩ = false :=
  ⟨h.thawed 0, h.thawed 1, h.thawed 2, h.thawed 3, h.thawed 4, h.thawed 5, h.thawed 6, h.thawed 7, h.thawed 8⟩
end
theorem pkC_set (U : Nat → Sl) (x : Sl) : ∀ k, k < 9 → (pkC U).setIfInBounds k x.v = pkC (updF U k x)
  | 0, _ => rfl
  | 1, _ => rfl
  | 2, _ => rfl
  | 3, _ => rfl
  | 4, _ => rfl
  | 5, _ => rfl
  | 6, _ => rfl
  | 7, _ => rfl
  | 8, _ => rfl
  | k + 9, h => absurd h (by omega)
theorem Held.putP {w : World} {g : Nat} {t : TypeId} {U : Nat → Sl} (h : Held w g t (pkC U)) {k : Nat} (hk : k < 9) (x : Sl) : Held (w.setCell ⟨g, k, none⟩ x.v) g t (pkC (updF U k x)) := by
  rw [← pkC_set U x k hk]
  exact h.put k x.v
end
section
def fullP (Z : Nat → List Int) (k : Int) : Prop := k < 0 ∨ 8 < k ∨ 3 < (Z k.toNat).length
theorem held_grownP {w w' : World} {row : Option Nat} {g : Nat} {t : TypeId} {cs : Array Value} (h : Held w g t cs) (hg : w.grownBy w' row) (hr : row ≠ some g) : Held w' g t cs := (hg.block g h.lt (fun e => hr e.symm)).trans h
end
section
theorem slotI_pos {k : Int} (h : 0 ≤ k ∧ k ≤ 8) : 0 < slotI k := by
  obtain ⟨k, rfl⟩ := Int.eq_ofNat_of_zero_le h.1
  rw [slotI_nat]
  have hk : k < 9 := by omega
  match k, hk with
  | 0, _ | 1, _ | 2, _ | 3, _ | 4, _ | 5, _ | 6, _ | 7, _ | 8, _ => decide
theorem pkIsClass_c (k : Int) (h0 : -9223372036854775808 ≤ k) (h1 : k ≤ 9223372036854775807) (b : Bool) (hb : b = true ↔ 0 ≤ k ∧ k ≤ 8) (w : World) (hT : SlotsLaid w) :
    Calls Tryz.prog 18 #[.int .i64 k] w fun e w' => e = .returned (.bool b) ∧ w = w' := by
  have HT := hidp hT
  obtain ⟨n, hn⟩ : ∃ n, slotI k = n := ⟨_, rfl⟩
  have hB : b = decide (0 < (n : Int)) := by
    rw [← hn, Bool.eq_iff_iff, hb, decide_eq_true_eq]
    constructor
    · intro h; have := slotI_pos h; omega
    · intro h
      by_cases a : 0 ≤ k ∧ k ≤ 8
      · exact a
      · rw [slotI_out (by omega)] at h; omega
  subst hB
  clear hT hb
  have HN := hidp hn
  clear hn
  go_enter Tryz.func18, Tryz.ntmps18
  go_wp2_with fail
  refine (clSlots_c k h0 h1 _ HT.out).mono ?_
  rintro e w1 ⟨rfl, rfl⟩
  rw [HN.out]
  go_wp2
  go_ret
  exact ⟨by simp, rfl⟩
theorem pkClip_c (A : Option Addr) (n c : Nat) (hnc : n ≤ c) (hcm : c ≤ maxLen) (hno : A = none → n = 0 ∧ c = 0) (w : World) :
    Calls Tryz.prog 19 #[.slice A n c] w fun e w' => e = .returned (.slice A n n) ∧ w = w' := by
  have hc2 : c ≤ 9223372036854775807 := by unfold maxLen at hcm; omega
  go_enter Tryz.func19, Tryz.ntmps19
  cases A with
  | none =>
    obtain ⟨rfl, rfl⟩ := hno rfl
    go_wp2
    go_ret
    exact ⟨rfl, rfl⟩
  | some ad =>
    go_wp2
    go_ret
    exact ⟨rfl, rfl⟩

theorem pkLast_c (U : Nat → Sl) (Z : Nat → List Int) (k : Int) (h0 : -9223372036854775808 ≤ k) (h1 : k ≤ 9223372036854775807) (w : World) (hT : SlotsLaid w) (h : PkV w U Z) :
    Calls Tryz.prog 10 #[.agg (pkC U), .int .i64 k] w fun e w' => e = .returned (lastV (lastP Z k)) ∧ Below w.heap.size w w' := by
  have HG := hidp (Held.new w 31 (pkC U))
  have HB := hidp (Bnew (B0 w) (.cells (pkC U) 31))
  have HP := hidp h
  have HT := hidp hT
  clear h hT
  by_cases hk : 0 ≤ k ∧ k ≤ 8
  · obtain ⟨k, rfl⟩ := Int.eq_ofNat_of_zero_le hk.1
    have hk9 : k < 9 := by omega
    rw [lastP_in hk9]
    obtain ⟨A, c, hu, hlc, hcm, _, hno, hcl⟩ := HP.out k hk9
    have hc := HG.out.pk hk9
    rw [hu] at hc
    clear hu
    rcases List.eq_nil_or_concat (Z k) with hz | ⟨ys, a, hz⟩
    · rw [hz] at hc hlc ⊢
      have t2 : ((([] : List Int).length : Int) == 0) = true := rfl
      go_enter Tryz.func10, Tryz.ntmps10
      go_wp2_with fail
      refine (pkIsClass_c (k : Int) (by omega) (by omega) true (by simp; try omega) _ (HT.out.below HB.out)).mono ?_
      rintro e w1 ⟨rfl, rfl⟩
      go_wp2
      go_ret2
      exact ⟨rfl, HB.out⟩
    · rw [hz] at hc hlc hcl hno ⊢
      obtain ⟨n, hn⟩ : ∃ n, ys.length = n := ⟨_, rfl⟩
      have hl : (ys.concat a).length = n + 1 := by rw [List.length_concat, hn]
      have hg : (ys.concat a).getLast? = some a := by rw [List.concat_eq_append]; simp
      have hx : (ys.concat a)[n]? = some a := by rw [List.concat_eq_append, ← hn]; simp
      rw [hl] at hc hlc
      rw [hg]
      cases A with
      | none => exact absurd (hno rfl).1 (by rw [List.concat_eq_append]; simp)
      | some ad =>
        have hb := (hcl ad rfl).1 (by rw [List.concat_eq_append]; simp)
        have hc2 := ((hcl ad rfl).2 n a hx)
        have hc3 : (w.alloc (.cells (pkC U) 31)).cell? (ad.add n) = some (.int .i64 a) := ((Bnew (B0 w) (.cells (pkC U) 31)).cell (p := ad.add n) (by rw [block_of_add]; exact hb)).trans hc2
        have t2 : (((n + 1 : Nat) : Int) == 0) = false := by rw [beq_eq_false_iff_ne]; omega
        have t3 : ((n + 1 : Nat) : Int) - 1 = (n : Int) := by omega
        have hn9 : n + 1 ≤ 9223372036854775807 := by unfold maxLen at hcm; omega
        clear hcl hno hz hl hg hx hn hc2
        go_enter Tryz.func10, Tryz.ntmps10
        go_wp2_with fail
        refine (pkIsClass_c (k : Int) (by omega) (by omega) true (by simp; try omega) _ (HT.out.below HB.out)).mono ?_
        rintro e w1 ⟨rfl, rfl⟩
        go_wp2_with fail
        go_region
        go_wp2
        go_ret2
        exact ⟨rfl, Bgo HB.out (Bdrew (B0 _))⟩
  · rw [lastP_out (by omega)]
    go_enter Tryz.func10, Tryz.ntmps10
    go_wp2_with fail
    refine (pkIsClass_c k (by omega) (by omega) false (by simp; try omega) _ (HT.out.below HB.out)).mono ?_
    rintro e w1 ⟨rfl, rfl⟩
    go_wp2
    go_ret2
    exact ⟨rfl, HB.out⟩

set_option maxHeartbeats 3200000 in
theorem pkPush_no (U : Nat → Sl) (Z : Nat → List Int) (k a : Int) (h0 : -9223372036854775808 ≤ k) (h1 : k ≤ 9223372036854775807) (w : World) (hT : SlotsLaid w) (h : PkV w U Z) (hn : fullP Z k) :
    Calls Tryz.prog 9 #[.agg (pkC U), .int .i64 k, .int .i64 a] w fun e w' => e = .returned (.tuple #[.agg (pkC U), .bool false]) ∧ Below w.heap.size w w' := by
  have HG := hidp ((Held.new w 31 (pkC U)).alloc (.cells #[.slice none 0 0, .slice none 0 0, .slice none 0 0, .slice none 0 0, .slice none 0 0, .slice none 0 0, .slice none 0 0, .slice none 0 0, .slice none 0 0] 31))
  have HR : Hid (Held ((w.alloc (.cells (pkC U) 31)).alloc (.cells #[.slice none 0 0, .slice none 0 0, .slice none 0 0, .slice none 0 0, .slice none 0 0, .slice none 0 0, .slice none 0 0, .slice none 0 0, .slice none 0 0] 31)) (w.heap.size + 1) 31 (pkC zeroU)) := hidp (Held.new2 w (.cells (pkC U) 31) 31 #[.slice none 0 0, .slice none 0 0, .slice none 0 0, .slice none 0 0, .slice none 0 0, .slice none 0 0, .slice none 0 0, .slice none 0 0, .slice none 0 0])
  have HB := hidp (Bnew (Bnew (B0 w) (.cells (pkC U) 31)) (.cells #[.slice none 0 0, .slice none 0 0, .slice none 0 0, .slice none 0 0, .slice none 0 0, .slice none 0 0, .slice none 0 0, .slice none 0 0, .slice none 0 0] 31))
  have HT := hidp hT
  obtain ⟨x0, x1, x2, x3, x4, x5, x6, x7, x8⟩ := HG.out.nineP
  obtain ⟨z0, z1, z2, z3, z4, z5, z6, z7, z8⟩ := HR.out.nineP
  obtain ⟨f0, f1, f2, f3, f4, f5, f6, f7, f8⟩ := HR.out.thawP
  obtain ⟨y0, y1, y2, y3, y4, y5, y6, y7, y8⟩ := (show Held ((w.alloc (.cells (pkC U) 31)).alloc (.cells (pkC U) 31)) (w.heap.size + 1) 31 (pkC U) from Held.new2 w (.cells (pkC U) 31) 31 (pkC U)).nineP
  clear hT
  by_cases hk : 0 ≤ k ∧ k ≤ 8
  · obtain ⟨k, rfl⟩ := Int.eq_ofNat_of_zero_le hk.1
    have hk9 : k < 9 := by omega
    obtain ⟨A, c, hu, hlc, hcm, _, hno, hcl⟩ := h k hk9
    have hc := HG.out.pk hk9
    rw [hu] at hc
    obtain ⟨n, hn1⟩ : ∃ n, (Z k).length = n := ⟨_, rfl⟩
    have h3 : 3 < n := by
      rcases hn with hn | hn | hn
      · omega
      · omega
      · rw [Int.toNat_natCast, hn1] at hn; exact hn
    rw [hn1] at hc
    have t2 : decide ((4 : Int) ≤ (n : Int)) = true := decide_eq_true (by omega)
    have t2n : decide (4 ≤ n) = true := decide_eq_true h3
    clear hu hn hn1 hno hcl
    go_enter Tryz.func9, Tryz.ntmps9
    go_wp2_with fail
    refine (pkIsClass_c (k : Int) (by omega) (by omega) true (by simp; try omega) _ (HT.out.below HB.out)).mono ?_
    rintro e w1 ⟨rfl, rfl⟩
    go_wp2
    exact bodyPost_ret (v := .tuple #[.agg (pkC U), .bool false]) (by simp [results, Tryz.results9, go_sem, y0, y1, y2, y3, y4, y5, y6, y7, y8]) rfl ⟨rfl, Bnew (Bnew (B0 w) _) _⟩
  · go_enter Tryz.func9, Tryz.ntmps9
    go_wp2_with fail
    refine (pkIsClass_c k (by omega) (by omega) false (by simp; try omega) _ (HT.out.below HB.out)).mono ?_
    rintro e w1 ⟨rfl, rfl⟩
    go_wp2
    exact bodyPost_ret (v := .tuple #[.agg (pkC U), .bool false]) (by simp [results, Tryz.results9, go_sem, y0, y1, y2, y3, y4, y5, y6, y7, y8]) rfl ⟨rfl, Bnew (Bnew (B0 w) _) _⟩
set_option maxHeartbeats 6400000 in
theorem pkPush_yes (U : Nat → Sl) (Z : Nat → List Int) (k : Nat) (a : Int) (ha : -9223372036854775808 ≤ a ∧ a ≤ 9223372036854775807) (hk : k < 9) (h3 : (Z k).length ≤ 3) (w : World) (hT : SlotsLaid w) (h : PkV w U Z) :
    Calls Tryz.prog 9 #[.agg (pkC U), .int .i64 (k : Int), .int .i64 a] w fun e w' => ∃ x : Sl, e = .returned (.tuple #[.agg (pkC (updF U k x)), .bool true]) ∧ (∀ ad, x.a = some ad → w.heap.size ≤ ad.block) ∧ PkV w' (updF U k x) (updF Z k (Z k ++ [a])) ∧ Below w.heap.size w w' := by
  have HG := hidp ((Held.new w 31 (pkC U)).alloc (.cells #[.slice none 0 0, .slice none 0 0, .slice none 0 0, .slice none 0 0, .slice none 0 0, .slice none 0 0, .slice none 0 0, .slice none 0 0, .slice none 0 0] 31))
  have HR : Hid (Held ((w.alloc (.cells (pkC U) 31)).alloc (.cells #[.slice none 0 0, .slice none 0 0, .slice none 0 0, .slice none 0 0, .slice none 0 0, .slice none 0 0, .slice none 0 0, .slice none 0 0, .slice none 0 0] 31)) (w.heap.size + 1) 31 (pkC zeroU)) := hidp (Held.new2 w (.cells (pkC U) 31) 31 #[.slice none 0 0, .slice none 0 0, .slice none 0 0, .slice none 0 0, .slice none 0 0, .slice none 0 0, .slice none 0 0, .slice none 0 0, .slice none 0 0])
  have HB := hidp (Bnew (Bnew (B0 w) (.cells (pkC U) 31)) (.cells #[.slice none 0 0, .slice none 0 0, .slice none 0 0, .slice none 0 0, .slice none 0 0, .slice none 0 0, .slice none 0 0, .slice none 0 0, .slice none 0 0] 31))
  have HP := hidp h
  have HT := hidp hT
  have hc1 := HG.out.pk hk
  obtain ⟨A, c, hu, hlc, hcm, hbd, hno, hcl⟩ := h k hk
  obtain ⟨n, hn⟩ : ∃ n, (Z k).length = n := ⟨_, rfl⟩
  rw [hn] at hu hlc h3
  rw [hu] at hc1
  have HN := hidp hn
  have HNO : Hid (A = none → n = 0 ∧ c = 0) := hidp (fun e => ⟨by rw [← hn, (hno e).1]; rfl, (hno e).2⟩)
  have HCL := hidp hcl
  have HBD := hidp hbd
  obtain ⟨i0, hi0, hz0, hz1, hz2⟩ := info_parts longInfo
  have t2 : decide ((4 : Int) ≤ (n : Int)) = false := decide_eq_false (by omega)
  have t2n : decide (4 ≤ n) = false := decide_eq_false (by omega)
  clear h hT hu hn hbd hcl hno
  go_enter Tryz.func9, Tryz.ntmps9
  go_wp2_with fail
  refine (pkIsClass_c (k : Int) (by omega) (by omega) true (by simp; try omega) _ (HT.out.below HB.out)).mono ?_
  rintro e w1 ⟨rfl, rfl⟩
  go_wp2_with fail
  refine (pkClip_c A n c hlc hcm HNO.out _).mono ?_
  rintro e w1 ⟨rfl, rfl⟩
  go_wp2_with (first
    | (at_builtin
       refine wpList_append_grows _ rfl _ _ 29 rfl 2 i0 (.int .i64 0) 1 8 Tryz.underlying29 hi0 hz0 hz1 hz2 rfl (by decide) A n n (lgVs (Z k)) rfl ?d0 ?d1 ?d2 ⟨_, 0, none⟩ 1 1 [.int .i64 a] rfl rfl ?c1 ?c2 ?c3 ?c4 ?c5 ?_
       case d0 => intro e; exact ⟨(HNO.out e).1, (HNO.out e).1⟩
       case d1 => rw [lgVs_len, HN.out]; omega
       case d2 => intro ad hA j y hy; obtain ⟨z, hz, rfl⟩ := lgVs_get hy; exact ((Bnew HB.out (.cells #[.int .i64 a] 2)).cell (p := ad.add j) (by rw [block_of_add]; exact (HCL.out ad hA).1 (fun e => by rw [e] at hz; simp at hz))).trans ((HCL.out ad hA).2 j z hz)
       case c1 => intro j y hy; rcases j with _ | j; (· simp at hy; subst hy; have h9 := (Held.new ((w.alloc (.cells (pkC U) 31)).alloc (.cells #[.slice none 0 0, .slice none 0 0, .slice none 0 0, .slice none 0 0, .slice none 0 0, .slice none 0 0, .slice none 0 0, .slice none 0 0, .slice none 0 0] 31)) 2 #[.int .i64 a]).cell 0; simpa [Addr.add] using h9); (· simp at hy)
       case c2 => simp [Value.oneCell']
       case c3 => omega
       case c4 => unfold maxLen; omega
       case c5 => omega
       intro u7 w7 hown7 hgrow
       have HO7 : Hid (w7.ownsRow (w.heap.size + 3) 2 1 u7 (n + 1) (lgVs (Z k ++ [a]))) := hidp (by
         have : ((w.alloc (.cells (pkC U) 31)).alloc (.cells #[.slice none 0 0, .slice none 0 0, .slice none 0 0, .slice none 0 0, .slice none 0 0, .slice none 0 0, .slice none 0 0, .slice none 0 0, .slice none 0 0] 31)).heap.size + 1 = w.heap.size + 3 := by simp
         unfold lgVs at hown7 ⊢
         rw [List.map_append]
         simpa using hown7)
       obtain ⟨A7, c7, hu7⟩ := own_slice HO7.out
       subst hu7
       have HF7 : Hid (∀ ad, A7 = some ad → w.heap.size ≤ ad.block) := hidp (fun ad e => by
         subst e
         have := (HO7.out.lt ad.block (by unfold Value.ownBlock; rfl)).1
         omega)
       have HB7 := hidp ((Bnew HB.out (.cells #[.int .i64 a] 2)).grown hgrow (by have := HB.out.size; simp; omega) (fun j hj => by cases hj))
       have HG7 := hidp (held_grownP (HG.out.alloc (.cells #[.int .i64 a] 2)) hgrow (fun e => by cases e))
       have HR7 := hidp (held_grownP (HR.out.alloc (.cells #[.int .i64 a] 2)) hgrow (fun e => by cases e))
       clear hown7 hgrow HB HG HR HCL hc1
       have c0 := HG7.out.pk hk
       have g0 := HG7.out.thawed k
       obtain ⟨U2, hU2⟩ : ∃ U2, updF U k ⟨A7, n + 1, c7⟩ = U2 := ⟨_, rfl⟩
       have HU2 := hidp hU2
       have HG8 : Hid (Held (w7.setCell ⟨w.heap.size, k, none⟩ (.slice A7 (n + 1) c7)) w.heap.size 31 (pkC U2)) := hidp (by rw [← hU2]; exact HG7.out.putP hk ⟨A7, n + 1, c7⟩)
       have HR8 : Hid (Held (w7.setCell ⟨w.heap.size, k, none⟩ (.slice A7 (n + 1) c7)) (w.heap.size + 1) 31 (pkC zeroU)) := hidp (HR7.out.far (p := ⟨w.heap.size, k, none⟩) (by show w.heap.size + 1 ≠ w.heap.size; omega) _)
       clear hU2
       obtain ⟨x0, x1, x2, x3, x4, x5, x6, x7, x8⟩ := HG8.out.nineP
       obtain ⟨z0, z1, z2, z3, z4, z5, z6, z7, z8⟩ := HR8.out.nineP
       obtain ⟨f0, f1, f2, f3, f4, f5, f6, f7, f8⟩ := HR8.out.thawP)
    | fail)
  obtain ⟨WF, hWF⟩ : ∃ WF, setP (w7.setCell ⟨w.heap.size, k, none⟩ (.slice A7 (n + 1) c7)) (w.heap.size + 1) U2 = WF := ⟨_, rfl⟩
  have zz := Held.setP HR8.out U2
  have hBF := below_setP (g := w.heap.size + 1) (Bput HB7.out (p := ⟨w.heap.size, k, none⟩) (Nat.le_refl _) (.slice A7 (n + 1) c7)) (by omega) U2
  have hOF : (setP (w7.setCell ⟨w.heap.size, k, none⟩ (.slice A7 (n + 1) c7)) (w.heap.size + 1) U2).ownsRow (w.heap.size + 3) 2 1 (.slice A7 (n + 1) c7) (n + 1) (lgVs (Z k ++ [a])) := own_kept HO7.out (fun j hj => by
    have := (HO7.out.lt j hj).1
    rw [heap_setP (by omega), Below.heap_setCell _ _ _ _ (by show j ≠ w.heap.size; omega)])
  rw [hWF] at zz hBF hOF
  unfold setP at hWF
  rw [hWF]
  obtain ⟨y0, y1, y2, y3, y4, y5, y6, y7, y8⟩ := zz.nineP
  clear x0 x1 x2 x3 x4 x5 x6 x7 x8 z0 z1 z2 z3 z4 z5 z6 z7 z8 f0 f1 f2 f3 f4 f5 f6 f7 f8
  refine bodyPost_ret (v := .tuple #[.agg (pkC U2), .bool true]) (by simp [results, Tryz.results9, go_sem, y0, y1, y2, y3, y4, y5, y6, y7, y8]) rfl ⟨⟨A7, n + 1, c7⟩, by rw [HU2.out], HF7.out, fun j hj => ?_, hBF⟩
  by_cases e : j = k
  · subst e
    rw [updF_same, updF_same]
    have hl : (Z j ++ [a]).length = n + 1 := by rw [List.length_append, HN.out]; rfl
    refine longs_of_own (base := w.heap.size + 3) (by rw [hl]; exact hOF) (fun z hz => ?_)
    rcases List.mem_append.1 hz with hz | hz
    · exact HBD.out z hz
    · rw [List.mem_singleton] at hz; subst hz; exact ha
  · rw [updF_other _ _ e, updF_other _ _ e]
    exact (HP.out j hj).below hBF
end
end Go.Proofs.YtkbjckhbllmclaaGreatDoor

namespace Go.Proofs.YtkbjckhbllmclaaGreatDoor.SM

def stp (r : Nat) (b : Bool) : Nat := if (r.testBit 0 != b) then r / 2 ^^^ 2197175160 else r / 2
def rn (f : Nat → Bool) (r : Nat) : Nat → Nat
  | 0 => r
  | p + 1 => stp (rn f r p) (f p)
def nx (r x k : Nat) : Nat := rn (fun i => x.testBit i) r k
end Go.Proofs.YtkbjckhbllmclaaGreatDoor.SM

namespace Go.Proofs.YtkbjckhbllmclaaGreatDoor
open Go.ChangeShapes Go.WideShapes Go.ChangeAt Go.RowKit Go.Maps
set_option linter.unusedVariables false
set_option linter.unusedSimpArgs false
section
theorem below_grown {w w' : World} (h : Below w.heap.size w w') : w.grownBy w' none := ⟨h.os, h.tape, h.output, h.size, fun i hi _ => h.block i hi⟩
end
end Go.Proofs.YtkbjckhbllmclaaGreatDoor

namespace Go.Proofs.YtkbjckhbllmclaaGreatDoor
open Go.ChangeShapes Go.WideShapes Go.ChangeAt Go.RowKit Go.Maps
set_option linter.unusedVariables false
set_option linter.unusedSimpArgs false
set_option maxRecDepth 100000
section
theorem longKey : Keyed Tryz.prog 2 := int_keyed Tryz.underlying2
theorem zeroLong (w : World) : (zeroValue 2).run Tryz.prog w = .ok (.int .i64 0) w := by kernel_rfl
theorem kLong_of {c : Int} (h : -9223372036854775808 ≤ c ∧ c ≤ 9223372036854775807) : keyOf Tryz.prog 2 (.int .i64 c) = some (kInt c) := keyOf_int_mk Tryz.underlying2 (i64_wf_int h)
theorem index9 (k : Nat) (hk : k < 9) (a0 a1 a2 a3 a4 a5 a6 a7 a8 : Value) (w : World) : (Instr.index 31 (.agg #[a0, a1, a2, a3, a4, a5, a6, a7, a8]) (.int .i64 (k : Int))).run Tryz.prog w = .ok ((#[a0, a1, a2, a3, a4, a5, a6, a7, a8] : Array Value).getD k undef) w := by
  rcases (by omega : k = 0 ∨ k = 1 ∨ k = 2 ∨ k = 3 ∨ k = 4 ∨ k = 5 ∨ k = 6 ∨ k = 7 ∨ k = 8) with rfl | rfl | rfl | rfl | rfl | rfl | rfl | rfl | rfl <;> kernel_rfl
theorem index_pk (U : Nat → Sl) (k : Nat) (hk : k < 9) (w : World) : (Instr.index 31 (.agg (pkC U)) (.int .i64 (k : Int))).run Tryz.prog w = .ok (U k).v w := by
  rw [index9 k hk]
  rcases (by omega : k = 0 ∨ k = 1 ∨ k = 2 ∨ k = 3 ∨ k = 4 ∨ k = 5 ∨ k = 6 ∨ k = 7 ∨ k = 8) with rfl | rfl | rfl | rfl | rfl | rfl | rfl | rfl | rfl <;> rfl
theorem rowP_split (sz : Nat → Int) (z : Nat → List Int) {k : Nat} : ∀ {j : Nat}, k ≤ j → ∃ r, rowP sz z j = rowP sz z k ++ r
  | 0, h => by obtain rfl : k = 0 := by omega
               exact ⟨[], rfl⟩
  | j + 1, h => by
    by_cases e : k = j + 1
    · subst e; exact ⟨[], by rw [List.append_nil]⟩
    · obtain ⟨r, hr⟩ := rowP_split sz z (k := k) (j := j) (by omega)
      exact ⟨r ++ (z j).map fun a => (a, sz j), by rw [← List.append_assoc, ← hr]; rfl⟩
theorem allL_split (sz : Nat → Int) (Z : Nat → Nat → List Int) {i : Nat} : ∀ {T : Nat}, i ≤ T → ∃ r, allL sz Z T = allL sz Z i ++ r
  | 0, h => by obtain rfl : i = 0 := by omega
               exact ⟨[], rfl⟩
  | T + 1, h => by
    by_cases e : i = T + 1
    · subst e; exact ⟨[], by rw [List.append_nil]⟩
    · obtain ⟨r, hr⟩ := allL_split sz Z (i := i) (T := T) (by omega)
      exact ⟨r ++ rowP sz (Z T) 9, by rw [← List.append_assoc, ← hr]; rfl⟩
def atL (sz : Nat → Int) (Z : Nat → Nat → List Int) (i k m : Nat) : List (Int × Int) := (allL sz Z i ++ rowP sz (Z i) k) ++ ((Z i k).take m).map fun a => (a, sz k)
theorem atL_next {sz : Nat → Int} {Z : Nat → Nat → List Int} {i k m : Nat} {a : Int} (h : (Z i k)[m]? = some a) : atL sz Z i k (m + 1) = atL sz Z i k m ++ [(a, sz k)] := by
  unfold atL
  rw [List.take_add_one, h, List.map_append]
  simp only [List.append_assoc]
  rfl
theorem atL_zero (sz : Nat → Int) (Z : Nat → Nat → List Int) (i k : Nat) : atL sz Z i k 0 = allL sz Z i ++ rowP sz (Z i) k := by unfold atL; rw [List.take_zero]; simp
theorem atL_all {sz : Nat → Int} {Z : Nat → Nat → List Int} {i k m : Nat} (h : (Z i k).length ≤ m) : atL sz Z i k m = allL sz Z i ++ rowP sz (Z i) (k + 1) := by
  unfold atL
  rw [List.take_of_length_le h, List.append_assoc]
  rfl
theorem atL_split {sz : Nat → Int} {Z : Nat → Nat → List Int} {i k m T : Nat} (hi : i < T) (hk : k < 9) : ∃ r, allL sz Z T = atL sz Z i k m ++ r := by
  obtain ⟨r1, h1⟩ := allL_split sz Z (i := i + 1) (T := T) hi
  obtain ⟨r2, h2⟩ := rowP_split sz (Z i) (k := k + 1) (j := 9) hk
  have h3 : (Z i k).map (fun a => (a, sz k)) = ((Z i k).take m).map (fun a => (a, sz k)) ++ ((Z i k).drop m).map (fun a => (a, sz k)) := by rw [← List.map_append, List.take_append_drop]
  refine ⟨((Z i k).drop m).map (fun a => (a, sz k)) ++ (r2 ++ r1), ?_⟩
  rw [h1]
  show (allL sz Z i ++ rowP sz (Z i) 9) ++ r1 = _
  rw [h2]
  show (allL sz Z i ++ ((rowP sz (Z i) k ++ (Z i k).map (fun a => (a, sz k))) ++ r2)) ++ r1 = _
  rw [h3]
  unfold atL
  simp only [List.append_assoc]
theorem atL_twice {sz : Nat → Int} {Z : Nat → Nat → List Int} {i k m T : Nat} {a : Int} (hi : i < T) (hk : k < 9) (h : (Z i k)[m]? = some a) (ht : a ∈ (atL sz Z i k m).map Prod.fst) : ¬ ((allL sz Z T).map Prod.fst).Nodup := fun hn => by
  obtain ⟨r, hr⟩ := atL_split (sz := sz) (Z := Z) (m := m + 1) hi hk
  rw [hr, atL_next h, List.append_assoc, List.map_append, List.nodup_append] at hn
  exact hn.2.2 a ht a (by simp) rfl
theorem nodup_snoc {l : List (Int × Int)} {a z : Int} (h : (l.map Prod.fst).Nodup) (ha : a ∉ l.map Prod.fst) : ((l ++ [(a, z)]).map Prod.fst).Nodup := by
  rw [List.map_append, List.nodup_append]
  refine ⟨h, by simp, fun x hx y hy e => ?_⟩
  simp at hy
  subst e
  subst hy
  exact ha hx
theorem nine_at {w : World} {ad : Addr} {t : Nat} {u : Nat → Sl} {z : Nat → List Int} (h : ∀ k, k < 9 → w.cell? (ad.add (t * 9 + k)) = some (u k).v ∧ LongsAt w (u k).v (z k)) :
    w.cell? (ad.add (t * 9)) = some (u 0).v ∧ w.cell? ⟨(ad.add (t * 9)).block, (ad.add (t * 9)).off + 1, none⟩ = some (u 1).v ∧ w.cell? ⟨(ad.add (t * 9)).block, (ad.add (t * 9)).off + 2, none⟩ = some (u 2).v ∧ w.cell? ⟨(ad.add (t * 9)).block, (ad.add (t * 9)).off + 3, none⟩ = some (u 3).v ∧ w.cell? ⟨(ad.add (t * 9)).block, (ad.add (t * 9)).off + 4, none⟩ = some (u 4).v ∧ w.cell? ⟨(ad.add (t * 9)).block, (ad.add (t * 9)).off + 5, none⟩ = some (u 5).v ∧ w.cell? ⟨(ad.add (t * 9)).block, (ad.add (t * 9)).off + 6, none⟩ = some (u 6).v ∧ w.cell? ⟨(ad.add (t * 9)).block, (ad.add (t * 9)).off + 7, none⟩ = some (u 7).v ∧ w.cell? ⟨(ad.add (t * 9)).block, (ad.add (t * 9)).off + 8, none⟩ = some (u 8).v := by
  have g : ∀ k, k < 9 → w.cell? ((ad.add (t * 9)).add k) = some (u k).v := fun k hk => by rw [add_of_add]; exact (h k hk).1
  exact ⟨g 0 (by omega), g 1 (by omega), g 2 (by omega), g 3 (by omega), g 4 (by omega), g 5 (by omega), g 6 (by omega), g 7 (by omega), g 8 (by omega)⟩
def OkS (sz : Nat → Int) (T : Nat) (Z : Nat → Nat → List Int) : Prop := (∀ k, k < 9 → ∀ t, t < T → (Z t k).length ≤ 4) ∧ ((allL sz Z T).map Prod.fst).Nodup
theorem rowP_len {sz : Nat → Int} {z : Nat → List Int} : ∀ j, (∀ k, k < j → (z k).length ≤ 4) → (rowP sz z j).length ≤ j * 4
  | 0, _ => Nat.le_refl _
  | j + 1, h => by
    unfold rowP
    rw [List.length_append, List.length_map]
    have := rowP_len (sz := sz) j (fun k hk => h k (by omega))
    have := h j (by omega)
    omega
theorem atL_len {sz : Nat → Int} {Z : Nat → Nat → List Int} {i : Nat} (h : ∀ k, k < 9 → ∀ t, t < i → (Z t k).length ≤ 4) : (allL sz Z i).length ≤ i * 36 := by
  induction i with
  | zero => exact Nat.le_refl _
  | succ i ih =>
    have h1 := ih (fun k hk t ht => h k hk t (by omega))
    unfold allL
    rw [List.length_append]
    have := rowP_len (sz := sz) (z := Z i) 9 (fun k hk => h k hk i (by omega))
    omega

set_option maxHeartbeats 6400000 in
theorem pkSizes_c (t p s : Int) (s0 : -9223372036854775808 ≤ s) (A : Option Addr) (T c : Nat) (U : Nat → Nat → Sl) (Z : Nat → Nat → List Int) (sz : Nat → Int) (hsz : ∀ k : Nat, k < 9 → ((sizeN s (k : Int) : Nat) : Int) = sz k) (hT6 : T ≤ 65536) (hTc : T ≤ c) (hcm : c ≤ maxLen) (w : World) (hT : SlotsLaid w) (hP : PksAt w A T U Z) :
    Calls Tryz.prog 12 #[.agg #[.int .i64 t, .int .i64 p, .int .i64 s], .slice A T c] w fun e w' =>
      ((e = .returned (.tuple #[.map none, .bool false]) ∧ ¬ OkS sz T Z) ∨ ∃ D, e = .returned (.tuple #[.map (some (w.heap.size + 1)), .bool true]) ∧ w'.ownsMap Tryz.prog 2 (plainElem (H := Unit) Tryz.prog 2) (w.heap.size + 1) (allL sz Z T).length D ∧ PairIs D (allL sz Z T) ∧ OkS sz T Z) ∧ Below w.heap.size w w' := by
  have HSZ := hidp hsz
  have HTT := hidp hT
  have HPP := hidp hP
  have HZB : Hid (∀ k, k < 9 → -9223372036854775808 ≤ sz k ∧ sz k ≤ 9223372036854775807) := hidp (fun k hk => by
    rw [← hsz k hk]
    have := sizeN_le s (k : Int)
    omega)
  have hc2 : c ≤ 9223372036854775807 := by unfold maxLen at hcm; omega
  have HC := hidp ((Held.new w 23 #[.int .i64 t, .int .i64 p, .int .i64 s]).alloc (.map #[] 0))
  have HB := hidp (Bnew (Bnew (B0 w) (.cells #[.int .i64 t, .int .i64 p, .int .i64 s] 23)) (.map #[] 0))
  have hm : ((w.alloc (.cells #[.int .i64 t, .int .i64 p, .int .i64 s] 23)).alloc (.map #[] 0)).ownsMap Tryz.prog 2 (plainElem (H := Unit) Tryz.prog 2) (w.heap.size + 1) 0 (.map []) := by
    have := World.ownsMap_made (w.alloc (.cells #[.int .i64 t, .int .i64 p, .int .i64 s] 23)) Tryz.prog 2 (plainElem (H := Unit) Tryz.prog 2)
    simpa using this
  have HM := hidp hm
  have hmm := @run_makeMap Tryz.prog
  clear hsz hT hP hm
  go_enter Tryz.func12, Tryz.ntmps12
  go_wp2_with fail
  clear hmm
  go_loopw [18] (fun u18 wr => ∃ (i n : Nat) (D : DataW Unit), i ≤ T ∧ u18 = .int .i64 (i : Int) ∧ wr.ownsMap Tryz.prog 2 (plainElem (H := Unit) Tryz.prog 2) (w.heap.size + 1) n D ∧ Hid (PairIs D (allL sz Z i)) ∧ Hid ((allL sz Z i).length = n) ∧ Hid (∀ k, k < 9 → ∀ t, t < i → (Z t k).length ≤ 4) ∧ Hid (((allL sz Z i).map Prod.fst).Nodup) ∧ Hid (Held wr w.heap.size 23 #[.int .i64 t, .int .i64 p, .int .i64 s]) ∧ Hid (Below w.heap.size w wr)) (fun u18 _ => T - (intOf u18).toNat)
  case atStart => exact ⟨0, 0, _, by omega, rfl, HM.out, hidp PairIs.empty, hidp rfl, hidp (fun k hk t ht => absurd ht (Nat.not_lt_zero _)), hidp List.nodup_nil, HC, HB⟩
  case round =>
    clear HM HC HB
    obtain ⟨i, n, D, hi, rfl, hown, HI, HN, HF, HND, HC, HB⟩ := hrel
    by_cases hlt : i < T
    · obtain ⟨ad, e, hbk, hcs⟩ := HPP.out.below HB.out i hlt
      subst e
      have HAD := hidp hcs
      clear hcs
      obtain ⟨y0, y1, y2, y3, y4, y5, y6, y7, y8⟩ := nine_at HAD.out
      have hown0 := hown.kept (row := none) (below_grown (Bnew (B0 wr) (.cells (pkC (U i)) 31))) (by simp)
      have HO0 := hidp hown0
      replace HC := hidp (HC.out.alloc (.cells (pkC (U i)) 31))
      replace HB := hidp (Bnew HB.out (.cells (pkC (U i)) 31))
      have HI0 : Hid (PairIs D (atL sz Z i 0 0)) := hidp (by rw [atL_zero]; show PairIs D (allL sz Z i ++ []); rw [List.append_nil]; exact HI.out)
      have HN0 : Hid ((atL sz Z i 0 0).length = n) := hidp (by rw [atL_zero]; show (allL sz Z i ++ []).length = n; rw [List.append_nil]; exact HN.out)
      have HND0 : Hid (((atL sz Z i 0 0).map Prod.fst).Nodup) := hidp (by rw [atL_zero]; show ((allL sz Z i ++ []).map Prod.fst).Nodup; rw [List.append_nil]; exact HND.out)
      clear hown hown0 HAD HI HN HND
      go_wp2_with fail
      clear y0 y1 y2 y3 y4 y5 y6 y7 y8
      go_loopw [23] (fun u23 wr => ∃ (k n : Nat) (D : DataW Unit), k ≤ 9 ∧ u23 = .int .i64 (k : Int) ∧ Hid (wr.ownsMap Tryz.prog 2 (plainElem (H := Unit) Tryz.prog 2) (w.heap.size + 1) n D) ∧ Hid (PairIs D (atL sz Z i k 0)) ∧ Hid ((atL sz Z i k 0).length = n) ∧ Hid (∀ j, j < k → (Z i j).length ≤ 4) ∧ Hid (((atL sz Z i k 0).map Prod.fst).Nodup) ∧ Hid (Held wr w.heap.size 23 #[.int .i64 t, .int .i64 p, .int .i64 s]) ∧ Hid (Below w.heap.size w wr)) (fun u23 _ => 9 - (intOf u23).toNat)
      case atStart => exact ⟨0, n, D, by omega, rfl, HO0, HI0, HN0, hidp (fun j hj => absurd hj (Nat.not_lt_zero _)), HND0, HC, HB⟩
      case round =>
        clear HO0 HI0 HN0 HND0 HC HB
        obtain ⟨k, n, D, hk, rfl, HO, HI, HN, HF4, HND, HC, HB⟩ := hrel
        by_cases hk9 : k < 9
        · obtain ⟨ad', e', _, hcs⟩ := HPP.out.below HB.out i hlt
          injection e' with e'
          subst e'
          obtain ⟨A3, c3, hu, hlc, hcm3, hbd, hno3, hcl3⟩ := (hcs k hk9).2
          have hix : ∀ w : World, (Instr.index 31 (.agg #[.slice (U i 0).a (U i 0).n (U i 0).c, .slice (U i 1).a (U i 1).n (U i 1).c, .slice (U i 2).a (U i 2).n (U i 2).c, .slice (U i 3).a (U i 3).n (U i 3).c, .slice (U i 4).a (U i 4).n (U i 4).c, .slice (U i 5).a (U i 5).n (U i 5).c, .slice (U i 6).a (U i 6).n (U i 6).c, .slice (U i 7).a (U i 7).n (U i 7).c, .slice (U i 8).a (U i 8).n (U i 8).c]) (.int .i64 (k : Int))).run Tryz.prog w = .ok (.slice A3 (Z i k).length c3) w := fun w => by
            rw [← hu]
            exact index_pk (U i) k hk9 w
          obtain ⟨nz, hnz⟩ : ∃ nz, (Z i k).length = nz := ⟨_, rfl⟩
          have HNZ := hidp hnz
          rw [hnz] at hix hlc hu
          have hc3 : c3 ≤ 9223372036854775807 := by unfold maxLen at hcm3; omega
          have HBD := hidp hbd
          have HU := hidp hu
          clear hcs hu hnz hbd hno3 hcl3
          have t9 : decide ((k : Int) < 9) = true := decide_eq_true (by omega)
          have t9n : decide (k < 9) = true := decide_eq_true hk9
          by_cases h4 : nz ≤ 4
          · have t1 : decide ((4 : Int) < (nz : Int)) = false := decide_eq_false (by omega)
            have t1n : decide (4 < nz) = false := decide_eq_false (by omega)
            go_wp2_with fail
            clear hix
            go_loopw [12, 13, 14, 32] (fun _ _ _ u32 wr => ∃ (m n : Nat) (D : DataW Unit), m ≤ nz ∧ u32 = .int .i64 (m : Int) ∧ Hid (wr.ownsMap Tryz.prog 2 (plainElem (H := Unit) Tryz.prog 2) (w.heap.size + 1) n D) ∧ Hid (PairIs D (atL sz Z i k m)) ∧ Hid ((atL sz Z i k m).length = n) ∧ Hid (((atL sz Z i k m).map Prod.fst).Nodup) ∧ Hid (Held wr w.heap.size 23 #[.int .i64 t, .int .i64 p, .int .i64 s]) ∧ Hid (Below w.heap.size w wr)) (fun _ _ _ u32 _ => nz - (intOf u32).toNat)
            case atStart => exact ⟨0, n, D, by omega, rfl, HO, HI, HN, HND, HC, HB⟩
            case round =>
              clear HO HI HN HND HC HB
              obtain ⟨m, n, D, hm, rfl, HO, HI, HN, HND, HC, HB⟩ := hrel
              by_cases hmz : m < nz
              · obtain ⟨a, ha⟩ : ∃ a, (Z i k)[m]? = some a := ⟨_, List.getElem?_eq_getElem (by rw [HNZ.out]; exact hmz)⟩
                obtain ⟨ad', e', _, hcs⟩ := HPP.out.below HB.out i hlt
                injection e' with e'
                subst e'
                have hab := HBD.out a (List.mem_of_getElem? ha)
                have hkey := kLong_of hab
                obtain ⟨x0, x1, x2⟩ := HC.out.three
                obtain ⟨A4, c4, hu4, _, _, _, hno4, hcl4⟩ := (hcs k hk9).2
                rw [HU.out] at hu4
                injection hu4 with e1 e2 e3
                subst e1
                cases A3 with
                | none => exact absurd (hno4 rfl).1 (fun e => by rw [e] at ha; simp at ha)
                | some ad3 =>
                  have hc := (hcl4 ad3 rfl).2 m a ha
                  have HNM : Hid (n ≤ 65536 * 40) := hidp (by
                    have h1 := atL_len (sz := sz) (Z := Z) (i := i) HF.out
                    have h2 := rowP_len (sz := sz) (z := Z i) k HF4.out
                    have h3 := HN.out
                    unfold atL at h3
                    rw [List.length_append, List.length_append, List.length_map, List.length_take] at h3
                    omega)
                  have HNX := hidp (atL_next (sz := sz) ha)
                  clear hcs e2 e3 hno4 hcl4
                  by_cases ht : a ∈ (atL sz Z i k m).map Prod.fst
                  · have HHAS : Hid (Maps.has D (kInt a) = true) := hidp (by rw [HI.out.has a]; exact decide_eq_true ht)
                    have HNO : Hid (¬ OkS sz T Z) := hidp (fun h => atL_twice hlt hk9 ha ht h.2)
                    clear ht ha
                    go_wp2_with (first
                      | (at_lookup; refine wpList_lookup_own_ok_int _ rfl _ _ 39 rfl 2 2 .i64 longKey Tryz.underlying39 Tryz.underlying2 (zeroLong _) (w.heap.size + 1) n D rfl HO.out _ _ rfl hkey ?_
                         intro cc hat hwc
                         rw [HHAS.out]
                         clear hat hwc)
                      | go_in)
                    go_ret2
                    exact ⟨.inl ⟨rfl, HNO.out⟩, HB.out⟩
                  · have HHAS : Hid (Maps.has D (kInt a) = false) := hidp (by rw [HI.out.has a]; exact decide_eq_false ht)
                    have HI2 : Hid (PairIs (D.put (kInt a) (.lit (.int .i64 (sz k)))) (atL sz Z i k (m + 1))) := hidp (by rw [HNX.out]; exact HI.out.put ht)
                    have HN2 : Hid ((atL sz Z i k (m + 1)).length = n + 1) := hidp (by rw [HNX.out, List.length_append, HN.out]; rfl)
                    have HND2 : Hid (((atL sz Z i k (m + 1)).map Prod.fst).Nodup) := hidp (by rw [HNX.out]; exact nodup_snoc HND.out ht)
                    have hkb : (Lit.int .i64 (sz k)).wf = true := i64_wf_int (HZB.out k hk9)
                    have HK := hidp (HSZ.out k hk9)
                    clear ht ha HI HN HND HNX
                    generalize sz k = zk at *
                    go_wp2_with (first
                      | (at_lookup; refine wpList_lookup_own_ok_int _ rfl _ _ 39 rfl 2 2 .i64 longKey Tryz.underlying39 Tryz.underlying2 (zeroLong _) (w.heap.size + 1) n D rfl HO.out _ _ rfl hkey ?_
                         intro cc hat hwc
                         rw [HHAS.out]
                         clear hat hwc)
                      | fail)
                    refine (clSize_c s (k : Int) (by omega) (by omega) _ (HTT.out.below HB.out)).mono ?_
                    rintro e w5 ⟨rfl, hb⟩
                    rw [HK.out]
                    have hown := HO.out.kept (row := none) (below_grown hb) (by simp)
                    replace HC := hidp (HC.out.keep hb)
                    replace HB := hidp (Bgo HB.out hb)
                    have hn40 := HNM.out
                    clear hb HO HNM
                    go_wp2_with (first
                      | (at_mapUpdate; refine wpList_mapUpdate_own _ rfl _ _ _ 39 rfl 2 2 longKey Tryz.underlying39 _ (w.heap.size + 1) n D rfl hown (by unfold maxLen; omega) _ _ _ rfl rfl hkey _ [] (plainElem_int Tryz.underlying2 hkb) ?_
                         intro w6 hown6 hgrow6
                         have HO6 := hidp hown6
                         have HC6 := hidp (held_grownP HC.out hgrow6 (by simp))
                         have HB6 := hidp (HB.out.grown hgrow6 HB.out.size (fun j hj => by cases hj; omega))
                         clear hown6 hgrow6 HC HB hown)
                      | go_in)
                    go_roundw
                    case rel => exact ⟨m + 1, n + 1, _, by omega, by go_num, HO6, HI2, HN2, HND2, HC6, HB6⟩
                    case measure => simp [intOf]; omega
              · obtain rfl : m = nz := by omega
                go_wp2_with fail
                go_roundw
                case rel => exact ⟨k + 1, n, D, by omega, by go_num, HO, hidp (by rw [atL_zero, ← atL_all (m := m) (by rw [HNZ.out]; exact Nat.le_refl _)]; exact HI.out), hidp (by rw [atL_zero, ← atL_all (m := m) (by rw [HNZ.out]; exact Nat.le_refl _)]; exact HN.out), hidp (fun j hj => by
                  by_cases e : j = k
                  · subst e; rw [HNZ.out]; exact h4
                  · exact HF4.out j (by omega)), hidp (by rw [atL_zero, ← atL_all (m := m) (by rw [HNZ.out]; exact Nat.le_refl _)]; exact HND.out), HC, HB⟩
                case measure => simp [intOf]; omega
          · have t1 : decide ((4 : Int) < (nz : Int)) = true := decide_eq_true (by omega)
            have t1n : decide (4 < nz) = true := decide_eq_true (by omega)
            go_wp2
            go_ret2
            exact ⟨.inl ⟨rfl, fun h => h4 (by rw [← HNZ.out]; exact h.1 k hk9 i hlt)⟩, HB.out⟩
        · obtain rfl : k = 9 := by omega
          go_wp2_with fail
          go_roundw
          case rel => exact ⟨i + 1, n, D, by omega, by go_num, HO.out, hidp (by have := HI.out; rw [atL_zero] at this; exact this), hidp (by have := HN.out; rw [atL_zero] at this; exact this), hidp (fun k hk t ht => by
            by_cases e : t = i
            · subst e; exact HF4.out k hk
            · exact HF.out k hk t (by omega)), hidp (by have := HND.out; rw [atL_zero] at this; exact this), HC, HB⟩
          case measure => simp [intOf]; omega
    · obtain rfl : i = T := by omega
      have t0 : decide ((i : Int) < (i : Int)) = false := decide_eq_false (by omega)
      go_wp2
      go_ret2
      exact ⟨.inr ⟨D, rfl, by rw [HN.out]; exact hown, HI.out, HF.out, HND.out⟩, HB.out⟩
end
section
theorem contig_up : ∀ {l : List (Int × Int × Int)} {a b : Int}, Contig a l b → ∀ x ∈ l, a ≤ x.2.1 ∧ x.2.1 ≤ b ∧ 1 ≤ x.2.2 ∧ x.2.2 ≤ b - a
  | [], a, b, h => fun x hx => by simp at hx
  | x :: l, a, b, h => fun y hy => by
    obtain ⟨⟨h1, h2, _, _⟩, h3⟩ := h
    have h4 := Contig.le h3
    rcases List.mem_cons.1 hy with rfl | hy
    · omega
    · have := contig_up h3 y hy
      omega
theorem PairIs.look {D : DataW Unit} {l : List (Int × Int)} (h : PairIs D l) (a z : Int) (hz : 1 ≤ z) : ∃ cv, D.atKey (kInt a) (.lit (.int .i64 0)) = .lit (.int .i64 cv) ∧ (cv = z ↔ (a, z) ∈ l) := by
  by_cases ha : a ∈ l.map Prod.fst
  · obtain ⟨⟨b, y⟩, hm, rfl⟩ := List.mem_map.1 ha
    refine ⟨y, h.at_ b y hm, fun e => by rw [← e]; exact hm, fun hm2 => ?_⟩
    have h1 := h.at_ b y hm
    have h2 := h.at_ b z hm2
    rw [h1] at h2
    injection h2 with h2
    injection h2
  · refine ⟨0, h.none ha, fun e => by omega, fun hm => absurd (List.mem_map.2 ⟨_, hm, rfl⟩) ha⟩
theorem parts_some {H : AuH} {n c : Nat} (HV : HeapV H n c) (ht : H.Tiled) : H.parts.length ≠ 0 := fun e => by
  have h := AuH.parts_contig HV ht
  rw [List.length_eq_zero_iff.1 e] at h
  have h1 := AuH.first_add (H := H) 0 (H.p : Nat)
  have h2 := pg_le HV
  have h3 := HV.nums
  have h4 : (H.pg : Int) = H.first H.p := h
  unfold AuH.first at h4
  have h5 : ((H.p : Int) + 1) * (H.pg : Int) = (H.p : Int) * H.pg + H.pg := by rw [Int.add_mul]; omega
  have h6 : 0 < (H.p : Int) * (H.pg : Int) := Int.mul_pos (by omega) (by omega)
  omega
theorem pkFits_no (t q s : Int) (A : Option Addr) (n c m : Nat) (A2 : Option Addr) (T c2 : Nat) (w : World) (hX : CheckIs w t q s A n c m false) :
    Calls Tryz.prog 7 #[.agg #[.int .i64 t, .int .i64 q, .int .i64 s], .slice A n c, .slice A2 T c2] w fun e w' => e = .returned (.bool false) ∧ Below w.heap.size w w' := by
  have HC := hidp (Held.new w 23 #[.int .i64 t, .int .i64 q, .int .i64 s])
  have HB := hidp (Bnew (B0 w) (.cells #[.int .i64 t, .int .i64 q, .int .i64 s] 23))
  obtain ⟨x0, x1, x2⟩ := HC.out.three
  have HX := hidp hX
  clear hX
  go_enter Tryz.func7, Tryz.ntmps7
  go_wp2_with fail
  refine (auPartsTop_no t q s A n c m _ (HX.out.grown HB.out)).mono ?_
  rintro e w2 ⟨rfl, hb⟩
  replace HB := hidp (Bgo HB.out hb)
  clear hb
  go_wp2
  go_ret
  exact ⟨rfl, HB.out⟩
theorem pkFits_other {H : AuH} {n c : Nat} (HV : HeapV H n c) (ht : H.Tiled) (ad : Addr) (m : Nat) (A2 : Option Addr) (T c2 : Nat) (hT2 : (T : Int) ≠ (H.t : Int)) (w : World) (hv : IsVals w ad n H.V) (hT : SlotsLaid w) (hX : CheckIs w H.t H.p H.s (some ad) n c m true) :
    Calls Tryz.prog 7 #[.agg #[.int .i64 (H.t : Int), .int .i64 (H.p : Int), .int .i64 (H.s : Int)], .slice (some ad) n c, .slice A2 T c2] w fun e w' => e = .returned (.bool false) ∧ Below w.heap.size w w' := by
  have HC := hidp (Held.new w 23 #[.int .i64 (H.t : Int), .int .i64 (H.p : Int), .int .i64 (H.s : Int)])
  have HB := hidp (Bnew (B0 w) (.cells #[.int .i64 (H.t : Int), .int .i64 (H.p : Int), .int .i64 (H.s : Int)] 23))
  obtain ⟨x0, x1, x2⟩ := HC.out.three
  have HVL := hidp hv
  have HT := hidp hT
  have HX := hidp hX
  obtain ⟨l, hl⟩ : ∃ l, H.parts = l := ⟨_, rfl⟩
  obtain ⟨nl, hnl⟩ : ∃ nl, l.length = nl := ⟨_, rfl⟩
  have HPL := hidp hl
  have HNL := hidp hnl
  have hn0 : nl ≠ 0 := by rw [← hnl, ← hl]; exact parts_some HV ht
  have t0 : ((nl : Int) == 0) = false := by rw [beq_eq_false_iff_ne]; omega
  have t0n : (nl == 0) = false := by rw [beq_eq_false_iff_ne]; exact hn0
  have t1 : ((T : Int) != (H.t : Int)) = true := bne_iff_ne.2 hT2
  clear hv hT hX hl hnl
  go_enter Tryz.func7, Tryz.ntmps7
  go_wp2_with fail
  refine (auPartsTop_yes HV ht ad m _ (HVL.out.below HB.out) (HT.out.below HB.out) (HX.out.grown HB.out)).mono ?_
  rintro e w2 ⟨u, rfl, ho, hb⟩
  rw [HPL.out, HNL.out] at ho
  obtain ⟨A1, c1, hu⟩ := own_slice ho
  subst hu
  have hcc := own_caps_any ho
  have hbase : w.heap.size + 1 ≤ w2.heap.size := by have := hb.size; simp at this; omega
  generalize (w.alloc (.cells #[.int .i64 (H.t : Int), .int .i64 (H.p : Int), .int .i64 (H.s : Int)] 23)).heap.size = w2b at ho
  have HO := hidp ho
  replace HC := hidp (HC.out.keep hb)
  replace HB := hidp (Bgo HB.out hb)
  clear ho hb
  clear x0 x1 x2
  obtain ⟨x0, x1, x2⟩ := HC.out.three
  go_wp2
  go_ret
  exact ⟨rfl, HB.out⟩

set_option maxHeartbeats 6400000 in
theorem pkFits_heap {H : AuH} {n c : Nat} (HV : HeapV H n c) (ht : H.Tiled) (ad : Addr) (m : Nat) (A2 : Option Addr) (c2 : Nat) (U : Nat → Nat → Sl) (Z : Nat → Nat → List Int) (hTc : H.t ≤ c2) (hc2 : c2 ≤ maxLen)
    (sz : Nat → Int) (hsz : ∀ k : Nat, k < 9 → ((sizeN (H.s : Int) (k : Int) : Nat) : Int) = sz k) (b : Bool) (hb : b = true ↔ FitsP H.parts sz H.t Z)
    (w : World) (hv : IsVals w ad n H.V) (hT : SlotsLaid w) (hX : CheckIs w H.t H.p H.s (some ad) n c m true) (hP : PksAt w A2 H.t U Z) :
    Calls Tryz.prog 7 #[.agg #[.int .i64 (H.t : Int), .int .i64 (H.p : Int), .int .i64 (H.s : Int)], .slice (some ad) n c, .slice A2 H.t c2] w fun e w' => e = .returned (.bool b) ∧ Below w.heap.size w w' := by
  have HC := hidp (Held.new w 23 #[.int .i64 (H.t : Int), .int .i64 (H.p : Int), .int .i64 (H.s : Int)])
  have HB := hidp (Bnew (B0 w) (.cells #[.int .i64 (H.t : Int), .int .i64 (H.p : Int), .int .i64 (H.s : Int)] 23))
  obtain ⟨x0, x1, x2⟩ := HC.out.three
  have HVL := hidp hv
  have HT := hidp hT
  have HX := hidp hX
  have HPP := hidp hP
  have hnums := HV.nums
  have hcon := AuH.parts_contig HV ht
  have hpg := pg_le HV
  have hpl := AuH.parts_len (H := H) H.p
  have HINJ : ∀ i j : Nat, i < 9 → j < 9 → sz i = sz j → i = j := fun i j hi hj e => by
    rw [← hsz i hi, ← hsz j hj] at e
    have := sizeN_inj (s := (H.s : Int)) (k := (i : Int)) (j := (j : Int)) (by omega) (by omega) (by omega) (by omega)
    omega
  have hcnt := fits_count (T := H.t) (Z := Z) hcon HINJ (fun x hx h4 => by
    obtain ⟨k, hk, e⟩ := part4_size HV x hx h4
    exact ⟨k, hk, by rw [e, hsz k hk]⟩)
  have HUP : Hid (∀ x ∈ H.parts, -9223372036854775808 ≤ x.2.1 ∧ x.2.1 ≤ 9223372036854775807 ∧ 1 ≤ x.2.2) := hidp (fun x hx => by
    have h1 := contig_up hcon x hx
    have h2 : H.first H.p ≤ 1025 * 1048576 := by
      unfold AuH.first
      exact Int.mul_le_mul (by omega) (by omega) (by omega) (by omega)
    omega)
  have hn0 := parts_some HV ht
  obtain ⟨l, hl⟩ : ∃ l, H.parts = l := ⟨_, rfl⟩
  have hpl2 : l.length ≤ 40000 := by rw [← hl]; unfold AuH.parts; omega
  rw [hl] at hcnt hb hn0 HUP
  obtain ⟨nl, hnl⟩ : ∃ nl, l.length = nl := ⟨_, rfl⟩
  rw [hnl] at hn0 hpl2
  have HPL := hidp hl
  have HNL := hidp hnl
  have HSZ := hidp hsz
  have HBB : Hid (b = true ↔ CountP l sz H.t Z) := hidp (hb.trans hcnt)
  have HBF : Hid (¬ CountP l sz H.t Z → b = false) := hidp (fun h => by
    cases b with
    | false => rfl
    | true => exact absurd (HBB.out.1 rfl) h)
  have t0 : ((nl : Int) == 0) = false := by rw [beq_eq_false_iff_ne]; omega
  have t0n : (nl == 0) = false := by rw [beq_eq_false_iff_ne]; exact hn0
  have t1 : ((H.t : Int) != (H.t : Int)) = false := by simp
  clear hv hT hX hP hb hcnt hsz hcon hpg hpl HINJ hl hnl
  go_enter Tryz.func7, Tryz.ntmps7
  go_wp2_with fail
  refine (auPartsTop_yes HV ht ad m _ (HVL.out.below HB.out) (HT.out.below HB.out) (HX.out.grown HB.out)).mono ?_
  rintro e w2 ⟨u, rfl, ho, hb⟩
  rw [HPL.out, HNL.out] at ho
  obtain ⟨A1, c1, hu⟩ := own_slice ho
  subst hu
  have hcc := own_caps_any ho
  have hbase : w.heap.size + 1 ≤ w2.heap.size := by have := hb.size; simp at this; omega
  generalize (w.alloc (.cells #[.int .i64 (H.t : Int), .int .i64 (H.p : Int), .int .i64 (H.s : Int)] 23)).heap.size = w2b at ho
  have HO := hidp ho
  replace HC := hidp (HC.out.keep hb)
  replace HB := hidp (Bgo HB.out hb)
  clear ho hb
  clear x0 x1 x2
  obtain ⟨x0, x1, x2⟩ := HC.out.three
  go_wp2_with fail
  refine (pkSizes_c (H.t : Int) (H.p : Int) (H.s : Int) (by omega) A2 H.t c2 U Z sz HSZ.out (by omega) hTc hc2 _ (HT.out.below HB.out) (HPP.out.below HB.out)).mono ?_
  rintro e w3 ⟨hh, hb⟩
  rcases hh with ⟨rfl, hno⟩ | ⟨D, rfl, hown, hI, hok⟩
  · have hf := HBF.out (fun h => hno ⟨h.few, h.once⟩)
    subst hf
    replace HB := hidp (Bgo HB.out hb)
    clear hb hno
    go_wp2
    go_ret
    exact ⟨rfl, HB.out⟩
  · obtain ⟨L, hL⟩ : ∃ L, allL sz Z H.t = L := ⟨_, rfl⟩
    rw [hL] at hown hI
    have HL := hidp hL
    have HI := hidp hI
    have HOK := hidp hok
    obtain ⟨g2, hg2⟩ : ∃ g2, w2.heap.size + 1 = g2 := ⟨_, rfl⟩
    rw [hg2] at hown ⊢
    obtain ⟨nn, hnn⟩ : ∃ nn, L.length = nn := ⟨_, rfl⟩
    rw [hnn] at hown
    have HNN := hidp hnn
    have HM := hidp hown
    replace HO := hidp (own_below HO.out hb)
    replace HB := hidp (Bgo HB.out hb)
    clear hb hL hown hI hok hnn x0 x1 x2 hg2
    go_wp2_with fail
    go_loopw [10, 36] (fun u10 u36 wr => ∃ i k : Nat, i ≤ nl ∧ u36 = .int .i64 (i : Int) ∧ u10 = .int .i64 (k : Int) ∧ k ≤ i ∧ Hid ((prt4 (l.take i)).length = k) ∧ Hid (∀ x ∈ prt4 (l.take i), x ∈ L) ∧ Hid (wr.ownsMap Tryz.prog 2 (plainElem (H := Unit) Tryz.prog 2) g2 nn D) ∧ Hid (wr.ownsRow w2b 43 3 (.slice A1 nl c1) nl (ptVs l)) ∧ Hid (Below w.heap.size w wr)) (fun _ u36 _ => nl - (intOf u36).toNat)
    case atStart => exact ⟨0, 0, by omega, rfl, rfl, by omega, hidp (by rw [List.take_zero]; rfl), hidp (fun x hx => by rw [List.take_zero] at hx; simp [prt4] at hx), HM, HO, HB⟩
    case round =>
      clear HM HO HB
      obtain ⟨i, k, hi, rfl, rfl, hki, HK, HIN, HM, HO, HB⟩ := hrel
      by_cases hlt : i < nl
      · obtain ⟨x, hx⟩ : ∃ x, l[i]? = some x := ⟨_, List.getElem?_eq_getElem (by rw [HNL.out]; exact hlt)⟩
        obtain ⟨gv, cv', hvv, hbv, hlv⟩ := HO.out.form (by omega)
        injection hvv with hvv hn0 hcc'
        subst hvv
        subst hcc'
        obtain ⟨p0, p1, p2⟩ := own_part HO.out HNL.out hx
        have HTK : Hid (l.take (i + 1) = l.take i ++ [x]) := hidp (by rw [List.take_add_one, hx]; rfl)
        have hxl := List.mem_of_getElem? hx
        have hxb := HUP.out x hxl
        obtain ⟨kd, a, z⟩ := x
        have t2 : decide ((i : Int) < nl) = true := decide_eq_true (by omega)
        clear hn0 hx
        simp only at p0 p1 p2 hxb
        have hM0 := HM.out.kept (row := none) (below_grown (Bnew (B0 wr) (.cells #[.int .i64 kd, .int .i64 a, .int .i64 z] 43))) (by simp)
        have HM0 := hidp hM0
        clear hM0
        by_cases h4 : kd = 4
        · subst h4
          have t3 : ((4 : Int) != 4) = false := rfl
          have hkey := kLong_of ⟨hxb.1, hxb.2.1⟩
          obtain ⟨cv, hat0, hiff⟩ := HI.out.look a z hxb.2.2
          have HIFF := hidp hiff
          have HPY : Hid (prt4 (l.take (i + 1)) = prt4 (l.take i) ++ [(a, z)]) := hidp (by rw [HTK.out, prt4_app, prt4_yes rfl])
          have HXL := hidp hxl
          clear hxb hiff hxl
          by_cases hz : cv = z
          · subst hz
            have t4 : ((cv : Int) != cv) = false := by simp
            go_wp2_with (first
              | (at_lookup; refine wpList_lookup_own_int _ rfl _ _ 39 rfl 2 2 .i64 longKey Tryz.underlying39 Tryz.underlying2 (zeroLong _) g2 nn D rfl HM0.out _ _ rfl hkey ?_
                 intro cc hat hwc
                 obtain rfl : cc = cv := by rw [hat0] at hat; injection hat with hat; injection hat with _ hat; exact hat.symm
                 clear hat hwc)
              | go_in)
            go_roundw
            case rel => exact ⟨i + 1, k + 1, by omega, by go_num, by go_num, by omega, hidp (by rw [HPY.out, List.length_append, HK.out]; rfl), hidp (fun y hy => by
              rw [HPY.out] at hy
              rcases List.mem_append.1 hy with hy | hy
              · exact HIN.out y hy
              · rw [List.mem_singleton] at hy; subst hy; exact HIFF.out.1 rfl), HM0, hidp (HO.out.alloc _), hidp (Bnew HB.out _)⟩
            case measure => simp [intOf]; omega
          · have t4 : ((cv : Int) != z) = true := bne_iff_ne.2 hz
            have hf := HBF.out (fun h => hz (HIFF.out.2 (by
              have := h.there (a, z) (mem_prt4.2 HXL.out)
              rw [HL.out] at this
              exact this)))
            subst hf
            go_wp2_with (first
              | (at_lookup; refine wpList_lookup_own_int _ rfl _ _ 39 rfl 2 2 .i64 longKey Tryz.underlying39 Tryz.underlying2 (zeroLong _) g2 nn D rfl HM0.out _ _ rfl hkey ?_
                 intro cc hat hwc
                 obtain rfl : cc = cv := by rw [hat0] at hat; injection hat with hat; injection hat with _ hat; exact hat.symm
                 clear hat hwc)
              | go_in)
            go_ret
            exact ⟨rfl, Bnew HB.out _⟩
        · have t3 : (kd != 4) = true := bne_iff_ne.2 h4
          have HPN : Hid (prt4 (l.take (i + 1)) = prt4 (l.take i)) := hidp (by rw [HTK.out, prt4_app, prt4_no h4, List.append_nil])
          clear hxb hxl h4
          go_wp2_with fail
          go_roundw
          case rel => exact ⟨i + 1, k, by omega, by go_num, by go_num, by omega, hidp (by rw [HPN.out]; exact HK.out), hidp (fun y hy => by rw [HPN.out] at hy; exact HIN.out y hy), HM0, hidp (HO.out.alloc _), hidp (Bnew HB.out _)⟩
          case measure => simp [intOf]; omega
      · obtain rfl : i = nl := by omega
        have t2 : decide ((i : Int) < (i : Int)) = false := decide_eq_false (by omega)
        have HE : Hid (l.take i = l) := hidp (List.take_of_length_le (by rw [HNL.out]; exact Nat.le_refl _))
        have hb : b = decide (nn = k) := by
          rw [Bool.eq_iff_iff, HBB.out, decide_eq_true_eq]
          have hk := HK.out
          have hin := HIN.out
          rw [HE.out] at hk hin
          have hl' := HL.out
          constructor
          · intro h
            have := h.all
            rw [hl', HNN.out, hk] at this
            exact this
          · intro h
            exact ⟨HOK.out.1, HOK.out.2, fun x hx => by rw [hl']; exact hin x hx, by rw [hl', HNN.out, hk]; exact h⟩
        have hsz : Maps.size D = nn := by rw [HI.out.size, HNN.out]
        have HSD := hidp hsz
        subst hb
        clear hsz
        go_wp2_with (first
          | (at_len; refine wpList_len_own _ rfl _ 39 rfl 2 2 Tryz.underlying39 _ g2 nn D rfl HM.out ?_; rw [HSD.out])
          | go_in)
        go_ret
        exact ⟨ret_bool (by rw [Bool.eq_iff_iff]; simp; omega), HB.out⟩
end
section
theorem pkV_zero (w : World) : PkV w zeroU (fun _ => []) := fun k hk => ⟨none, 0, rfl, Nat.le_refl _, Nat.zero_le _, fun z hz => by simp at hz, fun _ => ⟨rfl, rfl⟩, fun ad e => by cases e⟩
theorem cell_setP {w : World} {g : Nat} {p : Addr} (h : p.block ≠ g) (U : Nat → Sl) : (setP w g U).cell? p = w.cell? p := by
  unfold World.cell?
  rw [heap_setP h]
theorem PkV.setP {w : World} {g : Nat} {U V : Nat → Sl} {Z : Nat → List Int} (h : PkV w U Z) (hn : ∀ j, j < 9 → ∀ ad, (U j).a = some ad → Z j ≠ [] → ad.block ≠ g) : PkV (_root_.Go.Proofs.YtkbjckhbllmclaaGreatDoor.setP w g V) U Z := fun k hk => by
  obtain ⟨A, c, h1, h2, h3, h4, h5, h6⟩ := h k hk
  refine ⟨A, c, h1, h2, h3, h4, h5, fun ad e => ⟨fun hl => ?_, fun i z hz => ?_⟩⟩
  · have := (h6 ad e).1 hl
    unfold _root_.Go.Proofs.YtkbjckhbllmclaaGreatDoor.setP
    simpa using this
  · have hl : Z k ≠ [] := fun e => by rw [e] at hz; simp at hz
    have hU : (U k).a = some ad := by
      have : (Value.slice (U k).a (U k).n (U k).c) = .slice A (Z k).length c := h1
      injection this with this
      rw [this, e]
    rw [cell_setP (by rw [block_of_add]; exact hn k hk ad hU hl)]
    exact (h6 ad e).2 i z hz
set_option maxHeartbeats 3200000 in
theorem live17_c (w : World) (hT : SlotsLaid w) : Calls Tryz.prog 5 #[] w fun e w' => e = .returned (.bool true) ∧ Below w.heap.size w w' := by
  have HT := hidp hT
  clear hT
  go_enter Tryz.func5, Tryz.ntmps5
  go_wp2_with fail
  refine (pkPush_yes zeroU (fun _ => []) 3 1024 (by omega) (by omega) (Nat.zero_le _) _ HT.out (pkV_zero _)).mono ?_
  rintro e w1 ⟨x, rfl, hx, hV, hb⟩
  have hZ : (updF (fun _ => []) 3 ((fun _ => []) 3 ++ [1024]) : Nat → List Int) 3 = [1024] := updF_same _ _ _
  have hN : ∀ j, j < 9 → ∀ ad, ((updF zeroU 3 x) j).a = some ad → (updF (fun _ => []) 3 ((fun _ => []) 3 ++ [1024]) : Nat → List Int) j ≠ [] → ad.block ≠ w1.heap.size := fun j hj ad e hne hc => by
    obtain ⟨A, c, h1, _, _, _, _, h6⟩ := hV j hj
    have h7 : (Value.slice ((updF zeroU 3 x) j).a ((updF zeroU 3 x) j).n ((updF zeroU 3 x) j).c) = .slice A _ c := h1
    injection h7 with h7
    have := (h6 ad (by rw [← h7]; exact e)).1 hne
    omega
  generalize (updF (fun _ => []) 3 ((fun _ => []) 3 ++ [1024]) : Nat → List Int) = Z1 at *
  generalize updF zeroU 3 x = U1 at *
  have HV := hidp hV
  have HB := hidp hb
  have HZ := hidp hZ
  have HN := hidp hN
  have hge := hb.size
  clear hV hb hZ hx hN
  have HG := hidp (Held.new w1 31 (pkC U1))
  replace HB := hidp (Bnew HB.out (.cells (pkC U1) 31))
  obtain ⟨x0, x1, x2, x3, x4, x5, x6, x7, x8⟩ := HG.out.nineP
  go_wp2_with fail
  refine (pkLast_c U1 Z1 3 (by omega) (by omega) _ (HT.out.below HB.out) (HV.out.below (Bnew (B0 _) _))).mono ?_
  rintro e w2 ⟨rfl, hb⟩
  rw [show lastP Z1 3 = some 1024 from by unfold lastP; rw [if_pos (by omega)]; show (Z1 3).getLast? = _; rw [HZ.out]; rfl, show lastV (some 1024) = .tuple #[.int .i64 1024, .bool true] from rfl]
  replace HV := hidp ((HV.out.below (Bnew (B0 _) (.cells (pkC U1) 31))).below hb)
  replace HG := hidp (HG.out.keep hb)
  replace HB := hidp (Bgo HB.out hb)
  have hz1 : (Z1 3).length = 0 + 1 := by rw [HZ.out]; rfl
  have HL := hidp hz1
  generalize w1.heap.size = g at *
  clear hb hz1 HZ x0 x1 x2 x3 x4 x5 x6 x7 x8
  go_wp2_with fail
  go_loopw [5] (fun u5 wr => ∃ (i : Nat) (U : Nat → Sl) (Z : Nat → List Int), i ≤ 3 ∧ u5 = .int .i64 (i : Int) ∧ Hid (Held wr g 31 (pkC U)) ∧ Hid (PkV wr U Z) ∧ Hid (∀ j, j < 9 → ∀ ad, (U j).a = some ad → Z j ≠ [] → ad.block ≠ g) ∧ Hid ((Z 3).length = i + 1) ∧ Hid (Below w.heap.size w wr)) (fun u5 _ => 3 - (intOf u5).toNat)
  case atStart => exact ⟨0, U1, Z1, by omega, rfl, HG, HV, HN, HL, HB⟩
  case round =>
    clear HG HV HN HL HB
    obtain ⟨i, U, Z, hi, rfl, HG, HV, HN, HL, HB⟩ := hrel
    obtain ⟨x0, x1, x2, x3, x4, x5, x6, x7, x8⟩ := HG.out.nineP
    by_cases hlt : i < 3
    · have t0 : decide ((i : Int) < 3) = true := decide_eq_true (by omega)
      have t0n : decide (i < 3) = true := decide_eq_true hlt
      go_wp2_with fail
      refine (pkPush_yes U Z 3 1024 (by omega) (by omega) (by rw [HL.out]; omega) _ (HT.out.below HB.out) HV.out).mono ?_
      rintro e w3 ⟨x, rfl, hx, hV, hb⟩
      have hN2 : ∀ j, j < 9 → ∀ ad, ((updF U 3 x) j).a = some ad → (updF Z 3 (Z 3 ++ [1024])) j ≠ [] → ad.block ≠ g := fun j hj ad e hne => by
        by_cases hj3 : j = 3
        · subst hj3
          rw [updF_same] at e
          have h1 := hx ad e
          have h2 := HG.out.lt
          omega
        · rw [updF_other _ _ hj3] at e hne
          exact HN.out j hj ad e hne
      have hL2 : ((updF Z 3 (Z 3 ++ [1024])) 3).length = i + 1 + 1 := by rw [updF_same, List.length_append, HL.out]; rfl
      generalize updF Z 3 (Z 3 ++ [1024]) = Z2 at *
      generalize updF U 3 x = U2 at *
      have HG3 := hidp (HG.out.keep hb)
      have HB3 := hidp (Bgo HB.out hb)
      have HV3 := hidp hV
      have HN3 := hidp hN2
      have HL3 := hidp hL2
      clear hb hV hN2 hL2 hx HG HV HN HL HB x0 x1 x2 x3 x4 x5 x6 x7 x8
      obtain ⟨z0, z1, z2, z3, z4, z5, z6, z7, z8⟩ := HG3.out.nineP
      obtain ⟨f0, f1, f2, f3, f4, f5, f6, f7, f8⟩ := HG3.out.thawP
      go_wp2_with fail
      obtain ⟨WF, hWF⟩ : ∃ WF, setP w3 g U2 = WF := ⟨_, rfl⟩
      have zz := hidp (Held.setP HG3.out U2)
      have hBF := hidp (below_setP (g := g) HB3.out hge U2)
      have hVF := hidp (PkV.setP (V := U2) HV3.out HN3.out)
      rw [hWF] at zz hBF hVF
      unfold setP at hWF
      rw [hWF]
      clear z0 z1 z2 z3 z4 z5 z6 z7 z8 f0 f1 f2 f3 f4 f5 f6 f7 f8 hWF
      go_roundw
      case rel => exact ⟨i + 1, U2, Z2, by omega, by go_num, zz, hVF, HN3, HL3, hBF⟩
      case measure => simp [intOf]; omega
    · obtain rfl : i = 3 := by omega
      go_wp2_with fail
      refine (pkPush_no U Z 3 1024 (by omega) (by omega) _ (HT.out.below HB.out) HV.out (.inr (.inr (by show 3 < (Z 3).length; rw [HL.out]; omega)))).mono ?_
      rintro e w3 ⟨rfl, hb⟩
      replace HB := hidp (Bgo HB.out hb)
      clear hb
      go_wp2
      go_ret
      exact ⟨rfl, Bnew HB.out _⟩
end
end Go.Proofs.YtkbjckhbllmclaaGreatDoor

namespace Go.Proofs.YtkbjckhbllmclaaGreatDoor
open Go.ChangeShapes Go.WideShapes Go.ChangeAt Go.RowKit
set_option linter.unusedVariables false
set_option maxRecDepth 100000
section
section
variable {H : Type} {enc : TypeId × Value → H} {P : Program} {w : World} {base : Nat} {sp : Nat → Bool} {held : Bool}
theorem open_vals {t e : TypeId} {v : Value} {d : DataW H} {p : List MemPlace} (ht : P.underlying t = some (.slice e)) (he : P.underlying e = some (.int .u32)) (hc : P.cellsOf e = 1)
    {r : Reach} {b0 : Nat} (hval : Value.okWide P w r b0 t v) (h : DataW.Trod enc P w base sp held t v d p) (hlt : ∀ x ∈ p, x.block < w.heap.size) :
    ∃ (A : Option Addr) (c : Nat) (ws : List Nat), v = .slice A ws.length c ∧ ws.length ≤ c ∧ c ≤ maxLen ∧ (∀ x ∈ ws, x < 2 ^ 32) ∧ Reads w w.heap.size 1 A ws.length (valVs ws) := by
  obtain ⟨fuel, hf⟩ := h
  have hv : v.cells = #[v] := by
    obtain ⟨A, n, c, rfl⟩ := okWide_slice ht hval
    rfl
  rw [hv] at hf
  rcases open_ints ht he hc hf with ⟨hcs, _⟩ | ⟨a, len, cap, zs, hcs, hb, hl, hm, hz, hx, hcell, hwf⟩
  · injection hcs with hcs
    subst hcs
    exact ⟨none, 0, [], rfl, Nat.le_refl _, Nat.zero_le _, by simp, Reads.none_⟩
  · injection hcs with hcs
    subst hcs
    have hlz : len ≤ zs.length := by rw [hz]; split <;> omega
    have hlen : ((zs.take len).map Int.toNat).length = len := by simp; omega
    refine ⟨some a, cap, (zs.take len).map Int.toNat, by rw [hlen], by rw [hlen]; exact hl, hm, ?_, ?_⟩
    · intro x hx
      obtain ⟨z, hz1, rfl⟩ := List.mem_map.1 hx
      obtain ⟨n, rfl, hn⟩ := u32_nat (hwf z (List.mem_of_mem_take hz1))
      simpa using hn
    · refine ⟨by rw [valVs_len]; omega, fun hn => ?_⟩
      rw [hlen] at hn
      refine ⟨a, rfl, ?_, fun j u hu => ?_⟩
      · have hp : (p : List MemPlace) = MemPlace.row a zs.length := by
          have := congrArg Prod.snd hx
          simpa using this
        have h0 : MemPlace.cell a.block a.off ∈ p ∨ (∃ x ∈ p, x.block = a.block) := by
          right
          rw [hp]
          refine ⟨(MemPlace.row a zs.length)[0]'(by simp [MemPlace.row]; omega), List.getElem_mem _, ?_⟩
          simp [MemPlace.row, MemPlace.block]
        rcases h0 with h0 | ⟨x, hx1, hx2⟩
        · exact hlt _ h0
        · rw [← hx2]; exact hlt x hx1
      · unfold valVs at hu
        rw [List.map_map] at hu
        have hj : j < len := by
          rcases Nat.lt_or_ge j len with h1 | h1
          · exact h1
          · rw [List.getElem?_eq_none (by simp; omega)] at hu; cases hu
        rw [List.getElem?_map, List.getElem?_take_of_lt hj, List.getElem?_eq_getElem (by omega)] at hu
        simp only [Option.map_some, Option.some.injEq, Function.comp_apply] at hu
        subst hu
        rw [hcell j (by omega)]
        have hw := hwf zs[j] (List.getElem_mem _)
        obtain ⟨n, hn1, _⟩ := u32_nat hw
        have : (zs.getD j 0) = zs[j] := by simp [List.getD, List.getElem?_eq_getElem (show j < zs.length by omega)]
        rw [this, hn1]
        simp
end
end
end Go.Proofs.YtkbjckhbllmclaaGreatDoor

namespace Go.Proofs.YtkbjckhbllmclaaGreatDoor
open Go.ChangeShapes Go.WideShapes Go.ChangeAt Go.RowKit
set_option linter.unusedVariables false
section
theorem heap13_of (W : World) (t q s : Int) (A : Option Addr) (c : Nat) (vals : List Nat) (hnc : vals.length ≤ c) (hcm : c ≤ maxLen) (h32 : ∀ x ∈ vals, x < 2 ^ 32) (hR : Reads W W.heap.size 1 A vals.length (valVs vals)) (h : lC t q s ≠ 0 ∧ (vals.length : Int) = lC t q s) :
    ∃ (H : AuH) (ad : Addr), t = H.t ∧ q = H.p ∧ s = H.s ∧ A = some ad ∧ (∀ i, H.V i = vals.getD i 0) ∧ HeapV H vals.length c ∧ IsVals W ad vals.length H.V := by
  cases hr : rightB t q s
  · exact absurd (lay_no hr).5 h.1
  · have hn := (rightB_iff t q s).1 hr
    have hl := (lay_yes hr).5
    have hlen : 0 < vals.length := by have := h.2; rw [hl] at this; omega
    obtain ⟨ad, rfl, hb, hc⟩ := hR.2 hlen
    have hx : ∀ i, i < vals.length → vals[i]? = some (vals.getD i 0) := fun i hi => by simp [List.getD, List.getElem?_eq_getElem hi]
    refine ⟨⟨t.toNat, q.toNat, s.toNat, fun i => vals.getD i 0⟩, ad, by show t = _; simp; omega, by show q = _; simp; omega, by show s = _; simp; omega, rfl, fun i => rfl, ⟨?_, ?_, hnc, hcm, fun i hi => ?_⟩, hb, fun i hi => ?_⟩
    · show rightB ((t.toNat : Nat) : Int) ((q.toNat : Nat) : Int) ((s.toNat : Nat) : Int) = true
      rw [show ((t.toNat : Nat) : Int) = t by omega, show ((q.toNat : Nat) : Int) = q by omega, show ((s.toNat : Nat) : Int) = s by omega]
      exact hr
    · show vals.length = 30 + 4 * t.toNat + 6 * q.toNat
      have := h.2
      rw [hl] at this
      omega
    · exact h32 _ (List.mem_of_getElem? (hx i hi))
    · refine hc i _ ?_
      unfold valVs
      rw [List.getElem?_map, hx i hi]
      rfl
end
end Go.Proofs.YtkbjckhbllmclaaGreatDoor
