/-
  What the program's small functions of words do (package redo): areOf, isMaker, isCell, entriesOf, cellsOf; a copy of words; whether one of them is later than a stamp. Written by redo/gen_prog.py.
-/
import Derived.Test.YtmjkljdnioochaaA03
import Derived.Test.YtmjkljdnioochaaA02
import Derived.Test.YtmjkljdnioochaaA01
import Derived.Lib.SliceRun
import Derived.Laws.Slices
import Derived.Deep.RegionHeld3
import Derived.IntWalk
import Derived.KernelRfl
import Derived.RangeFuncNested
import Derived.RangeFuncBound
import Derived.RangeFuncLeaves
import Derived.Shelf.Abstract
import Derived.Shelf.RegionOpen
import Derived.WalkKit
import Derived.OwnWalkIn
import Derived.TacticsInMore
import Derived.LoopNIn
import Derived.LoopIn
import Derived.RegionTactic
import Derived.ChangeAlike
import Derived.BigQuiet
import Derived.Test.YtmjkljdnioochaaAKit
import Derived.Laws.BitsAllLaws
import Derived.Laws.CopyOwn
import Derived.Laws.MakeOwn
import Derived.Deep.RegionLaw
import Derived.Deep.AppendLies
import Derived.Below
namespace Go.Proofs.Ytmjkljdnioochaa
open Go.ChangeShapes Go.WideShapes Go.ChangeAt Go.RowKit Go.Maps
set_option linter.unusedVariables false
set_option linter.unusedSimpArgs false
set_option maxRecDepth 100000
section
theorem rdAre_c (t p s : Int) (A : Option Addr) (m c : Nat) (b : Bool) (hb : okW t p s m = b) (w : World) :
  Calls Try.prog 22 #[.agg #[.int .i64 t, .int .i64 p, .int .i64 s], .slice A m c] w fun e w' => e = .returned (.bool b) /\ Below w.heap.size w w' := by
 have HC := hidp (Held.new w 23 #[.int .i64 t, .int .i64 p, .int .i64 s])
 have HB := hidp (Bnew (B0 w) (.cells #[.int .i64 t, .int .i64 p, .int .i64 s] 23))
 obtain ⟨x0, x1, x2⟩ := HC.out.three
 have hwb := words_bounds t p s
 obtain ⟨y, hy⟩ : ∃ y, lW t p s = y := ⟨_, rfl⟩
 rw [hy] at hwb
 have HY := hidp hy
 by_cases h0 : 0 < y
 ·have q0 : decide ((0 : Int) < y) = true := decide_eq_true h0
  have q1 : ((m : Int) == y) = b := by
   rw [<- hb]
   unfold okW
   rw [hy]
   by_cases h : (m : Int) = y
   ·rw [decide_eq_true ⟨by omega, h⟩]; simpa using h
   ·rw [decide_eq_false (fun x => h x.2)]; simpa using h
  clear hy hb hwb h0
  go_enter Try.func22, Try.ntmps22
  go_wp2_with fail
  refine (plWords_c t p s _).mono ?_
  rintro e w1 ⟨rfl, hb⟩
  rw [HY.out]
  replace HB := hidp (Bgo HB.out hb)
  clear hb
  go_wp2
  go_ret
  exact ⟨rfl, HB.out⟩
 ·have q0 : decide ((0 : Int) < y) = false := decide_eq_false h0
  obtain rfl : b = false := by rw [<- hb]; exact decide_eq_false (fun h => by omega)
  clear hy hb hwb h0
  go_enter Try.func22, Try.ntmps22
  go_wp2_with fail
  refine (plWords_c t p s _).mono ?_
  rintro e w1 ⟨rfl, hb⟩
  rw [HY.out]
  replace HB := hidp (Bgo HB.out hb)
  clear hb
  go_wp2
  go_ret
  exact ⟨rfl, HB.out⟩

theorem rdMaker_c (t p s u : Int) (b : Bool) (hb : decide (0 <= u /\ u <= t) = b) (w : World) :
  Calls Try.prog 23 #[.agg #[.int .i64 t, .int .i64 p, .int .i64 s], .int .i64 u] w fun e w' => e = .returned (.bool b) /\ Below w.heap.size w w' := by
 have HC := hidp (Held.new w 23 #[.int .i64 t, .int .i64 p, .int .i64 s])
 have HB := hidp (Bnew (B0 w) (.cells #[.int .i64 t, .int .i64 p, .int .i64 s] 23))
 obtain ⟨x0, x1, x2⟩ := HC.out.three
 by_cases h0 : 0 <= u
 ·have q0 : decide (0 <= u) = true := decide_eq_true h0
  have q1 : decide (u <= t) = b := by
   rw [<- hb]
   by_cases h : u <= t
   ·rw [decide_eq_true h, decide_eq_true ⟨h0, h⟩]
   ·rw [decide_eq_false h, decide_eq_false (fun x => h x.2)]
  clear hb h0
  go_enter Try.func23, Try.ntmps23
  go_wp2
  go_ret
  exact ⟨rfl, HB.out⟩
 ·have q0 : decide (0 <= u) = false := decide_eq_false h0
  obtain rfl : b = false := by rw [<- hb]; exact decide_eq_false (fun h => h0 h.1)
  clear hb h0
  go_enter Try.func23, Try.ntmps23
  go_wp2
  go_ret
  exact ⟨rfl, HB.out⟩

theorem rdCell_c (t p s i : Int) (b : Bool) (hb : decide (0 <= wordI t p s i) = b) (w : World) :
  Calls Try.prog 28 #[.agg #[.int .i64 t, .int .i64 p, .int .i64 s], .int .i64 i] w fun e w' => e = .returned (.bool b) /\ Below w.heap.size w w' := by
 have HC := hidp (Held.new w 23 #[.int .i64 t, .int .i64 p, .int .i64 s])
 have HB := hidp (Bnew (B0 w) (.cells #[.int .i64 t, .int .i64 p, .int .i64 s] 23))
 obtain ⟨x0, x1, x2⟩ := HC.out.three
 obtain ⟨y, hy⟩ : ∃ y, wordI t p s i = y := ⟨_, rfl⟩
 rw [hy] at hb
 have HY := hidp hy
 clear hy
 go_enter Try.func28, Try.ntmps28
 go_wp2_with fail
 refine (plWord_c t p s i _).mono ?_
 rintro e w1 ⟨rfl, hb⟩
 rw [HY.out]
 replace HB := hidp (Bgo HB.out hb)
 clear hb
 go_wp2
 go_ret
 exact ⟨rfl, HB.out⟩
theorem word_is {t p s n : Nat} (hr : rightB t p s = true) (hn : rdN t p = n) (i : Int) : decide (0 <= wordI (t : Int) (p : Int) (s : Int) i) = decide (0 <= i /\ i < (n : Int)) := by
 unfold wordI
 rw [rdN_eq hr, hn]
 by_cases h : 0 <= i /\ i < (n : Int)
 ·rw [nth_on (by omega) h.1 h.2, decide_eq_true h]
  exact decide_eq_true (by omega)
 ·rw [nth_off (by omega), decide_eq_false h]
  rfl

def cutA (ad : Addr) (a k : Nat) : Addr := if k = 0 then ad else ad.add a
theorem cutA_some {ad : Addr} {a k : Nat} (h : ¬ k = 0) : cutA ad a k = ad.add a := if_neg h
theorem cutA_mid {ad : Addr} {a k n : Nat} (h : ¬ k = 0) (ha : ¬ a = 0) (hn : n = a + k) : Value.slice (some ⟨ad.block, ad.off + a, none⟩) (n - a) (n - a) = .slice (some (cutA ad a k)) k k := by
 rw [cutA_some h, hn, Nat.add_sub_cancel_left]
 unfold Addr.add
 rw [if_neg ha]
theorem cutA_mid2 {ad : Addr} {a k n : Nat} (h : ¬ k = 0) (hn : n = a + k) : Value.slice (some (ad.add a)) (n - a) (n - a) = .slice (some (cutA ad a k)) k k := by
 rw [cutA_some h, hn, Nat.add_sub_cancel_left]
theorem WV.cut {w : World} {ad : Addr} {m c a k : Nat} {f : Nat -> Nat} (h : WV w (some ad) m c f) (hk : a + k <= m) : WV w (some (cutA ad a k)) k k (fun i => f (a + i)) :=
 ⟨Nat.le_refl _, by have := h.le; have := h.max; omega, fun i hi => h.lt _ (by omega), fun i hi => by
  obtain ⟨ad', e, h1, h2⟩ := h.cell (a + i) (by omega)
  injection e with e
  subst e
  refine ⟨_, rfl, ?_, ?_⟩
  ·unfold cutA
   rw [if_neg (by omega), block_of_add]
   exact h1
  ·unfold cutA
   rw [if_neg (by omega), add_of_add]
   exact h2⟩
section
variable {t p s u m c : Nat} {ad : Addr} {w : World}
theorem rdEntries_c (k : Nat) (hok : okW (t : Int) (p : Int) (s : Int) m = true) (hu : u <= t) (hk : k <= 96) (hc : m <= c) (hcx : c <= maxLen) :
  Calls Try.prog 26 #[.agg #[.int .i64 (t : Int), .int .i64 (p : Int), .int .i64 (s : Int)], .slice (some ad) m c, .int .i64 (u : Int), .int .i64 (k : Int)] w fun e w' => e = .returned (.slice (some (cutA ad (rdL t p u 0) k)) k k) /\ Below w.heap.size w w' := by
 obtain ⟨hr, hm0, hmw, hm8⟩ := okW_right hok
 rw [rdW_eq hr] at hmw
 have hcm : c <= 9223372036854775807 := hcx
 have HL : Hid (logI (t : Int) (p : Int) (s : Int) (u : Int) 0 = (rdL t p u 0 : Int)) := hidp (by have := rdL_eq (i := 0) hr hu (by omega); exact this)
 obtain ⟨a, ha⟩ : ∃ a, rdL t p u 0 = a := ⟨_, rfl⟩
 have hak : a + k <= m := by
  rw [<- ha]
  have hMW : rdW t p = rdM t p + (t + 1) * 120 := rfl
  have hLL : rdL t p u 0 = rdM t p + u * 120 + 24 := rfl
  have := Nat.mul_le_mul_right 120 hu
  omega
 rw [ha] at HL
 rw [ha]
 have i2 : IntKind.i64.wrap ((a : Int) + (k : Int)) = ((a + k : Nat) : Int) := i64_same (by omega) (by omega)
 have HC := hidp (Held.new w 23 #[.int .i64 (t : Int), .int .i64 (p : Int), .int .i64 (s : Int)])
 have HB := hidp (Bnew (B0 w) (.cells #[.int .i64 (t : Int), .int .i64 (p : Int), .int .i64 (s : Int)] 23))
 obtain ⟨x0, x1, x2⟩ := HC.out.three
 clear hok hr hmw ha hu hk
 rcases Nat.eq_zero_or_pos k with hk0 | hk0
 ·subst hk0
  go_enter Try.func26, Try.ntmps26
  go_wp2_with fail
  refine (plLog_c t p s u 0 _).mono ?_
  rintro e w1 ⟨rfl, hb⟩
  rw [HL.out]
  replace HB := hidp (Bgo HB.out hb)
  clear hb
  go_wp2
  go_ret
  exact ⟨rfl, HB.out⟩
 ·have hne : ¬ k = 0 := by omega
  go_enter Try.func26, Try.ntmps26
  go_wp2_with fail
  refine (plLog_c t p s u 0 _).mono ?_
  rintro e w1 ⟨rfl, hb⟩
  rw [HL.out]
  replace HB := hidp (Bgo HB.out hb)
  clear hb
  go_wp2
  go_ret
  exact ⟨congrArg Ending.returned (by first | exact cutA_mid2 hne rfl | exact cutA_mid hne (by omega) rfl), HB.out⟩

theorem rdCells_c (n : Nat) (hn : rdN t p = n) (hok : okW (t : Int) (p : Int) (s : Int) m = true) (hc : m <= c) (hcx : c <= maxLen) :
  Calls Try.prog 39 #[.agg #[.int .i64 (t : Int), .int .i64 (p : Int), .int .i64 (s : Int)], .slice (some ad) m c] w fun e w' => e = .returned (.slice (some (cutA ad 16 n)) n n) /\ Below w.heap.size w w' := by
 obtain ⟨hr, hm0, hmw, hm8⟩ := okW_right hok
 rw [rdW_eq hr] at hmw
 have hcm : c <= 9223372036854775807 := hcx
 have hM := rdM_lt t p
 have hWW : rdM t p <= rdW t p := by unfold rdW; omega
 have hNN : rdN t p = 30 + 4 * t + 6 * p := rfl
 have HNC : Hid (lC (t : Int) (p : Int) (s : Int) = (n : Int)) := hidp (by rw [rdN_eq hr, hn])
 have HW0 : Hid (wordI (t : Int) (p : Int) (s : Int) 0 = 16) := hidp (by
  unfold wordI
  rw [HNC.out, nth_on (by omega) (by omega) (by omega)]
  rfl)
 have hnm : 16 + n <= m := by omega
 have hn0 : ¬ n = 0 := by omega
 have i2 : IntKind.i64.wrap ((16 : Int) + (n : Int)) = ((16 + n : Nat) : Int) := i64_same (by omega) (by omega)
 have HC := hidp (Held.new w 23 #[.int .i64 (t : Int), .int .i64 (p : Int), .int .i64 (s : Int)])
 have HB := hidp (Bnew (B0 w) (.cells #[.int .i64 (t : Int), .int .i64 (p : Int), .int .i64 (s : Int)] 23))
 obtain ⟨x0, x1, x2⟩ := HC.out.three
 clear hok hr hmw hn hM hWW hNN
 go_enter Try.func39, Try.ntmps39
 go_wp2_with fail
 have hb := Bdrew (B0 (w.alloc (.cells #[.int .i64 (t : Int), .int .i64 (p : Int), .int .i64 (s : Int)] 23)))
 replace HC := hidp (HC.out.keep hb)
 replace HB := hidp (Bgo HB.out hb)
 clear hb
 refine wp_region_held_drew (S := (fun w' => w'.cell? ⟨w.heap.size, 0, none⟩ = some (.int .i64 (t : Int)) /\ w'.cell? ⟨w.heap.size, 1, none⟩ = some (.int .i64 (p : Int)) /\ w'.cell? ⟨w.heap.size, 2, none⟩ = some (.int .i64 (s : Int)))) (by kernel_rfl) ?_ (fun hHeld => ?_)
 ·(try dsimp only)
  first | exact HC.out.three | exact hHeld
 refine tkz 0 ?_
 refine tkz 2 ?_
 refine rdz 1 fun K hK => ?_
 go_simp
 refine (plWord_c t p s 0 _).mono ?_
 rintro e w7 ⟨rfl, hb⟩
 rw [HW0.out]
 replace HC := hidp (HC.out.keep hb)
 replace HB := hidp (Bgo HB.out hb)
 clear hb
 refine hK.out _ _ ?_ (fun hHeld => ?_)
 ·(try dsimp only)
  first | exact HC.out.three | exact hHeld
 clear hK K
 (try simp only [Act.put, gA, gB, gC, sA, sB, sC])
 refine rdz 3 fun K hK => ?_
 go_simp
 refine (plCells_c t p s _).mono ?_
 rintro e w7 ⟨rfl, hb⟩
 rw [HNC.out]
 replace HC := hidp (HC.out.keep hb)
 replace HB := hidp (Bgo HB.out hb)
 clear hb
 refine hK.out _ _ ?_ (fun hHeld => ?_)
 ·(try dsimp only)
  first | exact HC.out.three | exact hHeld
 clear hK K
 (try simp only [Act.put, gA, gB, gC, sA, sB, sC])
 refine tkz 4 ?_
 refine tkz 5 ?_
 refine dnz ?_
 go_wp2
 go_ret
 exact ⟨congrArg Ending.returned (cutA_mid hn0 (by omega) rfl), HB.out⟩
end

theorem rdClone_c {w : World} {ad : Addr} {m c : Nat} {f : Nat -> Nat} (hm : 0 < m) (hmx : m <= 1000000) (hW : WV w (some ad) m c f) :
  Calls Try.prog 35 #[.slice (some ad) m c] w fun e w' => ∃ g cap, e = .returned (.slice (some ⟨g, 0, none⟩) m cap) /\ w.heap.size <= g /\ RowF w' g 46 m cap (wrdF f) /\ Below w.heap.size w w' := by
 have HW := hidp hW
 have q22 : ∀ (w : World) (a : Option Addr) (n c n' c' : Nat), (binOp .eql 24 (.slice a n c) (.slice none n' c')).run Try.prog w = .ok (.bool a.isNone) w := fun w a n c n' c' => Lib.run_eql_slice_nil w _ _ a n c n' c' Try.underlying24
 clear hW
 go_enter Try.func35, Try.ntmps35
 go_wp2_with (first
  | (at_builtin; refine wpList_copy_words (w := w) rfl _ _ rfl rfl (some ad) m c f hm hmx rfl HW.out ?_; intro g cg w2 hg2 HRW HB2)
  | fail)
 go_wp2
 go_ret
 exact ⟨g, cg, rfl, hg2, HRW.out, HB2.out⟩

theorem rdLater_c {w : World} {g x st : Nat} (hx : x < 2 ^ 64) (b : Bool) (hb : decide (st < stI x) = b) (hG : Held w g 25 #[.int .u32 (st : Int)]) :
  Calls Try.prog 64 #[.int .u64 (x : Int), .pointer (some ⟨g, 0, none⟩)] w fun e w' => e = .returned (.bool b) /\ Below w.heap.size w w' := by
 obtain ⟨ys, hys⟩ : ∃ z, x / 4294967296 = z := ⟨_, rfl⟩
 have HYS := hidp hys
 have hb : decide (st < ys) = b := by rw [<- hb]; unfold stI; rw [hys]
 have hbi : decide ((st : Int) < (ys : Int)) = b := by rw [<- hb]; exact decide_eq_decide.2 (by omega)
 have HG := hidp hG
 have HB := hidp (B0 w)
 clear hys hG
 go_enter Try.func64, Try.ntmps64
 go_wp2_with fail
 replace HG := hidp (HG.out.keep (Bdrew (B0 w)))
 replace HB := hidp (Bgo HB.out (Bdrew (B0 w)))
 refine wp_region_held_drew (S := (fun w' => w'.cell? ⟨g, 0, none⟩ = some (.int .u32 (st : Int)))) (by kernel_rfl) ?_ (fun hHeld => ?_)
 ·(try dsimp only)
  first | exact HG.out.cell 0 | exact hHeld
 refine tkz 0 ?_
 refine tkz 2 ?_
 refine rdz 1 fun K hK => ?_
 go_simp
 refine (mkStamp_c x hx _).mono ?_
 rintro e w7 ⟨rfl, rfl⟩
 rw [HYS.out]
 refine hK.out _ _ ?_ (fun hHeld => ?_)
 ·(try dsimp only)
  first | exact HG.out.cell 0 | exact hHeld
 clear hK K
 (try simp only [Act.put, gA, gB, gC, sA, sB, sC])
 refine tkz 3 ?_
 refine tkz 4 ?_
 refine dnz ?_
 go_wp2
 go_ret
 exact ⟨rfl, HB.out⟩
set_option maxHeartbeats 1600000 in
theorem rdIndex_c {w : World} {g st n c : Nat} {ad : Addr} {f : Nat -> Nat} (hn : n <= 65536) (hW : WV w (some ad) n c f) (hG : Held w g 25 #[.int .u32 (st : Int)]) :
  Calls Try.prog 79 #[.slice (some ad) n c, .func (.func 64) #[] #[.pointer (some ⟨g, 0, none⟩)]] w fun e w' => (∃ i : Int, e = .returned (.int .i64 i) /\ -1 <= i /\ (i = -1 ↔ ∀ k, k < n -> stI (f k) <= st)) /\ Below w.heap.size w w' := by
 have HW := hidp hW
 have HG := hidp hG
 have HB := hidp (B0 w)
 have hcm : c <= 9223372036854775807 := hW.max
 clear hW hG
 go_enter Try.func79, Try.ntmps79
 go_wp2_with fail
 go_loopw [5, 8] (fun u5 u8 wr => ∃ j : Nat, j <= n /\ u8 = .int .i64 (j : Int) /\ Hid (∀ k, k < j -> stI (f k) <= st) /\ Hid (Held wr g 25 #[.int .u32 (st : Int)]) /\ Hid (WV wr (some ad) n c f) /\ Hid (Below w.heap.size w wr)) (fun _ u8 _ => n - (intOf u8).toNat)
 case atStart => exact ⟨0, by omega, rfl, hidp (fun k hk => by omega), HG, HW, HB⟩
 case round =>
  clear HG HW HB
  obtain ⟨j, hj, rfl, HLO, HG, HW, HB⟩ := hrel
  by_cases hlt : j < n
  ·have t1 : decide ((j : Int) < (n : Int)) = true := decide_eq_true (by omega)
   have t1n : decide (j < n) = true := decide_eq_true hlt
   obtain ⟨y, hy⟩ : ∃ y, f j = y := ⟨_, rfl⟩
   have hy64 : y < 2 ^ 64 := by rw [<- hy]; exact HW.out.lt _ hlt
   have cx : wr.cell? (ad.add j) = some (.int .u64 (y : Int)) := by
    obtain ⟨ad', e, _, h2⟩ := HW.out.cell j hlt
    injection e with e
    subst e
    rw [hy] at h2
    exact h2
   have i1 : (j : Int) < (n : Int) := by omega
   obtain ⟨b, hb⟩ : ∃ b, decide (st < stI y) = b := ⟨_, rfl⟩
   have HBB := hidp hb
   have HY := hidp hy
   clear hy hb
   go_wp2_with fail
   refine (rdLater_c hy64 b HBB.out HG.out).mono ?_
   rintro e w4 ⟨rfl, hb⟩
   replace HG := hidp (HG.out.keep hb)
   replace HW := hidp (HW.out.below hb)
   replace HB := hidp (Bgo HB.out hb)
   clear hb cx
   cases b with
   | true =>
    have HNO : Hid (¬ ∀ k, k < n -> stI (f k) <= st) := hidp (fun h => by have h1 := h j hlt; rw [HY.out] at h1; have := of_decide_eq_true HBB.out; omega)
    go_wp2
    go_ret
    exact ⟨⟨_, rfl, by omega, ⟨fun h => by omega, fun h => absurd h HNO.out⟩⟩, HB.out⟩
   | false =>
    have HL1 : Hid (∀ k, k < j + 1 -> stI (f k) <= st) := hidp (fun k hk => by
     rcases Nat.lt_or_ge k j with h | h
     ·exact HLO.out k h
     ·obtain rfl : k = j := by omega
      rw [HY.out]
      have := of_decide_eq_false HBB.out
      omega)
    go_wp2
    go_roundw
    case rel => exact ⟨j + 1, by omega, by go_num, HL1, HG, HW, HB⟩
    case measure => simp [intOf]; omega
  ·have t1 : decide ((j : Int) < (n : Int)) = false := decide_eq_false (by omega)
   have t1n : decide (j < n) = false := decide_eq_false hlt
   obtain rfl : j = n := by omega
   go_wp2
   go_ret
   exact ⟨⟨_, rfl, by omega, ⟨fun _ => HLO.out, fun _ => rfl⟩⟩, HB.out⟩

theorem rdHas_c {w : World} {g st n c : Nat} {ad : Addr} {f : Nat -> Nat} (b : Bool) (hn : n <= 65536) (hb : (∀ k, k < n -> stI (f k) <= st) ↔ b = false) (hW : WV w (some ad) n c f) (hG : Held w g 25 #[.int .u32 (st : Int)]) :
  Calls Try.prog 66 #[.slice (some ad) n c, .func (.func 64) #[] #[.pointer (some ⟨g, 0, none⟩)]] w fun e w' => e = .returned (.bool b) /\ Below w.heap.size w w' := by
 have HBB := hidp hb
 have HB := hidp (B0 w)
 clear hb
 go_enter Try.func66, Try.ntmps66
 go_wp2_with fail
 refine (rdIndex_c hn hW hG).mono ?_
 rintro e w4 ⟨⟨i, rfl, h1, h2⟩, hb⟩
 replace HB := hidp (Bgo HB.out hb)
 have q0 : decide (0 <= i) = b := by
  cases b with
  | true => exact decide_eq_true (by have := (fun h => HBB.out.1 (h2.1 h)); have h3 : i ≠ -1 := (fun h => by cases this h); omega)
  | false => exact decide_eq_false (by have := h2.2 (HBB.out.2 rfl); omega)
 clear hb h2
 go_wp2
 go_ret
 exact ⟨rfl, HB.out⟩
end
section
def preR (t p : Nat) (f : Nat -> Nat) : Option (Nat × Nat) :=
 if f 8 % 4294967296 <= 16 /\ f 8 % 4294967296 <= t /\ lowB (stI (f 8)) f (rdN t p) then some (stI (f 8), f 8 % 4294967296) else none
def preV (X : Option (Nat × Nat)) : Ending :=
 match X with
 | none => .returned (.tuple #[.int .u32 0, .int .i64 0, .bool false])
 | some x => .returned (.tuple #[.int .u32 (x.1 : Int), .int .i64 (x.2 : Int), .bool true])
set_option maxHeartbeats 1600000 in
theorem rdLast_no {t p s : Int} {A : Option Addr} {m c : Nat} {w : World} (h : okW t p s m = false) :
  Calls Try.prog 41 #[.agg #[.int .i64 t, .int .i64 p, .int .i64 s], .slice A m c] w fun e w' => e = preV none /\ Below w.heap.size w w' := by
 have HC := hidp (Held.new w 23 #[.int .i64 t, .int .i64 p, .int .i64 s])
 have HB := hidp (Bnew (B0 w) (.cells #[.int .i64 t, .int .i64 p, .int .i64 s] 23))
 obtain ⟨x0, x1, x2⟩ := HC.out.three
 have HOK := hidp h
 clear h
 go_enter Try.func41, Try.ntmps41
 go_wp2_with fail
 refine (rdAre_c t p s A m c false HOK.out _).mono ?_
 rintro e w1 ⟨rfl, hb⟩
 replace HB := hidp (Bgo HB.out hb)
 clear hb
 go_wp2
 refine bodyPost_ret (v := .tuple #[.int .u32 0, .int .i64 0, .bool false]) (by simp [results, Try.results41, go_sem]) rfl ⟨?_, HB.out⟩
 rfl
section
variable {t p s m c : Nat} {A : Option Addr} {f : Nat -> Nat} {w : World}
theorem preR_high (h : 16 < f 8 % 4294967296 \/ t < f 8 % 4294967296) : preR t p f = none := by unfold preR; rw [if_neg (fun x => by omega)]
theorem preR_not (h : ¬ lowB (stI (f 8)) f (rdN t p)) : preR t p f = none := by unfold preR; rw [if_neg (fun x => h x.2.2)]
theorem preR_in (h1 : f 8 % 4294967296 <= 16) (h2 : f 8 % 4294967296 <= t) (h3 : lowB (stI (f 8)) f (rdN t p)) : preR t p f = some (stI (f 8), f 8 % 4294967296) := by unfold preR; rw [if_pos ⟨h1, h2, h3⟩]
set_option maxHeartbeats 6400000 in
theorem rdLast_in (X : Option (Nat × Nat)) (hX : preR t p f = X) (hok : okW (t : Int) (p : Int) (s : Int) m = true) (hW : WV w A m c f) :
  Calls Try.prog 41 #[.agg #[.int .i64 (t : Int), .int .i64 (p : Int), .int .i64 (s : Int)], .slice A m c] w fun e w' => e = preV X /\ Below w.heap.size w w' := by
 obtain ⟨hr, hm0, hmw, hm8⟩ := okW_right hok
 have hri := (rightB_iff t p s).1 hr
 rw [rdW_eq hr] at hmw
 have hM := rdM_lt t p
 have hNN : rdN t p = 30 + 4 * t + 6 * p := rfl
 have hWW : rdM t p <= rdW t p := by unfold rdW; omega
 obtain ⟨n, hn⟩ : ∃ n, rdN t p = n := ⟨_, rfl⟩
 have hn1 : 1 <= n /\ n <= 65536 := by omega
 have hnm : 16 + n <= m := by omega
 obtain ⟨ad, rfl, hab, hcc⟩ := hW.ad hm0
 have hcc2 : c <= 9223372036854775807 := hW.max
 have h8m : 8 < m := by omega
 obtain ⟨x, hx⟩ : ∃ x, f 8 = x := ⟨_, rfl⟩
 have hx64 : x < 2 ^ 64 := by rw [<- hx]; exact hW.lt _ h8m
 have HXT := hidp hx
 have HOK := hidp hok
 have HW := hidp hW
 have HXX := hidp hX
 have HRN := hidp hn
 obtain ⟨ad2, had2⟩ : ∃ a, cutA ad 16 n = a := ⟨_, rfl⟩
 have HCUT : Hid (∀ W : World, WV W (some ad) m c f -> WV W (some ad2) n n (fun i => f (16 + i))) := hidp (fun W h => by rw [<- had2]; exact h.cut hnm)
 have HCA := hidp had2
 clear hX hok hn hx hW hr hmw hM hWW hNN hcc had2
 have HC := hidp (Held.new w 23 #[.int .i64 (t : Int), .int .i64 (p : Int), .int .i64 (s : Int)])
 have HB := hidp (Bnew (B0 w) (.cells #[.int .i64 (t : Int), .int .i64 (p : Int), .int .i64 (s : Int)] 23))
 replace HW := hidp (HW.out.below (Bnew (B0 w) (.cells #[.int .i64 (t : Int), .int .i64 (p : Int), .int .i64 (s : Int)] 23)))
 obtain ⟨x0, x1, x2⟩ := HC.out.three
 go_enter Try.func41, Try.ntmps41
 go_wp2_with fail
 refine (rdAre_c t p s (some ad) m c true HOK.out _).mono ?_
 rintro e w1 ⟨rfl, hb⟩
 replace HC := hidp (HC.out.keep hb)
 replace HW := hidp (HW.out.below hb)
 replace HB := hidp (Bgo HB.out hb)
 clear hb
 clear x0 x1 x2
 obtain ⟨x0, x1, x2⟩ := HC.out.three
 have cx : w1.cell? (ad.add 8) = some (.int .u64 (x : Int)) := by
  obtain ⟨ad', e, _, h2⟩ := HW.out.cell 8 h8m
  injection e with e
  subst e
  rw [HXT.out] at h2
  exact h2
 have cx2 : w1.cell? ⟨ad.block, ad.off + 8, none⟩ = some (.int .u64 (x : Int)) := cx
 have i1 : (8 : Int) < (m : Int) := by omega
 go_wp2_with fail
 by_cases h16 : x % 4294967296 <= 16
 ·refine (mkOfTip_yes x hx64 h16 _).mono ?_
  rintro e w2 ⟨rfl, rfl⟩
  obtain ⟨st, hst⟩ : ∃ y, x / 4294967296 = y := ⟨_, rfl⟩
  obtain ⟨u, hu⟩ : ∃ y, x % 4294967296 = y := ⟨_, rfl⟩
  rw [hst, hu]
  rw [hu] at h16
  have HST : Hid (stI (f 8) = st) := hidp (by rw [HXT.out]; exact hst)
  have HU : Hid (f 8 % 4294967296 = u) := hidp (by rw [HXT.out]; exact hu)
  have hst32 : st < 2 ^ 32 := by omega
  clear hst hu cx cx2 i1
  have HG := hidp (Held.new w1 25 #[.int .u32 (st : Int)])
  replace HC := hidp (HC.out.alloc (.cells #[.int .u32 (st : Int)] 25))
  replace HW := hidp (HW.out.below (Bnew (B0 _) (.cells #[.int .u32 (st : Int)] 25)))
  replace HB := hidp (Bnew HB.out (.cells #[.int .u32 (st : Int)] 25))
  clear x0 x1 x2
  obtain ⟨x0, x1, x2⟩ := HC.out.three
  have y0 := HG.out.cell 0
  by_cases hut : t < u
  ·have HX0 : Hid (X = none) := hidp (by rw [<- HXX.out]; exact preR_high (.inr (by rw [HU.out]; exact hut)))
   have HMK : Hid (decide ((0 : Int) <= (u : Int) /\ (u : Int) <= (t : Int)) = false) := hidp (decide_eq_false (by omega))
   clear hut
   go_wp2_with fail
   refine (rdMaker_c t p s u false HMK.out _).mono ?_
   rintro e w3 ⟨rfl, hb⟩
   replace HB := hidp (Bgo HB.out hb)
   clear hb
   go_wp2
   refine bodyPost_ret (v := .tuple #[.int .u32 0, .int .i64 0, .bool false]) (by simp [results, Try.results41, go_sem]) rfl ⟨?_, HB.out⟩
   rw [HX0.out]; rfl
  ·have hut2 : u <= t := by omega
   have HMK : Hid (decide ((0 : Int) <= (u : Int) /\ (u : Int) <= (t : Int)) = true) := hidp (decide_eq_true (by omega))
   have hmf : ∀ (fn : Fn) (first cap : Array Value) (w : World), (Instr.makeFunc fn first cap).run Try.prog w = .ok (.func fn first cap) w := fun _ _ _ _ => rfl
   clear hut
   go_wp2_with fail
   refine (rdMaker_c t p s u true HMK.out _).mono ?_
   rintro e w3 ⟨rfl, hb⟩
   obtain ⟨G, hG⟩ : ∃ G, w1.heap.size = G := ⟨_, rfl⟩
   rw [hG] at HG y0
   replace HG := hidp (HG.out.keep hb)
   replace HC := hidp (HC.out.keep hb)
   replace HW := hidp (HW.out.below hb)
   replace HB := hidp (Bgo HB.out hb)
   clear hb x0 x1 x2 y0
   obtain ⟨x0, x1, x2⟩ := HC.out.three
   have y0 := HG.out.cell 0
   rw [hG]
   clear hG
   go_wp2_with fail
   refine (rdCells_c n HRN.out HOK.out HW.out.le HW.out.max).mono ?_
   rintro e w4 ⟨rfl, hb⟩
   rw [HCA.out]
   replace HG := hidp (HG.out.keep hb)
   replace HC := hidp (HC.out.keep hb)
   replace HW := hidp (HW.out.below hb)
   replace HB := hidp (Bgo HB.out hb)
   clear hb x0 x1 x2 y0
   obtain ⟨b, hb⟩ : ∃ b, (!decide (lowB st f n)) = b := ⟨_, rfl⟩
   have HLB : Hid ((∀ k, k < n -> stI (f (16 + k)) <= st) ↔ b = false) := hidp (by
    rw [<- hb]
    show lowB st f n ↔ _
    simp)
   clear hb
   go_wp2_with fail
   refine (rdHas_c b hn1.2 HLB.out (HCUT.out _ HW.out) HG.out).mono ?_
   rintro e w5 ⟨rfl, hb⟩
   replace HG := hidp (HG.out.keep hb)
   replace HB := hidp (Bgo HB.out hb)
   clear hb
   have y0 := HG.out.cell 0
   cases b with
   | true =>
    have HX0 : Hid (X = none) := hidp (by rw [<- HXX.out]; exact preR_not (fun h => by rw [HST.out, HRN.out] at h; have := HLB.out.1 h; cases this))
    go_wp2
    refine bodyPost_ret (v := .tuple #[.int .u32 0, .int .i64 0, .bool false]) (by simp [results, Try.results41, go_sem]) rfl ⟨?_, HB.out⟩
    rw [HX0.out]; rfl
   | false =>
    have HX0 : Hid (X = some (st, u)) := hidp (by rw [<- HXX.out, preR_in (by rw [HU.out]; exact h16) (by rw [HU.out]; exact hut2) (by rw [HST.out, HRN.out]; exact HLB.out.2 rfl), HST.out, HU.out])
    go_wp2
    refine bodyPost_ret (v := .tuple #[.int .u32 (st : Int), .int .i64 (u : Int), .bool true]) (by simp [results, Try.results41, go_sem]) rfl ⟨?_, HB.out⟩
    rw [HX0.out]; rfl
 ·refine (mkOfTip_no x hx64 (by omega) _).mono ?_
  rintro e w2 ⟨rfl, rfl⟩
  have HX0 : Hid (X = none) := hidp (by rw [<- HXX.out]; exact preR_high (.inl (by rw [HXT.out]; omega)))
  replace HB := hidp (Bnew HB.out (.cells #[.int .u32 0] 25))
  clear cx cx2 i1 h16
  go_wp2
  refine bodyPost_ret (v := .tuple #[.int .u32 0, .int .i64 0, .bool false]) (by simp [results, Try.results41, go_sem]) rfl ⟨?_, HB.out⟩
  rw [HX0.out]; rfl
end

set_option maxHeartbeats 6400000 in
theorem rdTurn_c {w : World} {base g m cap n k c1 st : Nat} {A1 : Option Addr} {l : List (Nat × Nat)} {f : Nat -> Nat} (hn0 : 0 < n) (hn1 : n <= 65536) (hnm : 16 + n <= m) (hmx : m <= 1000000) (hst32 : st < 2 ^ 32) (hl : l.length = k) (hcell : ∀ e ∈ l, e.1 < n /\ e.2 < 4294967296) (hf : ∀ i, i < m -> f i < 2 ^ 64)
  (hR : RowF w g 46 m cap (wrdF f)) (hO : w.ownsRow base 56 2 (.slice A1 k c1) k (prVs l)) (hg : ∀ g', (Value.slice A1 k c1).ownBlock = some g' -> g' ≠ g) :
  Calls Try.prog 43 #[.slice (some ⟨g, 16, none⟩) n n, .int .u32 (st : Int), .slice A1 k c1] w fun e w' => e = .returned (.tuple #[]) /\ RowF w' g 46 m cap (wrdF (doneTo st l f)) /\ Turns (fun i => i = g) w w' := by
 obtain ⟨k1, k2⟩ := own_caps27 hO
 have HLK := hidp hl
 have HCELL := hidp hcell
 have HF := hidp hf
 have HFR := hidp hg
 have hgw : g < w.heap.size := hR.lt
 have HR : Hid (RowF w g 46 m cap (wrdF (doneTo st (l.take 0) f))) := hidp hR
 have HO := hidp hO
 have HT := hidp (T0 (fun i => i = g) w)
 clear hl hcell hf hg hR hO
 go_enter Try.func43, Try.ntmps43
 go_wp2_with fail
 go_loopw [7, 10] (fun u7 u10 wr => ∃ j : Nat, j <= k /\ u10 = .int .i64 (j : Int) /\ Hid (RowF wr g 46 m cap (wrdF (doneTo st (l.take j) f))) /\ Hid (wr.ownsRow base 56 2 (.slice A1 k c1) k (prVs l)) /\ Hid (Turns (fun i => i = g) w wr)) (fun _ u10 _ => k - (intOf u10).toNat)
 case atStart => exact ⟨0, by omega, rfl, HR, HO, HT⟩
 case round =>
  clear HR HO HT
  obtain ⟨j, hj, rfl, HR, HO, HT⟩ := hrel
  by_cases hlt : j < k
  ·have t1 : decide ((j : Int) < (k : Int)) = true := decide_eq_true (by omega)
   have t1n : decide (j < k) = true := decide_eq_true hlt
   obtain ⟨⟨ec, ev⟩, hx⟩ : ∃ x, l[j]? = some x := ⟨_, List.getElem?_eq_getElem (by rw [HLK.out]; exact hlt)⟩
   have hce := HCELL.out _ (List.mem_of_getElem? hx)
   dsimp only at hce
   have hev32 : ev < 2 ^ 32 := hce.2
   have hcen : ec < n := hce.1
   have him : 16 + ec < m := by omega
   obtain ⟨al, hal⟩ : ∃ al, A1 = some al := own_some27 HO.out (by omega)
   subst hal
   obtain ⟨p0, p1⟩ := pair_cells HO.out rfl hx hlt
   obtain ⟨y, hy⟩ : ∃ y, doneTo st (l.take j) f (16 + ec) = y := ⟨_, rfl⟩
   have HY := hidp hy
   have HDT : Hid (doneTo st (l.take (j + 1)) f = if stI (doneTo st (l.take j) f (16 + ec)) < st then updF (doneTo st (l.take j) f) (16 + ec) (st * 4294967296 + ev) else doneTo st (l.take j) f) := hidp (doneTo_take (s := st) l f j (ec, ev) hx)
   have hy64 : y < 2 ^ 64 := by
    rw [<- hy, doneTo_at _ _ (fun e he => (HCELL.out e (List.mem_of_mem_take he)).2)]
    have h1 := HF.out _ him
    split
    ·cases h2 : firstE (l.take j) (16 + ec) with
     | none => exact h1
     | some v =>
      obtain ⟨_, _, _, hv⟩ := firstE_cell (n := n) (fun e he => HCELL.out e (List.mem_of_mem_take he)) h2
      show st * 4294967296 + v < _
      omega
    ·exact h1
   have HNG : Hid (g < wr.heap.size) := hidp (Nat.lt_of_lt_of_le hgw HT.out.size)
   obtain ⟨NP, hNP⟩ : ∃ z, wr.heap.size = z := ⟨_, rfl⟩
   have HP := hidp (Held.new wr 56 #[.int .i64 (ec : Int), .int .u32 (ev : Int)])
   have hb := Bnew (B0 wr) (.cells #[.int .i64 (ec : Int), .int .u32 (ev : Int)] 56)
   rw [hNP] at HP HNG
   replace HR := hidp (HR.out.keep hb)
   replace HO := hidp (own_below HO.out hb)
   replace HT := hidp (HT.out.alloc (.cells #[.int .i64 (ec : Int), .int .u32 (ev : Int)] 56))
   clear hb
   have cy : (wr.alloc (.cells #[.int .i64 (ec : Int), .int .u32 (ev : Int)] 56)).cell? ⟨g, 16 + ec, none⟩ = some (.int .u64 (y : Int)) := by
    have := HR.out.cell (i := 16 + ec) him
    unfold wrdF at this
    rw [hy] at this
    exact this
   obtain ⟨v0, v1⟩ := HP.out.two
   rw [<- hNP] at v0 v1
   have i3 : (ec : Int) < (n : Int) := by omega
   clear hx hy
   go_wp2_with fail
   (try rw [hNP])
   generalize hWN : wr.alloc (.cells #[.int .i64 (ec : Int), .int .u32 (ev : Int)] 56) = wn at *
   clear v0 v1
   obtain ⟨v0, v1⟩ := HP.out.two
   refine (mkStamp_c y hy64 _).mono ?_
   rintro e w4 ⟨rfl, rfl⟩
   obtain ⟨ys, hys⟩ : ∃ z, y / 4294967296 = z := ⟨_, rfl⟩
   rw [hys]
   have HYS : Hid (stI (doneTo st (l.take j) f (16 + ec)) = ys) := hidp (by rw [HY.out]; exact hys)
   clear hys hWN hNP
   by_cases hlo : ys < st
   ·have q5 : decide ((ys : Int) < (st : Int)) = true := decide_eq_true (by omega)
    have q5n : decide (ys < st) = true := decide_eq_true hlo
    have HN : Hid (doneTo st (l.take (j + 1)) f = updF (doneTo st (l.take j) f) (16 + ec) (st * 4294967296 + ev)) := hidp (by rw [HDT.out, if_pos (by rw [HYS.out]; exact hlo)])
    clear hlo HDT p0 p1 cy
    go_wp2_with fail
    have hb := Bdrew (B0 wn)
    replace HP := hidp (HP.out.keep hb)
    replace HR := hidp (HR.out.keep hb)
    replace HO := hidp (own_below HO.out hb)
    replace HT := hidp HT.out.drew
    clear hb v0 v1
    have yq := HR.out.cell (i := 16 + ec) him
    have fq := HR.out.thawed (16 + ec)
    refine wp_region_held_drew (S := (fun w' => w'.cell? ⟨NP, 0, none⟩ = some (.int .i64 (ec : Int)) /\ w'.cell? ⟨NP, 1, none⟩ = some (.int .u32 (ev : Int)))) (by kernel_rfl) ?_ (fun hHeld => ?_)
    ·(try dsimp only)
     first | exact HP.out.two | exact hHeld
    refine tkz 0 ?_
    refine tkz 1 ?_
    refine tkz 2 ?_
    refine tkz 3 ?_
    refine tkz 4 ?_
    refine tkz 5 ?_
    refine rdz 6 fun K hK => ?_
    go_simp
    refine (mkCell_c st ev hst32 hce.2 _).mono ?_
    rintro e w7 ⟨rfl, rfl⟩
    refine hK.out _ _ ?_ (fun hHeld => ?_)
    ·(try dsimp only)
     first | exact HP.out.two | exact hHeld
    clear hK K
    (try simp only [Act.put, gA, gB, gC, sA, sB, sC])
    refine tkz 7 ?_
    refine rdz 8 fun K hK => ?_
    go_simp
    replace HP := hidp (HP.out.far (p := ⟨g, 16 + ec, none⟩) (by have := HNG.out; show NP ≠ g; omega) (.int .u64 ((st * 4294967296 + ev : Nat) : Int)))
    replace HO := hidp (own_kept HO.out (fun g' e => Below.heap_setCell _ ⟨g, 16 + ec, none⟩ (.int .u64 ((st * 4294967296 + ev : Nat) : Int)) g' (HFR.out g' e)))
    replace HT := hidp (HT.out.put (p := ⟨g, 16 + ec, none⟩) rfl (.int .u64 ((st * 4294967296 + ev : Nat) : Int)))
    replace HR := hidp (HR.out.put (i := 16 + ec) him (.int .u64 ((st * 4294967296 + ev : Nat) : Int)))
    refine hK.out _ _ ?_ (fun hHeld => ?_)
    ·(try dsimp only)
     first | exact HP.out.two | exact hHeld
    clear hK K
    (try simp only [Act.put, gA, gB, gC, sA, sB, sC])
    refine dnz ?_
    go_wp2
    go_roundw
    case rel => exact ⟨j + 1, by omega, by go_num, hidp (HR.out.congr fun i hi => by
      rw [HN.out]
      dsimp only [wrdF, updF]
      by_cases e : i = 16 + ec
      ·rw [if_pos e, if_pos e]
      ·rw [if_neg e, if_neg e]), HO, HT⟩
    case measure => simp [intOf]; omega
   ·have q5 : decide ((ys : Int) < (st : Int)) = false := decide_eq_false (by omega)
    have q5n : decide (ys < st) = false := decide_eq_false hlo
    have HN : Hid (doneTo st (l.take (j + 1)) f = doneTo st (l.take j) f) := hidp (by rw [HDT.out, if_neg (by rw [HYS.out]; exact hlo)])
    clear hlo HDT
    go_wp2
    go_roundw
    case rel => exact ⟨j + 1, by omega, by go_num, hidp (by rw [HN.out]; exact HR.out), HO, HT⟩
    case measure => simp [intOf]; omega
  ·have t1 : decide ((j : Int) < (k : Int)) = false := decide_eq_false (by omega)
   have t1n : decide (j < k) = false := decide_eq_false hlt
   obtain rfl : j = k := by omega
   have HTK : Hid (l.take j = l) := hidp (List.take_of_length_le (by have := HLK.out; omega))
   rw [HTK.out] at HR
   go_wp2
   go_end0
   exact ⟨rfl, HR.out, HT.out⟩
end
section
section
variable {A : Option Addr} {m c : Nat} {w : World}
set_option maxHeartbeats 1600000 in
theorem rdLog_no {t p s : Int} (u : Int) (h : okW t p s m = false \/ (okW t p s m = true /\ (u < 0 \/ t < u))) :
  Calls Try.prog 8 #[.agg #[.int .i64 t, .int .i64 p, .int .i64 s], .slice A m c, .int .i64 u] w fun e w' => outL none e w' /\ Below w.heap.size w w' := by
 have HC := hidp ((Held.new w 23 #[.int .i64 t, .int .i64 p, .int .i64 s]).alloc (.cells #[.int .u32 0, .bool false, .int .i64 0] 32))
 have HR := hidp (Held.new2 w (.cells #[.int .i64 t, .int .i64 p, .int .i64 s] 23) 32 #[.int .u32 0, .bool false, .int .i64 0])
 have HB := hidp (Bnew (Bnew (B0 w) (.cells #[.int .i64 t, .int .i64 p, .int .i64 s] 23)) (.cells #[.int .u32 0, .bool false, .int .i64 0] 32))
 obtain ⟨x0, x1, x2⟩ := HC.out.three
 obtain ⟨b, hb⟩ : ∃ b, okW t p s m = b := ⟨_, rfl⟩
 have HOK := hidp hb
 rw [hb] at h
 clear hb
 have HH := hidp h
 clear h
 go_enter Try.func8, Try.ntmps8
 go_wp2_with fail
 refine (rdAre_c t p s A m c b HOK.out _).mono ?_
 rintro e w1 ⟨rfl, hb⟩
 replace HC := hidp (HC.out.keep hb)
 replace HR := hidp (HR.out.keep hb)
 replace HB := hidp (Bgo HB.out hb)
 clear hb x0 x1 x2
 obtain ⟨x0, x1, x2⟩ := HC.out.three
 cases b
 ·obtain ⟨WF, HWF, HZ1, HZ2⟩ := note_put HR.out HB.out (by omega) 0 false 0
  obtain ⟨y0, y1, y2⟩ := HR.out.three
  have f0 := HR.out.thawed 0
  have f1 := HR.out.thawed 1
  have f2 := HR.out.thawed 2
  go_wp2
  rw [HWF.out]
  obtain ⟨z0, z1, z2⟩ := HZ1.out.three
  exact bodyPost_ret (v := .tuple #[.agg #[.int .u32 0, .bool false, .int .i64 0], .slice none 0 0, .bool false]) (by simp [results, Try.results8, go_sem, z0, z1, z2]) rfl ⟨⟨_, rfl, RowP.of_own (base := 0) (e := 56) (World.ownsRow_nil _ _ _ _)⟩, HZ2.out⟩
 ·have HMK : Hid (decide (0 <= u /\ u <= t) = false) := hidp (by
   rcases HH.out with h | ⟨_, h⟩
   ·cases h
   ·exact decide_eq_false (by omega))
  clear HH
  go_wp2_with fail
  refine (rdMaker_c t p s u false HMK.out _).mono ?_
  rintro e w2 ⟨rfl, hb⟩
  replace HR := hidp (HR.out.keep hb)
  replace HB := hidp (Bgo HB.out hb)
  clear hb
  obtain ⟨WF, HWF, HZ1, HZ2⟩ := note_put HR.out HB.out (by omega) 0 false 0
  obtain ⟨y0, y1, y2⟩ := HR.out.three
  have f0 := HR.out.thawed 0
  have f1 := HR.out.thawed 1
  have f2 := HR.out.thawed 2
  go_wp2
  rw [HWF.out]
  obtain ⟨z0, z1, z2⟩ := HZ1.out.three
  exact bodyPost_ret (v := .tuple #[.agg #[.int .u32 0, .bool false, .int .i64 0], .slice none 0 0, .bool false]) (by simp [results, Try.results8, go_sem, z0, z1, z2]) rfl ⟨⟨_, rfl, RowP.of_own (base := 0) (e := 56) (World.ownsRow_nil _ _ _ _)⟩, HZ2.out⟩
end
section
variable {t p s u m c : Nat} {A : Option Addr} {f : Nat -> Nat} {w : World}
set_option maxHeartbeats 6400000 in
theorem rdLogV (X : Option ((Nat × Bool × Nat) × List (Nat × Nat))) (hX : logR t p f u = X) (hok : okW (t : Int) (p : Int) (s : Int) m = true) (hu : u <= t) (hW : WV w A m c f) :
    Calls Try.prog 8 #[.agg #[.int .i64 (t : Int), .int .i64 (p : Int), .int .i64 (s : Int)], .slice A m c, .int .i64 (u : Int)] w fun e w' => logV X e w w' /\ Below w.heap.size w w' := by
  obtain ⟨hr, hm0, hmw, hm8⟩ := okW_right hok
  have hri := (rightB_iff t p s).1 hr
  rw [rdW_eq hr] at hmw
  obtain ⟨n, hn⟩ : ∃ n, rdN t p = n := ⟨_, rfl⟩
  have HNT : Hid (noteI (t : Int) (p : Int) (s : Int) (u : Int) = (rdT t p u : Int)) := hidp (rdT_eq hr hu)
  have hTm : rdT t p u < m := by have := rdT_lt (p := p) hu; omega
  obtain ⟨ad, rfl, hab, hcc⟩ := hW.ad hm0
  have hcc2 : c <= 9223372036854775807 := hW.max
  obtain ⟨st, o, cn, b, hnote⟩ : ∃ st o cn b, noteOf (f (rdT t p u)) = (st, o, cn, b) := ⟨_, _, _, _, rfl⟩
  have hcn : cn <= 96 := by
    have := hnote
    unfold noteOf at this
    split at this
    · rename_i h1; injection this with _ h2; injection h2 with _ h2; injection h2 with h2; omega
    · injection this with _ h2; injection h2 with _ h2; injection h2 with h2; omega
  obtain ⟨x, hx⟩ : ∃ x, f (rdT t p u) = x := ⟨_, rfl⟩
  have hx64 : x < 2 ^ 64 := by rw [<- hx]; exact hW.lt _ hTm
  rw [hx] at hnote
  obtain ⟨ti, hti⟩ : ∃ ti, rdT t p u = ti := ⟨_, rfl⟩
  rw [hti] at HNT hTm hx
  have HXT := hidp hx
  have HNO := hidp hnote
  have HOK := hidp hok
  have HW := hidp hW
  have HU := hidp hu
  have HMK : Hid (decide ((0 : Int) <= (u : Int) /\ (u : Int) <= (t : Int)) = true) := hidp (decide_eq_true (by omega))
  have HWI : Hid (∀ i : Int, decide (0 <= wordI (t : Int) (p : Int) (s : Int) i) = decide (0 <= i /\ i < (n : Int))) := hidp (word_is hr hn)
  have HLX : Hid (b = false -> X = none) := hidp (fun e => by subst e; rw [<- hX]; exact logR_no (by rw [hti, hx]; exact hnote))
  have HLY : Hid (b = true -> X = match entsI n (fun i => f (rdL t p u i)) cn with | some l => some ((st, o, cn), l) | none => none) := hidp (fun e => by subst e; rw [<- hX, <- hn]; exact logR_yes (by rw [hti, hx]; exact hnote))
  have hn1 : 1 <= n /\ n <= 65536 := by rw [<- hn]; unfold rdN; omega
  obtain ⟨a0, ha0⟩ : ∃ a, rdL t p u 0 = a := ⟨_, rfl⟩
  have HRL : Hid (∀ j, rdL t p u j = a0 + j) := hidp (fun j => by rw [<- ha0]; unfold rdL; omega)
  have hacn : a0 + cn <= m := by
    have hMW : rdW t p = rdM t p + (t + 1) * 120 := rfl
    have hLL : rdL t p u 0 = rdM t p + u * 120 + 24 := rfl
    have := Nat.mul_le_mul_right 120 hu
    omega
  obtain ⟨ad2, had2⟩ : ∃ a, cutA ad a0 cn = a := ⟨_, rfl⟩
  have HCUT : Hid (∀ W : World, WV W (some ad) m c f -> WV W (some ad2) cn cn (fun i => f (a0 + i))) := hidp (fun W h => by rw [<- had2]; exact h.cut hacn)
  have HCA : Hid (cutA ad (rdL t p u 0) cn = ad2) := hidp (by rw [ha0, had2])
  clear hX hok hnote hn hti hx hW hr hmw hri ha0 had2
  have HC := hidp ((Held.new w 23 #[.int .i64 (t : Int), .int .i64 (p : Int), .int .i64 (s : Int)]).alloc (.cells #[.int .u32 0, .bool false, .int .i64 0] 32))
  have HR := hidp (Held.new2 w (.cells #[.int .i64 (t : Int), .int .i64 (p : Int), .int .i64 (s : Int)] 23) 32 #[.int .u32 0, .bool false, .int .i64 0])
  have HB := hidp (Bnew (Bnew (B0 w) (.cells #[.int .i64 (t : Int), .int .i64 (p : Int), .int .i64 (s : Int)] 23)) (.cells #[.int .u32 0, .bool false, .int .i64 0] 32))
  replace HW := hidp (HW.out.below (Bnew (Bnew (B0 w) (.cells #[.int .i64 (t : Int), .int .i64 (p : Int), .int .i64 (s : Int)] 23)) (.cells #[.int .u32 0, .bool false, .int .i64 0] 32)))
  obtain ⟨x0, x1, x2⟩ := HC.out.three
  go_enter Try.func8, Try.ntmps8
  go_wp2_with fail
  refine (rdAre_c t p s (some ad) m c true HOK.out _).mono ?_
  rintro e w1 ⟨rfl, hb⟩
  replace HC := hidp (HC.out.keep hb)
  replace HR := hidp (HR.out.keep hb)
  replace HW := hidp (HW.out.below hb)
  replace HB := hidp (Bgo HB.out hb)
  clear hb
  clear x0 x1 x2
  obtain ⟨x0, x1, x2⟩ := HC.out.three
  go_wp2_with fail
  refine (rdMaker_c t p s u true HMK.out _).mono ?_
  rintro e w1b ⟨rfl, hb⟩
  replace HC := hidp (HC.out.keep hb)
  replace HR := hidp (HR.out.keep hb)
  replace HW := hidp (HW.out.below hb)
  replace HB := hidp (Bgo HB.out hb)
  clear hb
  clear x0 x1 x2
  obtain ⟨x0, x1, x2⟩ := HC.out.three
  go_wp2_with fail
  refine (plNote_c t p s u _).mono ?_
  rintro e w2 ⟨rfl, hb⟩
  rw [HNT.out]
  replace HC := hidp (HC.out.keep hb)
  replace HR := hidp (HR.out.keep hb)
  replace HW := hidp (HW.out.below hb)
  replace HB := hidp (Bgo HB.out hb)
  clear hb
  clear x0 x1 x2
  obtain ⟨x0, x1, x2⟩ := HC.out.three
  have cx : w2.cell? (ad.add ti) = some (.int .u64 (x : Int)) := by
    obtain ⟨ad', e, _, h2⟩ := HW.out.cell ti hTm
    injection e with e
    subst e
    rw [HXT.out] at h2
    exact h2
  have i1 : (ti : Int) < (m : Int) := by omega
  go_wp2_with fail
  refine (mkOfNote_c x st cn o b hx64 HNO.out _).mono ?_
  rintro e w3 ⟨rfl, hb⟩
  replace HC := hidp (HC.out.keep hb)
  replace HR := hidp (HR.out.keep hb)
  replace HW := hidp (HW.out.below hb)
  replace HB := hidp (Bgo HB.out hb)
  clear hb
  have hw3 : w.heap.size + 2 <= w3.heap.size := by have := HR.out.lt; omega
  have HN := hidp (Held.new w3 32 #[.int .u32 (st : Int), .bool o, .int .i64 (cn : Int)])
  replace HC := hidp (HC.out.alloc (.cells #[.int .u32 (st : Int), .bool o, .int .i64 (cn : Int)] 32))
  replace HR := hidp (HR.out.alloc (.cells #[.int .u32 (st : Int), .bool o, .int .i64 (cn : Int)] 32))
  replace HB := hidp (Bnew HB.out (.cells #[.int .u32 (st : Int), .bool o, .int .i64 (cn : Int)] 32))
  replace HW := hidp (HW.out.below (Bnew (B0 w3) (.cells #[.int .u32 (st : Int), .bool o, .int .i64 (cn : Int)] 32)))
  clear cx i1 x0 x1 x2
  obtain ⟨x0, x1, x2⟩ := HC.out.three
  cases b with
  | false =>
    have HX := hidp (HLX.out rfl)
    obtain ⟨WF, HWF, HZ1, HZ2⟩ := note_put HR.out HB.out (by omega) 0 false 0
    obtain ⟨y0, y1, y2⟩ := HR.out.three
    have f0 := HR.out.thawed 0
    have f1 := HR.out.thawed 1
    have f2 := HR.out.thawed 2
    go_wp2
    rw [HWF.out]
    obtain ⟨z0, z1, z2⟩ := HZ1.out.three
    exact bodyPost_ret (v := .tuple #[.agg #[.int .u32 0, .bool false, .int .i64 0], .slice none 0 0, .bool false]) (by simp [results, Try.results8, go_sem, z0, z1, z2]) rfl ⟨by rw [HX.out]; rfl, HZ2.out⟩
  | true =>
    have HLZ := hidp (HLY.out rfl)
    clear HLX HLY
    obtain ⟨y0, y1, y2⟩ := HN.out.three
    obtain ⟨j0, hjn, hjz0, hjz1, hjz2⟩ := info_parts pairInfo27
    go_wp2_with fail
    obtain ⟨NB, hNB⟩ : ∃ z, w3.heap.size = z := ⟨_, rfl⟩
    (try rw [hNB])
    rw [hNB] at HN hw3
    generalize hw4 : w3.alloc (.cells #[.int .u32 (st : Int), .bool o, .int .i64 (cn : Int)] 32) = w4 at *
    clear hNB hw4
    refine (rdEntries_c cn HOK.out HU.out hcn HW.out.le HW.out.max).mono ?_
    rintro e w5 ⟨rfl, hb⟩
    rw [HCA.out]
    have HO : Hid (w5.ownsRow (w.heap.size + 2) 56 2 (.slice none 0 0) 0 (prVs [])) := hidp (World.ownsRow_nil _ _ _ _)
    replace HC := hidp (HC.out.keep hb)
    replace HR := hidp (HR.out.keep hb)
    replace HN := hidp (HN.out.keep hb)
    replace HW := hidp (HW.out.below hb)
    replace HB := hidp (Bgo HB.out hb)
    clear hb x0 x1 x2 y0 y1 y2
    go_wp2_with fail
    have HE0 : Hid (entsI n (fun i => f (rdL t p u i)) 0 = some []) := hidp rfl
    have HL0 : Hid (([] : List (Nat × Nat)).length = 0) := hidp rfl
    go_loopw [11, 13, 14, 15, 47] (fun u11 u13 u14 u15 u47 wr => ∃ (j : Nat) (acc : List (Nat × Nat)), j <= cn /\ u47 = .int .i64 (j : Int) /\ Hid (entsI n (fun i => f (rdL t p u i)) j = some acc) /\ Hid (acc.length = j) /\ Hid (wr.ownsRow (w.heap.size + 2) 56 2 u11 j (prVs acc)) /\ Hid (Held wr w.heap.size 23 #[.int .i64 (t : Int), .int .i64 (p : Int), .int .i64 (s : Int)]) /\ Hid (Held wr (w.heap.size + 1) 32 #[.int .u32 0, .bool false, .int .i64 0]) /\ Hid (Held wr NB 32 #[.int .u32 (st : Int), .bool o, .int .i64 (cn : Int)]) /\ Hid (WV wr (some ad) m c f) /\ Hid (Below w.heap.size w wr)) (fun u11 u13 u14 u15 u47 _ => cn - (intOf u47).toNat)
    case atStart => exact ⟨0, [], by omega, rfl, HE0, HL0, HO, HC, HR, HN, HW, HB⟩
    case round =>
      clear HE0 HL0 HO HC HR HN HW HB
      obtain ⟨j, acc, hj, rfl, HE, HL, HO, HC, HR, HN, HW, HB⟩ := hrel
      by_cases hlt : j < cn
      · have t1 : decide ((j : Int) < (cn : Int)) = true := decide_eq_true (by omega)
        have t1n : decide (j < cn) = true := decide_eq_true hlt
        obtain ⟨y, hy⟩ : ∃ x, f (a0 + j) = x := ⟨_, rfl⟩
        have hy64 : y < 2 ^ 64 := by rw [<- hy]; exact HW.out.lt _ (by omega)
        have HY : Hid ((fun i => f (rdL t p u i)) j = y) := hidp (by show f (rdL t p u j) = y; rw [HRL.out, hy])
        have HYL := hidp hy
        clear hy
        have cx : wr.cell? (ad2.add j) = some (.int .u64 (y : Int)) := by
          obtain ⟨ad', e, _, h2⟩ := (HCUT.out _ HW.out).cell j hlt
          injection e with e
          subst e
          rw [HYL.out] at h2
          exact h2
        have i1 : (j : Int) < (cn : Int) := by omega
        have hb0 : w.heap.size + 2 <= wr.heap.size := by have := HR.out.lt; omega
        by_cases hent : y / 4294967296 < 65536
        · obtain ⟨ec, hec⟩ : ∃ x, y / 4294967296 = x := ⟨_, rfl⟩
          obtain ⟨ev, hev⟩ : ∃ x, y % 4294967296 = x := ⟨_, rfl⟩
          have HENT : Hid (entI n ((fun i => f (rdL t p u i)) j) = if ec < n then some (ec, ev) else none) := hidp (by
            have h0 : f (rdL t p u j) = y := HY.out
            show entI n (f (rdL t p u j)) = _
            rw [h0]
            unfold entI
            rw [hec, hev]
            by_cases h : ec < n
            · rw [if_pos ⟨by omega, h⟩, if_pos h]
            · rw [if_neg (fun x => h x.2), if_neg h])
          have hec2 : ec < 65536 := by omega
          have HEC := hidp hec
          have HEV := hidp hev
          have HENX := hidp hent
          clear hec hev hent
          go_wp2_with fail
          refine (mkOfEntry_yes y hy64 HENX.out _).mono ?_
          rintro e w6 ⟨rfl, hb⟩
          rw [HEC.out, HEV.out]
          replace HC := hidp (HC.out.keep hb)
          replace HR := hidp (HR.out.keep hb)
          replace HN := hidp (HN.out.keep hb)
          replace HO := hidp (own_below HO.out hb)
          replace HW := hidp (HW.out.below hb)
          replace HB := hidp (Bgo HB.out hb)
          have hb6 : w.heap.size + 2 <= w6.heap.size := Nat.le_trans hb0 hb.size
          have hb := Bnew (B0 w6) (.cells #[.int .i64 (ec : Int), .int .u32 (ev : Int)] 56)
          have HP := hidp (Held.new w6 56 #[.int .i64 (ec : Int), .int .u32 (ev : Int)])
          replace HC := hidp (HC.out.keep hb)
          replace HR := hidp (HR.out.keep hb)
          replace HN := hidp (HN.out.keep hb)
          replace HO := hidp (own_below HO.out hb)
          replace HW := hidp (HW.out.below hb)
          replace HB := hidp (Bgo HB.out hb)
          clear hb cx i1
          obtain ⟨x0, x1, x2⟩ := HC.out.three
          obtain ⟨p0, p1⟩ := HP.out.two
          go_wp2_with fail
          obtain ⟨NP, hNP⟩ : ∃ z, w6.heap.size = z := ⟨_, rfl⟩
          (try rw [hNP])
          rw [hNP] at HP
          generalize hw8 : w6.alloc (.cells #[.int .i64 (ec : Int), .int .u32 (ev : Int)] 56) = w8 at *
          clear hNP hw8 p0 p1 x0 x1 x2
          by_cases hen : ec < n
          · have HE1 := hidp (entsI_next HE.out (e := (ec, ev)) (by rw [HENT.out, if_pos hen]))
            have HL1 : Hid ((acc ++ [(ec, ev)]).length = j + 1) := hidp (by have := HL.out; simp; omega)
            have HIS : Hid (decide (0 <= wordI (t : Int) (p : Int) (s : Int) (ec : Int)) = true) := hidp (by rw [HWI.out]; exact decide_eq_true (by omega))
            clear HENT hen
            refine (rdCell_c t p s ec true HIS.out _).mono ?_
            rintro e w7 ⟨rfl, hb⟩
            replace HC := hidp (HC.out.keep hb)
            replace HR := hidp (HR.out.keep hb)
            replace HN := hidp (HN.out.keep hb)
            replace HP := hidp (HP.out.keep hb)
            replace HO := hidp (own_below HO.out hb)
            replace HW := hidp (HW.out.below hb)
            replace HB := hidp (Bgo HB.out hb)
            clear hb
            obtain ⟨p0, p1⟩ := HP.out.two
            have hb7 : w.heap.size + 2 <= w7.heap.size := by have := HR.out.lt; omega
            go_wp2_with (first
              | (at_builtin
                 refine wpList_append_lies _ rfl _ _ 26 rfl (w.heap.size + 2) 56 j0 (.agg #[.int .i64 0, .int .u32 0]) 2 16 Try.underlying26 hjn hjz0 hjz1 hjz2 rfl (by decide) u11 j (prVs acc) rfl (HO.out.alloc _) ⟨_, 0, none⟩ 1 1 [.int .i64 (ec : Int), .int .u32 (ev : Int)] rfl rfl ?c1 ?c2 (by omega) ?c3 ?c4 ?c5 _ rfl ?_
                 case c1 => intro jj yy hyy; rcases jj with _ | _ | jj; (· simp at hyy; subst hyy; simp [Addr.add]); (· simp at hyy; subst hyy; simp [Addr.add]); (· simp at hyy)
                 case c2 => simp [Value.oneCell']
                 case c3 => unfold maxLen; omega
                 case c4 => omega
                 case c5 => simp; omega
                 intro g8 capg8 w8' hown8 hgrow8 hat8 hlt8)
              | fail)
            have hadb : ad.block < w.heap.size := hab
            have HO8 : Hid (w8'.ownsRow (w.heap.size + 2) 56 2 (.slice (some ⟨g8, 0, none⟩) (j + 1) capg8) (j + 1) (prVs (acc ++ [(ec, ev)]))) := hidp (by rw [prVs_snoc]; exact hown8)
            have hne1 : ∀ g, u11.ownBlock = some g -> w.heap.size + 2 <= g := fun g e => (HO.out.lt g e).1
            have HC8 : Hid (Held w8' w.heap.size 23 #[.int .i64 (t : Int), .int .i64 (p : Int), .int .i64 (s : Int)]) := hidp ((hgrow8.block _ (by simp; omega) (fun e => by have := hne1 _ e.symm; omega)).trans (HC.out.alloc _))
            have HR8 : Hid (Held w8' (w.heap.size + 1) 32 #[.int .u32 0, .bool false, .int .i64 0]) := hidp ((hgrow8.block _ (by simp; omega) (fun e => by have := hne1 _ e.symm; omega)).trans (HR.out.alloc _))
            have HN8 : Hid (Held w8' NB 32 #[.int .u32 (st : Int), .bool o, .int .i64 (cn : Int)]) := hidp ((hgrow8.block _ (by have := HN.out.lt; simp; omega) (fun e => held_own27 HN.out HO.out (by decide) e.symm)).trans (HN.out.alloc _))
            have HW8 : Hid (WV w8' (some ad) m c f) := hidp (wv_block (HW.out.below (Bnew (B0 _) _)) hgrow8.size (hgrow8.block _ (by simp; omega) (fun e => by have := hne1 _ e.symm; omega)))
            have HB8 : Hid (Below w.heap.size w w8') := hidp ((Bnew HB.out _).grown hgrow8 (by have := HB.out.size; simp; omega) (fun k hk => by have := hne1 k hk; omega))
            clear hown8 hgrow8 hat8 hlt8
            go_roundw
            case rel => exact ⟨j + 1, _, by omega, by go_num, HE1, HL1, HO8, HC8, HR8, HN8, HW8, HB8⟩
            case measure => simp [intOf]; omega
          · have HX : Hid (X = none) := hidp (by rw [HLZ.out, entsI_none hlt (by rw [HENT.out, if_neg hen])])
            have HIS : Hid (decide (0 <= wordI (t : Int) (p : Int) (s : Int) (ec : Int)) = false) := hidp (by rw [HWI.out]; exact decide_eq_false (by omega))
            clear HENT hen
            refine (rdCell_c t p s ec false HIS.out _).mono ?_
            rintro e w7 ⟨rfl, hb⟩
            replace HC := hidp (HC.out.keep hb)
            replace HR := hidp (HR.out.keep hb)
            replace HN := hidp (HN.out.keep hb)
            replace HP := hidp (HP.out.keep hb)
            replace HO := hidp (own_below HO.out hb)
            replace HW := hidp (HW.out.below hb)
            replace HB := hidp (Bgo HB.out hb)
            clear hb
            obtain ⟨WF, HWF, HZ1, HZ2⟩ := note_put HR.out HB.out (by omega) 0 false 0
            obtain ⟨y0, y1, y2⟩ := HR.out.three
            have f0 := HR.out.thawed 0
            have f1 := HR.out.thawed 1
            have f2 := HR.out.thawed 2
            go_wp2
            rw [HWF.out]
            obtain ⟨z0, z1, z2⟩ := HZ1.out.three
            exact bodyPost_ret (v := .tuple #[.agg #[.int .u32 0, .bool false, .int .i64 0], .slice none 0 0, .bool false]) (by simp [results, Try.results8, go_sem, z0, z1, z2]) rfl ⟨by rw [HX.out]; rfl, HZ2.out⟩
        · have HX : Hid (X = none) := hidp (by rw [HLZ.out, entsI_none hlt (by have h0 : f (rdL t p u j) = y := HY.out; show entI n (f (rdL t p u j)) = none; rw [h0]; unfold entI; rw [if_neg (fun h => hent h.1)])])
          have HENX : Hid (65535 < y / 4294967296) := hidp (by omega)
          clear hent
          go_wp2_with fail
          refine (mkOfEntry_no y hy64 HENX.out _).mono ?_
          rintro e w6 ⟨rfl, hb⟩
          replace HC := hidp (HC.out.keep hb)
          replace HR := hidp (HR.out.keep hb)
          replace HN := hidp (HN.out.keep hb)
          replace HO := hidp (own_below HO.out hb)
          replace HW := hidp (HW.out.below hb)
          replace HB := hidp (Bgo HB.out hb)
          have hb6 : w.heap.size + 2 <= w6.heap.size := Nat.le_trans hb0 hb.size
          have hb := Bnew (B0 w6) (.cells #[.int .i64 0, .int .u32 0] 56)
          have HP := hidp (Held.new w6 56 #[.int .i64 0, .int .u32 0])
          replace HC := hidp (HC.out.keep hb)
          replace HR := hidp (HR.out.keep hb)
          replace HN := hidp (HN.out.keep hb)
          replace HO := hidp (own_below HO.out hb)
          replace HW := hidp (HW.out.below hb)
          replace HB := hidp (Bgo HB.out hb)
          clear hb cx i1
          obtain ⟨x0, x1, x2⟩ := HC.out.three
          obtain ⟨p0, p1⟩ := HP.out.two
          obtain ⟨WF, HWF, HZ1, HZ2⟩ := note_put HR.out HB.out (by omega) 0 false 0
          obtain ⟨y0, y1, y2⟩ := HR.out.three
          have f0 := HR.out.thawed 0
          have f1 := HR.out.thawed 1
          have f2 := HR.out.thawed 2
          go_wp2
          rw [HWF.out]
          obtain ⟨z0, z1, z2⟩ := HZ1.out.three
          exact bodyPost_ret (v := .tuple #[.agg #[.int .u32 0, .bool false, .int .i64 0], .slice none 0 0, .bool false]) (by simp [results, Try.results8, go_sem, z0, z1, z2]) rfl ⟨by rw [HX.out]; rfl, HZ2.out⟩
      · have t1 : decide ((j : Int) < (cn : Int)) = false := decide_eq_false (by omega)
        have t1n : decide (j < cn) = false := decide_eq_false hlt
        obtain rfl : j = cn := by omega
        obtain ⟨n0, n1, n2⟩ := HN.out.three
        have HX : Hid (X = some ((st, o, j), acc)) := hidp (by rw [HLZ.out, HE.out])
        obtain ⟨WF, HWF, HZ1, HZ2⟩ := note_put HR.out HB.out (by omega) (st : Int) o (j : Int)
        obtain ⟨y0, y1, y2⟩ := HR.out.three
        have f0 := HR.out.thawed 0
        have f1 := HR.out.thawed 1
        have f2 := HR.out.thawed 2
        go_wp2
        rw [HWF.out]
        obtain ⟨z0, z1, z2⟩ := HZ1.out.three
        refine bodyPost_ret (v := .tuple #[.agg #[.int .u32 (st : Int), .bool o, .int .i64 (j : Int)], u11, .bool true]) (by simp [results, Try.results8, go_sem, z0, z1, z2]) rfl ⟨?_, HZ2.out⟩
        rw [HX.out]
        refine ⟨u11, rfl, ?_⟩
        have := own_note HO.out HWF.out
        rw [<- HL.out] at this
        exact this
theorem rdLog_in (X : Option ((Nat × Bool × Nat) × List (Nat × Nat))) (hX : logR t p f u = X) (hok : okW (t : Int) (p : Int) (s : Int) m = true) (hu : u <= t) (hW : WV w A m c f) :
  Calls Try.prog 8 #[.agg #[.int .i64 (t : Int), .int .i64 (p : Int), .int .i64 (s : Int)], .slice A m c, .int .i64 (u : Int)] w fun e w' => outL X e w' /\ Below w.heap.size w w' := by
 refine (rdLogV X hX hok hu hW).mono ?_
 rintro e w' ⟨h, hb⟩
 refine ⟨?_, hb⟩
 cases X with
 | none => exact ⟨_, h, RowP.of_own (base := 0) (e := 56) (World.ownsRow_nil _ _ _ _)⟩
 | some x =>
  obtain ⟨v, rfl, ho⟩ := h
  exact ⟨_, rfl, RowP.of_own ho⟩
end
end
end Go.Proofs.Ytmjkljdnioochaa

namespace Go.Proofs.Ytmjkljdnioochaa
open Go.ChangeShapes Go.WideShapes Go.ChangeAt Go.RowKit Go.Maps
set_option linter.unusedVariables false
set_option maxRecDepth 100000
section
end
end Go.Proofs.Ytmjkljdnioochaa

namespace Go.Proofs.Ytmjkljdnioochaa
open Go.ChangeShapes Go.WideShapes Go.ChangeAt Go.RowKit
set_option linter.unusedVariables false
section
theorem ret_word {k : IntKind} {a b : Int} {c : Bool} (h : a = b) : Ending.returned (.tuple #[.int k a, .bool c]) = .returned (.tuple #[.int k b, .bool c]) := by rw [h]
def wordN (t p s : Int) : Nat := if rightB t p s then t.toNat + p.toNat * 65536 + s.toNat * 4294967296 else 0
theorem word_yes {t p s : Int} (h : rightB t p s = true) : wordN t p s = t.toNat + p.toNat * 65536 + s.toNat * 4294967296 := by unfold wordN; rw [if_pos h]
theorem word_no {t p s : Int} (h : rightB t p s = false) : wordN t p s = 0 := by unfold wordN; rw [h]; rfl

theorem r4Word_c (t p s : Int) (w : World) :
  Calls Try.prog 69 #[.agg #[.int .i64 t, .int .i64 p, .int .i64 s]] w fun e w' => e = .returned (.tuple #[.int .u64 ((wordN t p s : Nat) : Int), .bool (rightB t p s)]) /\ Below w.heap.size w w' := by
 cases hr : rightB t p s
 ·have HP := hidp (word_no hr)
  have HR := hidp hr
  clear hr
  go_enter Try.func69, Try.ntmps69
  go_wp2_with fail
  refine (r4Right_c t p s _).mono ?_
  rintro e w1 ⟨rfl, hb1⟩
  rw [HR.out]
  go_wp2
  go_ret2
  exact ⟨by rw [HP.out]; rfl, Bgo (Bnew (B0 _) _) hb1⟩
 ·have HP := hidp (word_yes hr)
  have HR := hidp hr
  obtain ⟨⟨ht, ht'⟩, ⟨hp, hp'⟩, hs, hs'⟩ := (rightB_iff t p s).1 hr
  clear hr
  go_enter Try.func69, Try.ntmps69
  go_wp2_with fail
  have hc := Held.new w 23 #[.int .i64 t, .int .i64 p, .int .i64 s]
  refine (r4Right_c t p s _).mono ?_
  rintro e w1 ⟨rfl, hb1⟩
  rw [HR.out]
  obtain ⟨c0, c1, c2⟩ := (hc.keep hb1).three
  go_wp2
  go_ret2
  exact ⟨ret_word (by rw [HP.out]; omega), Bgo (Bnew (B0 _) _) hb1⟩
end
end Go.Proofs.Ytmjkljdnioochaa

namespace Go.Proofs.Ytmjkljdnioochaa
open Go.ChangeShapes Go.WideShapes Go.ChangeAt Go.RowKit Go.Maps
set_option linter.unusedVariables false
section
def mark (D : Nat) : Deferred := { target := .collected D, args := #[] }
end
end Go.Proofs.Ytmjkljdnioochaa

namespace Go.Proofs.Ytmjkljdnioochaa
open Go.ChangeShapes Go.WideShapes Go.ChangeAt Go.RowKit Go.Shelf
set_option linter.unusedVariables false
set_option linter.unusedSimpArgs false
section
namespace AuH
variable {H : AuH}
theorem log_few {n : Nat} (h1 : 1 <= n) (h2 : n <= 1024) : 0 <= HM.logI (n : Int) /\ HM.logI (n : Int) <= 10 := by
 have h : ∃ k : Nat, k <= 10 /\ 2 ^ k <= n /\ n < 2 ^ (k + 1) := by
  rcases Nat.lt_or_ge n 1024 with h3 | h3
  ·refine ⟨Nat.log2 n, ?_, Nat.log2_self_le (by omega), Nat.lt_log2_self⟩
   have := Nat.log2_lt (n := n) (k := 10) (by omega)
   have := this.2 h3
   omega
  ·exact ⟨10, by omega, by omega, by omega⟩
 obtain ⟨k, hk, ha, hb⟩ := h
 rw [HM.logI_at (n : Int) k (by
  have e : ((n : Int) / 2 ^ k) = ((n / 2 ^ k : Nat) : Int) := by push_cast; rfl
  rw [e]
  have := Nat.div_le_div_right (c := 2 ^ k) ha
  rw [Nat.div_self (Nat.two_pow_pos k)] at this
  omega) (by
  have e : ((n : Int) / 2 ^ (k + 1)) = ((n / 2 ^ (k + 1) : Nat) : Int) := by push_cast; rfl
  rw [e, Nat.div_eq_of_lt hb]
  omega)]
 omega
end AuH
section
attribute [local go_sem] Oper.semAt_some

end
end
end Go.Proofs.Ytmjkljdnioochaa

namespace Go.Proofs.Ytmjkljdnioochaa
open Go.ChangeShapes Go.WideShapes Go.ChangeAt Go.RowKit Go.Maps
set_option linter.unusedVariables false
set_option linter.unusedSimpArgs false
section
def frB (p : Nat) : Nat := (2 + HM.logI (p : Int)).toNat
def frV (t p : Nat) (i : Nat) : Nat := if i = 0 then p else if i = frB p then 1 else if i = 30 + 4 * t then 1 + 16 * p else if i = 30 + 4 * t + 6 * (p - 1) + 1 then 1 else 0
section
variable {t p s : Nat}
theorem frB_at (h1 : 1 <= p) (h2 : p <= 1024) : (frB p : Int) = 2 + HM.logI (p : Int) /\ 2 <= frB p /\ frB p <= 12 := by
 have h := AuH.log_few h1 h2
 unfold frB
 omega
end
end
end Go.Proofs.Ytmjkljdnioochaa

namespace Go.Proofs.Ytmjkljdnioochaa
open Go.ChangeShapes Go.WideShapes Go.ChangeAt Go.RowKit Go.Maps
set_option linter.unusedVariables false
set_option linter.unusedSimpArgs false
set_option maxRecDepth 100000
section
structure Blk where
 n : Nat
 t : TypeId
 cs : Array Value
end
end Go.Proofs.Ytmjkljdnioochaa

namespace Go.Proofs.Ytmjkljdnioochaa
open Go.ChangeShapes Go.WideShapes Go.ChangeAt Go.RowKit Go.Maps
set_option linter.unusedVariables false
set_option linter.unusedSimpArgs false
section
def ofI (n : Int) : Int := if n < 1 \/ 1024 < n then -1 else HM.logI n
theorem ofI_nat {n : Nat} (h1 : 1 <= n) (h2 : n <= 1024) : ∃ k : Nat, ofI (n : Int) = k /\ k <= 10 /\ 2 ^ k <= n /\ n < 2 ^ (k + 1) := by
 have h : ∃ k : Nat, k <= 10 /\ 2 ^ k <= n /\ n < 2 ^ (k + 1) := by
  rcases Nat.lt_or_ge n 1024 with h3 | h3
  ·refine ⟨Nat.log2 n, ?_, Nat.log2_self_le (by omega), Nat.lt_log2_self⟩
   have := Nat.log2_lt (n := n) (k := 10) (by omega)
   have := this.2 h3
   omega
  ·exact ⟨10, by omega, by omega, by omega⟩
 obtain ⟨k, hk, ha, hb⟩ := h
 refine ⟨k, ?_, hk, ha, hb⟩
 unfold ofI
 rw [if_neg (by omega)]
 exact HM.logI_at (n : Int) k (by
  have e : ((n : Int) / 2 ^ k) = ((n / 2 ^ k : Nat) : Int) := by push_cast; rfl
  rw [e]
  have := Nat.div_le_div_right (c := 2 ^ k) ha
  rw [Nat.div_self (Nat.two_pow_pos k)] at this
  omega) (by
  have e : ((n : Int) / 2 ^ (k + 1)) = ((n / 2 ^ (k + 1) : Nat) : Int) := by push_cast; rfl
  rw [e, Nat.div_eq_of_lt hb]
  omega)
end
end Go.Proofs.Ytmjkljdnioochaa

namespace Go.Proofs.Ytmjkljdnioochaa
open Go.ChangeShapes Go.WideShapes Go.ChangeAt Go.RowKit Go.Maps
set_option linter.unusedVariables false
set_option linter.unusedSimpArgs false
set_option maxRecDepth 100000
section
theorem Held.drw {w : World} {g : Nat} {t : TypeId} {cs : Array Value} (h : Held w g t cs) : Held w.drew g t cs := h
end
section
theorem ofI_log {n : Int} (h : n <= 1024) : HM.logI n = ofI n := by
 unfold ofI
 by_cases h1 : n < 1
 ·rw [if_pos (.inl h1), HM.logI_no n h1]
 ·rw [if_neg (by omega)]
theorem ofI_high {n : Int} (h : 1024 < n) : ofI n = -1 := by unfold ofI; rw [if_pos (.inr h)]
theorem ofI_low {n : Int} (h : n < 1) : ofI n = -1 := by unfold ofI; rw [if_pos (.inl h)]

theorem r14Of_c (n : Int) (h0 : -9223372036854775808 <= n) (h1 : n <= 9223372036854775807) (w : World) :
  Calls Try.prog 49 #[.int .i64 n] w fun e w' => e = .returned (.int .i64 (ofI n)) /\ w = w' := by
 by_cases hl : n < 1
 ·have t0 : decide (n < (1 : Int)) = true := decide_eq_true hl
  have HO := hidp (ofI_low hl)
  go_enter Try.func49, Try.ntmps49
  go_wp2
  go_ret
  exact ⟨by rw [HO.out]; rfl, rfl⟩
 ·have t0 : decide (n < (1 : Int)) = false := decide_eq_false hl
  by_cases h : 1024 < n
  ·have t1 : decide ((1024 : Int) < n) = true := decide_eq_true h
   have HO := hidp (ofI_high h)
   go_enter Try.func49, Try.ntmps49
   go_wp2
   go_ret
   exact ⟨by rw [HO.out]; rfl, rfl⟩
  ·have t1 : decide ((1024 : Int) < n) = false := decide_eq_false h
   have HO : Hid (HM.logI n = ofI n) := hidp (ofI_log (by omega))
   go_enter Try.func49, Try.ntmps49
   go_wp2_with fail
   refine (RLog_c n h0 h1 _).mono ?_
   rintro e w1 ⟨rfl, rfl⟩
   rw [HO.out]
   go_wp2
   go_ret
   exact ⟨rfl, rfl⟩

theorem r9Value_c (k l c : Int) (w : World) :
  Calls Try.prog 50 #[.int .i64 k, .int .i64 l, .int .i64 c] w fun e w' => e = .returned (.int .u32 ((infoV k l c : Nat) : Int)) /\ Below w.heap.size w w' := by
 go_enter Try.func50, Try.ntmps50
 go_wp2_with fail
 refine (r9Put_c k l c _).mono ?_
 rintro e w1 ⟨rfl, hb⟩
 go_wp2
 go_ret
 exact ⟨rfl, hb⟩
end
end Go.Proofs.Ytmjkljdnioochaa

namespace Go.Proofs.Ytmjkljdnioochaa.SM

def stp (r : Nat) (b : Bool) : Nat := if (r.testBit 0 != b) then r / 2 ^^^ 2197175160 else r / 2
theorem stp_lt {r : Nat} (h : r < 2 ^ 32) (b : Bool) : stp r b < 2 ^ 32 := by
 unfold stp
 split
 ·exact Nat.xor_lt_two_pow (by omega) (by omega)
 ·omega
def rn (f : Nat -> Bool) (r : Nat) : Nat -> Nat
 | 0 => r
 | p + 1 => stp (rn f r p) (f p)
theorem rn_lt (f : Nat -> Bool) {r : Nat} (h : r < 2 ^ 32) (p : Nat) : rn f r p < 2 ^ 32 := by
 induction p with
 | zero => exact h
 | succ p ih => exact stp_lt ih _
def nx (r x k : Nat) : Nat := rn (fun i => x.testBit i) r k
def nextN (r x : Nat) : Nat := nx r x 64
theorem nx_succ (r x k : Nat) : nx r x (k + 1) = stp (nx r x k) (x.testBit k) := rfl
theorem nx_lt {r : Nat} (h : r < 2 ^ 32) (x k : Nat) : nx r x k < 2 ^ 32 := rn_lt _ h k
def regs (r : Nat) (ws : List Nat) : Nat := ws.foldl nextN r
theorem regs_lt {r : Nat} (h : r < 2 ^ 32) (ws : List Nat) : regs r ws < 2 ^ 32 := by
 unfold regs
 induction ws generalizing r with
 | nil => exact h
 | cons x ws ih => exact ih (nx_lt h x 64)
theorem regs_snoc (r : Nat) (ws : List Nat) (x : Nat) : regs r (ws ++ [x]) = nextN (regs r ws) x := by unfold regs; simp
theorem regs_take (r : Nat) (ws : List Nat) (k : Nat) (h : k < ws.length) : regs r (ws.take (k + 1)) = nextN (regs r (ws.take k)) (ws.getD k 0) := by
 rw [List.take_succ_eq_append_getElem h, regs_snoc]
 simp [List.getD, List.getElem?_eq_getElem h]
def ofN (ws : List Nat) : Nat := 4294967295 - regs 4294967295 ws

end Go.Proofs.Ytmjkljdnioochaa.SM

namespace Go.Proofs.Ytmjkljdnioochaa
open Go.ChangeShapes Go.WideShapes Go.ChangeAt Go.RowKit
set_option linter.unusedVariables false
section
def head7 (t p s : Int) : List Nat := [0x4e41435245303031, 1, wordN t p s, (lW t p s).toNat, 0, 0, 0]
def headL (t p s : Int) : List Nat := head7 t p s ++ [SM.ofN (head7 t p s)]
theorem word_lt (t p s : Int) : wordN t p s < 2 ^ 64 := by
 unfold wordN
 split
 ·rename_i h
  have := (rightB_iff t p s).1 h
  omega
 ·omega
theorem headL_len (t p s : Int) : (headL t p s).length = 8 := rfl
theorem head7_lt (t p s : Int) : ∀ x ∈ head7 t p s, x < 2 ^ 64 := by
 have h1 := word_lt t p s
 have h2 := words_bounds t p s
 intro x hx
 simp only [head7, List.mem_cons, List.not_mem_nil, or_false] at hx
 omega
theorem ofN_lt (ws : List Nat) : SM.ofN ws < 2 ^ 32 := by unfold SM.ofN; omega
end
section
theorem xor_const (r : Nat) (hr : r < 2 ^ 32) : bits .xor .u32 ((r : Int) / 2) 2197175160 = ((r / 2 ^^^ 2197175160 : Nat) : Int) := by
 have e : (r : Int) / 2 = ((r / 2 : Nat) : Int) := by omega
 rw [e]
 exact u32_xor_nat (r / 2) 2197175160 (by omega) (by omega)
theorem odd_nat (r : Nat) : (((r : Int) % 2) == 1) = r.testBit 0 := by
 have := odd_bit r 0
 simpa using this
theorem r2bit_c (r : Nat) (b : Bool) (hr : r < 2 ^ 32) (w : World) : Calls Try.prog 84 #[.int .u32 (r : Int), .bool b] w fun e w' => e = .returned (.int .u32 ((SM.stp r b : Nat) : Int)) /\ w = w' := by
 have HX := hidp (xor_const r hr)
 have HO := hidp (odd_nat r)
 go_enter Try.func84, Try.ntmps84
 go_wp2
 ·rename_i h
  go_ret
  exact ⟨ret_int (by rw [HO.out] at h; rw [HX.out]; unfold SM.stp; rw [if_pos]; simpa using h), rfl⟩
 ·rename_i h
  go_ret
  exact ⟨ret_int (by rw [HO.out] at h; unfold SM.stp; rw [if_neg (by simpa using h)]; omega), rfl⟩

theorem RNext_c (r x : Nat) (hr : r < 2 ^ 32) (hx : x < 2 ^ 64) (w : World) :
  Calls Try.prog 80 #[.int .u32 (r : Int), .int .u64 (x : Int)] w fun e w' => e = .returned (.int .u32 ((SM.nextN r x : Nat) : Int)) /\ w = w' := by
 have HL : Hid (∀ k : Nat, k < 32 -> (x % 4294967296).testBit ((k : Int).toNat) = x.testBit k) := hidp (fun k hk => by
  rw [show (4294967296 : Nat) = 2 ^ 32 from rfl, Nat.testBit_mod_two_pow, Int.toNat_natCast]; simp [hk])
 have HH : Hid (∀ k : Nat, (x / 4294967296).testBit ((k : Int).toNat) = x.testBit (32 + k)) := hidp (fun k => by
  rw [show (4294967296 : Nat) = 2 ^ 32 from rfl, Nat.testBit_div_two_pow, Int.toNat_natCast, Nat.add_comm])
 go_enter Try.func80, Try.ntmps80
 go_wp2
 go_loop [0, 5] (fun q i => ∃ k : Nat, k <= 32 /\ i = .int .i64 k /\ q = .int .u32 ((SM.nx r x k : Nat) : Int)) (fun _ i => 32 - (intOf i).toNat)
 case atStart => exact ⟨0, by omega, rfl, rfl⟩
 case round =>
  obtain ⟨k, hk, rfl, rfl⟩ := hrel
  have hn := SM.nx_lt hr x k
  by_cases hlt : k < 32
  ·have HS := hidp (SM.nx_succ r x k)
   have HT := hidp (HL.out k hlt)
   go_wp2_with fail
   refine (RLo_c x hx _).mono ?_
   rintro e w' ⟨rfl, rfl⟩
   go_wp2_with fail
   refine (Bit_c _ k _ (by omega) (by omega) (by omega) HT.out _).mono ?_
   rintro e w' ⟨rfl, rfl⟩
   go_wp2_with fail
   refine (r2bit_c _ _ hn _).mono ?_
   rintro e w' ⟨rfl, rfl⟩
   rw [<- HS.out]
   go_wp2
   go_round
   case rel => exact ⟨k + 1, by omega, by go_num, rfl⟩
   case measure => simp [intOf]; omega
  ·obtain rfl : k = 32 := by omega
   go_wp2
   go_loop [0, 6] (fun q i => ∃ k : Nat, k <= 32 /\ i = .int .i64 k /\ q = .int .u32 ((SM.nx r x (32 + k) : Nat) : Int)) (fun _ i => 32 - (intOf i).toNat)
   case atStart => exact ⟨0, by omega, rfl, rfl⟩
   case round =>
    obtain ⟨k, hk, rfl, rfl⟩ := hrel
    have hn := SM.nx_lt hr x (32 + k)
    by_cases hlt : k < 32
    ·have HS := hidp (SM.nx_succ r x (32 + k))
     have HT := hidp (HH.out k)
     go_wp2_with fail
     refine (RHi_c x hx _).mono ?_
     rintro e w' ⟨rfl, rfl⟩
     go_wp2_with fail
     refine (Bit_c _ k _ (by omega) (by omega) (by omega) HT.out _).mono ?_
     rintro e w' ⟨rfl, rfl⟩
     go_wp2_with fail
     refine (r2bit_c _ _ hn _).mono ?_
     rintro e w' ⟨rfl, rfl⟩
     rw [<- HS.out]
     go_wp2
     go_round
     case rel => exact ⟨k + 1, by omega, by go_num, rfl⟩
     case measure => simp [intOf]; omega
    ·obtain rfl : k = 32 := by omega
     go_wp2
     go_ret
     exact ⟨rfl, rfl⟩
theorem ROf_c (A : Option Addr) (c : Nat) (ws : List Nat) (h64 : ∀ x ∈ ws, x < 2 ^ 64) (hm : ws.length <= maxLen) (w : World) (B : Nat) (hr : Reads w B 1 A ws.length (wordVs ws)) :
  Calls Try.prog 70 #[.slice A ws.length c] w fun e w' => e = .returned (.int .u32 ((SM.ofN ws : Nat) : Int)) /\ w = w' := by
 unfold maxLen at hm
 have HR := hidp hr
 have HB : Hid (∀ k, SM.regs 4294967295 (ws.take k) < 2 ^ 32) := hidp (fun k => SM.regs_lt (by omega) _)
 have H64 : Hid (∀ k, ws.getD k 0 < 2 ^ 64) := hidp (fun k => getD_lt (by omega) h64 k)
 have HS : Hid (∀ k, k < ws.length -> SM.regs 4294967295 (ws.take (k + 1)) = SM.nextN (SM.regs 4294967295 (ws.take k)) (ws.getD k 0)) := hidp (fun k hk => SM.regs_take _ _ _ hk)
 have HV : Hid (∀ k, k < ws.length -> (wordVs ws)[k]? = some (.int .u64 ((ws.getD k 0 : Nat) : Int))) := hidp (fun k hk => wordVs_at ws k hk)
 have HE : Hid (SM.regs 4294967295 (ws.take ws.length) = SM.regs 4294967295 ws) := hidp (by rw [List.take_length])
 have H0 : Hid (SM.regs 4294967295 (ws.take 0) = 4294967295) := hidp rfl
 clear hr h64
 generalize hn : ws.length = n at *
 clear hn
 go_enter Try.func70, Try.ntmps70
 go_wp2
 go_loop [3, 4] (fun q i => ∃ k : Nat, k <= n /\ i = .int .i64 k /\ q = .int .u32 ((SM.regs 4294967295 (ws.take k) : Nat) : Int)) (fun _ i => n - (intOf i).toNat)
 case atStart => exact ⟨0, by omega, rfl, by rw [H0.out]; rfl⟩
 case round =>
  obtain ⟨k, hk, rfl, rfl⟩ := hrel
  have hq := HB.out k
  by_cases hlt : k < n
  ·obtain ⟨ad, u, rfl, _, hx, hc⟩ := HR.out.at_ hlt
   have HT := hidp (HS.out k hlt)
   have h64 := H64.out k
   have hu := HV.out k hlt
   rw [hx] at hu
   injection hu with hu
   subst hu
   have HX := hidp hx
   clear hx
   generalize ws.getD k 0 = x at *
   go_wp2_with fail
   refine (RNext_c _ x hq h64 _).mono ?_
   rintro e w' ⟨rfl, rfl⟩
   rw [<- HT.out]
   go_wp2
   go_round
   case rel => exact ⟨k + 1, by omega, by go_num, rfl⟩
   case measure => simp [intOf]; omega
  ·obtain rfl : k = n := by omega
   go_wp2
   go_ret
   exact ⟨ret_int (by rw [HE.out]; unfold SM.ofN; have := HB.out k; rw [HE.out] at this; omega), rfl⟩
theorem ROf_n (A : Option Addr) (c n : Nat) (ws : List Nat) (hn : Hid (ws.length = n)) (h64 : Hid (∀ x ∈ ws, x < 2 ^ 64)) (hm : Hid (n <= maxLen)) (w : World) (B : Nat) (hr : Reads w B 1 A n (wordVs ws)) :
  Calls Try.prog 70 #[.slice A n c] w fun e w' => e = .returned (.int .u32 ((SM.ofN ws : Nat) : Int)) /\ w = w' := by
 obtain rfl := hn.out
 exact ROf_c A c ws h64.out hm.out w B hr
end
end Go.Proofs.Ytmjkljdnioochaa
