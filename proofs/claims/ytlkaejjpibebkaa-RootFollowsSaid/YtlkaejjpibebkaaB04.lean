/-
  The law RootFollows: the walk. Written by root/gen_follows.py.
-/
import Derived.Test.YtlkaejjpibebkaaB03
import Derived.Test.YtlkaejjpibebkaaB02
import Derived.Deep.RegionHeld3
import Derived.Deep.CutRange
namespace Go.Proofs.Ytlkaejjpibebkaa
open Go.ChangeShapes Go.WideShapes Go.ChangeAt Go.RowKit Go.Maps
set_option linter.unusedVariables false
set_option linter.unusedSimpArgs false
set_option maxRecDepth 100000
section
theorem RootFollows_out0 (A : Option Addr) (c n : Nat) (xi xa xt xw0 xw1 xw2 : Int)  (hn : n < 30) (W : World) : Calls Try.prog 4 #[.slice A n c, .agg #[.int .i64 xi, .int .i64 xa, .int .i64 xt, .int .i64 xw0, .int .i64 xw1, .int .i64 xw2]] W (Keeps W) := by
 have t0 : decide ((n : Int) < 30) = true := decide_eq_true (by omega)
 have HX := hidp (Held.new W 31 #[.int .i64 xi, .int .i64 xa, .int .i64 xt, .int .i64 xw0, .int .i64 xw1, .int .i64 xw2])
 have HB := hidp (Bnew (B0 W) (.cells #[.int .i64 xi, .int .i64 xa, .int .i64 xt, .int .i64 xw0, .int .i64 xw1, .int .i64 xw2] 31))
 obtain ⟨a0, a1, a2, a3, a4, a5⟩ := HX.out.sixR
 go_enter Try.func4, Try.ntmps4
 go_wp2_with fail
 refine (live21_c _).mono ?_
 rintro e w2 ⟨rfl, hb⟩
 replace HB := hidp (Bgo HB.out hb)
 clear hb
 go_wp2
 go_ret
 exact ⟨rfl, HB.out⟩

theorem RootFollows_out1 (A : Option Addr) (c n : Nat) (xi xa xt xw0 xw1 xw2 : Int) (hn : 30 <= n) (hm : 500 < n) (W : World) : Calls Try.prog 4 #[.slice A n c, .agg #[.int .i64 xi, .int .i64 xa, .int .i64 xt, .int .i64 xw0, .int .i64 xw1, .int .i64 xw2]] W (Keeps W) := by
 have t0 : decide ((n : Int) < 30) = false := decide_eq_false (by omega)
 have t1 : decide ((500 : Int) < (n : Int)) = true := decide_eq_true (by omega)
 have HX := hidp (Held.new W 31 #[.int .i64 xi, .int .i64 xa, .int .i64 xt, .int .i64 xw0, .int .i64 xw1, .int .i64 xw2])
 have HB := hidp (Bnew (B0 W) (.cells #[.int .i64 xi, .int .i64 xa, .int .i64 xt, .int .i64 xw0, .int .i64 xw1, .int .i64 xw2] 31))
 obtain ⟨a0, a1, a2, a3, a4, a5⟩ := HX.out.sixR
 go_enter Try.func4, Try.ntmps4
 go_wp2_with fail
 refine (live21_c _).mono ?_
 rintro e w2 ⟨rfl, hb⟩
 replace HB := hidp (Bgo HB.out hb)
 clear hb
 go_wp2
 go_ret
 exact ⟨rfl, HB.out⟩

theorem RootFollows_out2 (A : Option Addr) (c n : Nat) (xi xa xt xw0 xw1 xw2 : Int) (hn : 30 <= n) (hm : n <= 500) (ha : xa < 1) (W : World) : Calls Try.prog 4 #[.slice A n c, .agg #[.int .i64 xi, .int .i64 xa, .int .i64 xt, .int .i64 xw0, .int .i64 xw1, .int .i64 xw2]] W (Keeps W) := by
 have t0 : decide ((n : Int) < 30) = false := decide_eq_false (by omega)
 have t1 : decide ((500 : Int) < (n : Int)) = false := decide_eq_false (by omega)
 have t2 : decide (xa < 1) = true := decide_eq_true (by omega)
 have HX := hidp (Held.new W 31 #[.int .i64 xi, .int .i64 xa, .int .i64 xt, .int .i64 xw0, .int .i64 xw1, .int .i64 xw2])
 have HB := hidp (Bnew (B0 W) (.cells #[.int .i64 xi, .int .i64 xa, .int .i64 xt, .int .i64 xw0, .int .i64 xw1, .int .i64 xw2] 31))
 obtain ⟨a0, a1, a2, a3, a4, a5⟩ := HX.out.sixR
 go_enter Try.func4, Try.ntmps4
 go_wp2_with fail
 refine (live21_c _).mono ?_
 rintro e w2 ⟨rfl, hb⟩
 replace HB := hidp (Bgo HB.out hb)
 clear hb
 go_wp2
 go_ret
 exact ⟨rfl, HB.out⟩

theorem RootFollows_out3 (A : Option Addr) (c n : Nat) (xi xa xt xw0 xw1 xw2 : Int) (hn : 30 <= n) (hm : n <= 500) (ha : 1 <= xa) (hb : 4294967295 < xa) (W : World) : Calls Try.prog 4 #[.slice A n c, .agg #[.int .i64 xi, .int .i64 xa, .int .i64 xt, .int .i64 xw0, .int .i64 xw1, .int .i64 xw2]] W (Keeps W) := by
 have t0 : decide ((n : Int) < 30) = false := decide_eq_false (by omega)
 have t1 : decide ((500 : Int) < (n : Int)) = false := decide_eq_false (by omega)
 have t2 : decide (xa < 1) = false := decide_eq_false (by omega)
 have t3 : decide ((4294967295 : Int) < xa) = true := decide_eq_true (by omega)
 have HX := hidp (Held.new W 31 #[.int .i64 xi, .int .i64 xa, .int .i64 xt, .int .i64 xw0, .int .i64 xw1, .int .i64 xw2])
 have HB := hidp (Bnew (B0 W) (.cells #[.int .i64 xi, .int .i64 xa, .int .i64 xt, .int .i64 xw0, .int .i64 xw1, .int .i64 xw2] 31))
 obtain ⟨a0, a1, a2, a3, a4, a5⟩ := HX.out.sixR
 go_enter Try.func4, Try.ntmps4
 go_wp2_with fail
 refine (live21_c _).mono ?_
 rintro e w2 ⟨rfl, hb⟩
 replace HB := hidp (Bgo HB.out hb)
 clear hb
 go_wp2
 go_ret
 exact ⟨rfl, HB.out⟩

theorem RootFollows_out4 (A : Option Addr) (c n : Nat) (xi xa xt xw0 xw1 xw2 : Int) (hn : 30 <= n) (hm : n <= 500) (ha : 1 <= xa) (hb : xa <= 4294967295) (hc : xt < 1) (W : World) : Calls Try.prog 4 #[.slice A n c, .agg #[.int .i64 xi, .int .i64 xa, .int .i64 xt, .int .i64 xw0, .int .i64 xw1, .int .i64 xw2]] W (Keeps W) := by
 have t0 : decide ((n : Int) < 30) = false := decide_eq_false (by omega)
 have t1 : decide ((500 : Int) < (n : Int)) = false := decide_eq_false (by omega)
 have t2 : decide (xa < 1) = false := decide_eq_false (by omega)
 have t3 : decide ((4294967295 : Int) < xa) = false := decide_eq_false (by omega)
 have t4 : decide (xt < 1) = true := decide_eq_true (by omega)
 have HX := hidp (Held.new W 31 #[.int .i64 xi, .int .i64 xa, .int .i64 xt, .int .i64 xw0, .int .i64 xw1, .int .i64 xw2])
 have HB := hidp (Bnew (B0 W) (.cells #[.int .i64 xi, .int .i64 xa, .int .i64 xt, .int .i64 xw0, .int .i64 xw1, .int .i64 xw2] 31))
 obtain ⟨a0, a1, a2, a3, a4, a5⟩ := HX.out.sixR
 go_enter Try.func4, Try.ntmps4
 go_wp2_with fail
 refine (live21_c _).mono ?_
 rintro e w2 ⟨rfl, hb⟩
 replace HB := hidp (Bgo HB.out hb)
 clear hb
 go_wp2
 go_ret
 exact ⟨rfl, HB.out⟩

theorem RootFollows_out5 (A : Option Addr) (c n : Nat) (xi xa xt xw0 xw1 xw2 : Int) (hn : 30 <= n) (hm : n <= 500) (ha : 1 <= xa) (hb : xa <= 4294967295) (hc : 1 <= xt) (hd : 4294967295 < xt) (W : World) : Calls Try.prog 4 #[.slice A n c, .agg #[.int .i64 xi, .int .i64 xa, .int .i64 xt, .int .i64 xw0, .int .i64 xw1, .int .i64 xw2]] W (Keeps W) := by
 have t0 : decide ((n : Int) < 30) = false := decide_eq_false (by omega)
 have t1 : decide ((500 : Int) < (n : Int)) = false := decide_eq_false (by omega)
 have t2 : decide (xa < 1) = false := decide_eq_false (by omega)
 have t3 : decide ((4294967295 : Int) < xa) = false := decide_eq_false (by omega)
 have t4 : decide (xt < 1) = false := decide_eq_false (by omega)
 have t5 : decide ((4294967295 : Int) < xt) = true := decide_eq_true (by omega)
 have HX := hidp (Held.new W 31 #[.int .i64 xi, .int .i64 xa, .int .i64 xt, .int .i64 xw0, .int .i64 xw1, .int .i64 xw2])
 have HB := hidp (Bnew (B0 W) (.cells #[.int .i64 xi, .int .i64 xa, .int .i64 xt, .int .i64 xw0, .int .i64 xw1, .int .i64 xw2] 31))
 obtain ⟨a0, a1, a2, a3, a4, a5⟩ := HX.out.sixR
 go_enter Try.func4, Try.ntmps4
 go_wp2_with fail
 refine (live21_c _).mono ?_
 rintro e w2 ⟨rfl, hb⟩
 replace HB := hidp (Bgo HB.out hb)
 clear hb
 go_wp2
 go_ret
 exact ⟨rfl, HB.out⟩

def wholeR21 (vals : List Nat) : Nat -> Option Nat := fun i => vals[i]?
set_option maxHeartbeats 12800000 in
theorem RootFollows_main (ad : Addr) (c n : Nat) (vals : List Nat) (xi xw0 xw1 xw2 : Int) (x0 y0 : Nat) (HBI : Hid (-9223372036854775808 <= xi /\ xi <= 9223372036854775807)) (HNN : Hid (vals.length = n)) (H32 : Hid (∀ x ∈ vals, x < 2 ^ 32))
  (hn : 30 <= n) (hm : n <= 500) (hx1 : 1 <= x0) (hx2 : x0 <= 4294967295) (hy1 : 1 <= y0) (hy2 : y0 <= 4294967295) (hnc : n <= c) (hcm : c <= maxLen) (W : World) (HR : Hid (Reads W W.heap.size 1 (some ad) n (valVs vals)))
  (f0 f1 : Nat -> Nat) (hf0 : ∀ i, i < 8 -> vals[22 + i]? = some (f0 i)) (hf1 : ∀ i : Nat, i < 8 -> ((i : Int) = xi -> f1 i = x0) /\ ((i : Int) ≠ xi -> f1 i = f0 i)) (s1 : Vst) (hst : stS n xi (x0 : Int) freshS = s1) (hrt : RtAt n (wholeR21 vals) f1 s1) :
  Calls Try.prog 4 #[.slice (some ad) n c, .agg #[.int .i64 xi, .int .i64 (x0 : Int), .int .i64 (y0 : Int), .int .i64 xw0, .int .i64 xw1, .int .i64 xw2]] W (Keeps W) := by
 have t0 : decide ((n : Int) < 30) = false := decide_eq_false (by omega)
 have t1 : decide ((500 : Int) < (n : Int)) = false := decide_eq_false (by omega)
 have t2 : decide ((x0 : Int) < 1) = false := decide_eq_false (by omega)
 have t3 : decide ((4294967295 : Int) < (x0 : Int)) = false := decide_eq_false (by omega)
 have t4 : decide ((y0 : Int) < 1) = false := decide_eq_false (by omega)
 have t5 : decide ((4294967295 : Int) < (y0 : Int)) = false := decide_eq_false (by omega)
 have t0n : decide (n < 30) = false := decide_eq_false (by omega)
 have t1n : decide (500 < n) = false := decide_eq_false (by omega)
 have t2n : decide (x0 < 1) = false := decide_eq_false (by omega)
 have t3n : decide (4294967295 < x0) = false := decide_eq_false (by omega)
 have t4n : decide (y0 < 1) = false := decide_eq_false (by omega)
 have t5n : decide (4294967295 < y0) = false := decide_eq_false (by omega)
 have hcm2 : c <= 9223372036854775807 := hcm
 have hn40 : n < 2 ^ 40 := by omega
 have HBA : Hid (-9223372036854775808 <= (x0 : Int) /\ (x0 : Int) <= 9223372036854775807) := hidp (by omega)
 have HBT : Hid (-9223372036854775808 <= (y0 : Int) /\ (y0 : Int) <= 9223372036854775807) := hidp (by omega)
 have HF0 := hidp hf0
 have HF1 := hidp hf1
 have HST := hidp hst
 have HRT := hidp hrt
 obtain ⟨sb, hsb⟩ : ∃ sb, stB xi (x0 : Int) = sb := ⟨_, rfl⟩
 have hsr : sb = rtB xi := by rw [<- hsb]; unfold stB; rw [show decide (0 <= (x0 : Int) /\ (x0 : Int) <= 4294967295) = true from decide_eq_true (by omega), Bool.and_true]
 have HSB := hidp hsb
 have HSR := hidp hsr
 have HX := hidp (Held.new W 31 #[.int .i64 xi, .int .i64 (x0 : Int), .int .i64 (y0 : Int), .int .i64 xw0, .int .i64 xw1, .int .i64 xw2])
 have HB := hidp (Bnew (B0 W) (.cells #[.int .i64 xi, .int .i64 (x0 : Int), .int .i64 (y0 : Int), .int .i64 xw0, .int .i64 xw1, .int .i64 xw2] 31))
 clear hst hrt hsb hsr hf0 hf1
 obtain ⟨a0, a1, a2, a3, a4, a5⟩ := HX.out.sixR
 go_enter Try.func4, Try.ntmps4
 go_wp2_with fail
 generalize hNX : W.heap.size = NX at HX ⊢
 generalize hW1 : W.alloc (.cells #[.int .i64 xi, .int .i64 (x0 : Int), .int .i64 (y0 : Int), .int .i64 xw0, .int .i64 xw1, .int .i64 xw2] 31) = w1 at *
 have HLX : Hid (W.heap.size = NX) := hidp hNX
 clear hNX hW1
 have HR1 : Hid (Reads w1 w1.heap.size 1 (some ad) n (valVs vals)) := hidp ((HR.out.below HB.out).more HB.out.size)
 refine (Whole_c (some ad) c vals n HNN.out (by omega) H32.out _ (by
  intro h0
  obtain ⟨ad', e, _, hc⟩ := HR1.out.2 h0
  exact ⟨ad', e, hc⟩)).mono ?_
 rintro e w2 ⟨b1, o1, rfl, hI, hB⟩
 generalize hz1 : w1.heap.size = z1 at hI
 have HD : Hid (Duo W (vOb z1 b1 n true (wholeR21 vals)) noOb (o1.A b1) (fun _ => False) (fun g => g = NX) freshS freshS w2) := hidp (duo_made (W := W) hI (by have := HB.out.size; omega) (Bgo HB.out hB) (fun g hg => by
  subst hg
  have h1 := HX.out.lt
  have h2 := hB.size
  exact ⟨by omega, fun x => by have := hI.ge _ x; omega⟩))
 replace HX := hidp (HX.out.keep hB)
 clear hI hB HB HR1 hz1
 clear a0 a1 a2 a3 a4 a5
 obtain ⟨a0, a1, a2, a3, a4, a5⟩ := HX.out.sixR
 go_wp2_with fail
 go_cut [59] from 45 to 59 (fun u59 wx => ∃ A6 : Nat -> Prop, u59 = .bool false /\ Duo W (vOb z1 b1 n true (wholeR21 vals)) noOb A6 (fun _ => False) (fun g => g = NX) s1 freshS wx /\ Held wx NX 31 #[.int .i64 xi, .int .i64 (x0 : Int), .int .i64 (y0 : Int), .int .i64 xw0, .int .i64 xw1, .int .i64 xw2])
 case first =>
  by_cases h0 : xi < 0
  ·have s0 : decide (0 <= xi) = false := decide_eq_false (by omega)
   have HE : Hid (sb = false) := hidp (by rw [HSR.out]; exact decide_eq_false (by omega))
   clear h0
   replace HX := hidp (HX.out.keep (Bdrew (B0 _)))
   replace HD := hidp (HD.out.keep (Bdrew (B0 _)))
   refine wp_region_held_drew (S := (fun w' => w'.cell? ⟨NX, 0, none⟩ = some (.int .i64 xi) /\ w'.cell? ⟨NX, 1, none⟩ = some (.int .i64 (x0 : Int)) /\ w'.cell? ⟨NX, 2, none⟩ = some (.int .i64 (y0 : Int)))) (by kernel_rfl) ?_ (fun hHeld => ?_)
   ·(try dsimp only)
    first | exact ⟨HX.out.sixR.1, HX.out.sixR.2.1, HX.out.sixR.2.2.1⟩ | exact hHeld
   refine tkz 0 ?_
   refine tkz 1 ?_
   refine tkz 2 ?_
   refine tkz 3 ?_
   refine tkz 4 ?_
   refine tkz 6 ?_
   refine tkz 7 ?_
   refine tkz 8 ?_
   refine rdz 5 fun K hK => ?_
   go_simp
   refine (rtSet_c hn40 xi (x0 : Int) HBI.out HBA.out HD.out.at1).mono ?_
   rintro e w5 ⟨rfl, h1, _⟩
   obtain ⟨A5, h2, h3⟩ := HD.out.left1 h1.left
   rw [HST.out] at h2
   rw [HSB.out]
   replace HX := hidp (h3.held (rfl) HX.out)
   replace HD := hidp h2
   clear h1 h2 h3
   rw [HE.out]
   refine hK.out _ _ ?_ (fun hHeld => ?_)
   ·(try dsimp only)
    first | exact ⟨HX.out.sixR.1, HX.out.sixR.2.1, HX.out.sixR.2.2.1⟩ | exact hHeld
   clear hK K
   (try simp only [Act.put, gA, gB, gC, sA, sB, sC])
   refine tkz 9 ?_
   refine skz 10 ?_
   refine skz 11 ?_
   refine skz 12 ?_
   refine tkz 13 ?_
   refine tkz 14 ?_
   refine dnz ?_
   go_wp2_with fail
   go_meet
   case rel => exact ⟨_, rfl, HD.out, HX.out⟩
  ·have s0 : decide (0 <= xi) = true := decide_eq_true (by omega)
   have HE : Hid (sb = decide (xi <= 7)) := hidp (by rw [HSR.out]; unfold rtB; congr 1; exact propext ⟨fun h => h.2, fun h => ⟨by omega, h⟩⟩)
   obtain ⟨b7, hb7⟩ : ∃ b, decide (xi <= 7) = b := ⟨_, rfl⟩
   have hbb : (b7 != b7) = false := by simp
   rw [hb7] at HE
   clear h0
   replace HX := hidp (HX.out.keep (Bdrew (B0 _)))
   replace HD := hidp (HD.out.keep (Bdrew (B0 _)))
   refine wp_region_held_drew (S := (fun w' => w'.cell? ⟨NX, 0, none⟩ = some (.int .i64 xi) /\ w'.cell? ⟨NX, 1, none⟩ = some (.int .i64 (x0 : Int)) /\ w'.cell? ⟨NX, 2, none⟩ = some (.int .i64 (y0 : Int)))) (by kernel_rfl) ?_ (fun hHeld => ?_)
   ·(try dsimp only)
    first | exact ⟨HX.out.sixR.1, HX.out.sixR.2.1, HX.out.sixR.2.2.1⟩ | exact hHeld
   refine tkz 0 ?_
   refine tkz 1 ?_
   refine tkz 2 ?_
   refine tkz 3 ?_
   refine tkz 4 ?_
   refine tkz 6 ?_
   refine tkz 7 ?_
   refine tkz 8 ?_
   refine rdz 5 fun K hK => ?_
   go_simp
   refine (rtSet_c hn40 xi (x0 : Int) HBI.out HBA.out HD.out.at1).mono ?_
   rintro e w5 ⟨rfl, h1, _⟩
   obtain ⟨A5, h2, h3⟩ := HD.out.left1 h1.left
   rw [HST.out] at h2
   rw [HSB.out]
   replace HX := hidp (h3.held (rfl) HX.out)
   replace HD := hidp h2
   clear h1 h2 h3
   rw [HE.out]
   refine hK.out _ _ ?_ (fun hHeld => ?_)
   ·(try dsimp only)
    first | exact ⟨HX.out.sixR.1, HX.out.sixR.2.1, HX.out.sixR.2.2.1⟩ | exact hHeld
   clear hK K
   (try simp only [Act.put, gA, gB, gC, sA, sB, sC])
   refine tkz 9 ?_
   refine tkz 10 ?_
   refine tkz 11 ?_
   refine tkz 12 ?_
   refine tkz 13 ?_
   refine tkz 14 ?_
   refine dnz ?_
   go_wp2_with fail
   go_meet
   case rel => exact ⟨_, rfl, HD.out, HX.out⟩
 case rest =>
  clear HD HX a0 a1 a2 a3 a4 a5
  obtain ⟨A6, rfl, hd, hx⟩ := hcut
  have HD := hidp hd
  have HX := hidp hx
  clear hd hx
  have HLB : Hid (W.heap.size <= wc.heap.size) := hidp HD.out.bel.size
  have HNE : Hid (NX ≠ wc.heap.size) := hidp (by have := HX.out.lt; omega)
  have HY : Hid (Held (wc.alloc (.cells (arr8 (fun _ => 0)) 48)) wc.heap.size 48 (arr8 (fun _ => 0))) := hidp (Held.new wc _ _)
  replace HD := hidp (HD.out.keep2 (G' := fun g => g = NX \/ g = wc.heap.size) (Bnew (B0 _) (.cells (arr8 (fun _ => 0)) 48)) (fun i x => by
   rcases x with x | x
   ·exact .inl x
   ·exact .inr (by subst x; simp)))
  replace HX := hidp (HX.out.keep (Bnew (B0 _) (.cells (arr8 (fun _ => 0)) 48)))
  clear HSB HSR HST
  rw [arr8_zero] at HD HX HY
  go_wp2_with fail
  generalize hNB : wc.heap.size = NB at *
  generalize hwz : wc.alloc _ = wz at *
  rw [<- arr8_zero] at HY
  clear hNB hwz
  go_loopw [7] (fun u7 wr => ∃ (j : Nat) (A7 : Nat -> Prop) (sj : Vst) (g : Nat -> Int), j <= 8 /\ u7 = .int .i64 (j : Int) /\ Hid (∀ i, i < j -> g i = (f1 i : Int)) /\ Hid (RtAt n (wholeR21 vals) f1 sj) /\ Hid (Duo W (vOb z1 b1 n true (wholeR21 vals)) noOb A7 (fun _ => False) (fun g => g = NX \/ g = NB) sj freshS wr) /\ Hid (Held wr NX 31 #[.int .i64 xi, .int .i64 (x0 : Int), .int .i64 (y0 : Int), .int .i64 xw0, .int .i64 xw1, .int .i64 xw2]) /\ Hid (Held wr NB 48 (arr8 g))) (fun u7 _ => 8 - (intOf u7).toNat)
  case atStart => exact ⟨0, _, _, _, by omega, rfl, hidp (fun i hi => by omega), HRT, HD, HX, HY⟩
  case round =>
   clear HD HX HY HRT
   obtain ⟨j, A7, sj, g, hj, rfl, HG, HRJ, HD, HX, HY⟩ := hrel
   obtain ⟨a0, a1, a2, a3, a4, a5⟩ := HX.out.sixR
   by_cases hlt : j < 8
   ·have t6 : decide ((j : Int) < 8) = true := decide_eq_true (by omega)
    have t6n : decide (j < 8) = true := decide_eq_true hlt
    obtain ⟨sz, hsz⟩ : ∃ sz, gtS n (wholeR21 vals) (j : Int) sj = sz := ⟨_, rfl⟩
    obtain ⟨v, hv⟩ : ∃ v, f1 j = v := ⟨_, rfl⟩
    obtain ⟨q1, q2, q3⟩ := HRJ.out.gt hlt
    try dsimp only at q1
    rw [hv] at q1
    rw [hsz] at q3
    have HGV := hidp q1
    have HGB := hidp q2
    have HRZ := hidp q3
    have HSZ := hidp hsz
    have HV := hidp hv
    clear hsz hv q1 q2 q3 HRJ
    go_wp2_with fail
    refine (rtGet_c hn40 (j : Int) (by omega) HD.out.at1).mono ?_
    rintro e w5 ⟨rfl, h1, _⟩
    obtain ⟨A5, h2, h3⟩ := HD.out.left1 h1.left
    rw [HSZ.out] at h2
    rw [HGV.out, HGB.out]
    replace HX := hidp (h3.held (.inl rfl) HX.out)
    replace HY := hidp (h3.held (.inr rfl) HY.out)
    replace HD := hidp h2
    clear h1 h2 h3
    clear a0 a1 a2 a3 a4 a5
    obtain ⟨a0, a1, a2, a3, a4, a5⟩ := HX.out.sixR
    clear HGV HGB HSZ
    by_cases he : (j : Int) = xi
    ·have s1 : ((j : Int) == xi) = true := by simp [he]
     have s2 : ((j : Int) != xi) = false := by simp [he]
     have hv := HV.out
     rw [(HF1.out j hlt).1 he] at hv
     have s3 : ((v : Int) != (x0 : Int)) = false := by rw [<- hv]; simp
     have s3n : (v != x0) = false := by rw [<- hv]; simp
     clear he hv
     have c0 := arr8_cell HY.out j hlt
     have f9 := HY.out.thawed j
     go_wp2
     replace HD := hidp (HD.out.putR (.inr rfl) HLB.out j (.int .i64 (v : Int)))
     replace HX := hidp (HX.out.far (p := ⟨NB, j, none⟩) HNE.out (.int .i64 (v : Int)))
     replace HY := hidp (HY.out.put j (.int .i64 (v : Int)))
     rw [arr8_set g (v : Int) j hlt] at HY
     have HGN : Hid (∀ i, i < j + 1 -> (fun i => if i = j then (v : Int) else g i) i = (f1 i : Int)) := hidp (fun i hi => by
      by_cases hij : i = j
      ·rw [hij]; simp [HV.out]
      ·simp only [if_neg hij]; exact HG.out i (by omega))
     go_roundw
     case rel => exact ⟨j + 1, _, _, _, by omega, by go_num, HGN, HRZ, HD, HX, HY⟩
     case measure => simp [intOf]; omega
    ·have s1 : ((j : Int) == xi) = false := by simp [he]
     have s2 : ((j : Int) != xi) = true := by simp [he]
     have hv := HV.out
     rw [(HF1.out j hlt).2 he] at hv
     obtain ⟨m2, hm2⟩ : ∃ m2, m2 = 22 + j := ⟨_, rfl⟩
     have w2 : IntKind.i64.wrap (22 + (j : Int)) = (m2 : Int) := by rw [i64_same (by omega) (by omega)]; omega
     have d2 : decide ((m2 : Int) < (n : Int)) = true := decide_eq_true (by omega)
     have l2 : m2 < n := by omega
     have hvn : vals[m2]? = some v := by rw [hm2, HF0.out j hlt, hv]
     have hv32 : v < 2 ^ 32 := H32.out v (List.mem_of_getElem? hvn)
     have cw : IntKind.i64.wrap (v : Int) = (v : Int) := i64_same (by omega) (by omega)
     have hvc : ∀ w', Below W.heap.size W w' -> w'.cell? (ad.add m2) = some (.int .u32 (v : Int)) := fun w' hw => by
      obtain ⟨ad', e, _, hc⟩ := (HR.out.below hw).2 (by omega)
      injection e with e
      subst e
      exact hc m2 _ (by unfold valVs; rw [List.getElem?_map, hvn]; rfl)
     have c2 := hvc _ HD.out.bel
     have c2' : w5.cell? (ad.add (m2 * 1)) = some (.int .u32 (v : Int)) := by rw [Nat.mul_one]; exact c2
     have s3 : ((v : Int) != (v : Int)) = false := by simp
     have s3n : (v != v) = false := by simp
     clear he hv hm2 hvn hvc
     have c0 := arr8_cell HY.out j hlt
     have f9 := HY.out.thawed j
     go_wp2
     replace HD := hidp (HD.out.putR (.inr rfl) HLB.out j (.int .i64 (v : Int)))
     replace HX := hidp (HX.out.far (p := ⟨NB, j, none⟩) HNE.out (.int .i64 (v : Int)))
     replace HY := hidp (HY.out.put j (.int .i64 (v : Int)))
     rw [arr8_set g (v : Int) j hlt] at HY
     have HGN : Hid (∀ i, i < j + 1 -> (fun i => if i = j then (v : Int) else g i) i = (f1 i : Int)) := hidp (fun i hi => by
      by_cases hij : i = j
      ·rw [hij]; simp [HV.out]
      ·simp only [if_neg hij]; exact HG.out i (by omega))
     go_roundw
     case rel => exact ⟨j + 1, _, _, _, by omega, by go_num, HGN, HRZ, HD, HX, HY⟩
     case measure => simp [intOf]; omega
   ·have t6 : decide ((j : Int) < 8) = false := decide_eq_false (by omega)
    have t6n : decide (j < 8) = false := decide_eq_false hlt
    obtain rfl : j = 8 := by omega
    clear hj hlt
    have HRF : Hid (RtAt n (wholeR21 vals) (fun i => if f1 i = x0 then y0 else f1 i) (folR n (wholeR21 vals) (x0 : Int) (y0 : Int) sj)) := hidp (HRJ.out.folR hn ⟨hx1, hx2⟩ ⟨hy1, hy2⟩)
    obtain ⟨sf, hsf⟩ : ∃ sf, folR n (wholeR21 vals) (x0 : Int) (y0 : Int) sj = sf := ⟨_, rfl⟩
    rw [hsf] at HRF
    have HSF := hidp hsf
    clear hsf HRJ HF0
    go_wp2_with fail
    refine (rtFollow_c hn40 (x0 : Int) (y0 : Int) HBA.out HBT.out HD.out.at1).mono ?_
    rintro e w5 ⟨rfl, h1, _⟩
    obtain ⟨A5, h2, h3⟩ := HD.out.left1 h1.left
    rw [HSF.out] at h2
    replace HX := hidp (h3.held (.inl rfl) HX.out)
    replace HY := hidp (h3.held (.inr rfl) HY.out)
    replace HD := hidp h2
    clear h1 h2 h3
    clear a0 a1 a2 a3 a4 a5
    obtain ⟨a0, a1, a2, a3, a4, a5⟩ := HX.out.sixR
    clear HSF
    go_wp2_with fail
    go_loopw [10] (fun u10 wr => ∃ (j : Nat) (A7 : Nat -> Prop) (sj : Vst), j <= 8 /\ u10 = .int .i64 (j : Int) /\ Hid (RtAt n (wholeR21 vals) (fun i => if f1 i = x0 then y0 else f1 i) sj) /\ Hid (Duo W (vOb z1 b1 n true (wholeR21 vals)) noOb A7 (fun _ => False) (fun g => g = NX \/ g = NB) sj freshS wr) /\ Hid (Held wr NX 31 #[.int .i64 xi, .int .i64 (x0 : Int), .int .i64 (y0 : Int), .int .i64 xw0, .int .i64 xw1, .int .i64 xw2]) /\ Hid (Held wr NB 48 (arr8 g))) (fun u10 _ => 8 - (intOf u10).toNat)
    case atStart => exact ⟨0, _, _, by omega, rfl, HRF, HD, HX, HY⟩
    case round =>
     clear HD HX HY HRF
     clear a0 a1 a2 a3 a4 a5
     obtain ⟨j, A7, sj, hj, rfl, HRJ, HD, HX, HY⟩ := hrel
     obtain ⟨a0, a1, a2, a3, a4, a5⟩ := HX.out.sixR
     by_cases hlt : j < 8
     ·have t7 : decide ((j : Int) < 8) = true := decide_eq_true (by omega)
      have t7n : decide (j < 8) = true := decide_eq_true hlt
      obtain ⟨sz, hsz⟩ : ∃ sz, gtS n (wholeR21 vals) (j : Int) sj = sz := ⟨_, rfl⟩
      obtain ⟨v, hv⟩ : ∃ v, (if f1 j = x0 then y0 else f1 j) = v := ⟨_, rfl⟩
      obtain ⟨q1, q2, q3⟩ := HRJ.out.gt hlt
      try dsimp only at q1
      rw [hv] at q1
      rw [hsz] at q3
      have HGV := hidp q1
      have HGB := hidp q2
      have HRZ := hidp q3
      have HSZ := hidp hsz
      have HV := hidp hv
      clear hsz hv q1 q2 q3 HRJ
      go_wp2_with fail
      refine (rtGet_c hn40 (j : Int) (by omega) HD.out.at1).mono ?_
      rintro e w5 ⟨rfl, h1, _⟩
      obtain ⟨A5, h2, h3⟩ := HD.out.left1 h1.left
      rw [HSZ.out] at h2
      rw [HGV.out, HGB.out]
      replace HX := hidp (h3.held (.inl rfl) HX.out)
      replace HY := hidp (h3.held (.inr rfl) HY.out)
      replace HD := hidp h2
      clear h1 h2 h3
      clear a0 a1 a2 a3 a4 a5
      obtain ⟨a0, a1, a2, a3, a4, a5⟩ := HX.out.sixR
      clear HGV HGB HSZ
      obtain ⟨v1, hv1⟩ : ∃ v1, f1 j = v1 := ⟨_, rfl⟩
      have c0 := arr8_cell HY.out j hlt
      rw [HG.out j hlt, hv1] at c0
      have hv := HV.out
      rw [hv1] at hv
      by_cases he : v1 = x0
      ·have s1 : ((v1 : Int) == (x0 : Int)) = true := by simp [he]
       have s1n : (v1 == x0) = true := by simp [he]
       rw [if_pos he] at hv
       have s3 : ((v : Int) != (y0 : Int)) = false := by rw [<- hv]; simp
       have s3n : (v != y0) = false := by rw [<- hv]; simp
       clear he hv hv1 HV
       go_wp2
       go_roundw
       case rel => exact ⟨j + 1, _, _, by omega, by go_num, HRZ, HD, HX, HY⟩
       case measure => simp [intOf]; omega
      ·have s1 : ((v1 : Int) == (x0 : Int)) = false := by simp; omega
       have s1n : (v1 == x0) = false := by simp; omega
       rw [if_neg he] at hv
       have s3 : ((v : Int) != (v1 : Int)) = false := by rw [<- hv]; simp
       have s3n : (v != v1) = false := by rw [<- hv]; simp
       clear he hv hv1 HV
       go_wp2
       go_roundw
       case rel => exact ⟨j + 1, _, _, by omega, by go_num, HRZ, HD, HX, HY⟩
       case measure => simp [intOf]; omega
     ·have t7 : decide ((j : Int) < 8) = false := decide_eq_false (by omega)
      have t7n : decide (j < 8) = false := decide_eq_false hlt
      obtain ⟨bb, hbb⟩ : ∃ b : Bool, b = true ↔ ∃ i, i < 8 /\ g i = (x0 : Int) := by
       by_cases h : ∃ i, i < 8 /\ g i = (x0 : Int)
       ·exact ⟨true, fun _ => h, fun _ => rfl⟩
       ·exact ⟨false, fun e => (by cases e), fun e => absurd e h⟩
      have HBB := hidp hbb
      obtain ⟨rb, hrb⟩ : ∃ b, rtB xi = b := ⟨_, rfl⟩
      have hrr : rb = true -> ∃ i, i < 8 /\ f1 i = x0 := fun e => by
       rw [e] at hrb
       have h2 : 0 <= xi /\ xi <= 7 := of_decide_eq_true hrb
       exact ⟨xi.toNat, by omega, (HF1.out xi.toNat (by omega)).1 (by omega)⟩
      have hbf : bb = true ↔ ∃ i, i < 8 /\ ((f1 i : Nat) : Int) = (x0 : Int) := by
       rw [hbb]
       exact ⟨fun ⟨i, h1, h2⟩ => ⟨i, h1, by rw [<- HG.out i h1]; exact h2⟩, fun ⟨i, h1, h2⟩ => ⟨i, h1, by rw [HG.out i h1]; exact h2⟩⟩
      have hhl : (heldR n (wholeR21 vals) (x0 : Int) sj).1 = (decide ((x0 : Int) = (y0 : Int)) && (rb || bb)) := by
       unfold heldR
       rw [if_pos (by omega)]
       exact held_end HRJ.out hrr bb hbf
      have hq : (bb == bb) = true := by simp
      clear hrr hbf hbb HRJ HG HF1 hlt hj
      by_cases hxy : x0 = y0
      ·have s1 : ((x0 : Int) == (y0 : Int)) = true := by simp [hxy]
       have s1n : (x0 == y0) = true := by simp [hxy]
       rw [show decide ((x0 : Int) = (y0 : Int)) = true from decide_eq_true (by omega), Bool.true_and] at hhl
       clear hxy
       by_cases h0 : xi < 0
       ·have s0 : decide (0 <= xi) = false := decide_eq_false (by omega)
        rw [<- hrb, show rtB xi = false from decide_eq_false (by omega), Bool.false_or] at hhl
        have HHL := hidp hhl
        clear h0 hrb hhl
        go_wp2_with fail
        replace HX := hidp (HX.out.keep (Bdrew (B0 _)))
        replace HY := hidp (HY.out.keep (Bdrew (B0 _)))
        replace HD := hidp (HD.out.keep (Bdrew (B0 _)))
        refine wp_region_held_drew (S := (fun w' => (w'.cell? ⟨NX, 0, none⟩ = some (.int .i64 xi) /\ w'.cell? ⟨NX, 1, none⟩ = some (.int .i64 (x0 : Int)) /\ w'.cell? ⟨NX, 2, none⟩ = some (.int .i64 (y0 : Int))) /\ w'.cell? ⟨NB, 0, none⟩ = some (.int .i64 (g 0)) /\ w'.cell? ⟨NB, 1, none⟩ = some (.int .i64 (g 1)) /\ w'.cell? ⟨NB, 2, none⟩ = some (.int .i64 (g 2)) /\ w'.cell? ⟨NB, 3, none⟩ = some (.int .i64 (g 3)) /\ w'.cell? ⟨NB, 4, none⟩ = some (.int .i64 (g 4)) /\ w'.cell? ⟨NB, 5, none⟩ = some (.int .i64 (g 5)) /\ w'.cell? ⟨NB, 6, none⟩ = some (.int .i64 (g 6)) /\ w'.cell? ⟨NB, 7, none⟩ = some (.int .i64 (g 7)))) (by kernel_rfl) ?_ (fun hHeld => ?_)
        ·(try dsimp only)
         first | exact ⟨⟨HX.out.sixR.1, HX.out.sixR.2.1, HX.out.sixR.2.2.1⟩, arr8_all HY.out⟩ | exact hHeld
        refine tkz 0 ?_
        refine tkz 1 ?_
        refine tkz 2 ?_
        refine tkz 4 ?_
        refine tkz 5 ?_
        refine tkz 6 ?_
        refine tkz 7 ?_
        refine tkz 8 ?_
        refine rdz 3 fun K hK => ?_
        go_simp
        refine (rtHeld_c hn40 (x0 : Int) HBA.out HD.out.at1).mono ?_
        rintro e w5 ⟨rfl, h1, _⟩
        obtain ⟨A5, h2, h3⟩ := HD.out.left1 h1.left
        rw [HHL.out]
        replace HX := hidp (h3.held (.inl rfl) HX.out)
        replace HY := hidp (h3.held (.inr rfl) HY.out)
        replace HD := hidp h2
        clear h1 h2 h3
        refine hK.out _ _ ?_ (fun hHeld => ?_)
        ·(try dsimp only)
         first | exact ⟨⟨HX.out.sixR.1, HX.out.sixR.2.1, HX.out.sixR.2.2.1⟩, arr8_all HY.out⟩ | exact hHeld
        clear hK K
        (try simp only [Act.put, gA, gB, gC, sA, sB, sC])
        refine tkz 9 ?_
        refine tkz 10 ?_
        refine tkz 11 ?_
        refine tkz 12 ?_
        refine tkz 13 ?_
        refine skz 14 ?_
        refine skz 15 ?_
        refine skz 16 ?_
        refine tkz 17 ?_
        refine tkz 18 ?_
        refine tkz 19 ?_
        refine tkz 20 ?_
        refine tkz 21 ?_
        refine rdz 22 fun K hK => ?_
        go_simp
        refine (in21_c g (x0 : Int) bb HBB.out _).mono ?_
        rintro e w7 ⟨rfl, hb⟩
        replace HX := hidp (HX.out.keep hb)
        replace HY := hidp (HY.out.keep hb)
        replace HD := hidp (HD.out.keep hb)
        clear hb
        refine hK.out _ _ ?_ (fun hHeld => ?_)
        ·(try dsimp only)
         first | exact ⟨⟨HX.out.sixR.1, HX.out.sixR.2.1, HX.out.sixR.2.2.1⟩, arr8_all HY.out⟩ | exact hHeld
        clear hK K
        (try simp only [Act.put, gA, gB, gC, sA, sB, sC])
        refine tkz 23 ?_
        refine tkz 24 ?_
        refine tkz 25 ?_
        refine tkz 26 ?_
        refine rdz 27 fun K hK => ?_
        go_simp
        refine (live21_c _).mono ?_
        rintro e w8 ⟨rfl, hb⟩
        replace HX := hidp (HX.out.keep hb)
        replace HY := hidp (HY.out.keep hb)
        replace HD := hidp (HD.out.keep hb)
        clear hb
        refine hK.out _ _ ?_ (fun hHeld => ?_)
        ·(try dsimp only)
         first | exact ⟨⟨HX.out.sixR.1, HX.out.sixR.2.1, HX.out.sixR.2.2.1⟩, arr8_all HY.out⟩ | exact hHeld
        clear hK K
        (try simp only [Act.put, gA, gB, gC, sA, sB, sC])
        refine tkz 28 ?_
        refine tkz 29 ?_
        refine dnz ?_
        have HBE := hidp HD.out.bel
        go_wp2
        go_ret
        exact ⟨rfl, HBE.out⟩
       ·have s0 : decide (0 <= xi) = true := decide_eq_true (by omega)
        by_cases h7 : xi <= 7
        ·have s7 : decide (xi <= 7) = true := decide_eq_true h7
         rw [<- hrb, show rtB xi = true from decide_eq_true (by omega), Bool.true_or] at hhl
         have HHL := hidp hhl
         clear h0 h7 hrb hhl
         go_wp2_with fail
         replace HX := hidp (HX.out.keep (Bdrew (B0 _)))
         replace HY := hidp (HY.out.keep (Bdrew (B0 _)))
         replace HD := hidp (HD.out.keep (Bdrew (B0 _)))
         refine wp_region_held_drew (S := (fun w' => (w'.cell? ⟨NX, 0, none⟩ = some (.int .i64 xi) /\ w'.cell? ⟨NX, 1, none⟩ = some (.int .i64 (x0 : Int)) /\ w'.cell? ⟨NX, 2, none⟩ = some (.int .i64 (y0 : Int))) /\ w'.cell? ⟨NB, 0, none⟩ = some (.int .i64 (g 0)) /\ w'.cell? ⟨NB, 1, none⟩ = some (.int .i64 (g 1)) /\ w'.cell? ⟨NB, 2, none⟩ = some (.int .i64 (g 2)) /\ w'.cell? ⟨NB, 3, none⟩ = some (.int .i64 (g 3)) /\ w'.cell? ⟨NB, 4, none⟩ = some (.int .i64 (g 4)) /\ w'.cell? ⟨NB, 5, none⟩ = some (.int .i64 (g 5)) /\ w'.cell? ⟨NB, 6, none⟩ = some (.int .i64 (g 6)) /\ w'.cell? ⟨NB, 7, none⟩ = some (.int .i64 (g 7)))) (by kernel_rfl) ?_ (fun hHeld => ?_)
         ·(try dsimp only)
          first | exact ⟨⟨HX.out.sixR.1, HX.out.sixR.2.1, HX.out.sixR.2.2.1⟩, arr8_all HY.out⟩ | exact hHeld
         refine tkz 0 ?_
         refine tkz 1 ?_
         refine tkz 2 ?_
         refine tkz 4 ?_
         refine tkz 5 ?_
         refine tkz 6 ?_
         refine tkz 7 ?_
         refine tkz 8 ?_
         refine rdz 3 fun K hK => ?_
         go_simp
         refine (rtHeld_c hn40 (x0 : Int) HBA.out HD.out.at1).mono ?_
         rintro e w5 ⟨rfl, h1, _⟩
         obtain ⟨A5, h2, h3⟩ := HD.out.left1 h1.left
         rw [HHL.out]
         replace HX := hidp (h3.held (.inl rfl) HX.out)
         replace HY := hidp (h3.held (.inr rfl) HY.out)
         replace HD := hidp h2
         clear h1 h2 h3
         refine hK.out _ _ ?_ (fun hHeld => ?_)
         ·(try dsimp only)
          first | exact ⟨⟨HX.out.sixR.1, HX.out.sixR.2.1, HX.out.sixR.2.2.1⟩, arr8_all HY.out⟩ | exact hHeld
         clear hK K
         (try simp only [Act.put, gA, gB, gC, sA, sB, sC])
         refine tkz 9 ?_
         refine tkz 10 ?_
         refine tkz 11 ?_
         refine tkz 12 ?_
         refine tkz 13 ?_
         refine tkz 14 ?_
         refine tkz 15 ?_
         refine tkz 16 ?_
         refine tkz 17 ?_
         refine tkz 18 ?_
         refine skz 19 ?_
         refine skz 20 ?_
         refine skz 21 ?_
         refine skz 22 ?_
         refine tkz 23 ?_
         refine tkz 24 ?_
         refine tkz 25 ?_
         refine tkz 26 ?_
         refine rdz 27 fun K hK => ?_
         go_simp
         refine (live21_c _).mono ?_
         rintro e w8 ⟨rfl, hb⟩
         replace HX := hidp (HX.out.keep hb)
         replace HY := hidp (HY.out.keep hb)
         replace HD := hidp (HD.out.keep hb)
         clear hb
         refine hK.out _ _ ?_ (fun hHeld => ?_)
         ·(try dsimp only)
          first | exact ⟨⟨HX.out.sixR.1, HX.out.sixR.2.1, HX.out.sixR.2.2.1⟩, arr8_all HY.out⟩ | exact hHeld
         clear hK K
         (try simp only [Act.put, gA, gB, gC, sA, sB, sC])
         refine tkz 28 ?_
         refine tkz 29 ?_
         refine dnz ?_
         have HBE := hidp HD.out.bel
         go_wp2
         go_ret
         exact ⟨rfl, HBE.out⟩
        ·have s7 : decide (xi <= 7) = false := decide_eq_false h7
         rw [<- hrb, show rtB xi = false from decide_eq_false (by omega), Bool.false_or] at hhl
         have HHL := hidp hhl
         clear h0 h7 hrb hhl
         go_wp2_with fail
         replace HX := hidp (HX.out.keep (Bdrew (B0 _)))
         replace HY := hidp (HY.out.keep (Bdrew (B0 _)))
         replace HD := hidp (HD.out.keep (Bdrew (B0 _)))
         refine wp_region_held_drew (S := (fun w' => (w'.cell? ⟨NX, 0, none⟩ = some (.int .i64 xi) /\ w'.cell? ⟨NX, 1, none⟩ = some (.int .i64 (x0 : Int)) /\ w'.cell? ⟨NX, 2, none⟩ = some (.int .i64 (y0 : Int))) /\ w'.cell? ⟨NB, 0, none⟩ = some (.int .i64 (g 0)) /\ w'.cell? ⟨NB, 1, none⟩ = some (.int .i64 (g 1)) /\ w'.cell? ⟨NB, 2, none⟩ = some (.int .i64 (g 2)) /\ w'.cell? ⟨NB, 3, none⟩ = some (.int .i64 (g 3)) /\ w'.cell? ⟨NB, 4, none⟩ = some (.int .i64 (g 4)) /\ w'.cell? ⟨NB, 5, none⟩ = some (.int .i64 (g 5)) /\ w'.cell? ⟨NB, 6, none⟩ = some (.int .i64 (g 6)) /\ w'.cell? ⟨NB, 7, none⟩ = some (.int .i64 (g 7)))) (by kernel_rfl) ?_ (fun hHeld => ?_)
         ·(try dsimp only)
          first | exact ⟨⟨HX.out.sixR.1, HX.out.sixR.2.1, HX.out.sixR.2.2.1⟩, arr8_all HY.out⟩ | exact hHeld
         refine tkz 0 ?_
         refine tkz 1 ?_
         refine tkz 2 ?_
         refine tkz 4 ?_
         refine tkz 5 ?_
         refine tkz 6 ?_
         refine tkz 7 ?_
         refine tkz 8 ?_
         refine rdz 3 fun K hK => ?_
         go_simp
         refine (rtHeld_c hn40 (x0 : Int) HBA.out HD.out.at1).mono ?_
         rintro e w5 ⟨rfl, h1, _⟩
         obtain ⟨A5, h2, h3⟩ := HD.out.left1 h1.left
         rw [HHL.out]
         replace HX := hidp (h3.held (.inl rfl) HX.out)
         replace HY := hidp (h3.held (.inr rfl) HY.out)
         replace HD := hidp h2
         clear h1 h2 h3
         refine hK.out _ _ ?_ (fun hHeld => ?_)
         ·(try dsimp only)
          first | exact ⟨⟨HX.out.sixR.1, HX.out.sixR.2.1, HX.out.sixR.2.2.1⟩, arr8_all HY.out⟩ | exact hHeld
         clear hK K
         (try simp only [Act.put, gA, gB, gC, sA, sB, sC])
         refine tkz 9 ?_
         refine tkz 10 ?_
         refine tkz 11 ?_
         refine tkz 12 ?_
         refine tkz 13 ?_
         refine tkz 14 ?_
         refine tkz 15 ?_
         refine tkz 16 ?_
         refine tkz 17 ?_
         refine tkz 18 ?_
         refine tkz 19 ?_
         refine tkz 20 ?_
         refine tkz 21 ?_
         refine rdz 22 fun K hK => ?_
         go_simp
         refine (in21_c g (x0 : Int) bb HBB.out _).mono ?_
         rintro e w7 ⟨rfl, hb⟩
         replace HX := hidp (HX.out.keep hb)
         replace HY := hidp (HY.out.keep hb)
         replace HD := hidp (HD.out.keep hb)
         clear hb
         refine hK.out _ _ ?_ (fun hHeld => ?_)
         ·(try dsimp only)
          first | exact ⟨⟨HX.out.sixR.1, HX.out.sixR.2.1, HX.out.sixR.2.2.1⟩, arr8_all HY.out⟩ | exact hHeld
         clear hK K
         (try simp only [Act.put, gA, gB, gC, sA, sB, sC])
         refine tkz 23 ?_
         refine tkz 24 ?_
         refine tkz 25 ?_
         refine tkz 26 ?_
         refine rdz 27 fun K hK => ?_
         go_simp
         refine (live21_c _).mono ?_
         rintro e w8 ⟨rfl, hb⟩
         replace HX := hidp (HX.out.keep hb)
         replace HY := hidp (HY.out.keep hb)
         replace HD := hidp (HD.out.keep hb)
         clear hb
         refine hK.out _ _ ?_ (fun hHeld => ?_)
         ·(try dsimp only)
          first | exact ⟨⟨HX.out.sixR.1, HX.out.sixR.2.1, HX.out.sixR.2.2.1⟩, arr8_all HY.out⟩ | exact hHeld
         clear hK K
         (try simp only [Act.put, gA, gB, gC, sA, sB, sC])
         refine tkz 28 ?_
         refine tkz 29 ?_
         refine dnz ?_
         have HBE := hidp HD.out.bel
         go_wp2
         go_ret
         exact ⟨rfl, HBE.out⟩
      ·have s1 : ((x0 : Int) == (y0 : Int)) = false := by simp; omega
       have s1n : (x0 == y0) = false := by simp; omega
       rw [show decide ((x0 : Int) = (y0 : Int)) = false from decide_eq_false (by omega), Bool.false_and] at hhl
       have HHL := hidp hhl
       clear hxy hrb hhl
       go_wp2_with fail
       replace HX := hidp (HX.out.keep (Bdrew (B0 _)))
       replace HY := hidp (HY.out.keep (Bdrew (B0 _)))
       replace HD := hidp (HD.out.keep (Bdrew (B0 _)))
       refine wp_region_held_drew (S := (fun w' => (w'.cell? ⟨NX, 0, none⟩ = some (.int .i64 xi) /\ w'.cell? ⟨NX, 1, none⟩ = some (.int .i64 (x0 : Int)) /\ w'.cell? ⟨NX, 2, none⟩ = some (.int .i64 (y0 : Int))) /\ w'.cell? ⟨NB, 0, none⟩ = some (.int .i64 (g 0)) /\ w'.cell? ⟨NB, 1, none⟩ = some (.int .i64 (g 1)) /\ w'.cell? ⟨NB, 2, none⟩ = some (.int .i64 (g 2)) /\ w'.cell? ⟨NB, 3, none⟩ = some (.int .i64 (g 3)) /\ w'.cell? ⟨NB, 4, none⟩ = some (.int .i64 (g 4)) /\ w'.cell? ⟨NB, 5, none⟩ = some (.int .i64 (g 5)) /\ w'.cell? ⟨NB, 6, none⟩ = some (.int .i64 (g 6)) /\ w'.cell? ⟨NB, 7, none⟩ = some (.int .i64 (g 7)))) (by kernel_rfl) ?_ (fun hHeld => ?_)
       ·(try dsimp only)
        first | exact ⟨⟨HX.out.sixR.1, HX.out.sixR.2.1, HX.out.sixR.2.2.1⟩, arr8_all HY.out⟩ | exact hHeld
       refine tkz 0 ?_
       refine tkz 1 ?_
       refine tkz 2 ?_
       refine tkz 4 ?_
       refine tkz 5 ?_
       refine tkz 6 ?_
       refine tkz 7 ?_
       refine tkz 8 ?_
       refine rdz 3 fun K hK => ?_
       go_simp
       refine (rtHeld_c hn40 (x0 : Int) HBA.out HD.out.at1).mono ?_
       rintro e w5 ⟨rfl, h1, _⟩
       obtain ⟨A5, h2, h3⟩ := HD.out.left1 h1.left
       rw [HHL.out]
       replace HX := hidp (h3.held (.inl rfl) HX.out)
       replace HY := hidp (h3.held (.inr rfl) HY.out)
       replace HD := hidp h2
       clear h1 h2 h3
       refine hK.out _ _ ?_ (fun hHeld => ?_)
       ·(try dsimp only)
        first | exact ⟨⟨HX.out.sixR.1, HX.out.sixR.2.1, HX.out.sixR.2.2.1⟩, arr8_all HY.out⟩ | exact hHeld
       clear hK K
       (try simp only [Act.put, gA, gB, gC, sA, sB, sC])
       refine tkz 9 ?_
       refine skz 10 ?_
       refine skz 11 ?_
       refine skz 12 ?_
       refine skz 13 ?_
       refine skz 14 ?_
       refine skz 15 ?_
       refine skz 16 ?_
       refine skz 17 ?_
       refine skz 18 ?_
       refine skz 19 ?_
       refine skz 20 ?_
       refine skz 21 ?_
       refine skz 22 ?_
       refine skz 23 ?_
       refine tkz 24 ?_
       refine tkz 25 ?_
       refine tkz 26 ?_
       refine rdz 27 fun K hK => ?_
       go_simp
       refine (live21_c _).mono ?_
       rintro e w8 ⟨rfl, hb⟩
       replace HX := hidp (HX.out.keep hb)
       replace HY := hidp (HY.out.keep hb)
       replace HD := hidp (HD.out.keep hb)
       clear hb
       refine hK.out _ _ ?_ (fun hHeld => ?_)
       ·(try dsimp only)
        first | exact ⟨⟨HX.out.sixR.1, HX.out.sixR.2.1, HX.out.sixR.2.2.1⟩, arr8_all HY.out⟩ | exact hHeld
       clear hK K
       (try simp only [Act.put, gA, gB, gC, sA, sB, sC])
       refine tkz 28 ?_
       refine tkz 29 ?_
       refine dnz ?_
       have HBE := hidp HD.out.bel
       go_wp2
       go_ret
       exact ⟨rfl, HBE.out⟩
theorem RootFollows_calls (A : Option Addr) (c : Nat) (vals : List Nat) (xi xa xt xw0 xw1 xw2 : Int) (HBI : -9223372036854775808 <= xi /\ xi <= 9223372036854775807) (hnc : vals.length <= c) (hcm : c <= maxLen) (h32 : ∀ x ∈ vals, x < 2 ^ 32) (W : World) (HR : Hid (Reads W W.heap.size 1 A vals.length (valVs vals))) :
  Calls Try.prog 4 #[.slice A vals.length c, .agg #[.int .i64 xi, .int .i64 xa, .int .i64 xt, .int .i64 xw0, .int .i64 xw1, .int .i64 xw2]] W (Keeps W) := by
 by_cases h0 : vals.length < 30
 ·exact RootFollows_out0 A c _ xi xa xt xw0 xw1 xw2 h0 W
 by_cases h1 : 500 < vals.length
 ·exact RootFollows_out1 A c _ xi xa xt xw0 xw1 xw2 (by omega) h1 W
 by_cases h2 : xa < 1
 ·exact RootFollows_out2 A c _ xi xa xt xw0 xw1 xw2 (by omega) (by omega) h2 W
 by_cases h3 : 4294967295 < xa
 ·exact RootFollows_out3 A c _ xi xa xt xw0 xw1 xw2 (by omega) (by omega) (by omega) h3 W
 by_cases h4 : xt < 1
 ·exact RootFollows_out4 A c _ xi xa xt xw0 xw1 xw2 (by omega) (by omega) (by omega) (by omega) h4 W
 by_cases h5 : 4294967295 < xt
 ·exact RootFollows_out5 A c _ xi xa xt xw0 xw1 xw2 (by omega) (by omega) (by omega) (by omega) (by omega) h5 W
 obtain ⟨x0, rfl⟩ := Int.eq_ofNat_of_zero_le (show 0 <= xa by omega)
 obtain ⟨y0, rfl⟩ := Int.eq_ofNat_of_zero_le (show 0 <= xt by omega)
 obtain ⟨ad, rfl, _, _⟩ := HR.out.2 (by omega)
 have hf : ∀ i, i < 8 -> vals[22 + i]? = some (vals.getD (22 + i) 0) := fun i hi => by
  rw [List.getElem?_eq_getElem (by omega)]
  simp [List.getD, List.getElem?_eq_getElem (show 22 + i < vals.length by omega)]
 have hvw : VW vals.length (wholeR21 vals) freshS := ⟨fun i hi => ⟨_, List.getElem?_eq_getElem hi⟩, rfl⟩
 have hr : RtAt vals.length (wholeR21 vals) (fun i => vals.getD (22 + i) 0) freshS := ⟨hvw, fun i hi => by
  unfold rtC
  rw [hvw.at_ (by omega)]
  show (wholeR21 vals (22 + i)).getD 0 = _
  unfold wholeR21
  rw [hf i hi]
  rfl⟩
 by_cases hi : 0 <= xi /\ xi <= 7
 ·obtain ⟨j, rfl⟩ := Int.eq_ofNat_of_zero_le hi.1
  have hs : stB (j : Int) (x0 : Int) = true := by
   unfold stB rtB
   rw [decide_eq_true (by omega), decide_eq_true (by omega)]
   rfl
  have e : stS vals.length (j : Int) (x0 : Int) freshS = putS vals.length freshS (rtC j) x0 := by
   unfold stS
   rw [if_pos hs, rtC_at, Int.toNat_natCast]
  exact RootFollows_main ad c _ vals j xw0 xw1 xw2 x0 y0 (hidp HBI) (hidp rfl) (hidp h32) (by omega) (by omega) (by omega) (by omega) (by omega) (by omega) hnc hcm W HR (fun i => vals.getD (22 + i) 0) (fun i => if i = j then x0 else vals.getD (22 + i) 0) hf
   (fun i _ => ⟨fun h => if_pos (by omega), fun h => if_neg (by omega)⟩) _ e (hr.set (by omega) (by omega) x0)
 ·have hs : stB xi (x0 : Int) = false := by
   unfold stB rtB
   rw [decide_eq_false hi]
   rfl
  have e : stS vals.length xi (x0 : Int) freshS = freshS := by
   unfold stS
   rw [hs]
   rfl
  exact RootFollows_main ad c _ vals xi xw0 xw1 xw2 x0 y0 (hidp HBI) (hidp rfl) (hidp h32) (by omega) (by omega) (by omega) (by omega) (by omega) (by omega) hnc hcm W HR (fun i => vals.getD (22 + i) 0) (fun i => vals.getD (22 + i) 0) hf
   (fun i h => ⟨fun h2 => by omega, fun _ => rfl⟩) _ e hr
end
end Go.Proofs.Ytlkaejjpibebkaa
