/-
  What the functions of package root do: Get, Set, Held, Follow. Held and Follow range over a closure that gets each root (lib/XRoundGet).
-/
import Derived.Test.YtlkaejjpibebkaaB02
import Derived.Test.YtlkaejjpibebkaaB01
import Derived.Deep.RegionHeld3
import Derived.Deep.Slices
import Derived.Lib.SmallJoins
namespace Go.Proofs.Ytlkaejjpibebkaa
open Go.ChangeShapes Go.WideShapes Go.ChangeAt Go.RowKit Go.Maps
set_option linter.unusedVariables false
set_option linter.unusedSimpArgs false
set_option maxRecDepth 100000
section
theorem proot_at {i : Int} (h0 : 0 <= i) (h1 : i <= 7) : nthI 22 8 1 i = 22 + i := by rw [nth_on (by omega) (by omega) (by omega)]; omega
theorem pu32_i64 {v : Nat} (h : v < 2 ^ 32) : IntKind.i64.wrap (v : Int) = (v : Int) := i64_same (by omega) (by omega)

theorem rtFits_c (a : Int) (b : Bool) (hb : decide (0 <= a /\ a <= 4294967295) = b) (w : World) : Calls Try.prog 28 #[.int .i64 a] w fun e w' => e = .returned (.bool b) /\ w = w' := by
 by_cases h0 : 0 <= a
 ·have t0 : decide ((0 : Int) <= a) = true := decide_eq_true h0
  by_cases h1 : a <= 4294967295
  ·have t1 : decide (a <= (4294967295 : Int)) = true := decide_eq_true h1
   obtain rfl : b = true := by rw [<- hb]; exact decide_eq_true ⟨h0, h1⟩
   clear hb
   go_enter Try.func28, Try.ntmps28
   go_wp2
   go_ret
   exact ⟨rfl, rfl⟩
  ·have t1 : decide (a <= (4294967295 : Int)) = false := decide_eq_false h1
   obtain rfl : b = false := by rw [<- hb]; exact decide_eq_false (fun h => h1 h.2)
   clear hb
   go_enter Try.func28, Try.ntmps28
   go_wp2
   go_ret
   exact ⟨rfl, rfl⟩
 ·have t0 : decide ((0 : Int) <= a) = false := decide_eq_false h0
  obtain rfl : b = false := by rw [<- hb]; exact decide_eq_false (fun h => h0 h.1)
  clear hb
  go_enter Try.func28, Try.ntmps28
  go_wp2
  go_ret
  exact ⟨rfl, rfl⟩
theorem rtNames_c (a : Int) (b : Bool) (hb : decide (1 <= a /\ a <= 4294967295) = b) (w : World) : Calls Try.prog 32 #[.int .i64 a] w fun e w' => e = .returned (.bool b) /\ w = w' := by
 by_cases h0 : a = 0
 ·subst h0
  obtain rfl : b = false := by rw [<- hb]; rfl
  clear hb
  go_enter Try.func32, Try.ntmps32
  go_wp2
  go_ret
  exact ⟨rfl, rfl⟩
 ·have t0 : (a != 0) = true := by simpa using h0
  have HC := hidp (rtFits_c a b (by rw [<- hb]; exact decide_eq_decide.2 ⟨fun h => by omega, fun h => by omega⟩))
  clear hb
  go_enter Try.func32, Try.ntmps32
  go_wp2_with fail
  refine (HC.out _).mono ?_; rintro e w1 ⟨rfl, rfl⟩
  go_wp2
  go_ret
  exact ⟨rfl, rfl⟩

section
variable {base b n : Nat} {wh : Bool} {K : Nat -> Option Nat} {st : Vst} {w w0 : World} {A G : Nat -> Prop}

theorem rtGet_no (hn : n < 2 ^ 40) (i : Int) (hi : i < 0 \/ 7 < i) (h : (vOb base b n wh K).At w0 A G st w) :
  Calls Try.prog 8 #[.pointer (some ⟨b, 0, none⟩), .int .i64 i] w fun e w' => e = .returned (.tuple #[.int .i64 0, .bool false]) /\ (vOb base b n wh K).At w0 A G st w' /\ Stay G w w' := by
 have W0 := hidp (WL.start h)
 have E1 := hidp (nth_off (f := 22) (n := 8) (e := 1) (i := i) (by omega))
 clear h
 go_enter Try.func8, Try.ntmps8
 go_wp2_with fail
 refine (plRoot_c i _).mono ?_; rintro e w9 ⟨rfl, rfl⟩; rw [E1.out]
 go_wp2
 go_ret2
 exact ⟨rfl, W0.out.fin⟩
set_option maxHeartbeats 1600000 in
theorem rtGet_in (hn : n < 2 ^ 40) (i : Int) (h0 : 0 <= i) (h1 : i <= 7) (h : (vOb base b n wh K).At w0 A G st w) :
  Calls Try.prog 8 #[.pointer (some ⟨b, 0, none⟩), .int .i64 i] w fun e w' => e = .returned (.tuple #[.int .i64 (getV n K st (22 + i) : Int), .bool true]) /\ (vOb base b n wh K).At w0 A G (getS n K st (22 + i)) w' /\ Stay G w w' := by
 have W0 := hidp (WL.start h)
 have t1 : decide (22 + i < 0) = false := decide_eq_false (by omega)
 obtain ⟨v, hv⟩ : ∃ v, getV n K st (22 + i) = v := ⟨_, rfl⟩
 have hv32 : v < 2 ^ 32 := by rw [<- hv]; exact vAt_lt h _
 have cw := pu32_i64 hv32
 have HV := hidp hv
 rw [hv]
 clear h hv
 go_enter Try.func8, Try.ntmps8
 go_wp2_with fail
 refine (plRoot_c i _).mono ?_; rintro e w9 ⟨rfl, rfl⟩; rw [proot_at h0 h1]
 go_wp2_with fail
 refine (vGetA hn _ W0.out.at_).mono ?_; rintro e w1 ⟨rfl, h1, h2⟩; have W1 := hidp (W0.out.call h1 h2); clear h1 h2 W0; rw [HV.out]
 go_wp2
 go_ret2
 exact ⟨rfl, W1.out.fin⟩
theorem rtGet_c (hn : n < 2 ^ 40) (i : Int) (hi : -9223372036854775808 <= i /\ i <= 9223372036854775807) (h : (vOb base b n wh K).At w0 A G st w) :
  Calls Try.prog 8 #[.pointer (some ⟨b, 0, none⟩), .int .i64 i] w fun e w' => e = .returned (.tuple #[.int .i64 (gtV n K i st), .bool (rtB i)]) /\ (vOb base b n wh K).At w0 A G (gtS n K i st) w' /\ Stay G w w' := by
 by_cases h0 : i < 0 \/ 7 < i
 ·have e : rtB i = false := decide_eq_false (by omega)
  unfold gtS gtV
  rw [e]
  exact rtGet_no hn i h0 h
 ·have e : rtB i = true := decide_eq_true (by omega)
  unfold gtS gtV
  rw [e]
  exact rtGet_in hn i (by omega) (by omega) h

theorem rtSet_no (hn : n < 2 ^ 40) (i a : Int) (hi : i < 0 \/ 7 < i) (h : (vOb base b n wh K).At w0 A G st w) :
  Calls Try.prog 10 #[.pointer (some ⟨b, 0, none⟩), .int .i64 i, .int .i64 a] w fun e w' => e = .returned (.bool false) /\ (vOb base b n wh K).At w0 A G st w' /\ Stay G w w' := by
 have W0 := hidp (WL.start h)
 have E1 := hidp (nth_off (f := 22) (n := 8) (e := 1) (i := i) (by omega))
 clear h
 go_enter Try.func10, Try.ntmps10
 go_wp2_with fail
 refine (plRoot_c i _).mono ?_; rintro e w9 ⟨rfl, rfl⟩; rw [E1.out]
 go_wp2
 go_ret
 exact ⟨rfl, W0.out.fin⟩
theorem rtSet_un (hn : n < 2 ^ 40) (i a : Int) (h0 : 0 <= i) (h1 : i <= 7) (ha : a < 0 \/ 4294967295 < a) (h : (vOb base b n wh K).At w0 A G st w) :
  Calls Try.prog 10 #[.pointer (some ⟨b, 0, none⟩), .int .i64 i, .int .i64 a] w fun e w' => e = .returned (.bool false) /\ (vOb base b n wh K).At w0 A G st w' /\ Stay G w w' := by
 have W0 := hidp (WL.start h)
 have t1 : decide (22 + i < 0) = false := decide_eq_false (by omega)
 have HC := hidp (rtFits_c a false (decide_eq_false (by omega)))
 clear h
 go_enter Try.func10, Try.ntmps10
 go_wp2_with fail
 refine (plRoot_c i _).mono ?_; rintro e w9 ⟨rfl, rfl⟩; rw [proot_at h0 h1]
 go_wp2_with fail
 refine (HC.out _).mono ?_; rintro e w9 ⟨rfl, rfl⟩
 go_wp2
 go_ret
 exact ⟨rfl, W0.out.fin⟩
set_option maxHeartbeats 1600000 in
theorem rtSet_in (hn : n < 2 ^ 40) (i a : Int) (h0 : 0 <= i) (h1 : i <= 7) (x : Nat) (hx : x < 2 ^ 32) (ha : a = (x : Int)) (h : (vOb base b n wh K).At w0 A G st w) :
  Calls Try.prog 10 #[.pointer (some ⟨b, 0, none⟩), .int .i64 i, .int .i64 a] w fun e w' => e = .returned (.bool true) /\ (vOb base b n wh K).At w0 A G (putS n st (22 + i) x) w' /\ Stay G w w' := by
 subst ha
 have W0 := hidp (WL.start h)
 have t1 : decide (22 + i < 0) = false := decide_eq_false (by omega)
 have HC := hidp (rtFits_c (x : Int) true (decide_eq_true (by omega)))
 have cw : IntKind.u32.wrap (x : Int) = (x : Int) := wrap_nat32 x hx
 clear h
 go_enter Try.func10, Try.ntmps10
 go_wp2_with fail
 refine (plRoot_c i _).mono ?_; rintro e w9 ⟨rfl, rfl⟩; rw [proot_at h0 h1]
 go_wp2_with fail
 refine (HC.out _).mono ?_; rintro e w9 ⟨rfl, rfl⟩
 go_wp2_with fail
 refine (vPutA hn _ x hx W0.out.at_).mono ?_; rintro e w1 ⟨rfl, h1, h2⟩; have W1 := hidp (W0.out.call h1 h2); clear h1 h2 W0
 go_wp2
 go_ret
 exact ⟨rfl, W1.out.fin⟩
theorem rtSet_c (hn : n < 2 ^ 40) (i a : Int) (hi : -9223372036854775808 <= i /\ i <= 9223372036854775807) (ha : -9223372036854775808 <= a /\ a <= 9223372036854775807) (h : (vOb base b n wh K).At w0 A G st w) :
  Calls Try.prog 10 #[.pointer (some ⟨b, 0, none⟩), .int .i64 i, .int .i64 a] w fun e w' => e = .returned (.bool (stB i a)) /\ (vOb base b n wh K).At w0 A G (stS n i a st) w' /\ Stay G w w' := by
 unfold stS
 by_cases h0 : i < 0 \/ 7 < i
 ·have e : stB i a = false := by unfold stB; rw [show rtB i = false from decide_eq_false (by omega)]; rfl
  rw [e]
  exact rtSet_no hn i a h0 h
 ·have e1 : rtB i = true := decide_eq_true (by omega)
  by_cases h2 : a < 0 \/ 4294967295 < a
  ·have e : stB i a = false := by unfold stB; rw [e1, decide_eq_false (by omega)]; rfl
   rw [e]
   exact rtSet_un hn i a (by omega) (by omega) h2 h
  ·have e : stB i a = true := by unfold stB; rw [e1, decide_eq_true (by omega)]; rfl
   rw [e]
   exact rtSet_in hn i a (by omega) (by omega) a.toNat (by omega) (by omega) h
end

def BoxAt (bx b : Nat) (w : World) : Prop := w.cell? ⟨bx, 0, none⟩ = some (.pointer (some ⟨b, 0, none⟩))
theorem BoxAt.below {bx b : Nat} {w w' : World} (h : BoxAt bx b w) (hb : Below w.heap.size w w') : BoxAt bx b w' := by
 have hlt : bx < w.heap.size := by
  rcases Nat.lt_or_ge bx w.heap.size with h1 | h1
  ·exact h1
  ·have h2 : w.heap[bx]? = none := Array.getElem?_eq_none h1
   unfold BoxAt World.cell? at h
   rw [h2] at h
   cases h
 exact (hb.cell hlt).trans h
section
attribute [local go_sem] Oper.semAt_some
set_option maxHeartbeats 1600000 in
theorem roots_seq (bx b : Nat) : SeqGet Try.prog 42 #[.pointer (some ⟨bx, 0, none⟩)] 8 (fun i => #[.pointer (some ⟨b, 0, none⟩), .int .i64 (i : Int)]) 8 (BoxAt bx b) := by
 intro l J J1 Jx W F0 hW hJ hJ1 hJx hJR hG hY h0
 refine callsIn_of_wp Try.func42 rfl trivial ?_ rfl
 simp only [Try.ntmps42, List.size_toArray, List.length_cons, List.length_nil, Nat.reduceAdd, Nat.reduceSub, Array.replicate_succ, Array.replicate_zero, List.push_toArray, List.append_toArray, List.nil_append, List.cons_append]
 have HJ0 := hidp h0
 have HJ := hidp hJ
 have HJ1 := hidp hJ1
 have HJX := hidp hJx
 have HJR := hidp hJR
 have HG := hidp hG
 have HY := hidp hY
 clear hJ hJ1 hJx hJR hG hY h0 hW
 gi_wp2_with fail
 gi_loopw [6] (fun u wr => ∃ (pos : Nat) (F : Nat -> Prop), u = .int .i64 (pos : Int) /\ pos <= 8 /\ Hid (J pos F wr) /\ Hid (W.heap.size <= wr.heap.size)) (fun u _ => 8 - (intOf u).toNat)
 case atStart => exact ⟨0, F0, rfl, by omega, HJ0, hidp (Nat.le_refl _)⟩
 case round =>
  clear HJ0
  obtain ⟨pos, F, rfl, hpos, HJS, HSZ⟩ := hrel
  have b0 : wr.cell? ⟨bx, 0, none⟩ = some (.pointer (some ⟨b, 0, none⟩)) := HJR.out _ _ _ HJS.out
  by_cases hlt : pos < 8
  ·have t1 : decide ((pos : Int) < 8) = true := decide_eq_true (by omega)
   have t1n : decide (pos < 8) = true := decide_eq_true hlt
   gi_wp2_with (first
    | (refine ⟨trivial, rfl, ?_⟩; gi_at_call 8; refine (calls_out (HG.out pos F _ HJS.out HSZ.out hlt)).mono ?_; rintro e w1 ⟨a, ok, rfl, hs1, F1, hj1⟩; have HJ1S := hidp hj1; have HSZ1 := hidp hs1; clear hj1 hs1 b0; obtain ⟨fn, tmps, assign, body, hy, hR⟩ := HY.out pos a F1 _ HJ1S.out HSZ1.out hlt; have HRR := hidp hR; clear hR)
    | fail)
   refine ⟨rfl, HRR.out.mono ?_⟩
   rintro e W3 (⟨rfl, hsz3, F', hJ3⟩ | ⟨rfl, hx⟩)
   ·have HJ3 := hidp hJ3
    have HS3 : Hid (W.heap.size <= W3.heap.size) := hidp hsz3
    clear hJ3 hsz3 HRR HY HJ HJ1 HJX HJR HG hy
    gi_wp2
    go_roundw
    case rel => exact ⟨pos + 1, F', by go_num, by omega, HJ3, HS3⟩
    case measure => simp [intOf]; omega
   ·have HX := hidp hx
    clear hx HY HJ HJ1 HJX HJR HG HRR hy
    gi_wp2
    refine bodyPost_ret (results_none rfl _ _ _) rfl ?_
    exact ⟨⟨_, rfl⟩, .inr HX.out⟩
  ·obtain rfl : pos = 8 := by omega
   gi_wp2
   go_end0
   exact ⟨⟨_, rfl⟩, .inl ⟨F, HJS.out⟩⟩
end
theorem rtRoots_c (b : Nat) (w : World) : Calls Try.prog 31 #[.pointer (some ⟨b, 0, none⟩)] w fun e w' => e = .returned (.func (.func 42) #[] #[.pointer (some ⟨w.heap.size, 0, none⟩)]) /\ w' = w.alloc (.cells #[.pointer (some ⟨b, 0, none⟩)] 25) := by
 go_enter Try.func31, Try.ntmps31
 go_wp2
 go_ret
 exact ⟨rfl, rfl⟩
end
section
section
variable {base b n : Nat} {wh : Bool} {K : Nat -> Option Nat} {st : Vst} {w w0 : World} {A G : Nat -> Prop}
attribute [local go_sem] Oper.semAt_some
theorem rtC_int (i : Nat) : 22 + (i : Int) = rtC i := by unfold rtC; omega
theorem rtHeld_no (hn : n < 2 ^ 40) (a : Int) (ha : a < 1) (h : (vOb base b n wh K).At w0 A G st w) :
  Calls Try.prog 12 #[.pointer (some ⟨b, 0, none⟩), .int .i64 a] w fun e w' => e = .returned (.bool false) /\ (vOb base b n wh K).At w0 A G st w' /\ Stay G w w' := by
 have t2 : decide (a < 1) = true := decide_eq_true ha
 have W0 := hidp (((WL.start h).new 2 #[.int .i64 a]).new 4 #[.bool false])
 rw [World.size_alloc] at W0
 have c0 := W0.out.h1.cell 0
 obtain ⟨c1, f1⟩ := W0.out.h0.one
 simp only [List.getElem?_toArray, List.getElem?_cons_zero] at c0 c1
 clear h
 go_enter Try.func12, Try.ntmps12
 go_wp2
 have W1 := W0.out.put 0 (.bool false)
 obtain ⟨c2, f2⟩ := W1.h0.one
 refine bodyPost_ret (v := .bool false) (by simp [results, Try.results12, go_sem, c2]) rfl ⟨rfl, ?_⟩
 first | exact W1.fin | exact W0.out.fin

set_option maxHeartbeats 3200000 in
theorem rtHeld_yes (hn : n < 2 ^ 40) (a : Int) (ha : 1 <= a) (h : (vOb base b n wh K).At w0 A G st w) :
  Calls Try.prog 12 #[.pointer (some ⟨b, 0, none⟩), .int .i64 a] w fun e w' => e = .returned (.bool (heldI n K a 8 0 st).1) /\ (vOb base b n wh K).At w0 A G (heldI n K a 8 0 st).2 w' /\ Stay G w w' := by
 have t2 : decide (a < 1) = false := decide_eq_false (by omega)
 obtain ⟨hb, hhb⟩ : ∃ x, (heldI n K a 8 0 st).1 = x := ⟨_, rfl⟩
 obtain ⟨hs, hhs⟩ : ∃ x, (heldI n K a 8 0 st).2 = x := ⟨_, rfl⟩
 have HE0 : Hid (heldI n K a (8 - 0) 0 st = (hb, hs)) := hidp (by rw [<- hhb, <- hhs])
 rw [hhb, hhs]
 have W0 := hidp (((WL.start h).new 2 #[.int .i64 a]).new 4 #[.bool false])
 rw [World.size_alloc] at W0
 have c0 := W0.out.h1.cell 0
 simp only [List.getElem?_toArray, List.getElem?_cons_zero] at c0
 clear h hhb hhs
 refine calls_of_wp_mark Try.func12 rfl ?_
 simp only [Try.ntmps12, List.size_toArray, List.length_cons, List.length_nil, Nat.reduceAdd, Nat.reduceSub, Array.replicate_succ, Array.replicate_zero, List.push_toArray, List.append_toArray, List.nil_append, List.cons_append]
 go_wp2_with fail
 refine (rtRoots_c b _).mono ?_; rintro e w1 ⟨rfl, rfl⟩
 replace W0 := hidp (W0.out.new 25 #[.pointer (some ⟨b, 0, none⟩)]).swap
 rw [World.size_alloc, World.size_alloc] at W0 ⊢
 clear c0
 go_wp2_with fail
 obtain ⟨W3, hW3⟩ : ∃ x, (((w.alloc (.cells #[.int .i64 a] 2)).alloc (.cells #[.bool false] 4)).alloc (.cells #[.pointer (some ⟨b, 0, none⟩)] 25)) = x := ⟨_, rfl⟩
 have hz : W3.heap.size = w.heap.size + 3 := by rw [<- hW3]; simp
 rw [hW3] at W0 ⊢
 clear hW3
 obtain ⟨F0, HF0⟩ := W0.out.open_
 have hw0 : w0.heap.size <= W3.heap.size := W0.out.at_.size
 obtain ⟨L, hL⟩ : ∃ x : Value -> List Blk, x = fun u => [⟨w.heap.size + 1, 4, #[u]⟩, ⟨w.heap.size + 1 + 1, 25, #[.pointer (some ⟨b, 0, none⟩)]⟩, ⟨w.heap.size, 2, #[.int .i64 a]⟩] := ⟨_, rfl⟩
 have HL := hidp hL
 have HW3 : Hid (WLF (vOb base b n wh K) w0 A G w (L (.bool false)) st F0 W3) := hidp (by rw [hL]; exact HF0)
 have HZ := hidp hz
 have HW0 := hidp hw0
 have HLN : Hid (∀ u, ∀ x ∈ L u, x.n ≠ W3.heap.size + 1 /\ x.n ≠ W3.heap.size) := hidp (fun u x hx => by
  rw [hL] at hx
  simp only [List.mem_cons, List.not_mem_nil, or_false] at hx
  rcases hx with rfl | rfl | rfl <;> (constructor <;> (show _ ≠ _) <;> (dsimp only) <;> omega))
 have HPUT : Hid (∀ u v F W s, WLF (vOb base b n wh K) w0 A G w (L u) s F W -> WLF (vOb base b n wh K) w0 A G w (L v) s F (W.setCell ⟨w.heap.size + 1, 0, none⟩ v)) := hidp (fun u v F W s h => by
  rw [hL] at h ⊢
  exact h.put 0 v)
 have HC : Hid (∀ u F W s, WLF (vOb base b n wh K) w0 A G w (L u) s F W -> (W.cell? ⟨w.heap.size + 1, 0, none⟩ = some u /\ W.frozen? ⟨w.heap.size + 1, 0, none⟩ = false) /\ BoxAt (w.heap.size + 1 + 1) b W /\ W.cell? ⟨w.heap.size, 0, none⟩ = some (.int .i64 a)) := hidp (fun u F W s h => by
  rw [hL] at h
  exact ⟨h.wl.h0.one, h.wl.h1.cell 0, h.wl.h2.cell 0⟩)
 clear hz hw0 hL HF0 W0 HL
 refine wp_seq_get (gf := 42) (cap := #[.pointer (some ⟨w.heap.size + 1 + 1, 0, none⟩)]) (get := 8) (gargs := fun i => #[.pointer (some ⟨b, 0, none⟩), .int .i64 (i : Int)]) (m := 8) (R := BoxAt (w.heap.size + 1 + 1) b) rfl (enters_of Try.func42 (by kernel_rfl) rfl) (roots_seq _ b) (HC.out _ _ _ _ HW3.out).2.1 (fun A B h hb => h.below hb) rfl
  (fun pos F B => Hid (∃ Fv sj, F = (fun i => Fv i \/ i = w.heap.size + 1) /\ pos <= 8 /\ WLF (vOb base b n wh K) w0 A G w (L (.bool false)) sj Fv B /\ heldI n K a (8 - pos) pos sj = (hb, hs)))
  (fun pos v F B => Hid (∃ Fv sj, F = (fun i => Fv i \/ i = w.heap.size + 1) /\ pos < 8 /\ WLF (vOb base b n wh K) w0 A G w (L (.bool false)) sj Fv B /\ (if v = a then (true, sj) else heldI n K a (8 - (pos + 1)) (pos + 1) sj) = (hb, hs)))
  (fun c B => c = .ret /\ hb = true /\ ∃ Fv, (¬ Fv (W3.heap.size + 1) /\ ¬ Fv W3.heap.size) /\ WLF (vOb base b n wh K) w0 A G w (L (.bool true)) hs Fv B)
  ?hI ?hI1 ?hIx ?hIR (F0 := fun i => F0 i \/ i = w.heap.size + 1) (hidp ⟨F0, st, rfl, by omega, HW3.out, HE0.out⟩) ?hF0 ?hget ?round ?done ?stop
 case hI => rintro pos F B B' ⟨Fv, sj, rfl, h1, h2, h3⟩ hF ht; exact hidp ⟨Fv, sj, rfl, h1, h2.aside ht (fun h => hF (.inl h)) (by have := HW0.out; omega) (by have := HZ.out; omega) (fun x hx => (HLN.out _ x hx).1), h3⟩
 case hI1 => rintro pos v F B B' ⟨Fv, sj, rfl, h1, h2, h3⟩ hF ht; exact hidp ⟨Fv, sj, rfl, h1, h2.aside ht (fun h => hF (.inl h)) (by have := HW0.out; omega) (by have := HZ.out; omega) (fun x hx => (HLN.out _ x hx).1), h3⟩
 case hIx => rintro c B B' ⟨h0, h1, Fv, hF, h2⟩ ht; exact ⟨h0, h1, Fv, hF, h2.aside ht hF.1 (by have := HW0.out; omega) (by have := HZ.out; omega) (fun x hx => (HLN.out _ x hx).1)⟩
 case hIR => rintro pos F B ⟨Fv, sj, rfl, h1, h2, h3⟩; exact (HC.out _ _ _ _ h2).2.1
 case hF0 =>
  rintro i (h | rfl)
  ·exact HW3.out.lt i h
  ·have := HZ.out; omega
 case hget =>
  rintro pos F B ⟨Fv, sj, rfl, _, h2, h3⟩ hlt
  refine (h2.call (s' := getS n K sj (rtC pos)) (R := fun e => e = .returned (.tuple #[.int .i64 (getV n K sj (rtC pos) : Int), .bool true])) (fun h => by have := rtGet_in hn (pos : Int) (by omega) (by omega) h; rw [rtC_int] at this; exact this)).mono ?_
  rintro e B' ⟨rfl, F', h4, h5, h6⟩
  refine ⟨_, true, rfl, fun i => F' i \/ i = w.heap.size + 1, hidp ⟨F', _, rfl, hlt, h4, ?_⟩, h5.more (fun i hi => .inl hi), fun i hi => ?_⟩
  ·rw [show 8 - pos = (8 - (pos + 1)) + 1 by omega] at h3
   exact h3
  ·rcases hi with hi | hi
   ·rcases h6 i hi with h7 | h7
    ·exact .inl (.inl h7)
    ·exact .inr h7
   ·exact .inl (.inr hi)
 case round =>
  rintro l pos v F B hlt ⟨Fv, sj, rfl, _, h2, h3⟩ hsz hF
  gi_wp2_with fail
  refine ⟨B0 _, fun A2 hT hs2 => ?_⟩
  have HW := hidp (h2.aside hT (fun h => hF.2 (.inl h)) (by have := HW0.out; omega) (by have := HZ.out; omega) (fun x hx => (HLN.out _ x hx).1))
  have HNF : Hid (¬ Fv (W3.heap.size + 1) /\ ¬ Fv W3.heap.size) := hidp ⟨fun h => hF.2 (.inl h), fun h => hF.1 (.inl h)⟩
  obtain ⟨⟨c1, f1⟩, _, c0⟩ := HC.out _ _ _ _ HW.out
  have HE := hidp h3
  clear h2 hT hs2 hF h3 hsz
  by_cases hva : v = a
  ·have t3 : (v == a) = true := by simp [hva]
   have HR : Hid (hb = true /\ sj = hs) := hidp (by
    have h := HE.out
    rw [if_pos hva] at h
    injection h with h4 h5
    exact ⟨h4.symm, h5⟩)
   clear hva HE
   gi_wp2_with fail
   exact ⟨(T0 _ _).put (p := ⟨w.heap.size + 1, 0, none⟩) (.inr rfl) _, rfl, HR.out.1, Fv, HNF.out, by rw [<- HR.out.2]; exact HPUT.out _ _ _ _ _ HW.out⟩
  ·have t3 : (v == a) = false := by simp [hva]
   have HR : Hid (heldI n K a (8 - (pos + 1)) (pos + 1) sj = (hb, hs)) := hidp (by
    have h := HE.out
    rw [if_neg hva] at h
    exact h)
   clear hva HE
   gi_wp2_with fail
   exact ⟨T0 _ _, _, hidp ⟨Fv, rfl, by omega, _, HW.out, HR.out⟩, fun i hi => .inl hi⟩
 case done =>
  rintro F B ⟨Fv, sj, rfl, _, h2, h3⟩ hF hk
  have HE : Hid (false = hb /\ sj = hs) := hidp (by
   injection h3 with h4 h5
   exact ⟨h4, h5⟩)
  have HW := hidp h2
  have HK := hidp hk
  have HF : Hid (¬ Fv W3.heap.size) := hidp (fun h => hF (.inl h))
  obtain ⟨⟨c1, f1⟩, _, _⟩ := HC.out _ _ _ _ HW.out
  clear h2 h3 hF hk
  go_wp2_with fail
  refine mark_end rfl ((Below.heap_setCell _ _ _ _ (by have := HZ.out; simp; omega)).trans HK.out) ?_
  have h4 := HPUT.out _ (.bool false) _ _ _ HW.out
  have h5 := h4.aside (Turns.putObj (k := W3.heap.size) _ (.deferred none)) HF.out HW0.out (by have := HZ.out; omega) (fun x hx => (HLN.out _ x hx).2)
  obtain ⟨⟨z1, _⟩, _⟩ := HC.out _ _ _ _ h5
  obtain ⟨rfl, rfl⟩ := HE.out
  refine bodyPost_ret (v := .bool false) (by simp [results, Try.results12, go_sem, z1]) rfl ⟨rfl, ?_⟩
  exact h5.wl.fin
 case stop =>
  rintro c B ⟨rfl, h1, Fv, hF, h2⟩ hk
  have HW := hidp h2
  have HK := hidp hk
  have HF := hidp hF
  have HB := hidp h1
  clear h2 hk hF h1
  go_wp2_with fail
  refine mark_end rfl HK.out ?_
  have h5 := HW.out.aside (Turns.putObj (k := W3.heap.size) _ (.deferred none)) HF.out.2 HW0.out (by have := HZ.out; omega) (fun x hx => (HLN.out _ x hx).2)
  obtain ⟨⟨z1, _⟩, _⟩ := HC.out _ _ _ _ h5
  rw [HB.out]
  refine bodyPost_ret (v := .bool true) (by simp [results, Try.results12, go_sem, z1]) rfl ⟨rfl, ?_⟩
  exact h5.wl.fin
theorem rtHeld_c (hn : n < 2 ^ 40) (a : Int) (ha : -9223372036854775808 <= a /\ a <= 9223372036854775807) (h : (vOb base b n wh K).At w0 A G st w) :
  Calls Try.prog 12 #[.pointer (some ⟨b, 0, none⟩), .int .i64 a] w fun e w' => e = .returned (.bool (heldR n K a st).1) /\ (vOb base b n wh K).At w0 A G ((heldR n K a st).2) w' /\ Stay G w w' := by
 unfold heldR
 by_cases h1 : 1 <= a
 ·rw [if_pos h1]
  exact rtHeld_yes hn a h1 h
 ·rw [if_neg h1]
  exact rtHeld_no hn a (by omega) h
theorem rtFollow_no1 (hn : n < 2 ^ 40) (x y : Int) (hx : x < 1 \/ 4294967295 < x) (h : (vOb base b n wh K).At w0 A G st w) :
  Calls Try.prog 14 #[.pointer (some ⟨b, 0, none⟩), .int .i64 x, .int .i64 y] w fun e w' => e = .returned (.tuple #[]) /\ (vOb base b n wh K).At w0 A G st w' /\ Stay G w w' := by
 have W0 := hidp ((((WL.start h).new 25 #[.pointer (some ⟨b, 0, none⟩)]).new 2 #[.int .i64 x]).new 2 #[.int .i64 y])
 rw [World.size_alloc, World.size_alloc] at W0
 have c0 := W0.out.h2.cell 0
 have c1 := W0.out.h1.cell 0
 have c2 := W0.out.h0.cell 0
 simp only [List.getElem?_toArray, List.getElem?_cons_zero] at c0 c1 c2
 have HN1 := hidp (rtNames_c x false (decide_eq_false (by omega)))
 clear h
 go_enter Try.func14, Try.ntmps14
 go_wp2_with fail
 refine (HN1.out _).mono ?_; rintro e w9 ⟨rfl, rfl⟩
 go_wp2
 refine bodyPost_ret (results_none rfl _ _ _) rfl ⟨rfl, ?_⟩
 exact W0.out.fin
theorem rtFollow_no2 (hn : n < 2 ^ 40) (x y : Int) (hx : 1 <= x /\ x <= 4294967295) (hy : y < 1 \/ 4294967295 < y) (h : (vOb base b n wh K).At w0 A G st w) :
  Calls Try.prog 14 #[.pointer (some ⟨b, 0, none⟩), .int .i64 x, .int .i64 y] w fun e w' => e = .returned (.tuple #[]) /\ (vOb base b n wh K).At w0 A G st w' /\ Stay G w w' := by
 have W0 := hidp ((((WL.start h).new 25 #[.pointer (some ⟨b, 0, none⟩)]).new 2 #[.int .i64 x]).new 2 #[.int .i64 y])
 rw [World.size_alloc, World.size_alloc] at W0
 have c0 := W0.out.h2.cell 0
 have c1 := W0.out.h1.cell 0
 have c2 := W0.out.h0.cell 0
 simp only [List.getElem?_toArray, List.getElem?_cons_zero] at c0 c1 c2
 have HN1 := hidp (rtNames_c x true (decide_eq_true (by omega)))
 have HN2 := hidp (rtNames_c y false (decide_eq_false (by omega)))
 clear h
 go_enter Try.func14, Try.ntmps14
 go_wp2_with fail
 refine (HN1.out _).mono ?_; rintro e w9 ⟨rfl, rfl⟩
 go_wp2_with fail
 refine (HN2.out _).mono ?_; rintro e w9 ⟨rfl, rfl⟩
 go_wp2
 refine bodyPost_ret (results_none rfl _ _ _) rfl ⟨rfl, ?_⟩
 exact W0.out.fin

set_option maxHeartbeats 3200000 in
theorem rtFollow_in (hn : n < 2 ^ 40) (x y : Int) (x0 y0 : Nat) (hx0 : 1 <= x0) (hx1 : x0 <= 4294967295) (hy0 : 1 <= y0) (hy1 : y0 <= 4294967295) (hx : x = (x0 : Int)) (hy : y = (y0 : Int)) (h : (vOb base b n wh K).At w0 A G st w) :
  Calls Try.prog 14 #[.pointer (some ⟨b, 0, none⟩), .int .i64 x, .int .i64 y] w fun e w' => e = .returned (.tuple #[]) /\ (vOb base b n wh K).At w0 A G (folI n K x0 y0 8 0 st) w' /\ Stay G w w' := by
 subst hx
 subst hy
 have W0 := hidp ((((WL.start h).new 25 #[.pointer (some ⟨b, 0, none⟩)]).new 2 #[.int .i64 (x0 : Int)]).new 2 #[.int .i64 (y0 : Int)])
 rw [World.size_alloc, World.size_alloc] at W0
 have c0 := W0.out.h2.cell 0
 have c1 := W0.out.h1.cell 0
 have c2 := W0.out.h0.cell 0
 simp only [List.getElem?_toArray, List.getElem?_cons_zero] at c0 c1 c2
 have HN1 := hidp (rtNames_c (x0 : Int) true (decide_eq_true (by omega)))
 have HN2 := hidp (rtNames_c (y0 : Int) true (decide_eq_true (by omega)))
 obtain ⟨hs, hhs⟩ : ∃ x, folI n K x0 y0 8 0 st = x := ⟨_, rfl⟩
 have HE0 : Hid (folI n K x0 y0 (8 - 0) 0 st = hs) := hidp hhs
 rw [hhs]
 clear h hhs
 refine calls_of_wp_mark Try.func14 rfl ?_
 simp only [Try.ntmps14, List.size_toArray, List.length_cons, List.length_nil, Nat.reduceAdd, Nat.reduceSub, Array.replicate_succ, Array.replicate_zero, List.push_toArray, List.append_toArray, List.nil_append, List.cons_append]
 go_wp2_with fail
 refine (HN1.out _).mono ?_; rintro e w9 ⟨rfl, rfl⟩
 go_wp2_with fail
 refine (HN2.out _).mono ?_; rintro e w9 ⟨rfl, rfl⟩
 go_wp2_with fail
 refine (rtRoots_c b _).mono ?_; rintro e w1 ⟨rfl, rfl⟩
 replace W0 := hidp (W0.out.new 25 #[.pointer (some ⟨b, 0, none⟩)])
 rw [World.size_alloc, World.size_alloc, World.size_alloc] at W0 ⊢
 clear c0 c1 c2
 go_wp2_with fail
 obtain ⟨W3, hW3⟩ : ∃ x, ((((w.alloc (.cells #[.pointer (some ⟨b, 0, none⟩)] 25)).alloc (.cells #[.int .i64 (x0 : Int)] 2)).alloc (.cells #[.int .i64 (y0 : Int)] 2)).alloc (.cells #[.pointer (some ⟨b, 0, none⟩)] 25)) = x := ⟨_, rfl⟩
 have hz : W3.heap.size = w.heap.size + 4 := by rw [<- hW3]; simp
 rw [hW3] at W0 ⊢
 clear hW3
 obtain ⟨F0, HF0⟩ := W0.out.open_
 have hw0 : w0.heap.size <= W3.heap.size := W0.out.at_.size
 obtain ⟨L, hL⟩ : ∃ x : List Blk, x = [⟨w.heap.size + 1 + 1 + 1, 25, #[.pointer (some ⟨b, 0, none⟩)]⟩, ⟨w.heap.size + 1 + 1, 2, #[.int .i64 (y0 : Int)]⟩, ⟨w.heap.size + 1, 2, #[.int .i64 (x0 : Int)]⟩, ⟨w.heap.size, 25, #[.pointer (some ⟨b, 0, none⟩)]⟩] := ⟨_, rfl⟩
 have HW3 : Hid (WLF (vOb base b n wh K) w0 A G w L st F0 W3) := hidp (by rw [hL]; exact HF0)
 have HZ := hidp hz
 have HW0 := hidp hw0
 have HLN : Hid (∀ x ∈ L, x.n ≠ W3.heap.size + 1 /\ x.n ≠ W3.heap.size) := hidp (fun x hx => by
  rw [hL] at hx
  simp only [List.mem_cons, List.not_mem_nil, or_false] at hx
  rcases hx with rfl | rfl | rfl | rfl <;> (constructor <;> (show _ ≠ _) <;> (dsimp only) <;> omega))
 have HC : Hid (∀ F W s, WLF (vOb base b n wh K) w0 A G w L s F W -> BoxAt (w.heap.size + 1 + 1 + 1) b W /\ W.cell? ⟨w.heap.size + 1 + 1, 0, none⟩ = some (.int .i64 (y0 : Int)) /\ W.cell? ⟨w.heap.size + 1, 0, none⟩ = some (.int .i64 (x0 : Int)) /\ W.cell? ⟨w.heap.size, 0, none⟩ = some (.pointer (some ⟨b, 0, none⟩))) := hidp (fun F W s h => by
  rw [hL] at h
  exact ⟨h.wl.h0.cell 0, h.wl.h1.cell 0, h.wl.h2.cell 0, (h.held _ (List.mem_cons_of_mem _ (List.mem_cons_of_mem _ (List.mem_cons_of_mem _ (List.mem_cons_self ..))))).cell 0⟩)
 have hy32 : y0 < 2 ^ 32 := by omega
 clear hz hw0 hL HF0 W0
 refine wp_seq_get (gf := 42) (cap := #[.pointer (some ⟨w.heap.size + 1 + 1 + 1, 0, none⟩)]) (get := 8) (gargs := fun i => #[.pointer (some ⟨b, 0, none⟩), .int .i64 (i : Int)]) (m := 8) (R := BoxAt (w.heap.size + 1 + 1 + 1) b) rfl (enters_of Try.func42 (by kernel_rfl) rfl) (roots_seq _ b) (HC.out _ _ _ HW3.out).1 (fun A B h hb => h.below hb) rfl
  (fun pos F B => Hid (∃ sj, pos <= 8 /\ WLF (vOb base b n wh K) w0 A G w L sj F B /\ folI n K x0 y0 (8 - pos) pos sj = hs))
  (fun pos v F B => Hid (∃ sj, ∃ u : Nat, v = (u : Int) /\ pos < 8 /\ WLF (vOb base b n wh K) w0 A G w L sj F B /\ folI n K x0 y0 (8 - (pos + 1)) (pos + 1) (if u = x0 then putS n sj (rtC pos) y0 else sj) = hs))
  (fun c B => False)
  ?hI ?hI1 ?hIx ?hIR (F0 := F0) (hidp ⟨st, by omega, HW3.out, HE0.out⟩) ?hF0 ?hget ?round ?done ?stop
 case hI => rintro pos F B B' ⟨sj, h1, h2, h3⟩ hF ht; exact hidp ⟨sj, h1, h2.aside ht hF (by have := HW0.out; omega) (by have := HZ.out; omega) (fun x hx => (HLN.out x hx).1), h3⟩
 case hI1 => rintro pos v F B B' ⟨sj, u, rfl, h1, h2, h3⟩ hF ht; exact hidp ⟨sj, u, rfl, h1, h2.aside ht hF (by have := HW0.out; omega) (by have := HZ.out; omega) (fun x hx => (HLN.out x hx).1), h3⟩
 case hIx => rintro c B B' h ht; exact h
 case hIR => rintro pos F B ⟨sj, h1, h2, h3⟩; exact (HC.out _ _ _ h2).1
 case hF0 => exact fun i hi => HW3.out.lt i hi
 case hget =>
  rintro pos F B ⟨sj, _, h2, h3⟩ hlt
  refine (h2.call (s' := getS n K sj (rtC pos)) (R := fun e => e = .returned (.tuple #[.int .i64 (getV n K sj (rtC pos) : Int), .bool true])) (fun h => by have := rtGet_in hn (pos : Int) (by omega) (by omega) h; rw [rtC_int] at this; exact this)).mono ?_
  rintro e B' ⟨rfl, F', h4, h5, h6⟩
  refine ⟨_, true, rfl, F', hidp ⟨_, _, rfl, hlt, h4, ?_⟩, h5, h6⟩
  rw [show 8 - pos = (8 - (pos + 1)) + 1 by omega] at h3
  exact h3
 case round =>
  rintro l pos v F B hlt ⟨sj, u, rfl, _, h2, h3⟩ hsz hF
  gi_wp2_with fail
  refine ⟨B0 _, fun A2 hT hs2 => ?_⟩
  have HW := hidp (h2.aside hT hF.2 (by have := HW0.out; omega) (by have := HZ.out; omega) (fun x hx => (HLN.out x hx).1))
  obtain ⟨_, c2, c1, c0⟩ := HC.out _ _ _ HW.out
  have HE := hidp h3
  have HP := hidp hlt
  have HBS : Hid (B.heap.size <= A2.heap.size) := hidp hT.size
  clear h2 hT hs2 hF h3 hsz
  by_cases hva : u = x0
  ·have t3 : ((u : Int) == (x0 : Int)) = true := by simp [hva]
   have t3n : (u == x0) = true := by simp [hva]
   have HR : Hid (folI n K x0 y0 (8 - (pos + 1)) (pos + 1) (putS n sj (rtC pos) y0) = hs) := hidp (by
    have h := HE.out
    rw [if_pos hva] at h
    exact h)
   clear hva HE
   gi_wp2_with (first
    | (refine ⟨trivial, rfl, ?_⟩; gi_at_call 10; refine (calls_in (HW.out.call (s' := putS n sj (rtC pos) y0) (R := fun e => e = .returned (.bool true)) (fun h => by have := rtSet_in hn (pos : Int) (y0 : Int) (by omega) (by have := HP.out; omega) y0 hy32 rfl h; rw [rtC_int] at this; exact this))).mono ?_; rintro e w4 ⟨rfl, F', h4, h5, h6⟩; have H4 := hidp h4; have H5 := hidp h5; have H6 := hidp h6; clear h4 h5 h6 c0 c1 c2)
    | fail)
   exact ⟨H5.out, F', hidp ⟨_, by have := HP.out; omega, H4.out, HR.out⟩, fun i hi => by
    rcases H6.out i hi with h | h
    ·exact .inl h
    ·exact .inr (Nat.le_trans HBS.out h)⟩
  ·have t3 : ((u : Int) == (x0 : Int)) = false := by simp; omega
   have t3n : (u == x0) = false := by simp; omega
   have HR : Hid (folI n K x0 y0 (8 - (pos + 1)) (pos + 1) sj = hs) := hidp (by
    have h := HE.out
    rw [if_neg hva] at h
    exact h)
   clear hva HE
   gi_wp2_with fail
   exact ⟨T0 _ _, _, hidp ⟨_, by have := HP.out; omega, HW.out, HR.out⟩, fun i hi => .inl hi⟩
 case done =>
  rintro F B ⟨sj, _, h2, h3⟩ hF hk
  have HE : Hid (sj = hs) := hidp h3
  have HW := hidp h2
  have HK := hidp hk
  have HF := hidp hF
  clear h2 h3 hF hk
  go_wp2_with fail
  refine mark_end_n rfl HK.out ?_
  have h5 := HW.out.aside (Turns.putObj (k := W3.heap.size) _ (.deferred none)) HF.out HW0.out (by have := HZ.out; omega) (fun x hx => (HLN.out x hx).2)
  obtain rfl := HE.out
  refine bodyPost_ret (results_none rfl _ _ _) rfl ⟨rfl, ?_⟩
  exact h5.wl.fin
 case stop => rintro c B h hk; exact h.elim
theorem rtFollow_c (hn : n < 2 ^ 40) (x y : Int) (hx : -9223372036854775808 <= x /\ x <= 9223372036854775807) (hy : -9223372036854775808 <= y /\ y <= 9223372036854775807) (h : (vOb base b n wh K).At w0 A G st w) :
  Calls Try.prog 14 #[.pointer (some ⟨b, 0, none⟩), .int .i64 x, .int .i64 y] w fun e w' => e = .returned (.tuple #[]) /\ (vOb base b n wh K).At w0 A G (folR n K x y st) w' /\ Stay G w w' := by
 unfold folR
 by_cases h1 : x < 1 \/ 4294967295 < x
 ·rw [if_neg (by omega)]
  exact rtFollow_no1 hn x y h1 h
 ·by_cases h3 : y < 1 \/ 4294967295 < y
  ·rw [if_neg (by omega)]
   exact rtFollow_no2 hn x y (by omega) h3 h
  ·rw [if_pos (by omega)]
   exact rtFollow_in hn x y x.toNat y.toNat (by omega) (by omega) (by omega) (by omega) (by omega) (by omega) h
end
end
section
structure Duo (W : World) (O1 O2 : Ob) (A B G : Nat -> Prop) (s1 s2 : Vst) (w : World) : Prop where
 i1 : O1.I w s1 A
 i2 : O2.I w s2 B
 ab : ∀ i, A i -> ¬ B i
 aG : ∀ g, G g -> g < w.heap.size /\ ¬ A g /\ ¬ B g
 lo : ∀ i, A i \/ B i -> W.heap.size <= i
 bel : Below W.heap.size W w
def noOb : Ob where
 I _ _ A := ∀ i, ¬ A i
 lt h i hi := absurd hi (h i)
 turns h _ _ := h

section
variable {W w w' : World} {O1 O2 : Ob} {A B G : Nat -> Prop} {s1 s2 s' : Vst}
theorem Duo.left1 (h : Duo W O1 O2 A B G s1 s2 w) (hl : O1.Left w A s' w') : ∃ A', Duo W O1 O2 A' B G s' s2 w' /\ Stay G w w' := by
 obtain ⟨A', k1, k2, k3⟩ := hl
 have hs := h.bel.size
 refine ⟨A', ⟨k1, O2.turns h.i2 k3 (fun i hi ha => h.ab i ha hi), fun i hi hb => ?_, fun g hg => ⟨Nat.lt_of_lt_of_le (h.aG g hg).1 k3.size, fun x => ?_, (h.aG g hg).2.2⟩, fun i hi => ?_, k3.below h.bel (fun i hi => h.lo i (.inl hi))⟩, ⟨k3.size, fun g hg hl => k3.block g hl (h.aG g hg).2.1⟩⟩
 ·rcases k2 i hi with h1 | h1
  ·exact h.ab i h1 hb
  ·have := O2.lt h.i2 i hb; omega
 ·rcases k2 g x with h1 | h1
  ·exact (h.aG g hg).2.1 h1
  ·have := (h.aG g hg).1; omega
 ·rcases hi with hi | hi
  ·rcases k2 i hi with h1 | h1
   ·exact h.lo i (.inl h1)
   ·omega
  ·exact h.lo i (.inr hi)
theorem Duo.keep (h : Duo W O1 O2 A B G s1 s2 w) (hb : Below w.heap.size w w') : Duo W O1 O2 A B G s1 s2 w' :=
 ⟨Ob.keep h.i1 hb, Ob.keep h.i2 hb, h.ab, fun g hg => ⟨Nat.lt_of_lt_of_le (h.aG g hg).1 hb.size, (h.aG g hg).2⟩, h.lo, Bgo h.bel hb⟩
theorem Duo.keep2 {G' : Nat -> Prop} (h : Duo W O1 O2 A B G s1 s2 w) (hb : Below w.heap.size w w') (hG : ∀ g, G' g -> G g \/ (w.heap.size <= g /\ g < w'.heap.size)) : Duo W O1 O2 A B G' s1 s2 w' := by
 have hk := h.keep hb
 refine ⟨hk.i1, hk.i2, hk.ab, fun g x => ?_, hk.lo, hk.bel⟩
 rcases hG g x with h1 | h1
 ·exact hk.aG g h1
 ·exact ⟨h1.2, fun y => by have := O1.lt h.i1 g y; omega, fun y => by have := O2.lt h.i2 g y; omega⟩
theorem Duo.at1 (h : Duo W O1 O2 A B G s1 s2 w) : O1.At w A (fun _ => False) s1 w := Ob.At.start h.i1
theorem duo_made {b n base : Nat} {wh : Bool} {o : VGeo} {K : Nat -> Option Nat} {s : Vst} (hI : IsView w base b n wh o K s) (hb : W.heap.size <= base) (hB : Below W.heap.size W w) (hG : ∀ g, G g -> g < w.heap.size /\ ¬ o.A b g) :
  Duo W (vOb base b n wh K) noOb (o.A b) (fun _ => False) G s freshS w :=
 ⟨⟨o, hI, rfl⟩, fun _ x => x, fun _ _ x => x, fun g hg => ⟨(hG g hg).1, (hG g hg).2, fun x => x⟩, fun i hi => by
  rcases hi with hi | hi
  ·exact Nat.le_trans hb (hI.ge i hi)
  ·exact hi.elim, hB⟩
end
end
section
theorem make30 (w : World) : (Instr.makeSlice 22 (.int .i64 30) (.int .i64 30)).run Try.prog w = .ok (.slice (some ⟨w.heap.size, 0, none⟩) 30 30) (w.alloc (.cells (Array.replicate 30 (.int .u32 0)) 49)) := by kernel_rfl
def ex21L : List Nat := (List.replicate 30 0).set 23 1024
def ex21C : Array Value := (Array.replicate 30 (Value.int .u32 0)).setIfInBounds 23 (.int .u32 1024)
theorem ex21_eq : ex21C.toList = valVs ex21L := by
 unfold ex21C ex21L valVs
 simp only [Array.toList_setIfInBounds, Array.toList_replicate, List.map_set, List.map_replicate]
 rfl
theorem ex21_n : ex21L.length = 30 := by decide
theorem ex21_32 : ∀ x ∈ ex21L, x < 2 ^ 32 := by decide
def ex21K : Nat -> Option Nat := fun i => ex21L[i]?
theorem ex21_cells {w : World} {g : Nat} {t : TypeId} (h : Held w g t ex21C) : ∀ j u, (valVs ex21L)[j]? = some u -> w.cell? ((⟨g, 0, none⟩ : Addr).add j) = some u := by
 intro j u hu
 have e : (⟨g, 0, none⟩ : Addr).add j = ⟨g, j, none⟩ := by
  unfold Addr.add
  by_cases hz : j = 0
  ·rw [if_pos hz, hz]
  ·rw [if_neg hz]; simp
 rw [e, h.cell j, <- hu, <- ex21_eq]
 simp
def ex21A : Vst := (heldR 30 ex21K 1024 freshS).2
theorem ex21_held : heldR 30 ex21K 1024 freshS = (true, ex21A) := by
 have h : (heldR 30 ex21K 1024 freshS).1 = true := by decide +kernel
 unfold ex21A
 rw [<- h]
theorem ex21_two : ex21A.rd.length = 2 := by decide +kernel
theorem ex21_zero : heldR 30 ex21K 0 ex21A = (false, ex21A) := rfl
theorem ex21_set : stB 7 5 = true := by decide
theorem ex21_get : getV 30 ex21K (stS 30 7 5 ex21A) 29 = 5 := by decide +kernel

set_option maxHeartbeats 3200000 in
theorem live21_c (w : World) : Calls Try.prog 5 #[] w fun e w' => e = .returned (.bool true) /\ Below w.heap.size w w' := by
 have HHE := hidp ex21_held
 have HTW := hidp ex21_two
 have HZE := hidp ex21_zero
 have HSE := hidp ex21_set
 have HGE := hidp ex21_get
 have hmk := make30
 have HG0 := Held.new w 49 (Array.replicate 30 (.int .u32 0))
 have g0 : _ = some (Value.int .u32 0) := (HG0.cell 23).trans (by simp)
 have f0 := HG0.thawed 23
 clear HG0
 go_enter Try.func5, Try.ntmps5
 go_wp2_with fail
 have HG : Hid (Held (w.alloc (.cells ex21C 49)) w.heap.size 49 ex21C) := hidp (Held.new w _ _)
 have HB : Hid (Below w.heap.size w (w.alloc (.cells ex21C 49))) := hidp (Bnew (B0 w) _)
 clear g0 f0 hmk
 refine (Whole_c (some ⟨w.heap.size, 0, none⟩) 30 ex21L 30 ex21_n (by omega) ex21_32 _ (fun _ => ⟨_, rfl, ex21_cells HG.out⟩)).mono ?_
 rintro e w3 ⟨b, o, rfl, hI, hB⟩
 have HD : Hid (Duo w (vOb _ b 30 true ex21K) noOb (o.A b) (fun _ => False) (fun _ => False) freshS freshS w3) := hidp (duo_made (W := w) hI HB.out.size (Bgo HB.out hB) (fun i hi => hi.elim))
 clear hI hB HB HG
 go_wp2_with fail
 refine (rtHeld_c (by omega) 1024 (by omega) HD.out.at1).mono ?_
 rintro e w2 ⟨rfl, h1, _⟩
 obtain ⟨A4, h2, h3⟩ := HD.out.left1 h1.left
 rw [HHE.out] at h2 ⊢
 dsimp only at h2 ⊢
 replace HD : Hid (Duo w (vOb _ b 30 true ex21K) noOb A4 (fun _ => False) (fun _ => False) ex21A freshS w2) := hidp h2
 clear h1 h2 h3
 obtain ⟨o1, hI, _⟩ := HD.out.i1
 go_wp2_with fail
 refine (vReads_c (by rw [HTW.out]; omega) _ hI).mono ?_
 rintro e w4 ⟨v, rfl, hown, hb⟩
 rw [HTW.out] at hown
 obtain ⟨A1, k1, hv⟩ := own_slice hown
 subst hv
 replace HD := hidp (HD.out.keep hb)
 clear hI hown hb
 go_wp2_with fail
 refine (rtHeld_c (by omega) 0 (by omega) HD.out.at1).mono ?_
 rintro e w2 ⟨rfl, h1, _⟩
 obtain ⟨A4, h2, h3⟩ := HD.out.left1 h1.left
 rw [HZE.out] at h2 ⊢
 dsimp only at h2 ⊢
 replace HD : Hid (Duo w (vOb _ b 30 true ex21K) noOb A4 (fun _ => False) (fun _ => False) ex21A freshS w2) := hidp h2
 clear h1 h2 h3
 go_wp2_with fail
 refine (rtSet_c (by omega) 7 5 (by omega) (by omega) HD.out.at1).mono ?_
 rintro e w2 ⟨rfl, h1, _⟩
 obtain ⟨A4, h2, h3⟩ := HD.out.left1 h1.left
 rw [HSE.out]
 replace HD : Hid (Duo w (vOb _ b 30 true ex21K) noOb A4 (fun _ => False) (fun _ => False) (stS 30 7 5 ex21A) freshS w2) := hidp h2
 clear h1 h2 h3
 go_wp2_with fail
 refine (vGetA (by omega) 29 HD.out.at1).mono ?_
 rintro e w2 ⟨rfl, h1, _⟩
 obtain ⟨A4, h2, h3⟩ := HD.out.left1 h1.left
 rw [HGE.out]
 replace HD : Hid (Duo w (vOb _ b 30 true ex21K) noOb A4 (fun _ => False) (fun _ => False) _ freshS w2) := hidp h2
 clear h1 h2 h3
 have HBE := hidp HD.out.bel
 go_wp2
 go_ret
 exact ⟨rfl, HBE.out⟩
end
end Go.Proofs.Ytlkaejjpibebkaa

namespace Go.Proofs.Ytlkaejjpibebkaa
open Go.ChangeShapes Go.WideShapes Go.ChangeAt Go.RowKit
set_option linter.unusedVariables false
set_option maxRecDepth 100000
set_option linter.unusedSimpArgs false
section
structure RootAsk where
 i : Int
 ad : Int
 to : Int
 w0 : Int
 w1 : Int
 w2 : Int
instance : Inhabited RootAsk := ⟨⟨0, 0, 0, 0, 0, 0⟩⟩
structure RootAsk.Ok (a : RootAsk) : Prop where
 i : (Lit.int .i64 a.i).wf = true
 ad : (Lit.int .i64 a.ad).wf = true
 to : (Lit.int .i64 a.to).wf = true
 w0 : (Lit.int .i64 a.w0).wf = true
 w1 : (Lit.int .i64 a.w1).wf = true
 w2 : (Lit.int .i64 a.w2).wf = true
def RootAsk.cells (a : RootAsk) : List Value := [.int .i64 a.i, .int .i64 a.ad, .int .i64 a.to, .int .i64 a.w0, .int .i64 a.w1, .int .i64 a.w2]
def RootAsk.v (a : RootAsk) : Value := .agg #[.int .i64 a.i, .int .i64 a.ad, .int .i64 a.to, .int .i64 a.w0, .int .i64 a.w1, .int .i64 a.w2]
section
variable {w : World} {g : Nat} {t : TypeId} {c0 c1 c2 c3 c4 c5 : Value}
theorem Held.sixR (h : Held w g t #[c0, c1, c2, c3, c4, c5]) : w.cell? ⟨g, 0, none⟩ = some c0 /\ w.cell? ⟨g, 1, none⟩ = some c1 /\ w.cell? ⟨g, 2, none⟩ = some c2 /\ w.cell? ⟨g, 3, none⟩ = some c3 /\ w.cell? ⟨g, 4, none⟩ = some c4 /\ w.cell? ⟨g, 5, none⟩ = some c5 :=
 ⟨h.cell 0, h.cell 1, h.cell 2, h.cell 3, h.cell 4, h.cell 5⟩
end

section
variable {H : Type} {enc : TypeId × Value -> H} {w : World} {base : Nat} {sp : Nat -> Bool} {held : Bool}
theorem rootAsk_cells {fuel : Nat} {cs : List Value} {x : DataW H × List MemPlace} (h : DataW.trod enc Try.prog w base sp held fuel 31 cs = some x) : ∃ a : RootAsk, a.Ok /\ cs = a.cells := by
 obtain ⟨xs, n, _, _, hl, hxl, hf⟩ := DataW.trod_struct Try.underlying31 h
 have hc : Try.prog.cellsOf 31 = 6 := by kernel_rfl
 have s_int : Try.prog.cellsOf 3 = 1 := by kernel_rfl
 have s_int64 : Try.prog.cellsOf 2 = 1 := by kernel_rfl
 have s_arr : Try.prog.cellsOf 29 = 3 := by kernel_rfl
 have hu : Try.prog.underlying 29 = some (.array 3 3) := by kernel_rfl
 rw [hc] at hl
 match cs, hl, xs, hxl with
 | [v0, v1, v2, v3, v4, v5], _, [y0, y1, y2, y3], _ =>
  have g0 := hf 0 _ rfl
  have g1 := hf 1 _ rfl
  have g2 := hf 2 _ rfl
  have g3 := hf 3 _ rfl
  simp [s_int, s_int64, s_arr] at g0 g1 g2 g3
  obtain ⟨a0, e0, _, w0⟩ := DataW.trod_int Try.underlying3 g0
  obtain ⟨a1, e1, _, w1⟩ := DataW.trod_int Try.underlying2 g1
  obtain ⟨a2, e2, _, w2⟩ := DataW.trod_int Try.underlying2 g2
  obtain ⟨zs, m, _, _, _, hzl, hi⟩ := DataW.trod_array hu g3
  have h0 := hi 0 (by omega)
  have h1 := hi 1 (by omega)
  have h2 := hi 2 (by omega)
  rw [s_int] at h0 h1 h2
  obtain ⟨z0, f0⟩ : ∃ y, zs[0]? = some y := ⟨_, List.getElem?_eq_getElem (by omega)⟩
  obtain ⟨z1, f1⟩ : ∃ y, zs[1]? = some y := ⟨_, List.getElem?_eq_getElem (by omega)⟩
  obtain ⟨z2, f2⟩ : ∃ y, zs[2]? = some y := ⟨_, List.getElem?_eq_getElem (by omega)⟩
  rw [f0] at h0
  rw [f1] at h1
  rw [f2] at h2
  obtain ⟨a3, e3, _, w3⟩ := DataW.trod_int Try.underlying3 h0
  obtain ⟨a4, e4, _, w4⟩ := DataW.trod_int Try.underlying3 h1
  obtain ⟨a5, e5, _, w5⟩ := DataW.trod_int Try.underlying3 h2
  simp at e0 e1 e2 e3 e4 e5
  subst e0 e1 e2 e3 e4 e5
  exact ⟨⟨a0, a1, a2, a3, a4, a5⟩, ⟨w0, w1, w2, w3, w4, w5⟩, rfl⟩
theorem open_rootAsk {r : Reach} {b0 : Nat} {v : Value} {d : DataW H} {p : List MemPlace} (hv : Value.okWide Try.prog w r b0 31 v) (h : DataW.Trod enc Try.prog w base sp held 31 v d p) :
  ∃ a : RootAsk, a.Ok /\ v = a.v := by
 obtain ⟨cs, rfl, hsz⟩ := okWide_struct Try.underlying31 hv
 obtain ⟨fuel, hf⟩ := h
 obtain ⟨a, ha, hc⟩ := rootAsk_cells hf
 refine ⟨a, ha, ?_⟩
 obtain ⟨l⟩ := cs
 simp [Value.cells] at hc
 subst hc
 rfl
end
end
end Go.Proofs.Ytlkaejjpibebkaa

namespace Go.Proofs.Ytlkaejjpibebkaa
open Go.ChangeShapes Go.WideShapes Go.ChangeAt Go.RowKit Go.Maps
set_option linter.unusedVariables false
set_option linter.unusedSimpArgs false
set_option maxRecDepth 100000
section
def arr8 (f : Nat -> Int) : Array Value := #[.int .i64 (f 0), .int .i64 (f 1), .int .i64 (f 2), .int .i64 (f 3), .int .i64 (f 4), .int .i64 (f 5), .int .i64 (f 6), .int .i64 (f 7)]
section
variable {w : World} {g : Nat} {t : TypeId} {f : Nat -> Int}
theorem arr8_cell (h : Held w g t (arr8 f)) : ∀ j, j < 8 -> w.cell? ⟨g, j, none⟩ = some (.int .i64 (f j))
 | 0, _ => h.cell 0
 | 1, _ => h.cell 1
 | 2, _ => h.cell 2
 | 3, _ => h.cell 3
 | 4, _ => h.cell 4
 | 5, _ => h.cell 5
 | 6, _ => h.cell 6
 | 7, _ => h.cell 7
 | j + 8, hj => by omega
theorem arr8_all (h : Held w g t (arr8 f)) : w.cell? ⟨g, 0, none⟩ = some (.int .i64 (f 0)) /\ w.cell? ⟨g, 1, none⟩ = some (.int .i64 (f 1)) /\ w.cell? ⟨g, 2, none⟩ = some (.int .i64 (f 2)) /\ w.cell? ⟨g, 3, none⟩ = some (.int .i64 (f 3)) /\ w.cell? ⟨g, 4, none⟩ = some (.int .i64 (f 4)) /\ w.cell? ⟨g, 5, none⟩ = some (.int .i64 (f 5)) /\ w.cell? ⟨g, 6, none⟩ = some (.int .i64 (f 6)) /\ w.cell? ⟨g, 7, none⟩ = some (.int .i64 (f 7)) :=
 ⟨h.cell 0, h.cell 1, h.cell 2, h.cell 3, h.cell 4, h.cell 5, h.cell 6, h.cell 7⟩
theorem arr8_set (f : Nat -> Int) (x : Int) : ∀ j, j < 8 -> (arr8 f).setIfInBounds j (.int .i64 x) = arr8 (fun i => if i = j then x else f i)
 | 0, _ => rfl
 | 1, _ => rfl
 | 2, _ => rfl
 | 3, _ => rfl
 | 4, _ => rfl
 | 5, _ => rfl
 | 6, _ => rfl
 | 7, _ => rfl
 | j + 8, hj => by omega
theorem arr8_zero : arr8 (fun _ => 0) = #[.int .i64 0, .int .i64 0, .int .i64 0, .int .i64 0, .int .i64 0, .int .i64 0, .int .i64 0, .int .i64 0] := rfl
end
set_option maxHeartbeats 1600000 in
theorem in21_c (f : Nat -> Int) (a : Int) (b : Bool) (hb : b = true ↔ ∃ i, i < 8 /\ f i = a) (w : World) :
  Calls Try.prog 20 #[.agg #[.int .i64 (f 0), .int .i64 (f 1), .int .i64 (f 2), .int .i64 (f 3), .int .i64 (f 4), .int .i64 (f 5), .int .i64 (f 6), .int .i64 (f 7)], .int .i64 a] w fun e w' => e = .returned (.bool b) /\ Below w.heap.size w w' := by
 have HX : Hid (Held (w.alloc (.cells (arr8 f) 48)) w.heap.size 48 (arr8 f)) := hidp (Held.new w _ _)
 have HB : Hid (Below w.heap.size w (w.alloc (.cells (arr8 f) 48))) := hidp (Bnew (B0 w) _)
 have HC := hidp hb
 clear hb
 go_enter Try.func20, Try.ntmps20
 go_wp2_with fail
 go_loopw [5] (fun u5 wr => ∃ j : Nat, j <= 8 /\ u5 = .int .i64 (j : Int) /\ Hid (∀ i, i < j -> f i ≠ a) /\ Hid (Held wr w.heap.size 48 (arr8 f)) /\ Hid (Below w.heap.size w wr)) (fun u5 _ => 8 - (intOf u5).toNat)
 case atStart => exact ⟨0, by omega, rfl, hidp (fun i hi => by omega), HX, HB⟩
 case round =>
  clear HX HB
  obtain ⟨j, hj, rfl, HN, HX, HB⟩ := hrel
  by_cases hlt : j < 8
  ·have t1 : decide ((j : Int) < 8) = true := decide_eq_true (by omega)
   have t1n : decide (j < 8) = true := decide_eq_true hlt
   have c0 := arr8_cell HX.out j hlt
   by_cases hv : f j = a
   ·have t2 : (f j == a) = true := by simp [hv]
    have HE : Hid (b = true) := hidp (HC.out.2 ⟨j, hlt, hv⟩)
    clear hv
    go_wp2
    go_ret
    rw [HE.out]
    exact ⟨rfl, HB.out⟩
   ·have t2 : (f j == a) = false := by simp [hv]
    have HN2 : Hid (∀ i, i < j + 1 -> f i ≠ a) := hidp (fun i hi => by
     rcases Nat.lt_or_eq_of_le (Nat.lt_succ_iff.1 hi) with h | h
     ·exact HN.out i h
     ·rw [h]; exact hv)
    clear hv
    go_wp2
    go_roundw
    case rel => exact ⟨j + 1, by omega, by go_num, HN2, HX, HB⟩
    case measure => simp [intOf]; omega
  ·have t1 : decide ((j : Int) < 8) = false := decide_eq_false (by omega)
   have t1n : decide (j < 8) = false := decide_eq_false hlt
   have HE : Hid (b = false) := hidp (by
    cases b with
    | false => rfl
    | true =>
     obtain ⟨i, h1, h2⟩ := HC.out.1 rfl
     exact absurd h2 (HN.out i (by omega)))
   go_wp2
   go_ret
   rw [HE.out]
   exact ⟨rfl, HB.out⟩

theorem Duo.putR {W w : World} {O1 O2 : Ob} {A B G : Nat -> Prop} {s1 s2 : Vst} (h : Duo W O1 O2 A B G s1 s2 w) {i : Nat} (hi : G i) (hw : W.heap.size <= i) (k : Nat) (v : Value) : Duo W O1 O2 A B G s1 s2 (w.setCell ⟨i, k, none⟩ v) := by
 have ht : Turns (fun j => j = i) w (w.setCell ⟨i, k, none⟩ v) := (Turns.of_below (B0 w) (fun j => j = i)).put (p := ⟨i, k, none⟩) rfl v
 exact ⟨O1.turns h.i1 ht (fun j hj e => (h.aG i hi).2.1 (e ▸ hj)), O2.turns h.i2 ht (fun j hj e => (h.aG i hi).2.2 (e ▸ hj)), h.ab, fun g hg => ⟨Nat.lt_of_lt_of_le (h.aG g hg).1 ht.size, (h.aG g hg).2⟩, h.lo, ht.below h.bel (fun j e => by omega)⟩
structure RtAt (n : Nat) (K : Nat -> Option Nat) (f : Nat -> Nat) (st : Vst) : Prop where
 vw : VW n K st
 at_ : ∀ i, i < 8 -> getV n K st (rtC i) = f i
section
variable {n : Nat} {K : Nat -> Option Nat} {f : Nat -> Nat} {st : Vst}
theorem RtAt.get (h : RtAt n K f st) (c : Int) : RtAt n K f (getS n K st c) := ⟨(h.vw.get c).1, fun i hi => by rw [(h.vw.get c).2]; exact h.at_ i hi⟩
theorem rtC_at (j : Nat) : (22 + (j : Int)) = rtC j := by unfold rtC; omega
theorem RtAt.gt (h : RtAt n K f st) {j : Nat} (hj : j < 8) : gtV n K (j : Int) st = (f j : Int) /\ rtB (j : Int) = true /\ RtAt n K f (gtS n K (j : Int) st) := by
 have e : rtB (j : Int) = true := decide_eq_true (by omega)
 unfold gtV gtS
 rw [if_pos e, if_pos e, rtC_at, h.at_ j hj]
 exact ⟨rfl, e, h.get _⟩
theorem RtAt.set (h : RtAt n K f st) (hn : 30 <= n) {j : Nat} (hj : j < 8) (x : Nat) : RtAt n K (fun i => if i = j then x else f i) (putS n st (rtC j) x) := by
 obtain ⟨h1, h2⟩ := h.vw.put (i := 22 + j) (by omega) x
 refine ⟨h1, fun i hi => ?_⟩
 have e : getV n K (putS n st (rtC j) x) (rtC i) = upd (getV n K st) (rtC j) x (rtC i) := by
  have := congrFun h2 (rtC i)
  exact this
 rw [e]
 unfold upd
 by_cases hij : i = j
 ·rw [if_pos (by rw [hij]), if_pos hij]
 ·rw [if_neg (by unfold rtC; omega), if_neg hij]
  exact h.at_ i hi
theorem RtAt.fol (h : RtAt n K f st) (hn : 30 <= n) (x y : Nat) : RtAt n K (fun i => if f i = x then y else f i) (folI n K x y 8 0 st) := by
 obtain ⟨h1, h2⟩ := folI_vw x y hn 8 0 st (by omega) h.vw
 refine ⟨h1, fun i hi => ?_⟩
 rw [h2, h.at_ i hi]
 by_cases hx : f i = x
 ·rw [if_pos ⟨by unfold rtC; omega, by unfold rtC; omega, hx⟩, if_pos hx]
 ·rw [if_neg (fun e => hx e.2.2), if_neg hx]
theorem RtAt.folR (h : RtAt n K f st) (hn : 30 <= n) {x y : Nat} (hx : 1 <= x /\ x <= 4294967295) (hy : 1 <= y /\ y <= 4294967295) : RtAt n K (fun i => if f i = x then y else f i) (Go.Proofs.Ytlkaejjpibebkaa.folR n K (x : Int) (y : Int) st) := by
 unfold Go.Proofs.Ytlkaejjpibebkaa.folR
 rw [if_pos (by omega), Int.toNat_natCast, Int.toNat_natCast]
 exact h.fol hn x y
theorem RtAt.held (h : RtAt n K f st) (a : Int) : (heldI n K a 8 0 st).1 = true ↔ ∃ i, i < 8 /\ (f i : Int) = a := by
 obtain ⟨_, _, _, h5⟩ := heldI_vw a 8 0 st h.vw
 rw [h5]
 refine ⟨fun ⟨k, h1, h2, h3⟩ => ⟨k, by omega, by rw [<- h.at_ k (by omega)]; exact h3⟩, fun ⟨k, h1, h2⟩ => ⟨k, by omega, by omega, by rw [h.at_ k h1]; exact h2⟩⟩
theorem held_end {x y : Nat} (h : RtAt n K (fun i => if f i = x then y else f i) st) {r : Bool} (hr : r = true -> ∃ i, i < 8 /\ f i = x) (bb : Bool) (hb : bb = true ↔ ∃ i, i < 8 /\ ((f i : Nat) : Int) = (x : Int)) : (heldI n K (x : Int) 8 0 st).1 = (decide ((x : Int) = (y : Int)) && (r || bb)) := by
 rw [Bool.eq_iff_iff, h.held]
 simp only [Bool.and_eq_true, Bool.or_eq_true, decide_eq_true_eq]
 constructor
 ·rintro ⟨i, hi, e⟩
  by_cases hx : f i = x
  ·rw [if_pos hx] at e
   exact ⟨by omega, .inr (hb.2 ⟨i, hi, by omega⟩)⟩
  ·rw [if_neg hx] at e
   omega
 ·rintro ⟨e, h1⟩
  have hx : ∃ i, i < 8 /\ f i = x := by
   rcases h1 with h1 | h1
   ·exact hr h1
   ·obtain ⟨i, hi, h2⟩ := hb.1 h1
    exact ⟨i, hi, by omega⟩
  obtain ⟨i, hi, h2⟩ := hx
  exact ⟨i, hi, by rw [if_pos h2]; omega⟩
end
end
end Go.Proofs.Ytlkaejjpibebkaa

namespace Go.Proofs.Ytlkaejjpibebkaa
open Go.ChangeShapes Go.WideShapes Go.ChangeAt Go.RowKit
set_option linter.unusedVariables false
set_option maxRecDepth 100000
section
section
variable {H : Type} {enc : TypeId × Value -> H} {P : Program} {w : World} {base : Nat} {sp : Nat -> Bool} {held : Bool}
theorem open_vals {t e : TypeId} {v : Value} {d : DataW H} {p : List MemPlace} (ht : P.underlying t = some (.slice e)) (he : P.underlying e = some (.int .u32)) (hc : P.cellsOf e = 1)
  {r : Reach} {b0 : Nat} (hval : Value.okWide P w r b0 t v) (h : DataW.Trod enc P w base sp held t v d p) (hlt : ∀ x ∈ p, x.block < w.heap.size) :
  ∃ (A : Option Addr) (c : Nat) (ws : List Nat), v = .slice A ws.length c /\ ws.length <= c /\ c <= maxLen /\ (∀ x ∈ ws, x < 2 ^ 32) /\ Reads w w.heap.size 1 A ws.length (valVs ws) := by
 obtain ⟨fuel, hf⟩ := h
 have hv : v.cells = #[v] := by
  obtain ⟨A, n, c, rfl⟩ := okWide_slice ht hval
  rfl
 rw [hv] at hf
 rcases open_ints ht he hc hf with ⟨hcs, _⟩ | ⟨a, len, cap, zs, hcs, hb, hl, hm, hz, hx, hcell, hwf⟩
 ·injection hcs with hcs
  subst hcs
  exact ⟨none, 0, [], rfl, Nat.le_refl _, Nat.zero_le _, by simp, Reads.none_⟩
 ·injection hcs with hcs
  subst hcs
  have hlz : len <= zs.length := by rw [hz]; split <;> omega
  have hlen : ((zs.take len).map Int.toNat).length = len := by simp; omega
  refine ⟨some a, cap, (zs.take len).map Int.toNat, by rw [hlen], by rw [hlen]; exact hl, hm, ?_, ?_⟩
  ·intro x hx
   obtain ⟨z, hz1, rfl⟩ := List.mem_map.1 hx
   obtain ⟨n, rfl, hn⟩ := u32_nat (hwf z (List.mem_of_mem_take hz1))
   simpa using hn
  ·refine ⟨by rw [valVs_len]; omega, fun hn => ?_⟩
   rw [hlen] at hn
   refine ⟨a, rfl, ?_, fun j u hu => ?_⟩
   ·have hp : (p : List MemPlace) = MemPlace.row a zs.length := by
     have := congrArg Prod.snd hx
     simpa using this
    have h0 : MemPlace.cell a.block a.off ∈ p \/ (∃ x ∈ p, x.block = a.block) := by
     right
     rw [hp]
     refine ⟨(MemPlace.row a zs.length)[0]'(by simp [MemPlace.row]; omega), List.getElem_mem _, ?_⟩
     simp [MemPlace.row, MemPlace.block]
    rcases h0 with h0 | ⟨x, hx1, hx2⟩
    ·exact hlt _ h0
    ·rw [<- hx2]; exact hlt x hx1
   ·unfold valVs at hu
    rw [List.map_map] at hu
    have hj : j < len := by
     rcases Nat.lt_or_ge j len with h1 | h1
     ·exact h1
     ·rw [List.getElem?_eq_none (by simp; omega)] at hu; cases hu
    rw [List.getElem?_map, List.getElem?_take_of_lt hj, List.getElem?_eq_getElem (by omega)] at hu
    simp only [Option.map_some, Option.some.injEq, Function.comp_apply] at hu
    subst hu
    rw [hcell j (by omega)]
    have hw := hwf zs[j] (List.getElem_mem _)
    obtain ⟨n, hn1, _⟩ := u32_nat hw
    have : (zs.getD j 0) = zs[j] := by simp [List.getD, List.getElem?_eq_getElem (show j < zs.length by omega)]
    rw [this, hn1]
    simp
end
end
end Go.Proofs.Ytlkaejjpibebkaa
