/-
  Contracts of half.Free below 33, of slab's bits, of nacreref16's Bit, of the document's Full at any Taken.
-/
import Derived.Test.YtnmhdlpnimdffaaGreatDoorA07
import Derived.Test.YtnmhdlpnimdffaaGreatDoorA04
import Derived.Test.YtnmhdlpnimdffaaGreatDoorA01
import Derived.Deep.RegionHeld3
import Derived.IntWalk
import Derived.KernelRfl
import Derived.Test.YtnmhdlpnimdffaaGreatDoorA06
namespace Go.Proofs.YtnmhdlpnimdffaaGreatDoor
open Go.ChangeShapes Go.WideShapes Go.ChangeAt Go.RowKit
set_option linter.unusedVariables false
set_option linter.unusedSimpArgs false
set_option maxRecDepth 100000
section
section
variable {O : Ob} {w0 ws w w' : World} {A G : Nat -> Prop} {N : Nat} {T : TypeId} {cs : Array Value} {base : Nat} {u : Value} {nl : Nat} {xs : List Value} {st s' : Vst}
end
set_option maxHeartbeats 1600000 in
theorem r16Full_c (v : Nat) (k : Int) (hk0 : 0 <= k) (hk1 : k <= 8) (hv32 : v < 2 ^ 32) (w : World) :
  Calls Tryz.prog 44 #[.int .u32 (v : Int), .int .i64 k] w fun e w' => e = .returned (.bool (fullB v k)) /\ w = w' := by
 obtain ⟨o, ho⟩ : ∃ o, HM.onesTo v 32 = o := ⟨_, rfl⟩
 obtain ⟨m, hm⟩ : ∃ m, slotI k = m := ⟨_, rfl⟩
 have HO := hidp ho
 have HMM := hidp hm
 have hb : fullB v k = decide (o = m) := by unfold fullB; rw [ho, hm]
 rw [hb]
 have t0 : ((o : Int) == (m : Int)) = decide (o = m) := by
  rw [Bool.eq_iff_iff]; simp; omega
 clear hb ho hm
 go_enter Tryz.func44, Tryz.ntmps44
 go_wp2_with (first
  | (go_at_call 96; refine (ROnes_c v hv32 _).mono ?_; rintro e w1 ⟨rfl, rfl⟩; rw [HO.out])
  | (go_at_call 97; refine (r5Slots_c k (by omega) (by omega) _).mono ?_; rintro e w1 ⟨rfl, rfl⟩; rw [HMM.out])
  | fail)
 go_ret
 exact ⟨rfl, rfl⟩
end
end Go.Proofs.YtnmhdlpnimdffaaGreatDoor

namespace Go.Proofs.YtnmhdlpnimdffaaGreatDoor
open Go.ChangeShapes Go.WideShapes Go.ChangeAt Go.RowKit Go.Maps
set_option linter.unusedVariables false
set_option linter.unusedSimpArgs false
set_option maxRecDepth 100000
section
theorem Held.drw {w : World} {g : Nat} {t : TypeId} {cs : Array Value} (h : Held w g t cs) : Held w.drew g t cs := h
section
variable {w : World} {g : Nat} {t : TypeId} {c0 c1 c2 c3 c4 c5 : Value}
theorem Held.six' (h : Held w g t #[c0, c1, c2, c3, c4, c5]) : w.cell? ⟨g, 0, none⟩ = some c0 /\ w.cell? ⟨g, 1, none⟩ = some c1 /\ w.cell? ⟨g, 2, none⟩ = some c2 /\ w.cell? ⟨g, 3, none⟩ = some c3 /\ w.cell? ⟨g, 4, none⟩ = some c4 /\ w.cell? ⟨g, 5, none⟩ = some c5 := ⟨h.cell 0, h.cell 1, h.cell 2, h.cell 3, h.cell 4, h.cell 5⟩
end

theorem lkIs_c (b : Nat) (t q s hd p : Int) (w : World) :
  Calls Tryz.prog 82 #[.agg #[.pointer (some ⟨b, 0, none⟩), .int .i64 t, .int .i64 q, .int .i64 s, .int .i64 hd, .int .i64 p]] w fun e w' => e = .returned (.bool (pgB q p)) /\ Below w.heap.size w w' := by
 have hB := Bnew (B0 w) (.cells #[.pointer (some ⟨b, 0, none⟩), .int .i64 t, .int .i64 q, .int .i64 s, .int .i64 hd, .int .i64 p] 122)
 obtain ⟨x0, x1, x2, x3, x4, x5⟩ := (Held.new w 122 #[.pointer (some ⟨b, 0, none⟩), .int .i64 t, .int .i64 q, .int .i64 s, .int .i64 hd, .int .i64 p]).six'
 unfold pgB
 by_cases h0 : 0 <= p
 ·have t0 : decide ((0 : Int) <= p) = true := decide_eq_true h0
  obtain ⟨c, t1⟩ : ∃ c, decide (p < q) = c := ⟨_, rfl⟩
  rw [t0, t1]
  cases c with
  | true =>
   go_enter Tryz.func82, Tryz.ntmps82
   go_wp2
   go_ret
   exact ⟨rfl, hB⟩
  | false =>
   go_enter Tryz.func82, Tryz.ntmps82
   go_wp2
   go_ret
   exact ⟨rfl, hB⟩
 ·have t0 : decide ((0 : Int) <= p) = false := decide_eq_false h0
  rw [t0]
  go_enter Tryz.func82, Tryz.ntmps82
  go_wp2
  go_ret
  exact ⟨rfl, hB⟩

theorem lkLink_c (b : Nat) (t q s hd : Int) (k : Nat) (hk : k < 2 ^ 31) (w : World) :
  Calls Tryz.prog 91 #[.agg #[.pointer (some ⟨b, 0, none⟩), .int .i64 t, .int .i64 q, .int .i64 s, .int .i64 hd, .int .i64 (k : Int)]] w fun e w' => e = .returned (.int .u32 ((k + 1 : Nat) : Int)) /\ Below w.heap.size w w' := by
 have hB := Bnew (B0 w) (.cells #[.pointer (some ⟨b, 0, none⟩), .int .i64 t, .int .i64 q, .int .i64 s, .int .i64 hd, .int .i64 (k : Int)] 122)
 go_enter Tryz.func91, Tryz.ntmps91
 go_wp2
 go_ret
 exact ⟨by simp, hB⟩

set_option maxHeartbeats 1600000 in
theorem lkTo_c (b : Nat) (t q s hd : Int) (l : Nat) (hl : l < 2 ^ 32) (w : World) :
  Calls Tryz.prog 86 #[.agg #[.pointer (some ⟨b, 0, none⟩), .int .i64 t, .int .i64 q, .int .i64 s, .int .i64 hd], .int .u32 (l : Int)] w fun e w' => e = .returned (.agg #[.pointer (some ⟨b, 0, none⟩), .int .i64 t, .int .i64 q, .int .i64 s, .int .i64 hd, .int .i64 ((l : Int) - 1)]) /\ Below w.heap.size w w' := by
 go_enter Tryz.func86, Tryz.ntmps86
 go_wp2
 have hfin := Held.new2 w (.cells #[.pointer (some ⟨b, 0, none⟩), .int .i64 t, .int .i64 q, .int .i64 s, .int .i64 hd] 120) 122 #[.pointer (some ⟨b, 0, none⟩), .int .i64 t, .int .i64 q, .int .i64 s, .int .i64 hd, .int .i64 ((l : Int) - 1)]
 obtain ⟨r0, r1, r2, r3, r4, r5⟩ := hfin.six'
 refine bodyPost_ret (v := .agg #[.pointer (some ⟨b, 0, none⟩), .int .i64 t, .int .i64 q, .int .i64 s, .int .i64 hd, .int .i64 ((l : Int) - 1)]) (by simp [results, Tryz.results86, go_sem, r0, r1, r2, r3, r4, r5]) rfl ⟨rfl, ?_⟩
 exact Bnew (Bnew (B0 _) _) _

section
variable {base b n : Nat} {wh : Bool} {K : Nat -> Option Nat} {st : Vst} {w w0 : World} {A G : Nat -> Prop} {t q s hd p : Int}

theorem lkFirst_c (hn : n < 2 ^ 40) (h : (vOb base b n wh K).At w0 A G st w) :
  Calls Tryz.prog 90 #[.agg #[.pointer (some ⟨b, 0, none⟩), .int .i64 t, .int .i64 q, .int .i64 s, .int .i64 hd]] w fun e w' => e = .returned (.int .u32 ((getV n K st hd : Nat) : Int)) /\ (vOb base b n wh K).At w0 A G (getS n K st hd) w' /\ Stay G w w' := by
 have HA := hidp (h.alloc (.cells #[.pointer (some ⟨b, 0, none⟩), .int .i64 t, .int .i64 q, .int .i64 s, .int .i64 hd] 120))
 have hS : Stay G w (w.alloc (.cells #[.pointer (some ⟨b, 0, none⟩), .int .i64 t, .int .i64 q, .int .i64 s, .int .i64 hd] 120)) := Stay.of_below (Bnew (B0 w) _) G
 clear h
 go_enter Tryz.func90, Tryz.ntmps90
 go_wp2_with fail
 refine (vGetA hn hd HA.out).mono ?_
 rintro e w1 ⟨rfl, h1, h2⟩
 go_wp2
 go_ret
 exact ⟨rfl, h1, hS.trans h2⟩

theorem lkSetFirst_c (hn : n < 2 ^ 40) (l : Nat) (hl : l < 2 ^ 32) (h : (vOb base b n wh K).At w0 A G st w) :
  Calls Tryz.prog 85 #[.agg #[.pointer (some ⟨b, 0, none⟩), .int .i64 t, .int .i64 q, .int .i64 s, .int .i64 hd], .int .u32 (l : Int)] w fun e w' => e = .returned (.tuple #[]) /\ (vOb base b n wh K).At w0 A G (putS n st hd l) w' /\ Stay G w w' := by
 have HA := hidp (h.alloc (.cells #[.pointer (some ⟨b, 0, none⟩), .int .i64 t, .int .i64 q, .int .i64 s, .int .i64 hd] 120))
 have hS : Stay G w (w.alloc (.cells #[.pointer (some ⟨b, 0, none⟩), .int .i64 t, .int .i64 q, .int .i64 s, .int .i64 hd] 120)) := Stay.of_below (Bnew (B0 w) _) G
 clear h
 go_enter Tryz.func85, Tryz.ntmps85
 go_wp2_with fail
 refine (vPutA hn hd l hl HA.out).mono ?_
 rintro e w1 ⟨rfl, h1, h2⟩
 go_wp2
 go_end0
 exact ⟨rfl, h1, hS.trans h2⟩

set_option maxHeartbeats 1600000 in
theorem lkNext_c (hn : n < 2 ^ 40) (h : (vOb base b n wh K).At w0 A G st w) :
  Calls Tryz.prog 83 #[.agg #[.pointer (some ⟨b, 0, none⟩), .int .i64 t, .int .i64 q, .int .i64 s, .int .i64 hd, .int .i64 p]] w fun e w' => e = .returned (.int .u32 ((getV n K st (pageI t q s p 2) : Nat) : Int)) /\ (vOb base b n wh K).At w0 A G (getS n K st (pageI t q s p 2)) w' /\ Stay G w w' := by
 have HA := hidp (h.box (.cells #[.pointer (some ⟨b, 0, none⟩), .int .i64 t, .int .i64 q, .int .i64 s, .int .i64 hd, .int .i64 p] 122))
 have HC := hidp (Held.new w 122 #[.pointer (some ⟨b, 0, none⟩), .int .i64 t, .int .i64 q, .int .i64 s, .int .i64 hd, .int .i64 p])
 have HS := hidp (Stay.of_below (Bnew (B0 w) (.cells #[.pointer (some ⟨b, 0, none⟩), .int .i64 t, .int .i64 q, .int .i64 s, .int .i64 hd, .int .i64 p] 122)) G)
 clear h
 go_enter Tryz.func83, Tryz.ntmps83
 go_wp2_with fail
 refine wp_region_held_drew (S := (fun w' => w'.cell? ⟨w.heap.size, 0, none⟩ = some (.pointer (some ⟨b, 0, none⟩)) /\ w'.cell? ⟨w.heap.size, 1, none⟩ = some (.int .i64 t) /\ w'.cell? ⟨w.heap.size, 2, none⟩ = some (.int .i64 q) /\ w'.cell? ⟨w.heap.size, 3, none⟩ = some (.int .i64 s) /\ w'.cell? ⟨w.heap.size, 4, none⟩ = some (.int .i64 hd) /\ w'.cell? ⟨w.heap.size, 5, none⟩ = some (.int .i64 p))) (by kernel_rfl) ?_ (fun hHeld => ?_)
 ·(try dsimp only)
  first | exact HC.out.drw.six' | exact HC1.out.six' | exact HC2.out.six' | exact hHeld
 refine tkz 0 ?_
 refine tkz 1 ?_
 refine tkz 2 ?_
 refine tkz 3 ?_
 refine tkz 4 ?_
 refine tkz 5 ?_
 refine tkz 6 ?_
 refine tkz 7 ?_
 refine rdz 8 fun K hK => ?_
 go_simp
 refine (plNext_c _ _ _ _ _).mono ?_; rintro e w1 ⟨rfl, hb1⟩; have HA1 := hidp (HA.out.drew.keep hb1); have HC1 := hidp (HC.out.drw.keep hb1); have HS1 := hidp ((HS.out.trans (Stay.of_below (Bdrew (B0 _)) _)).trans (Stay.of_below hb1 _)); clear HA HC HS hb1
 refine hK.out _ _ ?_ (fun hHeld => ?_)
 ·(try dsimp only)
  first | exact HC.out.drw.six' | exact HC1.out.six' | exact HC2.out.six' | exact hHeld
 clear hK K
 (try simp only [Act.put, gA, gB, gC, sA, sB, sC])
 refine rdz 9 fun K hK => ?_
 go_simp
 refine (vGetA hn _ HA1.out).mono ?_; rintro e w2 ⟨rfl, h1, h2⟩; have HA2 := hidp (h1.less fun g x => Or.inl x); have HC2 := hidp (h2.held (Or.inr rfl) HC1.out); have HS2 := hidp (HS1.out.trans (h2.less fun g x => Or.inl x)); clear HA1 HC1 HS1 h1 h2
 refine hK.out _ _ ?_ (fun hHeld => ?_)
 ·(try dsimp only)
  first | exact HC.out.drw.six' | exact HC1.out.six' | exact HC2.out.six' | exact hHeld
 clear hK K
 (try simp only [Act.put, gA, gB, gC, sA, sB, sC])
 refine tkz 10 ?_
 refine dnz ?_
 go_wp2
 go_ret
 exact ⟨rfl, HA2.out, HS2.out⟩

set_option maxHeartbeats 1600000 in
theorem lkSetNext_c (hn : n < 2 ^ 40) (l : Nat) (hl : l < 2 ^ 32) (h : (vOb base b n wh K).At w0 A G st w) :
  Calls Tryz.prog 87 #[.agg #[.pointer (some ⟨b, 0, none⟩), .int .i64 t, .int .i64 q, .int .i64 s, .int .i64 hd, .int .i64 p], .int .u32 (l : Int)] w fun e w' => e = .returned (.tuple #[]) /\ (vOb base b n wh K).At w0 A G (putS n st (pageI t q s p 2) l) w' /\ Stay G w w' := by
 have HA := hidp (h.box (.cells #[.pointer (some ⟨b, 0, none⟩), .int .i64 t, .int .i64 q, .int .i64 s, .int .i64 hd, .int .i64 p] 122))
 have HC := hidp (Held.new w 122 #[.pointer (some ⟨b, 0, none⟩), .int .i64 t, .int .i64 q, .int .i64 s, .int .i64 hd, .int .i64 p])
 have HS := hidp (Stay.of_below (Bnew (B0 w) (.cells #[.pointer (some ⟨b, 0, none⟩), .int .i64 t, .int .i64 q, .int .i64 s, .int .i64 hd, .int .i64 p] 122)) G)
 clear h
 go_enter Tryz.func87, Tryz.ntmps87
 go_wp2_with fail
 refine wp_region_held_drew (S := (fun w' => w'.cell? ⟨w.heap.size, 0, none⟩ = some (.pointer (some ⟨b, 0, none⟩)) /\ w'.cell? ⟨w.heap.size, 1, none⟩ = some (.int .i64 t) /\ w'.cell? ⟨w.heap.size, 2, none⟩ = some (.int .i64 q) /\ w'.cell? ⟨w.heap.size, 3, none⟩ = some (.int .i64 s) /\ w'.cell? ⟨w.heap.size, 4, none⟩ = some (.int .i64 hd) /\ w'.cell? ⟨w.heap.size, 5, none⟩ = some (.int .i64 p))) (by kernel_rfl) ?_ (fun hHeld => ?_)
 ·(try dsimp only)
  first | exact HC.out.drw.six' | exact HC1.out.six' | exact HC2.out.six' | exact hHeld
 refine tkz 0 ?_
 refine tkz 1 ?_
 refine tkz 2 ?_
 refine tkz 3 ?_
 refine tkz 4 ?_
 refine tkz 5 ?_
 refine tkz 6 ?_
 refine tkz 7 ?_
 refine tkz 9 ?_
 refine rdz 8 fun K hK => ?_
 go_simp
 refine (plNext_c _ _ _ _ _).mono ?_; rintro e w1 ⟨rfl, hb1⟩; have HA1 := hidp (HA.out.drew.keep hb1); have HC1 := hidp (HC.out.drw.keep hb1); have HS1 := hidp ((HS.out.trans (Stay.of_below (Bdrew (B0 _)) _)).trans (Stay.of_below hb1 _)); clear HA HC HS hb1
 refine hK.out _ _ ?_ (fun hHeld => ?_)
 ·(try dsimp only)
  first | exact HC.out.drw.six' | exact HC1.out.six' | exact HC2.out.six' | exact hHeld
 clear hK K
 (try simp only [Act.put, gA, gB, gC, sA, sB, sC])
 refine rdz 10 fun K hK => ?_
 go_simp
 refine (vPutA hn _ l hl HA1.out).mono ?_; rintro e w2 ⟨rfl, h1, h2⟩; have HA2 := hidp (h1.less fun g x => Or.inl x); have HC2 := hidp (h2.held (Or.inr rfl) HC1.out); have HS2 := hidp (HS1.out.trans (h2.less fun g x => Or.inl x)); clear HA1 HC1 HS1 h1 h2
 refine hK.out _ _ ?_ (fun hHeld => ?_)
 ·(try dsimp only)
  first | exact HC.out.drw.six' | exact HC1.out.six' | exact HC2.out.six' | exact hHeld
 clear hK K
 (try simp only [Act.put, gA, gB, gC, sA, sB, sC])
 refine dnz ?_
 go_wp2
 go_end0
 exact ⟨rfl, HA2.out, HS2.out⟩

set_option maxHeartbeats 1600000 in
theorem lkPrev_c (hn : n < 2 ^ 40) (h : (vOb base b n wh K).At w0 A G st w) :
  Calls Tryz.prog 84 #[.agg #[.pointer (some ⟨b, 0, none⟩), .int .i64 t, .int .i64 q, .int .i64 s, .int .i64 hd, .int .i64 p]] w fun e w' => e = .returned (.int .u32 ((getV n K st (pageI t q s p 3) : Nat) : Int)) /\ (vOb base b n wh K).At w0 A G (getS n K st (pageI t q s p 3)) w' /\ Stay G w w' := by
 have HA := hidp (h.box (.cells #[.pointer (some ⟨b, 0, none⟩), .int .i64 t, .int .i64 q, .int .i64 s, .int .i64 hd, .int .i64 p] 122))
 have HC := hidp (Held.new w 122 #[.pointer (some ⟨b, 0, none⟩), .int .i64 t, .int .i64 q, .int .i64 s, .int .i64 hd, .int .i64 p])
 have HS := hidp (Stay.of_below (Bnew (B0 w) (.cells #[.pointer (some ⟨b, 0, none⟩), .int .i64 t, .int .i64 q, .int .i64 s, .int .i64 hd, .int .i64 p] 122)) G)
 clear h
 go_enter Tryz.func84, Tryz.ntmps84
 go_wp2_with fail
 refine wp_region_held_drew (S := (fun w' => w'.cell? ⟨w.heap.size, 0, none⟩ = some (.pointer (some ⟨b, 0, none⟩)) /\ w'.cell? ⟨w.heap.size, 1, none⟩ = some (.int .i64 t) /\ w'.cell? ⟨w.heap.size, 2, none⟩ = some (.int .i64 q) /\ w'.cell? ⟨w.heap.size, 3, none⟩ = some (.int .i64 s) /\ w'.cell? ⟨w.heap.size, 4, none⟩ = some (.int .i64 hd) /\ w'.cell? ⟨w.heap.size, 5, none⟩ = some (.int .i64 p))) (by kernel_rfl) ?_ (fun hHeld => ?_)
 ·(try dsimp only)
  first | exact HC.out.drw.six' | exact HC1.out.six' | exact HC2.out.six' | exact hHeld
 refine tkz 0 ?_
 refine tkz 1 ?_
 refine tkz 2 ?_
 refine tkz 3 ?_
 refine tkz 4 ?_
 refine tkz 5 ?_
 refine tkz 6 ?_
 refine tkz 7 ?_
 refine rdz 8 fun K hK => ?_
 go_simp
 refine (plPrev_c _ _ _ _ _).mono ?_; rintro e w1 ⟨rfl, hb1⟩; have HA1 := hidp (HA.out.drew.keep hb1); have HC1 := hidp (HC.out.drw.keep hb1); have HS1 := hidp ((HS.out.trans (Stay.of_below (Bdrew (B0 _)) _)).trans (Stay.of_below hb1 _)); clear HA HC HS hb1
 refine hK.out _ _ ?_ (fun hHeld => ?_)
 ·(try dsimp only)
  first | exact HC.out.drw.six' | exact HC1.out.six' | exact HC2.out.six' | exact hHeld
 clear hK K
 (try simp only [Act.put, gA, gB, gC, sA, sB, sC])
 refine rdz 9 fun K hK => ?_
 go_simp
 refine (vGetA hn _ HA1.out).mono ?_; rintro e w2 ⟨rfl, h1, h2⟩; have HA2 := hidp (h1.less fun g x => Or.inl x); have HC2 := hidp (h2.held (Or.inr rfl) HC1.out); have HS2 := hidp (HS1.out.trans (h2.less fun g x => Or.inl x)); clear HA1 HC1 HS1 h1 h2
 refine hK.out _ _ ?_ (fun hHeld => ?_)
 ·(try dsimp only)
  first | exact HC.out.drw.six' | exact HC1.out.six' | exact HC2.out.six' | exact hHeld
 clear hK K
 (try simp only [Act.put, gA, gB, gC, sA, sB, sC])
 refine tkz 10 ?_
 refine dnz ?_
 go_wp2
 go_ret
 exact ⟨rfl, HA2.out, HS2.out⟩

set_option maxHeartbeats 1600000 in
theorem lkSetPrev_c (hn : n < 2 ^ 40) (l : Nat) (hl : l < 2 ^ 32) (h : (vOb base b n wh K).At w0 A G st w) :
  Calls Tryz.prog 88 #[.agg #[.pointer (some ⟨b, 0, none⟩), .int .i64 t, .int .i64 q, .int .i64 s, .int .i64 hd, .int .i64 p], .int .u32 (l : Int)] w fun e w' => e = .returned (.tuple #[]) /\ (vOb base b n wh K).At w0 A G (putS n st (pageI t q s p 3) l) w' /\ Stay G w w' := by
 have HA := hidp (h.box (.cells #[.pointer (some ⟨b, 0, none⟩), .int .i64 t, .int .i64 q, .int .i64 s, .int .i64 hd, .int .i64 p] 122))
 have HC := hidp (Held.new w 122 #[.pointer (some ⟨b, 0, none⟩), .int .i64 t, .int .i64 q, .int .i64 s, .int .i64 hd, .int .i64 p])
 have HS := hidp (Stay.of_below (Bnew (B0 w) (.cells #[.pointer (some ⟨b, 0, none⟩), .int .i64 t, .int .i64 q, .int .i64 s, .int .i64 hd, .int .i64 p] 122)) G)
 clear h
 go_enter Tryz.func88, Tryz.ntmps88
 go_wp2_with fail
 refine wp_region_held_drew (S := (fun w' => w'.cell? ⟨w.heap.size, 0, none⟩ = some (.pointer (some ⟨b, 0, none⟩)) /\ w'.cell? ⟨w.heap.size, 1, none⟩ = some (.int .i64 t) /\ w'.cell? ⟨w.heap.size, 2, none⟩ = some (.int .i64 q) /\ w'.cell? ⟨w.heap.size, 3, none⟩ = some (.int .i64 s) /\ w'.cell? ⟨w.heap.size, 4, none⟩ = some (.int .i64 hd) /\ w'.cell? ⟨w.heap.size, 5, none⟩ = some (.int .i64 p))) (by kernel_rfl) ?_ (fun hHeld => ?_)
 ·(try dsimp only)
  first | exact HC.out.drw.six' | exact HC1.out.six' | exact HC2.out.six' | exact hHeld
 refine tkz 0 ?_
 refine tkz 1 ?_
 refine tkz 2 ?_
 refine tkz 3 ?_
 refine tkz 4 ?_
 refine tkz 5 ?_
 refine tkz 6 ?_
 refine tkz 7 ?_
 refine tkz 9 ?_
 refine rdz 8 fun K hK => ?_
 go_simp
 refine (plPrev_c _ _ _ _ _).mono ?_; rintro e w1 ⟨rfl, hb1⟩; have HA1 := hidp (HA.out.drew.keep hb1); have HC1 := hidp (HC.out.drw.keep hb1); have HS1 := hidp ((HS.out.trans (Stay.of_below (Bdrew (B0 _)) _)).trans (Stay.of_below hb1 _)); clear HA HC HS hb1
 refine hK.out _ _ ?_ (fun hHeld => ?_)
 ·(try dsimp only)
  first | exact HC.out.drw.six' | exact HC1.out.six' | exact HC2.out.six' | exact hHeld
 clear hK K
 (try simp only [Act.put, gA, gB, gC, sA, sB, sC])
 refine rdz 10 fun K hK => ?_
 go_simp
 refine (vPutA hn _ l hl HA1.out).mono ?_; rintro e w2 ⟨rfl, h1, h2⟩; have HA2 := hidp (h1.less fun g x => Or.inl x); have HC2 := hidp (h2.held (Or.inr rfl) HC1.out); have HS2 := hidp (HS1.out.trans (h2.less fun g x => Or.inl x)); clear HA1 HC1 HS1 h1 h2
 refine hK.out _ _ ?_ (fun hHeld => ?_)
 ·(try dsimp only)
  first | exact HC.out.drw.six' | exact HC1.out.six' | exact HC2.out.six' | exact hHeld
 clear hK K
 (try simp only [Act.put, gA, gB, gC, sA, sB, sC])
 refine dnz ?_
 go_wp2
 go_end0
 exact ⟨rfl, HA2.out, HS2.out⟩

end
end
section
section
variable {base b n : Nat} {wh : Bool} {K : Nat -> Option Nat} {st : Vst} {w w0 : World} {A G : Nat -> Prop} {t q s hd : Int}

theorem lkPush_no (hn : n < 2 ^ 40) (p : Int) (hp : pgB q p = false) (h : (vOb base b n wh K).At w0 A G st w) :
  Calls Tryz.prog 38 #[.pointer (some ⟨b, 0, none⟩), .agg #[.int .i64 t, .int .i64 q, .int .i64 s], .int .i64 hd, .int .i64 p] w fun e w' => e = .returned (.tuple #[]) /\ (vOb base b n wh K).At w0 A G (st) w' /\ Stay G w w' := by
 have W0 := hidp (WK.two h (.cells #[.int .i64 t, .int .i64 q, .int .i64 s] 23) 122 #[.pointer (some ⟨b, 0, none⟩), .int .i64 t, .int .i64 q, .int .i64 s, .int .i64 hd, .int .i64 p])
 obtain ⟨x0, x1, x2, x3, x4, x5⟩ := W0.out.held.six'
 have HK := hidp hp
 clear h hp
 go_enter Tryz.func38, Tryz.ntmps38
 go_wp2_with fail
 refine (lkIs_c b t q s hd p _).mono ?_; rintro e w1 ⟨rfl, hb⟩; rw [HK.out]; have W1 := hidp (W0.out.keep hb); clear hb W0
 go_wp2
 (try simp only [Exit.inBlock, Exit.then])
 refine bodyPost_ret (results_none rfl _ _ _) rfl ?_
 exact ⟨rfl, W1.out.fin⟩

set_option maxHeartbeats 3200000 in
theorem lkPush_yes (hn : n < 2 ^ 40) (k : Nat) (hk : pgB q (k : Int) = true) (hk31 : k < 2 ^ 31) (h : (vOb base b n wh K).At w0 A G st w) :
  Calls Tryz.prog 38 #[.pointer (some ⟨b, 0, none⟩), .agg #[.int .i64 t, .int .i64 q, .int .i64 s], .int .i64 hd, .int .i64 (k : Int)] w fun e w' => e = .returned (.tuple #[]) /\ (vOb base b n wh K).At w0 A G (pushS n K t q s hd k st) w' /\ Stay G w w' := by
 have W0 := hidp (WK.two h (.cells #[.int .i64 t, .int .i64 q, .int .i64 s] 23) 122 #[.pointer (some ⟨b, 0, none⟩), .int .i64 t, .int .i64 q, .int .i64 s, .int .i64 hd, .int .i64 (k : Int)])
 obtain ⟨x0, x1, x2, x3, x4, x5⟩ := W0.out.held.six'
 have HK := hidp hk
 obtain ⟨l, hl⟩ : ∃ l, getV n K st hd = l := ⟨_, rfl⟩
 have hl32 : l < 2 ^ 32 := by rw [<- hl]; exact vAt_lt h hd
 have HL := hidp hl
 have HQ : Hid (push1 n K t q s hd k st = putS n (putS n (getS n K st hd) (pageI t q s (k : Int) 2) l) (pageI t q s (k : Int) 3) 0) := hidp (by unfold push1; rw [hl])
 have HP : Hid (l = 0 -> pushS n K t q s hd k st = putS n (push1 n K t q s hd k st) hd (k + 1)) := hidp (fun e => by unfold pushS push2; rw [if_pos (hl.trans e)])
 have HR : Hid (l ≠ 0 -> pushS n K t q s hd k st = putS n (putS n (push1 n K t q s hd k st) (pageI t q s ((l : Int) - 1) 3) (k + 1)) hd (k + 1)) := hidp (fun e => by unfold pushS push2; rw [if_neg (by rw [hl]; exact e), hl])
 clear hl
 clear h hk
 go_enter Tryz.func38, Tryz.ntmps38
 go_wp2_with fail
 refine (lkIs_c b t q s hd k _).mono ?_; rintro e w1 ⟨rfl, hb⟩; have W1 := hidp (W0.out.keep hb); clear hb W0; rw [HK.out]
 obtain ⟨x0, x1, x2, x3, x4, x5⟩ := W1.out.held.six'
 go_wp2_with fail
 refine (lkFirst_c hn W1.out.at_).mono ?_; rintro e w2 ⟨rfl, h1, h2⟩; have W2 := hidp (W1.out.call h1 h2); clear h1 h2 W1; rw [HL.out]
 obtain ⟨x0, x1, x2, x3, x4, x5⟩ := W2.out.held.six'
 go_wp2_with fail
 refine (lkSetNext_c hn l hl32 W2.out.at_).mono ?_; rintro e w3 ⟨rfl, h1, h2⟩; have W3 := hidp (W2.out.call h1 h2); clear h1 h2 W2
 obtain ⟨x0, x1, x2, x3, x4, x5⟩ := W3.out.held.six'
 go_wp2_with fail
 refine (lkSetPrev_c hn 0 (by omega) W3.out.at_).mono ?_; rintro e w4 ⟨rfl, h1, h2⟩; have W4 := hidp (W3.out.call h1 h2); clear h1 h2 W3
 obtain ⟨x0, x1, x2, x3, x4, x5⟩ := W4.out.held.six'
 rw [<- HQ.out] at W4
 clear HL HQ HK
 by_cases hz : l = 0
 ·have HE := hidp (HP.out hz)
  subst hz
  clear HP HR
  go_wp2_with fail
  refine wp_region_held_drew (S := (fun w' => w'.cell? ⟨w.heap.size + 1, 0, none⟩ = some (.pointer (some ⟨b, 0, none⟩)) /\ w'.cell? ⟨w.heap.size + 1, 1, none⟩ = some (.int .i64 t) /\ w'.cell? ⟨w.heap.size + 1, 2, none⟩ = some (.int .i64 q) /\ w'.cell? ⟨w.heap.size + 1, 3, none⟩ = some (.int .i64 s) /\ w'.cell? ⟨w.heap.size + 1, 4, none⟩ = some (.int .i64 hd) /\ w'.cell? ⟨w.heap.size + 1, 5, none⟩ = some (.int .i64 (k : Int)))) (by kernel_rfl) ?_ (fun hHeld => ?_)
  ·(try dsimp only)
   first | exact W4.out.drew.held.six' | exact W5.out.held.six' | exact W6.out.held.six' | exact hHeld
  refine tkz 0 ?_
  refine tkz 1 ?_
  refine tkz 2 ?_
  refine rdz 3 fun K hK => ?_
  go_simp
  refine (lkLink_c b t q s hd k hk31 _).mono ?_; rintro e w5 ⟨rfl, hb⟩; have W5 := hidp (W4.out.drew.keep hb); clear hb W4
  refine hK.out _ _ ?_ (fun hHeld => ?_)
  ·(try dsimp only)
   first | exact W4.out.drew.held.six' | exact W5.out.held.six' | exact W6.out.held.six' | exact hHeld
  clear hK K
  (try simp only [Act.put, gA, gB, gC, sA, sB, sC])
  refine rdz 4 fun K hK => ?_
  go_simp
  refine (lkSetFirst_c hn (k + 1) (by omega) W5.out.at_).mono ?_; rintro e w6 ⟨rfl, h1, h2⟩; have W6 := hidp (W5.out.call h1 h2); clear h1 h2 W5
  refine hK.out _ _ ?_ (fun hHeld => ?_)
  ·(try dsimp only)
   first | exact W4.out.drew.held.six' | exact W5.out.held.six' | exact W6.out.held.six' | exact hHeld
  clear hK K
  (try simp only [Act.put, gA, gB, gC, sA, sB, sC])
  refine dnz ?_
  obtain ⟨x0, x1, x2, x3, x4, x5⟩ := W6.out.held.six'
  go_wp2
  go_end0
  exact ⟨rfl, by rw [HE.out]; exact W6.out.fin⟩
 ·have HE := hidp (HR.out hz)
  have t1 : ((l : Int) == 0) = false := by simp; omega
  have t2 : ((l : Int) != 0) = true := by simp; omega
  clear HP HR
  go_wp2_with fail
  refine wp_region_held_drew (S := (fun w' => w'.cell? ⟨w.heap.size + 1, 0, none⟩ = some (.pointer (some ⟨b, 0, none⟩)) /\ w'.cell? ⟨w.heap.size + 1, 1, none⟩ = some (.int .i64 t) /\ w'.cell? ⟨w.heap.size + 1, 2, none⟩ = some (.int .i64 q) /\ w'.cell? ⟨w.heap.size + 1, 3, none⟩ = some (.int .i64 s) /\ w'.cell? ⟨w.heap.size + 1, 4, none⟩ = some (.int .i64 hd) /\ w'.cell? ⟨w.heap.size + 1, 5, none⟩ = some (.int .i64 (k : Int)))) (by kernel_rfl) ?_ (fun hHeld => ?_)
  ·(try dsimp only)
   first | exact W4.out.drew.held.six' | exact W5.out.held.six' | exact W6.out.held.six' | exact W7.out.held.six' | exact hHeld
  refine tkz 0 ?_
  refine tkz 1 ?_
  refine tkz 2 ?_
  refine tkz 4 ?_
  refine rdz 3 fun K hK => ?_
  go_simp
  refine (lkTo_c b t q s hd l hl32 _).mono ?_; rintro e w5 ⟨rfl, hb⟩; have W5 := hidp (W4.out.drew.keep hb); clear hb W4
  refine hK.out _ _ ?_ (fun hHeld => ?_)
  ·(try dsimp only)
   first | exact W4.out.drew.held.six' | exact W5.out.held.six' | exact W6.out.held.six' | exact W7.out.held.six' | exact hHeld
  clear hK K
  (try simp only [Act.put, gA, gB, gC, sA, sB, sC])
  refine rdz 5 fun K hK => ?_
  go_simp
  refine (lkLink_c b t q s hd k hk31 _).mono ?_; rintro e w6 ⟨rfl, hb⟩; have W6 := hidp (W5.out.keep hb); clear hb W5
  refine hK.out _ _ ?_ (fun hHeld => ?_)
  ·(try dsimp only)
   first | exact W4.out.drew.held.six' | exact W5.out.held.six' | exact W6.out.held.six' | exact W7.out.held.six' | exact hHeld
  clear hK K
  (try simp only [Act.put, gA, gB, gC, sA, sB, sC])
  refine rdz 6 fun K hK => ?_
  go_simp
  refine (lkSetPrev_c hn (k + 1) (by omega) W6.out.at_).mono ?_; rintro e w7 ⟨rfl, h1, h2⟩; have W7 := hidp (W6.out.call h1 h2); clear h1 h2 W6
  refine hK.out _ _ ?_ (fun hHeld => ?_)
  ·(try dsimp only)
   first | exact W4.out.drew.held.six' | exact W5.out.held.six' | exact W6.out.held.six' | exact W7.out.held.six' | exact hHeld
  clear hK K
  (try simp only [Act.put, gA, gB, gC, sA, sB, sC])
  refine dnz ?_
  obtain ⟨x0, x1, x2, x3, x4, x5⟩ := W7.out.held.six'
  go_wp2_with fail
  refine wp_region_held_drew (S := (fun w' => w'.cell? ⟨w.heap.size + 1, 0, none⟩ = some (.pointer (some ⟨b, 0, none⟩)) /\ w'.cell? ⟨w.heap.size + 1, 1, none⟩ = some (.int .i64 t) /\ w'.cell? ⟨w.heap.size + 1, 2, none⟩ = some (.int .i64 q) /\ w'.cell? ⟨w.heap.size + 1, 3, none⟩ = some (.int .i64 s) /\ w'.cell? ⟨w.heap.size + 1, 4, none⟩ = some (.int .i64 hd) /\ w'.cell? ⟨w.heap.size + 1, 5, none⟩ = some (.int .i64 (k : Int)))) (by kernel_rfl) ?_ (fun hHeld => ?_)
  ·(try dsimp only)
   first | exact W7.out.drew.held.six' | exact W8.out.held.six' | exact W9.out.held.six' | exact hHeld
  refine tkz 0 ?_
  refine tkz 1 ?_
  refine tkz 2 ?_
  refine rdz 3 fun K hK => ?_
  go_simp
  refine (lkLink_c b t q s hd k hk31 _).mono ?_; rintro e w8 ⟨rfl, hb⟩; have W8 := hidp (W7.out.drew.keep hb); clear hb W7
  refine hK.out _ _ ?_ (fun hHeld => ?_)
  ·(try dsimp only)
   first | exact W7.out.drew.held.six' | exact W8.out.held.six' | exact W9.out.held.six' | exact hHeld
  clear hK K
  (try simp only [Act.put, gA, gB, gC, sA, sB, sC])
  refine rdz 4 fun K hK => ?_
  go_simp
  refine (lkSetFirst_c hn (k + 1) (by omega) W8.out.at_).mono ?_; rintro e w9 ⟨rfl, h1, h2⟩; have W9 := hidp (W8.out.call h1 h2); clear h1 h2 W8
  refine hK.out _ _ ?_ (fun hHeld => ?_)
  ·(try dsimp only)
   first | exact W7.out.drew.held.six' | exact W8.out.held.six' | exact W9.out.held.six' | exact hHeld
  clear hK K
  (try simp only [Act.put, gA, gB, gC, sA, sB, sC])
  refine dnz ?_
  obtain ⟨x0, x1, x2, x3, x4, x5⟩ := W9.out.held.six'
  go_wp2
  go_end0
  exact ⟨rfl, by rw [HE.out]; exact W9.out.fin⟩
theorem lkPush_c (hn : n < 2 ^ 40) (hq : q <= 2 ^ 31) (p : Int) (h : (vOb base b n wh K).At w0 A G st w) :
  Calls Tryz.prog 38 #[.pointer (some ⟨b, 0, none⟩), .agg #[.int .i64 t, .int .i64 q, .int .i64 s], .int .i64 hd, .int .i64 p] w fun e w' => e = .returned (.tuple #[]) /\ (vOb base b n wh K).At w0 A G (pushI n K t q s hd p st) w' /\ Stay G w w' := by
 cases hp : pgB q p with
 | false => rw [(pgB_none hp).1]; exact lkPush_no hn p hp h
 | true =>
  have h1 := (pgB_iff _ _).1 hp
  obtain ⟨k, rfl⟩ := Int.eq_ofNat_of_zero_le h1.1
  rw [(pgB_nat hp).1]
  exact lkPush_yes hn k hp (by omega) h

theorem lkPull_no (hn : n < 2 ^ 40) (p : Int) (hp : pgB q p = false) (h : (vOb base b n wh K).At w0 A G st w) :
  Calls Tryz.prog 36 #[.pointer (some ⟨b, 0, none⟩), .agg #[.int .i64 t, .int .i64 q, .int .i64 s], .int .i64 hd, .int .i64 p] w fun e w' => e = .returned (.tuple #[]) /\ (vOb base b n wh K).At w0 A G (st) w' /\ Stay G w w' := by
 have W0 := hidp (WK.two h (.cells #[.int .i64 t, .int .i64 q, .int .i64 s] 23) 122 #[.pointer (some ⟨b, 0, none⟩), .int .i64 t, .int .i64 q, .int .i64 s, .int .i64 hd, .int .i64 p])
 obtain ⟨x0, x1, x2, x3, x4, x5⟩ := W0.out.held.six'
 have HK := hidp hp
 clear h hp
 go_enter Tryz.func36, Tryz.ntmps36
 go_wp2_with fail
 refine (lkIs_c b t q s hd p _).mono ?_; rintro e w1 ⟨rfl, hb⟩; rw [HK.out]; have W1 := hidp (W0.out.keep hb); clear hb W0
 go_wp2
 (try simp only [Exit.inBlock, Exit.then])
 refine bodyPost_ret (results_none rfl _ _ _) rfl ?_
 exact ⟨rfl, W1.out.fin⟩

set_option maxHeartbeats 3200000 in
theorem lkPull_yes (hn : n < 2 ^ 40) (k : Nat) (hk : pgB q (k : Int) = true) (hk31 : k < 2 ^ 31) (h : (vOb base b n wh K).At w0 A G st w) :
  Calls Tryz.prog 36 #[.pointer (some ⟨b, 0, none⟩), .agg #[.int .i64 t, .int .i64 q, .int .i64 s], .int .i64 hd, .int .i64 (k : Int)] w fun e w' => e = .returned (.tuple #[]) /\ (vOb base b n wh K).At w0 A G (pullS n K t q s hd k st) w' /\ Stay G w w' := by
 have W0 := hidp (WK.two h (.cells #[.int .i64 t, .int .i64 q, .int .i64 s] 23) 122 #[.pointer (some ⟨b, 0, none⟩), .int .i64 t, .int .i64 q, .int .i64 s, .int .i64 hd, .int .i64 (k : Int)])
 obtain ⟨x0, x1, x2, x3, x4, x5⟩ := W0.out.held.six'
 have HK := hidp hk
 obtain ⟨x, hx⟩ : ∃ x, pullN n K t q s k st = x := ⟨_, rfl⟩
 obtain ⟨y, hy⟩ : ∃ y, pullB n K t q s k st = y := ⟨_, rfl⟩
 have hx32 : x < 2 ^ 32 := by rw [<- hx]; exact vAt_lt h _
 have HX : Hid (getV n K st (pageI t q s (k : Int) 2) = x) := hidp hx
 have HY : Hid (getV n K (getS n K st (pageI t q s (k : Int) 2)) (pageI t q s (k : Int) 3) = y) := hidp hy
 have H0 : Hid (pull0 n K t q s k st = getS n K (getS n K st (pageI t q s (k : Int) 2)) (pageI t q s (k : Int) 3)) := hidp rfl
 have HA : Hid (y = 0 -> pull1 n K t q s hd k st = putS n (pull0 n K t q s k st) hd x) := hidp (fun e => by unfold pull1; rw [if_pos (hy.trans e), hx])
 have HB : Hid (y ≠ 0 -> pull1 n K t q s hd k st = putS n (pull0 n K t q s k st) (pageI t q s ((y : Int) - 1) 2) x) := hidp (fun e => by unfold pull1; rw [if_neg (by rw [hy]; exact e), hx, hy])
 have HC : Hid (x = 0 -> pull2 n K t q s hd k st = pull1 n K t q s hd k st) := hidp (fun e => by unfold pull2; rw [if_pos (hx.trans e)])
 have HD : Hid (x ≠ 0 -> pull2 n K t q s hd k st = putS n (pull1 n K t q s hd k st) (pageI t q s ((x : Int) - 1) 3) y) := hidp (fun e => by unfold pull2; rw [if_neg (by rw [hx]; exact e), hx, hy])
 have HE : Hid (pullS n K t q s hd k st = putS n (putS n (pull2 n K t q s hd k st) (pageI t q s (k : Int) 2) 0) (pageI t q s (k : Int) 3) 0) := hidp rfl
 clear hx hy
 clear h hk
 go_enter Tryz.func36, Tryz.ntmps36
 go_wp2_with fail
 refine (lkIs_c b t q s hd k _).mono ?_; rintro e w1 ⟨rfl, hb⟩; have W1 := hidp (W0.out.keep hb); clear hb W0; rw [HK.out]
 obtain ⟨x0, x1, x2, x3, x4, x5⟩ := W1.out.held.six'
 go_wp2_with fail
 refine wp_region_held_drew (S := (fun w' => w'.cell? ⟨w.heap.size + 1, 0, none⟩ = some (.pointer (some ⟨b, 0, none⟩)) /\ w'.cell? ⟨w.heap.size + 1, 1, none⟩ = some (.int .i64 t) /\ w'.cell? ⟨w.heap.size + 1, 2, none⟩ = some (.int .i64 q) /\ w'.cell? ⟨w.heap.size + 1, 3, none⟩ = some (.int .i64 s) /\ w'.cell? ⟨w.heap.size + 1, 4, none⟩ = some (.int .i64 hd) /\ w'.cell? ⟨w.heap.size + 1, 5, none⟩ = some (.int .i64 (k : Int)))) (by kernel_rfl) ?_ (fun hHeld => ?_)
 ·(try dsimp only)
  first | exact W1.out.drew.held.six' | exact W2.out.held.six' | exact W3.out.held.six' | exact hHeld
 refine tkz 0 ?_
 refine tkz 2 ?_
 refine rdz 1 fun K hK => ?_
 go_simp
 refine (lkNext_c hn W1.out.drew.at_).mono ?_; rintro e w2 ⟨rfl, h1, h2⟩; have W2 := hidp (W1.out.drew.call h1 h2); have HZ := W2; clear h1 h2 W1; rw [HX.out]
 refine hK.out _ _ ?_ (fun hHeld => ?_)
 ·(try dsimp only)
  first | exact W1.out.drew.held.six' | exact W2.out.held.six' | exact W3.out.held.six' | exact hHeld
 clear hK K
 (try simp only [Act.put, gA, gB, gC, sA, sB, sC])
 refine rdz 3 fun K hK => ?_
 go_simp
 refine (lkPrev_c hn W2.out.at_).mono ?_; rintro e w3 ⟨rfl, h1, h2⟩; have W3 := hidp (W2.out.call h1 h2); clear h1 h2 W2; have hy32 : y < 2 ^ 32 := by { rw [<- HY.out]; exact vAt_lt HZ.out.at_ _ }; clear HZ; rw [HY.out]
 refine hK.out _ _ ?_ (fun hHeld => ?_)
 ·(try dsimp only)
  first | exact W1.out.drew.held.six' | exact W2.out.held.six' | exact W3.out.held.six' | exact hHeld
 clear hK K
 (try simp only [Act.put, gA, gB, gC, sA, sB, sC])
 refine tkz 4 ?_
 refine tkz 5 ?_
 refine dnz ?_
 obtain ⟨x0, x1, x2, x3, x4, x5⟩ := W3.out.held.six'
 rw [<- H0.out] at W3
 clear HX HY H0 HK
 by_cases hyz : y = 0
 ·have HM := hidp (HA.out hyz)
  subst hyz
  go_wp2_with fail
  refine (lkSetFirst_c hn x hx32 W3.out.at_).mono ?_; rintro e w4 ⟨rfl, h1, h2⟩; have W4 := hidp (W3.out.call h1 h2); clear h1 h2 W3
  obtain ⟨x0, x1, x2, x3, x4, x5⟩ := W4.out.held.six'
  rw [<- HM.out] at W4
  clear HA HB HM
  by_cases hxz : x = 0
  ·have HN := hidp (HC.out hxz)
   subst hxz
   clear HC HD
   go_wp2_with fail
   refine (lkSetNext_c hn 0 (by omega) W4.out.at_).mono ?_; rintro e w5 ⟨rfl, h1, h2⟩; have W5 := hidp (W4.out.call h1 h2); clear h1 h2 W4
   obtain ⟨x0, x1, x2, x3, x4, x5⟩ := W5.out.held.six'
   go_wp2_with fail
   refine (lkSetPrev_c hn 0 (by omega) W5.out.at_).mono ?_; rintro e w6 ⟨rfl, h1, h2⟩; have W6 := hidp (W5.out.call h1 h2); clear h1 h2 W5
   obtain ⟨x0, x1, x2, x3, x4, x5⟩ := W6.out.held.six'
   go_wp2
   go_end0
   exact ⟨rfl, by rw [HE.out, HN.out]; exact W6.out.fin⟩
  ·have HN := hidp (HD.out hxz)
   have t3 : ((x : Int) == 0) = false := by simp; omega
   have t4 : ((x : Int) != 0) = true := by simp; omega
   clear HC HD
   go_wp2_with fail
   refine (lkTo_c b t q s hd x hx32 _).mono ?_; rintro e w5 ⟨rfl, hb⟩; have W5 := hidp (W4.out.keep hb); clear hb W4
   obtain ⟨x0, x1, x2, x3, x4, x5⟩ := W5.out.held.six'
   go_wp2_with fail
   refine (lkSetPrev_c hn 0 (by omega) W5.out.at_).mono ?_; rintro e w6 ⟨rfl, h1, h2⟩; have W6 := hidp (W5.out.call h1 h2); clear h1 h2 W5
   obtain ⟨x0, x1, x2, x3, x4, x5⟩ := W6.out.held.six'
   go_wp2_with fail
   refine (lkSetNext_c hn 0 (by omega) W6.out.at_).mono ?_; rintro e w7 ⟨rfl, h1, h2⟩; have W7 := hidp (W6.out.call h1 h2); clear h1 h2 W6
   obtain ⟨x0, x1, x2, x3, x4, x5⟩ := W7.out.held.six'
   go_wp2_with fail
   refine (lkSetPrev_c hn 0 (by omega) W7.out.at_).mono ?_; rintro e w8 ⟨rfl, h1, h2⟩; have W8 := hidp (W7.out.call h1 h2); clear h1 h2 W7
   obtain ⟨x0, x1, x2, x3, x4, x5⟩ := W8.out.held.six'
   go_wp2
   go_end0
   exact ⟨rfl, by rw [HE.out, HN.out]; exact W8.out.fin⟩
 ·have HM := hidp (HB.out hyz)
  have t1 : ((y : Int) == 0) = false := by simp; omega
  have t2 : ((y : Int) != 0) = true := by simp; omega
  go_wp2_with fail
  refine (lkTo_c b t q s hd y hy32 _).mono ?_; rintro e w4 ⟨rfl, hb⟩; have W4 := hidp (W3.out.keep hb); clear hb W3
  obtain ⟨x0, x1, x2, x3, x4, x5⟩ := W4.out.held.six'
  go_wp2_with fail
  refine (lkSetNext_c hn x hx32 W4.out.at_).mono ?_; rintro e w5 ⟨rfl, h1, h2⟩; have W5 := hidp (W4.out.call h1 h2); clear h1 h2 W4
  obtain ⟨x0, x1, x2, x3, x4, x5⟩ := W5.out.held.six'
  rw [<- HM.out] at W5
  clear HA HB HM
  by_cases hxz : x = 0
  ·have HN := hidp (HC.out hxz)
   subst hxz
   clear HC HD
   go_wp2_with fail
   refine (lkSetNext_c hn 0 (by omega) W5.out.at_).mono ?_; rintro e w6 ⟨rfl, h1, h2⟩; have W6 := hidp (W5.out.call h1 h2); clear h1 h2 W5
   obtain ⟨x0, x1, x2, x3, x4, x5⟩ := W6.out.held.six'
   go_wp2_with fail
   refine (lkSetPrev_c hn 0 (by omega) W6.out.at_).mono ?_; rintro e w7 ⟨rfl, h1, h2⟩; have W7 := hidp (W6.out.call h1 h2); clear h1 h2 W6
   obtain ⟨x0, x1, x2, x3, x4, x5⟩ := W7.out.held.six'
   go_wp2
   go_end0
   exact ⟨rfl, by rw [HE.out, HN.out]; exact W7.out.fin⟩
  ·have HN := hidp (HD.out hxz)
   have t3 : ((x : Int) == 0) = false := by simp; omega
   have t4 : ((x : Int) != 0) = true := by simp; omega
   clear HC HD
   go_wp2_with fail
   refine (lkTo_c b t q s hd x hx32 _).mono ?_; rintro e w6 ⟨rfl, hb⟩; have W6 := hidp (W5.out.keep hb); clear hb W5
   obtain ⟨x0, x1, x2, x3, x4, x5⟩ := W6.out.held.six'
   go_wp2_with fail
   refine (lkSetPrev_c hn y hy32 W6.out.at_).mono ?_; rintro e w7 ⟨rfl, h1, h2⟩; have W7 := hidp (W6.out.call h1 h2); clear h1 h2 W6
   obtain ⟨x0, x1, x2, x3, x4, x5⟩ := W7.out.held.six'
   go_wp2_with fail
   refine (lkSetNext_c hn 0 (by omega) W7.out.at_).mono ?_; rintro e w8 ⟨rfl, h1, h2⟩; have W8 := hidp (W7.out.call h1 h2); clear h1 h2 W7
   obtain ⟨x0, x1, x2, x3, x4, x5⟩ := W8.out.held.six'
   go_wp2_with fail
   refine (lkSetPrev_c hn 0 (by omega) W8.out.at_).mono ?_; rintro e w9 ⟨rfl, h1, h2⟩; have W9 := hidp (W8.out.call h1 h2); clear h1 h2 W8
   obtain ⟨x0, x1, x2, x3, x4, x5⟩ := W9.out.held.six'
   go_wp2
   go_end0
   exact ⟨rfl, by rw [HE.out, HN.out]; exact W9.out.fin⟩
theorem lkPull_c (hn : n < 2 ^ 40) (hq : q <= 2 ^ 31) (p : Int) (h : (vOb base b n wh K).At w0 A G st w) :
  Calls Tryz.prog 36 #[.pointer (some ⟨b, 0, none⟩), .agg #[.int .i64 t, .int .i64 q, .int .i64 s], .int .i64 hd, .int .i64 p] w fun e w' => e = .returned (.tuple #[]) /\ (vOb base b n wh K).At w0 A G (pullI n K t q s hd p st) w' /\ Stay G w w' := by
 cases hp : pgB q p with
 | false => rw [(pgB_none hp).2]; exact lkPull_no hn p hp h
 | true =>
  have h1 := (pgB_iff _ _).1 hp
  obtain ⟨k, rfl⟩ := Int.eq_ofNat_of_zero_le h1.1
  rw [(pgB_nat hp).2]
  exact lkPull_yes hn k hp (by omega) h

end
end
end Go.Proofs.YtnmhdlpnimdffaaGreatDoor

namespace Go.Proofs.YtnmhdlpnimdffaaGreatDoor
open Go.ChangeShapes Go.WideShapes Go.ChangeAt Go.RowKit
set_option linter.unusedVariables false
set_option linter.unusedSimpArgs false
section
theorem r7Bin_c (k : Int) (w : World) :
  Calls Tryz.prog 113 #[.int .i64 k] w fun z w' => z = .returned (.int .i64 (nthI 2 11 1 k)) /\ w = w' := by
 by_cases c0 : k < 0
 ·have HN := hidp (nth_off (f := 2) (n := 11) (e := 1) (.inr (.inl c0)))
  go_enter Tryz.func113, Tryz.ntmps113
  go_wp2
  go_ret
  exact ⟨by rw [HN.out]; rfl, rfl⟩
 ·by_cases c1 : 11 <= k
  ·have HN := hidp (nth_off (f := 2) (n := 11) (e := 1) (.inr (.inr c1)))
   go_enter Tryz.func113, Tryz.ntmps113
   go_wp2
   go_ret
   exact ⟨by rw [HN.out]; rfl, rfl⟩
  ·have HN := hidp (show nthI 2 11 1 k = 2 + k by rw [nth_on (by omega) (by omega) (by omega)]; omega)
   go_enter Tryz.func113, Tryz.ntmps113
   go_wp2
   go_ret
   exact ⟨by rw [HN.out]; rfl, rfl⟩

theorem r7Rack_c (k : Int) (w : World) :
  Calls Tryz.prog 46 #[.int .i64 k] w fun z w' => z = .returned (.int .i64 (nthI 13 9 1 k)) /\ w = w' := by
 by_cases c0 : k < 0
 ·have HN := hidp (nth_off (f := 13) (n := 9) (e := 1) (.inr (.inl c0)))
  go_enter Tryz.func46, Tryz.ntmps46
  go_wp2
  go_ret
  exact ⟨by rw [HN.out]; rfl, rfl⟩
 ·by_cases c1 : 9 <= k
  ·have HN := hidp (nth_off (f := 13) (n := 9) (e := 1) (.inr (.inr c1)))
   go_enter Tryz.func46, Tryz.ntmps46
   go_wp2
   go_ret
   exact ⟨by rw [HN.out]; rfl, rfl⟩
  ·have HN := hidp (show nthI 13 9 1 k = 13 + k by rw [nth_on (by omega) (by omega) (by omega)]; omega)
   go_enter Tryz.func46, Tryz.ntmps46
   go_wp2
   go_ret
   exact ⟨by rw [HN.out]; rfl, rfl⟩

theorem r7Root_c (k : Int) (w : World) :
  Calls Tryz.prog 56 #[.int .i64 k] w fun z w' => z = .returned (.int .i64 (nthI 22 8 1 k)) /\ w = w' := by
 by_cases c0 : k < 0
 ·have HN := hidp (nth_off (f := 22) (n := 8) (e := 1) (.inr (.inl c0)))
  go_enter Tryz.func56, Tryz.ntmps56
  go_wp2
  go_ret
  exact ⟨by rw [HN.out]; rfl, rfl⟩
 ·by_cases c1 : 8 <= k
  ·have HN := hidp (nth_off (f := 22) (n := 8) (e := 1) (.inr (.inr c1)))
   go_enter Tryz.func56, Tryz.ntmps56
   go_wp2
   go_ret
   exact ⟨by rw [HN.out]; rfl, rfl⟩
  ·have HN := hidp (show nthI 22 8 1 k = 22 + k by rw [nth_on (by omega) (by omega) (by omega)]; omega)
   go_enter Tryz.func56, Tryz.ntmps56
   go_wp2
   go_ret
   exact ⟨by rw [HN.out]; rfl, rfl⟩

theorem r7Cells_c (t p s : Int) (w : World) :
  Calls Tryz.prog 62 #[.agg #[.int .i64 t, .int .i64 p, .int .i64 s]] w fun z w' => z = .returned (.int .i64 (lC t p s)) /\ Below w.heap.size w w' := by
 have hc := Held.new w 23 #[.int .i64 t, .int .i64 p, .int .i64 s]
 cases hr : rightB t p s
 ·have HR := hidp hr
  have HN := hidp (lay_no hr).hC
  clear hr
  go_enter Tryz.func62, Tryz.ntmps62
  go_wp2_with fail
  refine (r4Right_c t p s _).mono ?_
  rintro e w1 ⟨rfl, hb1⟩
  rw [HR.out]
  have hc1 := hc.keep hb1
  obtain ⟨x0, x1, x2⟩ := hc1.three
  go_wp2
  go_ret
  exact ⟨by rw [HN.out]; rfl, Bgo (Bnew (B0 _) _) hb1⟩
 ·have HR := hidp hr
  have HN := hidp (lay_yes hr).hC
  have hn := (rightB_iff t p s).1 hr
  have t0 : 1 <= t := by omega
  have t1 : t <= 16 := by omega
  have p0 : 4 <= p := by omega
  have p1 : p <= 1024 := by omega
  clear hn
  clear hr
  go_enter Tryz.func62, Tryz.ntmps62
  go_wp2_with fail
  refine (r4Right_c t p s _).mono ?_
  rintro e w1 ⟨rfl, hb1⟩
  rw [HR.out]
  have hc1 := hc.keep hb1
  obtain ⟨x0, x1, x2⟩ := hc1.three
  go_wp2
  go_ret
  exact ⟨by rw [HN.out]; rfl, Bgo (Bnew (B0 _) _) hb1⟩

set_option maxHeartbeats 1600000 in
theorem r7Page_c (t p s q b : Int) (b0 : 0 <= b) (b1 : b < 6) (w : World) :
  Calls Tryz.prog 95 #[.agg #[.int .i64 t, .int .i64 p, .int .i64 s], .int .i64 q, .int .i64 b] w fun z w' => z = .returned (.int .i64 (pageI t p s q b)) /\ Below w.heap.size w w' := by
 have hc := Held.new w 23 #[.int .i64 t, .int .i64 p, .int .i64 s]
 cases hr : rightB t p s
 ·have HR := hidp hr
  have HN := hidp (show pageI t p s q b = -1 from pcell_no (by intro h; rw [h.1] at hr; cases hr))
  clear hr
  go_enter Tryz.func95, Tryz.ntmps95
  go_wp2_with fail
  refine (r4Right_c t p s _).mono ?_
  rintro e w1 ⟨rfl, hb1⟩
  rw [HR.out]
  have hc1 := hc.keep hb1
  obtain ⟨x0, x1, x2⟩ := hc1.three
  go_wp2
  go_ret
  refine ⟨by rw [HN.out]; rfl, ?_⟩
  all_goals exact blz
 ·have HR := hidp hr
  have hn := (rightB_iff t p s).1 hr
  have t0 : 1 <= t := by omega
  have t1 : t <= 16 := by omega
  have p0 : 4 <= p := by omega
  have p1 : p <= 1024 := by omega
  clear hn
  by_cases c0 : q < 0
  ·clear hr
   have HN := hidp (show pageI t p s q b = -1 from pcell_no (by intro h; omega))
   go_enter Tryz.func95, Tryz.ntmps95
   go_wp2_with fail
   refine (r4Right_c t p s _).mono ?_
   rintro e w1 ⟨rfl, hb1⟩
   rw [HR.out]
   have hc1 := hc.keep hb1
   obtain ⟨x0, x1, x2⟩ := hc1.three
   go_wp2
   go_ret
   refine ⟨by rw [HN.out]; rfl, ?_⟩
   all_goals exact blz
  ·skip
   by_cases c1 : p <= q
   ·clear hr
    have HN := hidp (show pageI t p s q b = -1 from pcell_no (by intro h; omega))
    go_enter Tryz.func95, Tryz.ntmps95
    go_wp2_with fail
    refine (r4Right_c t p s _).mono ?_
    rintro e w1 ⟨rfl, hb1⟩
    rw [HR.out]
    have hc1 := hc.keep hb1
    obtain ⟨x0, x1, x2⟩ := hc1.three
    go_wp2
    go_ret
    refine ⟨by rw [HN.out]; rfl, ?_⟩
    all_goals exact blz
   ·skip
    have HN := hidp (show pageI t p s q b = 30 + 4 * t + 6 * q + b from pcell_yes hr (by omega) (by omega) b0 b1)
    clear hr
    go_enter Tryz.func95, Tryz.ntmps95
    go_wp2_with fail
    refine (r4Right_c t p s _).mono ?_
    rintro e w1 ⟨rfl, hb1⟩
    rw [HR.out]
    have hc1 := hc.keep hb1
    obtain ⟨x0, x1, x2⟩ := hc1.three
    go_wp2
    go_ret
    refine ⟨by rw [HN.out]; rfl, ?_⟩
    all_goals exact blz

theorem r7Info_c (t p s q : Int) (w : World) :
  Calls Tryz.prog 93 #[.agg #[.int .i64 t, .int .i64 p, .int .i64 s], .int .i64 q] w fun z w' => z = .returned (.int .i64 (pageI t p s q 0)) /\ Below w.heap.size w w' := by
 go_enter Tryz.func93, Tryz.ntmps93
 go_wp2_with fail
 refine (r7Page_c t p s q 0 (by omega) (by omega) _).mono ?_
 rintro e w1 ⟨rfl, hb1⟩
 go_wp2
 go_ret
 exact ⟨by first | rfl | trivial, Bgo (Bnew (B0 _) _) hb1⟩

theorem r7Foot_c (t p s q : Int) (w : World) :
  Calls Tryz.prog 100 #[.agg #[.int .i64 t, .int .i64 p, .int .i64 s], .int .i64 q] w fun z w' => z = .returned (.int .i64 (pageI t p s q 1)) /\ Below w.heap.size w w' := by
 go_enter Tryz.func100, Tryz.ntmps100
 go_wp2_with fail
 refine (r7Page_c t p s q 1 (by omega) (by omega) _).mono ?_
 rintro e w1 ⟨rfl, hb1⟩
 go_wp2
 go_ret
 exact ⟨by first | rfl | trivial, Bgo (Bnew (B0 _) _) hb1⟩

theorem r7Next_c (t p s q : Int) (w : World) :
  Calls Tryz.prog 98 #[.agg #[.int .i64 t, .int .i64 p, .int .i64 s], .int .i64 q] w fun z w' => z = .returned (.int .i64 (pageI t p s q 2)) /\ Below w.heap.size w w' := by
 go_enter Tryz.func98, Tryz.ntmps98
 go_wp2_with fail
 refine (r7Page_c t p s q 2 (by omega) (by omega) _).mono ?_
 rintro e w1 ⟨rfl, hb1⟩
 go_wp2
 go_ret
 exact ⟨by first | rfl | trivial, Bgo (Bnew (B0 _) _) hb1⟩

theorem r7Prev_c (t p s q : Int) (w : World) :
  Calls Tryz.prog 99 #[.agg #[.int .i64 t, .int .i64 p, .int .i64 s], .int .i64 q] w fun z w' => z = .returned (.int .i64 (pageI t p s q 3)) /\ Below w.heap.size w w' := by
 go_enter Tryz.func99, Tryz.ntmps99
 go_wp2_with fail
 refine (r7Page_c t p s q 3 (by omega) (by omega) _).mono ?_
 rintro e w1 ⟨rfl, hb1⟩
 go_wp2
 go_ret
 exact ⟨by first | rfl | trivial, Bgo (Bnew (B0 _) _) hb1⟩

theorem r7Slots_c (t p s q : Int) (w : World) :
  Calls Tryz.prog 41 #[.agg #[.int .i64 t, .int .i64 p, .int .i64 s], .int .i64 q] w fun z w' => z = .returned (.int .i64 (pageI t p s q 4)) /\ Below w.heap.size w w' := by
 go_enter Tryz.func41, Tryz.ntmps41
 go_wp2_with fail
 refine (r7Page_c t p s q 4 (by omega) (by omega) _).mono ?_
 rintro e w1 ⟨rfl, hb1⟩
 go_wp2
 go_ret
 exact ⟨by first | rfl | trivial, Bgo (Bnew (B0 _) _) hb1⟩

theorem r7Taken_c (t p s q : Int) (w : World) :
  Calls Tryz.prog 42 #[.agg #[.int .i64 t, .int .i64 p, .int .i64 s], .int .i64 q] w fun z w' => z = .returned (.int .i64 (pageI t p s q 5)) /\ Below w.heap.size w w' := by
 go_enter Tryz.func42, Tryz.ntmps42
 go_wp2_with fail
 refine (r7Page_c t p s q 5 (by omega) (by omega) _).mono ?_
 rintro e w1 ⟨rfl, hb1⟩
 go_wp2
 go_ret
 exact ⟨by first | rfl | trivial, Bgo (Bnew (B0 _) _) hb1⟩
end
end Go.Proofs.YtnmhdlpnimdffaaGreatDoor

namespace Go.Proofs.YtnmhdlpnimdffaaGreatDoor
open Go.ChangeShapes Go.WideShapes Go.ChangeAt Go.RowKit Go.Maps
set_option linter.unusedVariables false
set_option linter.unusedSimpArgs false
set_option maxRecDepth 100000
section
section
variable {base b n : Nat} {all : Bool} {K : Nat -> Option Nat} {st : Vst} {w w0 : World} {A G : Nat -> Prop} {t q s hd : Int}

theorem rkPush_no (p : Int) (hp : pgB q p = false) (h : (rOb base b n all K).At w0 A G st w) :
  Calls Tryz.prog 48 #[.pointer (some ⟨b, 0, none⟩), .agg #[.int .i64 t, .int .i64 q, .int .i64 s], .int .i64 hd, .int .i64 p] w fun e w' => e = .returned (.tuple #[]) /\ (rOb base b n all K).At w0 A G (st) w' /\ Stay G w w' := by
 have W0 := hidp (WK.one h 23 #[.int .i64 t, .int .i64 q, .int .i64 s])
 obtain ⟨x0, x1, x2⟩ := W0.out.held.three
 have hp := pgB_no hp
 clear h
 by_cases h0 : p < 0
 ·have t0 : decide (p < (0 : Int)) = true := decide_eq_true h0
  go_enter Tryz.func48, Tryz.ntmps48
  go_wp2
  (try simp only [Exit.inBlock, Exit.then])
  refine bodyPost_ret (results_none rfl _ _ _) rfl ?_
  exact ⟨rfl, W0.out.fin⟩
 ·have t0 : decide (p < (0 : Int)) = false := decide_eq_false h0
  have t1 : decide (q <= p) = true := decide_eq_true (by omega)
  go_enter Tryz.func48, Tryz.ntmps48
  go_wp2
  (try simp only [Exit.inBlock, Exit.then])
  refine bodyPost_ret (results_none rfl _ _ _) rfl ?_
  exact ⟨rfl, W0.out.fin⟩

set_option maxHeartbeats 3200000 in
theorem rkPush_yes (hn : n < 2 ^ 40) (k : Nat) (hk : pgB q (k : Int) = true) (hk31 : k < 2 ^ 31) (h : (rOb base b n all K).At w0 A G st w) :
  Calls Tryz.prog 48 #[.pointer (some ⟨b, 0, none⟩), .agg #[.int .i64 t, .int .i64 q, .int .i64 s], .int .i64 hd, .int .i64 (k : Int)] w fun e w' => e = .returned (.tuple #[]) /\ (rOb base b n all K).At w0 A G (pushS n K t q s hd k st) w' /\ Stay G w w' := by
 have W0 := hidp (WK.one h 23 #[.int .i64 t, .int .i64 q, .int .i64 s])
 obtain ⟨x0, x1, x2⟩ := W0.out.held.three
 have hk2 := (pgB_iff _ _).1 hk
 have t8 : decide ((k : Int) < 0) = false := decide_eq_false (by omega)
 have t9 : decide (q <= (k : Int)) = false := decide_eq_false (by omega)
 have sk : IntKind.u32.wrap ((k : Int) + 1) = ((k + 1 : Nat) : Int) := by have := wrap_nat32 (k + 1) (by omega); simpa using this
 obtain ⟨l, hl⟩ : ∃ l, getV n K st hd = l := ⟨_, rfl⟩
 have hl32 : l < 2 ^ 32 := by rw [<- hl]; exact rAt_lt h hd
 have HL := hidp hl
 have HQ : Hid (push1 n K t q s hd k st = putS n (putS n (getS n K st hd) (pageI t q s (k : Int) 2) l) (pageI t q s (k : Int) 3) 0) := hidp (by unfold push1; rw [hl])
 have HP : Hid (l = 0 -> pushS n K t q s hd k st = putS n (push1 n K t q s hd k st) hd (k + 1)) := hidp (fun e => by unfold pushS push2; rw [if_pos (hl.trans e)])
 have HR : Hid (l ≠ 0 -> pushS n K t q s hd k st = putS n (putS n (push1 n K t q s hd k st) (pageI t q s ((l : Int) - 1) 3) (k + 1)) hd (k + 1)) := hidp (fun e => by unfold pushS push2; rw [if_neg (by rw [hl]; exact e), hl])
 clear hl
 clear h hk hk2
 go_enter Tryz.func48, Tryz.ntmps48
 go_wp2_with fail
 refine (rGetA hn hd W0.out.at_).mono ?_; rintro e w1 ⟨rfl, h1, h2⟩; have W1 := hidp (W0.out.call h1 h2); clear h1 h2 W0; rw [HL.out]
 obtain ⟨x0, x1, x2⟩ := W1.out.held.three
 go_wp2_with fail
 refine (r7Next_c t q s (k : Int) _).mono ?_; rintro e w2 ⟨rfl, hb⟩; have W2 := hidp (W1.out.keep hb); clear hb W1
 obtain ⟨x0, x1, x2⟩ := W2.out.held.three
 go_wp2_with fail
 refine (rPutA hn _ l hl32 W2.out.at_).mono ?_; rintro e w3 ⟨rfl, h1, h2⟩; have W3 := hidp (W2.out.call h1 h2); clear h1 h2 W2
 obtain ⟨x0, x1, x2⟩ := W3.out.held.three
 go_wp2_with fail
 refine (r7Prev_c t q s (k : Int) _).mono ?_; rintro e w4 ⟨rfl, hb⟩; have W4 := hidp (W3.out.keep hb); clear hb W3
 obtain ⟨x0, x1, x2⟩ := W4.out.held.three
 go_wp2_with fail
 refine (rPutA hn _ 0 (by omega) W4.out.at_).mono ?_; rintro e w5 ⟨rfl, h1, h2⟩; have W5 := hidp (W4.out.call h1 h2); clear h1 h2 W4
 obtain ⟨x0, x1, x2⟩ := W5.out.held.three
 rw [<- HQ.out] at W5
 clear HL HQ
 by_cases hz : l = 0
 ·have HE := hidp (HP.out hz)
  subst hz
  clear HP HR
  go_wp2_with fail
  refine (rPutA hn hd (k + 1) (by omega) W5.out.at_).mono ?_; rintro e w6 ⟨rfl, h1, h2⟩; have W6 := hidp (W5.out.call h1 h2); clear h1 h2 W5
  obtain ⟨x0, x1, x2⟩ := W6.out.held.three
  go_wp2
  go_end0
  exact ⟨rfl, by rw [HE.out]; exact W6.out.fin⟩
 ·have HE := hidp (HR.out hz)
  have t1 : ((l : Int) == 0) = false := by simp; omega
  have t2 : ((l : Int) != 0) = true := by simp; omega
  clear HP HR
  go_wp2_with fail
  refine (r7Prev_c t q s ((l : Int) - 1) _).mono ?_; rintro e w6 ⟨rfl, hb⟩; have W6 := hidp (W5.out.keep hb); clear hb W5
  obtain ⟨x0, x1, x2⟩ := W6.out.held.three
  go_wp2_with fail
  refine (rPutA hn _ (k + 1) (by omega) W6.out.at_).mono ?_; rintro e w7 ⟨rfl, h1, h2⟩; have W7 := hidp (W6.out.call h1 h2); clear h1 h2 W6
  obtain ⟨x0, x1, x2⟩ := W7.out.held.three
  go_wp2_with fail
  refine (rPutA hn hd (k + 1) (by omega) W7.out.at_).mono ?_; rintro e w8 ⟨rfl, h1, h2⟩; have W8 := hidp (W7.out.call h1 h2); clear h1 h2 W7
  obtain ⟨x0, x1, x2⟩ := W8.out.held.three
  go_wp2
  go_end0
  exact ⟨rfl, by rw [HE.out]; exact W8.out.fin⟩
theorem rkPush_c (hn : n < 2 ^ 40) (hq : q <= 2 ^ 31) (p : Int) (h : (rOb base b n all K).At w0 A G st w) :
  Calls Tryz.prog 48 #[.pointer (some ⟨b, 0, none⟩), .agg #[.int .i64 t, .int .i64 q, .int .i64 s], .int .i64 hd, .int .i64 p] w fun e w' => e = .returned (.tuple #[]) /\ (rOb base b n all K).At w0 A G (pushI n K t q s hd p st) w' /\ Stay G w w' := by
 cases hp : pgB q p with
 | false => rw [(pgB_none hp).1]; exact rkPush_no p hp h
 | true =>
  have h1 := (pgB_iff _ _).1 hp
  obtain ⟨k, rfl⟩ := Int.eq_ofNat_of_zero_le h1.1
  rw [(pgB_nat hp).1]
  exact rkPush_yes hn k hp (by omega) h

theorem rkPull_no (p : Int) (hp : pgB q p = false) (h : (rOb base b n all K).At w0 A G st w) :
  Calls Tryz.prog 45 #[.pointer (some ⟨b, 0, none⟩), .agg #[.int .i64 t, .int .i64 q, .int .i64 s], .int .i64 hd, .int .i64 p] w fun e w' => e = .returned (.tuple #[]) /\ (rOb base b n all K).At w0 A G (st) w' /\ Stay G w w' := by
 have W0 := hidp (WK.one h 23 #[.int .i64 t, .int .i64 q, .int .i64 s])
 obtain ⟨x0, x1, x2⟩ := W0.out.held.three
 have hp := pgB_no hp
 clear h
 by_cases h0 : p < 0
 ·have t0 : decide (p < (0 : Int)) = true := decide_eq_true h0
  go_enter Tryz.func45, Tryz.ntmps45
  go_wp2
  (try simp only [Exit.inBlock, Exit.then])
  refine bodyPost_ret (results_none rfl _ _ _) rfl ?_
  exact ⟨rfl, W0.out.fin⟩
 ·have t0 : decide (p < (0 : Int)) = false := decide_eq_false h0
  have t1 : decide (q <= p) = true := decide_eq_true (by omega)
  go_enter Tryz.func45, Tryz.ntmps45
  go_wp2
  (try simp only [Exit.inBlock, Exit.then])
  refine bodyPost_ret (results_none rfl _ _ _) rfl ?_
  exact ⟨rfl, W0.out.fin⟩

set_option maxHeartbeats 3200000 in
theorem rkPull_yes (hn : n < 2 ^ 40) (k : Nat) (hk : pgB q (k : Int) = true) (hk31 : k < 2 ^ 31) (h : (rOb base b n all K).At w0 A G st w) :
  Calls Tryz.prog 45 #[.pointer (some ⟨b, 0, none⟩), .agg #[.int .i64 t, .int .i64 q, .int .i64 s], .int .i64 hd, .int .i64 (k : Int)] w fun e w' => e = .returned (.tuple #[]) /\ (rOb base b n all K).At w0 A G (pullS n K t q s hd k st) w' /\ Stay G w w' := by
 have W0 := hidp (WK.one h 23 #[.int .i64 t, .int .i64 q, .int .i64 s])
 obtain ⟨x0, x1, x2⟩ := W0.out.held.three
 have hk2 := (pgB_iff _ _).1 hk
 have t8 : decide ((k : Int) < 0) = false := decide_eq_false (by omega)
 have t9 : decide (q <= (k : Int)) = false := decide_eq_false (by omega)
 have sk : IntKind.u32.wrap ((k : Int) + 1) = ((k + 1 : Nat) : Int) := by have := wrap_nat32 (k + 1) (by omega); simpa using this
 obtain ⟨x, hx⟩ : ∃ x, pullN n K t q s k st = x := ⟨_, rfl⟩
 obtain ⟨y, hy⟩ : ∃ y, pullB n K t q s k st = y := ⟨_, rfl⟩
 have hx32 : x < 2 ^ 32 := by rw [<- hx]; exact rAt_lt h _
 have HX : Hid (getV n K st (pageI t q s (k : Int) 2) = x) := hidp hx
 have HY : Hid (getV n K (getS n K st (pageI t q s (k : Int) 2)) (pageI t q s (k : Int) 3) = y) := hidp hy
 have H0 : Hid (pull0 n K t q s k st = getS n K (getS n K st (pageI t q s (k : Int) 2)) (pageI t q s (k : Int) 3)) := hidp rfl
 have HA : Hid (y = 0 -> pull1 n K t q s hd k st = putS n (pull0 n K t q s k st) hd x) := hidp (fun e => by unfold pull1; rw [if_pos (hy.trans e), hx])
 have HB : Hid (y ≠ 0 -> pull1 n K t q s hd k st = putS n (pull0 n K t q s k st) (pageI t q s ((y : Int) - 1) 2) x) := hidp (fun e => by unfold pull1; rw [if_neg (by rw [hy]; exact e), hx, hy])
 have HC : Hid (x = 0 -> pull2 n K t q s hd k st = pull1 n K t q s hd k st) := hidp (fun e => by unfold pull2; rw [if_pos (hx.trans e)])
 have HD : Hid (x ≠ 0 -> pull2 n K t q s hd k st = putS n (pull1 n K t q s hd k st) (pageI t q s ((x : Int) - 1) 3) y) := hidp (fun e => by unfold pull2; rw [if_neg (by rw [hx]; exact e), hx, hy])
 have HE : Hid (pullS n K t q s hd k st = putS n (putS n (pull2 n K t q s hd k st) (pageI t q s (k : Int) 2) 0) (pageI t q s (k : Int) 3) 0) := hidp rfl
 clear hx hy
 clear h hk hk2
 go_enter Tryz.func45, Tryz.ntmps45
 go_wp2_with fail
 refine (r7Next_c t q s (k : Int) _).mono ?_; rintro e w1 ⟨rfl, hb⟩; have W1 := hidp (W0.out.keep hb); clear hb W0
 obtain ⟨x0, x1, x2⟩ := W1.out.held.three
 go_wp2_with fail
 refine (rGetA hn _ W1.out.at_).mono ?_; rintro e w2 ⟨rfl, h1, h2⟩; have W2 := hidp (W1.out.call h1 h2); clear h1 h2 W1; rw [HX.out]
 obtain ⟨x0, x1, x2⟩ := W2.out.held.three
 go_wp2_with fail
 refine (r7Prev_c t q s (k : Int) _).mono ?_; rintro e w3 ⟨rfl, hb⟩; have W3 := hidp (W2.out.keep hb); clear hb W2
 obtain ⟨x0, x1, x2⟩ := W3.out.held.three
 have hy32 : y < 2 ^ 32 := by rw [<- HY.out]; exact rAt_lt W3.out.at_ _
 go_wp2_with fail
 refine (rGetA hn _ W3.out.at_).mono ?_; rintro e w4 ⟨rfl, h1, h2⟩; have W4 := hidp (W3.out.call h1 h2); clear h1 h2 W3; rw [HY.out]
 obtain ⟨x0, x1, x2⟩ := W4.out.held.three
 rw [<- H0.out] at W4
 clear HX HY H0
 by_cases hyz : y = 0
 ·have HM := hidp (HA.out hyz)
  subst hyz
  go_wp2_with fail
  refine (rPutA hn hd x hx32 W4.out.at_).mono ?_; rintro e w5 ⟨rfl, h1, h2⟩; have W5 := hidp (W4.out.call h1 h2); clear h1 h2 W4
  obtain ⟨x0, x1, x2⟩ := W5.out.held.three
  rw [<- HM.out] at W5
  clear HA HB HM
  by_cases hxz : x = 0
  ·have HN := hidp (HC.out hxz)
   subst hxz
   clear HC HD
   go_wp2_with fail
   refine (r7Next_c t q s (k : Int) _).mono ?_; rintro e w6 ⟨rfl, hb⟩; have W6 := hidp (W5.out.keep hb); clear hb W5
   obtain ⟨x0, x1, x2⟩ := W6.out.held.three
   go_wp2_with fail
   refine (rPutA hn _ 0 (by omega) W6.out.at_).mono ?_; rintro e w7 ⟨rfl, h1, h2⟩; have W7 := hidp (W6.out.call h1 h2); clear h1 h2 W6
   obtain ⟨x0, x1, x2⟩ := W7.out.held.three
   go_wp2_with fail
   refine (r7Prev_c t q s (k : Int) _).mono ?_; rintro e w8 ⟨rfl, hb⟩; have W8 := hidp (W7.out.keep hb); clear hb W7
   obtain ⟨x0, x1, x2⟩ := W8.out.held.three
   go_wp2_with fail
   refine (rPutA hn _ 0 (by omega) W8.out.at_).mono ?_; rintro e w9 ⟨rfl, h1, h2⟩; have W9 := hidp (W8.out.call h1 h2); clear h1 h2 W8
   obtain ⟨x0, x1, x2⟩ := W9.out.held.three
   go_wp2
   go_end0
   exact ⟨rfl, by rw [HE.out, HN.out]; exact W9.out.fin⟩
  ·have HN := hidp (HD.out hxz)
   have t3 : ((x : Int) == 0) = false := by simp; omega
   have t4 : ((x : Int) != 0) = true := by simp; omega
   clear HC HD
   go_wp2_with fail
   refine (r7Prev_c t q s ((x : Int) - 1) _).mono ?_; rintro e w6 ⟨rfl, hb⟩; have W6 := hidp (W5.out.keep hb); clear hb W5
   obtain ⟨x0, x1, x2⟩ := W6.out.held.three
   go_wp2_with fail
   refine (rPutA hn _ 0 (by omega) W6.out.at_).mono ?_; rintro e w7 ⟨rfl, h1, h2⟩; have W7 := hidp (W6.out.call h1 h2); clear h1 h2 W6
   obtain ⟨x0, x1, x2⟩ := W7.out.held.three
   go_wp2_with fail
   refine (r7Next_c t q s (k : Int) _).mono ?_; rintro e w8 ⟨rfl, hb⟩; have W8 := hidp (W7.out.keep hb); clear hb W7
   obtain ⟨x0, x1, x2⟩ := W8.out.held.three
   go_wp2_with fail
   refine (rPutA hn _ 0 (by omega) W8.out.at_).mono ?_; rintro e w9 ⟨rfl, h1, h2⟩; have W9 := hidp (W8.out.call h1 h2); clear h1 h2 W8
   obtain ⟨x0, x1, x2⟩ := W9.out.held.three
   go_wp2_with fail
   refine (r7Prev_c t q s (k : Int) _).mono ?_; rintro e w10 ⟨rfl, hb⟩; have W10 := hidp (W9.out.keep hb); clear hb W9
   obtain ⟨x0, x1, x2⟩ := W10.out.held.three
   go_wp2_with fail
   refine (rPutA hn _ 0 (by omega) W10.out.at_).mono ?_; rintro e w11 ⟨rfl, h1, h2⟩; have W11 := hidp (W10.out.call h1 h2); clear h1 h2 W10
   obtain ⟨x0, x1, x2⟩ := W11.out.held.three
   go_wp2
   go_end0
   exact ⟨rfl, by rw [HE.out, HN.out]; exact W11.out.fin⟩
 ·have HM := hidp (HB.out hyz)
  have t1 : ((y : Int) == 0) = false := by simp; omega
  have t2 : ((y : Int) != 0) = true := by simp; omega
  go_wp2_with fail
  refine (r7Next_c t q s ((y : Int) - 1) _).mono ?_; rintro e w5 ⟨rfl, hb⟩; have W5 := hidp (W4.out.keep hb); clear hb W4
  obtain ⟨x0, x1, x2⟩ := W5.out.held.three
  go_wp2_with fail
  refine (rPutA hn _ x hx32 W5.out.at_).mono ?_; rintro e w6 ⟨rfl, h1, h2⟩; have W6 := hidp (W5.out.call h1 h2); clear h1 h2 W5
  obtain ⟨x0, x1, x2⟩ := W6.out.held.three
  rw [<- HM.out] at W6
  clear HA HB HM
  by_cases hxz : x = 0
  ·have HN := hidp (HC.out hxz)
   subst hxz
   clear HC HD
   go_wp2_with fail
   refine (r7Next_c t q s (k : Int) _).mono ?_; rintro e w7 ⟨rfl, hb⟩; have W7 := hidp (W6.out.keep hb); clear hb W6
   obtain ⟨x0, x1, x2⟩ := W7.out.held.three
   go_wp2_with fail
   refine (rPutA hn _ 0 (by omega) W7.out.at_).mono ?_; rintro e w8 ⟨rfl, h1, h2⟩; have W8 := hidp (W7.out.call h1 h2); clear h1 h2 W7
   obtain ⟨x0, x1, x2⟩ := W8.out.held.three
   go_wp2_with fail
   refine (r7Prev_c t q s (k : Int) _).mono ?_; rintro e w9 ⟨rfl, hb⟩; have W9 := hidp (W8.out.keep hb); clear hb W8
   obtain ⟨x0, x1, x2⟩ := W9.out.held.three
   go_wp2_with fail
   refine (rPutA hn _ 0 (by omega) W9.out.at_).mono ?_; rintro e w10 ⟨rfl, h1, h2⟩; have W10 := hidp (W9.out.call h1 h2); clear h1 h2 W9
   obtain ⟨x0, x1, x2⟩ := W10.out.held.three
   go_wp2
   go_end0
   exact ⟨rfl, by rw [HE.out, HN.out]; exact W10.out.fin⟩
  ·have HN := hidp (HD.out hxz)
   have t3 : ((x : Int) == 0) = false := by simp; omega
   have t4 : ((x : Int) != 0) = true := by simp; omega
   clear HC HD
   go_wp2_with fail
   refine (r7Prev_c t q s ((x : Int) - 1) _).mono ?_; rintro e w7 ⟨rfl, hb⟩; have W7 := hidp (W6.out.keep hb); clear hb W6
   obtain ⟨x0, x1, x2⟩ := W7.out.held.three
   go_wp2_with fail
   refine (rPutA hn _ y hy32 W7.out.at_).mono ?_; rintro e w8 ⟨rfl, h1, h2⟩; have W8 := hidp (W7.out.call h1 h2); clear h1 h2 W7
   obtain ⟨x0, x1, x2⟩ := W8.out.held.three
   go_wp2_with fail
   refine (r7Next_c t q s (k : Int) _).mono ?_; rintro e w9 ⟨rfl, hb⟩; have W9 := hidp (W8.out.keep hb); clear hb W8
   obtain ⟨x0, x1, x2⟩ := W9.out.held.three
   go_wp2_with fail
   refine (rPutA hn _ 0 (by omega) W9.out.at_).mono ?_; rintro e w10 ⟨rfl, h1, h2⟩; have W10 := hidp (W9.out.call h1 h2); clear h1 h2 W9
   obtain ⟨x0, x1, x2⟩ := W10.out.held.three
   go_wp2_with fail
   refine (r7Prev_c t q s (k : Int) _).mono ?_; rintro e w11 ⟨rfl, hb⟩; have W11 := hidp (W10.out.keep hb); clear hb W10
   obtain ⟨x0, x1, x2⟩ := W11.out.held.three
   go_wp2_with fail
   refine (rPutA hn _ 0 (by omega) W11.out.at_).mono ?_; rintro e w12 ⟨rfl, h1, h2⟩; have W12 := hidp (W11.out.call h1 h2); clear h1 h2 W11
   obtain ⟨x0, x1, x2⟩ := W12.out.held.three
   go_wp2
   go_end0
   exact ⟨rfl, by rw [HE.out, HN.out]; exact W12.out.fin⟩
theorem rkPull_c (hn : n < 2 ^ 40) (hq : q <= 2 ^ 31) (p : Int) (h : (rOb base b n all K).At w0 A G st w) :
  Calls Tryz.prog 45 #[.pointer (some ⟨b, 0, none⟩), .agg #[.int .i64 t, .int .i64 q, .int .i64 s], .int .i64 hd, .int .i64 p] w fun e w' => e = .returned (.tuple #[]) /\ (rOb base b n all K).At w0 A G (pullI n K t q s hd p st) w' /\ Stay G w w' := by
 cases hp : pgB q p with
 | false => rw [(pgB_none hp).2]; exact rkPull_no p hp h
 | true =>
  have h1 := (pgB_iff _ _).1 hp
  obtain ⟨k, rfl⟩ := Int.eq_ofNat_of_zero_le h1.1
  rw [(pgB_nat hp).2]
  exact rkPull_yes hn k hp (by omega) h

end
end
section
theorem ofI_log {n : Int} (h : n <= 1024) : HM.logI n = ofI n := by
 unfold ofI
 by_cases h1 : n < 1
 ·rw [if_pos (.inl h1), HM.logI_no n h1]
 ·rw [if_neg (by omega)]
theorem ofI_high {n : Int} (h : 1024 < n) : ofI n = -1 := by unfold ofI; rw [if_pos (.inr h)]
theorem ofI_low {n : Int} (h : n < 1) : ofI n = -1 := by unfold ofI; rw [if_pos (.inl h)]

theorem addS_no {n : Nat} {K : Nat -> Option Nat} {t q s p nn : Int} {st : Vst} (h : ¬ (pgB q p = true /\ 1 <= nn /\ nn <= q - p)) : addS n K t q s p nn st = st := by unfold addS; rw [if_neg h]
theorem addS_yes {n : Nat} {K : Nat -> Option Nat} {t q s : Int} {k m : Nat} {st : Vst} (h : pgB q (k : Int) = true /\ 1 <= (m : Int) /\ (m : Int) <= q - (k : Int)) :
  addS n K t q s (k : Int) (m : Int) st = pushI n K t q s (binH (m : Int)) (k : Int) (putS n (putS n st (pageI t q s (k : Int) 0) (infoV 1 (m : Int) 0)) (pageI t q s ((k : Int) + (m : Int) - 1) 1) (k + 1)) := by
 unfold addS
 rw [if_pos h, Int.toNat_natCast]
theorem infoG_len {v : Nat} {l c : Int} {ok : Bool} (h : infoG v = (1, l, c, ok)) : 0 <= l /\ l <= 1024 := by
 cases hb : infoB (v % 16 : Nat) (v / 16 % 4096 : Nat) (v / 65536 : Nat)
 ·rw [infoG_no hb] at h
  injection h with h _
  omega
 ·rw [infoG_yes hb] at h
  have h1 := infoB_iff hb
  injection h with h2 h
  injection h with h3 _
  unfold infoP at h1
  omega

theorem bnOf_c (n : Int) (h0 : -9223372036854775808 <= n) (h1 : n <= 9223372036854775807) (w : World) :
  Calls Tryz.prog 150 #[.int .i64 n] w fun e w' => e = .returned (.int .i64 (ofI n)) /\ w = w' := by
 by_cases h : 1024 < n
 ·have t0 : decide ((1024 : Int) < n) = true := decide_eq_true h
  have HO := hidp (ofI_high h)
  go_enter Tryz.func150, Tryz.ntmps150
  go_wp2
  go_ret
  exact ⟨by rw [HO.out]; rfl, rfl⟩
 ·have t0 : decide ((1024 : Int) < n) = false := decide_eq_false h
  have HO : Hid (HM.logI n = ofI n) := hidp (ofI_log (by omega))
  go_enter Tryz.func150, Tryz.ntmps150
  go_wp2_with fail
  refine (Log_c n h0 h1 _).mono ?_
  rintro e w1 ⟨rfl, rfl⟩
  rw [HO.out]
  go_wp2
  go_ret
  exact ⟨rfl, rfl⟩
theorem r14Of_c (n : Int) (h0 : -9223372036854775808 <= n) (h1 : n <= 9223372036854775807) (w : World) :
  Calls Tryz.prog 133 #[.int .i64 n] w fun e w' => e = .returned (.int .i64 (ofI n)) /\ w = w' := by
 by_cases hl : n < 1
 ·have t0 : decide (n < (1 : Int)) = true := decide_eq_true hl
  have HO := hidp (ofI_low hl)
  go_enter Tryz.func133, Tryz.ntmps133
  go_wp2
  go_ret
  exact ⟨by rw [HO.out]; rfl, rfl⟩
 ·have t0 : decide (n < (1 : Int)) = false := decide_eq_false hl
  by_cases h : 1024 < n
  ·have t1 : decide ((1024 : Int) < n) = true := decide_eq_true h
   have HO := hidp (ofI_high h)
   go_enter Tryz.func133, Tryz.ntmps133
   go_wp2
   go_ret
   exact ⟨by rw [HO.out]; rfl, rfl⟩
  ·have t1 : decide ((1024 : Int) < n) = false := decide_eq_false h
   have HO : Hid (HM.logI n = ofI n) := hidp (ofI_log (by omega))
   go_enter Tryz.func133, Tryz.ntmps133
   go_wp2_with fail
   refine (RLog_c n h0 h1 _).mono ?_
   rintro e w1 ⟨rfl, rfl⟩
   rw [HO.out]
   go_wp2
   go_ret
   exact ⟨rfl, rfl⟩

theorem bnIsPage_c (t q s p : Int) (w : World) :
  Calls Tryz.prog 147 #[.agg #[.int .i64 t, .int .i64 q, .int .i64 s], .int .i64 p] w fun e w' => e = .returned (.bool (pgB q p)) /\ Below w.heap.size w w' := by
 have hB := Bnew (B0 w) (.cells #[.int .i64 t, .int .i64 q, .int .i64 s] 23)
 obtain ⟨x0, x1, x2⟩ := (Held.new w 23 #[.int .i64 t, .int .i64 q, .int .i64 s]).three
 unfold pgB
 by_cases h0 : 0 <= p
 ·have t0 : decide ((0 : Int) <= p) = true := decide_eq_true h0
  obtain ⟨c, t1⟩ : ∃ c, decide (p < q) = c := ⟨_, rfl⟩
  rw [t0, t1]
  cases c with
  | true =>
   go_enter Tryz.func147, Tryz.ntmps147
   go_wp2
   go_ret
   exact ⟨rfl, hB⟩
  | false =>
   go_enter Tryz.func147, Tryz.ntmps147
   go_wp2
   go_ret
   exact ⟨rfl, hB⟩
 ·have t0 : decide ((0 : Int) <= p) = false := decide_eq_false h0
  rw [t0]
  go_enter Tryz.func147, Tryz.ntmps147
  go_wp2
  go_ret
  exact ⟨rfl, hB⟩

theorem r9Value_c (k l c : Int) (w : World) :
  Calls Tryz.prog 134 #[.int .i64 k, .int .i64 l, .int .i64 c] w fun e w' => e = .returned (.int .u32 ((infoV k l c : Nat) : Int)) /\ Below w.heap.size w w' := by
 go_enter Tryz.func134, Tryz.ntmps134
 go_wp2_with fail
 refine (r9Put_c k l c _).mono ?_
 rintro e w1 ⟨rfl, hb⟩
 go_wp2
 go_ret
 exact ⟨rfl, hb⟩

section
variable {base b n : Nat} {wh all : Bool} {K : Nat -> Option Nat} {st : Vst} {w w0 : World} {A G : Nat -> Prop} {t q s : Int}
set_option maxHeartbeats 1600000 in
theorem bnBegins_c (hn : n < 2 ^ 40) (p k l c : Int) (ok : Bool) (hI : infoOf n K t q s p st = (k, l, c, ok)) (h : (vOb base b n wh K).At w0 A G st w) :
  Calls Tryz.prog 148 #[.pointer (some ⟨b, 0, none⟩), .agg #[.int .i64 t, .int .i64 q, .int .i64 s], .int .i64 p] w fun e w' => e = .returned (.agg #[.int .i64 k, .int .i64 l, .int .i64 c]) /\ (vOb base b n wh K).At w0 A G (getS n K st (pageI t q s p 0)) w' /\ Stay G w w' := by
 have W0 := hidp (((WL.start h).new 23 #[.int .i64 t, .int .i64 q, .int .i64 s]).new 68 #[.int .i64 0, .int .i64 0, .int .i64 0])
 rw [World.size_alloc] at W0
 obtain ⟨x0, x1, x2⟩ := W0.out.h1.three
 obtain ⟨v, hv⟩ : ∃ v, getV n K st (pageI t q s p 0) = v := ⟨_, rfl⟩
 have hv32 : v < 2 ^ 32 := by rw [<- hv]; exact vAt_lt h _
 have HI : Hid (infoG v = (k, l, c, ok)) := hidp (by rw [<- hv]; exact hI)
 have HV := hidp hv
 clear h hI hv
 go_enter Tryz.func148, Tryz.ntmps148
 go_wp2_with fail
 refine (plInfo_c t q s p _).mono ?_; rintro e w1 ⟨rfl, hb⟩; have W1 := hidp (W0.out.keep hb); clear hb W0
 go_wp2_with fail
 refine (vGetA hn _ W1.out.at_).mono ?_; rintro e w2 ⟨rfl, h1, h2⟩; have W2 := hidp (W1.out.call h1 h2); clear h1 h2 W1; rw [HV.out]
 go_wp2_with fail
 refine (inGet_c v k l c ok hv32 HI.out _).mono ?_; rintro e w3 ⟨rfl, hb⟩; have W3 := hidp (W2.out.keep hb); clear hb W2
 have W4 := hidp (((((W3.out.alloc (.cells #[.int .i64 k, .int .i64 l, .int .i64 c] 68)).put 0 (.int .i64 k)).put 1 (.int .i64 l)).put 2 (.int .i64 c)))
 obtain ⟨y0, y1, y2⟩ := (Held.new w3 68 #[.int .i64 k, .int .i64 l, .int .i64 c]).three
 have hfz := (W3.out.alloc (.cells #[.int .i64 k, .int .i64 l, .int .i64 c] 68)).h0.thawed
 obtain ⟨z0, z1, z2⟩ := (W3.out.alloc (.cells #[.int .i64 k, .int .i64 l, .int .i64 c] 68)).h0.three
 obtain ⟨r0, r1, r2⟩ := W4.out.h0.three
 go_wp2
 refine bodyPost_ret (v := .agg #[.int .i64 k, .int .i64 l, .int .i64 c]) (by simp [results, Tryz.results148, go_sem, r0, r1, r2]) rfl ⟨rfl, ?_⟩
 exact W4.out.fin
set_option maxHeartbeats 1600000 in
theorem r14Info_c (hn : n < 2 ^ 40) (p k l c : Int) (ok : Bool) (hI : infoOf n K t q s p st = (k, l, c, ok)) (h : (rOb base b n all K).At w0 A G st w) :
  Calls Tryz.prog 39 #[.pointer (some ⟨b, 0, none⟩), .agg #[.int .i64 t, .int .i64 q, .int .i64 s], .int .i64 p] w fun e w' => e = .returned (.agg #[.int .i64 k, .int .i64 l, .int .i64 c]) /\ (rOb base b n all K).At w0 A G (getS n K st (pageI t q s p 0)) w' /\ Stay G w w' := by
 have W0 := hidp (((WL.start h).new 23 #[.int .i64 t, .int .i64 q, .int .i64 s]).new 68 #[.int .i64 0, .int .i64 0, .int .i64 0])
 rw [World.size_alloc] at W0
 obtain ⟨x0, x1, x2⟩ := W0.out.h1.three
 obtain ⟨v, hv⟩ : ∃ v, getV n K st (pageI t q s p 0) = v := ⟨_, rfl⟩
 have hv32 : v < 2 ^ 32 := by rw [<- hv]; exact rAt_lt h _
 have HI : Hid (infoG v = (k, l, c, ok)) := hidp (by rw [<- hv]; exact hI)
 have HV := hidp hv
 clear h hI hv
 go_enter Tryz.func39, Tryz.ntmps39
 go_wp2_with fail
 refine (r7Info_c t q s p _).mono ?_; rintro e w1 ⟨rfl, hb⟩; have W1 := hidp (W0.out.keep hb); clear hb W0
 go_wp2_with fail
 refine (rGetA hn _ W1.out.at_).mono ?_; rintro e w2 ⟨rfl, h1, h2⟩; have W2 := hidp (W1.out.call h1 h2); clear h1 h2 W1; rw [HV.out]
 go_wp2_with fail
 refine (r9Get_c v k l c ok hv32 HI.out _).mono ?_; rintro e w3 ⟨rfl, hb⟩; have W3 := hidp (W2.out.keep hb); clear hb W2
 have W4 := hidp (((((W3.out.alloc (.cells #[.int .i64 k, .int .i64 l, .int .i64 c] 68)).put 0 (.int .i64 k)).put 1 (.int .i64 l)).put 2 (.int .i64 c)))
 obtain ⟨y0, y1, y2⟩ := (Held.new w3 68 #[.int .i64 k, .int .i64 l, .int .i64 c]).three
 have hfz := (W3.out.alloc (.cells #[.int .i64 k, .int .i64 l, .int .i64 c] 68)).h0.thawed
 obtain ⟨z0, z1, z2⟩ := (W3.out.alloc (.cells #[.int .i64 k, .int .i64 l, .int .i64 c] 68)).h0.three
 obtain ⟨r0, r1, r2⟩ := W4.out.h0.three
 go_wp2
 refine bodyPost_ret (v := .agg #[.int .i64 k, .int .i64 l, .int .i64 c]) (by simp [results, Tryz.results39, go_sem, r0, r1, r2]) rfl ⟨rfl, ?_⟩
 exact W4.out.fin
end
end
end Go.Proofs.YtnmhdlpnimdffaaGreatDoor
