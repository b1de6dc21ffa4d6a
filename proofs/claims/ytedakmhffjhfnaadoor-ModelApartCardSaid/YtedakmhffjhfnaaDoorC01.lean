/-
  Words for memory that a call writes to: which blocks may turn (Turns), a row of cells told as a function (RowF), a map that is cleared. No program is named here.
-/
import Derived.Test.YtedakmhffjhfnaaDoorCKit
import Derived.Deep.DeepFit
import Derived.Maps.OwnSet
import Derived.Maps.RangeWalk
import Derived.Below
import Derived.WalkKit
import Derived.ProofKit
import Derived.BigQuiet
import Derived.Outline
import Derived.Deep.QuietTactic
import Derived.Deep.RegionHeld3
import Derived.IntWalk
import Derived.KernelRfl
import Derived.RegionTactic
import Derived.ChangeAlike
import Derived.RangeFuncNested
import Derived.RangeFuncBound
import Derived.RangeFuncLeaves
import Derived.Shelf.Abstract
import Derived.Shelf.RegionOpen
import Derived.OwnWalkIn
import Derived.TacticsInMore
import Derived.LoopNIn
import Derived.LoopIn
import Derived.Laws.BitsAllLaws
import Derived.Deep.AppendLies
import Derived.Laws.CopyOwn
import Derived.Laws.MakeOwn
import Derived.Deep.RegionLaw
import Derived.Deep.RegionWith
import Derived.Deep.CutRange
import Derived.Lib.SliceRun
import Derived.Deep.Slices
import Derived.Lib.SmallJoins
namespace Go.Proofs.YtedakmhffjhfnaaDoor
open Go.ChangeShapes Go.WideShapes Go.ChangeAt Go.RowKit Go.Maps
set_option linter.unusedVariables false
section
structure Turns (F : Nat -> Prop) (w w' : World) : Prop where
 os : w'.os = w.os
 tape : w'.tape = w.tape
 output : w'.output = w.output
 size : w.heap.size <= w'.heap.size
 block : ∀ i, i < w.heap.size -> ¬ F i -> w'.heap[i]? = w.heap[i]?

section
variable {F G : Nat -> Prop} {w w' w'' : World}
theorem T0 (F : Nat -> Prop) (w : World) : Turns F w w := ⟨rfl, rfl, rfl, Nat.le_refl _, fun _ _ _ => rfl⟩
theorem Turns.trans (h : Turns F w w') (k : Turns F w' w'') : Turns F w w'' :=
 ⟨k.os.trans h.os, k.tape.trans h.tape, k.output.trans h.output, Nat.le_trans h.size k.size, fun i hi hf => (k.block i (Nat.lt_of_lt_of_le hi h.size) hf).trans (h.block i hi hf)⟩
theorem Turns.of_below (h : Below w.heap.size w w') (F : Nat -> Prop) : Turns F w w' := ⟨h.os, h.tape, h.output, h.size, fun i hi _ => h.block i hi⟩
theorem Turns.of_grown {b : Nat} (h : w.grownBy w' (some b)) (hb : F b) : Turns F w w' := ⟨h.os, h.tape, h.output, h.size, fun i hi hf => h.block i hi (fun e => by injection e with e; subst e; exact hf hb)⟩
theorem Turns.alloc (h : Turns F w w') (o : Obj) : Turns F w (w'.alloc o) := h.trans (Turns.of_below (Bnew (B0 _) o) F)
theorem Turns.put (h : Turns F w w') {p : Addr} (hp : F p.block) (u : Value) : Turns F w (w'.setCell p u) :=
 ⟨h.os, h.tape, h.output, by simp; exact h.size, fun i hi hf => (Below.heap_setCell w' p u i (fun e => by subst e; exact hf hp)).trans (h.block i hi hf)⟩
theorem Turns.below {W : World} (h : Turns F w w') (hb : Below W.heap.size W w) (hf : ∀ i, F i -> W.heap.size <= i) : Below W.heap.size W w' :=
 ⟨h.os.trans hb.os, h.tape.trans hb.tape, h.output.trans hb.output, Nat.le_trans hb.size h.size, fun i hi => (h.block i (Nat.lt_of_lt_of_le hi hb.size) (fun x => by have := hf i x; omega)).trans (hb.block i hi)⟩
theorem Turns.held {g : Nat} {t : TypeId} {cs : Array Value} (h : Turns F w w') (hg : Held w g t cs) (hf : ¬ F g) : Held w' g t cs := (h.block g hg.lt hf).trans hg
end

def updF {α : Type} (f : Nat -> α) (i : Nat) (u : α) : Nat -> α := fun j => if j = i then u else f j
def RowF (w : World) (g : Nat) (t : TypeId) (n c : Nat) (f : Nat -> Value) : Prop :=
 ∃ cs : Array Value, Held w g t cs /\ cs.size = c /\ n <= c /\ c <= maxLen /\ ∀ i, i < n -> cs[i]? = some (f i)


section
variable {H : Type} {P : Program} {k : TypeId} {R : Value -> Option (DataW H × List MemPlace)} {w : World} {b n : Nat} {D : DataW H}
theorem owns_turns {F : Nat -> Prop} {w' : World} (h : w.ownsMap P k R b n D) (hb : Turns F w w') (hf : ¬ F b) : w'.ownsMap P k R b n D := by
 have hlt := h.lt
 obtain ⟨es, clock, h1, r⟩ := h
 exact ⟨es, clock, (hb.block b hlt hf).trans h1, r⟩
end
end
section
structure OwnAll (w : World) (base b k : Nat) (e : Nat -> TypeId) (sz : Nat -> Nat) (v : Nat -> Value) (n : Nat -> Nat) (xs : Nat -> List Value) : Prop where
 own : ∀ i, i < k -> w.ownsRow base (e i) (sz i) (v i) (n i) (xs i)
 apart : ∀ i j g, i < k -> j < k -> (v i).ownBlock = some g -> (v j).ownBlock = some g -> i = j
 notb : ∀ i, i < k -> (v i).ownBlock ≠ some b
section
variable {w w' : World} {base b k : Nat} {e : Nat -> TypeId} {sz : Nat -> Nat} {v : Nat -> Value} {n : Nat -> Nat} {xs : Nat -> List Value}
theorem own_kept {e : TypeId} {size n : Nat} {v : Value} {xs : List Value} (h : w.ownsRow base e size v n xs) (hb : ∀ g, v.ownBlock = some g -> w'.heap[g]? = w.heap[g]?) : w'.ownsRow base e size v n xs := by
 refine ⟨h.1, ?_⟩
 rcases h.2 with h2 | ⟨g, cap, cur, rfl, hbg, hg, hr⟩
 ·exact .inl h2
 ·exact .inr ⟨g, cap, cur, rfl, hbg, (hb g rfl).trans hg, hr⟩
end
end
end Go.Proofs.YtedakmhffjhfnaaDoor

namespace Go.Proofs.YtedakmhffjhfnaaDoor
open Go.ChangeShapes Go.WideShapes Go.ChangeAt Go.RowKit
set_option linter.unusedVariables false
section
def outB (v l m : Int) : Bool := decide (v < l \/ m < v)
theorem outB_lt {v l m : Int} (h : v < l) : outB v l m = true := by unfold outB; simp [h]
theorem outB_gt {v l m : Int} (h : m < v) : outB v l m = true := by unfold outB; simp [h]
theorem outB_no {v l m : Int} (h : l <= v) (h' : v <= m) : outB v l m = false := by unfold outB; exact decide_eq_false (by omega)
def rightB (t p s : Int) : Bool := !(outB t 1 16) && (!(outB p 4 1024) && !(outB s 10 20))
theorem rightB_iff (t p s : Int) : rightB t p s = true ↔ (1 <= t /\ t <= 16) /\ (4 <= p /\ p <= 1024) /\ 10 <= s /\ s <= 20 := by
 unfold rightB outB
 simp only [Bool.and_eq_true, Bool.not_eq_true', decide_eq_false_iff_not]
 omega

theorem cfWrong_c (a v l m : Int) (w : World) :
  Calls Tryd.prog 79 #[.agg #[.int .i64 a, .int .i64 v, .int .i64 l, .int .i64 m]] w fun e w' => e = .returned (.bool (outB v l m)) /\ Below w.heap.size w w' := by
 by_cases h0 : v < l
 ·have H := hidp (outB_lt (m := m) h0)
  go_enter Tryd.func79, Tryd.ntmps79
  go_wp2
  go_ret
  exact ⟨by rw [H.out]; rfl, Bnew (B0 _) _⟩
 ·by_cases h1 : m < v
  ·have H := hidp (outB_gt (l := l) h1)
   go_enter Tryd.func79, Tryd.ntmps79
   go_wp2
   go_ret
   exact ⟨by rw [H.out]; rfl, Bnew (B0 _) _⟩
  ·have H := hidp (outB_no (v := v) (l := l) (m := m) (by omega) (by omega))
   go_enter Tryd.func79, Tryd.ntmps79
   go_wp2
   go_ret
   exact ⟨by rw [H.out]; rfl, Bnew (B0 _) _⟩

def numV (t p s : Int) : Array Value := #[.int .i64 0, .int .i64 t, .int .i64 1, .int .i64 16, .int .i64 16, .int .i64 p, .int .i64 4, .int .i64 1024, .int .i64 32, .int .i64 s, .int .i64 10, .int .i64 20]
theorem cfNumbers_c (t p s : Int) (w : World) :
  Calls Tryd.prog 78 #[.agg #[.int .i64 t, .int .i64 p, .int .i64 s]] w fun e w' => e = .returned (.agg #[.int .i64 0, .int .i64 t, .int .i64 1, .int .i64 16, .int .i64 16, .int .i64 p, .int .i64 4, .int .i64 1024, .int .i64 32, .int .i64 s, .int .i64 10, .int .i64 20]) /\ Below w.heap.size w w' := by
 go_enter Tryd.func78, Tryd.ntmps78
 go_wp2
 exact bodyPost_ret (v := .agg #[.int .i64 0, .int .i64 t, .int .i64 1, .int .i64 16, .int .i64 16, .int .i64 p, .int .i64 4, .int .i64 1024, .int .i64 32, .int .i64 s, .int .i64 10, .int .i64 20]) (by simp [results, Tryd.results78, go_sem]) rfl ⟨rfl, Bnew (Bnew (B0 _) _) _⟩

theorem num_cells {t p s : Int} {g : Nat} {T : TypeId} {w : World} (h : Held w g T (numV t p s)) : w.cell? ⟨g, 0, none⟩ = some (.int .i64 0) /\ w.cell? ⟨g, 1, none⟩ = some (.int .i64 t) /\ w.cell? ⟨g, 2, none⟩ = some (.int .i64 1) /\ w.cell? ⟨g, 3, none⟩ = some (.int .i64 16) /\ w.cell? ⟨g, 4, none⟩ = some (.int .i64 16) /\ w.cell? ⟨g, 5, none⟩ = some (.int .i64 p) /\ w.cell? ⟨g, 6, none⟩ = some (.int .i64 4) /\ w.cell? ⟨g, 7, none⟩ = some (.int .i64 1024) /\ w.cell? ⟨g, 8, none⟩ = some (.int .i64 32) /\ w.cell? ⟨g, 9, none⟩ = some (.int .i64 s) /\ w.cell? ⟨g, 10, none⟩ = some (.int .i64 10) /\ w.cell? ⟨g, 11, none⟩ = some (.int .i64 20) :=
 ⟨h.cell 0, h.cell 1, h.cell 2, h.cell 3, h.cell 4, h.cell 5, h.cell 6, h.cell 7, h.cell 8, h.cell 9, h.cell 10, h.cell 11⟩
def idxI (t p s : Int) : Int := if outB t 1 16 then 0 else if outB p 4 1024 then 1 else if outB s 10 20 then 2 else -1
set_option maxHeartbeats 1600000 in
theorem cfIndex_c (t p s : Int) (g : Nat) (w : World) (hc : Held w g 105 (numV t p s)) :
  Calls Tryd.prog 89 #[.slice (some ⟨g, 0, none⟩) 3 3, .func (.func 79) #[] #[]] w fun e w' => e = .returned (.int .i64 (idxI t p s)) /\ Below w.heap.size w w' := by
 obtain ⟨c0, c1, c2, c3, c4, c5, c6, c7, c8, c9, c10, c11⟩ := num_cells hc
 cases h0 : outB t 1 16
 ·cases h1 : outB p 4 1024
  ·cases h2 : outB s 10 20
   ·have HX0 := hidp h0
    have HX1 := hidp h1
    have HX2 := hidp h2
    have HI : Hid (idxI t p s = -1) := hidp (by unfold idxI; simp [h0, h1, h2])
    clear h0 h1 h2
    go_enter Tryd.func89, Tryd.ntmps89
    go_wp2
    refine wp_loop_rounds 4 ?_
    rw [rounds_succ]
    go_wp2_with fail
    refine (cfWrong_c 0 t 1 16 _).mono ?_
    rintro e w1 ⟨rfl, hb0⟩
    rw [HX0.out]
    have hc1 := hc.keep hb0
    clear c0 c1 c2 c3 c4 c5 c6 c7 c8 c9 c10 c11
    obtain ⟨d0, d1, d2, d3, d4, d5, d6, d7, d8, d9, d10, d11⟩ := num_cells hc1
    go_wp2_with fail
    rw [rounds_succ]
    go_wp2_with fail
    refine (cfWrong_c 16 p 4 1024 _).mono ?_
    rintro e w2 ⟨rfl, hb1⟩
    rw [HX1.out]
    have hc2 := hc1.keep hb1
    clear d0 d1 d2 d3 d4 d5 d6 d7 d8 d9 d10 d11
    obtain ⟨d0, d1, d2, d3, d4, d5, d6, d7, d8, d9, d10, d11⟩ := num_cells hc2
    go_wp2_with fail
    rw [rounds_succ]
    go_wp2_with fail
    refine (cfWrong_c 32 s 10 20 _).mono ?_
    rintro e w3 ⟨rfl, hb2⟩
    rw [HX2.out]
    have hc3 := hc2.keep hb2
    clear d0 d1 d2 d3 d4 d5 d6 d7 d8 d9 d10 d11
    obtain ⟨d0, d1, d2, d3, d4, d5, d6, d7, d8, d9, d10, d11⟩ := num_cells hc3
    go_wp2_with fail
    rw [rounds_succ]
    go_wp2
    go_ret
    exact ⟨by rw [HI.out]; rfl, Bgo (Bgo (Bgo (B0 _) hb0) hb1) hb2⟩
   ·have HX0 := hidp h0
    have HX1 := hidp h1
    have HX2 := hidp h2
    have HI : Hid (idxI t p s = 2) := hidp (by unfold idxI; simp [h0, h1, h2])
    clear h0 h1 h2
    go_enter Tryd.func89, Tryd.ntmps89
    go_wp2
    refine wp_loop_rounds 3 ?_
    rw [rounds_succ]
    go_wp2_with fail
    refine (cfWrong_c 0 t 1 16 _).mono ?_
    rintro e w1 ⟨rfl, hb0⟩
    rw [HX0.out]
    have hc1 := hc.keep hb0
    clear c0 c1 c2 c3 c4 c5 c6 c7 c8 c9 c10 c11
    obtain ⟨d0, d1, d2, d3, d4, d5, d6, d7, d8, d9, d10, d11⟩ := num_cells hc1
    go_wp2_with fail
    rw [rounds_succ]
    go_wp2_with fail
    refine (cfWrong_c 16 p 4 1024 _).mono ?_
    rintro e w2 ⟨rfl, hb1⟩
    rw [HX1.out]
    have hc2 := hc1.keep hb1
    clear d0 d1 d2 d3 d4 d5 d6 d7 d8 d9 d10 d11
    obtain ⟨d0, d1, d2, d3, d4, d5, d6, d7, d8, d9, d10, d11⟩ := num_cells hc2
    go_wp2_with fail
    rw [rounds_succ]
    go_wp2_with fail
    refine (cfWrong_c 32 s 10 20 _).mono ?_
    rintro e w3 ⟨rfl, hb2⟩
    rw [HX2.out]
    have hc3 := hc2.keep hb2
    clear d0 d1 d2 d3 d4 d5 d6 d7 d8 d9 d10 d11
    obtain ⟨d0, d1, d2, d3, d4, d5, d6, d7, d8, d9, d10, d11⟩ := num_cells hc3
    go_wp2
    go_ret
    exact ⟨by rw [HI.out]; rfl, Bgo (Bgo (Bgo (B0 _) hb0) hb1) hb2⟩
  ·have HX0 := hidp h0
   have HX1 := hidp h1
   have HI : Hid (idxI t p s = 1) := hidp (by unfold idxI; simp [h0, h1])
   clear h0 h1
   go_enter Tryd.func89, Tryd.ntmps89
   go_wp2
   refine wp_loop_rounds 2 ?_
   rw [rounds_succ]
   go_wp2_with fail
   refine (cfWrong_c 0 t 1 16 _).mono ?_
   rintro e w1 ⟨rfl, hb0⟩
   rw [HX0.out]
   have hc1 := hc.keep hb0
   clear c0 c1 c2 c3 c4 c5 c6 c7 c8 c9 c10 c11
   obtain ⟨d0, d1, d2, d3, d4, d5, d6, d7, d8, d9, d10, d11⟩ := num_cells hc1
   go_wp2_with fail
   rw [rounds_succ]
   go_wp2_with fail
   refine (cfWrong_c 16 p 4 1024 _).mono ?_
   rintro e w2 ⟨rfl, hb1⟩
   rw [HX1.out]
   have hc2 := hc1.keep hb1
   clear d0 d1 d2 d3 d4 d5 d6 d7 d8 d9 d10 d11
   obtain ⟨d0, d1, d2, d3, d4, d5, d6, d7, d8, d9, d10, d11⟩ := num_cells hc2
   go_wp2
   go_ret
   exact ⟨by rw [HI.out]; rfl, Bgo (Bgo (B0 _) hb0) hb1⟩
 ·have HX0 := hidp h0
  have HI : Hid (idxI t p s = 0) := hidp (by unfold idxI; simp [h0])
  clear h0
  go_enter Tryd.func89, Tryd.ntmps89
  go_wp2
  refine wp_loop_rounds 1 ?_
  rw [rounds_succ]
  go_wp2_with fail
  refine (cfWrong_c 0 t 1 16 _).mono ?_
  rintro e w1 ⟨rfl, hb0⟩
  rw [HX0.out]
  have hc1 := hc.keep hb0
  clear c0 c1 c2 c3 c4 c5 c6 c7 c8 c9 c10 c11
  obtain ⟨d0, d1, d2, d3, d4, d5, d6, d7, d8, d9, d10, d11⟩ := num_cells hc1
  go_wp2
  go_ret
  exact ⟨by rw [HI.out]; rfl, Bgo (B0 _) hb0⟩

theorem idx_right {t p s : Int} (h : rightB t p s = true) : idxI t p s = -1 := by
 unfold rightB at h
 unfold idxI
 cases h0 : outB t 1 16 <;> cases h1 : outB p 4 1024 <;> cases h2 : outB s 10 20 <;> simp_all
theorem idx_wrong {t p s : Int} (h : rightB t p s = false) : ∃ k : Int, idxI t p s = k /\ 0 <= k /\ k <= 2 := by
 unfold rightB at h
 unfold idxI
 cases h0 : outB t 1 16 <;> cases h1 : outB p 4 1024 <;> cases h2 : outB s 10 20 <;> simp_all

theorem cfContains_c (t p s : Int) (g : Nat) (w : World) (hc : Held w g 105 (numV t p s)) :
  Calls Tryd.prog 80 #[.slice (some ⟨g, 0, none⟩) 3 3, .func (.func 79) #[] #[]] w fun e w' => e = .returned (.bool (!rightB t p s)) /\ Below w.heap.size w w' := by
 cases hr : rightB t p s
 ·obtain ⟨k, hk, h0, h2⟩ := idx_wrong hr
  have HK := hidp hk
  clear hk
  go_enter Tryd.func80, Tryd.ntmps80
  go_wp2_with fail
  refine (cfIndex_c t p s g _ hc).mono ?_
  rintro e w1 ⟨rfl, hb⟩
  rw [HK.out]
  go_wp2
  go_ret
  exact ⟨by first | rfl | trivial, hb⟩
 ·have HK := hidp (idx_right hr)
  go_enter Tryd.func80, Tryd.ntmps80
  go_wp2_with fail
  refine (cfIndex_c t p s g _ hc).mono ?_
  rintro e w1 ⟨rfl, hb⟩
  rw [HK.out]
  go_wp2
  go_ret
  exact ⟨by first | rfl | trivial, hb⟩

def checkI (t p s : Int) : Int := if rightB t p s then 0 else 1
theorem check_yes {t p s : Int} (h : rightB t p s = true) : checkI t p s = 0 := by unfold checkI; rw [h]; rfl
theorem check_no {t p s : Int} (h : rightB t p s = false) : checkI t p s = 1 := by unfold checkI; rw [h]; rfl
theorem cfCheck_c (t p s : Int) (w : World) :
  Calls Tryd.prog 50 #[.agg #[.int .i64 t, .int .i64 p, .int .i64 s]] w fun e w' => e = .returned (.int .i64 (checkI t p s)) /\ Below w.heap.size w w' := by
 cases hr : rightB t p s
 ·have HK := hidp (check_no hr)
  have HR := hidp hr
  clear hr
  go_enter Tryd.func50, Tryd.ntmps50
  go_wp2_with fail
  refine (cfNumbers_c t p s _).mono ?_
  rintro e w1 ⟨rfl, hb1⟩
  go_wp2_with fail
  refine (cfContains_c t p s _ _ (Held.new w1 _ _)).mono ?_
  rintro e w2 ⟨rfl, hb2⟩
  rw [HR.out]
  go_wp2
  go_ret
  exact ⟨by rw [HK.out]; rfl, Bgo (Bnew (Bgo (Bnew (B0 _) _) hb1) _) hb2⟩
 ·have HK := hidp (check_yes hr)
  have HR := hidp hr
  clear hr
  go_enter Tryd.func50, Tryd.ntmps50
  go_wp2_with fail
  refine (cfNumbers_c t p s _).mono ?_
  rintro e w1 ⟨rfl, hb1⟩
  go_wp2_with fail
  refine (cfContains_c t p s _ _ (Held.new w1 _ _)).mono ?_
  rintro e w2 ⟨rfl, hb2⟩
  rw [HR.out]
  go_wp2
  go_ret
  exact ⟨by rw [HK.out]; rfl, Bgo (Bnew (Bgo (Bnew (B0 _) _) hb1) _) hb2⟩
end
section
theorem rightB_mk {t p s : Int} (h : (1 <= t /\ t <= 16) /\ (4 <= p /\ p <= 1024) /\ 10 <= s /\ s <= 20) : rightB t p s = true := (rightB_iff t p s).2 h
theorem rightB_not {t p s : Int} (h : ¬ ((1 <= t /\ t <= 16) /\ (4 <= p /\ p <= 1024) /\ 10 <= s /\ s <= 20)) : rightB t p s = false := by
 cases hr : rightB t p s
 ·rfl
 ·exact absurd ((rightB_iff t p s).1 hr) h

def pageN (t p s : Int) : Nat := if rightB t p s then 2 ^ s.toNat else 0
def bytesN (t p s : Int) : Nat := if rightB t p s then p.toNat * 2 ^ s.toNat else 0
theorem page_yes {t p s : Int} (h : rightB t p s = true) : pageN t p s = 2 ^ s.toNat := by unfold pageN; rw [if_pos h]
theorem page_no {t p s : Int} (h : rightB t p s = false) : pageN t p s = 0 := by unfold pageN; rw [h]; rfl
theorem bytes_yes {t p s : Int} (h : rightB t p s = true) : bytesN t p s = p.toNat * 2 ^ s.toNat := by unfold bytesN; rw [if_pos h]
theorem bytes_no {t p s : Int} (h : rightB t p s = false) : bytesN t p s = 0 := by unfold bytesN; rw [h]; rfl
theorem pow_bounds (k : Nat) (h : k <= 20) : 1 <= 2 ^ k /\ 2 ^ k <= 1048576 := ⟨Nat.one_le_two_pow, by have := Nat.pow_le_pow_right (show 0 < 2 by omega) h; omega⟩
end
end Go.Proofs.YtedakmhffjhfnaaDoor

namespace Go.Proofs.YtedakmhffjhfnaaDoor
set_option linter.unusedVariables false
section
def slotN (k : Nat) : Nat := ([32, 21, 16, 10, 8, 5, 4, 3, 2] : List Nat).getD k 0
def slotI (k : Int) : Nat := if 0 <= k then slotN k.toNat else 0
theorem slotI_nat (k : Nat) : slotI (k : Int) = slotN k := by unfold slotI; simp
theorem slotN_out {k : Nat} (h : 9 <= k) : slotN k = 0 := by unfold slotN; simp [List.getD, List.getElem?_eq_none (show ([32, 21, 16, 10, 8, 5, 4, 3, 2] : List Nat).length <= k by simpa using h)]
theorem slotI_out {k : Int} (h : k < 0 \/ 9 <= k) : slotI k = 0 := by
 unfold slotI
 split
 ·exact slotN_out (by omega)
 ·rfl
theorem slotN_in {k : Nat} (h : k < 9) : 2 <= slotN k /\ slotN k <= 32 := by
 have : ∀ j, j < 9 -> 2 <= slotN j /\ slotN j <= 32 := by decide
 exact this k h
theorem slotI_le (k : Int) : slotI k <= 32 := by
 by_cases h : 0 <= k /\ k < 9
 ·have := slotN_in (k := k.toNat) (by omega)
  unfold slotI; rw [if_pos h.1]; omega
 ·rw [slotI_out (by omega)]; omega
def pageS (s : Int) : Nat := pageN 1 4 s
theorem pageS_no {s : Int} (h : s < 10 \/ 20 < s) : pageS s = 0 := page_no (rightB_not (by omega))
theorem pageS_yes {s : Int} (h : 10 <= s /\ s <= 20) : pageS s = 2 ^ s.toNat := page_yes (rightB_mk (by omega))
theorem pageS_le (s : Int) : pageS s <= 1048576 := by
 by_cases h : 10 <= s /\ s <= 20
 ·rw [pageS_yes h]
  exact (pow_bounds _ (by omega)).2
 ·rw [pageS_no (by omega)]; omega
def sizeN (s k : Int) : Nat := pageS s / slotI k - pageS s / slotI k % 16
def classOf (s z : Int) : Option Nat := if z < 1 then none else (List.range 9).find? fun k => decide (z <= (sizeN s (k : Int) : Int))
def classK (s z : Int) : Int := match classOf s z with | some k => (k : Int) | none => 0
def classB (s z : Int) : Bool := (classOf s z).isSome
theorem class_yes {s z : Int} {k : Nat} (hz : 1 <= z) (hk : k < 9) (h : z <= (sizeN s (k : Int) : Int)) (hb : ∀ j, j < k -> (sizeN s (j : Int) : Int) < z) : classOf s z = some k := by
 unfold classOf
 rw [if_neg (by omega), List.find?_range_eq_some]
 refine ⟨by simpa using h, by simpa using hk, fun j hj => ?_⟩
 have := hb j hj
 simp
 omega
theorem class_small {s z : Int} (hz : z < 1) : classOf s z = none := by unfold classOf; rw [if_pos hz]
theorem class_none {s z : Int} (h : ∀ j : Nat, j < 9 -> (sizeN s (j : Int) : Int) < z) : classOf s z = none := by
 unfold classOf
 split
 ·rfl
 ·rw [List.find?_range_eq_none]
  intro j hj
  have := h j hj
  simp
  omega
theorem class_some {s z : Int} {k : Nat} (h : classOf s z = some k) : 1 <= z /\ k < 9 /\ z <= (sizeN s (k : Int) : Int) /\ ∀ j, j < k -> (sizeN s (j : Int) : Int) < z := by
 unfold classOf at h
 split at h
 ·cases h
 ·rw [List.find?_range_eq_some] at h
  obtain ⟨h1, h2, h3⟩ := h
  refine ⟨by omega, by simpa using h2, by simpa using h1, fun j hj => ?_⟩
  have := h3 j hj
  simp at this
  omega
theorem classK_yes {s z : Int} {k : Nat} (h : classOf s z = some k) : classK s z = (k : Int) /\ classB s z = true := by unfold classK classB; rw [h]; exact ⟨rfl, rfl⟩
theorem classK_no {s z : Int} (h : classOf s z = none) : classK s z = 0 /\ classB s z = false := by unfold classK classB; rw [h]; exact ⟨rfl, rfl⟩
end
section
theorem i64_same {x : Int} (h : -9223372036854775808 <= x) (h' : x <= 9223372036854775807) : IntKind.i64.wrap x = x := by
 simp only [IntKind.wrap, IntKind.bits, IntKind.signed]; simp; omega

theorem right_nums {t p s : Int} (h : rightB t p s = true) : ∃ g q : Nat, pageN t p s = g /\ p = q /\ bytesN t p s = q * g /\ 4 <= q /\ q <= 1024 /\ 1024 <= g /\ g <= 1048576 /\ g = 2 ^ s.toNat /\ 10 <= s /\ s <= 20 /\ q * g <= 1073741824 := by
 obtain ⟨_, ⟨hp, hp'⟩, hs, hs'⟩ := (rightB_iff t p s).1 h
 refine ⟨2 ^ s.toNat, p.toNat, page_yes h, by omega, bytes_yes h, by omega, by omega, ?_, ?_, rfl, hs, hs', ?_⟩
 ·have := Nat.pow_le_pow_right (show 0 < 2 by omega) (show 10 <= s.toNat by omega)
  omega
 ·exact (pow_bounds _ (by omega)).2
 ·have h1 := (pow_bounds s.toNat (by omega)).2
  have h2 : p.toNat * 2 ^ s.toNat <= 1024 * 1048576 := Nat.mul_le_mul (by omega) h1
  omega
theorem wrong_nums {t p s : Int} (h : rightB t p s = false) : pageN t p s = 0 /\ bytesN t p s = 0 := ⟨page_no h, bytes_no h⟩

def needB (t p s n : Int) : Bool := decide (1 <= n /\ n <= (bytesN t p s : Int))
def needI (t p s n : Int) : Int := if needB t p s n then (n + pageN t p s - 1) / (pageN t p s : Int) else 0
theorem need_no {t p s n : Int} (h : needB t p s n = false) : needI t p s n = 0 := by unfold needI; rw [h]; rfl
theorem need_right {t p s n : Int} (h : needB t p s n = true) : rightB t p s = true := by
 cases hr : rightB t p s
 ·obtain ⟨h1, h2⟩ := wrong_nums hr
  unfold needB at h
  rw [h2] at h
  simp at h
  omega
 ·rfl
theorem need_few {t p s n : Int} (h : needB t p s n = true) : ∃ (g m : Nat), pageN t p s = g /\ needI t p s n = m /\ 1 <= m /\ m <= 1024 /\ n <= (m : Int) * (g : Int) /\ ((m : Int) - 1) * (g : Int) < n /\ 1024 <= g /\ g <= 1048576 /\ g = 2 ^ s.toNat /\ 10 <= s /\ s <= 20 /\ n <= 1073741824 := by
 have hr := need_right h
 have hI : needI t p s n = (n + pageN t p s - 1) / (pageN t p s : Int) := by unfold needI; rw [if_pos h]
 unfold needB at h
 rw [decide_eq_true_iff] at h
 obtain ⟨g, q, hg, rfl, hb, q1, q2, g1, g2, gs, s1, s2, qg⟩ := right_nums hr
 rw [hb] at h
 rw [hg] at hI
 have hqg : ((q * g : Nat) : Int) = (q : Int) * (g : Int) := by push_cast; rfl
 obtain ⟨m, hm⟩ : ∃ m : Int, m = (n + g - 1) / (g : Int) := ⟨_, rfl⟩
 have l1 : 1 <= m := by rw [hm]; exact (Int.le_ediv_iff_mul_le (by omega)).2 (by omega)
 have e1 : (n + g - 1) - (n + g - 1) % (g : Int) = m * g := by
  have := Int.mul_ediv_add_emod (n + g - 1) g
  rw [hm, Int.mul_comm]
  omega
 have m0 := Int.emod_nonneg (n + g - 1) (show (g : Int) ≠ 0 by omega)
 have m1 := Int.emod_lt_of_pos (n + g - 1) (show (0 : Int) < g by omega)
 have l2 : m < (q : Int) + 1 := by
  rw [hm]
  refine (Int.ediv_lt_iff_lt_mul (by omega)).2 ?_
  rw [Int.add_mul]
  omega
 refine ⟨g, m.toNat, hg, by omega, by omega, by omega, ?_, ?_, g1, g2, gs, s1, s2, by omega⟩
 ·rw [Int.toNat_of_nonneg (by omega)]; omega
 ·rw [Int.toNat_of_nonneg (by omega), Int.sub_mul]; omega
end
end Go.Proofs.YtedakmhffjhfnaaDoor

namespace Go.Proofs.YtedakmhffjhfnaaDoor
open Go.ChangeShapes Go.WideShapes Go.ChangeAt Go.RowKit
set_option linter.unusedVariables false
section
theorem shl_one : ∀ k : Nat, k <= 20 -> IntKind.i64.wrap (2 ^ k) = ((2 ^ k : Nat) : Int) := by
 intro k hk
 have := pow_bounds k hk
 have e : ((2 : Int) ^ k) = ((2 ^ k : Nat) : Int) := by norm_cast
 rw [e]
 generalize 2 ^ k = g at *
 simp only [IntKind.wrap, IntKind.bits, IntKind.signed]
 simp
 omega
theorem shl_num (p : Int) (k : Nat) (hp : 4 <= p) (hp' : p <= 1024) (hk : k <= 20) : IntKind.i64.wrap (p * 2 ^ k) = ((p.toNat * 2 ^ k : Nat) : Int) := by
 have hb := pow_bounds k hk
 obtain ⟨q, rfl⟩ : ∃ q : Nat, p = q := ⟨p.toNat, by omega⟩
 have e : ((q : Int) * (2 : Int) ^ k) = ((q * 2 ^ k : Nat) : Int) := by norm_cast
 rw [e, Int.toNat_natCast]
 generalize 2 ^ k = g at *
 have h1 : q * g <= 1024 * 1048576 := Nat.mul_le_mul (by omega) hb.2
 simp only [IntKind.wrap, IntKind.bits, IntKind.signed]
 simp
 omega
theorem cfPage1_c (t p s : Int) (g : Nat) (w : World) (hc : Held w g 23 #[.int .i64 t, .int .i64 p, .int .i64 s]) (hs : 10 <= s) (hs' : s <= 20) :
  Calls Tryd.prog 74 #[.pointer (some ⟨g, 0, none⟩)] w fun e w' => e = .returned (.int .i64 ((2 ^ s.toNat : Nat) : Int)) /\ w = w' := by
 obtain ⟨c0, c1, c2⟩ := hc.three
 have HS := hidp (shl_one s.toNat (by omega))
 go_enter Tryd.func74, Tryd.ntmps74
 go_wp2
 go_ret
 exact ⟨ret_int ((IntWalk.i64_left _).symm.trans HS.out), rfl⟩
theorem cfBytes1_c (t p s : Int) (g : Nat) (w : World) (hc : Held w g 23 #[.int .i64 t, .int .i64 p, .int .i64 s]) (hp : 4 <= p) (hp' : p <= 1024) (hs : 10 <= s) (hs' : s <= 20) :
  Calls Tryd.prog 88 #[.pointer (some ⟨g, 0, none⟩)] w fun e w' => e = .returned (.int .i64 ((p.toNat * 2 ^ s.toNat : Nat) : Int)) /\ w = w' := by
 obtain ⟨c0, c1, c2⟩ := hc.three
 have HS := hidp (shl_num p s.toNat hp hp' (by omega))
 go_enter Tryd.func88, Tryd.ntmps88
 go_wp2
 go_ret
 exact ⟨ret_int ((IntWalk.i64_left _).symm.trans HS.out), rfl⟩

theorem cfOfPage_c (t p s : Int) (g : Nat) (w : World) (hc : Held w g 23 #[.int .i64 t, .int .i64 p, .int .i64 s]) :
  Calls Tryd.prog 73 #[.agg #[.int .i64 t, .int .i64 p, .int .i64 s], .func (.func 74) #[] #[.pointer (some ⟨g, 0, none⟩)]] w fun e w' => e = .returned (.int .i64 ((pageN t p s : Nat) : Int)) /\ Below w.heap.size w w' := by
 cases hr : rightB t p s
 ·have HP := hidp (page_no hr)
  have HK := hidp (check_no hr)
  clear hr
  go_enter Tryd.func73, Tryd.ntmps73
  go_wp2_with fail
  refine (cfCheck_c t p s _).mono ?_
  rintro e w1 ⟨rfl, hb1⟩
  rw [HK.out]
  go_wp2
  go_ret
  exact ⟨by rw [HP.out]; rfl, Bgo (Bnew (B0 _) _) hb1⟩
 ·have HP := hidp (page_yes hr)
  have HK := hidp (check_yes hr)
  obtain ⟨_, ⟨h4, h1024⟩, h10, h20⟩ := (rightB_iff t p s).1 hr
  clear hr
  go_enter Tryd.func73, Tryd.ntmps73
  go_wp2_with fail
  refine (cfCheck_c t p s _).mono ?_
  rintro e w1 ⟨rfl, hb1⟩
  rw [HK.out]
  have hc1 := (hc.alloc (.cells #[.int .i64 t, .int .i64 p, .int .i64 s] 23)).keep hb1
  go_wp2_with fail
  refine (cfPage1_c t p s g _ hc1 h10 h20).mono ?_
  rintro e w2 ⟨rfl, rfl⟩
  rw [<- HP.out]
  go_wp2
  go_ret
  exact ⟨rfl, Bgo (Bnew (B0 _) _) hb1⟩
theorem cfPage_c (t p s : Int) (w : World) :
  Calls Tryd.prog 36 #[.agg #[.int .i64 t, .int .i64 p, .int .i64 s]] w fun e w' => e = .returned (.int .i64 ((pageN t p s : Nat) : Int)) /\ Below w.heap.size w w' := by
 go_enter Tryd.func36, Tryd.ntmps36
 go_wp2_with fail
 refine (cfOfPage_c t p s _ _ (Held.new w _ _)).mono ?_
 rintro e w1 ⟨rfl, hb1⟩
 go_wp2
 go_ret
 exact ⟨rfl, Bgo (Bnew (B0 _) _) hb1⟩

theorem cfOfBytes_c (t p s : Int) (g : Nat) (w : World) (hc : Held w g 23 #[.int .i64 t, .int .i64 p, .int .i64 s]) :
  Calls Tryd.prog 73 #[.agg #[.int .i64 t, .int .i64 p, .int .i64 s], .func (.func 88) #[] #[.pointer (some ⟨g, 0, none⟩)]] w fun e w' => e = .returned (.int .i64 ((bytesN t p s : Nat) : Int)) /\ Below w.heap.size w w' := by
 cases hr : rightB t p s
 ·have HP := hidp (bytes_no hr)
  have HK := hidp (check_no hr)
  clear hr
  go_enter Tryd.func73, Tryd.ntmps73
  go_wp2_with fail
  refine (cfCheck_c t p s _).mono ?_
  rintro e w1 ⟨rfl, hb1⟩
  rw [HK.out]
  go_wp2
  go_ret
  exact ⟨by rw [HP.out]; rfl, Bgo (Bnew (B0 _) _) hb1⟩
 ·have HP := hidp (bytes_yes hr)
  have HK := hidp (check_yes hr)
  obtain ⟨_, ⟨h4, h1024⟩, h10, h20⟩ := (rightB_iff t p s).1 hr
  clear hr
  go_enter Tryd.func73, Tryd.ntmps73
  go_wp2_with fail
  refine (cfCheck_c t p s _).mono ?_
  rintro e w1 ⟨rfl, hb1⟩
  rw [HK.out]
  have hc1 := (hc.alloc (.cells #[.int .i64 t, .int .i64 p, .int .i64 s] 23)).keep hb1
  go_wp2_with fail
  refine (cfBytes1_c t p s g _ hc1 h4 h1024 h10 h20).mono ?_
  rintro e w2 ⟨rfl, rfl⟩
  rw [<- HP.out]
  go_wp2
  go_ret
  exact ⟨rfl, Bgo (Bnew (B0 _) _) hb1⟩
theorem cfBytes_c (t p s : Int) (w : World) :
  Calls Tryd.prog 70 #[.agg #[.int .i64 t, .int .i64 p, .int .i64 s]] w fun e w' => e = .returned (.int .i64 ((bytesN t p s : Nat) : Int)) /\ Below w.heap.size w w' := by
 go_enter Tryd.func70, Tryd.ntmps70
 go_wp2_with fail
 refine (cfOfBytes_c t p s _ _ (Held.new w _ _)).mono ?_
 rintro e w1 ⟨rfl, hb1⟩
 go_wp2
 go_ret
 exact ⟨rfl, Bgo (Bnew (B0 _) _) hb1⟩
end
end Go.Proofs.YtedakmhffjhfnaaDoor

namespace Go.Proofs.YtedakmhffjhfnaaDoor
open Go.ChangeShapes Go.WideShapes Go.ChangeAt Go.RowKit
set_option linter.unusedVariables false
set_option linter.unusedSimpArgs false
section
def SlotsLaid (w : World) : Prop := ∀ k : Nat, k < 9 -> w.cell? ⟨0, k, none⟩ = some (.int .i64 ((slotN k : Nat) : Int))
theorem SlotsLaid.below {w w' : World} (h : SlotsLaid w) (hb : Below w.heap.size w w') : SlotsLaid w' := fun k hk => cells_stay hb _ _ (h k hk)
theorem SlotsLaid.alloc {w : World} (h : SlotsLaid w) (o : Obj) : SlotsLaid (w.alloc o) := h.below (Bnew (B0 _) _)
theorem clSlots_c (k : Int) (h0 : -9223372036854775808 <= k) (h1 : k <= 9223372036854775807) (w : World) (hT : SlotsLaid w) :
  Calls Tryd.prog 71 #[.int .i64 k] w fun e w' => e = .returned (.int .i64 ((slotI k : Nat) : Int)) /\ w = w' := by
 by_cases a : k < 0
 ·have E := hidp (slotI_out (.inl a))
  go_enter Tryd.func71, Tryd.ntmps71
  go_wp2
  go_ret
  exact ⟨by rw [E.out]; rfl, rfl⟩
 by_cases b : 9 <= k
 ·have E := hidp (slotI_out (.inr b))
  go_enter Tryd.func71, Tryd.ntmps71
  go_wp2
  go_ret
  exact ⟨by rw [E.out]; rfl, rfl⟩
 ·obtain ⟨k, rfl⟩ : ∃ n : Nat, k = n := ⟨k.toNat, by omega⟩
  have E := hidp (slotI_nat k)
  have hk : k < 9 := by omega
  have hc := hT k hk
  have HT := hidp hT
  clear hT
  go_enter Tryd.func71, Tryd.ntmps71
  go_wp2
  go_ret
  exact ⟨by rw [E.out]; rfl, rfl⟩

theorem clpage_c (s : Int) (w : World) :
  Calls Tryd.prog 72 #[.int .i64 s] w fun e w' => e = .returned (.int .i64 ((pageS s : Nat) : Int)) /\ Below w.heap.size w w' := by
 go_enter Tryd.func72, Tryd.ntmps72
 go_wp2_with fail
 refine (cfPage_c 1 4 s _).mono ?_
 rintro e w1 ⟨rfl, hb1⟩
 go_wp2
 go_ret
 exact ⟨rfl, Bgo (B0 _) hb1⟩

theorem clSize_c (s k : Int) (h0 : -9223372036854775808 <= k) (h1 : k <= 9223372036854775807) (w : World) (hT : SlotsLaid w) :
  Calls Tryd.prog 35 #[.int .i64 s, .int .i64 k] w fun e w' => e = .returned (.int .i64 ((sizeN s k : Nat) : Int)) /\ Below w.heap.size w w' := by
 obtain ⟨n, hn⟩ : ∃ n, slotI k = n := ⟨_, rfl⟩
 obtain ⟨p, hp⟩ : ∃ p, pageS s = p := ⟨_, rfl⟩
 have hn1 : n <= 32 := hn ▸ slotI_le k
 have hp1 : p <= 1048576 := hp ▸ pageS_le s
 have E : sizeN s k = p / n - p / n % 16 := by unfold sizeN; rw [hn, hp]
 have HN := hidp hn
 have HP := hidp hp
 have HE := hidp E
 clear hn hp E
 by_cases hz : n = 0
 ·subst hz
  go_enter Tryd.func35, Tryd.ntmps35
  go_wp2_with fail
  refine (clSlots_c k h0 h1 _ hT).mono ?_
  rintro e w1 ⟨rfl, rfl⟩
  rw [HN.out]
  go_wp2
  go_ret
  exact ⟨by rw [HE.out]; simp, B0 _⟩
 ·have hq : ((p : Int).tdiv n) = ((p / n : Nat) : Int) := by rw [Int.tdiv_eq_ediv_of_nonneg (by omega)]; norm_cast
  have hq1 : p / n <= 1048576 := Nat.le_trans (Nat.div_le_self _ _) hp1
  obtain ⟨q, hqq⟩ : ∃ q, p / n = q := ⟨_, rfl⟩
  rw [hqq] at hq hq1
  have HQ := hidp hqq
  clear hqq
  go_enter Tryd.func35, Tryd.ntmps35
  go_wp2_with fail
  refine (clSlots_c k h0 h1 _ hT).mono ?_
  rintro e w1 ⟨rfl, rfl⟩
  rw [HN.out]
  go_wp2_with fail
  refine (clpage_c s _).mono ?_
  rintro e w2 ⟨rfl, hb2⟩
  rw [HP.out]
  go_wp2
  go_ret
  refine ⟨?_, hb2⟩
  rw [HE.out, HQ.out]
  refine ret_int ?_
  omega
end
section
theorem bytes_pos {t p s : Int} {b : Nat} (hb : bytesN t p s = b) (h : 0 < b) : ∃ g : Nat, pageN t p s = g /\ 1024 <= g /\ g <= 1048576 := by
 cases hr : rightB t p s
 ·have := bytes_no hr; omega
 ·obtain ⟨g, q, hg, _, _, _, _, g1, g2, _⟩ := right_nums hr
  exact ⟨g, hg, g1, g2⟩
theorem page_le (t p s : Int) : pageN t p s <= 1048576 := by
 cases hr : rightB t p s
 ·rw [page_no hr]; omega
 ·obtain ⟨g, q, hg, _, _, _, _, g1, g2, _⟩ := right_nums hr
  omega
theorem bytes_le (t p s : Int) : bytesN t p s <= 1073741824 := by
 cases hr : rightB t p s
 ·rw [bytes_no hr]; omega
 ·obtain ⟨g, q, _, _, hb, _, _, _, _, _, _, _, h⟩ := right_nums hr
  omega
end
section
set_option maxHeartbeats 1600000 in
theorem adPages_c (t p s n : Int) (h0 : -9223372036854775808 <= n) (h1 : n <= 9223372036854775807) (w : World) :
  Calls Tryd.prog 33 #[.agg #[.int .i64 t, .int .i64 p, .int .i64 s], .int .i64 n] w fun e w' => e = .returned (.tuple #[.int .i64 (needI t p s n), .bool (needB t p s n)]) /\ Below w.heap.size w w' := by
 have hc := Held.new w 23 #[.int .i64 t, .int .i64 p, .int .i64 s]
 obtain ⟨b, hb⟩ : ∃ b, bytesN t p s = b := ⟨_, rfl⟩
 have b2 := hb ▸ bytes_le t p s
 have hE : needB t p s n = decide (1 <= n /\ n <= (b : Int)) := by unfold needB; rw [hb]
 have HB := hidp hb
 by_cases c1 : n < 1
 ·have hN : needB t p s n = false := by rw [hE, decide_eq_false_iff_not]; omega
  have HN := hidp hN
  have HZ := hidp (need_no hN)
  clear hb hE hN
  go_enter Tryd.func33, Tryd.ntmps33
  go_wp2
  go_ret2
  refine ⟨by rw [HN.out, HZ.out]; rfl, ?_⟩
  all_goals exact blz
 ·by_cases c2 : n <= (b : Int)
  ·have hN : needB t p s n = true := by rw [hE, decide_eq_true_iff]; omega
   obtain ⟨g, hg, g1, g2⟩ := bytes_pos hb (by omega)
   have hI : needI t p s n = (n + g - 1) / (g : Int) := by unfold needI; rw [if_pos hN, hg]
   have q1 : (n + g - 1).tdiv (g : Int) = (n + g - 1) / (g : Int) := Int.tdiv_eq_ediv_of_nonneg (by omega)
   have d0 := Int.ediv_nonneg (a := n + g - 1) (b := (g : Int)) (by omega) (by omega)
   have d1 : (n + g - 1) / (g : Int) <= n + g - 1 := Int.ediv_le_self _ (by omega)
   obtain ⟨d, hd⟩ : ∃ d, (n + g - 1) / (g : Int) = d := ⟨_, rfl⟩
   rw [hd] at q1 d0 d1 hI
   have HN := hidp hN
   have HI := hidp hI
   have HG := hidp hg
   have g3 : ¬ g = 0 := by omega
   have g4 : ((g : Int) == 0) = false := by simp; omega
   clear hb hE hN hI hg hd
   go_enter Tryd.func33, Tryd.ntmps33
   go_wp2_with fail
   refine (cfBytes_c t p s _).mono ?_
   rintro e w1 ⟨rfl, hb1⟩
   rw [HB.out]
   have c3 := (hc.keep hb1).three
   go_wp2_with fail
   refine (cfPage_c t p s _).mono ?_
   rintro e w2 ⟨rfl, hb2⟩
   rw [HG.out]
   go_wp2
   go_ret2
   refine ⟨by rw [HN.out, HI.out]; rfl, ?_⟩
   all_goals exact blz
  ·have hN : needB t p s n = false := by rw [hE, decide_eq_false_iff_not]; omega
   have HN := hidp hN
   have HZ := hidp (need_no hN)
   clear hb hE hN
   go_enter Tryd.func33, Tryd.ntmps33
   go_wp2_with fail
   refine (cfBytes_c t p s _).mono ?_
   rintro e w1 ⟨rfl, hb1⟩
   rw [HB.out]
   go_wp2
   go_ret2
   refine ⟨by rw [HN.out, HZ.out]; rfl, ?_⟩
   all_goals exact blz
end
end Go.Proofs.YtedakmhffjhfnaaDoor

namespace Go.Proofs.YtedakmhffjhfnaaDoor
open Go.ChangeShapes Go.WideShapes Go.ChangeAt Go.RowKit Go.Maps
set_option linter.unusedVariables false
section
abbrev inR (l : Nat) : Fence := Fence.wide.inRound l


def mark (D : Nat) : Deferred := { target := .collected D, args := #[] }

def noPanic (Q : Exit -> Act -> World -> Prop) : Exit -> Act -> World -> Prop
 | .panic _, _, _ => False
 | .outgrown, _, _ => False
 | .normal, a, w => Q .normal a w
 | .ret, a, w => Q .ret a w
 | .exit id, a, w => Q (.exit id) a w
 | .goto t, a, w => Q (.goto t) a w
theorem calls_of_wp_mark {P : Program} {f : FuncId} {fn : Func} {c : Code} {args : Array Value} {w : World} {R : Ending -> World -> Prop} (hf : P.funcs[f]? = some fn) (hb : fn.body = some c)
  (h : c.wp P (noPanic (bodyPostM Fence.wide 0 P fn R)) { tmps := args ++ Array.replicate (fn.ntmps - args.size) undef, defers := [] } w) : Calls P f args w R :=
 callsIn_wide.1 (callsIn_of_wp_marks hf hb trivial (wpIn_wide.2 (wp_mono h (fun e a w hq => by cases e <;> first | exact hq | exact hq.elim))) rfl)
theorem mark_end {P : Program} {fn : Func} {R : Ending -> World -> Prop} {a : Act} {w : World} {D : Nat} (hd : a.defers = [mark D]) (hk : w.heap[D]? = some (.deferred (some [])))
  (h : bodyPost P fn R .ret { a with defers := [] } (w.putObj D (.deferred none))) : bodyPostM Fence.wide 0 P fn R .ret a w := by
 show LeavesInM Fence.wide 0 P fn a.tmps R a.defers .returning w
 rw [hd]
 refine ⟨by simp, .inl ⟨_, _, rfl, run_takeDeferred hk, ?_⟩⟩
 exact h.2
end
end Go.Proofs.YtedakmhffjhfnaaDoor

namespace Go.Proofs.YtedakmhffjhfnaaDoor
open Go.ChangeShapes Go.WideShapes Go.ChangeAt Go.RowKit Go.Shelf
set_option linter.unusedVariables false
set_option linter.unusedSimpArgs false
section
theorem bool_no {b : Bool} {p : Prop} (hb : b = true ↔ p) (h : ¬ p) : b = false := by cases b; rfl; exact absurd (hb.1 rfl) h
section
attribute [local go_sem] Oper.semAt_some
end
end
section
theorem own_down {w : World} {base base' : Nat} {e : TypeId} {size : Nat} {v : Value} {n : Nat} {xs : List Value} (h : w.ownsRow base e size v n xs) (hb : base' <= base) : w.ownsRow base' e size v n xs :=
 ⟨h.1, h.2.imp id fun ⟨g, cap, cur, h1, h2, h3⟩ => ⟨g, cap, cur, h1, Nat.le_trans hb h2, h3⟩⟩
section
attribute [local go_sem] Oper.semAt_some

end
end
section
def bkVs (l : List (Int × Int)) : List Value := l.flatMap fun x => [.int .i64 x.1, .int .i64 x.2]
theorem bkVs_len (l : List (Int × Int)) : (bkVs l).length = l.length * 2 := by unfold bkVs; induction l with
 | nil => rfl
 | cons x l ih => rw [List.flatMap_cons, List.length_append, ih]; simp; omega
theorem bkVs_snoc (l : List (Int × Int)) (x : Int × Int) : bkVs (l ++ [x]) = bkVs l ++ [.int .i64 x.1, .int .i64 x.2] := by unfold bkVs; rw [List.flatMap_append]; simp
theorem blockInfo : (Tryd.prog.info? 55).map (fun i => (i.zero, i.size, i.bytes)) = some (some (.agg #[.int .i64 0, .int .i64 0]), 2, 16) := by kernel_rfl
theorem own_caps3 {w : World} {base : Nat} {e : TypeId} {size n c : Nat} {A : Option Addr} {xs : List Value} (h : w.ownsRow base e size (.slice A n c) n xs) : n <= c /\ c <= maxLen := by
 rcases h.2 with ⟨h1, h2⟩ | ⟨g, cap, cur, h1, hb, hg, hnc, hcm, hr⟩
 ·injection h1 with _ h1 h3; omega
 ·injection h1 with _ _ h3; omega
end
section
theorem own_block0 {w : World} {base n g cap : Nat} {e : TypeId} {l : List (Int × Int)} (h : w.ownsRow base e 2 (.slice (some ⟨g, 0, none⟩) n cap) n (bkVs l)) (hn : l.length = n) {i : Nat} {x : Int × Int} (hx : l[i]? = some x) :
  w.cell? ⟨g, i * 2, none⟩ = some (.int .i64 x.1) /\ w.cell? ⟨g, i * 2 + 1, none⟩ = some (.int .i64 x.2) := by
 have hi : i < n := by
  rcases Nat.lt_or_ge i n with h1 | h1
  ·exact h1
  ·rw [List.getElem?_eq_none (by omega)] at hx; cases hx
 have hg : ∀ (l : List (Int × Int)) (i : Nat) (x : Int × Int), l[i]? = some x -> (bkVs l)[i * 2]? = some (.int .i64 x.1) /\ (bkVs l)[i * 2 + 1]? = some (.int .i64 x.2) := by
  intro l
  induction l with
  | nil => intro i x h; simp at h
  | cons y l ih =>
   intro i x h
   have e : bkVs (y :: l) = [.int .i64 y.1, .int .i64 y.2] ++ bkVs l := by simp [bkVs]
   rcases i with _ | i
   ·simp at h; subst h; simp [bkVs]
   ·have h' : l[i]? = some x := by simpa using h
    obtain ⟨h1, h2⟩ := ih i x h'
    have g : ∀ k, (bkVs (y :: l))[(i * 2 + k) + 2]? = (bkVs l)[i * 2 + k]? := fun k => by
     rw [e, List.getElem?_append_right (by simp)]
     simp
    exact ⟨by have := g 0; rw [Nat.add_zero] at this; rw [show (i + 1) * 2 = i * 2 + 2 by omega, this]; exact h1, by rw [show (i + 1) * 2 + 1 = (i * 2 + 1) + 2 by omega, g]; exact h2⟩
 obtain ⟨h1, h2⟩ := hg l i x hx
 exact ⟨(h.cellAt _ (by omega)).trans h1, (h.cellAt _ (by omega)).trans h2⟩
end
section
set_option maxHeartbeats 3200000 in
set_option maxRecDepth 100000 in
theorem xHas_c (l : List (Int × Int)) (A : Option Addr) (nl cl : Nat) (a : Int) (w : World) (base : Nat) (hO : w.ownsRow base 55 2 (.slice A nl cl) nl (bkVs l)) (hln : l.length = nl) (hcl : nl <= cl /\ cl <= 9223372036854775807) (hnl : nl <= 100000) (b : Bool) (hb : b = true ↔ ∃ x ∈ l, x.1 = a) :
  Calls Tryd.prog 20 #[.slice A nl cl, .int .i64 a] w fun e w' => e = .returned (.bool b) /\ w = w' := by
 have HO := hidp hO
 have HLN := hidp hln
 have HBC := hidp hb
 obtain ⟨hcl1, hcl2⟩ := hcl
 clear hO hln hb
 go_enter Tryd.func20, Tryd.ntmps20
 go_wp2_with fail
 go_loopw [5] (fun u5 wr => ∃ (k : Nat), k <= nl /\ u5 = .int .i64 (k : Int) /\ Hid (∀ x ∈ l.take k, x.1 ≠ a) /\ wr = w) (fun u5 _ => nl - (intOf u5).toNat)
 case atStart => exact ⟨0, by omega, rfl, hidp (by simp), rfl⟩
 case round =>
  obtain ⟨k, hk, rfl, HNO, rfl⟩ := hrel
  by_cases hlt : k < nl
  ·have t0 : decide ((k : Int) < nl) = true := decide_eq_true (by omega)
   have t0n : decide (k < nl) = true := decide_eq_true hlt
   obtain ⟨x, hx⟩ : ∃ x, l[k]? = some x := ⟨_, List.getElem?_eq_getElem (by have := HLN.out; omega)⟩
   obtain ⟨gv, cv', hvv, hbv, hlv⟩ := HO.out.form (by omega)
   injection hvv with hvv hn0 hcc
   subst hvv
   subst hcc
   obtain ⟨p0, p1⟩ := own_block0 HO.out HLN.out hx
   have HTK : Hid (l.take (k + 1) = l.take k ++ [x]) := hidp (by rw [List.take_add_one, hx]; rfl)
   have HMX : Hid (x ∈ l) := hidp (List.mem_of_getElem? hx)
   obtain ⟨xa, xz⟩ := x
   simp only at p0 p1
   clear hn0 hx
   by_cases hxa : xa = a
   ·have q0 : (xa == a) = true := by simpa using hxa
    have HBT : Hid (b = true) := hidp (HBC.out.2 ⟨_, HMX.out, hxa⟩)
    clear hxa
    go_wp2_with fail
    go_ret
    exact ⟨by rw [HBT.out]; rfl, rfl⟩
   ·have q0 : (xa == a) = false := by simpa using hxa
    have HN1 : Hid (∀ x ∈ l.take (k + 1), x.1 ≠ a) := hidp (fun y hy => by
     rw [HTK.out] at hy
     rcases List.mem_append.1 hy with hy | hy
     ·exact HNO.out y hy
     ·have : y = (xa, xz) := by simpa using hy
      subst this
      exact hxa)
    clear hxa
    go_wp2_with fail
    go_roundw
    case rel => exact ⟨k + 1, by omega, by go_num, HN1, (by first | rfl | trivial)⟩
    case measure => simp [intOf]; omega
  ·have t0 : decide ((k : Int) < nl) = false := decide_eq_false (by omega)
   have t0n : decide (k < nl) = false := decide_eq_false hlt
   have HBF : Hid (b = false) := hidp (bool_no HBC.out (fun ⟨x, hx, he⟩ => HNO.out x (by rw [List.take_of_length_le (by have := HLN.out; omega)]; exact hx) he))
   go_wp2_with fail
   go_ret
   exact ⟨by rw [HBF.out]; rfl, rfl⟩
end
end Go.Proofs.YtedakmhffjhfnaaDoor

namespace Go.Proofs.YtedakmhffjhfnaaDoor
open Go.ChangeShapes Go.WideShapes Go.ChangeAt Go.RowKit Go.Maps
set_option linter.unusedVariables false
set_option linter.unusedSimpArgs false
section
def addStep (b : Int × Int) (s : List (Int × Int) × Bool) (x : Int × Int) : List (Int × Int) × Bool :=
 if s.2 = false /\ b.1 < x.1 then (s.1 ++ [b] ++ [x], true) else (s.1 ++ [x], s.2)
def addTo (b : Int × Int) (L : List (Int × Int)) : List (Int × Int) × Bool := L.foldl (addStep b) ([], false)
def addB (L : List (Int × Int)) (b : Int × Int) : List (Int × Int) := if (addTo b L).2 = true then (addTo b L).1 else (addTo b L).1 ++ [b]
theorem addTo_len (b : Int × Int) : ∀ (L : List (Int × Int)) (s : List (Int × Int) × Bool), (L.foldl (addStep b) s).1.length <= s.1.length + L.length + (if s.2 = true then 0 else 1)
 | [], s => by simp
 | x :: L, s => by
  rw [List.foldl_cons]
  have h := addTo_len b L (addStep b s x)
  unfold addStep at h ⊢
  split at h
  ·rename_i hc
   rw [if_pos hc] at ⊢
   rw [hc.1]
   simp at h ⊢
   omega
  ·rename_i hc
   rw [if_neg hc] at ⊢
   simp at h ⊢
   omega
theorem addTo_low {b : Int × Int} : ∀ (X acc : List (Int × Int)), (∀ x ∈ X, x.1 <= b.1) -> X.foldl (addStep b) (acc, false) = (acc ++ X, false)
 | [], acc, _ => by simp
 | x :: X, acc, h => by
  rw [List.foldl_cons]
  have h1 := h x (List.mem_cons_self ..)
  unfold addStep
  rw [if_neg (by simp; omega)]
  have := addTo_low X (acc ++ [x]) (fun y hy => h y (List.mem_cons_of_mem _ hy))
  unfold addStep at this
  rw [this]
  simp
theorem addTo_over {b : Int × Int} : ∀ (Y acc : List (Int × Int)), Y.foldl (addStep b) (acc, true) = (acc ++ Y, true)
 | [], acc => by simp
 | y :: Y, acc => by
  rw [List.foldl_cons]
  unfold addStep
  rw [if_neg (by simp)]
  have := addTo_over (b := b) Y (acc ++ [y])
  unfold addStep at this
  rw [this]
  simp
theorem addB_mid {X Y : List (Int × Int)} {b : Int × Int} (hX : ∀ x ∈ X, x.1 < b.1) (hY : ∀ y ∈ Y, b.1 < y.1) : addB (X ++ Y) b = X ++ [b] ++ Y := by
 have e : addTo b (X ++ Y) = Y.foldl (addStep b) (X, false) := by
  unfold addTo
  rw [List.foldl_append, addTo_low X [] (fun x hx => by have := hX x hx; omega)]
  rfl
 unfold addB
 rw [e]
 cases Y with
 | nil => simp
 | cons y Y =>
  have h1 := hY y (List.mem_cons_self ..)
  rw [List.foldl_cons]
  have e2 : addStep b (X, false) y = (X ++ [b] ++ [y], true) := by
   unfold addStep
   rw [if_pos ⟨rfl, h1⟩]
  rw [e2, addTo_over]
  simp
end
end Go.Proofs.YtedakmhffjhfnaaDoor

namespace Go.Proofs.YtedakmhffjhfnaaDoor
open Go.ChangeShapes Go.WideShapes Go.ChangeAt Go.RowKit
set_option linter.unusedVariables false
set_option linter.unusedSimpArgs false
section
def usesI (k : Int) : Int := if k = 8 then 0 else if k = 1 \/ k = 2 \/ k = 6 \/ k = 7 \/ k = 9 then 1 else if k = 3 \/ k = 4 \/ k = 5 then 2 else -1
def opB (k a b : Int) : Bool := decide (0 <= usesI k /\ (1 <= usesI k \/ a = 0) /\ (2 <= usesI k \/ b = 0))
theorem uses_cases (k : Int) : (k = 8 /\ usesI k = 0) \/ ((k = 1 \/ k = 2 \/ k = 6 \/ k = 7 \/ k = 9) /\ usesI k = 1) \/ ((k = 3 \/ k = 4 \/ k = 5) /\ usesI k = 2) \/ ((k < 1 \/ 9 < k) /\ usesI k = -1) := by
 unfold usesI
 by_cases h1 : k = 8
 ·exact .inl ⟨h1, if_pos h1⟩
 ·rw [if_neg h1]
  by_cases h2 : k = 1 \/ k = 2 \/ k = 6 \/ k = 7 \/ k = 9
  ·exact .inr (.inl ⟨h2, if_pos h2⟩)
  ·rw [if_neg h2]
   by_cases h3 : k = 3 \/ k = 4 \/ k = 5
   ·exact .inr (.inr (.inl ⟨h3, if_pos h3⟩))
   ·exact .inr (.inr (.inr ⟨by omega, if_neg h3⟩))
theorem opB_kind {k a b : Int} (h : opB k a b = true) : 1 <= k /\ k <= 9 := by
 have h1 := (of_decide_eq_true h).1
 rcases uses_cases k with ⟨h2, _⟩ | ⟨h2, _⟩ | ⟨h2, _⟩ | ⟨_, h2⟩ <;> omega
end
end Go.Proofs.YtedakmhffjhfnaaDoor

namespace Go.Proofs.YtedakmhffjhfnaaDoor
open Go.ChangeShapes Go.WideShapes Go.ChangeAt Go.RowKit Go.Maps
set_option linter.unusedVariables false
set_option linter.unusedSimpArgs false
section
def rdI (t p s z : Int) : Int := if needB t p s z = true then (if classB s z = true then (sizeN s (classK s z) : Int) else needI t p s z * (pageN t p s : Int)) else 0
def endI (t p s : Int) : Int := (pageN t p s : Int) * (p + 1)
def justB (n err out aux : Int) : Bool := decide (err = n /\ out = 0 /\ aux = 0)
def givesB (err out aux o a : Int) : Bool := decide (err = 0 /\ out = o /\ aux = a)
def auxB (err aux n : Int) : Bool := decide (err ≠ 0 \/ aux = n)
def insB (g e a z : Int) : Bool := decide (1 <= z /\ g <= a /\ a <= e /\ z <= e - a)
def mAt (L : List (Int × Int)) (a : Int) : Int := match L.findIdx? (fun x => decide (x.1 = a)) with | some i => (i : Int) | none => -1
def hitB (x : Int × Int) (a z : Int) : Bool := decide (x.1 < a + z) && decide (a < x.1 + x.2)
def freeM (g e : Int) (L : List (Int × Int)) (a z own : Int) : Bool := insB g e a z && (List.range L.length).all fun i => decide ((i : Int) = own) || !(hitB (L.getD i (0, 0)) a z)
def madeM (t p s : Int) (L : List (Int × Int)) (size err out aux own : Int) : Bool :=
 if needB t p s size = true then justB 3 err out aux || (decide (err = 0) && freeM (pageN t p s : Int) (endI t p s) L out (rdI t p s size) own) else justB 2 err out aux
def heldM (R : Nat -> Int) (a : Int) : Bool := (List.range 8).any fun k => decide (R k = a)
def rootM (t p s : Int) (L : List (Int × Int)) (R : Nat -> Int) (k a b err out aux : Int) : Bool :=
 if a < 0 \/ 7 < a then justB 5 err out aux
 else if k = 4 then madeM t p s L b err out aux (-1) && auxB err aux (R a.toNat)
 else if k = 5 then (if b ≠ 0 /\ mAt L b < 0 then justB 4 err out aux else givesB err out aux b (R a.toNat))
 else givesB err out aux (R a.toNat) 0
def sizeAt (L : List (Int × Int)) (i : Int) : Int := (L.getD i.toNat (0, 0)).2
def allowM (t p s : Int) (L : List (Int × Int)) (R : Nat -> Int) (k a b err out aux : Int) : Bool :=
 if opB k a b = false then justB 1 err out aux
 else if (k = 2 \/ k = 3 \/ k = 7) /\ mAt L a < 0 then justB 4 err out aux
 else if k = 1 then madeM t p s L a err out aux (-1) && auxB err aux (rdI t p s a)
 else if k = 2 then (if heldM R a = true then justB 6 err out aux else givesB err out aux (sizeAt L (mAt L a)) 0)
 else if k = 3 then madeM t p s L b err out aux (if out = a then mAt L a else -1) && auxB err aux (rdI t p s b)
 else if k = 7 then givesB err out aux (sizeAt L (mAt L a)) 0
 else if k = 8 then decide (err = 0 /\ 0 <= out /\ out <= p /\ aux = (L.length : Int))
 else if k = 9 then (if a < 0 \/ 8 < a then justB 7 err out aux else decide (err = 0 /\ 0 <= out /\ out <= 4 /\ aux = 0))
 else rootM t p s L R k a b err out aux
def appL (t p s : Int) (L : List (Int × Int)) (k a b err out aux : Int) : List (Int × Int) :=
 if err ≠ 0 then L
 else if k = 1 then addB L (out, aux)
 else if k = 2 then L.eraseIdx (mAt L a).toNat
 else if k = 3 then addB (L.eraseIdx (mAt L a).toNat) (out, aux)
 else if k = 4 then addB L (out, rdI t p s b)
 else L
def appR (R : Nat -> Int) (k a b err out : Int) : Nat -> Int :=
 if err ≠ 0 then R
 else if k = 3 then fun j => if R j = a then out else R j
 else if k = 4 then updF R a.toNat out
 else if k = 5 then updF R a.toNat b
 else R

theorem classK_lim (s z : Int) : 0 <= classK s z /\ classK s z <= 8 := by
 unfold classK
 cases h : classOf s z with
 | none => simp
 | some k => have := (class_some h).2.1; simp; omega
theorem mAt_cases (L : List (Int × Int)) (a : Int) : (mAt L a = -1 /\ ∀ x ∈ L, x.1 ≠ a) \/ ∃ (i : Nat) (z : Int), mAt L a = (i : Int) /\ L[i]? = some (a, z) /\ i < L.length := by
 cases h : L.findIdx? (fun x => decide (x.1 = a)) with
 | none =>
  refine .inl ⟨by unfold mAt; rw [h], fun x hx => ?_⟩
  have := List.findIdx?_eq_none_iff.1 h x hx
  simpa using this
 | some i =>
  obtain ⟨hi, h1, _⟩ := List.findIdx?_eq_some_iff_getElem.1 h
  refine .inr ⟨i, L[i].2, by unfold mAt; rw [h], ?_, hi⟩
  rw [List.getElem?_eq_getElem hi]
  have h1 : L[i].1 = a := by simpa using h1
  rw [<- h1]
theorem freeM_ins {g e : Int} {L : List (Int × Int)} {a z own : Int} (h : freeM g e L a z own = true) : insB g e a z = true := by
 unfold freeM at h
 simp only [Bool.and_eq_true] at h
 exact h.1
theorem freeM_no {g e : Int} {L : List (Int × Int)} {a z own : Int} (h : insB g e a z = false) : freeM g e L a z own = false := by unfold freeM; rw [h, Bool.false_and]
theorem freeM_all {g e : Int} {L : List (Int × Int)} {a z own : Int} (h : insB g e a z = true) (hj : ∀ (j : Nat) (x : Int × Int), L[j]? = some x -> (j : Int) = own \/ hitB x a z = false) : freeM g e L a z own = true := by
 unfold freeM
 rw [h, Bool.true_and, List.all_eq_true]
 intro j hm
 have hl := List.mem_range.1 hm
 have e : L.getD j (0, 0) = L[j] := by simp [List.getD, List.getElem?_eq_getElem hl]
 rw [e]
 rcases hj j _ (List.getElem?_eq_getElem hl) with h1 | h1
 ·simp [h1]
 ·simp [h1]
theorem freeM_hit {g e : Int} {L : List (Int × Int)} {a z own : Int} {j : Nat} {x : Int × Int} (hx : L[j]? = some x) (h1 : (j : Int) ≠ own) (h2 : hitB x a z = true) : freeM g e L a z own = false := by
 have hl : j < L.length := (List.getElem?_eq_some_iff.1 hx).1
 cases h : freeM g e L a z own with
 | false => rfl
 | true =>
  exfalso
  unfold freeM at h
  simp only [Bool.and_eq_true, List.all_eq_true] at h
  have h3 := h.2 j (List.mem_range.2 hl)
  have e : L.getD j (0, 0) = x := by simp [List.getD, hx]
  rw [e, h2] at h3
  simp [h1] at h3
theorem heldM_yes {R : Nat -> Int} {a : Int} {k : Nat} (hk : k < 8) (h : R k = a) : heldM R a = true := by
 unfold heldM
 rw [List.any_eq_true]
 exact ⟨k, List.mem_range.2 hk, by simpa using h⟩
theorem heldM_no {R : Nat -> Int} {a : Int} (h : ∀ k, k < 8 -> R k ≠ a) : heldM R a = false := by
 cases e : heldM R a with
 | false => rfl
 | true =>
  exfalso
  unfold heldM at e
  obtain ⟨k, hk, h1⟩ := List.any_eq_true.1 e
  exact h k (List.mem_range.1 hk) (by simpa using h1)
def InsM (g e : Int) (L : List (Int × Int)) : Prop := ∀ x ∈ L, insB g e x.1 x.2 = true
theorem InsM.erase {g e : Int} {L : List (Int × Int)} (h : InsM g e L) (i : Nat) : InsM g e (L.eraseIdx i) := fun x hx => h x (List.eraseIdx_subset hx)
theorem addB_len (L : List (Int × Int)) (b : Int × Int) : (addB L b).length <= L.length + 1 := by
 have := addTo_len b L ([], false)
 unfold addB addTo
 split
 ·simp at this ⊢; exact this
 ·rename_i h
  rw [List.length_append]
  have h0 : ∀ (L a : List (Int × Int)), (L.foldl (addStep b) (a, true)).2 = true := by
   intro L
   induction L with
   | nil => intro a; rfl
   | cons x L ih2 =>
    intro a
    rw [List.foldl_cons, show addStep b (a, true) x = (a ++ [x], true) from by unfold addStep; rw [if_neg (by simp)]]
    exact ih2 _
  have h1 : ∀ (L : List (Int × Int)) (s : List (Int × Int) × Bool), (L.foldl (addStep b) s).2 = false -> (L.foldl (addStep b) s).1.length = s.1.length + L.length := by
   intro L
   induction L with
   | nil => intro s _; simp
   | cons x L ih =>
    intro s hs
    rw [List.foldl_cons] at hs ⊢
    by_cases hc : s.2 = false /\ b.1 < x.1
    ·exfalso
     rw [show addStep b s x = (s.1 ++ [b] ++ [x], true) from by unfold addStep; rw [if_pos hc], h0] at hs
     cases hs
    ·rw [show addStep b s x = (s.1 ++ [x], s.2) from by unfold addStep; rw [if_neg hc]] at hs ⊢
     rw [ih _ hs]
     simp
     omega
  have h2 := h1 L ([], false) (by simpa [addTo] using h)
  rw [h2]
  simp
theorem made_ins {t p s : Int} {L : List (Int × Int)} {size out aux own : Int} (h : madeM t p s L size 0 out aux own = true) : freeM (pageN t p s : Int) (endI t p s) L out (rdI t p s size) own = true /\ needB t p s size = true := by
 unfold madeM at h
 split at h
 ·rename_i hn
  rw [show justB 3 0 out aux = false from decide_eq_false (by omega), Bool.false_or] at h
  simp only [Bool.and_eq_true] at h
  exact ⟨h.2, hn⟩
 ·rw [show justB 2 0 out aux = false from decide_eq_false (by omega)] at h
  cases h
theorem aux_eq {aux n : Int} (h : auxB 0 aux n = true) : aux = n := by
 have := of_decide_eq_true h
 omega
theorem allow_op {t p s : Int} {L : List (Int × Int)} {R : Nat -> Int} {k a b out aux : Int} (h : allowM t p s L R k a b 0 out aux = true) : opB k a b = true := by
 cases ho : opB k a b with
 | true => rfl
 | false =>
  exfalso
  unfold allowM at h
  rw [if_pos ho, show justB 1 0 out aux = false from decide_eq_false (by omega)] at h
  cases h
theorem allow1 {t p s : Int} {L : List (Int × Int)} {R : Nat -> Int} {a b out aux : Int} (h : allowM t p s L R 1 a b 0 out aux = true) : freeM (pageN t p s : Int) (endI t p s) L out aux (-1) = true /\ aux = rdI t p s a := by
 have ho := allow_op h
 unfold allowM at h
 rw [if_neg (by rw [ho]; simp), if_neg (by omega), if_pos rfl] at h
 simp only [Bool.and_eq_true] at h
 have h1 := (made_ins h.1).1
 have h2 := aux_eq h.2
 rw [<- h2] at h1
 exact ⟨h1, h2⟩
theorem allow_there {t p s : Int} {L : List (Int × Int)} {R : Nat -> Int} {k a b out aux : Int} (h : allowM t p s L R k a b 0 out aux = true) (hk : k = 2 \/ k = 3 \/ k = 7) : ∃ (i : Nat) (z : Int), mAt L a = (i : Int) /\ L[i]? = some (a, z) /\ i < L.length := by
 have ho := allow_op h
 rcases mAt_cases L a with ⟨h1, _⟩ | h1
 ·exfalso
  unfold allowM at h
  rw [if_neg (by rw [ho]; simp), if_pos ⟨hk, by omega⟩, show justB 4 0 out aux = false from decide_eq_false (by omega)] at h
  cases h
 ·exact h1
theorem allow3 {t p s : Int} {L : List (Int × Int)} {R : Nat -> Int} {a b out aux : Int} (h : allowM t p s L R 3 a b 0 out aux = true) : freeM (pageN t p s : Int) (endI t p s) L out aux (if out = a then mAt L a else -1) = true /\ aux = rdI t p s b := by
 have ho := allow_op h
 obtain ⟨i, z, hi, _⟩ := allow_there h (.inr (.inl rfl))
 unfold allowM at h
 rw [if_neg (by rw [ho]; simp), if_neg (by omega), if_neg (by omega), if_neg (by omega), if_pos rfl] at h
 simp only [Bool.and_eq_true] at h
 have h1 := (made_ins h.1).1
 have h2 := aux_eq h.2
 rw [<- h2] at h1
 exact ⟨h1, h2⟩
theorem allow4 {t p s : Int} {L : List (Int × Int)} {R : Nat -> Int} {a b out aux : Int} (h : allowM t p s L R 4 a b 0 out aux = true) : (0 <= a /\ a <= 7) /\ freeM (pageN t p s : Int) (endI t p s) L out (rdI t p s b) (-1) = true := by
 have ho := allow_op h
 unfold allowM rootM at h
 rw [if_neg (by rw [ho]; simp), if_neg (by omega), if_neg (by omega), if_neg (by omega), if_neg (by omega), if_neg (by omega), if_neg (by omega), if_neg (by omega)] at h
 by_cases hr : a < 0 \/ 7 < a
 ·rw [if_pos hr, show justB 5 0 out aux = false from decide_eq_false (by omega)] at h
  cases h
 ·rw [if_neg hr, if_pos rfl] at h
  simp only [Bool.and_eq_true] at h
  exact ⟨by omega, (made_ins h.1).1⟩
theorem allow5 {t p s : Int} {L : List (Int × Int)} {R : Nat -> Int} {a b out aux : Int} (h : allowM t p s L R 5 a b 0 out aux = true) : (0 <= a /\ a <= 7) /\ (b = 0 \/ 0 <= mAt L b) := by
 have ho := allow_op h
 unfold allowM rootM at h
 rw [if_neg (by rw [ho]; simp), if_neg (by omega), if_neg (by omega), if_neg (by omega), if_neg (by omega), if_neg (by omega), if_neg (by omega), if_neg (by omega)] at h
 by_cases hr : a < 0 \/ 7 < a
 ·rw [if_pos hr, show justB 5 0 out aux = false from decide_eq_false (by omega)] at h
  cases h
 ·rw [if_neg hr, if_neg (by omega), if_pos rfl] at h
  refine ⟨by omega, ?_⟩
  by_cases hb : b ≠ 0 /\ mAt L b < 0
  ·rw [if_pos hb, show justB 4 0 out aux = false from decide_eq_false (by omega)] at h
   cases h
  ·omega
end
end Go.Proofs.YtedakmhffjhfnaaDoor

namespace Go.Proofs.YtedakmhffjhfnaaDoor
open Go.ChangeShapes Go.WideShapes Go.ChangeAt Go.RowKit
set_option maxRecDepth 100000
set_option linter.unusedVariables false
set_option linter.unusedSimpArgs false
section
set_option maxHeartbeats 1600000 in
theorem clOf_c (s z : Int) (w : World) (hT : SlotsLaid w) :
  Calls Tryd.prog 34 #[.int .i64 s, .int .i64 z] w fun e w' => e = .returned (.tuple #[.int .i64 (classK s z), .bool (classB s z)]) /\ Below w.heap.size w w' := by
 by_cases h1 : z < 1
 ·have HK := hidp (classK_no (class_small (s := s) h1))
  go_enter Tryd.func34, Tryd.ntmps34
  go_wp2
  go_ret2
  exact ⟨by rw [HK.out.1, HK.out.2]; rfl, B0 _⟩
 ·have HT := hidp hT
  clear hT
  go_enter Tryd.func34, Tryd.ntmps34
  go_wp2
  go_loopw [9] (fun i wr => ∃ k : Nat, k <= 9 /\ i = .int .i64 k /\ (∀ j : Nat, j < k -> (sizeN s (j : Int) : Int) < z) /\ Below w.heap.size w wr) (fun i _ => 9 - (intOf i).toNat)
  case atStart => exact ⟨0, by omega, rfl, fun j hj => absurd hj (by omega), B0 _⟩
  case round =>
   obtain ⟨k, hk, rfl, hall, hb⟩ := hrel
   have HA := hidp hall
   have HB := hidp hb
   clear hall hb
   by_cases hlt : k < 9
   ·obtain ⟨x, hx⟩ : ∃ x, sizeN s (k : Int) = x := ⟨_, rfl⟩
    have HX := hidp hx
    clear hx
    by_cases hge : z <= (x : Int)
    ·have HK := hidp (classK_yes (class_yes (s := s) (z := z) (by omega) hlt (by rw [HX.out]; exact hge) HA.out))
     go_wp2_with fail
     refine (clSize_c s k (by omega) (by omega) _ (HT.out.below HB.out)).mono ?_
     rintro e w2 ⟨rfl, hb2⟩
     rw [HX.out]
     go_wp2
     go_ret2
     exact ⟨by rw [HK.out.1, HK.out.2]; rfl, Bgo HB.out hb2⟩
    ·go_wp2_with fail
     refine (clSize_c s k (by omega) (by omega) _ (HT.out.below HB.out)).mono ?_
     rintro e w2 ⟨rfl, hb2⟩
     rw [HX.out]
     go_wp2
     go_roundw
     case rel =>
      refine ⟨k + 1, by omega, by go_num, fun j hj => ?_, Bgo HB.out hb2⟩
      rcases Nat.lt_or_ge j k with h | h
      ·exact HA.out j h
      ·obtain rfl : j = k := by omega
       rw [HX.out]; omega
     case measure => simp [intOf]; omega
   ·obtain rfl : k = 9 := by omega
    have HK := hidp (classK_no (class_none (s := s) (z := z) HA.out))
    go_wp2
    go_ret2
    exact ⟨by rw [HK.out.1, HK.out.2]; rfl, HB.out⟩
end
end Go.Proofs.YtedakmhffjhfnaaDoor

namespace Go.Proofs.YtedakmhffjhfnaaDoor
open Go.ChangeShapes Go.WideShapes Go.ChangeAt Go.RowKit Go.Maps
set_option linter.unusedVariables false
set_option linter.unusedSimpArgs false
set_option maxRecDepth 100000
section
def mC (t p s : Int) (u : Value) (R : Nat -> Int) : Array Value := #[.int .i64 t, .int .i64 p, .int .i64 s, u, .int .i64 (R 0), .int .i64 (R 1), .int .i64 (R 2), .int .i64 (R 3), .int .i64 (R 4), .int .i64 (R 5), .int .i64 (R 6), .int .i64 (R 7)]
theorem mod_cells {w : World} {g : Nat} {T : TypeId} {t p s : Int} {u : Value} {R : Nat -> Int} (h : Held w g T (mC t p s u R)) : w.cell? ⟨g, 0, none⟩ = some (.int .i64 t) /\ w.cell? ⟨g, 1, none⟩ = some (.int .i64 p) /\ w.cell? ⟨g, 2, none⟩ = some (.int .i64 s) /\ w.cell? ⟨g, 3, none⟩ = some u := ⟨h.cell 0, h.cell 1, h.cell 2, h.cell 3⟩
theorem mod_root {w : World} {g : Nat} {T : TypeId} {t p s : Int} {u : Value} {R : Nat -> Int} (h : Held w g T (mC t p s u R)) {k : Nat} (hk : k < 8) : w.cell? ⟨g, 4 + k, none⟩ = some (.int .i64 (R k)) := by
 rcases (by omega : k = 0 \/ k = 1 \/ k = 2 \/ k = 3 \/ k = 4 \/ k = 5 \/ k = 6 \/ k = 7) with rfl | rfl | rfl | rfl | rfl | rfl | rfl | rfl
 ·exact h.cell 4
 ·exact h.cell 5
 ·exact h.cell 6
 ·exact h.cell 7
 ·exact h.cell 8
 ·exact h.cell 9
 ·exact h.cell 10
 ·exact h.cell 11
theorem mC_root (t p s : Int) (u : Value) (R : Nat -> Int) {k : Nat} (hk : k < 8) (x : Int) : (mC t p s u R).setIfInBounds (4 + k) (.int .i64 x) = mC t p s u (updF R k x) := by
 rcases (by omega : k = 0 \/ k = 1 \/ k = 2 \/ k = 3 \/ k = 4 \/ k = 5 \/ k = 6 \/ k = 7) with rfl | rfl | rfl | rfl | rfl | rfl | rfl | rfl <;> simp [mC, updF]

structure RMod (w : World) (g base : Nat) (Z : Nat -> Prop) (t p s : Int) (L : List (Int × Int)) (R : Nat -> Int) : Prop where
 right : rightB t p s = true
 lo : base <= w.heap.size
 ins : InsM (pageN t p s : Int) (endI t p s) L
 zlt : ∀ i, Z i -> i < w.heap.size
 far : ∀ (A : Option Addr) (c i : Nat), w.cell? ⟨g, 3, none⟩ = some (.slice A L.length c) -> (Value.slice A L.length c).ownBlock = some i -> ¬ Z i
 ex : ∃ (A : Option Addr) (c : Nat), Held w g 47 (mC t p s (.slice A L.length c) R) /\ w.ownsRow base 55 2 (.slice A L.length c) L.length (bkVs L)
end
section
theorem end_le {t p s : Int} (h : rightB t p s = true) : (4 <= p /\ p <= 1024) /\ 0 <= (pageN t p s : Int) /\ (pageN t p s : Int) <= 1048576 /\ 0 <= endI t p s /\ endI t p s <= 2147483648 := by
 have hp := ((rightB_iff t p s).1 h).2.1
 have hg := page_le t p s
 refine ⟨hp, by omega, by omega, Int.mul_nonneg (by omega) (by omega), ?_⟩
 have : (pageN t p s : Int) * (p + 1) <= 1048576 * 1025 := Int.mul_le_mul (by omega) (by omega) (by omega) (by omega)
 unfold endI
 omega
end
section
def stepL (t p s : Int) (L : List (Int × Int)) (R : Nat -> Int) (k a b err out aux : Int) : List (Int × Int) := if allowM t p s L R k a b err out aux = true then appL t p s L k a b err out aux else L
def stepR (t p s : Int) (L : List (Int × Int)) (R : Nat -> Int) (k a b err out aux : Int) : Nat -> Int := if allowM t p s L R k a b err out aux = true then appR R k a b err out else R
end
end Go.Proofs.YtedakmhffjhfnaaDoor
