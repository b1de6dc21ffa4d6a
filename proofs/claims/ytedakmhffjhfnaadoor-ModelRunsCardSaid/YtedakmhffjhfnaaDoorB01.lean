/-
  Words for memory that a call writes to: which blocks may turn (Turns), a row of cells told as a function (RowF), a map that is cleared. No program is named here.
-/
import Derived.Test.YtedakmhffjhfnaaDoorBKit
import Derived.Deep.DeepFit
import Derived.Maps.OwnSet
import Derived.Maps.RangeWalk
import Derived.Below
import Derived.WalkKit
import Derived.ProofKit
import Derived.BigQuiet
import Derived.Outline
import Derived.Deep.QuietTactic
import Derived.Deep.RegionHeld3
import Derived.IntWalk
import Derived.KernelRfl
import Derived.RegionTactic
import Derived.ChangeAlike
import Derived.RangeFuncNested
import Derived.RangeFuncBound
import Derived.RangeFuncLeaves
import Derived.Shelf.Abstract
import Derived.Shelf.RegionOpen
import Derived.OwnWalkIn
import Derived.TacticsInMore
import Derived.LoopNIn
import Derived.LoopIn
import Derived.Laws.BitsAllLaws
import Derived.Deep.AppendLies
import Derived.Laws.CopyOwn
import Derived.Laws.MakeOwn
import Derived.Deep.RegionLaw
import Derived.Deep.RegionWith
import Derived.Deep.CutRange
import Derived.Lib.SliceRun
import Derived.Deep.Slices
import Derived.Lib.SmallJoins
namespace Go.Proofs.YtedakmhffjhfnaaDoor
open Go.ChangeShapes Go.WideShapes Go.ChangeAt Go.RowKit Go.Maps
set_option linter.unusedVariables false
section
structure Turns (F : Nat -> Prop) (w w' : World) : Prop where
 os : w'.os = w.os
 tape : w'.tape = w.tape
 output : w'.output = w.output
 size : w.heap.size <= w'.heap.size
 block : ∀ i, i < w.heap.size -> ¬ F i -> w'.heap[i]? = w.heap[i]?

section
variable {F G : Nat -> Prop} {w w' w'' : World}
theorem T0 (F : Nat -> Prop) (w : World) : Turns F w w := ⟨rfl, rfl, rfl, Nat.le_refl _, fun _ _ _ => rfl⟩
theorem Turns.trans (h : Turns F w w') (k : Turns F w' w'') : Turns F w w'' :=
 ⟨k.os.trans h.os, k.tape.trans h.tape, k.output.trans h.output, Nat.le_trans h.size k.size, fun i hi hf => (k.block i (Nat.lt_of_lt_of_le hi h.size) hf).trans (h.block i hi hf)⟩
theorem Turns.of_below (h : Below w.heap.size w w') (F : Nat -> Prop) : Turns F w w' := ⟨h.os, h.tape, h.output, h.size, fun i hi _ => h.block i hi⟩
theorem Turns.of_grown {b : Nat} (h : w.grownBy w' (some b)) (hb : F b) : Turns F w w' := ⟨h.os, h.tape, h.output, h.size, fun i hi hf => h.block i hi (fun e => by injection e with e; subst e; exact hf hb)⟩
theorem Turns.draw (h : Turns F w w') (n : Nat) : Turns F w (w'.drewN n) := ⟨h.os, h.tape, h.output, h.size, h.block⟩
theorem Turns.drew (h : Turns F w w') : Turns F w w'.drew := ⟨h.os, h.tape, h.output, h.size, h.block⟩
theorem Turns.alloc (h : Turns F w w') (o : Obj) : Turns F w (w'.alloc o) := h.trans (Turns.of_below (Bnew (B0 _) o) F)
theorem Turns.put (h : Turns F w w') {p : Addr} (hp : F p.block) (u : Value) : Turns F w (w'.setCell p u) :=
 ⟨h.os, h.tape, h.output, by simp; exact h.size, fun i hi hf => (Below.heap_setCell w' p u i (fun e => by subst e; exact hf hp)).trans (h.block i hi hf)⟩
theorem Turns.below {W : World} (h : Turns F w w') (hb : Below W.heap.size W w) (hf : ∀ i, F i -> W.heap.size <= i) : Below W.heap.size W w' :=
 ⟨h.os.trans hb.os, h.tape.trans hb.tape, h.output.trans hb.output, Nat.le_trans hb.size h.size, fun i hi => (h.block i (Nat.lt_of_lt_of_le hi hb.size) (fun x => by have := hf i x; omega)).trans (hb.block i hi)⟩
theorem Turns.held {g : Nat} {t : TypeId} {cs : Array Value} (h : Turns F w w') (hg : Held w g t cs) (hf : ¬ F g) : Held w' g t cs := (h.block g hg.lt hf).trans hg
end

def updF {α : Type} (f : Nat -> α) (i : Nat) (u : α) : Nat -> α := fun j => if j = i then u else f j
def RowF (w : World) (g : Nat) (t : TypeId) (n c : Nat) (f : Nat -> Value) : Prop :=
 ∃ cs : Array Value, Held w g t cs /\ cs.size = c /\ n <= c /\ c <= maxLen /\ ∀ i, i < n -> cs[i]? = some (f i)


section
variable {H : Type} {P : Program} {k : TypeId} {R : Value -> Option (DataW H × List MemPlace)} {w : World} {b n : Nat} {D : DataW H}
theorem owns_turns {F : Nat -> Prop} {w' : World} (h : w.ownsMap P k R b n D) (hb : Turns F w w') (hf : ¬ F b) : w'.ownsMap P k R b n D := by
 have hlt := h.lt
 obtain ⟨es, clock, h1, r⟩ := h
 exact ⟨es, clock, (hb.block b hlt hf).trans h1, r⟩
end
end
section
structure OwnAll (w : World) (base b k : Nat) (e : Nat -> TypeId) (sz : Nat -> Nat) (v : Nat -> Value) (n : Nat -> Nat) (xs : Nat -> List Value) : Prop where
 own : ∀ i, i < k -> w.ownsRow base (e i) (sz i) (v i) (n i) (xs i)
 apart : ∀ i j g, i < k -> j < k -> (v i).ownBlock = some g -> (v j).ownBlock = some g -> i = j
 notb : ∀ i, i < k -> (v i).ownBlock ≠ some b
section
variable {w w' : World} {base b k : Nat} {e : Nat -> TypeId} {sz : Nat -> Nat} {v : Nat -> Value} {n : Nat -> Nat} {xs : Nat -> List Value}
theorem own_kept {e : TypeId} {size n : Nat} {v : Value} {xs : List Value} (h : w.ownsRow base e size v n xs) (hb : ∀ g, v.ownBlock = some g -> w'.heap[g]? = w.heap[g]?) : w'.ownsRow base e size v n xs := by
 refine ⟨h.1, ?_⟩
 rcases h.2 with h2 | ⟨g, cap, cur, rfl, hbg, hg, hr⟩
 ·exact .inl h2
 ·exact .inr ⟨g, cap, cur, rfl, hbg, (hb g rfl).trans hg, hr⟩
end
end
end Go.Proofs.YtedakmhffjhfnaaDoor

namespace Go.Proofs.YtedakmhffjhfnaaDoor
open Go.ChangeShapes Go.WideShapes Go.ChangeAt Go.RowKit
set_option linter.unusedVariables false
section
theorem longInfo : (Tryd.prog.info? 2).map (fun i => (i.zero, i.size, i.bytes)) = some (some (.int .i64 0), 1, 8) := by kernel_rfl
end
section
def outB (v l m : Int) : Bool := decide (v < l \/ m < v)
theorem outB_lt {v l m : Int} (h : v < l) : outB v l m = true := by unfold outB; simp [h]
theorem outB_gt {v l m : Int} (h : m < v) : outB v l m = true := by unfold outB; simp [h]
theorem outB_no {v l m : Int} (h : l <= v) (h' : v <= m) : outB v l m = false := by unfold outB; exact decide_eq_false (by omega)
def rightB (t p s : Int) : Bool := !(outB t 1 16) && (!(outB p 4 1024) && !(outB s 10 20))
theorem rightB_iff (t p s : Int) : rightB t p s = true ↔ (1 <= t /\ t <= 16) /\ (4 <= p /\ p <= 1024) /\ 10 <= s /\ s <= 20 := by
 unfold rightB outB
 simp only [Bool.and_eq_true, Bool.not_eq_true', decide_eq_false_iff_not]
 omega

theorem cfWrong_c (a v l m : Int) (w : World) :
  Calls Tryd.prog 79 #[.agg #[.int .i64 a, .int .i64 v, .int .i64 l, .int .i64 m]] w fun e w' => e = .returned (.bool (outB v l m)) /\ Below w.heap.size w w' := by
 by_cases h0 : v < l
 ·have H := hidp (outB_lt (m := m) h0)
  go_enter Tryd.func79, Tryd.ntmps79
  go_wp2
  go_ret
  exact ⟨by rw [H.out]; rfl, Bnew (B0 _) _⟩
 ·by_cases h1 : m < v
  ·have H := hidp (outB_gt (l := l) h1)
   go_enter Tryd.func79, Tryd.ntmps79
   go_wp2
   go_ret
   exact ⟨by rw [H.out]; rfl, Bnew (B0 _) _⟩
  ·have H := hidp (outB_no (v := v) (l := l) (m := m) (by omega) (by omega))
   go_enter Tryd.func79, Tryd.ntmps79
   go_wp2
   go_ret
   exact ⟨by rw [H.out]; rfl, Bnew (B0 _) _⟩

def numV (t p s : Int) : Array Value := #[.int .i64 0, .int .i64 t, .int .i64 1, .int .i64 16, .int .i64 16, .int .i64 p, .int .i64 4, .int .i64 1024, .int .i64 32, .int .i64 s, .int .i64 10, .int .i64 20]
theorem cfNumbers_c (t p s : Int) (w : World) :
  Calls Tryd.prog 78 #[.agg #[.int .i64 t, .int .i64 p, .int .i64 s]] w fun e w' => e = .returned (.agg #[.int .i64 0, .int .i64 t, .int .i64 1, .int .i64 16, .int .i64 16, .int .i64 p, .int .i64 4, .int .i64 1024, .int .i64 32, .int .i64 s, .int .i64 10, .int .i64 20]) /\ Below w.heap.size w w' := by
 go_enter Tryd.func78, Tryd.ntmps78
 go_wp2
 exact bodyPost_ret (v := .agg #[.int .i64 0, .int .i64 t, .int .i64 1, .int .i64 16, .int .i64 16, .int .i64 p, .int .i64 4, .int .i64 1024, .int .i64 32, .int .i64 s, .int .i64 10, .int .i64 20]) (by simp [results, Tryd.results78, go_sem]) rfl ⟨rfl, Bnew (Bnew (B0 _) _) _⟩

theorem num_cells {t p s : Int} {g : Nat} {T : TypeId} {w : World} (h : Held w g T (numV t p s)) : w.cell? ⟨g, 0, none⟩ = some (.int .i64 0) /\ w.cell? ⟨g, 1, none⟩ = some (.int .i64 t) /\ w.cell? ⟨g, 2, none⟩ = some (.int .i64 1) /\ w.cell? ⟨g, 3, none⟩ = some (.int .i64 16) /\ w.cell? ⟨g, 4, none⟩ = some (.int .i64 16) /\ w.cell? ⟨g, 5, none⟩ = some (.int .i64 p) /\ w.cell? ⟨g, 6, none⟩ = some (.int .i64 4) /\ w.cell? ⟨g, 7, none⟩ = some (.int .i64 1024) /\ w.cell? ⟨g, 8, none⟩ = some (.int .i64 32) /\ w.cell? ⟨g, 9, none⟩ = some (.int .i64 s) /\ w.cell? ⟨g, 10, none⟩ = some (.int .i64 10) /\ w.cell? ⟨g, 11, none⟩ = some (.int .i64 20) :=
 ⟨h.cell 0, h.cell 1, h.cell 2, h.cell 3, h.cell 4, h.cell 5, h.cell 6, h.cell 7, h.cell 8, h.cell 9, h.cell 10, h.cell 11⟩
def idxI (t p s : Int) : Int := if outB t 1 16 then 0 else if outB p 4 1024 then 1 else if outB s 10 20 then 2 else -1
set_option maxHeartbeats 1600000 in
theorem cfIndex_c (t p s : Int) (g : Nat) (w : World) (hc : Held w g 105 (numV t p s)) :
  Calls Tryd.prog 89 #[.slice (some ⟨g, 0, none⟩) 3 3, .func (.func 79) #[] #[]] w fun e w' => e = .returned (.int .i64 (idxI t p s)) /\ Below w.heap.size w w' := by
 obtain ⟨c0, c1, c2, c3, c4, c5, c6, c7, c8, c9, c10, c11⟩ := num_cells hc
 cases h0 : outB t 1 16
 ·cases h1 : outB p 4 1024
  ·cases h2 : outB s 10 20
   ·have HX0 := hidp h0
    have HX1 := hidp h1
    have HX2 := hidp h2
    have HI : Hid (idxI t p s = -1) := hidp (by unfold idxI; simp [h0, h1, h2])
    clear h0 h1 h2
    go_enter Tryd.func89, Tryd.ntmps89
    go_wp2
    refine wp_loop_rounds 4 ?_
    rw [rounds_succ]
    go_wp2_with fail
    refine (cfWrong_c 0 t 1 16 _).mono ?_
    rintro e w1 ⟨rfl, hb0⟩
    rw [HX0.out]
    have hc1 := hc.keep hb0
    clear c0 c1 c2 c3 c4 c5 c6 c7 c8 c9 c10 c11
    obtain ⟨d0, d1, d2, d3, d4, d5, d6, d7, d8, d9, d10, d11⟩ := num_cells hc1
    go_wp2_with fail
    rw [rounds_succ]
    go_wp2_with fail
    refine (cfWrong_c 16 p 4 1024 _).mono ?_
    rintro e w2 ⟨rfl, hb1⟩
    rw [HX1.out]
    have hc2 := hc1.keep hb1
    clear d0 d1 d2 d3 d4 d5 d6 d7 d8 d9 d10 d11
    obtain ⟨d0, d1, d2, d3, d4, d5, d6, d7, d8, d9, d10, d11⟩ := num_cells hc2
    go_wp2_with fail
    rw [rounds_succ]
    go_wp2_with fail
    refine (cfWrong_c 32 s 10 20 _).mono ?_
    rintro e w3 ⟨rfl, hb2⟩
    rw [HX2.out]
    have hc3 := hc2.keep hb2
    clear d0 d1 d2 d3 d4 d5 d6 d7 d8 d9 d10 d11
    obtain ⟨d0, d1, d2, d3, d4, d5, d6, d7, d8, d9, d10, d11⟩ := num_cells hc3
    go_wp2_with fail
    rw [rounds_succ]
    go_wp2
    go_ret
    exact ⟨by rw [HI.out]; rfl, Bgo (Bgo (Bgo (B0 _) hb0) hb1) hb2⟩
   ·have HX0 := hidp h0
    have HX1 := hidp h1
    have HX2 := hidp h2
    have HI : Hid (idxI t p s = 2) := hidp (by unfold idxI; simp [h0, h1, h2])
    clear h0 h1 h2
    go_enter Tryd.func89, Tryd.ntmps89
    go_wp2
    refine wp_loop_rounds 3 ?_
    rw [rounds_succ]
    go_wp2_with fail
    refine (cfWrong_c 0 t 1 16 _).mono ?_
    rintro e w1 ⟨rfl, hb0⟩
    rw [HX0.out]
    have hc1 := hc.keep hb0
    clear c0 c1 c2 c3 c4 c5 c6 c7 c8 c9 c10 c11
    obtain ⟨d0, d1, d2, d3, d4, d5, d6, d7, d8, d9, d10, d11⟩ := num_cells hc1
    go_wp2_with fail
    rw [rounds_succ]
    go_wp2_with fail
    refine (cfWrong_c 16 p 4 1024 _).mono ?_
    rintro e w2 ⟨rfl, hb1⟩
    rw [HX1.out]
    have hc2 := hc1.keep hb1
    clear d0 d1 d2 d3 d4 d5 d6 d7 d8 d9 d10 d11
    obtain ⟨d0, d1, d2, d3, d4, d5, d6, d7, d8, d9, d10, d11⟩ := num_cells hc2
    go_wp2_with fail
    rw [rounds_succ]
    go_wp2_with fail
    refine (cfWrong_c 32 s 10 20 _).mono ?_
    rintro e w3 ⟨rfl, hb2⟩
    rw [HX2.out]
    have hc3 := hc2.keep hb2
    clear d0 d1 d2 d3 d4 d5 d6 d7 d8 d9 d10 d11
    obtain ⟨d0, d1, d2, d3, d4, d5, d6, d7, d8, d9, d10, d11⟩ := num_cells hc3
    go_wp2
    go_ret
    exact ⟨by rw [HI.out]; rfl, Bgo (Bgo (Bgo (B0 _) hb0) hb1) hb2⟩
  ·have HX0 := hidp h0
   have HX1 := hidp h1
   have HI : Hid (idxI t p s = 1) := hidp (by unfold idxI; simp [h0, h1])
   clear h0 h1
   go_enter Tryd.func89, Tryd.ntmps89
   go_wp2
   refine wp_loop_rounds 2 ?_
   rw [rounds_succ]
   go_wp2_with fail
   refine (cfWrong_c 0 t 1 16 _).mono ?_
   rintro e w1 ⟨rfl, hb0⟩
   rw [HX0.out]
   have hc1 := hc.keep hb0
   clear c0 c1 c2 c3 c4 c5 c6 c7 c8 c9 c10 c11
   obtain ⟨d0, d1, d2, d3, d4, d5, d6, d7, d8, d9, d10, d11⟩ := num_cells hc1
   go_wp2_with fail
   rw [rounds_succ]
   go_wp2_with fail
   refine (cfWrong_c 16 p 4 1024 _).mono ?_
   rintro e w2 ⟨rfl, hb1⟩
   rw [HX1.out]
   have hc2 := hc1.keep hb1
   clear d0 d1 d2 d3 d4 d5 d6 d7 d8 d9 d10 d11
   obtain ⟨d0, d1, d2, d3, d4, d5, d6, d7, d8, d9, d10, d11⟩ := num_cells hc2
   go_wp2
   go_ret
   exact ⟨by rw [HI.out]; rfl, Bgo (Bgo (B0 _) hb0) hb1⟩
 ·have HX0 := hidp h0
  have HI : Hid (idxI t p s = 0) := hidp (by unfold idxI; simp [h0])
  clear h0
  go_enter Tryd.func89, Tryd.ntmps89
  go_wp2
  refine wp_loop_rounds 1 ?_
  rw [rounds_succ]
  go_wp2_with fail
  refine (cfWrong_c 0 t 1 16 _).mono ?_
  rintro e w1 ⟨rfl, hb0⟩
  rw [HX0.out]
  have hc1 := hc.keep hb0
  clear c0 c1 c2 c3 c4 c5 c6 c7 c8 c9 c10 c11
  obtain ⟨d0, d1, d2, d3, d4, d5, d6, d7, d8, d9, d10, d11⟩ := num_cells hc1
  go_wp2
  go_ret
  exact ⟨by rw [HI.out]; rfl, Bgo (B0 _) hb0⟩

theorem idx_right {t p s : Int} (h : rightB t p s = true) : idxI t p s = -1 := by
 unfold rightB at h
 unfold idxI
 cases h0 : outB t 1 16 <;> cases h1 : outB p 4 1024 <;> cases h2 : outB s 10 20 <;> simp_all
theorem idx_wrong {t p s : Int} (h : rightB t p s = false) : ∃ k : Int, idxI t p s = k /\ 0 <= k /\ k <= 2 := by
 unfold rightB at h
 unfold idxI
 cases h0 : outB t 1 16 <;> cases h1 : outB p 4 1024 <;> cases h2 : outB s 10 20 <;> simp_all

theorem cfContains_c (t p s : Int) (g : Nat) (w : World) (hc : Held w g 105 (numV t p s)) :
  Calls Tryd.prog 80 #[.slice (some ⟨g, 0, none⟩) 3 3, .func (.func 79) #[] #[]] w fun e w' => e = .returned (.bool (!rightB t p s)) /\ Below w.heap.size w w' := by
 cases hr : rightB t p s
 ·obtain ⟨k, hk, h0, h2⟩ := idx_wrong hr
  have HK := hidp hk
  clear hk
  go_enter Tryd.func80, Tryd.ntmps80
  go_wp2_with fail
  refine (cfIndex_c t p s g _ hc).mono ?_
  rintro e w1 ⟨rfl, hb⟩
  rw [HK.out]
  go_wp2
  go_ret
  exact ⟨by first | rfl | trivial, hb⟩
 ·have HK := hidp (idx_right hr)
  go_enter Tryd.func80, Tryd.ntmps80
  go_wp2_with fail
  refine (cfIndex_c t p s g _ hc).mono ?_
  rintro e w1 ⟨rfl, hb⟩
  rw [HK.out]
  go_wp2
  go_ret
  exact ⟨by first | rfl | trivial, hb⟩

def checkI (t p s : Int) : Int := if rightB t p s then 0 else 1
theorem check_yes {t p s : Int} (h : rightB t p s = true) : checkI t p s = 0 := by unfold checkI; rw [h]; rfl
theorem check_no {t p s : Int} (h : rightB t p s = false) : checkI t p s = 1 := by unfold checkI; rw [h]; rfl
theorem cfCheck_c (t p s : Int) (w : World) :
  Calls Tryd.prog 50 #[.agg #[.int .i64 t, .int .i64 p, .int .i64 s]] w fun e w' => e = .returned (.int .i64 (checkI t p s)) /\ Below w.heap.size w w' := by
 cases hr : rightB t p s
 ·have HK := hidp (check_no hr)
  have HR := hidp hr
  clear hr
  go_enter Tryd.func50, Tryd.ntmps50
  go_wp2_with fail
  refine (cfNumbers_c t p s _).mono ?_
  rintro e w1 ⟨rfl, hb1⟩
  go_wp2_with fail
  refine (cfContains_c t p s _ _ (Held.new w1 _ _)).mono ?_
  rintro e w2 ⟨rfl, hb2⟩
  rw [HR.out]
  go_wp2
  go_ret
  exact ⟨by rw [HK.out]; rfl, Bgo (Bnew (Bgo (Bnew (B0 _) _) hb1) _) hb2⟩
 ·have HK := hidp (check_yes hr)
  have HR := hidp hr
  clear hr
  go_enter Tryd.func50, Tryd.ntmps50
  go_wp2_with fail
  refine (cfNumbers_c t p s _).mono ?_
  rintro e w1 ⟨rfl, hb1⟩
  go_wp2_with fail
  refine (cfContains_c t p s _ _ (Held.new w1 _ _)).mono ?_
  rintro e w2 ⟨rfl, hb2⟩
  rw [HR.out]
  go_wp2
  go_ret
  exact ⟨by rw [HK.out]; rfl, Bgo (Bnew (Bgo (Bnew (B0 _) _) hb1) _) hb2⟩
end
section
theorem rightB_mk {t p s : Int} (h : (1 <= t /\ t <= 16) /\ (4 <= p /\ p <= 1024) /\ 10 <= s /\ s <= 20) : rightB t p s = true := (rightB_iff t p s).2 h
theorem rightB_not {t p s : Int} (h : ¬ ((1 <= t /\ t <= 16) /\ (4 <= p /\ p <= 1024) /\ 10 <= s /\ s <= 20)) : rightB t p s = false := by
 cases hr : rightB t p s
 ·rfl
 ·exact absurd ((rightB_iff t p s).1 hr) h

theorem r4Right_c (t p s : Int) (w : World) :
  Calls Tryd.prog 37 #[.agg #[.int .i64 t, .int .i64 p, .int .i64 s]] w fun e w' => e = .returned (.bool (rightB t p s)) /\ Below w.heap.size w w' := by
 by_cases a1 : 1 <= t
 ·by_cases a2 : t <= 16
  ·by_cases a3 : 4 <= p
   ·by_cases a4 : p <= 1024
    ·by_cases a5 : 10 <= s
     ·by_cases a6 : s <= 20
      ·have H := hidp (rightB_mk (t := t) (p := p) (s := s) (by omega))
       go_enter Tryd.func37, Tryd.ntmps37
       go_wp2
       go_ret
       exact ⟨by rw [H.out]; rfl, Bnew (B0 _) _⟩
      ·have H := hidp (rightB_not (t := t) (p := p) (s := s) (by omega))
       go_enter Tryd.func37, Tryd.ntmps37
       go_wp2
       go_ret
       exact ⟨by rw [H.out]; rfl, Bnew (B0 _) _⟩
     ·have H := hidp (rightB_not (t := t) (p := p) (s := s) (by omega))
      go_enter Tryd.func37, Tryd.ntmps37
      go_wp2
      go_ret
      exact ⟨by rw [H.out]; rfl, Bnew (B0 _) _⟩
    ·have H := hidp (rightB_not (t := t) (p := p) (s := s) (by omega))
     go_enter Tryd.func37, Tryd.ntmps37
     go_wp2
     go_ret
     exact ⟨by rw [H.out]; rfl, Bnew (B0 _) _⟩
   ·have H := hidp (rightB_not (t := t) (p := p) (s := s) (by omega))
    go_enter Tryd.func37, Tryd.ntmps37
    go_wp2
    go_ret
    exact ⟨by rw [H.out]; rfl, Bnew (B0 _) _⟩
  ·have H := hidp (rightB_not (t := t) (p := p) (s := s) (by omega))
   go_enter Tryd.func37, Tryd.ntmps37
   go_wp2
   go_ret
   exact ⟨by rw [H.out]; rfl, Bnew (B0 _) _⟩
 ·have H := hidp (rightB_not (t := t) (p := p) (s := s) (by omega))
  go_enter Tryd.func37, Tryd.ntmps37
  go_wp2
  go_ret
  exact ⟨by rw [H.out]; rfl, Bnew (B0 _) _⟩

def pageN (t p s : Int) : Nat := if rightB t p s then 2 ^ s.toNat else 0
def bytesN (t p s : Int) : Nat := if rightB t p s then p.toNat * 2 ^ s.toNat else 0
theorem page_yes {t p s : Int} (h : rightB t p s = true) : pageN t p s = 2 ^ s.toNat := by unfold pageN; rw [if_pos h]
theorem page_no {t p s : Int} (h : rightB t p s = false) : pageN t p s = 0 := by unfold pageN; rw [h]; rfl
theorem bytes_yes {t p s : Int} (h : rightB t p s = true) : bytesN t p s = p.toNat * 2 ^ s.toNat := by unfold bytesN; rw [if_pos h]
theorem bytes_no {t p s : Int} (h : rightB t p s = false) : bytesN t p s = 0 := by unfold bytesN; rw [h]; rfl
theorem pow_bounds (k : Nat) (h : k <= 20) : 1 <= 2 ^ k /\ 2 ^ k <= 1048576 := ⟨Nat.one_le_two_pow, by have := Nat.pow_le_pow_right (show 0 < 2 by omega) h; omega⟩
theorem pow_next (k : Nat) : 2 ^ (k + 1) = 2 ^ k * 2 := Nat.pow_succ 2 k

theorem r4Page_c (t p s : Int) (w : World) :
  Calls Tryd.prog 42 #[.agg #[.int .i64 t, .int .i64 p, .int .i64 s]] w fun e w' => e = .returned (.int .i64 ((pageN t p s : Nat) : Int)) /\ Below w.heap.size w w' := by
 cases hr : rightB t p s
 ·have HP := hidp (page_no hr)
  have HR := hidp hr
  clear hr
  go_enter Tryd.func42, Tryd.ntmps42
  go_wp2_with fail
  refine (r4Right_c t p s _).mono ?_
  rintro e w1 ⟨rfl, hb1⟩
  rw [HR.out]
  go_wp2
  go_ret
  exact ⟨by rw [HP.out]; rfl, Bgo (Bnew (B0 _) _) hb1⟩
 ·have HP := hidp (page_yes hr)
  have HR := hidp hr
  obtain ⟨_, _, hs, hs'⟩ := (rightB_iff t p s).1 hr
  clear hr
  go_enter Tryd.func42, Tryd.ntmps42
  go_wp2_with fail
  have hc := Held.new w 23 #[.int .i64 t, .int .i64 p, .int .i64 s]
  refine (r4Right_c t p s _).mono ?_
  rintro e w1 ⟨rfl, hb1⟩
  rw [HR.out]
  obtain ⟨c0, c1, c2⟩ := (hc.keep hb1).three
  go_wp2
  go_loop [3, 4] (fun n i => ∃ k : Nat, (k : Int) <= s /\ i = .int .i64 k /\ n = .int .i64 ((2 ^ k : Nat) : Int)) (fun _ i => 64 - (intOf i).toNat)
  case atStart => exact ⟨0, by omega, rfl, rfl⟩
  case round =>
   obtain ⟨k, hk, rfl, rfl⟩ := hrel
   obtain ⟨b1, b2⟩ := pow_bounds k (by omega)
   by_cases hlt : (k : Int) < s
   ·have HS := hidp (pow_next k)
    obtain ⟨m, hm⟩ : ∃ m, m = 2 ^ k := ⟨_, rfl⟩
    rw [<- hm] at b1 b2 HS
    rw [<- hm]
    have HM := hidp hm
    clear hm
    go_wp2
    go_round
    case rel => exact ⟨k + 1, by omega, by go_num, by rw [HS.out]; go_num⟩
    case measure => simp [intOf]; omega
   ·obtain rfl : s = k := by omega
    go_wp2
    go_ret
    exact ⟨by rw [HP.out]; rfl, Bgo (Bnew (B0 _) _) hb1⟩
end
end Go.Proofs.YtedakmhffjhfnaaDoor

namespace Go.Proofs.YtedakmhffjhfnaaDoor
set_option linter.unusedVariables false
section
def slotN (k : Nat) : Nat := ([32, 21, 16, 10, 8, 5, 4, 3, 2] : List Nat).getD k 0
def slotI (k : Int) : Nat := if 0 <= k then slotN k.toNat else 0
theorem slotI_nat (k : Nat) : slotI (k : Int) = slotN k := by unfold slotI; simp
theorem slotN_out {k : Nat} (h : 9 <= k) : slotN k = 0 := by unfold slotN; simp [List.getD, List.getElem?_eq_none (show ([32, 21, 16, 10, 8, 5, 4, 3, 2] : List Nat).length <= k by simpa using h)]
theorem slotI_out {k : Int} (h : k < 0 \/ 9 <= k) : slotI k = 0 := by
 unfold slotI
 split
 ·exact slotN_out (by omega)
 ·rfl
theorem slotN_in {k : Nat} (h : k < 9) : 2 <= slotN k /\ slotN k <= 32 := by
 have : ∀ j, j < 9 -> 2 <= slotN j /\ slotN j <= 32 := by decide
 exact this k h
theorem slotI_le (k : Int) : slotI k <= 32 := by
 by_cases h : 0 <= k /\ k < 9
 ·have := slotN_in (k := k.toNat) (by omega)
  unfold slotI; rw [if_pos h.1]; omega
 ·rw [slotI_out (by omega)]; omega
def pageS (s : Int) : Nat := pageN 1 4 s
theorem pageS_no {s : Int} (h : s < 10 \/ 20 < s) : pageS s = 0 := page_no (rightB_not (by omega))
theorem pageS_yes {s : Int} (h : 10 <= s /\ s <= 20) : pageS s = 2 ^ s.toNat := page_yes (rightB_mk (by omega))
theorem pageS_le (s : Int) : pageS s <= 1048576 := by
 by_cases h : 10 <= s /\ s <= 20
 ·rw [pageS_yes h]
  exact (pow_bounds _ (by omega)).2
 ·rw [pageS_no (by omega)]; omega
theorem pageS_zero {s : Int} : pageS s = 0 ↔ s < 10 \/ 20 < s := by
 constructor
 ·intro h
  by_cases hs : 10 <= s /\ s <= 20
  ·rw [pageS_yes hs] at h
   have := (pow_bounds s.toNat (by omega)).1
   omega
  ·omega
 ·exact pageS_no

def sizeN (s k : Int) : Nat := pageS s / slotI k - pageS s / slotI k % 16
theorem sizeN_noshift {s k : Int} (h : s < 10 \/ 20 < s) : sizeN s k = 0 := by unfold sizeN; rw [pageS_no h]; simp

theorem sizes_all : ∀ s : Nat, s < 11 -> ∀ k : Nat, k < 9 ->
  let z := 2 ^ (s + 10) / slotN k - 2 ^ (s + 10) / slotN k % 16
  z % 16 = 0 /\ 16 <= z /\ z * slotN k <= 2 ^ (s + 10) /\ z <= 2 ^ (s + 10) / 2 /\ (k = 8 -> z = 2 ^ (s + 10) / 2) /\
   (0 < k -> 2 ^ (s + 10) / slotN (k - 1) - 2 ^ (s + 10) / slotN (k - 1) % 16 < z) := by decide +kernel

theorem size_at {s : Int} (h : 10 <= s /\ s <= 20) (k : Nat) : sizeN s (k : Int) = 2 ^ (s.toNat - 10 + 10) / slotN k - 2 ^ (s.toNat - 10 + 10) / slotN k % 16 := by
 unfold sizeN
 rw [pageS_yes h, slotI_nat, show s.toNat - 10 + 10 = s.toNat by omega]
theorem size_facts {s : Int} (h : 10 <= s /\ s <= 20) {k : Nat} (hk : k < 9) :
  sizeN s (k : Int) % 16 = 0 /\ 16 <= sizeN s (k : Int) /\ sizeN s (k : Int) * slotN k <= pageS s /\ sizeN s (k : Int) <= pageS s / 2 /\ (k = 8 -> sizeN s (k : Int) = pageS s / 2) /\
   (0 < k -> sizeN s ((k - 1 : Nat) : Int) < sizeN s (k : Int)) := by
 have := sizes_all (s.toNat - 10) (by omega) k hk
 simp only [] at this
 rw [size_at h k, size_at h (k - 1), pageS_yes h, show s.toNat = s.toNat - 10 + 10 by omega]
 simpa using this
theorem size_pos {s : Int} (h : 10 <= s /\ s <= 20) {k : Nat} (hk : k < 9) : 0 < sizeN s (k : Int) := by
 have := (size_facts h hk).2.1
 omega

def classOf (s z : Int) : Option Nat := if z < 1 then none else (List.range 9).find? fun k => decide (z <= (sizeN s (k : Int) : Int))
def classK (s z : Int) : Int := match classOf s z with | some k => (k : Int) | none => 0
def classB (s z : Int) : Bool := (classOf s z).isSome
theorem class_yes {s z : Int} {k : Nat} (hz : 1 <= z) (hk : k < 9) (h : z <= (sizeN s (k : Int) : Int)) (hb : ∀ j, j < k -> (sizeN s (j : Int) : Int) < z) : classOf s z = some k := by
 unfold classOf
 rw [if_neg (by omega), List.find?_range_eq_some]
 refine ⟨by simpa using h, by simpa using hk, fun j hj => ?_⟩
 have := hb j hj
 simp
 omega
theorem class_small {s z : Int} (hz : z < 1) : classOf s z = none := by unfold classOf; rw [if_pos hz]
theorem class_none {s z : Int} (h : ∀ j : Nat, j < 9 -> (sizeN s (j : Int) : Int) < z) : classOf s z = none := by
 unfold classOf
 split
 ·rfl
 ·rw [List.find?_range_eq_none]
  intro j hj
  have := h j hj
  simp
  omega
theorem class_noshift {s z : Int} (h : s < 10 \/ 20 < s) : classOf s z = none := by
 by_cases hz : z < 1
 ·exact class_small hz
 ·refine class_none fun j _ => ?_
  rw [sizeN_noshift h]
  omega
theorem class_some {s z : Int} {k : Nat} (h : classOf s z = some k) : 1 <= z /\ k < 9 /\ z <= (sizeN s (k : Int) : Int) /\ ∀ j, j < k -> (sizeN s (j : Int) : Int) < z := by
 unfold classOf at h
 split at h
 ·cases h
 ·rw [List.find?_range_eq_some] at h
  obtain ⟨h1, h2, h3⟩ := h
  refine ⟨by omega, by simpa using h2, by simpa using h1, fun j hj => ?_⟩
  have := h3 j hj
  simp at this
  omega
theorem classK_yes {s z : Int} {k : Nat} (h : classOf s z = some k) : classK s z = (k : Int) /\ classB s z = true := by unfold classK classB; rw [h]; exact ⟨rfl, rfl⟩
theorem classK_no {s z : Int} (h : classOf s z = none) : classK s z = 0 /\ classB s z = false := by unfold classK classB; rw [h]; exact ⟨rfl, rfl⟩
end
section
theorem i64_same {x : Int} (h : -9223372036854775808 <= x) (h' : x <= 9223372036854775807) : IntKind.i64.wrap x = x := by
 simp only [IntKind.wrap, IntKind.bits, IntKind.signed]; simp; omega

theorem right_nums {t p s : Int} (h : rightB t p s = true) : ∃ g q : Nat, pageN t p s = g /\ p = q /\ bytesN t p s = q * g /\ 4 <= q /\ q <= 1024 /\ 1024 <= g /\ g <= 1048576 /\ g = 2 ^ s.toNat /\ 10 <= s /\ s <= 20 /\ q * g <= 1073741824 := by
 obtain ⟨_, ⟨hp, hp'⟩, hs, hs'⟩ := (rightB_iff t p s).1 h
 refine ⟨2 ^ s.toNat, p.toNat, page_yes h, by omega, bytes_yes h, by omega, by omega, ?_, ?_, rfl, hs, hs', ?_⟩
 ·have := Nat.pow_le_pow_right (show 0 < 2 by omega) (show 10 <= s.toNat by omega)
  omega
 ·exact (pow_bounds _ (by omega)).2
 ·have h1 := (pow_bounds s.toNat (by omega)).2
  have h2 : p.toNat * 2 ^ s.toNat <= 1024 * 1048576 := Nat.mul_le_mul (by omega) h1
  omega
theorem wrong_nums {t p s : Int} (h : rightB t p s = false) : pageN t p s = 0 /\ bytesN t p s = 0 := ⟨page_no h, bytes_no h⟩

def needB (t p s n : Int) : Bool := decide (1 <= n /\ n <= (bytesN t p s : Int))
def needI (t p s n : Int) : Int := if needB t p s n then (n + pageN t p s - 1) / (pageN t p s : Int) else 0
theorem need_no {t p s n : Int} (h : needB t p s n = false) : needI t p s n = 0 := by unfold needI; rw [h]; rfl
theorem need_right {t p s n : Int} (h : needB t p s n = true) : rightB t p s = true := by
 cases hr : rightB t p s
 ·obtain ⟨h1, h2⟩ := wrong_nums hr
  unfold needB at h
  rw [h2] at h
  simp at h
  omega
 ·rfl
theorem need_cut {n g : Int} (hg : 0 < g) : (n + g - 1) / g = n / g + (if n % g > 0 then 1 else 0) := by
 have h1 := Int.mul_ediv_add_emod n g
 have h2 := Int.emod_nonneg n (show g ≠ 0 by omega)
 have h3 := Int.emod_lt_of_pos n hg
 have e : n + g - 1 = (n % g + g - 1) + (n / g) * g := by rw [Int.mul_comm (n / g) g]; omega
 rw [e, Int.add_mul_ediv_right _ _ (by omega)]
 split
 ·rw [show n % g + g - 1 = (n % g - 1) + 1 * g by omega, Int.add_mul_ediv_right _ _ (by omega), Int.ediv_eq_zero_of_lt (by omega) (by omega)]
  omega
 ·rw [show n % g + g - 1 = g - 1 by omega, Int.ediv_eq_zero_of_lt (by omega) (by omega)]
  omega
theorem need_few {t p s n : Int} (h : needB t p s n = true) : ∃ (g m : Nat), pageN t p s = g /\ needI t p s n = m /\ 1 <= m /\ m <= 1024 /\ n <= (m : Int) * (g : Int) /\ ((m : Int) - 1) * (g : Int) < n /\ 1024 <= g /\ g <= 1048576 /\ g = 2 ^ s.toNat /\ 10 <= s /\ s <= 20 /\ n <= 1073741824 := by
 have hr := need_right h
 have hI : needI t p s n = (n + pageN t p s - 1) / (pageN t p s : Int) := by unfold needI; rw [if_pos h]
 unfold needB at h
 rw [decide_eq_true_iff] at h
 obtain ⟨g, q, hg, rfl, hb, q1, q2, g1, g2, gs, s1, s2, qg⟩ := right_nums hr
 rw [hb] at h
 rw [hg] at hI
 have hqg : ((q * g : Nat) : Int) = (q : Int) * (g : Int) := by push_cast; rfl
 obtain ⟨m, hm⟩ : ∃ m : Int, m = (n + g - 1) / (g : Int) := ⟨_, rfl⟩
 have l1 : 1 <= m := by rw [hm]; exact (Int.le_ediv_iff_mul_le (by omega)).2 (by omega)
 have e1 : (n + g - 1) - (n + g - 1) % (g : Int) = m * g := by
  have := Int.mul_ediv_add_emod (n + g - 1) g
  rw [hm, Int.mul_comm]
  omega
 have m0 := Int.emod_nonneg (n + g - 1) (show (g : Int) ≠ 0 by omega)
 have m1 := Int.emod_lt_of_pos (n + g - 1) (show (0 : Int) < g by omega)
 have l2 : m < (q : Int) + 1 := by
  rw [hm]
  refine (Int.ediv_lt_iff_lt_mul (by omega)).2 ?_
  rw [Int.add_mul]
  omega
 refine ⟨g, m.toNat, hg, by omega, by omega, by omega, ?_, ?_, g1, g2, gs, s1, s2, by omega⟩
 ·rw [Int.toNat_of_nonneg (by omega)]; omega
 ·rw [Int.toNat_of_nonneg (by omega), Int.sub_mul]; omega
end
end Go.Proofs.YtedakmhffjhfnaaDoor

namespace Go.Proofs.YtedakmhffjhfnaaDoor
open Go.ChangeShapes Go.WideShapes Go.ChangeAt Go.RowKit
set_option linter.unusedVariables false
section
theorem shl_one : ∀ k : Nat, k <= 20 -> IntKind.i64.wrap (2 ^ k) = ((2 ^ k : Nat) : Int) := by
 intro k hk
 have := pow_bounds k hk
 have e : ((2 : Int) ^ k) = ((2 ^ k : Nat) : Int) := by norm_cast
 rw [e]
 generalize 2 ^ k = g at *
 simp only [IntKind.wrap, IntKind.bits, IntKind.signed]
 simp
 omega
theorem shl_num (p : Int) (k : Nat) (hp : 4 <= p) (hp' : p <= 1024) (hk : k <= 20) : IntKind.i64.wrap (p * 2 ^ k) = ((p.toNat * 2 ^ k : Nat) : Int) := by
 have hb := pow_bounds k hk
 obtain ⟨q, rfl⟩ : ∃ q : Nat, p = q := ⟨p.toNat, by omega⟩
 have e : ((q : Int) * (2 : Int) ^ k) = ((q * 2 ^ k : Nat) : Int) := by norm_cast
 rw [e, Int.toNat_natCast]
 generalize 2 ^ k = g at *
 have h1 : q * g <= 1024 * 1048576 := Nat.mul_le_mul (by omega) hb.2
 simp only [IntKind.wrap, IntKind.bits, IntKind.signed]
 simp
 omega
theorem bytes_page {t p s : Int} (h : rightB t p s = true) : IntKind.i64.wrap (((pageN t p s : Nat) : Int) * p) = ((bytesN t p s : Nat) : Int) := by
 obtain ⟨_, ⟨hp, hp'⟩, hs, hs'⟩ := (rightB_iff t p s).1 h
 rw [page_yes h, bytes_yes h]
 obtain ⟨b1, b2⟩ := pow_bounds s.toNat (by omega)
 obtain ⟨k, rfl⟩ : ∃ k : Nat, p = k := ⟨p.toNat, by omega⟩
 generalize 2 ^ s.toNat = g at *
 have h1 : k * g <= 1024 * 1048576 := Nat.mul_le_mul (by omega) b2
 have h2 : ((g : Int) * (k : Int)) = ((k * g : Nat) : Int) := by rw [Nat.mul_comm]; norm_cast
 rw [h2, Int.toNat_natCast]
 simp only [IntKind.wrap, IntKind.bits, IntKind.signed]
 simp
 omega

theorem r4Bytes_c (t p s : Int) (w : World) :
  Calls Tryd.prog 38 #[.agg #[.int .i64 t, .int .i64 p, .int .i64 s]] w fun e w' => e = .returned (.int .i64 ((bytesN t p s : Nat) : Int)) /\ Below w.heap.size w w' := by
 cases hr : rightB t p s
 ·have HP := hidp (bytes_no hr)
  have HR := hidp hr
  clear hr
  go_enter Tryd.func38, Tryd.ntmps38
  go_wp2_with fail
  refine (r4Right_c t p s _).mono ?_
  rintro e w1 ⟨rfl, hb1⟩
  rw [HR.out]
  go_wp2
  go_ret
  exact ⟨by rw [HP.out]; rfl, Bgo (Bnew (B0 _) _) hb1⟩
 ·have HP := hidp (bytes_page hr)
  have HR := hidp hr
  clear hr
  go_enter Tryd.func38, Tryd.ntmps38
  go_wp2_with fail
  have hc := Held.new w 23 #[.int .i64 t, .int .i64 p, .int .i64 s]
  refine (r4Right_c t p s _).mono ?_
  rintro e w1 ⟨rfl, hb1⟩
  rw [HR.out]
  obtain ⟨c0, c1, c2⟩ := (hc.keep hb1).three
  go_wp2_with fail
  go_region_held3 (fun w' => w'.cell? ⟨w.heap.size, 0, none⟩ = some (.int .i64 t) /\ w'.cell? ⟨w.heap.size, 1, none⟩ = some (.int .i64 p) /\ w'.cell? ⟨w.heap.size, 2, none⟩ = some (.int .i64 s))
   (first | exact ⟨c0, c1, c2⟩ | go_keep | exact ⟨hst _ _ (by assumption), hst _ _ (by assumption), hst _ _ (by assumption)⟩)
   (first
    | (go_at_call 42; refine (r4Page_c t p s _).mono ?_; rintro e w' ⟨rfl, hbl⟩; have hst := cells_stay hbl))
  go_wp2
  go_ret
  exact ⟨ret_int HP.out, Bgo (Bdraw (Bgo (Bnew (B0 _) _) hb1) _) hbl⟩

theorem cfPage1_c (t p s : Int) (g : Nat) (w : World) (hc : Held w g 23 #[.int .i64 t, .int .i64 p, .int .i64 s]) (hs : 10 <= s) (hs' : s <= 20) :
  Calls Tryd.prog 74 #[.pointer (some ⟨g, 0, none⟩)] w fun e w' => e = .returned (.int .i64 ((2 ^ s.toNat : Nat) : Int)) /\ w = w' := by
 obtain ⟨c0, c1, c2⟩ := hc.three
 have HS := hidp (shl_one s.toNat (by omega))
 go_enter Tryd.func74, Tryd.ntmps74
 go_wp2
 go_ret
 exact ⟨ret_int ((IntWalk.i64_left _).symm.trans HS.out), rfl⟩
theorem cfBytes1_c (t p s : Int) (g : Nat) (w : World) (hc : Held w g 23 #[.int .i64 t, .int .i64 p, .int .i64 s]) (hp : 4 <= p) (hp' : p <= 1024) (hs : 10 <= s) (hs' : s <= 20) :
  Calls Tryd.prog 88 #[.pointer (some ⟨g, 0, none⟩)] w fun e w' => e = .returned (.int .i64 ((p.toNat * 2 ^ s.toNat : Nat) : Int)) /\ w = w' := by
 obtain ⟨c0, c1, c2⟩ := hc.three
 have HS := hidp (shl_num p s.toNat hp hp' (by omega))
 go_enter Tryd.func88, Tryd.ntmps88
 go_wp2
 go_ret
 exact ⟨ret_int ((IntWalk.i64_left _).symm.trans HS.out), rfl⟩

theorem cfOfPage_c (t p s : Int) (g : Nat) (w : World) (hc : Held w g 23 #[.int .i64 t, .int .i64 p, .int .i64 s]) :
  Calls Tryd.prog 73 #[.agg #[.int .i64 t, .int .i64 p, .int .i64 s], .func (.func 74) #[] #[.pointer (some ⟨g, 0, none⟩)]] w fun e w' => e = .returned (.int .i64 ((pageN t p s : Nat) : Int)) /\ Below w.heap.size w w' := by
 cases hr : rightB t p s
 ·have HP := hidp (page_no hr)
  have HK := hidp (check_no hr)
  clear hr
  go_enter Tryd.func73, Tryd.ntmps73
  go_wp2_with fail
  refine (cfCheck_c t p s _).mono ?_
  rintro e w1 ⟨rfl, hb1⟩
  rw [HK.out]
  go_wp2
  go_ret
  exact ⟨by rw [HP.out]; rfl, Bgo (Bnew (B0 _) _) hb1⟩
 ·have HP := hidp (page_yes hr)
  have HK := hidp (check_yes hr)
  obtain ⟨_, ⟨h4, h1024⟩, h10, h20⟩ := (rightB_iff t p s).1 hr
  clear hr
  go_enter Tryd.func73, Tryd.ntmps73
  go_wp2_with fail
  refine (cfCheck_c t p s _).mono ?_
  rintro e w1 ⟨rfl, hb1⟩
  rw [HK.out]
  have hc1 := (hc.alloc (.cells #[.int .i64 t, .int .i64 p, .int .i64 s] 23)).keep hb1
  go_wp2_with fail
  refine (cfPage1_c t p s g _ hc1 h10 h20).mono ?_
  rintro e w2 ⟨rfl, rfl⟩
  rw [<- HP.out]
  go_wp2
  go_ret
  exact ⟨rfl, Bgo (Bnew (B0 _) _) hb1⟩
theorem cfPage_c (t p s : Int) (w : World) :
  Calls Tryd.prog 36 #[.agg #[.int .i64 t, .int .i64 p, .int .i64 s]] w fun e w' => e = .returned (.int .i64 ((pageN t p s : Nat) : Int)) /\ Below w.heap.size w w' := by
 go_enter Tryd.func36, Tryd.ntmps36
 go_wp2_with fail
 refine (cfOfPage_c t p s _ _ (Held.new w _ _)).mono ?_
 rintro e w1 ⟨rfl, hb1⟩
 go_wp2
 go_ret
 exact ⟨rfl, Bgo (Bnew (B0 _) _) hb1⟩

theorem cfOfBytes_c (t p s : Int) (g : Nat) (w : World) (hc : Held w g 23 #[.int .i64 t, .int .i64 p, .int .i64 s]) :
  Calls Tryd.prog 73 #[.agg #[.int .i64 t, .int .i64 p, .int .i64 s], .func (.func 88) #[] #[.pointer (some ⟨g, 0, none⟩)]] w fun e w' => e = .returned (.int .i64 ((bytesN t p s : Nat) : Int)) /\ Below w.heap.size w w' := by
 cases hr : rightB t p s
 ·have HP := hidp (bytes_no hr)
  have HK := hidp (check_no hr)
  clear hr
  go_enter Tryd.func73, Tryd.ntmps73
  go_wp2_with fail
  refine (cfCheck_c t p s _).mono ?_
  rintro e w1 ⟨rfl, hb1⟩
  rw [HK.out]
  go_wp2
  go_ret
  exact ⟨by rw [HP.out]; rfl, Bgo (Bnew (B0 _) _) hb1⟩
 ·have HP := hidp (bytes_yes hr)
  have HK := hidp (check_yes hr)
  obtain ⟨_, ⟨h4, h1024⟩, h10, h20⟩ := (rightB_iff t p s).1 hr
  clear hr
  go_enter Tryd.func73, Tryd.ntmps73
  go_wp2_with fail
  refine (cfCheck_c t p s _).mono ?_
  rintro e w1 ⟨rfl, hb1⟩
  rw [HK.out]
  have hc1 := (hc.alloc (.cells #[.int .i64 t, .int .i64 p, .int .i64 s] 23)).keep hb1
  go_wp2_with fail
  refine (cfBytes1_c t p s g _ hc1 h4 h1024 h10 h20).mono ?_
  rintro e w2 ⟨rfl, rfl⟩
  rw [<- HP.out]
  go_wp2
  go_ret
  exact ⟨rfl, Bgo (Bnew (B0 _) _) hb1⟩
theorem cfBytes_c (t p s : Int) (w : World) :
  Calls Tryd.prog 70 #[.agg #[.int .i64 t, .int .i64 p, .int .i64 s]] w fun e w' => e = .returned (.int .i64 ((bytesN t p s : Nat) : Int)) /\ Below w.heap.size w w' := by
 go_enter Tryd.func70, Tryd.ntmps70
 go_wp2_with fail
 refine (cfOfBytes_c t p s _ _ (Held.new w _ _)).mono ?_
 rintro e w1 ⟨rfl, hb1⟩
 go_wp2
 go_ret
 exact ⟨rfl, Bgo (Bnew (B0 _) _) hb1⟩
end
end Go.Proofs.YtedakmhffjhfnaaDoor

namespace Go.Proofs.YtedakmhffjhfnaaDoor
open Go.ChangeShapes Go.WideShapes Go.ChangeAt Go.RowKit
set_option linter.unusedVariables false
set_option linter.unusedSimpArgs false
section
def SlotsLaid (w : World) : Prop := ∀ k : Nat, k < 9 -> w.cell? ⟨0, k, none⟩ = some (.int .i64 ((slotN k : Nat) : Int))
theorem SlotsLaid.below {w w' : World} (h : SlotsLaid w) (hb : Below w.heap.size w w') : SlotsLaid w' := fun k hk => cells_stay hb _ _ (h k hk)
theorem SlotsLaid.alloc {w : World} (h : SlotsLaid w) (o : Obj) : SlotsLaid (w.alloc o) := h.below (Bnew (B0 _) _)
theorem clSlots_c (k : Int) (h0 : -9223372036854775808 <= k) (h1 : k <= 9223372036854775807) (w : World) (hT : SlotsLaid w) :
  Calls Tryd.prog 71 #[.int .i64 k] w fun e w' => e = .returned (.int .i64 ((slotI k : Nat) : Int)) /\ w = w' := by
 by_cases a : k < 0
 ·have E := hidp (slotI_out (.inl a))
  go_enter Tryd.func71, Tryd.ntmps71
  go_wp2
  go_ret
  exact ⟨by rw [E.out]; rfl, rfl⟩
 by_cases b : 9 <= k
 ·have E := hidp (slotI_out (.inr b))
  go_enter Tryd.func71, Tryd.ntmps71
  go_wp2
  go_ret
  exact ⟨by rw [E.out]; rfl, rfl⟩
 ·obtain ⟨k, rfl⟩ : ∃ n : Nat, k = n := ⟨k.toNat, by omega⟩
  have E := hidp (slotI_nat k)
  have hk : k < 9 := by omega
  have hc := hT k hk
  have HT := hidp hT
  clear hT
  go_enter Tryd.func71, Tryd.ntmps71
  go_wp2
  go_ret
  exact ⟨by rw [E.out]; rfl, rfl⟩

theorem r5Slots_c (k : Int) (h0 : -9223372036854775808 <= k) (h1 : k <= 9223372036854775807) (w : World) :
  Calls Tryd.prog 76 #[.int .i64 k] w fun e w' => e = .returned (.int .i64 ((slotI k : Nat) : Int)) /\ w = w' := by
 by_cases a : 0 <= k /\ k < 9
 ·obtain ⟨k, rfl⟩ : ∃ n : Nat, k = n := ⟨k.toNat, by omega⟩
  have hk : k < 9 := by omega
  clear a h0 h1
  match k, hk with
  | 0, _ | 1, _ | 2, _ | 3, _ | 4, _ | 5, _ | 6, _ | 7, _ | 8, _ =>
   go_enter Tryd.func76, Tryd.ntmps76
   go_wp2
   go_ret
   exact ⟨rfl, rfl⟩
 ·have E := hidp (slotI_out (k := k) (by omega))
  have e0 : (k == 0) = false := by simp; omega
  have e1 : (k == 1) = false := by simp; omega
  have e2 : (k == 2) = false := by simp; omega
  have e3 : (k == 3) = false := by simp; omega
  have e4 : (k == 4) = false := by simp; omega
  have e5 : (k == 5) = false := by simp; omega
  have e6 : (k == 6) = false := by simp; omega
  have e7 : (k == 7) = false := by simp; omega
  have e8 : (k == 8) = false := by simp; omega
  go_enter Tryd.func76, Tryd.ntmps76
  go_wp2
  go_ret
  exact ⟨by rw [E.out]; rfl, rfl⟩

theorem clpage_c (s : Int) (w : World) :
  Calls Tryd.prog 72 #[.int .i64 s] w fun e w' => e = .returned (.int .i64 ((pageS s : Nat) : Int)) /\ Below w.heap.size w w' := by
 go_enter Tryd.func72, Tryd.ntmps72
 go_wp2_with fail
 refine (cfPage_c 1 4 s _).mono ?_
 rintro e w1 ⟨rfl, hb1⟩
 go_wp2
 go_ret
 exact ⟨rfl, Bgo (B0 _) hb1⟩

theorem clSize_c (s k : Int) (h0 : -9223372036854775808 <= k) (h1 : k <= 9223372036854775807) (w : World) (hT : SlotsLaid w) :
  Calls Tryd.prog 35 #[.int .i64 s, .int .i64 k] w fun e w' => e = .returned (.int .i64 ((sizeN s k : Nat) : Int)) /\ Below w.heap.size w w' := by
 obtain ⟨n, hn⟩ : ∃ n, slotI k = n := ⟨_, rfl⟩
 obtain ⟨p, hp⟩ : ∃ p, pageS s = p := ⟨_, rfl⟩
 have hn1 : n <= 32 := hn ▸ slotI_le k
 have hp1 : p <= 1048576 := hp ▸ pageS_le s
 have E : sizeN s k = p / n - p / n % 16 := by unfold sizeN; rw [hn, hp]
 have HN := hidp hn
 have HP := hidp hp
 have HE := hidp E
 clear hn hp E
 by_cases hz : n = 0
 ·subst hz
  go_enter Tryd.func35, Tryd.ntmps35
  go_wp2_with fail
  refine (clSlots_c k h0 h1 _ hT).mono ?_
  rintro e w1 ⟨rfl, rfl⟩
  rw [HN.out]
  go_wp2
  go_ret
  exact ⟨by rw [HE.out]; simp, B0 _⟩
 ·have hq : ((p : Int).tdiv n) = ((p / n : Nat) : Int) := by rw [Int.tdiv_eq_ediv_of_nonneg (by omega)]; norm_cast
  have hq1 : p / n <= 1048576 := Nat.le_trans (Nat.div_le_self _ _) hp1
  obtain ⟨q, hqq⟩ : ∃ q, p / n = q := ⟨_, rfl⟩
  rw [hqq] at hq hq1
  have HQ := hidp hqq
  clear hqq
  go_enter Tryd.func35, Tryd.ntmps35
  go_wp2_with fail
  refine (clSlots_c k h0 h1 _ hT).mono ?_
  rintro e w1 ⟨rfl, rfl⟩
  rw [HN.out]
  go_wp2_with fail
  refine (clpage_c s _).mono ?_
  rintro e w2 ⟨rfl, hb2⟩
  rw [HP.out]
  go_wp2
  go_ret
  refine ⟨?_, hb2⟩
  rw [HE.out, HQ.out]
  refine ret_int ?_
  omega

theorem r5Size_c (s k : Int) (h0 : -9223372036854775808 <= k) (h1 : k <= 9223372036854775807) (w : World) :
  Calls Tryd.prog 40 #[.int .i64 s, .int .i64 k] w fun e w' => e = .returned (.int .i64 ((sizeN s k : Nat) : Int)) /\ Below w.heap.size w w' := by
 obtain ⟨n, hn⟩ : ∃ n, slotI k = n := ⟨_, rfl⟩
 obtain ⟨p, hp⟩ : ∃ p, pageS s = p := ⟨_, rfl⟩
 have hn1 : n <= 32 := hn ▸ slotI_le k
 have hp1 : p <= 1048576 := hp ▸ pageS_le s
 have E : sizeN s k = p / n - p / n % 16 := by unfold sizeN; rw [hn, hp]
 have HN := hidp hn
 have HP := hidp (show pageN 1 4 s = p from hp)
 have HE := hidp E
 clear hn hp E
 by_cases hz : n = 0 \/ p = 0
 ·have hE : p / n - p / n % 16 = 0 := by rcases hz with rfl | rfl <;> simp
  have HE2 := hidp (HE.out.trans hE)
  clear hE
  rcases hz with rfl | rfl
  ·go_enter Tryd.func40, Tryd.ntmps40
   go_wp2_with fail
   refine (r4Page_c 1 4 s _).mono ?_
   rintro e w2 ⟨rfl, hb2⟩
   rw [HP.out]
   go_wp2_with fail
   refine (r5Slots_c k h0 h1 _).mono ?_
   rintro e w1 ⟨rfl, rfl⟩
   rw [HN.out]
   go_wp2
   go_ret
   exact ⟨by rw [HE2.out]; rfl, hb2⟩
  ·have hn0 : ¬ n = 0 \/ n = 0 := by omega
   rcases hn0 with hn0 | rfl
   all_goals
    go_enter Tryd.func40, Tryd.ntmps40
    go_wp2_with fail
    refine (r4Page_c 1 4 s _).mono ?_
    rintro e w2 ⟨rfl, hb2⟩
    rw [HP.out]
    go_wp2_with fail
    refine (r5Slots_c k h0 h1 _).mono ?_
    rintro e w1 ⟨rfl, rfl⟩
    rw [HN.out]
    go_wp2
    go_ret
    exact ⟨by rw [HE2.out]; rfl, hb2⟩
 ·have hq : ((p : Int).tdiv n) = ((p / n : Nat) : Int) := by rw [Int.tdiv_eq_ediv_of_nonneg (by omega)]; norm_cast
  have hq1 : p / n <= 1048576 := Nat.le_trans (Nat.div_le_self _ _) hp1
  obtain ⟨q, hqq⟩ : ∃ q, p / n = q := ⟨_, rfl⟩
  rw [hqq] at hq hq1
  have HQ := hidp hqq
  have hn2 : ¬ n = 0 := by omega
  have hp2 : ¬ p = 0 := by omega
  have hn3 : ((n : Int) == 0) = false := by simpa using hn2
  have hp3 : ((p : Int) == 0) = false := by simpa using hp2
  clear hqq hz
  go_enter Tryd.func40, Tryd.ntmps40
  go_wp2_with fail
  refine (r4Page_c 1 4 s _).mono ?_
  rintro e w2 ⟨rfl, hb2⟩
  rw [HP.out]
  go_wp2_with fail
  refine (r5Slots_c k h0 h1 _).mono ?_
  rintro e w1 ⟨rfl, rfl⟩
  rw [HN.out]
  go_wp2
  go_ret
  refine ⟨?_, hb2⟩
  rw [HE.out, HQ.out]
  refine ret_int ?_
  omega
end
section
theorem bytes_pos {t p s : Int} {b : Nat} (hb : bytesN t p s = b) (h : 0 < b) : ∃ g : Nat, pageN t p s = g /\ 1024 <= g /\ g <= 1048576 := by
 cases hr : rightB t p s
 ·have := bytes_no hr; omega
 ·obtain ⟨g, q, hg, _, _, _, _, g1, g2, _⟩ := right_nums hr
  exact ⟨g, hg, g1, g2⟩
theorem page_le (t p s : Int) : pageN t p s <= 1048576 := by
 cases hr : rightB t p s
 ·rw [page_no hr]; omega
 ·obtain ⟨g, q, hg, _, _, _, _, g1, g2, _⟩ := right_nums hr
  omega
theorem bytes_le (t p s : Int) : bytesN t p s <= 1073741824 := by
 cases hr : rightB t p s
 ·rw [bytes_no hr]; omega
 ·obtain ⟨g, q, _, _, hb, _, _, _, _, _, _, _, h⟩ := right_nums hr
  omega
end
section
set_option maxHeartbeats 1600000 in
theorem adPages_c (t p s n : Int) (h0 : -9223372036854775808 <= n) (h1 : n <= 9223372036854775807) (w : World) :
  Calls Tryd.prog 33 #[.agg #[.int .i64 t, .int .i64 p, .int .i64 s], .int .i64 n] w fun e w' => e = .returned (.tuple #[.int .i64 (needI t p s n), .bool (needB t p s n)]) /\ Below w.heap.size w w' := by
 have hc := Held.new w 23 #[.int .i64 t, .int .i64 p, .int .i64 s]
 obtain ⟨b, hb⟩ : ∃ b, bytesN t p s = b := ⟨_, rfl⟩
 have b2 := hb ▸ bytes_le t p s
 have hE : needB t p s n = decide (1 <= n /\ n <= (b : Int)) := by unfold needB; rw [hb]
 have HB := hidp hb
 by_cases c1 : n < 1
 ·have hN : needB t p s n = false := by rw [hE, decide_eq_false_iff_not]; omega
  have HN := hidp hN
  have HZ := hidp (need_no hN)
  clear hb hE hN
  go_enter Tryd.func33, Tryd.ntmps33
  go_wp2
  go_ret2
  refine ⟨by rw [HN.out, HZ.out]; rfl, ?_⟩
  all_goals exact blz
 ·by_cases c2 : n <= (b : Int)
  ·have hN : needB t p s n = true := by rw [hE, decide_eq_true_iff]; omega
   obtain ⟨g, hg, g1, g2⟩ := bytes_pos hb (by omega)
   have hI : needI t p s n = (n + g - 1) / (g : Int) := by unfold needI; rw [if_pos hN, hg]
   have q1 : (n + g - 1).tdiv (g : Int) = (n + g - 1) / (g : Int) := Int.tdiv_eq_ediv_of_nonneg (by omega)
   have d0 := Int.ediv_nonneg (a := n + g - 1) (b := (g : Int)) (by omega) (by omega)
   have d1 : (n + g - 1) / (g : Int) <= n + g - 1 := Int.ediv_le_self _ (by omega)
   obtain ⟨d, hd⟩ : ∃ d, (n + g - 1) / (g : Int) = d := ⟨_, rfl⟩
   rw [hd] at q1 d0 d1 hI
   have HN := hidp hN
   have HI := hidp hI
   have HG := hidp hg
   have g3 : ¬ g = 0 := by omega
   have g4 : ((g : Int) == 0) = false := by simp; omega
   clear hb hE hN hI hg hd
   go_enter Tryd.func33, Tryd.ntmps33
   go_wp2_with fail
   refine (cfBytes_c t p s _).mono ?_
   rintro e w1 ⟨rfl, hb1⟩
   rw [HB.out]
   have c3 := (hc.keep hb1).three
   go_wp2_with fail
   refine (cfPage_c t p s _).mono ?_
   rintro e w2 ⟨rfl, hb2⟩
   rw [HG.out]
   go_wp2
   go_ret2
   refine ⟨by rw [HN.out, HI.out]; rfl, ?_⟩
   all_goals exact blz
  ·have hN : needB t p s n = false := by rw [hE, decide_eq_false_iff_not]; omega
   have HN := hidp hN
   have HZ := hidp (need_no hN)
   clear hb hE hN
   go_enter Tryd.func33, Tryd.ntmps33
   go_wp2_with fail
   refine (cfBytes_c t p s _).mono ?_
   rintro e w1 ⟨rfl, hb1⟩
   rw [HB.out]
   go_wp2
   go_ret2
   refine ⟨by rw [HN.out, HZ.out]; rfl, ?_⟩
   all_goals exact blz
end
end Go.Proofs.YtedakmhffjhfnaaDoor

namespace Go.Proofs.YtedakmhffjhfnaaDoor
open Go.ChangeShapes Go.WideShapes Go.ChangeAt Go.RowKit Go.Maps
set_option linter.unusedVariables false
section
abbrev inR (l : Nat) : Fence := Fence.wide.inRound l


def mark (D : Nat) : Deferred := { target := .collected D, args := #[] }

def noPanic (Q : Exit -> Act -> World -> Prop) : Exit -> Act -> World -> Prop
 | .panic _, _, _ => False
 | .outgrown, _, _ => False
 | .normal, a, w => Q .normal a w
 | .ret, a, w => Q .ret a w
 | .exit id, a, w => Q (.exit id) a w
 | .goto t, a, w => Q (.goto t) a w
theorem calls_of_wp_mark {P : Program} {f : FuncId} {fn : Func} {c : Code} {args : Array Value} {w : World} {R : Ending -> World -> Prop} (hf : P.funcs[f]? = some fn) (hb : fn.body = some c)
  (h : c.wp P (noPanic (bodyPostM Fence.wide 0 P fn R)) { tmps := args ++ Array.replicate (fn.ntmps - args.size) undef, defers := [] } w) : Calls P f args w R :=
 callsIn_wide.1 (callsIn_of_wp_marks hf hb trivial (wpIn_wide.2 (wp_mono h (fun e a w hq => by cases e <;> first | exact hq | exact hq.elim))) rfl)
theorem mark_end {P : Program} {fn : Func} {R : Ending -> World -> Prop} {a : Act} {w : World} {D : Nat} (hd : a.defers = [mark D]) (hk : w.heap[D]? = some (.deferred (some [])))
  (h : bodyPost P fn R .ret { a with defers := [] } (w.putObj D (.deferred none))) : bodyPostM Fence.wide 0 P fn R .ret a w := by
 show LeavesInM Fence.wide 0 P fn a.tmps R a.defers .returning w
 rw [hd]
 refine ⟨by simp, .inl ⟨_, _, rfl, run_takeDeferred hk, ?_⟩⟩
 exact h.2
end
end Go.Proofs.YtedakmhffjhfnaaDoor

namespace Go.Proofs.YtedakmhffjhfnaaDoor
open Go.ChangeShapes Go.WideShapes Go.ChangeAt Go.RowKit Go.Shelf
set_option linter.unusedVariables false
set_option linter.unusedSimpArgs false
section
theorem bool_no {b : Bool} {p : Prop} (hb : b = true ↔ p) (h : ¬ p) : b = false := by cases b; rfl; exact absurd (hb.1 rfl) h
section
attribute [local go_sem] Oper.semAt_some
end
end
section
theorem own_down {w : World} {base base' : Nat} {e : TypeId} {size : Nat} {v : Value} {n : Nat} {xs : List Value} (h : w.ownsRow base e size v n xs) (hb : base' <= base) : w.ownsRow base' e size v n xs :=
 ⟨h.1, h.2.imp id fun ⟨g, cap, cur, h1, h2, h3⟩ => ⟨g, cap, cur, h1, Nat.le_trans hb h2, h3⟩⟩
section
attribute [local go_sem] Oper.semAt_some

end
end
section
def bkVs (l : List (Int × Int)) : List Value := l.flatMap fun x => [.int .i64 x.1, .int .i64 x.2]
theorem bkVs_len (l : List (Int × Int)) : (bkVs l).length = l.length * 2 := by unfold bkVs; induction l with
 | nil => rfl
 | cons x l ih => rw [List.flatMap_cons, List.length_append, ih]; simp; omega
theorem bkVs_snoc (l : List (Int × Int)) (x : Int × Int) : bkVs (l ++ [x]) = bkVs l ++ [.int .i64 x.1, .int .i64 x.2] := by unfold bkVs; rw [List.flatMap_append]; simp
theorem blockInfo : (Tryd.prog.info? 55).map (fun i => (i.zero, i.size, i.bytes)) = some (some (.agg #[.int .i64 0, .int .i64 0]), 2, 16) := by kernel_rfl
theorem own_caps3 {w : World} {base : Nat} {e : TypeId} {size n c : Nat} {A : Option Addr} {xs : List Value} (h : w.ownsRow base e size (.slice A n c) n xs) : n <= c /\ c <= maxLen := by
 rcases h.2 with ⟨h1, h2⟩ | ⟨g, cap, cur, h1, hb, hg, hnc, hcm, hr⟩
 ·injection h1 with _ h1 h3; omega
 ·injection h1 with _ _ h3; omega
end
end Go.Proofs.YtedakmhffjhfnaaDoor

namespace Go.Proofs.YtedakmhffjhfnaaDoor
open Go.ChangeShapes Go.WideShapes Go.ChangeAt Go.RowKit
set_option linter.unusedVariables false
set_option linter.unusedSimpArgs false
section
set_option maxHeartbeats 3200000 in
theorem r6Pages_c (t p s n : Int) (h0 : -9223372036854775808 <= n) (h1 : n <= 9223372036854775807) (w : World) :
  Calls Tryd.prog 41 #[.agg #[.int .i64 t, .int .i64 p, .int .i64 s], .int .i64 n] w fun e w' => e = .returned (.tuple #[.int .i64 (needI t p s n), .bool (needB t p s n)]) /\ Below w.heap.size w w' := by
 have hc := Held.new w 23 #[.int .i64 t, .int .i64 p, .int .i64 s]
 cases hr : rightB t p s
 ·have HR := hidp hr
  have hB : needB t p s n = false := by
   cases hb : needB t p s n
   ·rfl
   ·rw [need_right hb] at hr; cases hr
  have HI := hidp (need_no hB)
  have HB := hidp hB
  clear hr hB
  go_enter Tryd.func41, Tryd.ntmps41
  go_wp2_with fail
  refine (r4Right_c t p s _).mono ?_
  rintro e w1 ⟨rfl, hb1⟩
  rw [HR.out]
  have hc1 := hc.keep hb1
  obtain ⟨x0, x1, x2⟩ := hc1.three
  go_wp2
  go_ret2
  refine ⟨by rw [HI.out, HB.out]; rfl, ?_⟩
  all_goals exact blz
 ·have HR := hidp hr
  obtain ⟨b, hb⟩ : ∃ b, bytesN t p s = b := ⟨_, rfl⟩
  have b2 := hb ▸ bytes_le t p s
  have hE : needB t p s n = decide (1 <= n /\ n <= (b : Int)) := by unfold needB; rw [hb]
  have HBY := hidp hb
  by_cases c1 : n < 1
  ·have hB : needB t p s n = false := by rw [hE, decide_eq_false_iff_not]; omega
   have HI := hidp (need_no hB)
   have HB := hidp hB
   clear hr hb hE hB
   go_enter Tryd.func41, Tryd.ntmps41
   go_wp2_with fail
   refine (r4Right_c t p s _).mono ?_
   rintro e w1 ⟨rfl, hb1⟩
   rw [HR.out]
   have hc1 := hc.keep hb1
   obtain ⟨x0, x1, x2⟩ := hc1.three
   go_wp2
   go_ret2
   refine ⟨by rw [HI.out, HB.out]; rfl, ?_⟩
   all_goals exact blz
  ·by_cases c2 : n <= (b : Int)
   ·have hB : needB t p s n = true := by rw [hE, decide_eq_true_iff]; omega
    obtain ⟨g, hg, g1, g2⟩ := bytes_pos hb (by omega)
    have hI : needI t p s n = n / (g : Int) + (if n % (g : Int) > 0 then 1 else 0) := by unfold needI; rw [if_pos hB, hg, need_cut (by omega)]
    have q1 : n.tdiv (g : Int) = n / (g : Int) := Int.tdiv_eq_ediv_of_nonneg (by omega)
    have q2 : n.tmod (g : Int) = n % (g : Int) := Int.tmod_eq_emod_of_nonneg (by omega)
    have d0 := Int.ediv_nonneg (a := n) (b := (g : Int)) (by omega) (by omega)
    have d1 : n / (g : Int) <= n := Int.ediv_le_self _ (by omega)
    have m0 := Int.emod_nonneg n (show (g : Int) ≠ 0 by omega)
    have m1 := Int.emod_lt_of_pos n (show (0 : Int) < g by omega)
    obtain ⟨d, hd⟩ : ∃ d, n / (g : Int) = d := ⟨_, rfl⟩
    obtain ⟨m, hm⟩ : ∃ m, n % (g : Int) = m := ⟨_, rfl⟩
    rw [hd] at q1 d0 d1 hI
    rw [hm] at q2 m0 m1 hI
    have HB := hidp hB
    have HG := hidp hg
    have g3 : ¬ g = 0 := by omega
    have g4 : ((g : Int) == 0) = false := by simp; omega
    by_cases hmm : 0 < m
    ·rw [if_pos hmm] at hI
     have HI := hidp hI
     clear hr hb hE hB hI hg hd hm
     go_enter Tryd.func41, Tryd.ntmps41
     go_wp2_with fail
     refine (r4Right_c t p s _).mono ?_
     rintro e w1 ⟨rfl, hb1⟩
     rw [HR.out]
     have hc1 := hc.keep hb1
     obtain ⟨x0, x1, x2⟩ := hc1.three
     go_wp2_with fail
     refine (r4Bytes_c t p s _).mono ?_
     rintro e w2 ⟨rfl, hb2⟩
     rw [HBY.out]
     clear x0 x1 x2
     have hc2 := hc1.keep hb2
     obtain ⟨x0, x1, x2⟩ := hc2.three
     go_wp2_with fail
     refine (r4Page_c t p s _).mono ?_
     rintro e w3 ⟨rfl, hb3⟩
     rw [HG.out]
     clear x0 x1 x2
     obtain ⟨x0, x1, x2⟩ := (hc2.keep hb3).three
     go_wp2_with fail
     refine (r4Page_c t p s _).mono ?_
     rintro e w4 ⟨rfl, hb4⟩
     rw [HG.out]
     go_wp2
     go_ret2
     refine ⟨by rw [HI.out, HB.out]; rfl, ?_⟩
     all_goals exact blz
    ·rw [if_neg hmm, Int.add_zero] at hI
     obtain rfl : m = 0 := by omega
     have HI := hidp hI
     clear hr hb hE hB hI hg hd hm
     go_enter Tryd.func41, Tryd.ntmps41
     go_wp2_with fail
     refine (r4Right_c t p s _).mono ?_
     rintro e w1 ⟨rfl, hb1⟩
     rw [HR.out]
     have hc1 := hc.keep hb1
     obtain ⟨x0, x1, x2⟩ := hc1.three
     go_wp2_with fail
     refine (r4Bytes_c t p s _).mono ?_
     rintro e w2 ⟨rfl, hb2⟩
     rw [HBY.out]
     clear x0 x1 x2
     have hc2 := hc1.keep hb2
     obtain ⟨x0, x1, x2⟩ := hc2.three
     go_wp2_with fail
     refine (r4Page_c t p s _).mono ?_
     rintro e w3 ⟨rfl, hb3⟩
     rw [HG.out]
     clear x0 x1 x2
     obtain ⟨x0, x1, x2⟩ := (hc2.keep hb3).three
     go_wp2_with fail
     refine (r4Page_c t p s _).mono ?_
     rintro e w4 ⟨rfl, hb4⟩
     rw [HG.out]
     go_wp2
     go_ret2
     refine ⟨by rw [HI.out, HB.out]; rfl, ?_⟩
     all_goals exact blz
   ·have hB : needB t p s n = false := by rw [hE, decide_eq_false_iff_not]; omega
    have HI := hidp (need_no hB)
    have HB := hidp hB
    clear hr hb hE hB
    go_enter Tryd.func41, Tryd.ntmps41
    go_wp2_with fail
    refine (r4Right_c t p s _).mono ?_
    rintro e w1 ⟨rfl, hb1⟩
    rw [HR.out]
    have hc1 := hc.keep hb1
    obtain ⟨x0, x1, x2⟩ := hc1.three
    go_wp2_with fail
    refine (r4Bytes_c t p s _).mono ?_
    rintro e w2 ⟨rfl, hb2⟩
    rw [HBY.out]
    go_wp2
    go_ret2
    refine ⟨by rw [HI.out, HB.out]; rfl, ?_⟩
    all_goals exact blz
end
end Go.Proofs.YtedakmhffjhfnaaDoor

namespace Go.Proofs.YtedakmhffjhfnaaDoor
open Go.ChangeShapes Go.WideShapes Go.ChangeAt Go.RowKit Go.Shelf
set_option linter.unusedVariables false
set_option linter.unusedSimpArgs false
section
theorem own_block0 {w : World} {base n g cap : Nat} {e : TypeId} {l : List (Int × Int)} (h : w.ownsRow base e 2 (.slice (some ⟨g, 0, none⟩) n cap) n (bkVs l)) (hn : l.length = n) {i : Nat} {x : Int × Int} (hx : l[i]? = some x) :
  w.cell? ⟨g, i * 2, none⟩ = some (.int .i64 x.1) /\ w.cell? ⟨g, i * 2 + 1, none⟩ = some (.int .i64 x.2) := by
 have hi : i < n := by
  rcases Nat.lt_or_ge i n with h1 | h1
  ·exact h1
  ·rw [List.getElem?_eq_none (by omega)] at hx; cases hx
 have hg : ∀ (l : List (Int × Int)) (i : Nat) (x : Int × Int), l[i]? = some x -> (bkVs l)[i * 2]? = some (.int .i64 x.1) /\ (bkVs l)[i * 2 + 1]? = some (.int .i64 x.2) := by
  intro l
  induction l with
  | nil => intro i x h; simp at h
  | cons y l ih =>
   intro i x h
   have e : bkVs (y :: l) = [.int .i64 y.1, .int .i64 y.2] ++ bkVs l := by simp [bkVs]
   rcases i with _ | i
   ·simp at h; subst h; simp [bkVs]
   ·have h' : l[i]? = some x := by simpa using h
    obtain ⟨h1, h2⟩ := ih i x h'
    have g : ∀ k, (bkVs (y :: l))[(i * 2 + k) + 2]? = (bkVs l)[i * 2 + k]? := fun k => by
     rw [e, List.getElem?_append_right (by simp)]
     simp
    exact ⟨by have := g 0; rw [Nat.add_zero] at this; rw [show (i + 1) * 2 = i * 2 + 2 by omega, this]; exact h1, by rw [show (i + 1) * 2 + 1 = (i * 2 + 1) + 2 by omega, g]; exact h2⟩
 obtain ⟨h1, h2⟩ := hg l i x hx
 exact ⟨(h.cellAt _ (by omega)).trans h1, (h.cellAt _ (by omega)).trans h2⟩
end
end Go.Proofs.YtedakmhffjhfnaaDoor

namespace Go.Proofs.YtedakmhffjhfnaaDoor
open Go.ChangeShapes Go.WideShapes Go.ChangeAt Go.RowKit Go.Maps
set_option linter.unusedVariables false
set_option linter.unusedSimpArgs false
section
def addStep (b : Int × Int) (s : List (Int × Int) × Bool) (x : Int × Int) : List (Int × Int) × Bool :=
 if s.2 = false /\ b.1 < x.1 then (s.1 ++ [b] ++ [x], true) else (s.1 ++ [x], s.2)
def addTo (b : Int × Int) (L : List (Int × Int)) : List (Int × Int) × Bool := L.foldl (addStep b) ([], false)
def addB (L : List (Int × Int)) (b : Int × Int) : List (Int × Int) := if (addTo b L).2 = true then (addTo b L).1 else (addTo b L).1 ++ [b]
theorem addTo_snoc (b x : Int × Int) (L : List (Int × Int)) : addTo b (L ++ [x]) = addStep b (addTo b L) x := by
 unfold addTo
 rw [List.foldl_append]
 rfl
theorem addTo_len (b : Int × Int) : ∀ (L : List (Int × Int)) (s : List (Int × Int) × Bool), (L.foldl (addStep b) s).1.length <= s.1.length + L.length + (if s.2 = true then 0 else 1)
 | [], s => by simp
 | x :: L, s => by
  rw [List.foldl_cons]
  have h := addTo_len b L (addStep b s x)
  unfold addStep at h ⊢
  split at h
  ·rename_i hc
   rw [if_pos hc] at ⊢
   rw [hc.1]
   simp at h ⊢
   omega
  ·rename_i hc
   rw [if_neg hc] at ⊢
   simp at h ⊢
   omega
theorem addTo_low {b : Int × Int} : ∀ (X acc : List (Int × Int)), (∀ x ∈ X, x.1 <= b.1) -> X.foldl (addStep b) (acc, false) = (acc ++ X, false)
 | [], acc, _ => by simp
 | x :: X, acc, h => by
  rw [List.foldl_cons]
  have h1 := h x (List.mem_cons_self ..)
  unfold addStep
  rw [if_neg (by simp; omega)]
  have := addTo_low X (acc ++ [x]) (fun y hy => h y (List.mem_cons_of_mem _ hy))
  unfold addStep at this
  rw [this]
  simp
theorem addTo_over {b : Int × Int} : ∀ (Y acc : List (Int × Int)), Y.foldl (addStep b) (acc, true) = (acc ++ Y, true)
 | [], acc => by simp
 | y :: Y, acc => by
  rw [List.foldl_cons]
  unfold addStep
  rw [if_neg (by simp)]
  have := addTo_over (b := b) Y (acc ++ [y])
  unfold addStep at this
  rw [this]
  simp
theorem addB_mid {X Y : List (Int × Int)} {b : Int × Int} (hX : ∀ x ∈ X, x.1 < b.1) (hY : ∀ y ∈ Y, b.1 < y.1) : addB (X ++ Y) b = X ++ [b] ++ Y := by
 have e : addTo b (X ++ Y) = Y.foldl (addStep b) (X, false) := by
  unfold addTo
  rw [List.foldl_append, addTo_low X [] (fun x hx => by have := hX x hx; omega)]
  rfl
 unfold addB
 rw [e]
 cases Y with
 | nil => simp
 | cons y Y =>
  have h1 := hY y (List.mem_cons_self ..)
  rw [List.foldl_cons]
  have e2 : addStep b (X, false) y = (X ++ [b] ++ [y], true) := by
   unfold addStep
   rw [if_pos ⟨rfl, h1⟩]
  rw [e2, addTo_over]
  simp
end
end Go.Proofs.YtedakmhffjhfnaaDoor

namespace Go.Proofs.YtedakmhffjhfnaaDoor
open Go.ChangeShapes Go.WideShapes Go.ChangeAt Go.RowKit
set_option linter.unusedVariables false
set_option linter.unusedSimpArgs false
section
def usesI (k : Int) : Int := if k = 8 then 0 else if k = 1 \/ k = 2 \/ k = 6 \/ k = 7 \/ k = 9 then 1 else if k = 3 \/ k = 4 \/ k = 5 then 2 else -1
def opB (k a b : Int) : Bool := decide (0 <= usesI k /\ (1 <= usesI k \/ a = 0) /\ (2 <= usesI k \/ b = 0))
theorem uses_cases (k : Int) : (k = 8 /\ usesI k = 0) \/ ((k = 1 \/ k = 2 \/ k = 6 \/ k = 7 \/ k = 9) /\ usesI k = 1) \/ ((k = 3 \/ k = 4 \/ k = 5) /\ usesI k = 2) \/ ((k < 1 \/ 9 < k) /\ usesI k = -1) := by
 unfold usesI
 by_cases h1 : k = 8
 ·exact .inl ⟨h1, if_pos h1⟩
 ·rw [if_neg h1]
  by_cases h2 : k = 1 \/ k = 2 \/ k = 6 \/ k = 7 \/ k = 9
  ·exact .inr (.inl ⟨h2, if_pos h2⟩)
  ·rw [if_neg h2]
   by_cases h3 : k = 3 \/ k = 4 \/ k = 5
   ·exact .inr (.inr (.inl ⟨h3, if_pos h3⟩))
   ·exact .inr (.inr (.inr ⟨by omega, if_neg h3⟩))
theorem opB_kind {k a b : Int} (h : opB k a b = true) : 1 <= k /\ k <= 9 := by
 have h1 := (of_decide_eq_true h).1
 rcases uses_cases k with ⟨h2, _⟩ | ⟨h2, _⟩ | ⟨h2, _⟩ | ⟨_, h2⟩ <;> omega
end
end Go.Proofs.YtedakmhffjhfnaaDoor
