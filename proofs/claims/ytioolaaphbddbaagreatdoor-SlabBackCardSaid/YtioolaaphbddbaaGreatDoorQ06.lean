/-
  A row of pages that a walk appends to, beside an object that it reads.
-/
import Derived.Test.YtioolaaphbddbaaGreatDoorQ03
import Derived.Test.YtioolaaphbddbaaGreatDoorQ01
import Derived.Test.YtioolaaphbddbaaGreatDoorQ02
import Derived.Deep.RegionHeld3
import Derived.Test.YtioolaaphbddbaaGreatDoorQ05
import Derived.IntWalk
import Derived.KernelRfl
import Derived.Test.YtioolaaphbddbaaGreatDoorQ04
import Derived.RegionTactic
import Derived.ChangeAlike
import Derived.BigQuiet
import Derived.Test.YtioolaaphbddbaaGreatDoorKit
import Derived.RangeFuncNested
import Derived.RangeFuncBound
import Derived.RangeFuncLeaves
import Derived.Shelf.Abstract
import Derived.Shelf.RegionOpen
import Derived.WalkKit
import Derived.OwnWalkIn
import Derived.TacticsInMore
import Derived.LoopNIn
import Derived.LoopIn
import Derived.Laws.BitsAllLaws
import Derived.Laws.CopyOwn
import Derived.Laws.MakeOwn
import Derived.Deep.RegionLaw
import Derived.Deep.RegionWith
import Derived.Deep.CutRange
namespace Go.Proofs.YtioolaaphbddbaaGreatDoor
open Go.ChangeShapes Go.WideShapes Go.ChangeAt Go.RowKit Go.Maps
set_option linter.unusedVariables false
set_option linter.unusedSimpArgs false
set_option maxRecDepth 100000
section
theorem ntVs_snoc (l : List Nat) (q : Nat) : ntVs (l ++ [q]) = ntVs l ++ [.int .i64 (q : Int)] := by unfold ntVs; simp
theorem ntVs_len (l : List Nat) : (ntVs l).length = l.length := by unfold ntVs; simp
theorem own_caps9 {w : World} {base : Nat} {e : TypeId} {size n c : Nat} {A : Option Addr} {xs : List Value} (h : w.ownsRow base e size (.slice A n c) n xs) : n ≤ c ∧ c ≤ 9223372036854775807 := by
  rcases h.2 with ⟨h1, h2⟩ | ⟨g, cap, cur, h1, hb, hg, hnc, hcm, hr⟩
  · injection h1 with _ h1 h3; omega
  · injection h1 with _ _ h3; unfold maxLen at hcm; omega
theorem own_lower {w : World} {base base' : Nat} {e : TypeId} {size n : Nat} {v : Value} {xs : List Value} (h : w.ownsRow base e size v n xs) (hb : base' ≤ base) : w.ownsRow base' e size v n xs := by
  refine ⟨h.1, ?_⟩
  rcases h.2 with h2 | ⟨g, cap, cur, rfl, hbg, hg, hr⟩
  · exact .inl h2
  · exact .inr ⟨g, cap, cur, rfl, Nat.le_trans hb hbg, hg, hr⟩

def WalkEnd (O : Ob) (w0 : World) (A G : Nat → Prop) (l : List Nat) (s : Vst) (w : World) (e : Ending) (w' : World) : Prop :=
  ∃ u, e = .returned u ∧ w'.ownsRow w.heap.size 3 1 u l.length (ntVs l) ∧ O.At w0 A (GU G u) s w' ∧ Stay G w w'
structure RowW (O : Ob) (w0 : World) (A G : Nat → Prop) (ws : World) (N : Nat) (T : TypeId) (cs : Array Value) (base : Nat) (u : Value) (nl : Nat) (xs : List Value) (st : Vst) (w : World) : Prop where
  at_ : O.At w0 A (GU (And1 G N) u) st w
  own : w.ownsRow base 3 1 u nl xs
  held : Held w N T cs
  stay : Stay G ws w
section
variable {O : Ob} {w0 ws w w' : World} {A G : Nat → Prop} {N : Nat} {T : TypeId} {cs : Array Value} {base : Nat} {u : Value} {nl : Nat} {xs : List Value} {st s' : Vst}
theorem RowW.keep (h : RowW O w0 A G ws N T cs base u nl xs st w) (hb : Below w.heap.size w w') : RowW O w0 A G ws N T cs base u nl xs st w' := ⟨h.at_.keep hb, own_below h.own hb, h.held.keep hb, h.stay.trans (Stay.of_below hb G)⟩
theorem RowW.call (h : RowW O w0 A G ws N T cs base u nl xs st w) (h1 : O.At w0 A (GU (And1 G N) u) s' w') (h2 : Stay (GU (And1 G N) u) w w') : RowW O w0 A G ws N T cs base u nl xs s' w' :=
  ⟨h1, h2.own (fun g e => .inr e) h.own, h2.held (.inl (.inr rfl)) h.held, h.stay.trans (h2.less fun g x => .inl (.inl x))⟩
theorem RowW.put (h : RowW O w0 A G ws N T cs base u nl xs st w) (hN : u.ownBlock ≠ some N) (hn : ws.heap.size ≤ N) (i : Nat) (v : Value) : RowW O w0 A G ws N T (cs.setIfInBounds i v) base u nl xs st (w.setCell ⟨N, i, none⟩ v) :=
  ⟨h.at_.put (p := ⟨N, i, none⟩) (.inl (.inr rfl)) v, own_kept h.own (fun g e => Below.heap_setCell w ⟨N, i, none⟩ v g (fun e2 => by have e2 : g = N := e2; subst e2; exact hN e)), h.held.put i v,
    ⟨by simp; exact h.stay.1, fun g hg hl => (Below.heap_setCell w ⟨N, i, none⟩ v g (fun e2 => by have e2 : g = N := e2; omega)).trans (h.stay.2 g hg hl)⟩⟩
theorem WK.put (h : WK O w0 A G ws N T cs st w) (hn : ws.heap.size ≤ N) (i : Nat) (v : Value) : WK O w0 A G ws N T (cs.setIfInBounds i v) st (w.setCell ⟨N, i, none⟩ v) :=
  ⟨h.at_.put (p := ⟨N, i, none⟩) (.inr rfl) v, h.held.put i v, ⟨by simp; exact h.stay.1, fun g hg hl => (Below.heap_setCell w ⟨N, i, none⟩ v g (fun e2 => by have e2 : g = N := e2; omega)).trans (h.stay.2 g hg hl)⟩⟩
theorem WK.next {T' : TypeId} {cs' : Array Value} (h : WK O w0 A G ws N T cs st w) (h0 : Held ws N T cs) : WK O w0 A (And1 G N) ws w.heap.size T' cs' st (w.alloc (.cells cs' T')) :=
  ⟨h.at_.box _, Held.new _ _ _, (Stay.trans ⟨h.stay.1, fun g hg hl => by
    rcases hg with x | rfl
    · exact h.stay.2 g x hl
    · exact h.held.trans h0.symm⟩ (Stay.of_below (Bnew (B0 w) _) _))⟩
theorem WK.less {N' : Nat} (h : WK O w0 A (And1 G N') ws N T cs st w) : WK O w0 A G ws N T cs st w :=
  ⟨h.at_.less (fun g x => by
    rcases x with x | x
    · exact .inl (.inl x)
    · exact .inr x), h.held, h.stay.less (fun g x => .inl x)⟩
theorem RowW.next {T' : TypeId} {cs' : Array Value} (h : RowW O w0 A G ws N T cs base u nl xs st w) : RowW O w0 A G ws w.heap.size T' cs' base u nl xs st (w.alloc (.cells cs' T')) :=
  ⟨h.at_.keep2 (Bnew (B0 w) _) (fun g x => by
    rcases x with (x | x) | x
    · exact .inl (.inl (.inl x))
    · right; subst x; simp
    · exact .inl (.inr x)), own_below h.own (Bnew (B0 w) _), Held.new _ _ _, h.stay.trans (Stay.of_below (Bnew (B0 w) _) G)⟩
theorem heldOwn_ne {t e : TypeId} {size : Nat} {v : Value} {g : Nat} (h : Held w g t cs) (ho : w.ownsRow base e size v nl xs) (hne : t ≠ e) : v.ownBlock ≠ some g := by
  intro hv
  rcases ho.2 with ⟨rfl, _⟩ | ⟨g', cap, cur, rfl, hb, hg, _⟩
  · simp [Value.ownBlock] at hv
  · have : g' = g := by simpa [Value.ownBlock] using hv
    subst this
    unfold Held at h
    rw [h] at hg
    injection hg with hg
    injection hg with _ h2
    exact hne h2
end
end
section
structure Duo (W : World) (O1 O2 : Ob) (A B G : Nat → Prop) (s1 s2 : Vst) (w : World) : Prop where
  i1 : O1.I w s1 A
  i2 : O2.I w s2 B
  ab : ∀ i, A i → ¬ B i
  aG : ∀ g, G g → g < w.heap.size ∧ ¬ A g ∧ ¬ B g
  lo : ∀ i, A i ∨ B i → W.heap.size ≤ i
  bel : Below W.heap.size W w
def noOb : Ob where
  I _ _ A := ∀ i, ¬ A i
  lt h i hi := absurd hi (h i)
  turns h _ _ := h

section
variable {W w w' : World} {O1 O2 : Ob} {A B G : Nat → Prop} {s1 s2 s' : Vst}
theorem Duo.left1 (h : Duo W O1 O2 A B G s1 s2 w) (hl : O1.Left w A s' w') : ∃ A', Duo W O1 O2 A' B G s' s2 w' ∧ Stay G w w' := by
  obtain ⟨A', k1, k2, k3⟩ := hl
  have hs := h.bel.size
  refine ⟨A', ⟨k1, O2.turns h.i2 k3 (fun i hi ha => h.ab i ha hi), fun i hi hb => ?_, fun g hg => ⟨Nat.lt_of_lt_of_le (h.aG g hg).1 k3.size, fun x => ?_, (h.aG g hg).2.2⟩, fun i hi => ?_, k3.below h.bel (fun i hi => h.lo i (.inl hi))⟩, ⟨k3.size, fun g hg hl => k3.block g hl (h.aG g hg).2.1⟩⟩
  · rcases k2 i hi with h1 | h1
    · exact h.ab i h1 hb
    · have := O2.lt h.i2 i hb; omega
  · rcases k2 g x with h1 | h1
    · exact (h.aG g hg).2.1 h1
    · have := (h.aG g hg).1; omega
  · rcases hi with hi | hi
    · rcases k2 i hi with h1 | h1
      · exact h.lo i (.inl h1)
      · omega
    · exact h.lo i (.inr hi)
theorem Duo.swap (h : Duo W O1 O2 A B G s1 s2 w) : Duo W O2 O1 B A G s2 s1 w := ⟨h.i2, h.i1, fun i hb ha => h.ab i ha hb, fun g hg => ⟨(h.aG g hg).1, (h.aG g hg).2.2, (h.aG g hg).2.1⟩, fun i hi => h.lo i hi.symm, h.bel⟩
theorem Duo.keep (h : Duo W O1 O2 A B G s1 s2 w) (hb : Below w.heap.size w w') : Duo W O1 O2 A B G s1 s2 w' :=
  ⟨Ob.keep h.i1 hb, Ob.keep h.i2 hb, h.ab, fun g hg => ⟨Nat.lt_of_lt_of_le (h.aG g hg).1 hb.size, (h.aG g hg).2⟩, h.lo, Bgo h.bel hb⟩
theorem Duo.keep2 {G' : Nat → Prop} (h : Duo W O1 O2 A B G s1 s2 w) (hb : Below w.heap.size w w') (hG : ∀ g, G' g → G g ∨ (w.heap.size ≤ g ∧ g < w'.heap.size)) : Duo W O1 O2 A B G' s1 s2 w' := by
  have hk := h.keep hb
  refine ⟨hk.i1, hk.i2, hk.ab, fun g x => ?_, hk.lo, hk.bel⟩
  rcases hG g x with h1 | h1
  · exact hk.aG g h1
  · exact ⟨h1.2, fun y => by have := O1.lt h.i1 g y; omega, fun y => by have := O2.lt h.i2 g y; omega⟩
theorem Duo.grown {row : Option Nat} {G' : Nat → Prop} (h : Duo W O1 O2 A B G s1 s2 w) (hg : w.grownBy w' row) (hr : ∀ g, row = some g → G g ∧ W.heap.size ≤ g) (hG : ∀ g, G' g → G g ∨ (w.heap.size ≤ g ∧ g < w'.heap.size)) : Duo W O1 O2 A B G' s1 s2 w' := by
  have ht : Turns (fun i => row = some i) w w' := ⟨hg.os, hg.tape, hg.output, hg.size, fun i hi hn => hg.block i hi (fun e => hn e.symm)⟩
  refine ⟨O1.turns h.i1 ht (fun i hi e => (h.aG i (hr i e).1).2.1 hi), O2.turns h.i2 ht (fun i hi e => (h.aG i (hr i e).1).2.2 hi), h.ab, fun g x => ?_, h.lo, ht.below h.bel (fun i e => (hr i e).2)⟩
  rcases hG g x with h1 | h1
  · exact ⟨Nat.lt_of_lt_of_le (h.aG g h1).1 hg.size, (h.aG g h1).2⟩
  · exact ⟨h1.2, fun y => by have := O1.lt h.i1 g y; omega, fun y => by have := O2.lt h.i2 g y; omega⟩
theorem Duo.less {G' : Nat → Prop} (h : Duo W O1 O2 A B G s1 s2 w) (hg : ∀ g, G' g → G g) : Duo W O1 O2 A B G' s1 s2 w := { h with aG := fun g x => h.aG g (hg g x) }
theorem Duo.at1 (h : Duo W O1 O2 A B G s1 s2 w) : O1.At w A (fun _ => False) s1 w := Ob.At.start h.i1
theorem Duo.walk1 {l : List Nat} {e : Ending} (h : Duo W O1 O2 A B G s1 s2 w) (hw : WalkEnd O1 w A (fun _ => False) l s' w e w') :
    ∃ u A', e = .returned u ∧ w'.ownsRow w.heap.size 3 1 u l.length (ntVs l) ∧ Duo W O1 O2 A' B (GU G u) s' s2 w' ∧ Stay G w w' := by
  obtain ⟨u, he, ho, hA, _⟩ := hw
  obtain ⟨A', k1, k2, k3, k4⟩ := hA
  have hs := h.bel.size
  have k5 : ∀ g, (GU (fun _ => False) u) g → ¬ A' g := fun g x => (k4 g x).2.2
  refine ⟨u, A', he, ho, ⟨k1, O2.turns h.i2 k3 (fun i hi ha => h.ab i ha hi), fun i hi hb => ?_, fun g hg => ?_, fun i hi => ?_, k3.below h.bel (fun i hi => h.lo i (.inl hi))⟩, ⟨k3.size, fun g hg hl => k3.block g hl (h.aG g hg).2.1⟩⟩
  · rcases k2 i hi with h1 | h1
    · exact h.ab i h1 hb
    · have := O2.lt h.i2 i hb; omega
  · rcases hg with hg | hg
    · refine ⟨Nat.lt_of_lt_of_le (h.aG g hg).1 k3.size, fun x => ?_, (h.aG g hg).2.2⟩
      rcases k2 g x with h1 | h1
      · exact (h.aG g hg).2.1 h1
      · have := (h.aG g hg).1; omega
    · have h1 := ho.lt g hg
      exact ⟨h1.2, k5 g (.inr hg), fun x => by have := O2.lt h.i2 g x; omega⟩
  · rcases hi with hi | hi
    · rcases k2 i hi with h1 | h1
      · exact h.lo i (.inl h1)
      · omega
    · exact h.lo i (.inr hi)
theorem RowV.lit (w : World) (cs : Array Value) (t : TypeId) (n : Nat) (h : cs.size = n) (hm : n ≤ maxLen) : RowV (w.alloc (.cells cs t)) (.slice (some ⟨w.heap.size, 0, none⟩) n n) cs.toList := by
  subst h
  refine ⟨by simpa using hm, .inr ⟨w.heap.size, 0, cs.size, by simp, by simp, fun i u hu => ?_⟩⟩
  rw [Nat.zero_add, (Held.new w t cs).cell i]
  simpa using hu
theorem duo_made {b n base : Nat} {wh : Bool} {o : VGeo} {K : Nat → Option Nat} {s : Vst} (hI : IsView w base b n wh o K s) (hb : W.heap.size ≤ base) (hB : Below W.heap.size W w) (hG : ∀ g, G g → g < w.heap.size ∧ ¬ o.A b g) :
    Duo W (vOb base b n wh K) noOb (o.A b) (fun _ => False) G s freshS w :=
  ⟨⟨o, hI, rfl⟩, fun _ x => x, fun _ _ x => x, fun g hg => ⟨(hG g hg).1, (hG g hg).2, fun x => x⟩, fun i hi => by
    rcases hi with hi | hi
    · exact Nat.le_trans hb (hI.ge i hi)
    · exact hi.elim, hB⟩
end
end
section
theorem few14_c (t q s : Int) (w : World) : Calls Tryz.prog 7 #[.agg #[.int .i64 t, .int .i64 q, .int .i64 s]] w fun e w' => e = .returned (.bool (decide (q ≤ 64))) ∧ Below w.heap.size w w' := by
  go_enter Tryz.func7, Tryz.ntmps7
  go_wp2
  go_ret
  exact ⟨rfl, Bnew (B0 _) _⟩
theorem make82 (w : World) : (Instr.makeSlice 24 (.int .i64 82) (.int .i64 82)).run Tryz.prog w = .ok (.slice (some ⟨w.heap.size, 0, none⟩) 82 82) (w.alloc (.cells (Array.replicate 82 (.int .u32 0)) 63)) := by kernel_rfl
def ex14L : List Nat := ((((List.replicate 82 0).set 0 8).set 5 1).set 34 129).set 77 1
def ex14C : Array Value := ((((Array.replicate 82 (Value.int .u32 0)).setIfInBounds 0 (.int .u32 8)).setIfInBounds 5 (.int .u32 1)).setIfInBounds 34 (.int .u32 129)).setIfInBounds 77 (.int .u32 1)
theorem ex14_eq : ex14C.toList = valVs ex14L := by
  unfold ex14C ex14L valVs
  simp only [Array.toList_setIfInBounds, Array.toList_replicate, List.map_set, List.map_replicate]
  rfl
def ex14K : Nat → Option Nat := fun i => ex14L[i]?
set_option maxHeartbeats 1600000 in
theorem Eight14_c (w : World) : Calls Tryz.prog 31 #[] w fun e w' => ∃ g, e = .returned (.tuple #[.agg #[.int .i64 1, .int .i64 8, .int .i64 10], .slice (some ⟨g, 0, none⟩) 82 82]) ∧ Held w' g 63 ex14C ∧ Below w.heap.size w w' := by
  have hmk := make82
  have HC := (Held.new w 23 #[.int .i64 0, .int .i64 0, .int .i64 0]).alloc (.cells (Array.replicate 82 (.int .u32 0)) 63)
  have HG := Held.new2 w (.cells #[.int .i64 0, .int .i64 0, .int .i64 0] 23) 63 (Array.replicate 82 (.int .u32 0))
  have g0 : _ = some (Value.int .u32 0) := (HG.cell 0).trans (by simp)
  have g1 : _ = some (Value.int .u32 0) := (HG.cell 5).trans (by simp)
  have g2 : _ = some (Value.int .u32 0) := (HG.cell 34).trans (by simp)
  have g3 : _ = some (Value.int .u32 0) := (HG.cell 77).trans (by simp)
  have f0 := HG.thawed
  obtain ⟨c0, c1, c2⟩ := HC.three
  have f1 := HC.thawed
  clear HC HG
  go_enter Tryz.func31, Tryz.ntmps31
  go_wp2
  refine bodyPost_ret (v := .tuple #[.agg #[.int .i64 1, .int .i64 8, .int .i64 10], .slice (some ⟨w.heap.size + 1, 0, none⟩) 82 82]) (by simp [results, Tryz.results31, go_sem]) rfl ⟨w.heap.size + 1, rfl, ?_, ?_⟩
  · unfold ex14C
    exact Held.new2 w (.cells #[.int .i64 1, .int .i64 8, .int .i64 10] 23) 63 _
  · exact Bnew (Bnew (B0 w) _) _
end
end Go.Proofs.YtioolaaphbddbaaGreatDoor

namespace Go.Proofs.YtioolaaphbddbaaGreatDoor
open Go.ChangeShapes Go.WideShapes Go.ChangeAt Go.RowKit
set_option linter.unusedVariables false
section
theorem put_new (x a v : Nat) (ha : a + 16 ≤ 64) (hx : x < 2 ^ a) (hv : v < 65536) : HM.putN x a 16 v = x + v * 2 ^ a := by
  have hx64 : x < 2 ^ 64 := Nat.lt_of_lt_of_le hx (Nat.pow_le_pow_right (by omega) (by omega))
  have h1 : x + v * 2 ^ a = 2 ^ a * v + x := by rw [Nat.mul_comm, Nat.add_comm]
  have hlt : 2 ^ a * v + x < 2 ^ 64 := by
    have e : (2 : Nat) ^ 64 = 2 ^ a * 2 ^ (64 - a) := by rw [← Nat.pow_add]; congr 1; omega
    have e2 : (2 : Nat) ^ 16 ≤ 2 ^ (64 - a) := Nat.pow_le_pow_right (by omega) (by omega)
    have e3 : 2 ^ a * (v + 1) ≤ 2 ^ a * 2 ^ (64 - a) := Nat.mul_le_mul_left _ (by omega)
    rw [Nat.mul_succ] at e3
    rw [e]
    omega
  rw [h1]
  apply Nat.eq_of_testBit_eq
  intro i
  by_cases hi : i < 64
  · rw [HM.bit_putN x a 16 v i ha hv hi, Nat.testBit_two_pow_mul_add _ hx]
    by_cases h2 : i < a
    · rw [if_neg (by omega), if_pos h2]
    · rw [if_neg h2]
      by_cases h3 : i < a + 16
      · rw [if_pos ⟨by omega, h3⟩]
      · rw [if_neg (by omega), Nat.testBit_lt_two_pow (Nat.lt_of_lt_of_le hx (Nat.pow_le_pow_right (by omega) (by omega))), Nat.testBit_lt_two_pow (Nat.lt_of_lt_of_le hv (show 65536 ≤ 2 ^ (i - a) from Nat.pow_le_pow_right (n := 2) (by omega) (show 16 ≤ i - a by omega)))]
  · rw [HM.bit_high (HM.putN_lt x a 16 v ha hv) (by omega), HM.bit_high hlt (by omega)]
end
end Go.Proofs.YtioolaaphbddbaaGreatDoor

namespace Go.Proofs.YtioolaaphbddbaaGreatDoor
open Go.ChangeShapes Go.WideShapes Go.ChangeAt Go.RowKit
set_option linter.unusedVariables false
set_option linter.unusedSimpArgs false
section
def SlotsLaid (w : World) : Prop := ∀ k : Nat, k < 9 → w.cell? ⟨0, k, none⟩ = some (.int .i64 ((slotN k : Nat) : Int))
theorem SlotsLaid.below {w w' : World} (h : SlotsLaid w) (hb : Below w.heap.size w w') : SlotsLaid w' := fun k hk => cells_stay hb _ _ (h k hk)
theorem SlotsLaid.alloc {w : World} (h : SlotsLaid w) (o : Obj) : SlotsLaid (w.alloc o) := h.below (Bnew (B0 _) _)
theorem SlotsLaid.drewN {w : World} (h : SlotsLaid w) (n : Nat) : SlotsLaid (w.drewN n) := h.below (Bdraw (B0 _) _)
theorem SlotsLaid.drew {w : World} (h : SlotsLaid w) : SlotsLaid w.drew := h.below (Bdrew (B0 _))

theorem clSlots_c (k : Int) (h0 : -9223372036854775808 ≤ k) (h1 : k ≤ 9223372036854775807) (w : World) (hT : SlotsLaid w) :
    Calls Tryz.prog 36 #[.int .i64 k] w fun e w' => e = .returned (.int .i64 ((slotI k : Nat) : Int)) ∧ w = w' := by
  by_cases a : k < 0
  · have E := hidp (slotI_out (.inl a))
    go_enter Tryz.func36, Tryz.ntmps36
    go_wp2
    go_ret
    exact ⟨by rw [E.out]; rfl, rfl⟩
  by_cases b : 9 ≤ k
  · have E := hidp (slotI_out (.inr b))
    go_enter Tryz.func36, Tryz.ntmps36
    go_wp2
    go_ret
    exact ⟨by rw [E.out]; rfl, rfl⟩
  · obtain ⟨k, rfl⟩ : ∃ n : Nat, k = n := ⟨k.toNat, by omega⟩
    have E := hidp (slotI_nat k)
    have hk : k < 9 := by omega
    have hc := hT k hk
    have HT := hidp hT
    clear hT
    go_enter Tryz.func36, Tryz.ntmps36
    go_wp2
    go_ret
    exact ⟨by rw [E.out]; rfl, rfl⟩

theorem r5Slots_c (k : Int) (h0 : -9223372036854775808 ≤ k) (h1 : k ≤ 9223372036854775807) (w : World) :
    Calls Tryz.prog 22 #[.int .i64 k] w fun e w' => e = .returned (.int .i64 ((slotI k : Nat) : Int)) ∧ w = w' := by
  by_cases a : 0 ≤ k ∧ k < 9
  · obtain ⟨k, rfl⟩ : ∃ n : Nat, k = n := ⟨k.toNat, by omega⟩
    have hk : k < 9 := by omega
    clear a h0 h1
    match k, hk with
    | 0, _ | 1, _ | 2, _ | 3, _ | 4, _ | 5, _ | 6, _ | 7, _ | 8, _ =>
      go_enter Tryz.func22, Tryz.ntmps22
      go_wp2
      go_ret
      exact ⟨rfl, rfl⟩
  · have E := hidp (slotI_out (k := k) (by omega))
    have e0 : (k == 0) = false := by simp; omega
    have e1 : (k == 1) = false := by simp; omega
    have e2 : (k == 2) = false := by simp; omega
    have e3 : (k == 3) = false := by simp; omega
    have e4 : (k == 4) = false := by simp; omega
    have e5 : (k == 5) = false := by simp; omega
    have e6 : (k == 6) = false := by simp; omega
    have e7 : (k == 7) = false := by simp; omega
    have e8 : (k == 8) = false := by simp; omega
    go_enter Tryz.func22, Tryz.ntmps22
    go_wp2
    go_ret
    exact ⟨by rw [E.out]; rfl, rfl⟩

theorem r5Size_c (s k : Int) (h0 : -9223372036854775808 ≤ k) (h1 : k ≤ 9223372036854775807) (w : World) :
    Calls Tryz.prog 160 #[.int .i64 s, .int .i64 k] w fun e w' => e = .returned (.int .i64 ((sizeN s k : Nat) : Int)) ∧ Below w.heap.size w w' := by
  obtain ⟨n, hn⟩ : ∃ n, slotI k = n := ⟨_, rfl⟩
  obtain ⟨p, hp⟩ : ∃ p, pageS s = p := ⟨_, rfl⟩
  have hn1 : n ≤ 32 := hn ▸ slotI_le k
  have hp1 : p ≤ 1048576 := hp ▸ pageS_le s
  have E : sizeN s k = p / n - p / n % 16 := by unfold sizeN; rw [hn, hp]
  have HN := hidp hn
  have HP := hidp (show pageN 1 4 s = p from hp)
  have HE := hidp E
  clear hn hp E
  by_cases hz : n = 0 ∨ p = 0
  · have hE : p / n - p / n % 16 = 0 := by rcases hz with rfl | rfl <;> simp
    have HE2 := hidp (HE.out.trans hE)
    clear hE
    rcases hz with rfl | rfl
    · go_enter Tryz.func160, Tryz.ntmps160
      go_wp2_with fail
      refine (r4Page_c 1 4 s _).mono ?_
      rintro e w2 ⟨rfl, hb2⟩
      rw [HP.out]
      go_wp2_with fail
      refine (r5Slots_c k h0 h1 _).mono ?_
      rintro e w1 ⟨rfl, rfl⟩
      rw [HN.out]
      go_wp2
      go_ret
      exact ⟨by rw [HE2.out]; rfl, hb2⟩
    · have hn0 : ¬ n = 0 ∨ n = 0 := by omega
      rcases hn0 with hn0 | rfl
      all_goals
        go_enter Tryz.func160, Tryz.ntmps160
        go_wp2_with fail
        refine (r4Page_c 1 4 s _).mono ?_
        rintro e w2 ⟨rfl, hb2⟩
        rw [HP.out]
        go_wp2_with fail
        refine (r5Slots_c k h0 h1 _).mono ?_
        rintro e w1 ⟨rfl, rfl⟩
        rw [HN.out]
        go_wp2
        go_ret
        exact ⟨by rw [HE2.out]; rfl, hb2⟩
  · have hq : ((p : Int).tdiv n) = ((p / n : Nat) : Int) := by rw [Int.tdiv_eq_ediv_of_nonneg (by omega)]; norm_cast
    have hq1 : p / n ≤ 1048576 := Nat.le_trans (Nat.div_le_self _ _) hp1
    obtain ⟨q, hqq⟩ : ∃ q, p / n = q := ⟨_, rfl⟩
    rw [hqq] at hq hq1
    have HQ := hidp hqq
    have hn2 : ¬ n = 0 := by omega
    have hp2 : ¬ p = 0 := by omega
    have hn3 : ((n : Int) == 0) = false := by simpa using hn2
    have hp3 : ((p : Int) == 0) = false := by simpa using hp2
    clear hqq hz
    go_enter Tryz.func160, Tryz.ntmps160
    go_wp2_with fail
    refine (r4Page_c 1 4 s _).mono ?_
    rintro e w2 ⟨rfl, hb2⟩
    rw [HP.out]
    go_wp2_with fail
    refine (r5Slots_c k h0 h1 _).mono ?_
    rintro e w1 ⟨rfl, rfl⟩
    rw [HN.out]
    go_wp2
    go_ret
    refine ⟨?_, hb2⟩
    rw [HE.out, HQ.out]
    refine ret_int ?_
    omega
end
section
theorem Held.drew {w : World} {g : Nat} {t : TypeId} {cs : Array Value} (h : Held w g t cs) : Held w.drew g t cs := h
structure HeapV (H : AuH) (n c : Nat) : Prop where
  right : rightB H.t H.p H.s = true
  len : n = 30 + 4 * H.t + 6 * H.p
  cap : n ≤ c
  max : c ≤ maxLen
  lt : ∀ i, i < n → H.V i < 2 ^ 32
def IsVals (w : World) (ad : Addr) (n : Nat) (V : Nat → Nat) : Prop := ad.block < w.heap.size ∧ ∀ i, i < n → w.cell? (ad.add i) = some (.int .u32 (V i : Nat))
theorem IsVals.below {w w' : World} {ad : Addr} {n : Nat} {V : Nat → Nat} (h : IsVals w ad n V) (hb : Below w.heap.size w w') : IsVals w' ad n V :=
  ⟨Nat.lt_of_lt_of_le h.1 hb.size, fun i hi => by
    have e : (ad.add i).block < w.heap.size := by rw [block_of_add]; exact h.1
    exact (hb.cell e).trans (h.2 i hi)⟩
theorem IsVals.drew {w : World} {ad : Addr} {n : Nat} {V : Nat → Nat} (h : IsVals w ad n V) : IsVals w.drew ad n V := h
theorem HeapV.nums {H : AuH} {n c : Nat} (h : HeapV H n c) : 1 ≤ H.t ∧ H.t ≤ 16 ∧ 4 ≤ H.p ∧ H.p ≤ 1024 ∧ 10 ≤ H.s ∧ H.s ≤ 20 ∧ n ≤ 6238 ∧ n ≤ c ∧ c ≤ maxLen := by
  have h1 := (rightB_iff _ _ _).1 h.right
  have h2 := h.len
  have h3 := h.cap
  have h4 := h.max
  omega
theorem HeapV.cel_lt {H : AuH} {n c : Nat} (h : HeapV H n c) {q b : Nat} (hq : q < H.p) (hb : b < 6) : H.cel q b < 2 ^ 32 := h.lt _ (by have := h.len; omega)
theorem HeapV.page {H : AuH} {n c : Nat} (h : HeapV H n c) {q b : Nat} (hq : q < H.p) (hb : b < 6) : pageI H.t H.p H.s q b = ((30 + 4 * H.t + 6 * q + b : Nat) : Int) := by
  rw [pcell_yes h.right (by omega) (by omega) (by omega) (by omega)]
  push_cast
  omega
def hpV (H : AuH) (ad : Addr) (n c : Nat) : Value := .agg #[.int .i64 (H.t : Int), .int .i64 (H.p : Int), .int .i64 (H.s : Int), .slice (some ad) n c]
end
end Go.Proofs.YtioolaaphbddbaaGreatDoor

namespace Go.Proofs.YtioolaaphbddbaaGreatDoor
open Go.ChangeShapes Go.WideShapes Go.ChangeAt Go.RowKit Go.Maps
set_option linter.unusedVariables false
section
abbrev inR (l : Nat) : Fence := Fence.wide.inRound l
section
variable {P : Program} {ops : Array Oper} {Q : Exit → Act → World → Prop} {md : Region.Mode} {l n : Nat}
end

structure Mild (D : Nat) (w w' : World) : Prop where
  os : w'.os = w.os
  tape : w'.tape = w.tape
  output : w'.output = w.output
  size : w.heap.size ≤ w'.heap.size
  low : ∀ k, k < D → w'.heap[k]? = w.heap[k]?
  cells : ∀ (k : Nat) (o : Obj), w.heap[k]? = some o → o.isCells = true → w'.heap[k]? = some o
section
variable {D : Nat} {w w' w'' : World}
theorem Mild.refl (D : Nat) (w : World) : Mild D w w := ⟨rfl, rfl, rfl, Nat.le_refl _, fun _ _ => rfl, fun _ _ h _ => h⟩
theorem Mild.trans (h : Mild D w w') (k : Mild D w' w'') : Mild D w w'' :=
  ⟨k.os.trans h.os, k.tape.trans h.tape, k.output.trans h.output, Nat.le_trans h.size k.size, fun i hi => (k.low i hi).trans (h.low i hi), fun i o hi ho => k.cells i o (h.cells i o hi ho) ho⟩
theorem Mild.of_below (hD : D ≤ w.heap.size) (h : Below w.heap.size w w') : Mild D w w' :=
  ⟨h.os, h.tape, h.output, h.size, fun k hk => h.block k (by omega), fun k o hk _ => (h.block k (Array.getElem?_eq_some_iff.1 hk).1).trans hk⟩
theorem Mild.put {l : Nat} {o : Obj} (o' : Obj) (hl : D ≤ l) (h : w.heap[l]? = some o) (ho : o.isCells = false) : Mild D w (w.putObj l o') :=
  ⟨rfl, rfl, rfl, by simp, fun k hk => World.putObj_heap_other (by omega), fun k o2 hk ho2 => by
    by_cases e : k = l
    · subst e; rw [h] at hk; cases hk; rw [ho] at ho2; cases ho2
    · exact (World.putObj_heap_other e).trans hk⟩
theorem Mild.below {W : World} (h : Mild D w w') (hb : Below W.heap.size W w) (hD : W.heap.size ≤ D) : Below W.heap.size W w' :=
  ⟨h.os.trans hb.os, h.tape.trans hb.tape, h.output.trans hb.output, Nat.le_trans hb.size h.size, fun k hk => (h.low k (by omega)).trans (hb.block k hk)⟩
theorem Mild.held {g : Nat} {t : TypeId} {cs : Array Value} (h : Mild D w w') (hg : Held w g t cs) : Held w' g t cs := h.cells g _ hg rfl
theorem Mild.own {base : Nat} {e : TypeId} {size : Nat} {v : Value} {n : Nat} {xs : List Value} (h : Mild D w w') (ho : w.ownsRow base e size v n xs) : w'.ownsRow base e size v n xs := by
  refine ⟨ho.1, ?_⟩
  rcases ho.2 with h2 | ⟨g, cap, cur, rfl, hbg, hg, hr⟩
  · exact .inl h2
  · exact .inr ⟨g, cap, cur, rfl, hbg, h.cells g _ hg rfl, hr⟩
end

def SeqAt (P : Program) (gf : Nat) (bound : Array Value) (enc : Nat → Array Value) (can : Nat → Bool) (next : Nat → Nat) (w0 : World) : Prop :=
  ∀ (l : Nat) (J : Nat → (Nat → Prop) → World → Prop) (Jx : World → Prop) (W : World) (F0 : Nat → Prop), Below w0.heap.size w0 W →
    (∀ pos F A B, J pos F A → Below A.heap.size A B → J pos F B) → (∀ A B, Jx A → Below A.heap.size A B → Jx B) →
    (∀ pos F A, J pos F A → Below w0.heap.size w0 A) → (∀ pos F A, J pos F A → ∀ i, F i → i < A.heap.size) →
    (∀ pos F A, J pos F A → W.heap.size ≤ A.heap.size → can pos = true → YieldAt Fence.wide 0 P l (enc pos) A fun e B =>
      (e = .returned (.bool true) ∧ ∃ F', J (next pos) F' B ∧ A.heap.size ≤ B.heap.size ∧ (∀ k, W.heap.size ≤ k → k < A.heap.size → ¬ F k → B.heap[k]? = A.heap[k]?) ∧ ∀ i, F' i → F i ∨ A.heap.size ≤ i) ∨
      (e = .returned (.bool false) ∧ Jx B)) →
    J 0 F0 W →
    CallsIn Fence.wide 0 P gf (bound ++ #[.func (.yield l) #[] #[]]) W fun e B => (∃ v, e = .returned v) ∧ ((∃ pos F, J pos F B ∧ can pos = false) ∨ Jx B)

def seqPost (I : Nat → (Nat → Prop) → World → Prop) (Ix : Code → World → Prop) (pos : Nat) (F : Nat → Prop) (N : Nat) (A : World) : Exit → Act → World → Prop
  | .normal, _, B => Turns F A B ∧ ∃ F', I pos F' B ∧ ∀ i, F' i → F i ∨ N ≤ i
  | .ret, _, B => Turns F A B ∧ Ix .ret B
  | .exit id, _, B => Turns F A B ∧ Ix (.exit id) B
  | .goto t, _, B => Turns F A B ∧ Ix (.goto t) B
  | .panic _, _, _ => False
  | .outgrown, _, _ => False

def RoundGo (D : Nat) (P : Program) (l : Nat) (body : Code) (Q : World → Exit → Act → World → Prop) (A : World) (a₁ : Act) (A₁ : World) : Prop :=
  Below A.heap.size A A₁ ∧ ∀ A₂, Mild D A₁ A₂ → A₂.heap.size = A₁.heap.size → body.wpIn (inR l) 0 P (Q A₂) a₁ A₂

def mark (D : Nat) : Deferred := { target := .collected D, args := #[] }

theorem wp_seq {P : Program} {g : Operand} {ps : Array Tmp} {assign body : Code} {Q : Exit → Act → World → Prop} {a : Act} {w : World} {gf : Nat} {bound : Array Value}
    (hg : a.eval g = .func (.func gf) bound #[]) (eg : ∀ args w, (callFunc gf args).run P w = .ok (.enter gf args) w)
    {enc : Nat → Array Value} {can : Nat → Bool} {next : Nat → Nat} {w0 : World} (hseq : SeqAt P gf bound enc can next w0) (hb0 : Below w0.heap.size w0 w) (hps : ∀ pos, (enc pos).size = ps.size)
    (I : Nat → (Nat → Prop) → World → Prop) (Ix : Code → World → Prop)
    (hI : ∀ pos F A B, I pos F A → Mild w.heap.size A B → I pos F B) (hIx : ∀ c A B, Ix c A → Mild w.heap.size A B → Ix c B)
    (hIB : ∀ pos F A, I pos F A → Below w0.heap.size w0 A) (hIF : ∀ pos F A, I pos F A → ∀ i, F i → ∃ o, A.heap[i]? = some o ∧ o.isCells = true)
    {F0 : Nat → Prop} (h0 : I 0 F0 w)
    (hround : ∀ (l pos : Nat) (F : Nat → Prop) (A : World), can pos = true → I pos F A → w.heap.size ≤ A.heap.size →
      assign.wpIn (inR l) 0 P (Exit.then (RoundGo w.heap.size P l body (seqPost I Ix (next pos) F A.heap.size) A) (fun _ _ _ => False))
        { tmps := (ps.zip (enc pos)).foldl (fun t (p, v) => t.setIfInBounds p v) a.tmps, defers := [] } A)
    (hdone : ∀ (D pos : Nat) (F : Nat → Prop) (A : World), w.heap.size ≤ D → can pos = false → I pos F A → A.heap[D]? = some (.deferred (some [])) → Q .normal { a with defers := mark D :: a.defers } A)
    (hstop : ∀ (D : Nat) (c : Code) (A : World), w.heap.size ≤ D → Ix c A → A.heap[D]? = some (.deferred (some [])) → c.wp P Q { a with defers := mark D :: a.defers } A) :
    (Code.rangeFunc g ps assign body).wp P Q a w := by
  refine (wpIn_wide (n := 1)).1 (wpIn_rangeFunc ?_)
  intro fn hfn
  obtain ⟨rec, hrec⟩ : ∃ rec : LoopState → Option Code → Loop, rec = fun st pe => { state := st, pending := pe, fn, tmps := a.tmps, params := ps, assign, body, defers := w.heap.size } := ⟨_, rfl⟩
  obtain ⟨W1, hW1⟩ : ∃ W1, (w.alloc (.deferred (some []))).alloc (.loop (rec .ready none)) = W1 := ⟨_, rfl⟩
  have hbw : Below w.heap.size w W1 := by rw [← hW1]; exact Bnew (Bnew (B0 w) _) _
  have hs1 : W1.heap.size = w.heap.size + 2 := by rw [← hW1]; simp
  have hL1 : W1.heap[w.heap.size + 1]? = some (.loop (rec .ready none)) := by
    have := heap_alloc_new (w.alloc (.deferred (some []))) (.loop (rec .ready none))
    rw [hW1] at this; simpa using this
  have hK1 : W1.heap[w.heap.size]? = some (.deferred (some [])) := by
    rw [← hW1]; exact (Below.heap_alloc _ _ _ (by simp)).trans (heap_alloc_new w _)
  refine ⟨w.heap.size + 1, [mark w.heap.size], W1, { target := .fn (.func gf) #[], args := bound ++ #[.func (.yield (w.heap.size + 1)) #[] #[]] }, W1, gf, bound ++ #[.func (.yield (w.heap.size + 1)) #[] #[]], W1, ?_, ?_, ?_, ?_, fun _ => Nat.le_refl _, ?_⟩
  · rw [← hW1, hrec]; exact run_enterLoop_outer _ _ _ _ _
  · simp only [resolve, hg]
    simp [go_sem]
  · intro f' hf'; exact trivial
  · simp [invoke, go_sem, eg]
  · have keepRow : ∀ {A B : World} {k : Nat} {o : Obj}, Below A.heap.size A B → A.heap[k]? = some o → B.heap[k]? = some o := fun hb hk => (hb.block _ (Array.getElem?_eq_some_iff.1 hk).1).trans hk
    refine (hseq (w.heap.size + 1)
      (fun pos F A => I pos F A ∧ w.heap.size ≤ A.heap.size ∧ A.heap[w.heap.size + 1]? = some (.loop (rec .ready none)) ∧ A.heap[w.heap.size]? = some (.deferred (some [])))
      (fun A => ∃ c, Ix c A ∧ w.heap.size ≤ A.heap.size ∧ A.heap[w.heap.size + 1]? = some (.loop (rec .done (some c))) ∧ A.heap[w.heap.size]? = some (.deferred (some [])))
      W1 F0 (hb0.trans (hbw.mono hb0.size))
      (fun pos F A B h hb => ⟨hI pos F A B h.1 (Mild.of_below h.2.1 hb), Nat.le_trans h.2.1 hb.size, keepRow hb h.2.2.1, keepRow hb h.2.2.2⟩)
      (fun A B h hb => by obtain ⟨c, h1, h2, h3, h4⟩ := h; exact ⟨c, hIx c A B h1 (Mild.of_below h2 hb), Nat.le_trans h2 hb.size, keepRow hb h3, keepRow hb h4⟩)
      (fun pos F A h => hIB pos F A h.1)
      (fun pos F A h i hi => by obtain ⟨o, ho, _⟩ := hIF pos F A h.1 i hi; exact (Array.getElem?_eq_some_iff.1 ho).1)
      ?_ ⟨hI 0 F0 w W1 h0 (Mild.of_below (Nat.le_refl _) hbw), hbw.size, hL1, hK1⟩).mono ?_
    · rintro pos F A ⟨hi, hsz, hl, hk⟩ hsA hc
      have hlt : w.heap.size + 1 < A.heap.size := (Array.getElem?_eq_some_iff.1 hl).1
      have hy := run_yield (P := P) (args := enc pos) hl (by rw [hrec]; exact hps pos)
      rw [hrec] at hy
      have hFl : ¬ F (w.heap.size + 1) := fun hf => by obtain ⟨o, ho, hoc⟩ := hIF pos F A hi _ hf; rw [hl] at ho; cases ho; cases hoc
      have hFk : ¬ F w.heap.size := fun hf => by obtain ⟨o, ho, hoc⟩ := hIF pos F A hi _ hf; rw [hk] at ho; cases ho; cases hoc
      refine ⟨fn, _, assign, body, hy, roundIn_of_wpIn hfn (wpIn_mono (hround _ pos F A hc hi hsz) ?_)⟩
      rintro e a₁ A₁ hg1
      cases e with
      | normal =>
        obtain ⟨hbA, hgo⟩ := hg1
        have hl1 := keepRow hbA hl
        have hk1 := keepRow hbA hk
        have hlt1 : w.heap.size + 1 < A₁.heap.size := (Array.getElem?_eq_some_iff.1 hl1).1
        refine ⟨_, run_beginRound hl1 (by rw [hrec]), ?_⟩
        obtain ⟨A₂, hA₂⟩ : ∃ A₂, A₁.putObj (w.heap.size + 1) (.loop { rec .ready none with state := .busy }) = A₂ := ⟨_, rfl⟩
        have hl2 : A₂.heap[w.heap.size + 1]? = some (.loop { rec .ready none with state := .busy }) := by rw [← hA₂]; exact World.putObj_heap_same hlt1
        have hk2 : A₂.heap[w.heap.size]? = some (.deferred (some [])) := by rw [← hA₂]; exact (World.putObj_heap_other (by omega)).trans hk1
        have hM2 : Mild w.heap.size A₁ A₂ := by rw [← hA₂]; exact Mild.put _ (by omega) hl1 rfl
        have hs2 : A₂.heap.size = A₁.heap.size := by rw [← hA₂]; simp
        have hrows : ∀ k, W1.heap.size ≤ k → k < A.heap.size → A₂.heap[k]? = A.heap[k]? := fun k h1 h2 => by
          rw [← hA₂]; exact (World.putObj_heap_other (by omega)).trans (hbA.block k h2)
        rw [hA₂]
        refine wpIn_mono (hgo A₂ hM2 hs2) ?_
        have fin : ∀ (jump : Option Code) (B : World), Turns F A₂ B → (Instr.endRound (w.heap.size + 1) jump).run P B = .ok (.bool jump.isNone) (B.putObj (w.heap.size + 1) (.loop (rec (if jump.isNone then .ready else .done) jump))) ∧
            Mild w.heap.size B (B.putObj (w.heap.size + 1) (.loop (rec (if jump.isNone then .ready else .done) jump))) ∧
            (B.putObj (w.heap.size + 1) (.loop (rec (if jump.isNone then .ready else .done) jump))).heap[w.heap.size + 1]? = some (.loop (rec (if jump.isNone then .ready else .done) jump)) ∧
            (B.putObj (w.heap.size + 1) (.loop (rec (if jump.isNone then .ready else .done) jump))).heap[w.heap.size]? = some (.deferred (some [])) := fun jump B hT => by
          have hl3 := (hT.block _ (Array.getElem?_eq_some_iff.1 hl2).1 hFl).trans hl2
          have hk3 := (hT.block _ (Array.getElem?_eq_some_iff.1 hk2).1 hFk).trans hk2
          have := run_endRound (P := P) jump hl3
          rw [hrec] at this ⊢
          exact ⟨this, Mild.put _ (by omega) hl3 rfl, World.putObj_heap_same (Array.getElem?_eq_some_iff.1 hl3).1, (World.putObj_heap_other (by omega)).trans hk3⟩
        rintro e a3 B hp
        cases e with
        | normal =>
          obtain ⟨hT, F', hi3, hF'⟩ := hp
          obtain ⟨hr, hm, hl4, hk4⟩ := fin none B hT
          have hsB : A.heap.size ≤ B.heap.size := by have := hT.size; have := hbA.size; omega
          refine ⟨_, _, hr, .inl ⟨rfl, F', ⟨hI _ _ _ _ hi3 hm, ?_, hl4, hk4⟩, by simpa using hsB, fun k h1 h2 hf => ?_, hF'⟩⟩
          · have := hm.size; omega
          · rw [World.putObj_heap_other (by omega), hT.block k (by have := hbA.size; omega) hf]; exact hrows k h1 h2
        | ret =>
          obtain ⟨hT, hx⟩ := hp
          obtain ⟨hr, hm, hl4, hk4⟩ := fin (some .ret) B hT
          exact ⟨_, _, hr, .inr ⟨rfl, .ret, hIx _ _ _ hx hm, by have := hm.size; have := hT.size; have := hbA.size; omega, hl4, hk4⟩⟩
        | exit id =>
          obtain ⟨hT, hx⟩ := hp
          obtain ⟨hr, hm, hl4, hk4⟩ := fin (some (.exit id)) B hT
          exact ⟨_, _, hr, .inr ⟨rfl, .exit id, hIx _ _ _ hx hm, by have := hm.size; have := hT.size; have := hbA.size; omega, hl4, hk4⟩⟩
        | goto t =>
          obtain ⟨hT, hx⟩ := hp
          obtain ⟨hr, hm, hl4, hk4⟩ := fin (some (.goto t)) B hT
          exact ⟨_, _, hr, .inr ⟨rfl, .goto t, hIx _ _ _ hx hm, by have := hm.size; have := hT.size; have := hbA.size; omega, hl4, hk4⟩⟩
        | panic ch => exact hp.elim
        | outgrown => exact hp.elim
      | exit id => exact hg1.elim
      | goto t => exact hg1.elim
      | ret => exact hg1.elim
      | panic ch => exact hg1.elim
      | outgrown => exact hg1.elim
    · rintro e B ⟨⟨v, rfl⟩, (⟨pos, F, ⟨hi, hsz, hl, hk⟩, hc⟩ | ⟨c, hx, hsz, hl, hk⟩)⟩
      · have hm : Mild w.heap.size B (B.putObj (w.heap.size + 1) (.loop { rec .ready none with state := .exhausted })) := Mild.put _ (by omega) hl rfl
        exact ⟨none, _, by have := run_endLoop (P := P) hl (by rw [hrec]; simp); rw [hrec] at this ⊢; exact this, hdone _ pos F _ (Nat.le_refl _) hc (hI _ _ _ _ hi hm) ((World.putObj_heap_other (by omega)).trans hk)⟩
      · have hm : Mild w.heap.size B (B.putObj (w.heap.size + 1) (.loop { rec .done (some c) with state := .exhausted })) := Mild.put _ (by omega) hl rfl
        exact ⟨some c, _, by have := run_endLoop (P := P) hl (by rw [hrec]; simp); rw [hrec] at this ⊢; exact this, wpIn_wide.2 (hstop _ c _ (Nat.le_refl _) (hIx _ _ _ hx hm) ((World.putObj_heap_other (by omega)).trans hk))⟩
end
end Go.Proofs.YtioolaaphbddbaaGreatDoor

namespace Go.Proofs.YtioolaaphbddbaaGreatDoor
open Go.ChangeShapes Go.WideShapes Go.ChangeAt Go.RowKit Go.Shelf
set_option linter.unusedVariables false
set_option linter.unusedSimpArgs false
section
theorem Held.one {w : World} {g : Nat} {t : TypeId} {c0 : Value} (h : Held w g t #[c0]) : w.cell? ⟨g, 0, none⟩ = some c0 ∧ w.frozen? ⟨g, 0, none⟩ = false := ⟨h.cell 0, h.thawed 0⟩
theorem bool_no {b : Bool} {p : Prop} (hb : b = true ↔ p) (h : ¬ p) : b = false := by cases b; rfl; exact absurd (hb.1 rfl) h
theorem bool_yes {b : Bool} {p : Prop} (hb : b = true ↔ p) (h : p) : b = true := hb.2 h

section
attribute [local go_sem] Oper.semAt_some
end
end
end Go.Proofs.YtioolaaphbddbaaGreatDoor

namespace Go.Proofs.YtioolaaphbddbaaGreatDoor
open Go.ChangeShapes Go.WideShapes Go.ChangeAt Go.RowKit
set_option linter.unusedVariables false
set_option linter.unusedSimpArgs false
section
def slotKd (taken live s : Nat) : Nat := if live.testBit s then 2 else if taken.testBit s then 4 else 3
end
end Go.Proofs.YtioolaaphbddbaaGreatDoor

namespace Go.Proofs.YtioolaaphbddbaaGreatDoor
open Go.ChangeShapes Go.WideShapes Go.ChangeAt Go.RowKit Go.Shelf
set_option linter.unusedVariables false
set_option linter.unusedSimpArgs false
section
namespace AuH
def Foot (H : AuH) (q : Nat) : Prop := (∀ r, q ≤ r → r + 1 < q + H.ln q → H.cel r 1 = 0) ∧ H.cel (q + H.ln q - 1) 1 = q + 1
def R3 (H : AuH) : Prop := ∀ q, q < H.p → H.K q ≠ 0 → H.Foot q
end AuH
section
attribute [local go_sem] Oper.semAt_some

end
end
section
namespace AuH
def R4 (H : AuH) : Prop := ∀ q, H.At q → q < H.p → H.K q = 1 → H.nx q < H.p → H.K (H.nx q) ≠ 1
variable {H : AuH}
end AuH
section
attribute [local go_sem] Oper.semAt_some

end
end
section
def SubB (a b : Nat) : Prop := ∀ i, i < 32 → a.testBit i = true → b.testBit i = true
theorem sub_mask (a n : Nat) (ha : a < 2 ^ 32) (hn : n ≤ 32) : SubB a (2 ^ n - 1) ↔ a < 2 ^ n := by
  constructor
  · intro h
    apply Nat.lt_pow_two_of_testBit
    intro i hi
    rcases Nat.lt_or_ge i 32 with h2 | h2
    · cases hai : a.testBit i
      · rfl
      · have := h i h2 hai
        rw [Nat.testBit_two_pow_sub_one] at this
        have := of_decide_eq_true this
        omega
    · exact Nat.testBit_lt_two_pow (Nat.lt_of_lt_of_le ha (Nat.pow_le_pow_right (by omega) h2))
  · intro h i hi hai
    rw [Nat.testBit_two_pow_sub_one]
    rcases Nat.lt_or_ge i n with h2 | h2
    · exact decide_eq_true h2
    · rw [Nat.testBit_lt_two_pow (Nat.lt_of_lt_of_le h (Nat.pow_le_pow_right (by omega) h2))] at hai; cases hai
theorem sub_zero (a : Nat) (ha : a < 2 ^ 32) : SubB a 0 ↔ a = 0 := by
  have := sub_mask a 0 ha (by omega)
  simpa using this
namespace AuH
def Slot5 (H : AuH) (q : Nat) : Prop := (H.K q = 3 → H.cel q 5 ≠ 0 ∧ H.cel q 5 < 2 ^ slotI (H.Cl q) ∧ SubB (H.cel q 4) (H.cel q 5)) ∧ (H.K q ≠ 3 → H.cel q 5 = 0 ∧ H.cel q 4 = 0)
def R5 (H : AuH) : Prop := ∀ q, q < H.p → H.Slot5 q
def may (H : AuH) (q : Nat) : Nat := if H.K q = 3 then 2 ^ slotI (H.Cl q) - 1 else 0
variable {H : AuH}
end AuH
section
attribute [local go_sem] Oper.semAt_some

end
end
section
namespace AuH
variable (H : AuH)
def freeF (q : Nat) : Nat := if H.K q = 1 then H.ln q else 0
def liveF (q : Nat) : Nat := if H.K q = 2 then 1 else if H.K q = 3 then HM.onesTo (H.cel q 4) 32 else 0
def R9 : Prop := H.V 0 = sumTo H.freeF H.p % 4294967296 ∧ H.V 1 = sumTo H.liveF H.p % 4294967296
variable {H}
theorem freeF_no {q : Nat} (h : H.K q = 0) : H.freeF q = 0 := by unfold freeF; rw [if_neg (by omega)]
theorem liveF_no {q : Nat} (h : H.K q = 0) : H.liveF q = 0 := by unfold liveF; rw [if_neg (by omega), if_neg (by omega)]
theorem freeF_le (q : Nat) : H.freeF q ≤ 1024 := by
  unfold freeF
  split
  · exact (H.ln_pos q (by omega)).2
  · omega
theorem liveF_le (q : Nat) : H.liveF q ≤ 32 := by
  unfold liveF
  split
  · omega
  · split
    · exact HM.onesTo_le _ _
    · omega
theorem sums_le (x : Nat) (hx : x ≤ 1024) : sumTo H.freeF x ≤ 1048576 ∧ sumTo H.liveF x ≤ 32768 := by
  have h1 := sumTo_le H.freeF 1024 x (fun q _ => freeF_le q)
  have h2 := sumTo_le H.liveF 32 x (fun q _ => liveF_le q)
  have h3 : x * 1024 ≤ 1024 * 1024 := Nat.mul_le_mul_right _ hx
  have h4 : x * 32 ≤ 1024 * 32 := Nat.mul_le_mul_right _ hx
  omega
end AuH
section
attribute [local go_sem] Oper.semAt_some

end
end
section
namespace AuH
def tgt (H : AuH) (q : Nat) : Int := if H.K q = 1 then 2 + HM.logI (H.ln q : Int) else if H.K q = 3 ∧ H.cel q 5 ≠ 2 ^ slotI (H.Cl q) - 1 then 13 + H.Cl q else -1
variable {H : AuH}
theorem tgt_free {q : Nat} (h : H.K q = 1) : H.tgt q = 2 + HM.logI (H.ln q : Int) := by unfold tgt; rw [if_pos h]
theorem tgt_slab {q : Nat} (h : H.K q = 3) (h2 : H.cel q 5 ≠ 2 ^ slotI (H.Cl q) - 1) : H.tgt q = 13 + H.Cl q := by unfold tgt; rw [if_neg (by omega), if_pos ⟨h, h2⟩]
theorem tgt_full {q : Nat} (h : H.K q = 3) (h2 : H.cel q 5 = 2 ^ slotI (H.Cl q) - 1) : H.tgt q = -1 := by unfold tgt; rw [if_neg (by omega), if_neg (fun h3 => h3.2 h2)]
theorem tgt_used {q : Nat} (h : H.K q = 2) : H.tgt q = -1 := by unfold tgt; rw [if_neg (by omega), if_neg (by omega)]
theorem tgt_none {q : Nat} (h : H.K q = 0) : H.tgt q = -1 := by unfold tgt; rw [if_neg (by omega), if_neg (by omega)]
theorem log_few {n : Nat} (h1 : 1 ≤ n) (h2 : n ≤ 1024) : 0 ≤ HM.logI (n : Int) ∧ HM.logI (n : Int) ≤ 10 := by
  have h : ∃ k : Nat, k ≤ 10 ∧ 2 ^ k ≤ n ∧ n < 2 ^ (k + 1) := by
    rcases Nat.lt_or_ge n 1024 with h3 | h3
    · refine ⟨Nat.log2 n, ?_, Nat.log2_self_le (by omega), Nat.lt_log2_self⟩
      have := Nat.log2_lt (n := n) (k := 10) (by omega)
      have := this.2 h3
      omega
    · exact ⟨10, by omega, by omega, by omega⟩
  obtain ⟨k, hk, ha, hb⟩ := h
  rw [HM.logI_at (n : Int) k (by
    have e : ((n : Int) / 2 ^ k) = ((n / 2 ^ k : Nat) : Int) := by push_cast; rfl
    rw [e]
    have := Nat.div_le_div_right (c := 2 ^ k) ha
    rw [Nat.div_self (Nat.two_pow_pos k)] at this
    omega) (by
    have e : ((n : Int) / 2 ^ (k + 1)) = ((n / 2 ^ (k + 1) : Nat) : Int) := by push_cast; rfl
    rw [e, Nat.div_eq_of_lt hb]
    omega)]
  omega
end AuH
section
attribute [local go_sem] Oper.semAt_some

end
end
section
namespace AuH
variable (H : AuH)
def chain (head : Int) : Nat → Nat → Nat → Prop
  | 0, at_, _ => at_ = 0
  | m + 1, at_, ahead => (1 ≤ at_ ∧ at_ ≤ H.p ∧ H.tgt (at_ - 1) = head ∧ H.cel (at_ - 1) 3 = ahead) ∧ chain head m (H.cel (at_ - 1) 2) at_
def isF (head : Int) (q : Nat) : Nat := if H.tgt q = head then 1 else 0
def cnt (head : Int) (x : Nat) : Nat := sumTo (H.isF head) x
def ListOk (head : Nat) : Prop := H.chain head (H.cnt head H.p) (H.V head) 0
variable {H}
end AuH
end
section
namespace AuH
def R8 (H : AuH) : Prop := ∀ q, q < H.p → H.tgt q = -1 → H.cel q 2 = 0 ∧ H.cel q 3 = 0
end AuH
end
section
namespace AuH
variable (H : AuH)
def LiveAt (a : Int) : Prop := spotB H.t H.p H.s a = true ∧
  ((H.K (spotP H.t H.p H.s a).toNat = 2 ∧ spotO H.t H.p H.s a = 0) ∨
   (H.K (spotP H.t H.p H.s a).toNat = 3 ∧ slotB H.t H.p H.s (H.Cl (spotP H.t H.p H.s a).toNat) (spotO H.t H.p H.s a) = true ∧
     (H.cel (spotP H.t H.p H.s a).toNat 4).testBit (slotR H.t H.p H.s (H.Cl (spotP H.t H.p H.s a).toNat) (spotO H.t H.p H.s a)).toNat = true))
def R10 : Prop := ∀ i, i < 8 → H.V (22 + i) ≠ 0 → H.LiveAt (H.V (22 + i) : Int)
end AuH

def rootsV (H : AuH) : Value := .agg #[.int .i64 (H.V 22 : Nat), .int .i64 (H.V 23 : Nat), .int .i64 (H.V 24 : Nat), .int .i64 (H.V 25 : Nat), .int .i64 (H.V 26 : Nat), .int .i64 (H.V 27 : Nat), .int .i64 (H.V 28 : Nat), .int .i64 (H.V 29 : Nat)]
end
section
def AuH.rule (H : AuH) : Nat → Prop
  | 1 => H.Tiled
  | 2 => H.R3
  | 3 => H.R4
  | 4 => H.R5
  | 5 => ∀ k, k < 11 → H.ListOk (2 + k)
  | 6 => ∀ k, k < 9 → H.ListOk (13 + k)
  | 7 => H.R8
  | 8 => H.R9
  | 9 => H.R10
  | _ => True
def AuH.Told (H : AuH) (m : Nat) (b : Bool) : Prop := (b = true ∧ m = 0 ∧ ∀ i, i < 10 → H.rule i) ∨ (b = false ∧ ∃ k, m = k + 1 ∧ 1 ≤ k ∧ k < 10 ∧ (∀ i, i < k → H.rule i) ∧ ¬ H.rule k)
theorem AuH.Told.one {H : AuH} {m m' : Nat} {b b' : Bool} (h : H.Told m b) (h' : H.Told m' b') : m = m' ∧ b = b' := by
  rcases h with ⟨rfl, rfl, h1⟩ | ⟨rfl, k, rfl, k1, k2, h1, h2⟩ <;> rcases h' with ⟨rfl, rfl, h3⟩ | ⟨rfl, j, rfl, j1, j2, h3, h4⟩
  · exact ⟨rfl, rfl⟩
  · exact absurd (h1 j j2) h4
  · exact absurd (h3 k k2) h2
  · rcases Nat.lt_trichotomy k j with h5 | h5 | h5
    · exact absurd (h3 k h5) h2
    · subst h5; exact ⟨rfl, rfl⟩
    · exact absurd (h1 j h5) h4
theorem first_no (R : Nat → Prop) : ∀ n, (∀ i, i < n → R i) ∨ ∃ k, k < n ∧ (∀ i, i < k → R i) ∧ ¬ R k
  | 0 => .inl fun i h => absurd h (by omega)
  | n + 1 => by
    rcases first_no R n with h | ⟨k, h1, h2, h3⟩
    · by_cases hn : R n
      · exact .inl fun i hi => by
          rcases Nat.lt_or_ge i n with h4 | h4
          · exact h i h4
          · have : i = n := by omega
            subst this; exact hn
      · exact .inr ⟨n, by omega, h, hn⟩
    · exact .inr ⟨k, by omega, h2, h3⟩
theorem AuH.told_is (H : AuH) : ∃ m b, H.Told m b := by
  rcases first_no H.rule 10 with h | ⟨k, h1, h2, h3⟩
  · exact ⟨0, true, .inl ⟨rfl, rfl, h⟩⟩
  · refine ⟨k + 1, false, .inr ⟨rfl, k, rfl, ?_, h1, h2, h3⟩⟩
    rcases Nat.eq_zero_or_pos k with h6 | h6
    · subst h6; exact absurd trivial h3
    · exact h6
end
section
set_option maxHeartbeats 1600000 in
theorem xSlots_c {H : AuH} {n c : Nat} (HV : HeapV H n c) (ad : Addr) {q : Nat} (hq : q < H.p) (w : World) (hv : IsVals w ad n H.V) :
    Calls Tryz.prog 55 #[hpV H ad n c, .int .i64 (q : Int)] w fun e w' => e = .returned (.int .u32 (H.cel q 4 : Nat)) ∧ Below w.heap.size w w' := by
  obtain ⟨i, hii⟩ : ∃ i, 30 + 4 * H.t + 6 * q + 4 = i := ⟨_, rfl⟩
  have hini : i < n := by have := HV.len; omega
  have HI : Hid (pageI H.t H.p H.s q 4 = (i : Int)) := hidp (by have h := HV.page (b := 4) hq (by omega); rw [hii] at h; exact h)
  have h32i := HV.cel_lt hq (show 4 < 6 by omega)
  have hceli : H.cel q 4 = H.V i := by unfold AuH.cel; rw [hii]
  obtain ⟨v, hvvv⟩ : ∃ v, H.cel q 4 = v := ⟨_, rfl⟩
  have HCv := hidp hvvv
  rw [hvvv] at h32i
  have hci := (hv).2 i hini
  rw [← hceli, hvvv] at hci
  have hbli : (ad.add i).block < w.heap.size := by rw [block_of_add]; exact (hv).1
  have hn := HV.nums
  have hcx : c ≤ 9223372036854775807 := hn.2.2.2.2.2.2.2.2
  have hni : n ≤ 6238 := hn.2.2.2.2.2.2.1
  have hnc := HV.cap
  rw [hvvv]
  have hc := Held.new w 58 #[.int .i64 (H.t : Int), .int .i64 (H.p : Int), .int .i64 (H.s : Int), .slice (some ad) n c]
  have HS : Hid (∀ w', Below w.heap.size w w' → Held w' w.heap.size 58 #[.int .i64 (H.t : Int), .int .i64 (H.p : Int), .int .i64 (H.s : Int), .slice (some ad) n c] → (fun w' => w'.cell? ⟨w.heap.size, 0, none⟩ = some (.int .i64 (H.t : Int)) ∧ w'.cell? ⟨w.heap.size, 1, none⟩ = some (.int .i64 (H.p : Int)) ∧ w'.cell? ⟨w.heap.size, 2, none⟩ = some (.int .i64 (H.s : Int)) ∧ w'.cell? ⟨w.heap.size, 3, none⟩ = some (.slice (some ad) n c) ∧ w'.cell? (ad.add i) = some (.int .u32 (v : Int))) w') := hidp (fun w' hb hh => ⟨hh.four.1, hh.four.2.1, hh.four.2.2.1, hh.four.2.2.2, (hb.cell hbli).trans hci⟩)
  clear hv hci hbli hceli hvvv hii hn hq HCv h32i
  unfold hpV
  go_enter Tryz.func55, Tryz.ntmps55
  go_wp2_with fail
  refine wp_region_held_drew (S := (fun w' => w'.cell? ⟨w.heap.size, 0, none⟩ = some (.int .i64 (H.t : Int)) ∧ w'.cell? ⟨w.heap.size, 1, none⟩ = some (.int .i64 (H.p : Int)) ∧ w'.cell? ⟨w.heap.size, 2, none⟩ = some (.int .i64 (H.s : Int)) ∧ w'.cell? ⟨w.heap.size, 3, none⟩ = some (.slice (some ad) n c) ∧ w'.cell? (ad.add i) = some (.int .u32 (v : Int)))) (by kernel_rfl) ?_ (fun hHeld => ?_)
  · (try dsimp only)
    first | exact HS.out _ (Bdrew (Bnew (B0 w) _)) hc | exact HS.out _ HB1.out HC1.out | exact hHeld
  refine tkz 0 ?_
  refine tkz 1 ?_
  refine tkz 2 ?_
  refine tkz 3 ?_
  refine tkz 4 ?_
  refine wpAnyH_ready (rs := [5]) (by kernel_rfl) (by simp) ?_
  refine AllReadyH.cons (o := _) rfl (fun K hK => ?_) AllReadyH.nil
  go_simp
  (go_at_call 98; refine (r7Slots_c _ _ _ _ _).mono ?_; rintro e w1 ⟨rfl, hb1⟩; rw [HI.out]; have HB1 := hidp (Bgo (Bdrew (Bnew (B0 w) _)) hb1); have HC1 := hidp (hc.drew.keep hb1); clear hb1)
  refine hK.out _ _ ?_ (fun hHeld => ?_)
  · (try dsimp only)
    first | exact HS.out _ (Bdrew (Bnew (B0 w) _)) hc | exact HS.out _ HB1.out HC1.out | exact hHeld
  clear hK K
  (try simp only [Act.put, gA, gB, gC, sA, sB, sC])
  refine tkz 6 ?_
  refine tkz 7 ?_
  refine tkz 8 ?_
  refine wpAnyH_done (by kernel_rfl) ?_ _
  go_wp2
  go_ret
  exact ⟨rfl, HB1.out⟩

set_option maxHeartbeats 1600000 in
theorem xTaken_c {H : AuH} {n c : Nat} (HV : HeapV H n c) (ad : Addr) {q : Nat} (hq : q < H.p) (w : World) (hv : IsVals w ad n H.V) :
    Calls Tryz.prog 29 #[hpV H ad n c, .int .i64 (q : Int)] w fun e w' => e = .returned (.int .u32 (H.cel q 5 : Nat)) ∧ Below w.heap.size w w' := by
  obtain ⟨i, hii⟩ : ∃ i, 30 + 4 * H.t + 6 * q + 5 = i := ⟨_, rfl⟩
  have hini : i < n := by have := HV.len; omega
  have HI : Hid (pageI H.t H.p H.s q 5 = (i : Int)) := hidp (by have h := HV.page (b := 5) hq (by omega); rw [hii] at h; exact h)
  have h32i := HV.cel_lt hq (show 5 < 6 by omega)
  have hceli : H.cel q 5 = H.V i := by unfold AuH.cel; rw [hii]
  obtain ⟨v, hvvv⟩ : ∃ v, H.cel q 5 = v := ⟨_, rfl⟩
  have HCv := hidp hvvv
  rw [hvvv] at h32i
  have hci := (hv).2 i hini
  rw [← hceli, hvvv] at hci
  have hbli : (ad.add i).block < w.heap.size := by rw [block_of_add]; exact (hv).1
  have hn := HV.nums
  have hcx : c ≤ 9223372036854775807 := hn.2.2.2.2.2.2.2.2
  have hni : n ≤ 6238 := hn.2.2.2.2.2.2.1
  have hnc := HV.cap
  rw [hvvv]
  have hc := Held.new w 58 #[.int .i64 (H.t : Int), .int .i64 (H.p : Int), .int .i64 (H.s : Int), .slice (some ad) n c]
  have HS : Hid (∀ w', Below w.heap.size w w' → Held w' w.heap.size 58 #[.int .i64 (H.t : Int), .int .i64 (H.p : Int), .int .i64 (H.s : Int), .slice (some ad) n c] → (fun w' => w'.cell? ⟨w.heap.size, 0, none⟩ = some (.int .i64 (H.t : Int)) ∧ w'.cell? ⟨w.heap.size, 1, none⟩ = some (.int .i64 (H.p : Int)) ∧ w'.cell? ⟨w.heap.size, 2, none⟩ = some (.int .i64 (H.s : Int)) ∧ w'.cell? ⟨w.heap.size, 3, none⟩ = some (.slice (some ad) n c) ∧ w'.cell? (ad.add i) = some (.int .u32 (v : Int))) w') := hidp (fun w' hb hh => ⟨hh.four.1, hh.four.2.1, hh.four.2.2.1, hh.four.2.2.2, (hb.cell hbli).trans hci⟩)
  clear hv hci hbli hceli hvvv hii hn hq HCv h32i
  unfold hpV
  go_enter Tryz.func29, Tryz.ntmps29
  go_wp2_with fail
  refine wp_region_held_drew (S := (fun w' => w'.cell? ⟨w.heap.size, 0, none⟩ = some (.int .i64 (H.t : Int)) ∧ w'.cell? ⟨w.heap.size, 1, none⟩ = some (.int .i64 (H.p : Int)) ∧ w'.cell? ⟨w.heap.size, 2, none⟩ = some (.int .i64 (H.s : Int)) ∧ w'.cell? ⟨w.heap.size, 3, none⟩ = some (.slice (some ad) n c) ∧ w'.cell? (ad.add i) = some (.int .u32 (v : Int)))) (by kernel_rfl) ?_ (fun hHeld => ?_)
  · (try dsimp only)
    first | exact HS.out _ (Bdrew (Bnew (B0 w) _)) hc | exact HS.out _ HB1.out HC1.out | exact hHeld
  refine tkz 0 ?_
  refine tkz 1 ?_
  refine tkz 2 ?_
  refine tkz 3 ?_
  refine tkz 4 ?_
  refine wpAnyH_ready (rs := [5]) (by kernel_rfl) (by simp) ?_
  refine AllReadyH.cons (o := _) rfl (fun K hK => ?_) AllReadyH.nil
  go_simp
  (go_at_call 46; refine (r7Taken_c _ _ _ _ _).mono ?_; rintro e w1 ⟨rfl, hb1⟩; rw [HI.out]; have HB1 := hidp (Bgo (Bdrew (Bnew (B0 w) _)) hb1); have HC1 := hidp (hc.drew.keep hb1); clear hb1)
  refine hK.out _ _ ?_ (fun hHeld => ?_)
  · (try dsimp only)
    first | exact HS.out _ (Bdrew (Bnew (B0 w) _)) hc | exact HS.out _ HB1.out HC1.out | exact hHeld
  clear hK K
  (try simp only [Act.put, gA, gB, gC, sA, sB, sC])
  refine tkz 6 ?_
  refine tkz 7 ?_
  refine tkz 8 ?_
  refine wpAnyH_done (by kernel_rfl) ?_ _
  go_wp2
  go_ret
  exact ⟨rfl, HB1.out⟩

set_option maxHeartbeats 3200000 in
set_option maxRecDepth 100000 in
theorem xInfo_c {H : AuH} {n c : Nat} (HV : HeapV H n c) (ad : Addr) {q : Nat} (hq : q < H.p) (w : World) (hv : IsVals w ad n H.V) :
    Calls Tryz.prog 27 #[hpV H ad n c, .int .i64 (q : Int)] w fun e w' => e = .returned (.agg #[.int .i64 (H.K q), .int .i64 (H.ln q : Int), .int .i64 (H.Cl q)]) ∧ Below w.heap.size w w' := by
  obtain ⟨i, hii⟩ : ∃ i, 30 + 4 * H.t + 6 * q + 0 = i := ⟨_, rfl⟩
  have hini : i < n := by have := HV.len; omega
  have HI : Hid (pageI H.t H.p H.s q 0 = (i : Int)) := hidp (by have h := HV.page (b := 0) hq (by omega); rw [hii] at h; exact h)
  have h32i := HV.cel_lt hq (show 0 < 6 by omega)
  have hceli : H.cel q 0 = H.V i := by unfold AuH.cel; rw [hii]
  obtain ⟨v, hvvv⟩ : ∃ v, H.cel q 0 = v := ⟨_, rfl⟩
  have HCv := hidp hvvv
  rw [hvvv] at h32i
  have hci := (hv).2 i hini
  rw [← hceli, hvvv] at hci
  have hbli : (ad.add i).block < w.heap.size := by rw [block_of_add]; exact (hv).1
  have hn := HV.nums
  have hcx : c ≤ 9223372036854775807 := hn.2.2.2.2.2.2.2.2
  have hni : n ≤ 6238 := hn.2.2.2.2.2.2.1
  have hnc := HV.cap
  have hie := H.info_eq q
  rw [H.L_ln, hvvv] at hie
  generalize H.K q = k at *
  generalize H.ln q = m at *
  generalize H.Cl q = cl at *
  generalize H.ok q = okb at *
  have HG := hidp hie
  have hc := (Held.new w 58 #[.int .i64 (H.t : Int), .int .i64 (H.p : Int), .int .i64 (H.s : Int), .slice (some ad) n c]).alloc (.cells #[.int .i64 0, .int .i64 0, .int .i64 0] 60)
  have HR := hidp (Held.new2 w (.cells #[.int .i64 (H.t : Int), .int .i64 (H.p : Int), .int .i64 (H.s : Int), .slice (some ad) n c] 58) 60 #[.int .i64 0, .int .i64 0, .int .i64 0])
  have HBW := hidp (Bnew (Bnew (B0 w) (.cells #[.int .i64 (H.t : Int), .int .i64 (H.p : Int), .int .i64 (H.s : Int), .slice (some ad) n c] 58)) (.cells #[.int .i64 0, .int .i64 0, .int .i64 0] 60))
  have HS : Hid (∀ w', Below ((w.alloc (.cells #[.int .i64 (H.t : Int), .int .i64 (H.p : Int), .int .i64 (H.s : Int), .slice (some ad) n c] 58)).alloc (.cells #[.int .i64 0, .int .i64 0, .int .i64 0] 60)).heap.size ((w.alloc (.cells #[.int .i64 (H.t : Int), .int .i64 (H.p : Int), .int .i64 (H.s : Int), .slice (some ad) n c] 58)).alloc (.cells #[.int .i64 0, .int .i64 0, .int .i64 0] 60)) w' → (fun w' => w'.cell? ⟨w.heap.size, 0, none⟩ = some (.int .i64 (H.t : Int)) ∧ w'.cell? ⟨w.heap.size, 1, none⟩ = some (.int .i64 (H.p : Int)) ∧ w'.cell? ⟨w.heap.size, 2, none⟩ = some (.int .i64 (H.s : Int)) ∧ w'.cell? ⟨w.heap.size, 3, none⟩ = some (.slice (some ad) n c) ∧ w'.cell? (ad.add i) = some (.int .u32 (v : Int))) w') := hidp (fun w' hb => by have hh := hc.keep hb; exact ⟨hh.four.1, hh.four.2.1, hh.four.2.2.1, hh.four.2.2.2, ((Bgo HBW.out hb).cell hbli).trans hci⟩)
  clear hv hci hbli hceli hvvv hii hn hq HCv hie hc
  unfold hpV
  go_enter Tryz.func27, Tryz.ntmps27
  go_upto_region 1 with fail
  go_cut [5, 6] from 7 to 18 (fun u5 u6 wx => ∃ g : Nat, u5 = .pointer (some ⟨g, 0, none⟩) ∧ Held wx g 60 #[(.int .i64 k), (.int .i64 (m : Int)), (.int .i64 cl)] ∧ Below ((w.alloc (.cells #[.int .i64 (H.t : Int), .int .i64 (H.p : Int), .int .i64 (H.s : Int), .slice (some ad) n c] 58)).alloc (.cells #[.int .i64 0, .int .i64 0, .int .i64 0] 60)).heap.size ((w.alloc (.cells #[.int .i64 (H.t : Int), .int .i64 (H.p : Int), .int .i64 (H.s : Int), .slice (some ad) n c] 58)).alloc (.cells #[.int .i64 0, .int .i64 0, .int .i64 0] 60)) wx ∧ ((w.alloc (.cells #[.int .i64 (H.t : Int), .int .i64 (H.p : Int), .int .i64 (H.s : Int), .slice (some ad) n c] 58)).alloc (.cells #[.int .i64 0, .int .i64 0, .int .i64 0] 60)).heap.size ≤ g)
  case first =>
    have HB := hidp (Bdrew (B0 (((w.alloc (.cells #[.int .i64 (H.t : Int), .int .i64 (H.p : Int), .int .i64 (H.s : Int), .slice (some ad) n c] 58)).alloc (.cells #[.int .i64 0, .int .i64 0, .int .i64 0] 60)))))
    refine wp_region_held_drew (S := (fun w' => w'.cell? ⟨w.heap.size, 0, none⟩ = some (.int .i64 (H.t : Int)) ∧ w'.cell? ⟨w.heap.size, 1, none⟩ = some (.int .i64 (H.p : Int)) ∧ w'.cell? ⟨w.heap.size, 2, none⟩ = some (.int .i64 (H.s : Int)) ∧ w'.cell? ⟨w.heap.size, 3, none⟩ = some (.slice (some ad) n c) ∧ w'.cell? (ad.add i) = some (.int .u32 (v : Int)))) (by kernel_rfl) ?_ (fun hHeld => ?_)
    · (try dsimp only)
      exact HS.out _ HB.out
    generalize hq0 : (((w.alloc (.cells #[.int .i64 (H.t : Int), .int .i64 (H.p : Int), .int .i64 (H.s : Int), .slice (some ad) n c] 58)).alloc (.cells #[.int .i64 0, .int .i64 0, .int .i64 0] 60))).drew = q0 at HB hHeld ⊢
    clear hq0
    refine tkz 0 ?_
    refine tkz 1 ?_
    refine tkz 2 ?_
    refine tkz 3 ?_
    refine tkz 4 ?_
    refine wpAnyH_ready (rs := [5, 12]) (by kernel_rfl) (by simp) ?_
    refine AllReadyH.cons (o := _) rfl (fun K hK => ?_) (AllReadyH.cons (o := _) rfl (fun K hK => ?_) AllReadyH.nil)
    · skip
      go_simp
      (go_at_call 43; refine (r7Info_c _ _ _ _ _).mono ?_; rintro e q1 ⟨rfl, hb1⟩; rw [HI.out]; have HB := hidp (Bgo HB.out hb1); skip; clear hb1)
      refine hK.out _ _ ?_ (fun hHeld => ?_)
      · (try dsimp only)
        exact HS.out _ HB.out
      clear hK K
      (try simp only [Act.put, gA, gB, gC, sA, sB, sC])
      refine tkz 6 ?_
      refine tkz 7 ?_
      refine wpAnyH_ready (rs := [8, 12]) (by kernel_rfl) (by simp) ?_
      refine AllReadyH.cons (o := _) rfl (fun K hK => ?_) (AllReadyH.cons (o := _) rfl (fun K hK => ?_) AllReadyH.nil)
      · skip
        go_simp
        (go_at_call 64; refine (r9Get_c _ _ _ _ _ h32i HG.out _).mono ?_; rintro e q2 ⟨rfl, hb1⟩; have HB := hidp (Bgo HB.out hb1); skip; clear hb1)
        refine hK.out _ _ ?_ (fun hHeld => ?_)
        · (try dsimp only)
          exact HS.out _ HB.out
        clear hK K
        (try simp only [Act.put, gA, gB, gC, sA, sB, sC])
        refine tkz 9 ?_
        refine tkz 10 ?_
        refine tkz 11 ?_
        refine wpAnyH_ready (rs := [12]) (by kernel_rfl) (by simp) ?_
        refine AllReadyH.cons (o := _) rfl (fun K hK => ?_) AllReadyH.nil
        · skip
          go_simp
          have HLE := hidp HB.out.size
          have HB := hidp (Bnew HB.out (.cells #[.int .i64 0, .int .i64 0, .int .i64 0] 60))
          have HN := hidp (Held.new q2 60 #[.int .i64 0, .int .i64 0, .int .i64 0])
          try simp only [World.heap_drew] at HLE HN
          generalize hq3 : q2.alloc (.cells #[.int .i64 0, .int .i64 0, .int .i64 0] 60) = q3 at HB HN ⊢
          clear hq3
          refine hK.out _ _ ?_ (fun hHeld => ?_)
          · (try dsimp only)
            exact HS.out _ HB.out
          clear hK K
          (try simp only [Act.put, gA, gB, gC, sA, sB, sC])
          refine wpAnyH_ready (rs := [13]) (by kernel_rfl) (by simp) ?_
          refine AllReadyH.cons (o := _) rfl (fun K hK => ?_) AllReadyH.nil
          obtain ⟨z0, z1, z2⟩ := HN.out.three
          have f0 := HN.out.thawed 0
          have f1 := HN.out.thawed 1
          have f2 := HN.out.thawed 2
          go_simp
          have HN := hidp (HN.out.put 0 (.int .i64 k))
          have HN := hidp (HN.out.put 1 (.int .i64 (m : Int)))
          have HN := hidp (HN.out.put 2 (.int .i64 cl))
          have HB := hidp (Bput (p := ⟨_, 2, none⟩) (Bput (p := ⟨_, 1, none⟩) (Bput (p := ⟨_, 0, none⟩) HB.out HLE.out (.int .i64 k)) HLE.out (.int .i64 (m : Int))) HLE.out (.int .i64 cl))
          clear z0 z1 z2 f0 f1 f2
          refine hK.out _ _ ?_ (fun hHeld => ?_)
          · (try dsimp only)
            exact HS.out _ HB.out
          clear hK K
          (try simp only [Act.put, gA, gB, gC, sA, sB, sC])
          refine tkz 14 ?_
          refine wpAnyH_done (by kernel_rfl) ?_ _
          go_wp2_with fail
          go_meet
          case rel => exact ⟨_, rfl, HN.out, HB.out, HLE.out⟩
      · skip
        go_simp
        have HLE := hidp HB.out.size
        have HB := hidp (Bnew HB.out (.cells #[.int .i64 0, .int .i64 0, .int .i64 0] 60))
        have HN := hidp (Held.new q1 60 #[.int .i64 0, .int .i64 0, .int .i64 0])
        try simp only [World.heap_drew] at HLE HN
        generalize hq4 : q1.alloc (.cells #[.int .i64 0, .int .i64 0, .int .i64 0] 60) = q4 at HB HN ⊢
        clear hq4
        refine hK.out _ _ ?_ (fun hHeld => ?_)
        · (try dsimp only)
          exact HS.out _ HB.out
        clear hK K
        (try simp only [Act.put, gA, gB, gC, sA, sB, sC])
        refine wpAnyH_ready (rs := [8]) (by kernel_rfl) (by simp) ?_
        refine AllReadyH.cons (o := _) rfl (fun K hK => ?_) AllReadyH.nil
        · skip
          go_simp
          (go_at_call 64; refine (r9Get_c _ _ _ _ _ h32i HG.out _).mono ?_; rintro e q5 ⟨rfl, hb1⟩; have HB := hidp (Bgo HB.out hb1); have HN := hidp (HN.out.keep hb1); clear hb1)
          refine hK.out _ _ ?_ (fun hHeld => ?_)
          · (try dsimp only)
            exact HS.out _ HB.out
          clear hK K
          (try simp only [Act.put, gA, gB, gC, sA, sB, sC])
          refine tkz 9 ?_
          refine tkz 10 ?_
          refine tkz 11 ?_
          refine wpAnyH_ready (rs := [13]) (by kernel_rfl) (by simp) ?_
          refine AllReadyH.cons (o := _) rfl (fun K hK => ?_) AllReadyH.nil
          obtain ⟨z0, z1, z2⟩ := HN.out.three
          have f0 := HN.out.thawed 0
          have f1 := HN.out.thawed 1
          have f2 := HN.out.thawed 2
          go_simp
          have HN := hidp (HN.out.put 0 (.int .i64 k))
          have HN := hidp (HN.out.put 1 (.int .i64 (m : Int)))
          have HN := hidp (HN.out.put 2 (.int .i64 cl))
          have HB := hidp (Bput (p := ⟨_, 2, none⟩) (Bput (p := ⟨_, 1, none⟩) (Bput (p := ⟨_, 0, none⟩) HB.out HLE.out (.int .i64 k)) HLE.out (.int .i64 (m : Int))) HLE.out (.int .i64 cl))
          clear z0 z1 z2 f0 f1 f2
          refine hK.out _ _ ?_ (fun hHeld => ?_)
          · (try dsimp only)
            exact HS.out _ HB.out
          clear hK K
          (try simp only [Act.put, gA, gB, gC, sA, sB, sC])
          refine tkz 14 ?_
          refine wpAnyH_done (by kernel_rfl) ?_ _
          go_wp2_with fail
          go_meet
          case rel => exact ⟨_, rfl, HN.out, HB.out, HLE.out⟩
    · skip
      go_simp
      have HLE := hidp HB.out.size
      have HB := hidp (Bnew HB.out (.cells #[.int .i64 0, .int .i64 0, .int .i64 0] 60))
      have HN := hidp (Held.new q0 60 #[.int .i64 0, .int .i64 0, .int .i64 0])
      try simp only [World.heap_drew] at HLE HN
      generalize hq6 : q0.alloc (.cells #[.int .i64 0, .int .i64 0, .int .i64 0] 60) = q6 at HB HN ⊢
      clear hq6
      refine hK.out _ _ ?_ (fun hHeld => ?_)
      · (try dsimp only)
        exact HS.out _ HB.out
      clear hK K
      (try simp only [Act.put, gA, gB, gC, sA, sB, sC])
      refine wpAnyH_ready (rs := [5]) (by kernel_rfl) (by simp) ?_
      refine AllReadyH.cons (o := _) rfl (fun K hK => ?_) AllReadyH.nil
      · skip
        go_simp
        (go_at_call 43; refine (r7Info_c _ _ _ _ _).mono ?_; rintro e q7 ⟨rfl, hb1⟩; rw [HI.out]; have HB := hidp (Bgo HB.out hb1); have HN := hidp (HN.out.keep hb1); clear hb1)
        refine hK.out _ _ ?_ (fun hHeld => ?_)
        · (try dsimp only)
          exact HS.out _ HB.out
        clear hK K
        (try simp only [Act.put, gA, gB, gC, sA, sB, sC])
        refine tkz 6 ?_
        refine tkz 7 ?_
        refine wpAnyH_ready (rs := [8]) (by kernel_rfl) (by simp) ?_
        refine AllReadyH.cons (o := _) rfl (fun K hK => ?_) AllReadyH.nil
        · skip
          go_simp
          (go_at_call 64; refine (r9Get_c _ _ _ _ _ h32i HG.out _).mono ?_; rintro e q8 ⟨rfl, hb1⟩; have HB := hidp (Bgo HB.out hb1); have HN := hidp (HN.out.keep hb1); clear hb1)
          refine hK.out _ _ ?_ (fun hHeld => ?_)
          · (try dsimp only)
            exact HS.out _ HB.out
          clear hK K
          (try simp only [Act.put, gA, gB, gC, sA, sB, sC])
          refine tkz 9 ?_
          refine tkz 10 ?_
          refine tkz 11 ?_
          refine wpAnyH_ready (rs := [13]) (by kernel_rfl) (by simp) ?_
          refine AllReadyH.cons (o := _) rfl (fun K hK => ?_) AllReadyH.nil
          obtain ⟨z0, z1, z2⟩ := HN.out.three
          have f0 := HN.out.thawed 0
          have f1 := HN.out.thawed 1
          have f2 := HN.out.thawed 2
          go_simp
          have HN := hidp (HN.out.put 0 (.int .i64 k))
          have HN := hidp (HN.out.put 1 (.int .i64 (m : Int)))
          have HN := hidp (HN.out.put 2 (.int .i64 cl))
          have HB := hidp (Bput (p := ⟨_, 2, none⟩) (Bput (p := ⟨_, 1, none⟩) (Bput (p := ⟨_, 0, none⟩) HB.out HLE.out (.int .i64 k)) HLE.out (.int .i64 (m : Int))) HLE.out (.int .i64 cl))
          clear z0 z1 z2 f0 f1 f2
          refine hK.out _ _ ?_ (fun hHeld => ?_)
          · (try dsimp only)
            exact HS.out _ HB.out
          clear hK K
          (try simp only [Act.put, gA, gB, gC, sA, sB, sC])
          refine tkz 14 ?_
          refine wpAnyH_done (by kernel_rfl) ?_ _
          go_wp2_with fail
          go_meet
          case rel => exact ⟨_, rfl, HN.out, HB.out, HLE.out⟩
  case rest =>
    obtain ⟨g, rfl, h1, h2, h3⟩ := hcut
    obtain ⟨x0, x1, x2⟩ := h1.three
    have z := HR.out.keep h2
    obtain ⟨y0, y1, y2⟩ := z.three
    obtain ⟨v0, v1, v2⟩ := (((z.put 0 (.int .i64 k)).put 1 (.int .i64 (m : Int))).put 2 (.int .i64 cl)).three
    have f0 := z.thawed 0
    have f1 := z.thawed 1
    have f2 := z.thawed 2
    go_wp2_with fail
    refine bodyPost_ret (v := .agg #[(.int .i64 k), (.int .i64 (m : Int)), (.int .i64 cl)]) (by simp [results, Tryz.results27, go_sem, v0, v1, v2]) rfl ⟨rfl, ?_⟩
    exact Bput (Bput (Bput (Bgo HBW.out h2) (by simp) _) (by simp) _) (by simp) _
end
end Go.Proofs.YtioolaaphbddbaaGreatDoor
