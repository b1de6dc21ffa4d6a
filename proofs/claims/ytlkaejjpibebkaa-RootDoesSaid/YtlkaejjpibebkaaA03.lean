/-
  The document's answer for Views: Put, Writes, Vals, Same. Written by view/gen_ref5.py.
-/
import Derived.Test.YtlkaejjpibebkaaA02
import Derived.Deep.RegionHeld3
import Derived.Below
import Derived.Test.YtlkaejjpibebkaaAKit
import Derived.WalkKit
import Derived.ProofKit
import Derived.BigQuiet
import Derived.Outline
import Derived.Deep.QuietTactic
import Derived.IntWalk
import Derived.KernelRfl
import Derived.Test.YtlkaejjpibebkaaA01
import Derived.RangeFuncNested
import Derived.RangeFuncBound
import Derived.RangeFuncLeaves
import Derived.Shelf.Abstract
import Derived.Shelf.RegionOpen
import Derived.OwnWalkIn
import Derived.TacticsInMore
import Derived.LoopNIn
import Derived.LoopIn
import Derived.RegionTactic
import Derived.ChangeAlike
import Derived.Laws.BitsAllLaws
import Derived.Laws.CopyOwn
import Derived.Laws.MakeOwn
import Derived.Deep.RegionLaw
namespace Go.Proofs.Ytlkaejjpibebkaa
open Go.ChangeShapes Go.WideShapes Go.ChangeAt Go.RowKit Go.Maps
set_option linter.unusedVariables false
set_option maxRecDepth 100000
set_option linter.unusedSimpArgs false
section
theorem RPut_no {base b n : Nat} {all : Bool} {v : Nat -> Value} {K : Nat -> Option Nat} {s : Vst} (a x : Int) (ho : opn n s a = false) (w : World) (h : IsRefV w base b n all v K s) :
  Calls Try.prog 30 #[.pointer (some ⟨b, 0, none⟩), .int .i64 a, .int .u32 x] w fun e w' => e = .returned (.tuple #[]) /\ w' = w := by
 obtain ⟨c0, _, _, _, _, _, _, c7, _⟩ := h.cells
 clear h
 rcases Int.lt_or_le a 0 with h1 | h1
 ·have t0 : decide (a < 0) = true := decide_eq_true h1
  go_enter Try.func30, Try.ntmps30
  go_wp2
  (try simp only [Exit.inBlock, Exit.then])
  refine bodyPost_ret (results_none rfl _ _ _) rfl ?_
  exact ⟨rfl, rfl⟩
 ·have t0 : decide (a < 0) = false := decide_eq_false (by omega)
  rcases Int.lt_or_le a n with h2 | h2
  ·have t1 : decide ((n : Int) <= a) = false := decide_eq_false (by omega)
   have hl : s.lost = true := by
    unfold opn at ho
    cases hh : s.lost with
    | true => rfl
    | false =>
     rw [hh, decide_eq_true (p := 0 <= a /\ a < n) ⟨h1, h2⟩] at ho
     cases ho
   have hm : missI s = (s.miss : Int) := by unfold missI; rw [hl]; rfl
   rw [hm] at c7
   have t2 : decide ((0 : Int) <= (s.miss : Int)) = true := decide_eq_true (by omega)
   clear hm hl ho
   go_enter Try.func30, Try.ntmps30
   go_wp2
   (try simp only [Exit.inBlock, Exit.then])
   refine bodyPost_ret (results_none rfl _ _ _) rfl ?_
   exact ⟨rfl, rfl⟩
  ·have t1 : decide ((n : Int) <= a) = true := decide_eq_true (by omega)
   go_enter Try.func30, Try.ntmps30
   go_wp2
   (try simp only [Exit.inBlock, Exit.then])
   refine bodyPost_ret (results_none rfl _ _ _) rfl ?_
   exact ⟨rfl, rfl⟩

theorem atW_set {l : List (Nat × Nat)} {k i v : Nat} (h : k < l.length) : atW (l.set k (i, v)) k = v := by unfold atW; simp [List.getD, h]
theorem atW_set_ne {l : List (Nat × Nat)} {k m : Nat} {p : Nat × Nat} (h : m ≠ k) : atW (l.set k p) m = atW l m := by unfold atW; simp [List.getD, List.getElem?_set_ne (Ne.symm h)]
theorem toV_putW (l : List (Nat × Nat)) (i v j : Nat) : toV (putW l i v) j = updF (toV l) i v j := by
 unfold toV updF
 rw [pos_putW]
 cases hp : pos l i with
 | some k =>
  rw [putW_some hp]
  simp only
  have hkl := (pos_some hp).1
  by_cases e : j = i
  ·subst e
   rw [if_pos rfl, hp]
   exact atW_set hkl
  ·rw [if_neg e]
   cases hj : pos l j with
   | none => rfl
   | some m =>
    have hne : m ≠ k := by
     rintro rfl
     exact e ((pos_some hj).2.symm.trans (pos_some hp).2)
    exact atW_set_ne hne
 | none =>
  rw [putW_none hp]
  simp only
  by_cases e : j = i
  ·subst e
   rw [if_pos rfl, if_pos rfl]
   simp [atW, List.getD]
  ·rw [if_neg e, if_neg e]
   cases hj : pos l j with
   | none => rfl
   | some m =>
    have := (pos_some hj).1
    simp [atW, List.getD, List.getElem?_append_left this]
theorem isPut_putW (l : List (Nat × Nat)) (i v j : Nat) : (pos (putW l i v) j).isSome = updF (fun j => (pos l j).isSome) i true j := by
 rw [pos_putW]
 unfold updF
 cases hp : pos l i with
 | some k =>
  simp only
  by_cases e : j = i
  ·subst e; simp [hp]
  ·simp [e]
 | none =>
  simp only
  by_cases e : j = i <;> simp [e]
theorem rX_put2 (n : Nat) (K : Nat -> Option Nat) (s : Vst) (i v : Nat) : (rX n K s 2).set i (.bool true) = rX n K { s with wr := putW s.wr i v } 2 := by
 show (rowL n (bitF fun j => (pos s.wr j).isSome)).set i (.bool true) = rowL n (bitF fun j => (pos (putW s.wr i v) j).isSome)
 rw [rowL_set]
 refine rowL_congr (fun j _ => ?_)
 show updF (fun i => Value.bool (pos s.wr i).isSome) i (.bool true) j = Value.bool (pos (putW s.wr i v) j).isSome
 rw [isPut_putW]
 unfold updF
 by_cases e : j = i <;> simp [e]
theorem rX_put3 (n : Nat) (K : Nat -> Option Nat) (s : Vst) (i v : Nat) : (rX n K s 3).set i (.int .u32 (v : Int)) = rX n K { s with wr := putW s.wr i v } 3 := by
 show (rowL n (valF (toV s.wr))).set i (.int .u32 (v : Int)) = rowL n (valF (toV (putW s.wr i v)))
 rw [rowL_set]
 refine rowL_congr (fun j _ => ?_)
 show updF (fun i => Value.int .u32 ((toV s.wr i : Nat) : Int)) i (.int .u32 (v : Int)) j = Value.int .u32 ((toV (putW s.wr i v) j : Nat) : Int)
 rw [toV_putW]
 unfold updF
 by_cases e : j = i <;> simp [e]
theorem put_cells {l : List (Nat × Nat)} {i v k : Nat} (h : pos l i = some k) : (putW l i v).map (·.1) = l.map (·.1) /\ (putW l i v).length = l.length := by
 rw [putW_some h]
 refine ⟨?_, by simp⟩
 rw [List.map_set]
 have hk := pos_some h
 apply List.ext_getElem?
 intro j
 rw [List.getElem?_set]
 split
 ·rename_i e
  subst e
  have h2 := hk.2
  unfold cellW at h2
  rw [if_pos (by simpa using hk.1), List.getElem?_map, List.getElem?_eq_getElem hk.1]
  rw [List.getD, List.getElem?_eq_getElem hk.1] at h2
  exact congrArg some h2.symm
 ·rfl

theorem RPut_old {base b n : Nat} {all : Bool} {v : Nat -> Value} {K : Nat -> Option Nat} {s : Vst} (i k x : Nat) (hl : s.lost = false) (hk : pos s.wr i = some k) (hi : i < n) (hx : x < 2 ^ 32) (w : World) (h : IsRefV w base b n all v K s) :
  Calls Try.prog 30 #[.pointer (some ⟨b, 0, none⟩), .int .i64 (i : Int), .int .u32 (x : Int)] w fun e w' => e = .returned (.tuple #[]) /\ LeftR w base b n all v K { s with wr := putW s.wr i x } w' := by
 have hn := h.nmax
 obtain ⟨c0, _, _, c3, c4, _, _, c7, _⟩ := h.cells
 obtain ⟨g2, p2, hv2, hp2, hm2, hg2, hl2, hr2⟩ := h.row (i := 2) (by omega) (by omega)
 obtain ⟨g3, p3, hv3, hp3, hm3, hg3, hl3, hr3⟩ := h.row (i := 3) (by omega) (by omega)
 have hg23 : g3 ≠ g2 := fun e => by
  have := h.parts.own.apart 2 3 g2 (by omega) (by omega) (by rw [hv2]; rfl) (by rw [hv3, e]; rfl)
  omega
 have d2 := (hr2 i hi).1.trans (rX_2 n K s hi)
 have d3 := (hr3 i hi).1.trans (rX_3 n K s hi)
 have f2 := (hr2 i hi).2
 have f3 := (hr3 i hi).2
 rw [hk] at d2
 rw [hv2] at c3
 rw [hv3] at c4
 rw [missI_no hl] at c7
 have HH := hidp h
 have HOK : Hid (VOk n { s with wr := putW s.wr i x }) := hidp (by
  have := h.ok.put (a := (i : Int)) hx
  rwa [putS_yes (opn_yes hi hl)] at this)
 have HV2 := hidp hv2
 have HV3 := hidp hv3
 have HPC := hidp (put_cells (v := x) hk)
 have t0 : decide ((i : Int) < 0) = false := decide_eq_false (by omega)
 have t1 : decide ((n : Int) <= i) = false := decide_eq_false (by omega)
 have t2 : decide (n <= i) = false := decide_eq_false (by omega)
 clear h hr2 hr3 hv2 hv3 hk hl
 generalize toV s.wr i = old at *
 go_enter Try.func30, Try.ntmps30
 go_wp2
 go_end0
 obtain ⟨hp5, ht5⟩ := HH.out.parts.store (i := 2) (g := g2) (cap := p2) (by omega) HV2.out i (.bool true)
 obtain ⟨hp6, ht6⟩ := hp5.store (i := 3) (g := g3) (cap := p3) (by omega) HV3.out i (.int .u32 (x : Int))
 refine ⟨rfl, v, { parts := hp6.congr rfl (six rfl rfl rfl rfl rfl HPC.out.2.symm) (six rfl rfl (rX_put2 n K s i x) (rX_put3 n K s i x) rfl ?_), ok := HOK.out, nmax := hn, k32 := HH.out.k32 }, fun g hg => .inl hg, ht5.trans ht6⟩
 show ntVs (s.wr.map (·.1)) = ntVs ((putW s.wr i x).map (·.1))
 rw [HPC.out.1]

theorem RPut_new {base b n : Nat} {all : Bool} {v : Nat -> Value} {K : Nat -> Option Nat} {s : Vst} (i x : Nat) (hl : s.lost = false) (hk : pos s.wr i = none) (hi : i < n) (hx : x < 2 ^ 32) (hlim : s.wr.length < 2 ^ 40) (w : World) (h : IsRefV w base b n all v K s) :
    Calls Try.prog 30 #[.pointer (some ⟨b, 0, none⟩), .int .i64 (i : Int), .int .u32 (x : Int)] w fun e w' => e = .returned (.tuple #[]) /\ LeftR w base b n all v K { s with wr := putW s.wr i x } w' := by
  have hn := h.nmax
  obtain ⟨c0, _, _, c3, c4, _, c6, c7, _⟩ := h.cells
  obtain ⟨g2, p2, hv2, hp2, hm2, hg2, hl2, hr2⟩ := h.row (i := 2) (by omega) (by omega)
  obtain ⟨g3, p3, hv3, hp3, hm3, hg3, hl3, hr3⟩ := h.row (i := 3) (by omega) (by omega)
  have hg23 : g3 ≠ g2 := fun e => by
    have := h.parts.own.apart 2 3 g2 (by omega) (by omega) (by rw [hv2]; rfl) (by rw [hv3, e]; rfl)
    omega
  have d2 := (hr2 i hi).1.trans (rX_2 n K s hi)
  rw [hk] at d2
  rw [hv2] at c3
  rw [hv3] at c4
  rw [missI_no hl] at c7
  have HO : Hid (w.ownsRow base 3 1 (v 5) s.wr.length (ntVs (s.wr.map (·.1)))) := hidp (h.parts.own.rowAt (by omega) rfl rfl rfl rfl)
  obtain ⟨A, cr, hv5⟩ := own_slice HO.out
  rw [hv5] at c6
  obtain ⟨q, hq⟩ : ∃ q, s.wr.length = q := ⟨_, rfl⟩
  have HQ := hidp hq
  have HV5 := hidp hv5
  have HH := hidp h
  have HV2 := hidp hv2
  have HV3 := hidp hv3
  have hbl := h.parts.head.lt
  have HOK : Hid (VOk n { s with wr := putW s.wr i x }) := hidp (by
    have := h.ok.put (a := (i : Int)) hx
    rwa [putS_yes (opn_yes hi hl)] at this)
  have HPW := hidp (putW_none (v := x) hk)
  have t0 : decide ((i : Int) < 0) = false := decide_eq_false (by omega)
  have t1 : decide ((n : Int) <= i) = false := decide_eq_false (by omega)
  have t2 : decide (n <= i) = false := decide_eq_false (by omega)
  obtain ⟨i0, hin, hz0, hz1, hz2⟩ := info_parts intInfo
  rw [hq] at c6 hlim
  clear h hr2 hr3 hv2 hv3 hk hl hv5 hq
  go_enter Try.func30, Try.ntmps30
  go_wp2_with (first
    | (at_builtin
       refine wpList_append_lies _ rfl _ _ 42 rfl base 3 i0 (.int .i64 0) 1 8 Try.underlying42 hin hz0 hz1 hz2 rfl (by decide) (.slice A q cr) q (ntVs (s.wr.map (·.1))) rfl ?c0 ⟨_, 0, none⟩ 1 1 [.int .i64 (i : Int)] rfl rfl ?c1 ?c2 (by omega) ?c3 ?c4 ?c5 _ rfl ?_
       case c0 =>
         have h9 := HO.out.alloc (.cells #[.int .i64 (i : Int)] 3)
         rw [HV5.out, HQ.out] at h9
         rw [<- HQ.out] at h9 ⊢
         exact h9
       case c1 => intro j y hy; rcases j with _ | j; (· simp at hy; subst hy; simp [Addr.add]); (· simp at hy)
       case c2 => simp [Value.oneCell']
       case c3 => unfold maxLen; omega
       case c4 => omega
       case c5 => have := HH.out.parts.bb; have := HH.out.parts.head.lt; simp; omega
       intro g cap w4 hown4 hgrow4 hat4 hlt4
       obtain ⟨hp4, hA4, hT4⟩ := (HH.out.parts.keep (Bnew (B0 w) (.cells #[.int .i64 (i : Int)] 3))).grow (i := 5) (by omega) hown4 (by rw [HV5.out, HQ.out]; exact hgrow4) (fun q' hq' => by
         have hq' : g = q' := by simpa [Value.ownBlock] using hq'
         subst hq'
         rcases hat4 with h1 | h1
         · left; rw [HV5.out, HQ.out]; exact h1
         · right; rw [h1]; exact Nat.le_refl _)
       have e3 : w4.cell? ⟨b, 3, none⟩ = some (.slice (some ⟨g2, 0, none⟩) n p2) := (hp4.head.cell 3).trans (by rw [<- HV2.out]; rfl)
       have e4 : w4.cell? ⟨b, 4, none⟩ = some (.slice (some ⟨g3, 0, none⟩) n p3) := (hp4.head.cell 4).trans (by rw [<- HV3.out]; rfl)
       have e6 : w4.cell? ⟨b, 6, none⟩ = some (.slice A q cr) := (hp4.head.cell 6).trans (by rw [<- HQ.out, <- HV5.out]; rfl)
       have f6 := hp4.head.thawed 6
       obtain ⟨d5, f5⟩ := hp4.at_ (i := 2) (g := g2) (cap := p2) (by omega) HV2.out (show i < n from hi)
       obtain ⟨d7, f7⟩ := hp4.at_ (i := 3) (g := g3) (cap := p3) (by omega) HV3.out (show i < n from hi)
       have d5' : w4.cell? ⟨g2, i, none⟩ = some (.bool (pos s.wr i).isSome) := d5.trans (rX_2 n K s hi)
       have d7' : w4.cell? ⟨g3, i, none⟩ = some (.int .u32 ((toV s.wr i : Nat) : Int)) := d7.trans (rX_3 n K s hi)
       have HP4 := hidp hp4
       have HA4 := hidp hA4
       have HT4 := hidp (((T0 (OwnF b 6 v) w).alloc (.cells #[.int .i64 (i : Int)] 3)).trans hT4)
       clear hp4 hA4 hT4 hown4 hgrow4 hat4 d5 d7)
    | go_in)
  go_end0
  obtain ⟨hp5, _⟩ := HP4.out.setHead 6 (.slice (some ⟨g, 0, none⟩) (q + 1) cap)
  obtain ⟨hp6, _⟩ := hp5.store (i := 2) (g := g2) (cap := p2) (by omega) HV2.out i (.bool true)
  obtain ⟨hp7, _⟩ := hp6.store (i := 3) (g := g3) (cap := p3) (by omega) HV3.out i (.int .u32 (x : Int))
  refine ⟨rfl, updF v 5 (.slice (some ⟨g, 0, none⟩) (q + 1) cap), { parts := hp7.congr rfl (six rfl rfl rfl rfl rfl ?_) (six rfl rfl (rX_put2 n K s i x) (rX_put3 n K s i x) rfl ?_), ok := HOK.out, nmax := hn, k32 := HH.out.k32 }, fun z hz => ?_,
    ((HT4.out.put (p := ⟨b, 6, none⟩) (.inl rfl) _).put (p := ⟨g2, i, none⟩) (.inr ⟨2, by omega, by rw [HV2.out]; rfl⟩) _).put (p := ⟨g3, i, none⟩) (.inr ⟨3, by omega, by rw [HV3.out]; rfl⟩) _⟩
  · show q + 1 = (putW s.wr i x).length
    rw [HPW.out, <- HQ.out]
    simp
  · show ntVs (s.wr.map (·.1)) ++ [.int .i64 (i : Int)] = ntVs ((putW s.wr i x).map (·.1))
    rw [HPW.out]
    simp [ntVs]
  · rcases HA4.out z hz with h1 | h1
    · exact .inl h1
    · simp at h1
      exact .inr (by omega)

theorem VRPut_c {base b n : Nat} {all : Bool} {v : Nat -> Value} {K : Nat -> Option Nat} {s : Vst} (a : Int) (x : Nat) (hx : x < 2 ^ 32) (h1 : s.wr.length < 2 ^ 40) (w : World) (h : IsRefV w base b n all v K s) :
  Calls Try.prog 30 #[.pointer (some ⟨b, 0, none⟩), .int .i64 a, .int .u32 (x : Int)] w fun e w' => e = .returned (.tuple #[]) /\ LeftR w base b n all v K (putS n s a x) w' := by
 by_cases ho : opn n s a = true
 ·obtain ⟨i, rfl, hi, hl⟩ := opn_at ho
  rw [putS_yes ho]
  cases hp : pos s.wr i with
  | some k => exact RPut_old i k x hl hp hi hx w h
  | none => exact RPut_new i x hl hp hi hx h1 w h
 ·have ho : opn n s a = false := by simpa using ho
  rw [putS_no ho]
  refine (RPut_no a _ ho w h).mono ?_
  rintro e w1 ⟨rfl, rfl⟩
  exact ⟨rfl, LeftR.same h⟩
end
end Go.Proofs.Ytlkaejjpibebkaa

namespace Go.Proofs.Ytlkaejjpibebkaa
open Go.ChangeShapes Go.WideShapes Go.ChangeAt Go.RowKit Go.Maps
set_option linter.unusedVariables false
set_option maxRecDepth 100000
section
structure Ob where
 I : World -> Vst -> (Nat -> Prop) -> Prop
 lt : ∀ {w : World} {s : Vst} {A : Nat -> Prop}, I w s A -> ∀ i, A i -> i < w.heap.size
 turns : ∀ {w w' : World} {s : Vst} {A G : Nat -> Prop}, I w s A -> Turns G w w' -> (∀ i, A i -> ¬ G i) -> I w' s A

def vOb (base b n : Nat) (wh : Bool) (K : Nat -> Option Nat) : Ob where
 I w s A := ∃ o, IsView w base b n wh o K s /\ A = o.A b
 lt := by
  rintro w s A ⟨o, h, rfl⟩
  exact h.lt
 turns := by
  rintro w w' s A G ⟨o, h, rfl⟩ ht hf
  exact ⟨o, h.turns ht hf, rfl⟩
def rOb (base b n : Nat) (all : Bool) (K : Nat -> Option Nat) : Ob where
 I w s A := ∃ v, IsRefV w base b n all v K s /\ A = OwnF b 6 v
 lt := by
  rintro w s A ⟨v, h, rfl⟩
  exact h.parts.lt
 turns := by
  rintro w w' s A G ⟨v, h, rfl⟩ ht hf
  exact ⟨v, h.turns ht hf, rfl⟩

def Ob.Left (O : Ob) (w : World) (A : Nat -> Prop) (s : Vst) (w' : World) : Prop := ∃ A', O.I w' s A' /\ (∀ g, A' g -> A g \/ w.heap.size <= g) /\ Turns A w w'
def Ob.At (O : Ob) (w0 : World) (A G : Nat -> Prop) (s : Vst) (w : World) : Prop :=
 ∃ A', O.I w s A' /\ (∀ g, A' g -> A g \/ w0.heap.size <= g) /\ Turns A w0 w /\ ∀ g, G g -> w0.heap.size <= g /\ g < w.heap.size /\ ¬ A' g
def Stay (G : Nat -> Prop) (w w' : World) : Prop := w.heap.size <= w'.heap.size /\ ∀ g, G g -> g < w.heap.size -> w'.heap[g]? = w.heap[g]?
def And1 (G : Nat -> Prop) (N : Nat) : Nat -> Prop := fun g => G g \/ g = N
section
variable {O : Ob} {w w' w0 : World} {A G : Nat -> Prop} {s s' : Vst} {N : Nat}
theorem Ob.keep {A : Nat -> Prop} (h : O.I w s A) (hb : Below w.heap.size w w') : O.I w' s A := O.turns h (Turns.of_below hb (fun _ => False)) (fun _ _ x => x)
theorem Ob.Left.size (h : O.Left w A s w') : w.heap.size <= w'.heap.size := by obtain ⟨A', _, _, h⟩ := h; exact h.size
theorem Ob.At.start (h : O.I w s A) : O.At w A (fun _ => False) s w := ⟨A, h, fun g hg => .inl hg, T0 _ _, fun g hg => hg.elim⟩
theorem Ob.At.left (h : O.At w0 A G s w) : O.Left w0 A s w := by
 obtain ⟨A', h1, h2, h3, _⟩ := h
 exact ⟨A', h1, h2, h3⟩
theorem Ob.At.size (h : O.At w0 A G s w) : w0.heap.size <= w.heap.size := h.left.size
theorem Ob.At.keep (h : O.At w0 A G s w) (hb : Below w.heap.size w w') : O.At w0 A G s w' := by
 obtain ⟨A', h1, h2, h3, h4⟩ := h
 exact ⟨A', Ob.keep h1 hb, h2, h3.trans (Turns.of_below hb A), fun g hg => ⟨(h4 g hg).1, Nat.lt_of_lt_of_le (h4 g hg).2.1 hb.size, (h4 g hg).2.2⟩⟩
theorem Ob.At.box (h : O.At w0 A G s w) (o : Obj) : O.At w0 A (And1 G w.heap.size) s (w.alloc o) := by
 obtain ⟨A', h1, h2, h3, h4⟩ := h
 have hs := h3.size
 refine ⟨A', Ob.keep h1 (Bnew (B0 w) o), h2, h3.alloc o, ?_⟩
 rintro g (hg | rfl)
 ·exact ⟨(h4 g hg).1, Nat.lt_of_lt_of_le (h4 g hg).2.1 (Bnew (B0 w) o).size, (h4 g hg).2.2⟩
 ·exact ⟨hs, by simp, fun x => by have := O.lt h1 _ x; omega⟩
theorem Ob.At.put (h : O.At w0 A G s w) {p : Addr} (hp : G p.block) (u : Value) : O.At w0 A G s (w.setCell p u) := by
 obtain ⟨A', h1, h2, h3, h4⟩ := h
 have hq := h4 _ hp
 refine ⟨A', O.turns h1 ((T0 (fun i => i = p.block) w).put (p := p) rfl u) (fun i hi e => hq.2.2 (by rw [<- e]; exact hi)), h2, h3.put_new hq.1 u, fun g hg => ⟨(h4 g hg).1, by simp; exact (h4 g hg).2.1, (h4 g hg).2.2⟩⟩
theorem Ob.At.less {G' : Nat -> Prop} (h : O.At w0 A G s w) (hg : ∀ g, G' g -> G g) : O.At w0 A G' s w := by
 obtain ⟨A', h1, h2, h3, h4⟩ := h
 exact ⟨A', h1, h2, h3, fun g x => h4 g (hg g x)⟩
theorem Ob.At.call (h : O.At w0 A G s w) {P : Program} {f : FuncId} {args : Array Value} {R : Ending -> Prop} (hc : ∀ B, O.I w s B -> Calls P f args w fun e w' => R e /\ O.Left w B s' w') :
  Calls P f args w fun e w' => R e /\ O.At w0 A G s' w' /\ Stay G w w' := by
 obtain ⟨A', h1, h2, h3, h4⟩ := h
 refine (hc A' h1).mono ?_
 rintro e w' ⟨hr, B, k1, k2, k3⟩
 have hs := h3.size
 refine ⟨hr, ⟨B, k1, fun g hg => ?_, k3.more_new hs h3 h2, fun g hg => ?_⟩, k3.size, fun g hg hl => k3.block g hl (h4 g hg).2.2⟩
 ·rcases k2 g hg with h5 | h5
  ·exact h2 g h5
  ·exact .inr (by omega)
 ·refine ⟨(h4 g hg).1, Nat.lt_of_lt_of_le (h4 g hg).2.1 k3.size, fun x => ?_⟩
  rcases k2 g x with h5 | h5
  ·exact (h4 g hg).2.2 h5
  ·have := (h4 g hg).2.1; omega
theorem Stay.of_below (hb : Below w.heap.size w w') (G : Nat -> Prop) : Stay G w w' := ⟨hb.size, fun g _ hl => hb.block g hl⟩
theorem Stay.trans {w'' : World} (h : Stay G w w') (k : Stay G w' w'') : Stay G w w'' := ⟨Nat.le_trans h.1 k.1, fun g hg hl => (k.2 g hg (Nat.lt_of_lt_of_le hl h.1)).trans (h.2 g hg hl)⟩
theorem Stay.less {G' : Nat -> Prop} (h : Stay G w w') (hg : ∀ g, G' g -> G g) : Stay G' w w' := ⟨h.1, fun g x hl => h.2 g (hg g x) hl⟩
theorem Stay.held {g : Nat} {t : TypeId} {cs : Array Value} (h : Stay G w w') (hg : G g) (hh : Held w g t cs) : Held w' g t cs := (h.2 g hg hh.lt).trans hh
end

theorem nodup_few : ∀ (n : Nat) (l : List Nat), (∀ i ∈ l, i < n) -> l.Nodup -> l.length <= n
 | 0, l, h, _ => by
  cases l with
  | nil => simp
  | cons a r => have := h a (List.mem_cons_self ..); omega
 | n + 1, l, h, hd => by
  by_cases hn : n ∈ l
  ·have h1 := nodup_few n (l.erase n) (fun i hi => by
    have h2 := (hd.mem_erase_iff).1 hi
    have h3 := h i h2.2
    have h4 := h2.1
    omega) (hd.erase n)
   rw [List.length_erase_of_mem hn] at h1
   omega
  ·have h1 := nodup_few n l (fun i hi => by
    have h3 := h i hi
    have h4 : i ≠ n := fun e => hn (e ▸ hi)
    omega) hd
   omega
theorem VOk.few {n : Nat} {s : Vst} (h : VOk n s) : s.rd.length <= n /\ s.wr.length <= n := by
 refine ⟨nodup_few _ _ h.rdLt h.rdNd, ?_⟩
 have : (s.wr.map (·.1)).length <= n := by
  refine nodup_few _ _ (fun i hi => ?_) ?_
  ·obtain ⟨p, hp, rfl⟩ := List.mem_map.1 hi
   exact (h.wrLt p hp).1
  ·unfold List.Nodup
   rw [List.pairwise_iff_getElem]
   intro i j hi hj hij e
   have hj' : j < s.wr.length := by simpa using hj
   have h1 := h.wrNd i (by omega)
   have h2 := h.wrNd j hj'
   have e1 : cellW s.wr i = cellW s.wr j := by
    unfold cellW
    simp [List.getD, List.getElem?_eq_getElem (show i < s.wr.length by omega), List.getElem?_eq_getElem hj'] at e ⊢
    exact e
   rw [e1, h2] at h1
   injection h1 with h1
   omega
 simpa using this

section
variable {base b n : Nat} {wh all : Bool} {K : Nat -> Option Nat} {s : Vst} {w w0 : World} {A G : Nat -> Prop}
theorem vGetA (hn : n < 2 ^ 40) (a : Int) (h : (vOb base b n wh K).At w0 A G s w) :
  Calls Try.prog 21 #[.pointer (some ⟨b, 0, none⟩), .int .i64 a] w fun e w' => e = .returned (.int .u32 ((getV n K s a : Nat) : Int)) /\ (vOb base b n wh K).At w0 A G (getS n K s a) w' /\ Stay G w w' := by
 refine h.call ?_
 rintro B ⟨o, hI, rfl⟩
 refine (VGet_c a (by have := hI.ok.few; omega) (by have := hI.ok.few; omega) w hI).mono ?_
 rintro e w' ⟨rfl, o', h1, h2, h3⟩
 exact ⟨rfl, _, ⟨o', h1, rfl⟩, h2, h3.more (fun i hi => .inl hi)⟩
theorem vPutA (hn : n < 2 ^ 40) (a : Int) (v : Nat) (hv : v < 2 ^ 32) (h : (vOb base b n wh K).At w0 A G s w) :
  Calls Try.prog 29 #[.pointer (some ⟨b, 0, none⟩), .int .i64 a, .int .u32 (v : Int)] w fun e w' => e = .returned (.tuple #[]) /\ (vOb base b n wh K).At w0 A G (putS n s a v) w' /\ Stay G w w' := by
 refine h.call ?_
 rintro B ⟨o, hI, rfl⟩
 refine (VPut_c a v hv (by have := hI.ok.few; omega) w hI).mono ?_
 rintro e w' ⟨rfl, o', h1, h2, h3⟩
 exact ⟨rfl, _, ⟨o', h1, rfl⟩, h2, h3.more (fun i hi => .inl hi)⟩
theorem rGetA (hn : n < 2 ^ 40) (a : Int) (h : (rOb base b n all K).At w0 A G s w) :
  Calls Try.prog 26 #[.pointer (some ⟨b, 0, none⟩), .int .i64 a] w fun e w' => e = .returned (.int .u32 ((getV n K s a : Nat) : Int)) /\ (rOb base b n all K).At w0 A G (getS n K s a) w' /\ Stay G w w' := by
 refine h.call ?_
 rintro B ⟨v, hI, rfl⟩
 refine (VRGet_c a (by have := hI.ok.few; omega) w hI).mono ?_
 rintro e w' ⟨rfl, v', h1, h2, h3⟩
 exact ⟨rfl, _, ⟨v', h1, rfl⟩, h2, h3⟩
theorem rPutA (hn : n < 2 ^ 40) (a : Int) (x : Nat) (hx : x < 2 ^ 32) (h : (rOb base b n all K).At w0 A G s w) :
  Calls Try.prog 30 #[.pointer (some ⟨b, 0, none⟩), .int .i64 a, .int .u32 (x : Int)] w fun e w' => e = .returned (.tuple #[]) /\ (rOb base b n all K).At w0 A G (putS n s a x) w' /\ Stay G w w' := by
 refine h.call ?_
 rintro B ⟨v, hI, rfl⟩
 refine (VRPut_c a x hx (by have := hI.ok.few; omega) w hI).mono ?_
 rintro e w' ⟨rfl, v', h1, h2, h3⟩
 exact ⟨rfl, _, ⟨v', h1, rfl⟩, h2, h3⟩
end
end
end Go.Proofs.Ytlkaejjpibebkaa

namespace Go.Proofs.Ytlkaejjpibebkaa.HM

def putN (w a k v : Nat) : Nat := (w &&& (2 ^ 64 - 1 - (2 ^ k - 1) * 2 ^ a)) ||| v * 2 ^ a

theorem mask_lt (a k : Nat) (h : a + k <= 64) : (2 ^ k - 1) * 2 ^ a < 2 ^ 64 := by
 have h1 : (2 ^ k - 1) * 2 ^ a < 2 ^ k * 2 ^ a := (Nat.mul_lt_mul_right (Nat.two_pow_pos a)).2 (by have := Nat.two_pow_pos k; omega)
 rw [<- Nat.pow_add] at h1
 exact Nat.lt_of_lt_of_le h1 (Nat.pow_le_pow_right (by omega) (by omega))

theorem bit_putN (w a k v i : Nat) (h : a + k <= 64) (hv : v < 2 ^ k) (hi : i < 64) : (putN w a k v).testBit i = if a <= i /\ i < a + k then v.testBit (i - a) else w.testBit i := by
 unfold putN
 rw [Nat.testBit_or, Nat.testBit_and, Nat.sub_sub, Nat.add_comm 1, Nat.testBit_two_pow_sub_succ (mask_lt a k h), Nat.testBit_mul_two_pow, Nat.testBit_mul_two_pow, Nat.testBit_two_pow_sub_one]
 by_cases h1 : a <= i
 ·by_cases h2 : i < a + k
  ·have h3 : i - a < k := by omega
   simp [h1, h2, h3, hi]
  ·have h3 : ¬ i - a < k := by omega
   have h4 : v.testBit (i - a) = false := Nat.testBit_lt_two_pow (Nat.lt_of_lt_of_le hv (Nat.pow_le_pow_right (by omega) (by omega)))
   simp [h1, h2, h3, h4, hi]
 ·simp [h1, hi]

theorem putN_lt (w a k v : Nat) (h : a + k <= 64) (hv : v < 2 ^ k) : putN w a k v < 2 ^ 64 := by
 have h1 : v * 2 ^ a < 2 ^ 64 := by
  have h2 : v * 2 ^ a < 2 ^ k * 2 ^ a := (Nat.mul_lt_mul_right (Nat.two_pow_pos a)).2 hv
  rw [<- Nat.pow_add] at h2
  exact Nat.lt_of_lt_of_le h2 (Nat.pow_le_pow_right (by omega) (by omega))
 unfold putN
 refine Nat.or_lt_two_pow (Nat.lt_of_le_of_lt Nat.and_le_right ?_) h1
 have := Nat.two_pow_pos 64
 omega

theorem bit_high {x i : Nat} (h : x < 2 ^ 64) (hi : 64 <= i) : x.testBit i = false :=
 Nat.testBit_lt_two_pow (Nat.lt_of_lt_of_le h (Nat.pow_le_pow_right (by omega) hi))

end Go.Proofs.Ytlkaejjpibebkaa.HM

namespace Go.Proofs.Ytlkaejjpibebkaa
set_option linter.unusedVariables false
section
def nthI (f n e i : Int) : Int := if f = -1 \/ i < 0 \/ n <= i then -1 else f + i * e
theorem nth_off {f n e i : Int} (h : f = -1 \/ i < 0 \/ n <= i) : nthI f n e i = -1 := by unfold nthI; rw [if_pos h]
theorem nth_on {f n e i : Int} (h : ¬ f = -1) (h0 : 0 <= i) (h1 : i < n) : nthI f n e i = f + i * e := by unfold nthI; rw [if_neg (by omega)]
section
variable {t p s w : Int}
end
end
end Go.Proofs.Ytlkaejjpibebkaa

namespace Go.Proofs.Ytlkaejjpibebkaa
open Go.ChangeShapes Go.WideShapes Go.ChangeAt Go.RowKit Go.Maps
set_option linter.unusedVariables false
set_option maxRecDepth 100000
section
section
variable (n : Nat) (K : Nat -> Option Nat) (t q s hd : Int)
end
section
variable {n : Nat} {K : Nat -> Option Nat} {t q s hd : Int} {m l0 l : Nat} {st0 st : Vst} {out : List Nat}
theorem getV_lt {a : Int} (hk : VOk n st) (h32 : ∀ i x, K i = some x -> x < 2 ^ 32) : getV n K st a < 2 ^ 32 := by
 by_cases ho : opn n st a = true
 ·obtain ⟨i, rfl, hi, hl⟩ := opn_at ho
  cases hp : pos st.wr i with
  | some k =>
   rw [getV_put ho hp]
   have h1 := (pos_some hp).1
   have h2 : (st.wr[k]'h1) ∈ st.wr := List.getElem_mem h1
   have h3 := (hk.wrLt _ h2).2
   unfold atW
   simp only [List.getD, List.getElem?_eq_getElem h1, Option.getD_some]
   exact h3
  | none =>
   cases hK : K i with
   | some v => rw [getV_known ho hp hK]; exact h32 i v hK
   | none => rw [getV_lost ho hp hK]; omega
 ·rw [getV_no (by simpa using ho)]; omega
end

section
variable {base b n : Nat} {wh all : Bool} {K : Nat -> Option Nat} {st s' : Vst} {w ws w0 w' : World} {A G : Nat -> Prop} {N : Nat} {T : TypeId} {cs : Array Value} {O : Ob}
theorem vAt_lt (h : (vOb base b n wh K).At w0 A G st w) (a : Int) : getV n K st a < 2 ^ 32 := by
 obtain ⟨B, ⟨o, h1, _⟩, _⟩ := h
 exact getV_lt h1.ok h1.k32
theorem rAt_lt (h : (rOb base b n all K).At w0 A G st w) (a : Int) : getV n K st a < 2 ^ 32 := by
 obtain ⟨B, ⟨o, h1, _⟩, _⟩ := h
 exact getV_lt h1.ok h1.k32
end
end
end Go.Proofs.Ytlkaejjpibebkaa

namespace Go.Proofs.Ytlkaejjpibebkaa
open Go.ChangeShapes Go.WideShapes Go.ChangeAt Go.RowKit
set_option linter.unusedVariables false
set_option linter.unusedSimpArgs false
section
def infoP (k l c : Int) : Prop := (k = 0 /\ l = 0 /\ c = 0) \/ ((k = 1 \/ k = 2) /\ 1 <= l /\ l <= 1024 /\ c = 0) \/ (k = 3 /\ l = 1 /\ 0 <= c /\ c <= 8)
instance (k l c : Int) : Decidable (infoP k l c) := by unfold infoP; infer_instance
end
end Go.Proofs.Ytlkaejjpibebkaa

namespace Go.Proofs.Ytlkaejjpibebkaa
set_option linter.unusedVariables false
section
theorem i64_same {x : Int} (h : -9223372036854775808 <= x) (h' : x <= 9223372036854775807) : IntKind.i64.wrap x = x := by
 simp only [IntKind.wrap, IntKind.bits, IntKind.signed]; simp; omega
end
end Go.Proofs.Ytlkaejjpibebkaa

namespace Go.Proofs.Ytlkaejjpibebkaa
open Go.ChangeShapes Go.WideShapes Go.ChangeAt Go.RowKit
set_option linter.unusedVariables false
section
structure AuH where
 t : Nat
 p : Nat
 s : Nat
 V : Nat -> Nat

namespace AuH
variable (H : AuH)
variable {H}
variable (H)
variable {H}
end AuH
end
end Go.Proofs.Ytlkaejjpibebkaa

namespace Go.Proofs.Ytlkaejjpibebkaa
open Go.ChangeShapes Go.WideShapes Go.ChangeAt Go.RowKit
set_option linter.unusedVariables false
set_option linter.unusedSimpArgs false
section
theorem plNth_c (f n e i : Int) (f0 : -1 <= f) (f1 : f <= 20000) (n0 : 0 <= n) (n1 : n <= 10000) (e0 : 0 <= e) (e1 : e <= 120) (w : World) :
  Calls Try.prog 40 #[.int .i64 f, .int .i64 n, .int .i64 e, .int .i64 i] w fun z w' => z = .returned (.int .i64 (nthI f n e i)) /\ w = w' := by
 by_cases c0 : f = -1
 ·subst c0
  have HN := hidp (nth_off (f := -1) (n := n) (e := e) (i := i) (.inl rfl))
  go_enter Try.func40, Try.ntmps40
  go_wp2
  go_ret
  exact ⟨by rw [HN.out]; rfl, rfl⟩
 ·have q0 : (f == -1) = false := by simpa using c0
  by_cases c1 : i < 0
  ·have HN := hidp (nth_off (f := f) (n := n) (e := e) (i := i) (.inr (.inl c1)))
   go_enter Try.func40, Try.ntmps40
   go_wp2
   go_ret
   exact ⟨by rw [HN.out]; rfl, rfl⟩
  ·by_cases c2 : n <= i
   ·have HN := hidp (nth_off (f := f) (n := n) (e := e) (i := i) (.inr (.inr c2)))
    go_enter Try.func40, Try.ntmps40
    go_wp2
    go_ret
    exact ⟨by rw [HN.out]; rfl, rfl⟩
   ·have HN := hidp (nth_on (f := f) (n := n) (e := e) (i := i) c0 (by omega) (by omega))
    have p0 : 0 <= i * e := Int.mul_nonneg (by omega) e0
    have p1 : i * e <= 10000 * 120 := Int.mul_le_mul (by omega) e1 e0 (by omega)
    obtain ⟨y, hy⟩ : ∃ y, i * e = y := ⟨_, rfl⟩
    have HY := hidp hy
    rw [hy] at p0 p1
    go_enter Try.func40, Try.ntmps40
    go_wp2
    go_ret
    exact ⟨by rw [HN.out, HY.out]; rfl, rfl⟩

theorem plRoot_c (k : Int) (w : World) :
  Calls Try.prog 25 #[.int .i64 k] w fun z w' => z = .returned (.int .i64 (nthI 22 8 1 k)) /\ w = w' := by
 go_enter Try.func25, Try.ntmps25
 go_wp2_with fail
 refine (plNth_c 22 8 1 k (by omega) (by omega) (by omega) (by omega) (by omega) (by omega) _).mono ?_
 rintro e w1 ⟨rfl, rfl⟩
 go_wp2
 go_ret
 exact ⟨by first | rfl | trivial, by first | rfl | trivial⟩
end
end Go.Proofs.Ytlkaejjpibebkaa

namespace Go.Proofs.Ytlkaejjpibebkaa
open Go.ChangeShapes Go.WideShapes Go.ChangeAt Go.RowKit
set_option linter.unusedVariables false
section
theorem put_new (x a v : Nat) (ha : a + 16 <= 64) (hx : x < 2 ^ a) (hv : v < 65536) : HM.putN x a 16 v = x + v * 2 ^ a := by
 have hx64 : x < 2 ^ 64 := Nat.lt_of_lt_of_le hx (Nat.pow_le_pow_right (by omega) (by omega))
 have h1 : x + v * 2 ^ a = 2 ^ a * v + x := by rw [Nat.mul_comm, Nat.add_comm]
 have hlt : 2 ^ a * v + x < 2 ^ 64 := by
  have e : (2 : Nat) ^ 64 = 2 ^ a * 2 ^ (64 - a) := by rw [<- Nat.pow_add]; congr 1; omega
  have e2 : (2 : Nat) ^ 16 <= 2 ^ (64 - a) := Nat.pow_le_pow_right (by omega) (by omega)
  have e3 : 2 ^ a * (v + 1) <= 2 ^ a * 2 ^ (64 - a) := Nat.mul_le_mul_left _ (by omega)
  rw [Nat.mul_succ] at e3
  rw [e]
  omega
 rw [h1]
 apply Nat.eq_of_testBit_eq
 intro i
 by_cases hi : i < 64
 ·rw [HM.bit_putN x a 16 v i ha hv hi, Nat.testBit_two_pow_mul_add _ hx]
  by_cases h2 : i < a
  ·rw [if_neg (by omega), if_pos h2]
  ·rw [if_neg h2]
   by_cases h3 : i < a + 16
   ·rw [if_pos ⟨by omega, h3⟩]
   ·rw [if_neg (by omega), Nat.testBit_lt_two_pow (Nat.lt_of_lt_of_le hx (Nat.pow_le_pow_right (by omega) (by omega))), Nat.testBit_lt_two_pow (Nat.lt_of_lt_of_le hv (show 65536 <= 2 ^ (i - a) from Nat.pow_le_pow_right (n := 2) (by omega) (show 16 <= i - a by omega)))]
 ·rw [HM.bit_high (HM.putN_lt x a 16 v ha hv) (by omega), HM.bit_high hlt (by omega)]
end
end Go.Proofs.Ytlkaejjpibebkaa

namespace Go.Proofs.Ytlkaejjpibebkaa
open Go.ChangeShapes Go.WideShapes Go.ChangeAt Go.RowKit Go.Maps
set_option linter.unusedVariables false
section
abbrev inR (l : Nat) : Fence := Fence.wide.inRound l
section
variable {P : Program} {ops : Array Oper} {Q : Exit -> Act -> World -> Prop} {md : Region.Mode} {l n : Nat}
theorem calls_in {f : FuncId} {args : Array Value} {w : World} {R : Ending -> World -> Prop} (h : Calls P f args w R) : CallsIn (inR l) n P f args w R := CallsIn.inRound l (callsIn_wide.2 h)
theorem calls_out {f : FuncId} {args : Array Value} {w : World} {R : Ending -> World -> Prop} (h : Calls P f args w R) : CallsIn Fence.wide n P f args w R := callsIn_wide.2 h

end

section
variable {D : Nat} {w w' w'' : World}
end

def seqPost (I : Nat -> (Nat -> Prop) -> World -> Prop) (Ix : Code -> World -> Prop) (pos : Nat) (F : Nat -> Prop) (N : Nat) (A : World) : Exit -> Act -> World -> Prop
 | .normal, _, B => Turns F A B /\ ∃ F', I pos F' B /\ ∀ i, F' i -> F i \/ N <= i
 | .ret, _, B => Turns F A B /\ Ix .ret B
 | .exit id, _, B => Turns F A B /\ Ix (.exit id) B
 | .goto t, _, B => Turns F A B /\ Ix (.goto t) B
 | .panic _, _, _ => False
 | .outgrown, _, _ => False

def mark (D : Nat) : Deferred := { target := .collected D, args := #[] }

def noPanic (Q : Exit -> Act -> World -> Prop) : Exit -> Act -> World -> Prop
 | .panic _, _, _ => False
 | .outgrown, _, _ => False
 | .normal, a, w => Q .normal a w
 | .ret, a, w => Q .ret a w
 | .exit id, a, w => Q (.exit id) a w
 | .goto t, a, w => Q (.goto t) a w
theorem calls_of_wp_mark {P : Program} {f : FuncId} {fn : Func} {c : Code} {args : Array Value} {w : World} {R : Ending -> World -> Prop} (hf : P.funcs[f]? = some fn) (hb : fn.body = some c)
  (h : c.wp P (noPanic (bodyPostM Fence.wide 0 P fn R)) { tmps := args ++ Array.replicate (fn.ntmps - args.size) undef, defers := [] } w) : Calls P f args w R :=
 callsIn_wide.1 (callsIn_of_wp_marks hf hb trivial (wpIn_wide.2 (wp_mono h (fun e a w hq => by cases e <;> first | exact hq | exact hq.elim))) rfl)
theorem mark_end {P : Program} {fn : Func} {R : Ending -> World -> Prop} {a : Act} {w : World} {D : Nat} (hd : a.defers = [mark D]) (hk : w.heap[D]? = some (.deferred (some [])))
  (h : bodyPost P fn R .ret { a with defers := [] } (w.putObj D (.deferred none))) : bodyPostM Fence.wide 0 P fn R .ret a w := by
 show LeavesInM Fence.wide 0 P fn a.tmps R a.defers .returning w
 rw [hd]
 refine ⟨by simp, .inl ⟨_, _, rfl, run_takeDeferred hk, ?_⟩⟩
 exact h.2
theorem mark_end_n {P : Program} {fn : Func} {R : Ending -> World -> Prop} {a : Act} {w : World} {D : Nat} (hd : a.defers = [mark D]) (hk : w.heap[D]? = some (.deferred (some [])))
  (h : bodyPost P fn R .ret { a with defers := [] } (w.putObj D (.deferred none))) : bodyPostM Fence.wide 0 P fn R .normal a w := mark_end hd hk h
end
end Go.Proofs.Ytlkaejjpibebkaa

namespace Go.Proofs.Ytlkaejjpibebkaa
open Go.ChangeShapes Go.WideShapes Go.ChangeAt Go.RowKit Go.Shelf
set_option linter.unusedVariables false
set_option linter.unusedSimpArgs false
section
theorem Held.one {w : World} {g : Nat} {t : TypeId} {c0 : Value} (h : Held w g t #[c0]) : w.cell? ⟨g, 0, none⟩ = some c0 /\ w.frozen? ⟨g, 0, none⟩ = false := ⟨h.cell 0, h.thawed 0⟩
section
attribute [local go_sem] Oper.semAt_some
end
end
end Go.Proofs.Ytlkaejjpibebkaa

namespace Go.Proofs.Ytlkaejjpibebkaa
open Go.ChangeShapes Go.WideShapes Go.ChangeAt Go.RowKit Go.Maps
set_option linter.unusedVariables false
set_option linter.unusedSimpArgs false
section
section
variable (n : Nat) (K : Nat -> Option Nat)
def rtC (i : Nat) : Int := ((22 + i : Nat) : Int)
def heldI (a : Int) : Nat -> Nat -> Vst -> Bool × Vst
 | 0, _, st => (false, st)
 | j + 1, i, st => if (getV n K st (rtC i) : Int) = a then (true, getS n K st (rtC i)) else heldI a j (i + 1) (getS n K st (rtC i))
def heldR (a : Int) (st : Vst) : Bool × Vst := if 1 <= a then heldI n K a 8 0 st else (false, st)
def folI (x y : Nat) : Nat -> Nat -> Vst -> Vst
 | 0, _, st => st
 | j + 1, i, st => folI x y j (i + 1) (if getV n K st (rtC i) = x then putS n (getS n K st (rtC i)) (rtC i) y else getS n K st (rtC i))
def folR (x y : Int) (st : Vst) : Vst := if 1 <= x /\ x <= 4294967295 /\ 1 <= y /\ y <= 4294967295 then folI n K x.toNat y.toNat 8 0 st else st
def rtB (i : Int) : Bool := decide (0 <= i /\ i <= 7)
def gtV (i : Int) (st : Vst) : Int := if rtB i = true then (getV n K st (22 + i) : Int) else 0
def gtS (i : Int) (st : Vst) : Vst := if rtB i = true then getS n K st (22 + i) else st
def stB (i a : Int) : Bool := rtB i && decide (0 <= a /\ a <= 4294967295)
def stS (i a : Int) (st : Vst) : Vst := if stB i a = true then putS n st (22 + i) a.toNat else st
end
section
variable {n : Nat} {K : Nat -> Option Nat} {st : Vst}
end
end
end Go.Proofs.Ytlkaejjpibebkaa

namespace Go.Proofs.Ytlkaejjpibebkaa
open Go.ChangeShapes Go.WideShapes Go.ChangeAt Go.RowKit Go.Maps
set_option linter.unusedVariables false
set_option linter.unusedSimpArgs false
set_option maxRecDepth 100000
section
structure Blk where
 n : Nat
 t : TypeId
 cs : Array Value
def GB (G : Nat -> Prop) (L : List Blk) : Nat -> Prop := fun g => G g \/ ∃ x, x ∈ L /\ x.n = g

structure WL (O : Ob) (w0 : World) (A G : Nat -> Prop) (ws : World) (L : List Blk) (st : Vst) (w : World) : Prop where
 at_ : O.At w0 A (GB G L) st w
 held : ∀ x ∈ L, Held w x.n x.t x.cs
 stay : Stay G ws w
 lo : ∀ x ∈ L, ws.heap.size <= x.n
 nd : (L.map (·.n)).Nodup

section
variable {O : Ob} {w0 ws w w' : World} {A G : Nat -> Prop} {L : List Blk} {x y z : Blk} {st s' : Vst}
theorem WL.start (h : O.At w0 A G st ws) : WL O w0 A G ws [] st ws :=
 ⟨h.less (fun g hg => by
  rcases hg with hg | ⟨x, hx, _⟩
  ·exact hg
  ·exact absurd hx (List.not_mem_nil)), fun x hx => absurd hx (List.not_mem_nil), Stay.of_below (B0 _) G, fun x hx => absurd hx (List.not_mem_nil), List.nodup_nil⟩
theorem WL.keep (h : WL O w0 A G ws L st w) (hb : Below w.heap.size w w') : WL O w0 A G ws L st w' :=
 ⟨h.at_.keep hb, fun x hx => (h.held x hx).keep hb, h.stay.trans (Stay.of_below hb G), h.lo, h.nd⟩
theorem WL.alloc (h : WL O w0 A G ws L st w) (o : Obj) : WL O w0 A G ws L st (w.alloc o) := h.keep (Bnew (B0 w) o)
theorem WL.call (h : WL O w0 A G ws L st w) (h1 : O.At w0 A (GB G L) s' w') (h2 : Stay (GB G L) w w') : WL O w0 A G ws L s' w' :=
 ⟨h1, fun x hx => h2.held (.inr ⟨x, hx, rfl⟩) (h.held x hx), h.stay.trans (h2.less fun g x => .inl x), h.lo, h.nd⟩
theorem WL.fin (h : WL O w0 A G ws L st w) : O.At w0 A G st w /\ Stay G ws w := ⟨h.at_.less fun g x => .inl x, h.stay⟩
theorem WL.new (h : WL O w0 A G ws L st w) (t : TypeId) (cs : Array Value) : WL O w0 A G ws (⟨w.heap.size, t, cs⟩ :: L) st (w.alloc (.cells cs t)) := by
 have hk := h.alloc (.cells cs t)
 refine ⟨(h.at_.box (.cells cs t)).less (fun g hg => ?_), fun x hx => ?_, hk.stay, fun x hx => ?_, ?_⟩
 ·rcases hg with hg | ⟨x, hx, rfl⟩
  ·exact .inl (.inl hg)
  ·rcases List.mem_cons.1 hx with rfl | hx
   ·exact .inr rfl
   ·exact .inl (.inr ⟨x, hx, rfl⟩)
 ·rcases List.mem_cons.1 hx with rfl | hx
  ·exact Held.new w t cs
  ·exact hk.held x hx
 ·rcases List.mem_cons.1 hx with rfl | hx
  ·exact h.stay.1
  ·exact h.lo x hx
 ·rw [List.map_cons]
  refine List.nodup_cons.2 ⟨fun hm => ?_, h.nd⟩
  obtain ⟨x, hx, e⟩ := List.mem_map.1 hm
  have h1 := (h.held x hx).lt
  have e : x.n = w.heap.size := e
  omega
theorem WL.put (h : WL O w0 A G ws (x :: L) st w) (i : Nat) (v : Value) : WL O w0 A G ws (⟨x.n, x.t, x.cs.setIfInBounds i v⟩ :: L) st (w.setCell ⟨x.n, i, none⟩ v) := by
 have hnd := List.nodup_cons.1 h.nd
 have hlo := h.lo x (List.mem_cons_self ..)
 refine ⟨(h.at_.put (p := ⟨x.n, i, none⟩) (.inr ⟨x, List.mem_cons_self .., rfl⟩) v).less (fun g hg => ?_), fun y hy => ?_, ⟨by simp; exact h.stay.1, fun g hg hl => (Below.heap_setCell w ⟨x.n, i, none⟩ v g (fun e => by have e : g = x.n := e; omega)).trans (h.stay.2 g hg hl)⟩, fun y hy => ?_, h.nd⟩
 ·rcases hg with hg | ⟨y, hy, rfl⟩
  ·exact .inl hg
  ·rcases List.mem_cons.1 hy with rfl | hy
   ·exact .inr ⟨x, List.mem_cons_self .., rfl⟩
   ·exact .inr ⟨y, List.mem_cons_of_mem _ hy, rfl⟩
 ·rcases List.mem_cons.1 hy with rfl | hy
  ·exact (h.held x (List.mem_cons_self ..)).put i v
  ·refine (h.held y (List.mem_cons_of_mem _ hy)).far (p := ⟨x.n, i, none⟩) (fun e => hnd.1 ?_) v
   have e : y.n = x.n := e
   exact List.mem_map.2 ⟨y, hy, e⟩
 ·rcases List.mem_cons.1 hy with rfl | hy
  ·exact hlo
  ·exact h.lo y (List.mem_cons_of_mem _ hy)
theorem WL.swap (h : WL O w0 A G ws (x :: y :: L) st w) : WL O w0 A G ws (y :: x :: L) st w := by
 refine ⟨h.at_.less (fun g hg => ?_), fun z hz => h.held z (by simp at hz ⊢; rcases hz with e | e | e <;> simp [e]), h.stay, fun z hz => h.lo z (by simp at hz ⊢; rcases hz with e | e | e <;> simp [e]), ?_⟩
 ·rcases hg with hg | ⟨z, hz, e⟩
  ·exact .inl hg
  ·exact .inr ⟨z, by simp at hz ⊢; rcases hz with e | e | e <;> simp [e], e⟩
 ·have := h.nd
  simp only [List.map_cons, List.nodup_cons, List.mem_cons, not_or] at this ⊢
  exact ⟨⟨fun e => this.1.1 e.symm, this.2.1⟩, this.1.2, this.2.2⟩
theorem WL.h0 (h : WL O w0 A G ws (x :: L) st w) : Held w x.n x.t x.cs := h.held x (List.mem_cons_self ..)
theorem WL.h1 (h : WL O w0 A G ws (x :: y :: L) st w) : Held w y.n y.t y.cs := h.held y (List.mem_cons_of_mem _ (List.mem_cons_self ..))
theorem WL.h2 (h : WL O w0 A G ws (x :: y :: z :: L) st w) : Held w z.n z.t z.cs := h.held z (List.mem_cons_of_mem _ (List.mem_cons_of_mem _ (List.mem_cons_self ..)))
theorem rWL_lt {base b n : Nat} {all : Bool} {K : Nat -> Option Nat} (h : WL (rOb base b n all K) w0 A G ws L st w) (a : Int) : getV n K st a < 2 ^ 32 := rAt_lt h.at_ a
end
end
end Go.Proofs.Ytlkaejjpibebkaa

namespace Go.Proofs.Ytlkaejjpibebkaa
open Go.ChangeShapes Go.WideShapes Go.ChangeAt Go.RowKit Go.Maps
set_option linter.unusedVariables false
section
structure WLF (O : Ob) (w0 : World) (A G : Nat -> Prop) (ws : World) (L : List Blk) (st : Vst) (F : Nat -> Prop) (w : World) : Prop where
 I : O.I w st F
 sub : ∀ g, F g -> A g \/ w0.heap.size <= g
 turns : Turns A w0 w
 own : ∀ g, GB G L g -> w0.heap.size <= g /\ g < w.heap.size /\ ¬ F g
 held : ∀ x ∈ L, Held w x.n x.t x.cs
 stay : Stay G ws w
 lo : ∀ x ∈ L, ws.heap.size <= x.n
 nd : (L.map (·.n)).Nodup
theorem Turns.putObj {k : Nat} (w : World) (o : Obj) : Turns (fun i => i = k) w (w.putObj k o) := ⟨rfl, rfl, rfl, by simp, fun i _ hf => World.putObj_heap_other hf⟩
section
variable {O : Ob} {w0 ws w w' : World} {A G F : Nat -> Prop} {L : List Blk} {st s' : Vst}
theorem Stay.aside {k : Nat} (h : Stay G ws w) (ht : Turns (fun i => i = k) w w') (hs : ws.heap.size <= k) : Stay G ws w' :=
 ⟨Nat.le_trans h.1 ht.size, fun g hg hl => (ht.block g (Nat.lt_of_lt_of_le hl h.1) (fun e => by omega)).trans (h.2 g hg hl)⟩
theorem WL.open_ (h : WL O w0 A G ws L st w) : ∃ F, WLF O w0 A G ws L st F w := by
 obtain ⟨F, h1, h2, h3, h4⟩ := h.at_
 exact ⟨F, h1, h2, h3, h4, h.held, h.stay, h.lo, h.nd⟩
theorem WLF.wl (h : WLF O w0 A G ws L st F w) : WL O w0 A G ws L st w := ⟨⟨F, h.I, h.sub, h.turns, h.own⟩, h.held, h.stay, h.lo, h.nd⟩
theorem WLF.lt (h : WLF O w0 A G ws L st F w) : ∀ g, F g -> g < w.heap.size := fun g hg => O.lt h.I g hg
theorem WLF.aside {k : Nat} (h : WLF O w0 A G ws L st F w) (ht : Turns (fun i => i = k) w w') (hF : ¬ F k) (h0 : w0.heap.size <= k) (hs : ws.heap.size <= k) (hL : ∀ x ∈ L, x.n ≠ k) : WLF O w0 A G ws L st F w' :=
 ⟨O.turns h.I ht (fun i hi e => hF (e ▸ hi)), h.sub, ht.more_new h.turns.size h.turns (fun i e => .inr (by omega)), fun g hg => ⟨(h.own g hg).1, Nat.lt_of_lt_of_le (h.own g hg).2.1 ht.size, (h.own g hg).2.2⟩,
  fun x hx => ht.held (h.held x hx) (hL x hx), h.stay.aside ht hs, h.lo, h.nd⟩
theorem WLF.turn {F' : Nat -> Prop} (h : WLF O w0 A G ws L st F w) (hI : O.I w' s' F') (ht : Turns F w w') (hs : ∀ g, F' g -> F g \/ w.heap.size <= g) : WLF O w0 A G ws L s' F' w' := by
 have h0 := h.turns.size
 refine ⟨hI, fun g hg => ?_, ht.more_new h0 h.turns h.sub, fun g hg => ?_, fun x hx => ht.held (h.held x hx) (h.own _ (.inr ⟨x, hx, rfl⟩)).2.2, ⟨Nat.le_trans h.stay.1 ht.size, fun g hg hl => (ht.block g (Nat.lt_of_lt_of_le hl h.stay.1) (h.own g (.inl hg)).2.2).trans (h.stay.2 g hg hl)⟩, h.lo, h.nd⟩
 ·rcases hs g hg with h1 | h1
  ·exact h.sub g h1
  ·exact .inr (by omega)
 ·obtain ⟨h1, h2, h3⟩ := h.own g hg
  refine ⟨h1, Nat.lt_of_lt_of_le h2 ht.size, fun x => ?_⟩
  rcases hs g x with h4 | h4
  ·exact h3 h4
  ·omega
theorem WLF.call {P : Program} {f : FuncId} {args : Array Value} {R : Ending -> Prop} (h : WLF O w0 A G ws L st F w) (hc : O.At w F (fun _ => False) st w -> Calls P f args w fun e w' => R e /\ O.At w F (fun _ => False) s' w' /\ Stay (fun _ => False) w w') :
  Calls P f args w fun e w' => R e /\ ∃ F', WLF O w0 A G ws L s' F' w' /\ Turns F w w' /\ ∀ g, F' g -> F g \/ w.heap.size <= g := by
 refine (hc (Ob.At.start h.I)).mono ?_
 rintro e w' ⟨hr, ⟨F', h1, h2, h3, _⟩, _⟩
 exact ⟨hr, F', h.turn h1 h3 h2, h3, h2⟩
theorem WLF.put {x : Blk} (h : WLF O w0 A G ws (x :: L) st F w) (i : Nat) (v : Value) : WLF O w0 A G ws (⟨x.n, x.t, x.cs.setIfInBounds i v⟩ :: L) st F (w.setCell ⟨x.n, i, none⟩ v) := by
 have h2 := h.wl.put i v
 have hx := h.own x.n (.inr ⟨x, List.mem_cons_self .., rfl⟩)
 refine ⟨O.turns h.I ((T0 (fun k => k = x.n) w).put (p := ⟨x.n, i, none⟩) rfl v) (fun k hk e => hx.2.2 (by rw [<- e]; exact hk)), h.sub, h.turns.put_new (p := ⟨x.n, i, none⟩) hx.1 v, fun g hg => ?_, h2.held, h2.stay, h2.lo, h2.nd⟩
 obtain ⟨h3, h4, h5⟩ := h.own g (by
  rcases hg with hg | ⟨y, hy, rfl⟩
  ·exact .inl hg
  ·rcases List.mem_cons.1 hy with rfl | hy
   ·exact .inr ⟨x, List.mem_cons_self .., rfl⟩
   ·exact .inr ⟨y, List.mem_cons_of_mem _ hy, rfl⟩)
 exact ⟨h3, by simpa using h4, h5⟩
end

def SeqGet (P : Program) (gf : Nat) (cap : Array Value) (get : FuncId) (gargs : Nat -> Array Value) (m : Nat) (R : World -> Prop) : Prop :=
 ∀ (l : Nat) (J : Nat -> (Nat -> Prop) -> World -> Prop) (J1 : Nat -> Int -> (Nat -> Prop) -> World -> Prop) (Jx : World -> Prop) (W : World) (F0 : Nat -> Prop), R W ->
  (∀ pos F A B, J pos F A -> Below A.heap.size A B -> J pos F B) -> (∀ pos a F A B, J1 pos a F A -> Below A.heap.size A B -> J1 pos a F B) -> (∀ A B, Jx A -> Below A.heap.size A B -> Jx B) ->
  (∀ pos F A, J pos F A -> R A) ->
  (∀ pos F A, J pos F A -> W.heap.size <= A.heap.size -> pos < m -> Calls P get (gargs pos) A fun e B => ∃ (a : Int) (ok : Bool), e = .returned (.tuple #[.int .i64 a, .bool ok]) /\ W.heap.size <= B.heap.size /\ ∃ F', J1 pos a F' B) ->
  (∀ pos a F A, J1 pos a F A -> W.heap.size <= A.heap.size -> pos < m -> YieldAt Fence.wide 0 P l #[.int .i64 (pos : Int), .int .i64 a] A fun e B =>
   (e = .returned (.bool true) /\ W.heap.size <= B.heap.size /\ ∃ F', J (pos + 1) F' B) \/ (e = .returned (.bool false) /\ Jx B)) ->
  J 0 F0 W ->
  CallsIn Fence.wide 0 P gf (#[.func (.yield l) #[] #[]] ++ cap) W fun e B => (∃ v, e = .returned v) /\ ((∃ F, J m F B) \/ Jx B)

def RoundGoT (k : Nat) (P : Program) (l : Nat) (body : Code) (Q : World -> Exit -> Act -> World -> Prop) (A : World) (a₁ : Act) (A₁ : World) : Prop :=
 Below A.heap.size A A₁ /\ ∀ A₂, Turns (fun i => i = k) A₁ A₂ -> A₂.heap.size = A₁.heap.size -> body.wpIn (inR l) 0 P (Q A₂) a₁ A₂

theorem wp_seq_get {P : Program} {g : Operand} {ps : Array Tmp} {assign body : Code} {Q : Exit -> Act -> World -> Prop} {a : Act} {w : World} {gf : Nat} {cap : Array Value}
  (hg : a.eval g = .func (.func gf) #[] cap) (eg : ∀ args w, (callFunc gf args).run P w = .ok (.enter gf args) w)
  {get : FuncId} {gargs : Nat -> Array Value} {m : Nat} {R : World -> Prop} (hseq : SeqGet P gf cap get gargs m R) (hb0 : R w) (hRB : ∀ A B, R A -> Below A.heap.size A B -> R B) (hps : ps.size = 2)
  (I : Nat -> (Nat -> Prop) -> World -> Prop) (I1 : Nat -> Int -> (Nat -> Prop) -> World -> Prop) (Ix : Code -> World -> Prop)
  (hI : ∀ pos F A B, I pos F A -> ¬ F (w.heap.size + 1) -> Turns (fun i => i = w.heap.size + 1) A B -> I pos F B)
  (hI1 : ∀ pos v F A B, I1 pos v F A -> ¬ F (w.heap.size + 1) -> Turns (fun i => i = w.heap.size + 1) A B -> I1 pos v F B)
  (hIx : ∀ c A B, Ix c A -> Turns (fun i => i = w.heap.size + 1) A B -> Ix c B)
  (hIR : ∀ pos F A, I pos F A -> R A)
  {F0 : Nat -> Prop} (h0 : I 0 F0 w) (hF0 : ∀ i, F0 i -> i < w.heap.size)
  (hget : ∀ pos F A, I pos F A -> pos < m -> Calls P get (gargs pos) A fun e B => ∃ (v : Int) (ok : Bool), e = .returned (.tuple #[.int .i64 v, .bool ok]) /\ ∃ F', I1 pos v F' B /\ Turns F A B /\ ∀ i, F' i -> F i \/ A.heap.size <= i)
  (hround : ∀ (l pos : Nat) (v : Int) (F : Nat -> Prop) (A : World), pos < m -> I1 pos v F A -> w.heap.size + 2 <= A.heap.size -> (¬ F w.heap.size /\ ¬ F (w.heap.size + 1)) ->
   assign.wpIn (inR l) 0 P (Exit.then (RoundGoT (w.heap.size + 1) P l body (seqPost I Ix (pos + 1) F A.heap.size) A) (fun _ _ _ => False))
    { tmps := (ps.zip #[.int .i64 (pos : Int), .int .i64 v]).foldl (fun t (p, v) => t.setIfInBounds p v) a.tmps, defers := [] } A)
  (hdone : ∀ (F : Nat -> Prop) (A : World), I m F A -> ¬ F w.heap.size -> A.heap[w.heap.size]? = some (.deferred (some [])) -> Q .normal { a with defers := mark w.heap.size :: a.defers } A)
  (hstop : ∀ (c : Code) (A : World), Ix c A -> A.heap[w.heap.size]? = some (.deferred (some [])) -> c.wp P Q { a with defers := mark w.heap.size :: a.defers } A) :
  (Code.rangeFunc g ps assign body).wp P Q a w := by
 refine (wpIn_wide (n := 1)).1 (wpIn_rangeFunc ?_)
 intro fn hfn
 obtain ⟨rec, hrec⟩ : ∃ rec : LoopState -> Option Code -> Loop, rec = fun st pe => { state := st, pending := pe, fn, tmps := a.tmps, params := ps, assign, body, defers := w.heap.size } := ⟨_, rfl⟩
 obtain ⟨W1, hW1⟩ : ∃ W1, (w.alloc (.deferred (some []))).alloc (.loop (rec .ready none)) = W1 := ⟨_, rfl⟩
 have hbw : Below w.heap.size w W1 := by rw [<- hW1]; exact Bnew (Bnew (B0 w) _) _
 have hs1 : W1.heap.size = w.heap.size + 2 := by rw [<- hW1]; simp
 have hL1 : W1.heap[w.heap.size + 1]? = some (.loop (rec .ready none)) := by
  have := heap_alloc_new (w.alloc (.deferred (some []))) (.loop (rec .ready none))
  rw [hW1] at this; simpa using this
 have hK1 : W1.heap[w.heap.size]? = some (.deferred (some [])) := by
  rw [<- hW1]; exact (Below.heap_alloc _ _ _ (by simp)).trans (heap_alloc_new w _)
 refine ⟨w.heap.size + 1, [mark w.heap.size], W1, { target := .fn (.func gf) cap, args := #[.func (.yield (w.heap.size + 1)) #[] #[]] }, W1, gf, #[.func (.yield (w.heap.size + 1)) #[] #[]] ++ cap, W1, ?_, ?_, ?_, ?_, fun _ => Nat.le_refl _, ?_⟩
 ·rw [<- hW1, hrec]; exact run_enterLoop_outer _ _ _ _ _
 ·simp only [resolve, hg]
  simp [go_sem]
 ·intro f' hf'; exact trivial
 ·simp [invoke, go_sem, eg]
 ·have keepRow : ∀ {A B : World} {k : Nat} {o : Obj}, Below A.heap.size A B -> A.heap[k]? = some o -> B.heap[k]? = some o := fun hb hk => (hb.block _ (Array.getElem?_eq_some_iff.1 hk).1).trans hk
  have turnRow : ∀ {A B : World} {F : Nat -> Prop} {k : Nat} {o : Obj}, Turns F A B -> ¬ F k -> A.heap[k]? = some o -> B.heap[k]? = some o := fun hb hf hk => (hb.block _ (Array.getElem?_eq_some_iff.1 hk).1 hf).trans hk
  refine (hseq (w.heap.size + 1)
   (fun pos F A => I pos F A /\ (¬ F w.heap.size /\ ¬ F (w.heap.size + 1)) /\ A.heap[w.heap.size + 1]? = some (.loop (rec .ready none)) /\ A.heap[w.heap.size]? = some (.deferred (some [])))
   (fun pos v F A => I1 pos v F A /\ (¬ F w.heap.size /\ ¬ F (w.heap.size + 1)) /\ A.heap[w.heap.size + 1]? = some (.loop (rec .ready none)) /\ A.heap[w.heap.size]? = some (.deferred (some [])))
   (fun A => ∃ c, Ix c A /\ A.heap[w.heap.size + 1]? = some (.loop (rec .done (some c))) /\ A.heap[w.heap.size]? = some (.deferred (some [])))
   W1 F0 (hRB _ _ hb0 hbw)
   (fun pos F A B h hb => ⟨hI pos F A B h.1 h.2.1.2 (Turns.of_below hb _), h.2.1, keepRow hb h.2.2.1, keepRow hb h.2.2.2⟩)
   (fun pos v F A B h hb => ⟨hI1 pos v F A B h.1 h.2.1.2 (Turns.of_below hb _), h.2.1, keepRow hb h.2.2.1, keepRow hb h.2.2.2⟩)
   (fun A B h hb => by obtain ⟨c, h1, h3, h4⟩ := h; exact ⟨c, hIx c A B h1 (Turns.of_below hb _), keepRow hb h3, keepRow hb h4⟩)
   (fun pos F A h => hIR pos F A h.1)
   ?_ ?_ ⟨hI 0 F0 w W1 h0 (fun hf => by have := hF0 _ hf; omega) (Turns.of_below hbw _), ⟨fun hf => by have := hF0 _ hf; omega, fun hf => by have := hF0 _ hf; omega⟩, hL1, hK1⟩).mono ?_
  ·rintro pos F A ⟨hi, ⟨hF0', hF1⟩, hl, hk⟩ hsA hc
   refine (hget pos F A hi hc).mono ?_
   rintro e B ⟨v, ok, rfl, F', h1, h2, h3⟩
   have hlt : w.heap.size + 1 < A.heap.size := (Array.getElem?_eq_some_iff.1 hl).1
   refine ⟨v, ok, rfl, Nat.le_trans hsA h2.size, F', h1, ⟨fun hf => ?_, fun hf => ?_⟩, turnRow h2 hF1 hl, turnRow h2 hF0' hk⟩
   ·rcases h3 _ hf with h | h
    ·exact hF0' h
    ·omega
   ·rcases h3 _ hf with h | h
    ·exact hF1 h
    ·omega
  ·rintro pos v F A ⟨hi, ⟨hF0', hF1⟩, hl, hk⟩ hsA hc
   have hlt : w.heap.size + 1 < A.heap.size := (Array.getElem?_eq_some_iff.1 hl).1
   have hy := run_yield (P := P) (args := #[.int .i64 (pos : Int), .int .i64 v]) hl (by rw [hrec]; exact hps.symm)
   rw [hrec] at hy
   refine ⟨fn, _, assign, body, hy, roundIn_of_wpIn hfn (wpIn_mono (hround _ pos v F A hc hi (by omega) ⟨hF0', hF1⟩) ?_)⟩
   rintro e a₁ A₁ hg1
   cases e with
   | normal =>
    obtain ⟨hbA, hgo⟩ := hg1
    have hl1 := keepRow hbA hl
    have hk1 := keepRow hbA hk
    have hlt1 : w.heap.size + 1 < A₁.heap.size := (Array.getElem?_eq_some_iff.1 hl1).1
    refine ⟨_, run_beginRound hl1 (by rw [hrec]), ?_⟩
    obtain ⟨A₂, hA₂⟩ : ∃ A₂, A₁.putObj (w.heap.size + 1) (.loop { rec .ready none with state := .busy }) = A₂ := ⟨_, rfl⟩
    have hl2 : A₂.heap[w.heap.size + 1]? = some (.loop { rec .ready none with state := .busy }) := by rw [<- hA₂]; exact World.putObj_heap_same hlt1
    have hk2 : A₂.heap[w.heap.size]? = some (.deferred (some [])) := by rw [<- hA₂]; exact (World.putObj_heap_other (by omega)).trans hk1
    have hM2 : Turns (fun i => i = w.heap.size + 1) A₁ A₂ := by rw [<- hA₂]; exact Turns.putObj _ _
    have hs2 : A₂.heap.size = A₁.heap.size := by rw [<- hA₂]; simp
    rw [hA₂]
    refine wpIn_mono (hgo A₂ hM2 hs2) ?_
    have fin : ∀ (jump : Option Code) (B : World), Turns F A₂ B -> (Instr.endRound (w.heap.size + 1) jump).run P B = .ok (.bool jump.isNone) (B.putObj (w.heap.size + 1) (.loop (rec (if jump.isNone then .ready else .done) jump))) /\
      Turns (fun i => i = w.heap.size + 1) B (B.putObj (w.heap.size + 1) (.loop (rec (if jump.isNone then .ready else .done) jump))) /\
      (B.putObj (w.heap.size + 1) (.loop (rec (if jump.isNone then .ready else .done) jump))).heap[w.heap.size + 1]? = some (.loop (rec (if jump.isNone then .ready else .done) jump)) /\
      (B.putObj (w.heap.size + 1) (.loop (rec (if jump.isNone then .ready else .done) jump))).heap[w.heap.size]? = some (.deferred (some [])) := fun jump B hT => by
     have hl3 := turnRow hT hF1 hl2
     have hk3 := turnRow hT hF0' hk2
     have := run_endRound (P := P) jump hl3
     rw [hrec] at this ⊢
     exact ⟨this, Turns.putObj _ _, World.putObj_heap_same (Array.getElem?_eq_some_iff.1 hl3).1, (World.putObj_heap_other (by omega)).trans hk3⟩
    rintro e a3 B hp
    cases e with
    | normal =>
     obtain ⟨hT, F', hi3, hF'⟩ := hp
     obtain ⟨hr, hm, hl4, hk4⟩ := fin none B hT
     have hsB : A.heap.size <= B.heap.size := by have := hT.size; have := hbA.size; omega
     have hn0 : ¬ F' w.heap.size := fun hf => by
      rcases hF' _ hf with h | h
      ·exact hF0' h
      ·omega
     have hn1 : ¬ F' (w.heap.size + 1) := fun hf => by
      rcases hF' _ hf with h | h
      ·exact hF1 h
      ·omega
     exact ⟨_, _, hr, .inl ⟨rfl, Nat.le_trans hsA (Nat.le_trans hsB hm.size), F', hI _ _ _ _ hi3 hn1 hm, ⟨hn0, hn1⟩, hl4, hk4⟩⟩
    | ret =>
     obtain ⟨hT, hx⟩ := hp
     obtain ⟨hr, hm, hl4, hk4⟩ := fin (some .ret) B hT
     exact ⟨_, _, hr, .inr ⟨rfl, .ret, hIx _ _ _ hx hm, hl4, hk4⟩⟩
    | exit id =>
     obtain ⟨hT, hx⟩ := hp
     obtain ⟨hr, hm, hl4, hk4⟩ := fin (some (.exit id)) B hT
     exact ⟨_, _, hr, .inr ⟨rfl, .exit id, hIx _ _ _ hx hm, hl4, hk4⟩⟩
    | goto t =>
     obtain ⟨hT, hx⟩ := hp
     obtain ⟨hr, hm, hl4, hk4⟩ := fin (some (.goto t)) B hT
     exact ⟨_, _, hr, .inr ⟨rfl, .goto t, hIx _ _ _ hx hm, hl4, hk4⟩⟩
    | panic ch => exact hp.elim
    | outgrown => exact hp.elim
   | exit id => exact hg1.elim
   | goto t => exact hg1.elim
   | ret => exact hg1.elim
   | panic ch => exact hg1.elim
   | outgrown => exact hg1.elim
  ·rintro e B ⟨⟨v, rfl⟩, (⟨F, hi, ⟨hF0', hF1⟩, hl, hk⟩ | ⟨c, hx, hl, hk⟩)⟩
   ·exact ⟨none, _, by have := run_endLoop (P := P) hl (by rw [hrec]; simp); rw [hrec] at this; exact this, hdone F _ (hI _ _ _ _ hi hF1 (Turns.putObj _ _)) hF0' ((World.putObj_heap_other (by omega)).trans hk)⟩
   ·exact ⟨some c, _, by have := run_endLoop (P := P) hl (by rw [hrec]; simp); rw [hrec] at this; exact this, wpIn_wide.2 (hstop c _ (hIx _ _ _ hx (Turns.putObj _ _)) ((World.putObj_heap_other (by omega)).trans hk))⟩
end
end Go.Proofs.Ytlkaejjpibebkaa

namespace Go.Proofs.Ytlkaejjpibebkaa
open Go.ChangeShapes Go.WideShapes Go.ChangeAt Go.RowKit Go.Maps
set_option linter.unusedVariables false
set_option linter.unusedSimpArgs false
set_option maxRecDepth 100000
section
theorem proot_at {i : Int} (h0 : 0 <= i) (h1 : i <= 7) : nthI 22 8 1 i = 22 + i := by rw [nth_on (by omega) (by omega) (by omega)]; omega
theorem pu32_i64 {v : Nat} (h : v < 2 ^ 32) : IntKind.i64.wrap (v : Int) = (v : Int) := i64_same (by omega) (by omega)

theorem rtFits_c (a : Int) (b : Bool) (hb : decide (0 <= a /\ a <= 4294967295) = b) (w : World) : Calls Try.prog 28 #[.int .i64 a] w fun e w' => e = .returned (.bool b) /\ w = w' := by
 by_cases h0 : 0 <= a
 ·have t0 : decide ((0 : Int) <= a) = true := decide_eq_true h0
  by_cases h1 : a <= 4294967295
  ·have t1 : decide (a <= (4294967295 : Int)) = true := decide_eq_true h1
   obtain rfl : b = true := by rw [<- hb]; exact decide_eq_true ⟨h0, h1⟩
   clear hb
   go_enter Try.func28, Try.ntmps28
   go_wp2
   go_ret
   exact ⟨rfl, rfl⟩
  ·have t1 : decide (a <= (4294967295 : Int)) = false := decide_eq_false h1
   obtain rfl : b = false := by rw [<- hb]; exact decide_eq_false (fun h => h1 h.2)
   clear hb
   go_enter Try.func28, Try.ntmps28
   go_wp2
   go_ret
   exact ⟨rfl, rfl⟩
 ·have t0 : decide ((0 : Int) <= a) = false := decide_eq_false h0
  obtain rfl : b = false := by rw [<- hb]; exact decide_eq_false (fun h => h0 h.1)
  clear hb
  go_enter Try.func28, Try.ntmps28
  go_wp2
  go_ret
  exact ⟨rfl, rfl⟩
theorem rtNames_c (a : Int) (b : Bool) (hb : decide (1 <= a /\ a <= 4294967295) = b) (w : World) : Calls Try.prog 32 #[.int .i64 a] w fun e w' => e = .returned (.bool b) /\ w = w' := by
 by_cases h0 : a = 0
 ·subst h0
  obtain rfl : b = false := by rw [<- hb]; rfl
  clear hb
  go_enter Try.func32, Try.ntmps32
  go_wp2
  go_ret
  exact ⟨rfl, rfl⟩
 ·have t0 : (a != 0) = true := by simpa using h0
  have HC := hidp (rtFits_c a b (by rw [<- hb]; exact decide_eq_decide.2 ⟨fun h => by omega, fun h => by omega⟩))
  clear hb
  go_enter Try.func32, Try.ntmps32
  go_wp2_with fail
  refine (HC.out _).mono ?_; rintro e w1 ⟨rfl, rfl⟩
  go_wp2
  go_ret
  exact ⟨rfl, rfl⟩

section
variable {base b n : Nat} {wh : Bool} {K : Nat -> Option Nat} {st : Vst} {w w0 : World} {A G : Nat -> Prop}

theorem rtGet_no (hn : n < 2 ^ 40) (i : Int) (hi : i < 0 \/ 7 < i) (h : (vOb base b n wh K).At w0 A G st w) :
  Calls Try.prog 8 #[.pointer (some ⟨b, 0, none⟩), .int .i64 i] w fun e w' => e = .returned (.tuple #[.int .i64 0, .bool false]) /\ (vOb base b n wh K).At w0 A G st w' /\ Stay G w w' := by
 have W0 := hidp (WL.start h)
 have E1 := hidp (nth_off (f := 22) (n := 8) (e := 1) (i := i) (by omega))
 clear h
 go_enter Try.func8, Try.ntmps8
 go_wp2_with fail
 refine (plRoot_c i _).mono ?_; rintro e w9 ⟨rfl, rfl⟩; rw [E1.out]
 go_wp2
 go_ret2
 exact ⟨rfl, W0.out.fin⟩
set_option maxHeartbeats 1600000 in
theorem rtGet_in (hn : n < 2 ^ 40) (i : Int) (h0 : 0 <= i) (h1 : i <= 7) (h : (vOb base b n wh K).At w0 A G st w) :
  Calls Try.prog 8 #[.pointer (some ⟨b, 0, none⟩), .int .i64 i] w fun e w' => e = .returned (.tuple #[.int .i64 (getV n K st (22 + i) : Int), .bool true]) /\ (vOb base b n wh K).At w0 A G (getS n K st (22 + i)) w' /\ Stay G w w' := by
 have W0 := hidp (WL.start h)
 have t1 : decide (22 + i < 0) = false := decide_eq_false (by omega)
 obtain ⟨v, hv⟩ : ∃ v, getV n K st (22 + i) = v := ⟨_, rfl⟩
 have hv32 : v < 2 ^ 32 := by rw [<- hv]; exact vAt_lt h _
 have cw := pu32_i64 hv32
 have HV := hidp hv
 rw [hv]
 clear h hv
 go_enter Try.func8, Try.ntmps8
 go_wp2_with fail
 refine (plRoot_c i _).mono ?_; rintro e w9 ⟨rfl, rfl⟩; rw [proot_at h0 h1]
 go_wp2_with fail
 refine (vGetA hn _ W0.out.at_).mono ?_; rintro e w1 ⟨rfl, h1, h2⟩; have W1 := hidp (W0.out.call h1 h2); clear h1 h2 W0; rw [HV.out]
 go_wp2
 go_ret2
 exact ⟨rfl, W1.out.fin⟩
theorem rtGet_c (hn : n < 2 ^ 40) (i : Int) (hi : -9223372036854775808 <= i /\ i <= 9223372036854775807) (h : (vOb base b n wh K).At w0 A G st w) :
  Calls Try.prog 8 #[.pointer (some ⟨b, 0, none⟩), .int .i64 i] w fun e w' => e = .returned (.tuple #[.int .i64 (gtV n K i st), .bool (rtB i)]) /\ (vOb base b n wh K).At w0 A G (gtS n K i st) w' /\ Stay G w w' := by
 by_cases h0 : i < 0 \/ 7 < i
 ·have e : rtB i = false := decide_eq_false (by omega)
  unfold gtS gtV
  rw [e]
  exact rtGet_no hn i h0 h
 ·have e : rtB i = true := decide_eq_true (by omega)
  unfold gtS gtV
  rw [e]
  exact rtGet_in hn i (by omega) (by omega) h

theorem rtSet_no (hn : n < 2 ^ 40) (i a : Int) (hi : i < 0 \/ 7 < i) (h : (vOb base b n wh K).At w0 A G st w) :
  Calls Try.prog 10 #[.pointer (some ⟨b, 0, none⟩), .int .i64 i, .int .i64 a] w fun e w' => e = .returned (.bool false) /\ (vOb base b n wh K).At w0 A G st w' /\ Stay G w w' := by
 have W0 := hidp (WL.start h)
 have E1 := hidp (nth_off (f := 22) (n := 8) (e := 1) (i := i) (by omega))
 clear h
 go_enter Try.func10, Try.ntmps10
 go_wp2_with fail
 refine (plRoot_c i _).mono ?_; rintro e w9 ⟨rfl, rfl⟩; rw [E1.out]
 go_wp2
 go_ret
 exact ⟨rfl, W0.out.fin⟩
theorem rtSet_un (hn : n < 2 ^ 40) (i a : Int) (h0 : 0 <= i) (h1 : i <= 7) (ha : a < 0 \/ 4294967295 < a) (h : (vOb base b n wh K).At w0 A G st w) :
  Calls Try.prog 10 #[.pointer (some ⟨b, 0, none⟩), .int .i64 i, .int .i64 a] w fun e w' => e = .returned (.bool false) /\ (vOb base b n wh K).At w0 A G st w' /\ Stay G w w' := by
 have W0 := hidp (WL.start h)
 have t1 : decide (22 + i < 0) = false := decide_eq_false (by omega)
 have HC := hidp (rtFits_c a false (decide_eq_false (by omega)))
 clear h
 go_enter Try.func10, Try.ntmps10
 go_wp2_with fail
 refine (plRoot_c i _).mono ?_; rintro e w9 ⟨rfl, rfl⟩; rw [proot_at h0 h1]
 go_wp2_with fail
 refine (HC.out _).mono ?_; rintro e w9 ⟨rfl, rfl⟩
 go_wp2
 go_ret
 exact ⟨rfl, W0.out.fin⟩
set_option maxHeartbeats 1600000 in
theorem rtSet_in (hn : n < 2 ^ 40) (i a : Int) (h0 : 0 <= i) (h1 : i <= 7) (x : Nat) (hx : x < 2 ^ 32) (ha : a = (x : Int)) (h : (vOb base b n wh K).At w0 A G st w) :
  Calls Try.prog 10 #[.pointer (some ⟨b, 0, none⟩), .int .i64 i, .int .i64 a] w fun e w' => e = .returned (.bool true) /\ (vOb base b n wh K).At w0 A G (putS n st (22 + i) x) w' /\ Stay G w w' := by
 subst ha
 have W0 := hidp (WL.start h)
 have t1 : decide (22 + i < 0) = false := decide_eq_false (by omega)
 have HC := hidp (rtFits_c (x : Int) true (decide_eq_true (by omega)))
 have cw : IntKind.u32.wrap (x : Int) = (x : Int) := wrap_nat32 x hx
 clear h
 go_enter Try.func10, Try.ntmps10
 go_wp2_with fail
 refine (plRoot_c i _).mono ?_; rintro e w9 ⟨rfl, rfl⟩; rw [proot_at h0 h1]
 go_wp2_with fail
 refine (HC.out _).mono ?_; rintro e w9 ⟨rfl, rfl⟩
 go_wp2_with fail
 refine (vPutA hn _ x hx W0.out.at_).mono ?_; rintro e w1 ⟨rfl, h1, h2⟩; have W1 := hidp (W0.out.call h1 h2); clear h1 h2 W0
 go_wp2
 go_ret
 exact ⟨rfl, W1.out.fin⟩
theorem rtSet_c (hn : n < 2 ^ 40) (i a : Int) (hi : -9223372036854775808 <= i /\ i <= 9223372036854775807) (ha : -9223372036854775808 <= a /\ a <= 9223372036854775807) (h : (vOb base b n wh K).At w0 A G st w) :
  Calls Try.prog 10 #[.pointer (some ⟨b, 0, none⟩), .int .i64 i, .int .i64 a] w fun e w' => e = .returned (.bool (stB i a)) /\ (vOb base b n wh K).At w0 A G (stS n i a st) w' /\ Stay G w w' := by
 unfold stS
 by_cases h0 : i < 0 \/ 7 < i
 ·have e : stB i a = false := by unfold stB; rw [show rtB i = false from decide_eq_false (by omega)]; rfl
  rw [e]
  exact rtSet_no hn i a h0 h
 ·have e1 : rtB i = true := decide_eq_true (by omega)
  by_cases h2 : a < 0 \/ 4294967295 < a
  ·have e : stB i a = false := by unfold stB; rw [e1, decide_eq_false (by omega)]; rfl
   rw [e]
   exact rtSet_un hn i a (by omega) (by omega) h2 h
  ·have e : stB i a = true := by unfold stB; rw [e1, decide_eq_true (by omega)]; rfl
   rw [e]
   exact rtSet_in hn i a (by omega) (by omega) a.toNat (by omega) (by omega) h
end

def BoxAt (bx b : Nat) (w : World) : Prop := w.cell? ⟨bx, 0, none⟩ = some (.pointer (some ⟨b, 0, none⟩))
theorem BoxAt.below {bx b : Nat} {w w' : World} (h : BoxAt bx b w) (hb : Below w.heap.size w w') : BoxAt bx b w' := by
 have hlt : bx < w.heap.size := by
  rcases Nat.lt_or_ge bx w.heap.size with h1 | h1
  ·exact h1
  ·have h2 : w.heap[bx]? = none := Array.getElem?_eq_none h1
   unfold BoxAt World.cell? at h
   rw [h2] at h
   cases h
 exact (hb.cell hlt).trans h
section
attribute [local go_sem] Oper.semAt_some
set_option maxHeartbeats 1600000 in
theorem roots_seq (bx b : Nat) : SeqGet Try.prog 42 #[.pointer (some ⟨bx, 0, none⟩)] 8 (fun i => #[.pointer (some ⟨b, 0, none⟩), .int .i64 (i : Int)]) 8 (BoxAt bx b) := by
 intro l J J1 Jx W F0 hW hJ hJ1 hJx hJR hG hY h0
 refine callsIn_of_wp Try.func42 rfl trivial ?_ rfl
 simp only [Try.ntmps42, List.size_toArray, List.length_cons, List.length_nil, Nat.reduceAdd, Nat.reduceSub, Array.replicate_succ, Array.replicate_zero, List.push_toArray, List.append_toArray, List.nil_append, List.cons_append]
 have HJ0 := hidp h0
 have HJ := hidp hJ
 have HJ1 := hidp hJ1
 have HJX := hidp hJx
 have HJR := hidp hJR
 have HG := hidp hG
 have HY := hidp hY
 clear hJ hJ1 hJx hJR hG hY h0 hW
 gi_wp2_with fail
 gi_loopw [6] (fun u wr => ∃ (pos : Nat) (F : Nat -> Prop), u = .int .i64 (pos : Int) /\ pos <= 8 /\ Hid (J pos F wr) /\ Hid (W.heap.size <= wr.heap.size)) (fun u _ => 8 - (intOf u).toNat)
 case atStart => exact ⟨0, F0, rfl, by omega, HJ0, hidp (Nat.le_refl _)⟩
 case round =>
  clear HJ0
  obtain ⟨pos, F, rfl, hpos, HJS, HSZ⟩ := hrel
  have b0 : wr.cell? ⟨bx, 0, none⟩ = some (.pointer (some ⟨b, 0, none⟩)) := HJR.out _ _ _ HJS.out
  by_cases hlt : pos < 8
  ·have t1 : decide ((pos : Int) < 8) = true := decide_eq_true (by omega)
   have t1n : decide (pos < 8) = true := decide_eq_true hlt
   gi_wp2_with (first
    | (refine ⟨trivial, rfl, ?_⟩; gi_at_call 8; refine (calls_out (HG.out pos F _ HJS.out HSZ.out hlt)).mono ?_; rintro e w1 ⟨a, ok, rfl, hs1, F1, hj1⟩; have HJ1S := hidp hj1; have HSZ1 := hidp hs1; clear hj1 hs1 b0; obtain ⟨fn, tmps, assign, body, hy, hR⟩ := HY.out pos a F1 _ HJ1S.out HSZ1.out hlt; have HRR := hidp hR; clear hR)
    | fail)
   refine ⟨rfl, HRR.out.mono ?_⟩
   rintro e W3 (⟨rfl, hsz3, F', hJ3⟩ | ⟨rfl, hx⟩)
   ·have HJ3 := hidp hJ3
    have HS3 : Hid (W.heap.size <= W3.heap.size) := hidp hsz3
    clear hJ3 hsz3 HRR HY HJ HJ1 HJX HJR HG hy
    gi_wp2
    go_roundw
    case rel => exact ⟨pos + 1, F', by go_num, by omega, HJ3, HS3⟩
    case measure => simp [intOf]; omega
   ·have HX := hidp hx
    clear hx HY HJ HJ1 HJX HJR HG HRR hy
    gi_wp2
    refine bodyPost_ret (results_none rfl _ _ _) rfl ?_
    exact ⟨⟨_, rfl⟩, .inr HX.out⟩
  ·obtain rfl : pos = 8 := by omega
   gi_wp2
   go_end0
   exact ⟨⟨_, rfl⟩, .inl ⟨F, HJS.out⟩⟩
end
theorem rtRoots_c (b : Nat) (w : World) : Calls Try.prog 31 #[.pointer (some ⟨b, 0, none⟩)] w fun e w' => e = .returned (.func (.func 42) #[] #[.pointer (some ⟨w.heap.size, 0, none⟩)]) /\ w' = w.alloc (.cells #[.pointer (some ⟨b, 0, none⟩)] 25) := by
 go_enter Try.func31, Try.ntmps31
 go_wp2
 go_ret
 exact ⟨rfl, rfl⟩
end
end Go.Proofs.Ytlkaejjpibebkaa
