/-
  What is held of an automaton's blocks and roots behind every answer: they lie one behind the other, each root names one. No program is named here.
-/
import Derived.Test.YtedakmhffjhfnaaDoorC01
import Derived.Below
import Derived.Test.YtedakmhffjhfnaaDoorCKit
import Derived.Deep.DeepFit
import Derived.WalkKit
import Derived.ProofKit
import Derived.BigQuiet
import Derived.Outline
import Derived.Deep.QuietTactic
import Derived.Deep.RegionHeld3
import Derived.IntWalk
import Derived.KernelRfl
import Derived.Maps.OwnSet
import Derived.Maps.AppendAt
import Derived.DeepKeys4
import Derived.Shelf.SlSortCmp.WholeK
import Derived.Lib.SliceRun
import Derived.Deep.Slices
import Derived.Lib.SmallJoins
import Derived.Test.YtedakmhffjhfnaaDoorSortB
import Derived.Sort.MapsRangeIn
import Derived.Maps.OwnIn
namespace Go.Proofs.YtedakmhffjhfnaaDoor
open Go.ChangeShapes Go.WideShapes Go.ChangeAt Go.RowKit Go.Maps
set_option linter.unusedVariables false
set_option linter.unusedSimpArgs false
section
def ChainM (e : Int) : Int -> List (Int × Int) -> Prop
 | _, [] => True
 | at_, b :: L => (1 <= b.2 /\ at_ <= b.1 /\ b.2 <= e - b.1) /\ ChainM e (b.1 + b.2) L
def NamesM (L : List (Int × Int)) (R : Nat -> Int) : Prop := ∀ k, k < 8 -> R k = 0 \/ ∃ x ∈ L, x.1 = R k
theorem ChainM.from_ {e a a' : Int} : ∀ {L : List (Int × Int)}, ChainM e a L -> (∀ x ∈ L, a' <= x.1) -> ChainM e a' L
 | [], _, _ => trivial
 | b :: L, h, hx => ⟨⟨h.1.1, hx b (List.mem_cons_self ..), h.1.2.2⟩, h.2⟩
theorem ChainM.ge {e : Int} : ∀ {L : List (Int × Int)} {a : Int}, ChainM e a L -> ∀ x ∈ L, a <= x.1
 | [], _, _, x, hx => absurd hx (List.not_mem_nil)
 | b :: L, a, h, x, hx => by
  rcases List.mem_cons.1 hx with rfl | hx
  ·exact h.1.2.1
  ·have h1 := ChainM.ge h.2 x hx
   have h2 := h.1
   omega
theorem ChainM.pos {e : Int} : ∀ {L : List (Int × Int)} {a : Int}, ChainM e a L -> ∀ x ∈ L, 1 <= x.2
 | [], _, _, x, hx => absurd hx (List.not_mem_nil)
 | b :: L, a, h, x, hx => by
  rcases List.mem_cons.1 hx with rfl | hx
  ·exact h.1.1
  ·exact ChainM.pos h.2 x hx
theorem ChainM.split {e : Int} (y : Int) : ∀ {L : List (Int × Int)} {a : Int}, ChainM e a L -> ∃ X Y, L = X ++ Y /\ (∀ x ∈ X, x.1 < y) /\ ∀ x ∈ Y, y <= x.1
 | [], a, _ => ⟨[], [], rfl, fun x hx => absurd hx (List.not_mem_nil), fun x hx => absurd hx (List.not_mem_nil)⟩
 | b :: L, a, h => by
  by_cases hb : b.1 < y
  ·obtain ⟨X, Y, e1, h1, h2⟩ := ChainM.split y h.2
   refine ⟨b :: X, Y, by rw [e1]; rfl, fun x hx => ?_, h2⟩
   rcases List.mem_cons.1 hx with rfl | hx
   ·exact hb
   ·exact h1 x hx
  ·refine ⟨[], b :: L, rfl, fun x hx => absurd hx (List.not_mem_nil), fun x hx => ?_⟩
   have h1 := ChainM.ge (L := b :: L) (a := b.1) ⟨⟨h.1.1, by omega, h.1.2.2⟩, h.2⟩ x hx
   omega
theorem ChainM.put {e : Int} {b : Int × Int} {Y : List (Int × Int)} (hb : 1 <= b.2 /\ b.2 <= e - b.1) (hY : ∀ y ∈ Y, b.1 + b.2 <= y.1) : ∀ {X : List (Int × Int)} {a : Int}, ChainM e a (X ++ Y) -> (∀ x ∈ X, x.1 + x.2 <= b.1) -> a <= b.1 -> ChainM e a (X ++ [b] ++ Y)
 | [], a, h, _, ha => ⟨⟨hb.1, ha, hb.2⟩, h.from_ hY⟩
 | x :: X, a, h, hX, ha => by
  have h : ChainM e a (x :: (X ++ Y)) := h
  refine ⟨h.1, ?_⟩
  exact ChainM.put hb hY h.2 (fun z hz => hX z (List.mem_cons_of_mem _ hz)) (hX x (List.mem_cons_self ..))
theorem ChainM.erase {e : Int} : ∀ {L : List (Int × Int)} {a : Int} (i : Nat), ChainM e a L -> ChainM e a (L.eraseIdx i)
 | [], a, i, h => by simpa using h
 | b :: L, a, 0, h => by
  rw [List.eraseIdx_cons_zero]
  refine h.2.from_ (fun x hx => ?_)
  have h1 := ChainM.ge h.2 x hx
  have h2 := h.1
  omega
 | b :: L, a, i + 1, h => by
  rw [List.eraseIdx_cons_succ]
  exact ⟨h.1, ChainM.erase i h.2⟩
theorem chain_add {g e : Int} {L : List (Int × Int)} {a z : Int} (h : ChainM e g L) (hi : insB g e a z = true) (hh : ∀ x ∈ L, hitB x a z = false) : ChainM e g (addB L (a, z)) /\ ∃ X Y, L = X ++ Y /\ addB L (a, z) = X ++ [(a, z)] ++ Y := by
 have hib := of_decide_eq_true hi
 have hx : ∀ x ∈ L, x.1 + x.2 <= a \/ a + z <= x.1 := fun x hx => by
  have h1 := hh x hx
  unfold hitB at h1
  by_cases h2 : x.1 < a + z
  ·rw [decide_eq_true h2, Bool.true_and] at h1
   have := of_decide_eq_false h1
   omega
  ·omega
 obtain ⟨X, Y, rfl, h1, h2⟩ := h.split a
 have hX : ∀ x ∈ X, x.1 + x.2 <= a := fun x hm => by
  have h3 := hx x (List.mem_append_left _ hm)
  have h4 := h1 x hm
  omega
 have hY : ∀ y ∈ Y, a + z <= y.1 := fun y hm => by
  have h3 := hx y (List.mem_append_right _ hm)
  have h4 := h2 y hm
  have h5 := h.pos y (List.mem_append_right _ hm)
  omega
 have e1 : addB (X ++ Y) (a, z) = X ++ [(a, z)] ++ Y := addB_mid (b := (a, z)) h1 (fun y hm => by have := hY y hm; show a < y.1; omega)
 rw [e1]
 exact ⟨h.put (b := (a, z)) (Y := Y) ⟨hib.1, hib.2.2.2⟩ hY hX hib.2.1, X, Y, rfl, rfl⟩
theorem free_all {g e : Int} {L : List (Int × Int)} {a z own : Int} (h : freeM g e L a z own = true) : ∀ (j : Nat) (x : Int × Int), L[j]? = some x -> (j : Int) = own \/ hitB x a z = false := fun j x hx => by
 by_cases h1 : (j : Int) = own
 ·exact .inl h1
 ·refine .inr ?_
  cases h2 : hitB x a z with
  | false => rfl
  | true =>
   exfalso
   rw [freeM_hit hx h1 h2] at h
   cases h
theorem mem_put {X Y : List (Int × Int)} {b x : Int × Int} (h : x ∈ X ++ Y \/ x = b) : x ∈ X ++ [b] ++ Y := by
 rcases h with h | h
 ·rcases List.mem_append.1 h with h | h
  ·exact List.mem_append_left _ (List.mem_append_left _ h)
  ·exact List.mem_append_right _ h
 ·exact List.mem_append_left _ (List.mem_append_right _ (by rw [h]; simp))
theorem apart_step {t p s : Int} {L : List (Int × Int)} {R : Nat -> Int} (hc : ChainM (endI t p s) (pageN t p s : Int) L) (hr : NamesM L R) (k a b err out aux : Int) :
  ChainM (endI t p s) (pageN t p s : Int) (stepL t p s L R k a b err out aux) /\ NamesM (stepL t p s L R k a b err out aux) (stepR t p s L R k a b err out aux) := by
 unfold stepL stepR
 cases hv : allowM t p s L R k a b err out aux with
 | false => rw [if_neg (by simp), if_neg (by simp)]; exact ⟨hc, hr⟩
 | true =>
  rw [if_pos rfl, if_pos rfl]
  by_cases he : err = 0
  ·subst he
   have hkk := opB_kind (allow_op hv)
   rcases (by omega : k = 1 \/ k = 2 \/ k = 3 \/ k = 4 \/ k = 5 \/ k = 6 \/ k = 7 \/ k = 8 \/ k = 9) with rfl | rfl | rfl | rfl | rfl | rfl | rfl | rfl | rfl
   ·rw [show appL t p s L 1 a b 0 out aux = addB L (out, aux) from by simp [appL], show appR R 1 a b 0 out = R from by simp [appR]]
    have hf := (allow1 hv).1
    obtain ⟨h1, X, Y, h2, h3⟩ := chain_add hc (freeM_ins hf) (fun x hx => by
     obtain ⟨j, hj, rfl⟩ := List.getElem_of_mem hx
     rcases free_all hf j _ (List.getElem?_eq_getElem hj) with h | h
     ·omega
     ·exact h)
    refine ⟨h1, fun q hq => ?_⟩
    rcases hr q hq with h4 | ⟨x, hx, h4⟩
    ·exact .inl h4
    ·exact .inr ⟨x, by rw [h3]; exact mem_put (.inl (by rw [<- h2]; exact hx)), h4⟩
   ·obtain ⟨i, z, hi, hl, _⟩ := allow_there hv (.inl rfl)
    rw [show appL t p s L 2 a b 0 out aux = L.eraseIdx i from by simp [appL, hi], show appR R 2 a b 0 out = R from by simp [appR]]
    have hh : heldM R a = false := by
     cases hh : heldM R a with
     | false => rfl
     | true =>
      exfalso
      have ho := allow_op hv
      unfold allowM at hv
      rw [if_neg (by rw [ho]; simp), if_neg (by omega), if_neg (by omega), if_pos rfl, if_pos hh, show justB 6 0 out aux = false from decide_eq_false (by omega)] at hv
      cases hv
    refine ⟨hc.erase i, fun q hq => ?_⟩
    rcases hr q hq with h4 | ⟨x, hx, h4⟩
    ·exact .inl h4
    ·refine .inr ⟨x, ?_, h4⟩
     obtain ⟨j, hj, rfl⟩ := List.getElem_of_mem hx
     refine List.mem_eraseIdx_iff_getElem?.2 ⟨j, fun e => ?_, List.getElem?_eq_getElem hj⟩
     subst e
     rw [List.getElem?_eq_getElem hj] at hl
     injection hl with hl
     rw [hl] at h4
     rw [heldM_yes hq h4.symm] at hh
     cases hh
   ·obtain ⟨i, z, hi, hl, _⟩ := allow_there hv (.inr (.inl rfl))
    rw [show appL t p s L 3 a b 0 out aux = addB (L.eraseIdx i) (out, aux) from by simp [appL, hi], show appR R 3 a b 0 out = (fun x => if R x = a then out else R x) from by simp [appR]]
    have hf := (allow3 hv).1
    obtain ⟨h1, X, Y, h2, h3⟩ := chain_add (hc.erase i) (freeM_ins hf) (fun x hx => by
     obtain ⟨j, hj, hx⟩ := List.mem_eraseIdx_iff_getElem?.1 hx
     rcases free_all hf j _ hx with h | h
     ·split at h <;> omega
     ·exact h)
    refine ⟨h1, fun q hq => ?_⟩
    dsimp only
    by_cases hqa : R q = a
    ·rw [if_pos hqa]
     exact .inr ⟨(out, aux), by rw [h3]; exact mem_put (.inr rfl), rfl⟩
    ·rw [if_neg hqa]
     rcases hr q hq with h4 | ⟨x, hx, h4⟩
     ·exact .inl h4
     ·refine .inr ⟨x, ?_, h4⟩
      rw [h3]
      refine mem_put (.inl ?_)
      rw [<- h2]
      obtain ⟨j, hj, rfl⟩ := List.getElem_of_mem hx
      refine List.mem_eraseIdx_iff_getElem?.2 ⟨j, fun e => ?_, List.getElem?_eq_getElem hj⟩
      subst e
      rw [List.getElem?_eq_getElem hj] at hl
      injection hl with hl
      rw [hl] at h4
      exact hqa h4.symm
   ·obtain ⟨⟨h5, h6⟩, hf⟩ := allow4 hv
    rw [show appL t p s L 4 a b 0 out aux = addB L (out, rdI t p s b) from by simp [appL], show appR R 4 a b 0 out = updF R a.toNat out from by simp [appR]]
    obtain ⟨h1, X, Y, h2, h3⟩ := chain_add hc (freeM_ins hf) (fun x hx => by
     obtain ⟨j, hj, rfl⟩ := List.getElem_of_mem hx
     rcases free_all hf j _ (List.getElem?_eq_getElem hj) with h | h
     ·omega
     ·exact h)
    refine ⟨h1, fun q hq => ?_⟩
    unfold updF
    split
    ·exact .inr ⟨(out, rdI t p s b), by rw [h3]; exact mem_put (.inr rfl), rfl⟩
    ·rcases hr q hq with h4 | ⟨x, hx, h4⟩
     ·exact .inl h4
     ·exact .inr ⟨x, by rw [h3]; exact mem_put (.inl (by rw [<- h2]; exact hx)), h4⟩
   ·obtain ⟨_, hb⟩ := allow5 hv
    rw [show appL t p s L 5 a b 0 out aux = L from by simp [appL], show appR R 5 a b 0 out = updF R a.toNat b from by simp [appR]]
    refine ⟨hc, fun q hq => ?_⟩
    unfold updF
    split
    ·rcases hb with hb | hb
     ·exact .inl hb
     ·rcases mAt_cases L b with ⟨h1, _⟩ | ⟨i, z, _, h2, _⟩
      ·omega
      ·exact .inr ⟨(b, z), List.mem_of_getElem? h2, rfl⟩
    ·exact hr q hq
   ·rw [show appL t p s L 6 a b 0 out aux = L from by simp [appL], show appR R 6 a b 0 out = R from by simp [appR]]; exact ⟨hc, hr⟩
   ·rw [show appL t p s L 7 a b 0 out aux = L from by simp [appL], show appR R 7 a b 0 out = R from by simp [appR]]; exact ⟨hc, hr⟩
   ·rw [show appL t p s L 8 a b 0 out aux = L from by simp [appL], show appR R 8 a b 0 out = R from by simp [appR]]; exact ⟨hc, hr⟩
   ·rw [show appL t p s L 9 a b 0 out aux = L from by simp [appL], show appR R 9 a b 0 out = R from by simp [appR]]; exact ⟨hc, hr⟩
  ·rw [show appL t p s L k a b err out aux = L from by unfold appL; rw [if_pos he], show appR R k a b err out = R from by unfold appR; rw [if_pos he]]
   exact ⟨hc, hr⟩
theorem step_same {t p s : Int} {L : List (Int × Int)} {R : Nat -> Int} {k a b err out aux : Int} (h : allowM t p s L R k a b err out aux = false \/ err ≠ 0) : stepL t p s L R k a b err out aux = L /\ stepR t p s L R k a b err out aux = R := by
 unfold stepL stepR
 rcases h with h | h
 ·rw [h, if_neg (by simp), if_neg (by simp)]; exact ⟨rfl, rfl⟩
 ·unfold appL appR
  rw [if_pos h, if_pos h]
  constructor <;> split <;> rfl
end
end Go.Proofs.YtedakmhffjhfnaaDoor

namespace Go.Proofs.YtedakmhffjhfnaaDoor
open Go.ChangeShapes Go.WideShapes Go.ChangeAt Go.RowKit Go.Maps
set_option linter.unusedVariables false
set_option maxRecDepth 100000
section
def bkV (a b : Int) : Value := .agg #[.int .i64 a, .int .i64 b]
def bkL (a b : Int) : Lit := .string (keyBytes [.int .i64 a, .int .i64 b])
theorem bk_row : 55 < Tryd.prog.types.size := of_decide_eq_true (by kernel_rfl)
theorem bk_size : ∃ d, Tryd.prog.types.size = d + 1 := ⟨Tryd.prog.types.size - 1, by have := bk_row; omega⟩
theorem bk_keyType : Tryd.prog.keyType 55 = true := by kernel_rfl
theorem bk_cells : Tryd.prog.cellsOf 55 = 2 := by kernel_rfl
theorem i64_cells : Tryd.prog.cellsOf 2 = 1 := by kernel_rfl
theorem bkKey : Keyed Tryd.prog 55 :=
 Keyed.of_law (deep_law_laid (m := 3) (by kernel_rfl) (by decide) bk_row (by kernel_rfl) (by kernel_rfl))
theorem i64_lits {d : Nat} {x : Value} {l : List Lit} (h : Tryd.prog.keyLits (d + 1) 2 [x] = some l) : ∃ a : Int, x = .int .i64 a /\ (Lit.int .i64 a).wf = true /\ l = [.int .i64 a] := by
 unfold Program.keyLits at h
 rw [Tryd.underlying2] at h
 cases x <;> simp at h
 obtain ⟨⟨rfl, hw⟩, rfl⟩ := h
 exact ⟨_, rfl, hw, rfl⟩
theorem bk_lits {d : Nat} (cs : List Value) (L : List Lit) (h : Tryd.prog.keyLits (d + 2) 55 cs = some L) : ∃ a b : Int, cs = [.int .i64 a, .int .i64 b] /\ (Lit.int .i64 a).wf = true /\ (Lit.int .i64 b).wf = true /\ L = [.int .i64 a, .int .i64 b] := by
 unfold Program.keyLits at h
 rw [Tryd.underlying55] at h
 simp only [bk_cells] at h
 split at h
 case isFalse => cases h
 case isTrue hc =>
  match cs, hc.1 with
  | [x, y], _ =>
   simp [i64_cells, Option.bind_eq_some_iff] at h
   obtain ⟨l1, h1, l2, ⟨l3, h2, rfl⟩, rfl⟩ := h
   obtain ⟨a, rfl, ha, rfl⟩ := i64_lits h1
   obtain ⟨b, rfl, hb, rfl⟩ := i64_lits h2
   exact ⟨a, b, rfl, ha, hb, rfl⟩
theorem bk_lits_mk {d : Nat} {a b : Int} (ha : (Lit.int .i64 a).wf = true) (hb : (Lit.int .i64 b).wf = true) : Tryd.prog.keyLits (d + 2) 55 [.int .i64 a, .int .i64 b] = some [.int .i64 a, .int .i64 b] := by
 unfold Program.keyLits
 rw [Tryd.underlying55]
 simp [bk_cells, i64_cells, Program.keyLits, Tryd.underlying2, ha, hb]
theorem bk_key {a b : Int} (ha : (Lit.int .i64 a).wf = true) (hb : (Lit.int .i64 b).wf = true) : keyOf Tryd.prog 55 (bkV a b) = some (bkL a b) := by
 obtain ⟨d, hd⟩ := bk_size
 rw [keyOf, Tryd.underlying55]
 simp only [bk_keyType, hd, bkV, Value.cells]
 rw [bk_lits_mk ha hb]
 simp [Value.formed, Tryd.underlying55, bk_cells, bkL]
theorem bk_inv {key : Value} {kl : Lit} (h : keyOf Tryd.prog 55 key = some kl) : ∃ x : Int × Int, key = bkV x.1 x.2 /\ (Lit.int .i64 x.1).wf = true /\ (Lit.int .i64 x.2).wf = true /\ kl = bkL x.1 x.2 := by
 obtain ⟨d, hd⟩ := bk_size
 obtain ⟨xs, L, rfl, hl, rfl⟩ := keyOf_top (by kernel_rfl) h
 rw [hd] at hl
 obtain ⟨a, b, hx, ha, hb, rfl⟩ := bk_lits _ _ hl
 refine ⟨(a, b), ?_, ha, hb, rfl⟩
 obtain ⟨l⟩ := xs
 simp at hx
 subst hx
 rfl
theorem bk_inj {a b c d : Int} (ha : (Lit.int .i64 a).wf = true) (hb : (Lit.int .i64 b).wf = true) (hc : (Lit.int .i64 c).wf = true) (hd : (Lit.int .i64 d).wf = true) (h : bkL a b = bkL c d) : a = c /\ b = d := by
 have h1 := bkKey.inj (bk_key ha hb) ((bk_key hc hd).trans (by rw [h]))
 unfold bkV at h1
 simpa using h1
theorem bk_wf {a : Int} (h1 : -9223372036854775808 <= a) (h2 : a <= 9223372036854775807) : (Lit.int .i64 a).wf = true := by
 simp only [Lit.wf, Bool.and_eq_true, IntKind.min, IntKind.max, IntKind.signed, IntKind.bits]
 simp
 omega
theorem bk_isKey (a b : Int) : WideAt.IsKeyLit (bkL a b) := by unfold bkL; trivial
def WfB (x : Int × Int) : Prop := (Lit.int .i64 x.1).wf = true /\ (Lit.int .i64 x.2).wf = true

structure LiveIs (D : DataW Unit) (L : List (Int × Int)) : Prop where
 tidy : Tidy D
 wf : ∀ x ∈ L, WfB x
 has : ∀ x : Int × Int, WfB x -> (Maps.has D (bkL x.1 x.2) = true ↔ x ∈ L)
 size : Maps.size D = L.length
section
variable {D : DataW Unit} {L : List (Int × Int)}
theorem LiveIs.none : LiveIs (.map []) [] := ⟨tidy_empty, by simp, fun x _ => by simp [Maps.has], rfl⟩
theorem LiveIs.put {x : Int × Int} {L' : List (Int × Int)} (h : LiveIs D L) (hx : WfB x) (hn : x ∉ L) (hp : L'.Perm (x :: L)) : LiveIs (D.put (bkL x.1 x.2) (.agg [])) L' := by
 have hf : Maps.has D (bkL x.1 x.2) = false := by
  cases e : Maps.has D (bkL x.1 x.2) with
  | false => rfl
  | true => exact absurd ((h.has x hx).1 e) hn
 refine ⟨h.tidy.put (bk_isKey _ _) _, fun y hy => ?_, fun y hy => ?_, ?_⟩
 ·rcases List.mem_cons.1 (hp.mem_iff.1 hy) with rfl | h1
  ·exact hx
  ·exact h.wf y h1
 ·by_cases e : y = x
  ·subst e
   rw [has_put_same h.tidy.isMap (bk_isKey _ _)]
   exact ⟨fun _ => hp.mem_iff.2 (List.mem_cons_self ..), fun _ => rfl⟩
  ·rw [has_put_other (fun e2 => e (Prod.ext (bk_inj hy.1 hy.2 hx.1 hx.2 e2).1 (bk_inj hy.1 hy.2 hx.1 hx.2 e2).2)), h.has y hy, hp.mem_iff, List.mem_cons]
   exact ⟨fun h => .inr h, fun h => h.resolve_left e⟩
 ·rw [size_put h.tidy, hf, h.size, hp.length_eq]
  simp
theorem LiveIs.del {x : Int × Int} {L' : List (Int × Int)} (h : LiveIs D L) (hp : L.Perm (x :: L')) (hn : x ∉ L') : LiveIs (D.del (bkL x.1 x.2)) L' := by
 have hxm : x ∈ L := hp.mem_iff.2 (List.mem_cons_self ..)
 have hx := h.wf x hxm
 refine ⟨h.tidy.del _, fun y hy => h.wf y (hp.mem_iff.2 (List.mem_cons_of_mem _ hy)), fun y hy => ?_, ?_⟩
 ·by_cases e : y = x
  ·subst e
   rw [has_del_same]
   exact ⟨fun h => (by cases h), fun h => absurd h hn⟩
  ·rw [has_del_other (fun e2 => e (Prod.ext (bk_inj hy.1 hy.2 hx.1 hx.2 e2).1 (bk_inj hy.1 hy.2 hx.1 hx.2 e2).2)), h.has y hy, hp.mem_iff, List.mem_cons]
   exact ⟨fun h => h.resolve_left e, fun h => .inr h⟩
 ·have h1 := size_del (k := bkL x.1 x.2) h.tidy
  rw [(h.has x hx).2 hxm, h.size, hp.length_eq] at h1
  simp at h1
  omega
def CameB (D : DataW Unit) (left : Lit -> Bool) (ss : List (Int × Int)) : Prop :=
 ss.Nodup /\ (∀ x ∈ ss, WfB x) /\ ∀ x : Int × Int, WfB x -> (x ∈ ss ↔ (Maps.has D (bkL x.1 x.2) = true /\ left (bkL x.1 x.2) = false))
theorem CameB.start (D : DataW Unit) : CameB D (Maps.has D) [] :=
 ⟨List.nodup_nil, by simp, fun x _ => by cases Maps.has D (bkL x.1 x.2) <;> simp⟩
theorem CameB.step {left : Lit -> Bool} {ss : List (Int × Int)} {x : Int × Int} (h : CameB D left ss) (hx : WfB x) (hl : left (bkL x.1 x.2) = true) (hh : Maps.has D (bkL x.1 x.2) = true) :
  CameB D (fun z => left z && !z.sameKey (bkL x.1 x.2)) (ss ++ [x]) := by
 have hnb : x ∉ ss := fun hm => by rw [((h.2.2 x hx).1 hm).2] at hl; cases hl
 refine ⟨?_, ?_, fun y hy => ?_⟩
 ·rw [List.nodup_append]
  exact ⟨h.1, by simp, fun y hy z hz e => by simp at hz; subst hz; subst e; exact hnb hy⟩
 ·intro y hy
  rcases List.mem_append.1 hy with h1 | h1
  ·exact h.2.1 y h1
  ·simp at h1; subst h1; exact hx
 ·by_cases e : y = x
  ·subst e
   have : (bkL y.1 y.2).sameKey (bkL y.1 y.2) = true := WideAt.sameKey_self (bk_isKey _ _)
   simp [this, hh]
  ·have h1 : (bkL y.1 y.2).sameKey (bkL x.1 x.2) = false := Maps.sameKey_ne (fun e2 => e (Prod.ext (bk_inj hy.1 hy.2 hx.1 hx.2 e2).1 (bk_inj hy.1 hy.2 hx.1 hx.2 e2).2))
   rw [List.mem_append, h.2.2 y hy]
   simp [h1, e]
theorem CameB.done {left : Lit -> Bool} {ss : List (Int × Int)} (h : CameB D left ss) (hl : ∀ kl, left kl = false) (hp : LiveIs D L) (hnd : L.Nodup) : ss.Perm L := by
 refine (List.perm_ext_iff_of_nodup h.1 hnd).2 (fun x => ?_)
 constructor
 ·intro hx
  have hw := h.2.1 x hx
  exact (hp.has x hw).1 ((h.2.2 x hw).1 hx).1
 ·intro hx
  have hw := hp.wf x hx
  exact (h.2.2 x hw).2 ⟨(hp.has x hw).2 hx, hl _⟩
end
end
end Go.Proofs.YtedakmhffjhfnaaDoor

namespace Go.Proofs.YtedakmhffjhfnaaDoor
open Go.ChangeShapes Go.WideShapes Go.ChangeAt Go.RowKit Go.Maps
set_option linter.unusedVariables false
set_option linter.unusedSimpArgs false
set_option maxRecDepth 100000
section
theorem owns_size {H : Type} {P : Program} {k : TypeId} {R : Value -> Option (DataW H × List MemPlace)} {w : World} {b n : Nat} {D : DataW H} (h : w.ownsMap P k R b n D) : w.ownsMap P k R b (Maps.size D) D := by
 obtain ⟨es, clock, hb, F, hs, rfl⟩ := h
 exact ⟨es, clock, hb, F, by simp [Maps.size, length_sorted], rfl⟩
theorem held_not_map {H : Type} {w : World} {g b n : Nat} {t k : TypeId} {cs : Array Value} {P : Program} {R : Value -> Option (DataW H × List MemPlace)} {D : DataW H} (h : Held w g t cs) (hm : w.ownsMap P k R b n D) : g ≠ b := by
 rintro rfl
 obtain ⟨es, clock, hb, _⟩ := hm
 unfold Held at h
 rw [h] at hb
 cases hb
def AscM (L : List (Int × Int)) : Prop := L.Pairwise (fun x y => x.1 + x.2 <= y.1)
theorem ins_parts {g e a z : Int} (h : insB g e a z = true) : 1 <= z /\ g <= a /\ a <= e /\ z <= e - a := of_decide_eq_true h
theorem AscM.nodup {g e : Int} {L : List (Int × Int)} (h : AscM L) (hi : InsM g e L) : L.Nodup := by
 refine List.Pairwise.imp_of_mem ?_ h
 intro x y hx hy h1 e1
 subst e1
 have := ins_parts (hi x hx)
 omega
structure IsMod (w : World) (g : Nat) (F : Nat -> Prop) (t p s : Int) (L : List (Int × Int)) (R : Nat -> Int) : Prop where
 right : rightB t p s = true
 ins : InsM (pageN t p s : Int) (endI t p s) L
 asc : AscM L
 lt : ∀ i, F i -> i < w.heap.size
 fg : F g
 ex : ∃ (m : Nat) (D : DataW Unit), F m /\ Held w g 62 (mC t p s (.map (some m)) R) /\ w.ownsMap Tryd.prog 55 unitElem m L.length D /\ LiveIs D L
section
variable {w w' : World} {g : Nat} {F : Nat -> Prop} {t p s : Int} {L : List (Int × Int)} {R : Nat -> Int}
theorem IsMod.turns {G : Nat -> Prop} (h : IsMod w g F t p s L R) (ht : Turns G w w') (hg : ∀ i, F i -> ¬ G i) : IsMod w' g F t p s L R := by
 obtain ⟨m, D, hm, h1, h2, h3⟩ := h.ex
 exact ⟨h.right, h.ins, h.asc, fun i hi => Nat.lt_of_lt_of_le (h.lt i hi) ht.size, h.fg, m, D, hm, ht.held h1 (hg g h.fg), owns_turns h2 ht (hg m hm), h3⟩
theorem IsMod.stay (h : IsMod w g F t p s L R) (hb : Below w.heap.size w w') : IsMod w' g F t p s L R :=
 h.turns (Turns.of_below hb (fun _ => False)) (fun _ _ x => x)
theorem IsMod.nodup (h : IsMod w g F t p s L R) : L.Nodup := h.asc.nodup h.ins
theorem IsMod.congr {R' : Nat -> Int} (h : IsMod w g F t p s L R) (e : ∀ k, k < 8 -> R k = R' k) : IsMod w g F t p s L R' := by
 obtain ⟨m, D, hm, h1, h2, h3⟩ := h.ex
 refine ⟨h.right, h.ins, h.asc, h.lt, h.fg, m, D, hm, ?_, h2, h3⟩
 have e2 : mC t p s (.map (some m)) R' = mC t p s (.map (some m)) R := by
  unfold mC
  rw [e 0 (by omega), e 1 (by omega), e 2 (by omega), e 3 (by omega), e 4 (by omega), e 5 (by omega), e 6 (by omega), e 7 (by omega)]
 rw [e2]
 exact h1
theorem IsMod.wf (h : IsMod w g F t p s L R) : ∀ x ∈ L, WfB x := by
 obtain ⟨m, D, hm, h1, h2, h3⟩ := h.ex
 exact h3.wf
theorem IsMod.root (h : IsMod w g F t p s L R) {k : Nat} (hk : k < 8) (x : Int) : IsMod (w.setCell ⟨g, 4 + k, none⟩ (.int .i64 x)) g F t p s L (updF R k x) := by
 obtain ⟨m, D, hm, h1, h2, h3⟩ := h.ex
 have h4 := h1.put (4 + k) (.int .i64 x)
 rw [mC_root _ _ _ _ _ hk] at h4
 exact ⟨h.right, h.ins, h.asc, fun i hi => by simp; exact h.lt i hi, h.fg, m, D, hm, h4, h2.setCell (fun e => held_not_map h1 h2 e.symm) _, h3⟩
end
end
end Go.Proofs.YtedakmhffjhfnaaDoor

namespace Go.Proofs.YtedakmhffjhfnaaDoor
open Go.ChangeShapes Go.WideShapes Go.ChangeAt Go.RowKit Go.Maps
set_option linter.unusedVariables false
set_option linter.unusedSimpArgs false
section
theorem asc_chain {g e : Int} : ∀ {L : List (Int × Int)} {a : Int}, AscM L -> InsM g e L -> (∀ x ∈ L, a <= x.1) -> ChainM e a L
 | [], _, _, _, _ => trivial
 | b :: L, a, h, hi, ha => by
  have h1 := ins_parts (hi b (List.mem_cons_self ..))
  have h2 := List.pairwise_cons.1 h
  exact ⟨⟨h1.1, ha b (List.mem_cons_self ..), h1.2.2.2⟩, asc_chain h2.2 (fun x hx => hi x (List.mem_cons_of_mem _ hx)) h2.1⟩
theorem chain_ins {g e : Int} : ∀ {L : List (Int × Int)} {a : Int}, ChainM e a L -> g <= a -> InsM g e L
 | [], _, _, _ => fun x hx => by cases hx
 | b :: L, a, h, ha => fun x hx => by
  have h0 := h.1
  rcases List.mem_cons.1 hx with rfl | hx
  ·exact decide_eq_true ⟨by omega, by omega, by omega, by omega⟩
  ·exact chain_ins (g := g) h.2 (by omega) x hx
theorem chain_asc {e : Int} : ∀ {L : List (Int × Int)} {a : Int}, ChainM e a L -> AscM L
 | [], _, _ => List.Pairwise.nil
 | b :: L, a, h => List.pairwise_cons.2 ⟨fun x hx => ChainM.ge h.2 x hx, chain_asc h.2⟩
theorem chain_iff {g e : Int} {L : List (Int × Int)} : ChainM e g L ↔ AscM L /\ InsM g e L :=
 ⟨fun h => ⟨chain_asc h, chain_ins h (Int.le_refl _)⟩, fun h => asc_chain h.1 h.2 (fun x hx => (ins_parts (h.2 x hx)).2.1)⟩
theorem add_perm {X Y L : List (Int × Int)} {b : Int × Int} (h1 : L = X ++ Y) (h2 : addB L b = X ++ [b] ++ Y) : (addB L b).Perm (b :: L) := by
 rw [h2, h1, List.append_assoc]
 exact List.perm_middle
theorem sort_one {g e : Int} {L ys : List (Int × Int)} (hp : L.Perm ys) (hc : ChainM e g L) (hs : ys.Pairwise (fun x y => x.1 <= y.1)) : L = ys := by
 obtain ⟨ha, hi⟩ := chain_iff.1 hc
 refine List.Perm.eq_of_pairwise (le := fun x y => x.1 <= y.1) (fun x y hx hy h1 h2 => ?_) (List.Pairwise.imp_of_mem (fun {x y} hx hy h => by have := ins_parts (hi x hx); omega) ha) hs hp
 have hy2 : y ∈ L := hp.mem_iff.2 hy
 obtain ⟨i, hi1, rfl⟩ := List.getElem_of_mem hx
 obtain ⟨j, hj1, hj2⟩ := List.getElem_of_mem hy2
 subst hj2
 have hp2 := List.pairwise_iff_getElem.1 ha
 have p1 := ins_parts (hi _ hx)
 have p2 := ins_parts (hi _ hy2)
 rcases Nat.lt_trichotomy i j with h3 | h3 | h3
 ·have := hp2 i j hi1 hj1 h3
  omega
 ·subst h3; rfl
 ·have := hp2 j i hj1 hi1 h3
  omega
section
variable {H : Type} {P : Program} {w : World} {ops : Array Oper} {o : Oper} {a : Act} {K : Act -> World -> Prop} {Q : Exit -> Act -> World -> Prop} {E : Prop}
theorem step_mapUpdate (hgd : o.guard = none) (m x v : Operand) (t : TypeId) (hop : o.op = Op.mapUpdate t m x v)
  (k e : TypeId) (Kd : Keyed P k) (ht : P.underlying t = some (.map k e)) (R : Value -> Option (DataW H × List MemPlace)) (b n : Nat) (D : DataW H)
  (hm : a.eval m = .map (some b)) (hown : w.ownsMap P k R b n D) (hn : n < maxLen) (key val : Value) (kl : Lit) (hx : a.eval x = key) (hv : a.eval v = val) (hkey : keyOf P k key = some kl)
  (d : DataW H) (ps : List MemPlace) (hval : R val = some (d, ps))
  (hK : ∀ w', w'.ownsMap P k R b (n + 1) (D.put kl d) -> w.grownBy w' (some b) -> K (a.put o.dst undef) w') :
  if Region.wanted o (yielded ops a.tmps) = true then Oper.wp P o a w K Q else E := by
 have hw : Region.wanted o (yielded ops a.tmps) = true := by simp [Region.wanted, hgd]
 rw [if_pos hw]
 obtain ⟨w', hrun, r1, r2⟩ := hown.update Kd ht hn hkey hval
 unfold Oper.wp
 simp [execOp, hop, hm, hx, hv, hrun, Result.andThen]
 exact hK w' r1 r2
theorem step_delete (hgd : o.guard = none) (m x : Operand) (t k : TypeId) (hop : o.op = Op.call { callee := Callee.builtin Builtin.delete, args := #[m, x], argTypes := #[t, k] })
  (e : TypeId) (Kd : Keyed P k) (ht : P.underlying t = some (.map k e)) (R : Value -> Option (DataW H × List MemPlace)) (b n : Nat) (D : DataW H)
  (hm : a.eval m = .map (some b)) (hown : w.ownsMap P k R b n D) (key : Value) (kl : Lit) (hx : a.eval x = key) (hkey : keyOf P k key = some kl)
  (hK : ∀ w', w'.ownsMap P k R b n (D.del kl) -> w.grownBy w' (some b) -> K (a.put o.dst (.tuple #[])) w') :
  if Region.wanted o (yielded ops a.tmps) = true then Oper.wp P o a w K Q else E := by
 have hw : Region.wanted o (yielded ops a.tmps) = true := by simp [Region.wanted, hgd]
 rw [if_pos hw]
 obtain ⟨w', hrun, r1, r2⟩ := hown.drop Kd ht hkey o.type
 unfold Oper.wp
 simp [execOp, hop, resolve, invoke, builtin, hm, hx, hrun, Result.andThen]
 exact hK w' r1 r2.grown
end
section
variable {w w' : World} {g m : Nat} {F : Nat -> Prop} {t p s : Int} {L L' : List (Int × Int)} {R : Nat -> Int} {D : DataW Unit}
theorem IsMod.more (h : IsMod w g F t p s L R) (hm : F m) (hX : Held w g 62 (mC t p s (.map (some m)) R)) (hO : w.ownsMap Tryd.prog 55 unitElem m L.length D) (hD : LiveIs D L) {x : Int × Int} (hx : WfB x) (hn : x ∉ L) (hp : L'.Perm (x :: L)) (ha : AscM L') (hi : InsM (pageN t p s : Int) (endI t p s) L')
  (hown : w'.ownsMap Tryd.prog 55 unitElem m (L.length + 1) (D.put (bkL x.1 x.2) (.agg []))) (hg : w.grownBy w' (some m)) : IsMod w' g F t p s L' R :=
 ⟨h.right, hi, ha, fun i hi => Nat.lt_of_lt_of_le (h.lt i hi) hg.size, h.fg, m, _, hm, (hg.block g hX.lt (fun e => held_not_map hX hO (by injection e))).trans hX, by rw [hp.length_eq]; exact hown, hD.put hx hn hp⟩
theorem IsMod.less (h : IsMod w g F t p s L R) (hm : F m) (hX : Held w g 62 (mC t p s (.map (some m)) R)) (hO : w.ownsMap Tryd.prog 55 unitElem m L.length D) (hD : LiveIs D L) {x : Int × Int} (hp : L.Perm (x :: L')) (hn : x ∉ L') (ha : AscM L') (hi : InsM (pageN t p s : Int) (endI t p s) L')
  (hown : w'.ownsMap Tryd.prog 55 unitElem m L.length (D.del (bkL x.1 x.2))) (hg : w.grownBy w' (some m)) : IsMod w' g F t p s L' R :=
 have hD2 := hD.del hp hn
 ⟨h.right, hi, ha, fun i hi => Nat.lt_of_lt_of_le (h.lt i hi) hg.size, h.fg, m, _, hm, (hg.block g hX.lt (fun e => held_not_map hX hO (by injection e))).trans hX, by rw [<- hD2.size]; exact owns_size hown, hD2⟩
end
end
end Go.Proofs.YtedakmhffjhfnaaDoor

namespace Go.Proofs.YtedakmhffjhfnaaDoor
open Go.ChangeShapes Go.WideShapes Go.ChangeAt Go.RowKit Go.Maps
set_option linter.unusedVariables false
section
def encB (x : Int × Int) : List Value := [.int .i64 x.1, .int .i64 x.2]
def cmpB (x y : Int × Int) : Int := if x.1 < y.1 then -1 else if y.1 < x.1 then 1 else 0
theorem ltOf_b (x y : Int × Int) : ltOf cmpB x y = decide (x.1 < y.1) := by
 unfold ltOf cmpB
 by_cases h1 : x.1 < y.1
 ·simp [h1]
 ·by_cases h2 : y.1 < x.1 <;> simp [h1, h2]
theorem swo_b : Go.Sort.SWO (ltOf cmpB) where
 irrefl x := by rw [ltOf_b]; simp
 trans x y z h1 h2 := by rw [ltOf_b] at *; simp at *; omega
 ntrans x y z h1 h2 := by rw [ltOf_b] at *; simp at *; omega
theorem bk_get : ∀ (L : List (Int × Int)) (t : Nat), (bkVs L)[t]? = (L[t / 2]?).map (fun x => if t % 2 = 0 then Value.int .i64 x.1 else Value.int .i64 x.2)
 | [], t => by simp [bkVs]
 | x :: L, 0 => by simp [bkVs]
 | x :: L, 1 => by simp [bkVs]
 | x :: L, t + 2 => by
  have e : bkVs (x :: L) = .int .i64 x.1 :: .int .i64 x.2 :: bkVs L := by simp [bkVs]
  rw [e, List.getElem?_cons_succ, List.getElem?_cons_succ, bk_get L t, show (t + 2) / 2 = t / 2 + 1 by omega, List.getElem?_cons_succ, show (t + 2) % 2 = t % 2 by omega]
theorem flat_bk (L : List (Int × Int)) : Go.Sort.flatK encB 2 L.toArray = (bkVs L).toArray := by
 refine Go.Sort.ext_get! (by simp [bkVs_len]) fun t ht => ?_
 have ht : t < L.length * 2 := by simpa using ht
 rw [Go.Sort.get_flatK _ _ _ _ (by simpa using ht)]
 have h1 := bk_get L t
 have h2 : t / 2 < L.length := by omega
 rw [List.getElem?_eq_getElem h2] at h1
 have h3 : (bkVs L).toArray[t]! = if t % 2 = 0 then Value.int .i64 (L[t / 2]'h2).1 else Value.int .i64 (L[t / 2]'h2).2 := by
  have : (bkVs L).toArray[t]? = (bkVs L)[t]? := by simp
  rw [getElem!_def, this, h1]
  rfl
 rw [h3]
 have h4 : L.toArray[t / 2]! = L[t / 2]'h2 := by
  rw [getElem!_pos _ _ (by simpa using h2)]
  simp
 rw [h4]
 rcases (by omega : t % 2 = 0 \/ t % 2 = 1) with e | e <;> rw [e] <;> rfl
section
variable {w : World} {base g cap m n sz : Nat} {e : TypeId} {os : Array Obj} {cur : Array Value} {xs ys : List Value}
theorem holds_of_row (hb : w.heap[g]? = some (.cells cur e (0, 0))) (ht : cur.toList.take xs.length = xs) : Go.Sort.Holds id w g 0 xs.toArray := by
 intro j hj
 have hj' : j < xs.length := by simpa using hj
 refine ⟨?_, by simp [World.frozen?, hb]⟩
 have h1 : (cur.toList.take xs.length)[j]? = xs[j]? := by rw [ht]
 rw [List.getElem?_take_of_lt hj'] at h1
 simp only [World.cell?, hb, Nat.zero_add]
 simp only [Option.isSome_none, Bool.false_eq_true, if_false]
 rw [<- Array.getElem?_toList, h1]
 simp [hj']
theorem heap_sorted (d : Array Value) {fr : Nat × Nat} (hb : w.heap[g]? = some (.cells cur e fr)) :
  (Go.Sort.grow (Go.Sort.putRow id (Go.Sort.ahead w n) g 0 d) os).heap[g]? = some (.cells (Go.Sort.putCells id 0 d cur) e fr) := by
 have hg : g < w.heap.size := (Array.getElem?_eq_some_iff.1 hb).1
 rw [Go.Sort.heap_grow_old _ _ (by simpa using hg)]
 simp [Go.Sort.putRow, Go.Sort.mapBlock, Go.Sort.ahead, Array.getElem?_modify, hb, Go.Sort.onCells]
theorem grown_sorted (d : Array Value) : w.grownBy (Go.Sort.grow (Go.Sort.putRow id (Go.Sort.ahead w n) g 0 d) os) (some g) := by
 refine ⟨rfl, rfl, rfl, by simp, fun k hk hne => ?_⟩
 rw [Go.Sort.heap_grow_old _ _ (by simpa using hk)]
 have : g ≠ k := fun e => hne (by rw [e])
 simp [Go.Sort.putRow, Go.Sort.mapBlock, Go.Sort.ahead, Array.getElem?_modify, this]
theorem take_sorted (cur : Array Value) (ts : List Value) (h : ts.length <= cur.size) : (Go.Sort.putCells id 0 ts.toArray cur).toList.take ts.length = ts := by
 apply List.ext_getElem?
 intro j
 by_cases hj : j < ts.length
 ·rw [List.getElem?_take_of_lt hj, Array.getElem?_toList]
  simp [Go.Sort.putCells, hj, show j < cur.size by omega]
 ·rw [List.getElem?_take_eq_none (by omega), List.getElem?_eq_none (by omega)]
theorem own_sorted (hl : ys.length = m * sz) (hbase : base <= g) (hb : w.heap[g]? = some (.cells cur e (0, 0))) (h1 : m <= cap) (h2 : cap <= maxLen) (h3 : cur.size = cap * sz) :
  (Go.Sort.grow (Go.Sort.putRow id (Go.Sort.ahead w n) g 0 ys.toArray) os).ownsRow base e sz (.slice (some ⟨g, 0, none⟩) m cap) m ys :=
 ⟨hl, .inr ⟨g, cap, _, rfl, hbase, heap_sorted _ hb, h1, h2, by simp [Go.Sort.putCells, h3], by rw [<- hl]; exact take_sorted cur ys (by rw [h3, hl]; exact Nat.mul_le_mul_right _ h1)⟩⟩
end
theorem perm_in {d d' : Array (Int × Int)} (h : Go.Sort.PermIn 0 d.size d d') : d'.toList.Perm d.toList := by
 have h3 := h.2.2
 rw [Array.extract_size] at h3
 rw [<- h.1, Array.extract_size] at h3
 exact h3
theorem sorted_in {d d' : Array (Int × Int)} (hs : d'.size = d.size) (h : Go.Sort.SortedIn (ltOf cmpB) 0 d.size d') : d'.toList.Pairwise (fun x y => x.1 <= y.1) := by
 rw [List.pairwise_iff_getElem]
 intro i j hi hj hij
 have h1 := h i j (Nat.zero_le _) hij (by rw [<- hs]; simpa using hj)
 rw [ltOf_b, getElem!_pos d' j (by simpa using hj), getElem!_pos d' i (by simpa using hi)] at h1
 simp at h1
 simpa using h1
end
section
theorem Turns.putObj {k : Nat} (w : World) (o : Obj) : Turns (fun i => i = k) w (w.putObj k o) := ⟨rfl, rfl, rfl, by simp, fun i _ hf => World.putObj_heap_other hf⟩

def RoundGoT (k : Nat) (P : Program) (l : Nat) (body : Code) (Q : World -> Exit -> Act -> World -> Prop) (A : World) (a₁ : Act) (A₁ : World) : Prop :=
 Below A.heap.size A A₁ /\ ∀ A₂, Turns (fun i => i = k) A₁ A₂ -> A₂.heap.size = A₁.heap.size -> body.wpIn (inR l) 0 P (Q A₂) a₁ A₂
end
section
def SeqXs {α : Type} (P : Program) (gf : Nat) (cap : Array Value) (enc : α -> Value) (N : Nat) (fin : List α -> Prop) (R : World -> Prop) : Prop :=
 ∀ (l : Nat) (J : List α -> (Nat -> Prop) -> World -> Prop) (W : World) (F0 : Nat -> Prop), R W ->
  (∀ xs F A B, J xs F A -> Below A.heap.size A B -> J xs F B) ->
  (∀ xs F A B k, J xs F A -> W.heap.size <= k -> ¬ F k -> Turns (fun i => i = k) A B -> J xs F B) ->
  (∀ xs F A, J xs F A -> R A /\ ∀ i, F i -> i < A.heap.size) ->
  (∀ xs x F A, J xs F A -> W.heap.size <= A.heap.size -> xs.length < N -> YieldAt Fence.wide 0 P l #[enc x] A fun e B =>
   e = .returned (.bool true) /\ A.heap.size <= B.heap.size /\ (∀ k, W.heap.size <= k -> k < A.heap.size -> ¬ F k -> B.heap[k]? = A.heap[k]?) /\ ∃ F', J (xs ++ [x]) F' B /\ ∀ i, F' i -> F i \/ A.heap.size <= i) ->
  (∀ i, F0 i -> i < W.heap.size) -> J [] F0 W ->
  CallsIn Fence.wide 0 P gf (#[.func (.yield l) #[] #[]] ++ cap) W fun e B => (∃ v, e = .returned v) /\ ∃ xs F, J xs F B /\ fin xs

def endXs {α : Type} (I : List α -> (Nat -> Prop) -> World -> Prop) (xs : List α) (F : Nat -> Prop) (N : Nat) (A : World) : Exit -> Act -> World -> Prop
 | .normal, _, B => Turns F A B /\ ∃ F', I xs F' B /\ ∀ i, F' i -> F i \/ N <= i
 | _, _, _ => False

theorem wp_seq_xs {α : Type} {P : Program} {g : Operand} {ps : Array Tmp} {assign body : Code} {Q : Exit -> Act -> World -> Prop} {a : Act} {w : World} {gf : Nat} {cap : Array Value}
  (hg : a.eval g = .func (.func gf) #[] cap) (eg : ∀ args w, (callFunc gf args).run P w = .ok (.enter gf args) w)
  {enc : α -> Value} {N : Nat} {fin : List α -> Prop} {R : World -> Prop} (hseq : SeqXs P gf cap enc N fin R) (hb0 : R w) (hRB : ∀ A B, R A -> Below A.heap.size A B -> R B) (hps : ps.size = 1)
  (I : List α -> (Nat -> Prop) -> World -> Prop)
  (hIB : ∀ xs F A B, I xs F A -> Below A.heap.size A B -> I xs F B)
  (hI : ∀ xs F A B k, I xs F A -> w.heap.size <= k -> ¬ F k -> Turns (fun i => i = k) A B -> I xs F B)
  (hIR : ∀ xs F A, I xs F A -> R A /\ ∀ i, F i -> i < A.heap.size)
  {F0 : Nat -> Prop} (h0 : I [] F0 w)
  (hround : ∀ (l : Nat) (xs : List α) (x : α) (F : Nat -> Prop) (A : World), xs.length < N -> I xs F A -> w.heap.size + 2 <= A.heap.size -> (¬ F w.heap.size /\ ¬ F (w.heap.size + 1)) ->
   assign.wpIn (inR l) 0 P (Exit.then (RoundGoT (w.heap.size + 1) P l body (endXs I (xs ++ [x]) F A.heap.size) A) (fun _ _ _ => False))
    { tmps := (ps.zip #[enc x]).foldl (fun t (p, v) => t.setIfInBounds p v) a.tmps, defers := [] } A)
  (hdone : ∀ (xs : List α) (F : Nat -> Prop) (A : World), fin xs -> I xs F A -> (¬ F w.heap.size /\ ¬ F (w.heap.size + 1)) -> A.heap[w.heap.size]? = some (.deferred (some [])) -> Q .normal { a with defers := mark w.heap.size :: a.defers } A) :
  (Code.rangeFunc g ps assign body).wp P Q a w := by
 refine (wpIn_wide (n := 1)).1 (wpIn_rangeFunc ?_)
 intro fn hfn
 have hF0 := (hIR _ _ _ h0).2
 obtain ⟨rec, hrec⟩ : ∃ rec : LoopState -> Option Code -> Loop, rec = fun st pe => { state := st, pending := pe, fn, tmps := a.tmps, params := ps, assign, body, defers := w.heap.size } := ⟨_, rfl⟩
 obtain ⟨W1, hW1⟩ : ∃ W1, (w.alloc (.deferred (some []))).alloc (.loop (rec .ready none)) = W1 := ⟨_, rfl⟩
 have hbw : Below w.heap.size w W1 := by rw [<- hW1]; exact Bnew (Bnew (B0 w) _) _
 have hs1 : W1.heap.size = w.heap.size + 2 := by rw [<- hW1]; simp
 have hL1 : W1.heap[w.heap.size + 1]? = some (.loop (rec .ready none)) := by
  have := heap_alloc_new (w.alloc (.deferred (some []))) (.loop (rec .ready none))
  rw [hW1] at this; simpa using this
 have hK1 : W1.heap[w.heap.size]? = some (.deferred (some [])) := by
  rw [<- hW1]; exact (Below.heap_alloc _ _ _ (by simp)).trans (heap_alloc_new w _)
 refine ⟨w.heap.size + 1, [mark w.heap.size], W1, { target := .fn (.func gf) cap, args := #[.func (.yield (w.heap.size + 1)) #[] #[]] }, W1, gf, #[.func (.yield (w.heap.size + 1)) #[] #[]] ++ cap, W1, ?_, ?_, ?_, ?_, fun _ => Nat.le_refl _, ?_⟩
 ·rw [<- hW1, hrec]; exact run_enterLoop_outer _ _ _ _ _
 ·simp only [resolve, hg]
  simp [go_sem]
 ·intro f' hf'; exact trivial
 ·simp [invoke, go_sem, eg]
 ·have keepRow : ∀ {A B : World} {k : Nat} {o : Obj}, Below A.heap.size A B -> A.heap[k]? = some o -> B.heap[k]? = some o := fun hb hk => (hb.block _ (Array.getElem?_eq_some_iff.1 hk).1).trans hk
  have turnRow : ∀ {A B : World} {F : Nat -> Prop} {k : Nat} {o : Obj}, Turns F A B -> ¬ F k -> A.heap[k]? = some o -> B.heap[k]? = some o := fun hb hf hk => (hb.block _ (Array.getElem?_eq_some_iff.1 hk).1 hf).trans hk
  refine (hseq (w.heap.size + 1)
   (fun xs F A => I xs F A /\ (¬ F w.heap.size /\ ¬ F (w.heap.size + 1)) /\ A.heap[w.heap.size + 1]? = some (.loop (rec .ready none)) /\ A.heap[w.heap.size]? = some (.deferred (some [])))
   W1 F0 (hRB _ _ hb0 hbw)
   (fun xs F A B h hb => ⟨hIB xs F A B h.1 hb, h.2.1, keepRow hb h.2.2.1, keepRow hb h.2.2.2⟩)
   (fun xs F A B k h hk hf ht => ⟨hI xs F A B k h.1 (by omega) hf ht, h.2.1, turnRow ht (fun e => by omega) h.2.2.1, turnRow ht (fun e => by omega) h.2.2.2⟩)
   (fun xs F A h => hIR xs F A h.1)
   ?_ (fun i hi => Nat.lt_of_lt_of_le (hF0 i hi) hbw.size) ⟨hIB [] F0 w W1 h0 hbw, ⟨fun hf => by have := hF0 _ hf; omega, fun hf => by have := hF0 _ hf; omega⟩, hL1, hK1⟩).mono ?_
  ·rintro xs x F A ⟨hi, ⟨hF0', hF1⟩, hl, hk⟩ hsA hc
   have hlt : w.heap.size + 1 < A.heap.size := (Array.getElem?_eq_some_iff.1 hl).1
   have hy := run_yield (P := P) (args := #[enc x]) hl (by rw [hrec]; exact hps.symm)
   rw [hrec] at hy
   refine ⟨fn, _, assign, body, hy, roundIn_of_wpIn hfn (wpIn_mono (hround _ xs x F A hc hi (by omega) ⟨hF0', hF1⟩) ?_)⟩
   rintro e a₁ A₁ hg1
   cases e with
   | normal =>
    obtain ⟨hbA, hgo⟩ := hg1
    have hl1 := keepRow hbA hl
    have hk1 := keepRow hbA hk
    have hlt1 : w.heap.size + 1 < A₁.heap.size := (Array.getElem?_eq_some_iff.1 hl1).1
    refine ⟨_, run_beginRound hl1 (by rw [hrec]), ?_⟩
    obtain ⟨A₂, hA₂⟩ : ∃ A₂, A₁.putObj (w.heap.size + 1) (.loop { rec .ready none with state := .busy }) = A₂ := ⟨_, rfl⟩
    have hl2 : A₂.heap[w.heap.size + 1]? = some (.loop { rec .ready none with state := .busy }) := by rw [<- hA₂]; exact World.putObj_heap_same hlt1
    have hk2 : A₂.heap[w.heap.size]? = some (.deferred (some [])) := by rw [<- hA₂]; exact (World.putObj_heap_other (by omega)).trans hk1
    have hM2 : Turns (fun i => i = w.heap.size + 1) A₁ A₂ := by rw [<- hA₂]; exact Turns.putObj _ _
    have hs2 : A₂.heap.size = A₁.heap.size := by rw [<- hA₂]; simp
    have hrows : ∀ k, W1.heap.size <= k -> k < A.heap.size -> A₂.heap[k]? = A.heap[k]? := fun k h1 h2 => by
     rw [<- hA₂]; exact (World.putObj_heap_other (by omega)).trans (hbA.block k h2)
    rw [hA₂]
    refine wpIn_mono (hgo A₂ hM2 hs2) ?_
    have fin : ∀ (B : World), Turns F A₂ B -> (Instr.endRound (w.heap.size + 1) none).run P B = .ok (.bool true) (B.putObj (w.heap.size + 1) (.loop (rec .ready none))) /\
      Turns (fun i => i = w.heap.size + 1) B (B.putObj (w.heap.size + 1) (.loop (rec .ready none))) /\
      (B.putObj (w.heap.size + 1) (.loop (rec .ready none))).heap[w.heap.size + 1]? = some (.loop (rec .ready none)) /\
      (B.putObj (w.heap.size + 1) (.loop (rec .ready none))).heap[w.heap.size]? = some (.deferred (some [])) := fun B hT => by
     have hl3 := turnRow hT hF1 hl2
     have hk3 := turnRow hT hF0' hk2
     have := run_endRound (P := P) none hl3
     rw [hrec] at this ⊢
     exact ⟨this, Turns.putObj _ _, World.putObj_heap_same (Array.getElem?_eq_some_iff.1 hl3).1, (World.putObj_heap_other (by omega)).trans hk3⟩
    rintro e a3 B hp
    cases e with
    | normal =>
     obtain ⟨hT, F', hi3, hF'⟩ := hp
     obtain ⟨hr, hm, hl4, hk4⟩ := fin B hT
     have hsB : A.heap.size <= B.heap.size := by have := hT.size; have := hbA.size; omega
     have hn0 : ¬ F' w.heap.size := fun hf => by
      rcases hF' _ hf with h | h
      ·exact hF0' h
      ·omega
     have hn1 : ¬ F' (w.heap.size + 1) := fun hf => by
      rcases hF' _ hf with h | h
      ·exact hF1 h
      ·omega
     refine ⟨_, _, hr, rfl, Nat.le_trans hsB hm.size, fun k h1 h2 hf => ?_, F', ⟨hI _ _ _ _ _ hi3 (by omega) hn1 hm, ⟨hn0, hn1⟩, hl4, hk4⟩, hF'⟩
     rw [World.putObj_heap_other (by omega), hT.block k (by have := hbA.size; omega) hf]
     exact hrows k h1 h2
    | ret => exact hp.elim
    | exit id => exact hp.elim
    | goto t => exact hp.elim
    | panic ch => exact hp.elim
    | outgrown => exact hp.elim
   | exit id => exact hg1.elim
   | goto t => exact hg1.elim
   | ret => exact hg1.elim
   | panic ch => exact hg1.elim
   | outgrown => exact hg1.elim
  ·rintro e B ⟨⟨v, rfl⟩, xs, F, ⟨hi, ⟨hF0', hF1⟩, hl, hk⟩, hfin⟩
   exact ⟨none, _, by have := run_endLoop (P := P) hl (by rw [hrec]; simp); rw [hrec] at this; exact this, hdone xs F _ hfin (hI _ _ _ _ _ hi (by omega) hF1 (Turns.putObj _ _)) ⟨hF0', hF1⟩ ((World.putObj_heap_other (by omega)).trans hk)⟩
end
end Go.Proofs.YtedakmhffjhfnaaDoor

namespace Go.Proofs.YtedakmhffjhfnaaDoor
open Go.ChangeShapes Go.WideShapes Go.ChangeAt Go.RowKit
set_option linter.unusedVariables false
set_option maxRecDepth 100000
set_option linter.unusedSimpArgs false
section
structure BlkV where
 ad : Int
 z : Int
instance : Inhabited BlkV := ⟨⟨0, 0⟩⟩
end
end Go.Proofs.YtedakmhffjhfnaaDoor

namespace Go.Proofs.YtedakmhffjhfnaaDoor
open Go.ChangeShapes Go.WideShapes Go.ChangeAt Go.RowKit Go.Maps
set_option linter.unusedVariables false
set_option linter.unusedSimpArgs false
set_option maxRecDepth 100000
section
theorem state_root {w : World} {b : Nat} {T : TypeId} {A : Option Addr} {n c : Nat} {R : Nat -> Int} (h : Held w b T #[.slice A n c, .int .i64 (R 0), .int .i64 (R 1), .int .i64 (R 2), .int .i64 (R 3), .int .i64 (R 4), .int .i64 (R 5), .int .i64 (R 6), .int .i64 (R 7)]) {k : Nat} (hk : k < 8) : w.cell? ⟨b, 1 + k, none⟩ = some (.int .i64 (R k)) := by
 rcases (by omega : k = 0 \/ k = 1 \/ k = 2 \/ k = 3 \/ k = 4 \/ k = 5 \/ k = 6 \/ k = 7) with rfl | rfl | rfl | rfl | rfl | rfl | rfl | rfl
 ·exact h.cell 1
 ·exact h.cell 2
 ·exact h.cell 3
 ·exact h.cell 4
 ·exact h.cell 5
 ·exact h.cell 6
 ·exact h.cell 7
 ·exact h.cell 8
end
section
theorem isNaN64_c (a : Int) (w : World) : Calls Tryd.prog 87 #[.int .i64 a] w fun e w' => e = .returned (.bool false) /\ w = w' := by
 have e1 : (a != a) = false := by simp
 go_enter Tryd.func87, Tryd.ntmps87
 go_wp2
 go_ret
 exact ⟨rfl, rfl⟩
theorem compare64_c (a b x y : Int) (w : World) : Calls Tryd.prog 69 #[.int .i64 a, .int .i64 b] w fun e w' => e = .returned (.int .i64 (cmpB (a, x) (b, y))) /\ w = w' := by
 obtain ⟨z, hz⟩ : ∃ z, cmpB (a, x) (b, y) = z := ⟨_, rfl⟩
 rw [hz]
 have hc : (a < b /\ z = -1) \/ (b < a /\ z = 1) \/ (a = b /\ z = 0) := by
  rw [<- hz]
  unfold cmpB
  dsimp only
  rcases Int.lt_trichotomy a b with h | h | h
  ·exact .inl ⟨h, by rw [if_pos h]⟩
  ·exact .inr (.inr ⟨h, by rw [if_neg (by omega), if_neg (by omega)]⟩)
  ·exact .inr (.inl ⟨h, by rw [if_neg (by omega), if_pos h]⟩)
 clear hz
 rcases hc with ⟨h, rfl⟩ | ⟨h, rfl⟩ | ⟨h, rfl⟩
 ·have t1 : decide (a < b) = true := decide_eq_true h
  go_enter Tryd.func69, Tryd.ntmps69
  go_wp2_with fail
  refine (isNaN64_c a _).mono ?_; rintro e w1 ⟨rfl, rfl⟩
  go_wp2_with fail
  refine (isNaN64_c b _).mono ?_; rintro e w1 ⟨rfl, rfl⟩
  go_wp2
  go_ret
  exact ⟨rfl, rfl⟩
 ·have t1 : decide (a < b) = false := decide_eq_false (by omega)
  have t2 : decide (b < a) = true := decide_eq_true h
  go_enter Tryd.func69, Tryd.ntmps69
  go_wp2_with fail
  refine (isNaN64_c a _).mono ?_; rintro e w1 ⟨rfl, rfl⟩
  go_wp2_with fail
  refine (isNaN64_c b _).mono ?_; rintro e w1 ⟨rfl, rfl⟩
  go_wp2
  go_ret
  exact ⟨rfl, rfl⟩
 ·subst h
  have t1 : decide (a < a) = false := decide_eq_false (by omega)
  go_enter Tryd.func69, Tryd.ntmps69
  go_wp2_with fail
  refine (isNaN64_c a _).mono ?_; rintro e w1 ⟨rfl, rfl⟩
  go_wp2_with fail
  refine (isNaN64_c a _).mono ?_; rintro e w1 ⟨rfl, rfl⟩
  go_wp2
  go_ret
  exact ⟨rfl, rfl⟩
theorem byAddr_c (x y : Int × Int) (w : World) : Calls Tryd.prog 32 #[.agg #[.int .i64 x.1, .int .i64 x.2], .agg #[.int .i64 y.1, .int .i64 y.2]] w fun e w' => e = .returned (.int .i64 (cmpB x y)) /\ ∃ q os', w' = Go.Sort.grow (w.drewN q) os' := by
 obtain ⟨x1, x2⟩ := x
 obtain ⟨y1, y2⟩ := y
 have hcon := fun W' => compare64_c x1 y1 x2 y2 W'
 generalize cmpB (x1, x2) (y1, y2) = r at hcon ⊢
 go_enter Tryd.func32, Tryd.ntmps32
 go_wp2_with fail
 refine (hcon _).mono ?_; rintro e w1 ⟨rfl, rfl⟩
 go_wp2
 go_ret
 exact ⟨rfl, 0, _, by rw [Go.Sort.alloc_eq_grow, Go.Sort.alloc_eq_grow, Go.Sort.grow_grow]; rfl⟩
theorem byAddr_lays (blk off size : Nat) (w : World) : CmpLays Tryd.prog 32 #[] encB 2 cmpB blk off size w :=
 fun _ _ _ _ x y => byAddr_c x y _

theorem insSort0_c (A : Option Addr) (c : Nat) (fv : Value) (w : World) : Calls Tryd.prog 91 #[.slice A 0 c, .int .i64 0, .int .i64 0, fv] w fun e w' => e = .returned (.tuple #[]) /\ w = w' := by
 go_enter Tryd.func91, Tryd.ntmps91
 go_wp2_with fail
 refine wp_loop_rounds 1 ?_
 rw [rounds_succ]
 go_wp2_with fail
 go_end0
 exact ⟨rfl, rfl⟩
theorem pdq0_c (A : Option Addr) (c : Nat) (lim : Int) (fv : Value) (w : World) : Calls Tryd.prog 85 #[.slice A 0 c, .int .i64 0, .int .i64 0, .int .i64 lim, fv] w fun e w' => e = .returned (.tuple #[]) /\ w = w' := by
 go_enter Tryd.func85, Tryd.ntmps85
 go_wp2_with fail
 refine wp_loop_rounds 1 ?_
 rw [rounds_succ]
 go_wp2_with fail
 refine (insSort0_c A c fv _).mono ?_; rintro e w1 ⟨rfl, rfl⟩
 go_wp2_with fail
 (try simp only [Exit.inBlock, Exit.then])
 refine bodyPost_ret (results_none rfl _ _ _) rfl ?_
 exact ⟨rfl, rfl⟩
theorem bitsLen0_c (w : World) : Calls Tryd.prog 86 #[.int .u64 0] w fun e w' => (∃ n : Int, e = .returned (.int .i64 n)) /\ w' = w := by
 have h := Any.bits_Len (SlLaysF0.n15.bits (P := Tryd.prog) (ρ := Tryd.sortB_ren) { Go.Proofs.Tryd.sortB with }) 0 w (by omega) (by omega)
 exact h.mono fun e w' ⟨he, hw⟩ => ⟨⟨_, he⟩, hw⟩
theorem sort0_c (A : Option Addr) (c : Nat) (fv : Value) (w : World) : Calls Tryd.prog 67 #[.slice A 0 c, fv] w fun e w' => e = .returned (.tuple #[]) /\ w = w' := by
 have wr : IntKind.u64.wrap 0 = 0 := by decide
 go_enter Tryd.func67, Tryd.ntmps67
 go_wp2_with fail
 refine (bitsLen0_c _).mono ?_; rintro e w1 ⟨⟨n, rfl⟩, rfl⟩
 go_wp2_with fail
 refine (pdq0_c A c n fv _).mono ?_; rintro e w1 ⟨rfl, rfl⟩
 go_wp2_with fail
 go_end0
 exact ⟨rfl, rfl⟩
theorem sortB_own {base : Nat} {v : Value} {L : List (Int × Int)} {w : World} (hm : L.length < 4611686018427387904) (h : w.ownsRow base 55 2 v L.length (bkVs L)) :
  Calls Tryd.prog 67 #[v, .func (.func 32) #[] #[]] w fun e w' => e = .returned (.tuple #[]) /\ ∃ L' : List (Int × Int), L'.Perm L /\ L'.Pairwise (fun x y => x.1 <= y.1) /\ w'.ownsRow base 55 2 v L'.length (bkVs L') /\ w.grownBy w' v.ownBlock := by
 rcases h.2 with ⟨rfl, hz⟩ | ⟨g, cap, cur, rfl, hbase, hb, h1, h2, h3, h4⟩
 ·obtain rfl : L = [] := List.eq_nil_of_length_eq_zero hz
  refine (sort0_c none 0 _ w).mono ?_
  rintro e w' ⟨he, rfl⟩
  exact ⟨he, [], List.Perm.refl _, List.Pairwise.nil, h, World.grownBy.refl _ _⟩
 ·have eg : ∀ args w, (callFunc 32 args).run Tryd.prog w = .ok (.enter 32 args) w := enters_of Tryd.func32 (by kernel_rfl) rfl
  have hH : Go.Sort.HoldsK encB 2 w g 0 L.toArray := by
   unfold Go.Sort.HoldsK
   rw [flat_bk]
   exact holds_of_row hb (by rw [bkVs_len]; exact h4)
  have hs := AnyQ.slices_SortFunc Go.Proofs.Tryd.sortB 2 Tryd.isAgg55 Tryd.sizeOf55 encB (fun _ => rfl) (fun x v hv => by simp [encB] at hv; rcases hv with rfl | rfl <;> rfl) cmpB swo_b 32 #[] g 0 cap L.toArray w eg (byAddr_lays g 0 _ w) hH (Array.getElem?_eq_some_iff.1 hb).1 (by simpa using hm)
  change Calls Tryd.prog 67 _ _ _ at hs
  rw [show L.toArray.size = L.length from by simp] at hs
  refine hs.mono ?_
  rintro e w' ⟨he, d', n, os, hp, hso, rfl⟩
  have hp' : Go.Sort.PermIn 0 L.toArray.size L.toArray d' := by simpa using hp
  have hpl : d'.toList.Perm L := by simpa using perm_in hp'
  have hsz : d'.size = L.toArray.size := hp'.1
  have e2 : Go.Sort.flatK encB 2 d' = (bkVs d'.toList).toArray := by
   have := flat_bk d'.toList
   simpa using this
  have hl : d'.toList.length = L.length := hpl.length_eq
  refine ⟨he, d'.toList, hpl, sorted_in hsz (by simpa using hso), ?_, ?_⟩
  ·rw [hl]
   unfold sortWorldK Go.Sort.putRowK
   rw [e2]
   exact own_sorted (by rw [bkVs_len, hl]) hbase hb h1 h2 h3
  ·unfold sortWorldK Go.Sort.putRowK
   exact grown_sorted _
end
section
theorem ranges_same {H : Type} {P : Program} {k : TypeId} {R : Value -> Option (DataW H × List MemPlace)} {w w' : World} {b r n : Nat} {D : DataW H} {left : Lit -> Bool} {cnt : Nat} (h : w.ranges P k R b r n D left cnt) (hb : w'.heap[b]? = w.heap[b]?) (hr : w'.heap[r]? = w.heap[r]?) : w'.ranges P k R b r n D left cnt := by
 obtain ⟨es, clock, since, seen, c0, h1, h2, h3, h4, h5, h6⟩ := h
 exact ⟨es, clock, since, seen, c0, hb.trans h1, h2, h3, h4, hr.trans h5, h6⟩
section
attribute [local go_sem] Oper.semAt_some
end
end
section
def KeysAt (m bx n : Nat) (D : DataW Unit) (o : Option Obj) (w : World) : Prop := bx < w.heap.size /\ w.cell? ⟨bx, 0, none⟩ = some (.map (some m)) /\ w.ownsMap Tryd.prog 55 unitElem m n D /\ w.heap[m]? = o
theorem KeysAt.keep {m bx n : Nat} {D : DataW Unit} {o : Option Obj} {w w' : World} (h : KeysAt m bx n D o w) (hb : Below w.heap.size w w') : KeysAt m bx n D o w' :=
 ⟨Nat.lt_of_lt_of_le h.1 hb.size, (hb.cell (p := ⟨bx, 0, none⟩) h.1).trans h.2.1, owns_turns h.2.2.1 (Turns.of_below hb (fun _ => False)) (fun x => x), (hb.block m h.2.2.1.lt).trans h.2.2.2⟩
section
attribute [local go_sem] Oper.semAt_some
set_option maxHeartbeats 1600000 in
theorem keys_seq (m bx n : Nat) (D : DataW Unit) (o : Option Obj) (L : List (Int × Int)) (hD : LiveIs D L) (hnd : L.Nodup) :
  SeqXs Tryd.prog 68 #[.pointer (some ⟨bx, 0, none⟩)] (fun x : Int × Int => .agg #[.int .i64 x.1, .int .i64 x.2]) L.length (fun xs => xs.Perm L) (KeysAt m bx n D o) := by
 intro lp J W F0 hW hJB hJT hJR hY hF0 h0
 refine callsIn_of_wp Tryd.func68 rfl trivial ?_ rfl
 simp only [Tryd.ntmps68, List.size_toArray, List.length_cons, List.length_nil, Nat.reduceAdd, Nat.reduceSub, Array.replicate_succ, Array.replicate_zero, List.push_toArray, List.append_toArray, List.nil_append, List.cons_append]
 have HJ0 := hidp h0
 have HJB := hidp hJB
 have HJT := hidp hJT
 have HJR := hidp hJR
 have HY := hidp hY
 have HD := hidp hD
 have HND := hidp hnd
 have HF0 := hidp hF0
 have b0 := hW.2.1
 have hown := hW.2.2.1
 have HW := hidp hW
 have invK : ∀ key kl, keyOf Tryd.prog 55 key = some kl -> ∃ x : Int × Int, key = .agg #[.int .i64 x.1, .int .i64 x.2] := fun key kl h => by
  obtain ⟨x, h1, _⟩ := bk_inv h
  exact ⟨x, h1⟩
 have invV : ∀ (v : Value) (y : DataW Unit × List MemPlace), unitElem v = some y -> ∃ c : Unit, v = .agg #[] := fun v y h => ⟨(), (unitElem_inv h).1⟩
 clear hJB hJT hJR hY h0 hW hD hnd hF0
 gi_wp2_with (first
  | (gi_at_range; refine wpListIn_range_own _ rfl _ 60 rfl 55 72 bkKey Tryd.underlying60 unitElem m n D rfl hown ?_; intro w0 hrg0 hg0 hs0)
  | gi_in)
 try go_frame
 have HB0 : Hid (Below W.heap.size W w0) := hidp (by exact ⟨hg0.os, hg0.tape, hg0.output, hg0.size, fun i hi => hg0.block i hi (by simp)⟩)
 have HJ1 : Hid (J [] F0 w0) := hidp (HJB.out _ _ _ _ HJ0.out HB0.out)
 have HC0 : Hid (CameB D (Maps.has D) []) := hidp (CameB.start D)
 have HN0 : Hid (¬ F0 W.heap.size) := hidp (fun h => by have := HF0.out _ h; omega)
 clear hown hs0
 gi_loopw [3] (fun _ wr => ∃ (left : Lit -> Bool) (cnt : Nat) (ss : List (Int × Int)) (F : Nat -> Prop), wr.ranges Tryd.prog 55 unitElem m W.heap.size n D left cnt /\ Hid (ss.length + cnt <= L.length) /\ Hid (CameB D left ss) /\ Hid (J ss F wr) /\ Hid (¬ F W.heap.size) /\ Hid (W.heap.size + 1 <= wr.heap.size))
  (fun _ wr => wr.rangeLeft m W.heap.size)
 case atStart => exact ⟨_, _, [], F0, hrg0, hidp (by rw [HD.out.size]; simp), HC0, HJ1, HN0, hidp (by have := hrg0.lt; omega)⟩
 case round =>
  clear HJ0 b0 HB0 HJ1 HC0 HN0 hrg0 hg0
  obtain ⟨left, cnt, ss, F, hrg, HCN, HC, HJS, HNF, HSZ⟩ := hrel
  gi_wp2_with (first
   | (gi_at_next; refine wpListIn_next_ranges _ rfl _ rfl 55 bkKey unitElem (fun x : Int × Int => .agg #[.int .i64 x.1, .int .i64 x.2]) (fun _ : Unit => .agg #[]) invK invV m W.heap.size n _ _ _ rfl hrg ?_ ?_)
   | gi_in)
  ·intro hc0 hl0
   gi_wp2
   go_end0
   exact ⟨⟨_, rfl⟩, ss, F, HJS.out, HC.out.done hl0 HD.out HND.out⟩
  ·intro x1 x2 kl yd yp w2 cnt2 hkey hlk hv hat hrg2 hlt hg2 hs2 hen
   obtain ⟨⟨y1, y2⟩, he, hw1, hw2, hkl⟩ := bk_inv hkey
   simp only [bkV, Value.agg.injEq] at he hw1 hw2 hkl
   obtain ⟨rfl, rfl⟩ : x1 = y1 /\ x2 = y2 := by simpa using he
   subst hkl
   have hhas := has_true_of_atKey hat
   have hJ2 := HJT.out _ _ _ _ W.heap.size HJS.out (Nat.le_refl _) HNF.out (Turns.of_grown hg2 rfl)
   have HM2 : Hid (w2.heap[m]? = o) := hidp (HJR.out _ _ _ hJ2).1.2.2.2
   have hJ3 := HJB.out _ _ _ _ hJ2 (Bnew (B0 w2) (.cells #[.int .i64 x1, .int .i64 x2] 55))
   have HLT : Hid (cnt2 < cnt) := hidp hlt
   obtain ⟨fn, tmps, assign, body, hy, hR⟩ := HY.out ss (x1, x2) F _ hJ3 (by simp; have := HSZ.out; omega) (by have := HCN.out; have := HLT.out; omega)
   have HRR := hidp hR
   have HCC := hidp (HC.out.step (x := (x1, x2)) ⟨hw1, hw2⟩ hlk hhas)
   have HRG2 := hidp hrg2
   have HRG := hidp hrg
   have HS2 : Hid (w2.heap.size = wr.heap.size) := hidp hs2
   clear hR hJ2 hJ3 hs2 hrg2 he hat hv hkey hlk hhas hlt hg2 hrg
   gi_wp2_with fail
   refine ⟨rfl, HRR.out.mono ?_⟩
   rintro e W3 ⟨rfl, hsz3, hk3, F', hJ3, hF3⟩
   have HJ3 := hidp hJ3
   have HS3 : Hid (W.heap.size + 1 <= W3.heap.size) := hidp (by have := HSZ.out; have := HS2.out; simp at hsz3; omega)
   have HN3 : Hid (¬ F' W.heap.size) := hidp (fun h => by
    have := HSZ.out
    have := HS2.out
    rcases hF3 _ h with h1 | h1
    ·exact HNF.out h1
    ·simp at h1; omega)
   have HM : Hid (W3.heap[m]? = w2.heap[m]?) := hidp (by
    have a1 := (HJR.out _ _ _ hJ3).1.2.2.2
    have a3 := HM2.out
    rw [a1, a3])
   have hrg3 : W3.ranges Tryd.prog 55 unitElem m W.heap.size n D _ cnt2 := ranges_same HRG2.out HM.out (by
    have := hk3 W.heap.size (Nat.le_refl _) (by have := HSZ.out; have := HS2.out; simp; omega) HNF.out
    rw [this]
    exact Below.heap_alloc _ _ _ (by have := HSZ.out; have := HS2.out; omega))
   clear hJ3 hk3 hF3 hsz3 HRR HY HJB HJT hy
   gi_wp2
   go_roundw
   case rel => exact ⟨_, cnt2, ss ++ [(x1, x2)], F', hrg3, hidp (by have := HCN.out; have := HLT.out; simp; omega), HCC, HJ3, HN3, HS3⟩
   case measure => rw [hrg3.left_eq, HRG.out.left_eq]; exact HLT.out
end
theorem keys_c (m : Nat) (w : World) : Calls Tryd.prog 31 #[.map (some m)] w fun e w' => e = .returned (.func (.func 68) #[] #[.pointer (some ⟨w.heap.size, 0, none⟩)]) /\ w' = w.alloc (.cells #[.map (some m)] 60) := by
 go_enter Tryd.func31, Tryd.ntmps31
 go_wp2
 go_ret
 exact ⟨rfl, rfl⟩
end
section
abbrev encV (x : Int × Int) : Value := .agg #[.int .i64 x.1, .int .i64 x.2]
def AppAt (w : World) (b : Nat) (xs : List (Int × Int)) (F : Nat -> Prop) (A : World) : Prop :=
 ∃ v, Held A b 24 #[v] /\ A.ownsRow (w.heap.size + 1) 55 2 v xs.length (bkVs xs) /\ Below w.heap.size w A /\ F = (fun i => i = b \/ v.ownBlock = some i)
theorem AppAt.turn {w A B : World} {b k : Nat} {xs : List (Int × Int)} {F : Nat -> Prop} (h : AppAt w b xs F A) (hk : w.heap.size <= k) (hF : ¬ F k) (ht : Turns (fun i => i = k) A B) : AppAt w b xs F B := by
 obtain ⟨v, h1, h2, h3, rfl⟩ := h
 refine ⟨v, ht.held h1 (fun e => hF (.inl e.symm)), own_kept h2 (fun g hg => ht.block g (h2.lt g hg).2 (fun e => hF (.inr (by rw [<- e]; exact hg)))), ht.below h3 (fun i hi => by omega), rfl⟩
theorem AppAt.keep {w A B : World} {b : Nat} {xs : List (Int × Int)} {F : Nat -> Prop} (h : AppAt w b xs F A) (hb : Below A.heap.size A B) : AppAt w b xs F B := by
 obtain ⟨v, h1, h2, h3, rfl⟩ := h
 exact ⟨v, h1.keep hb, own_below h2 hb, Bgo h3 hb, rfl⟩
theorem AppAt.lt {w A : World} {b : Nat} {xs : List (Int × Int)} {F : Nat -> Prop} (h : AppAt w b xs F A) : ∀ i, F i -> i < A.heap.size := by
 obtain ⟨v, h1, h2, h3, rfl⟩ := h
 rintro i (rfl | hi)
 ·exact h1.lt
 ·exact (h2.lt i hi).2
section
variable {gf : Nat} {cap : Array Value} {N : Nat} {fin : List (Int × Int) -> Prop} {R : World -> Prop}
set_option maxHeartbeats 3200000 in
theorem appendSeq_c (w : World) (hseq : SeqXs Tryd.prog gf cap encV N fin R) (eg : ∀ args w, (callFunc gf args).run Tryd.prog w = .ok (.enter gf args) w) (hN : N <= 2 ^ 40) (hR : ∀ A, Below w.heap.size w A -> R A) (hRk : ∀ A B, R A -> Below A.heap.size A B -> R B) :
    Calls Tryd.prog 84 #[.slice none 0 0, .func (.func gf) #[] cap] w fun e w' => ∃ (v : Value) (xs : List (Int × Int)), e = .returned v /\ fin xs /\ w'.ownsRow w.heap.size 55 2 v xs.length (bkVs xs) /\ Below w.heap.size w w' := by
  obtain ⟨j0, hjn, hjz0, hjz1, hjz2⟩ := info_parts blockInfo
  have HSEQ := hidp hseq
  have HRR := hidp hR
  have HRK := hidp hRk
  have HNN := hidp hN
  clear hseq hR hRk hN
  refine calls_of_wp_mark Tryd.func84 rfl ?_
  simp only [Tryd.ntmps84, List.size_toArray, List.length_cons, List.length_nil, Nat.reduceAdd, Nat.reduceSub, Array.replicate_succ, Array.replicate_zero, List.push_toArray, List.append_toArray, List.nil_append, List.cons_append]
  go_wp2_with fail
  have HB0 := hidp (Bnew (B0 w) (.cells #[.slice none 0 0] 24))
  have HS0 : Hid ((w.alloc (.cells #[.slice none 0 0] 24)).heap.size = w.heap.size + 1) := hidp (by simp)
  have HA0 : Hid (AppAt w w.heap.size [] (fun i => i = w.heap.size) (w.alloc (.cells #[.slice none 0 0] 24))) := hidp ⟨.slice none 0 0, Held.new w _ _, ⟨rfl, .inl ⟨rfl, rfl⟩⟩, HB0.out, by funext i; simp [Value.ownBlock]⟩
  refine wp_seq_xs (gf := gf) (cap := cap) (enc := encV) (N := N) (fin := fin) (R := R) rfl eg HSEQ.out (HRR.out _ HB0.out) HRK.out rfl
    (fun xs F A => Hid (AppAt w w.heap.size xs F A)) ?hIB ?hI ?hIR (F0 := fun i => i = w.heap.size) HA0 ?round ?done
  case hIB => intro xs F A B h hb; exact hidp (h.out.keep hb)
  case hI => intro xs F A B k h hk hF ht; exact hidp (h.out.turn (by have := HS0.out; omega) hF ht)
  case hIR =>
    intro xs F A h
    refine ⟨HRR.out _ ?_, h.out.lt⟩
    obtain ⟨v, _, _, h3, _⟩ := h.out
    exact h3
  case round =>
    rintro l xs x F A hlt hI hsz hF
    obtain ⟨x1, x2⟩ := x
    gi_wp2_with (rw [Oper.semAt_eq _ _ _ (fun c h => by cases h)]; go_simp; try go_bits)
    refine ⟨Bnew (B0 _) _, fun A2 hT hs2 => ?_⟩
    have HA1 : Hid (AppAt w w.heap.size xs F A2) := hidp ((hI.out.keep (Bnew (B0 _) (.cells #[.int .i64 x1, .int .i64 x2] 55))).turn (by have := HS0.out; omega) hF.2 hT)
    have HX : Hid (Held A2 A.heap.size 55 #[.int .i64 x1, .int .i64 x2]) := hidp (hT.held (Held.new A _ _) (by have := HS0.out; omega))
    have HSA : Hid (A.heap.size <= A2.heap.size) := hidp (by rw [hs2]; simp)
    have HSZ : Hid (w.heap.size + 3 <= A.heap.size) := hidp (by have := HS0.out; omega)
    have HLT : Hid (xs.length < N) := hidp hlt
    clear hI hT hs2 hF hsz hlt
    obtain ⟨v, h1, h2, h3, hFv⟩ := HA1.out
    have HFV := hidp hFv
    have HH := hidp h1
    have HO := hidp h2
    have HBB := hidp h3
    have HVN : Hid (∀ g, v.ownBlock = some g -> w.heap.size + 1 <= g /\ g < A2.heap.size) := hidp (fun g hg => ⟨(h2.lt g hg).1, (h2.lt g hg).2⟩)
    have c0 := h1.cell 0
    have f0 := h1.thawed 0
    obtain ⟨y0, y1⟩ := HX.out.two
    clear h1 h2 h3 hFv HA1
    gi_wp2_with (first
      | (gi_at_builtin
         refine wpListIn_append_own_at _ rfl _ _ 24 rfl (w.heap.size + 1) 55 j0 (.agg #[.int .i64 0, .int .i64 0]) 2 16 Tryd.underlying24 hjn hjz0 hjz1 hjz2 rfl (by decide) v xs.length (bkVs xs) rfl (HO.out.alloc _) ⟨_, 0, none⟩ 1 1 [.int .i64 x1, .int .i64 x2] rfl rfl ?c1 ?c2 ?c3 ?c4 ?c5 ?_
         case c1 => intro j y hy; rcases j with _ | _ | j; (· simp at hy; subst hy; simp [Addr.add]); (· simp at hy; subst hy; simp [Addr.add]); (· simp at hy)
         case c2 => simp [Value.oneCell']
         case c3 => unfold maxLen; have := HLT.out; have := HNN.out; omega
         case c4 => have := HLT.out; have := HNN.out; omega
         case c5 => have := HSZ.out; have := HSA.out; simp; omega
         intro v' w3 hown3 hg3 _ hat3
         have HAT := hidp hat3
         obtain ⟨g', cap', rfl, hg1, hg2⟩ := hown3.form (by omega)
         have HO3 := hidp hown3
         have HG3 := hidp hg3
         have hh3 : Held w3 w.heap.size 24 #[v] := (hg3.block w.heap.size (by have := HSZ.out; have := HSA.out; simp; omega) (fun e => by have := HVN.out _ e.symm; omega)).trans (HH.out.alloc _)
         have HH3 := hidp hh3
         have c3 := hh3.cell 0
         have f3 := hh3.thawed 0
         clear hown3 hg3 hh3 hat3)
      | (rw [Oper.semAt_eq _ _ _ (fun c h => by cases h)]; go_simp; try go_bits))
    have hb3 : Below w.heap.size w w3 := ((Bnew HBB.out (.cells #[.int .i64 x1, .int .i64 x2] 55))).grown HG3.out (by have := HSZ.out; have := HSA.out; simp; omega) (fun j hj => by have := HVN.out j hj; omega)
    have hgb : g' ≠ w.heap.size := by
      have := (HO3.out.lt g' rfl).1
      omega
    have HT : Turns F A2 (w3.setCell ⟨w.heap.size, 0, none⟩ (.slice (some ⟨g', 0, none⟩) (xs.length + 1) cap')) := by
      have a1 : Turns F A2 (A2.alloc (.cells #[.int .i64 x1, .int .i64 x2] 55)) := Turns.of_below (Bnew (B0 _) _) F
      have a2 : Turns F (A2.alloc (.cells #[.int .i64 x1, .int .i64 x2] 55)) w3 := ⟨HG3.out.os, HG3.out.tape, HG3.out.output, HG3.out.size, fun i hi hf => HG3.out.block i hi (fun e => hf (by rw [HFV.out]; exact .inr e.symm))⟩
      exact (a1.trans a2).put (p := ⟨w.heap.size, 0, none⟩) (by rw [HFV.out]; exact .inl rfl) _
    refine ⟨HT, fun i => i = w.heap.size \/ i = g', hidp ⟨_, HH3.out.put 0 _, ?_, hb3.setCell (Nat.le_refl _) _, by funext i; simp [Value.ownBlock, eq_comm]⟩, ?_⟩
    · have := own_kept HO3.out (w' := w3.setCell ⟨w.heap.size, 0, none⟩ (.slice (some ⟨g', 0, none⟩) (xs.length + 1) cap')) (fun g hg => Below.heap_setCell w3 _ _ g (fun e => hgb (by injection hg with hg; exact hg.trans e)))
      rw [bkVs_snoc]
      simpa using this
    · rintro i (rfl | rfl)
      · exact .inl (by rw [HFV.out]; exact .inl rfl)
      · rcases HAT.out with e | e
        · exact .inl (by rw [HFV.out]; exact .inr e.symm)
        · refine .inr ?_
          have e : some i = some (A2.alloc (.cells #[.int .i64 x1, .int .i64 x2] 55)).heap.size := e
          injection e with e
          rw [e]
          have := HSA.out
          simp
          omega
  case done =>
    rintro xs F A hfin hI hF hk
    obtain ⟨v, h1, h2, h3, hFv⟩ := hI.out
    have HFV := hidp hFv
    have HH := hidp h1
    have HO := hidp h2
    have HBB := hidp h3
    have HFIN := hidp hfin
    have HK := hidp hk
    have HFN := hidp hF.1
    have c0 := h1.cell 0
    clear h1 h2 h3 hFv hI hfin hF hk
    go_wp2_with fail
    refine mark_end rfl HK.out ?_
    refine bodyPost_ret (v := v) (by simp [results, Tryd.results84, go_sem]) rfl ⟨v, xs, rfl, HFIN.out, ?_, ?_⟩
    · have h := own_kept (own_down HO.out (base' := w.heap.size) (by omega)) (w' := A.putObj (w.alloc (.cells #[.slice none 0 0] 24)).heap.size (.deferred none)) (fun g hg => World.putObj_heap_other (fun e => ?_))
      · exact h
      · have h1 := HFN.out
        rw [HFV.out] at h1
        exact h1 (.inr (by rw [hg, e]))
    · exact HBB.out.grown (grownBy_putObj' A _ _) HBB.out.size (fun k e => by cases e; have := HS0.out; omega)
theorem collect_c (w : World) (hseq : SeqXs Tryd.prog gf cap encV N fin R) (eg : ∀ args w, (callFunc gf args).run Tryd.prog w = .ok (.enter gf args) w) (hN : N <= 2 ^ 40) (hR : ∀ A, Below w.heap.size w A -> R A) (hRk : ∀ A B, R A -> Below A.heap.size A B -> R B) :
  Calls Tryd.prog 66 #[.func (.func gf) #[] cap] w fun e w' => ∃ (v : Value) (xs : List (Int × Int)), e = .returned v /\ fin xs /\ w'.ownsRow w.heap.size 55 2 v xs.length (bkVs xs) /\ Below w.heap.size w w' := by
 have HC := hidp (appendSeq_c w hseq eg hN hR hRk)
 clear hseq hR hRk
 go_enter Tryd.func66, Tryd.ntmps66
 go_wp2_with fail
 refine HC.out.mono ?_; rintro e w1 ⟨v, xs, rfl, h1, h2, h3⟩
 have H := hidp (And.intro h1 (And.intro h2 h3))
 clear h1 h2 h3
 go_wp2_with fail
 go_ret
 exact ⟨v, xs, rfl, H.out⟩
theorem sortedFunc_c (w : World) (hseq : SeqXs Tryd.prog gf cap encV N fin R) (eg : ∀ args w, (callFunc gf args).run Tryd.prog w = .ok (.enter gf args) w) (hN : N <= 2 ^ 40) (hfl : ∀ xs, fin xs -> xs.length <= N) (hR : ∀ A, Below w.heap.size w A -> R A) (hRk : ∀ A B, R A -> Below A.heap.size A B -> R B) :
  Calls Tryd.prog 30 #[.func (.func gf) #[] cap, .func (.func 32) #[] #[]] w fun e w' => ∃ (v : Value) (xs ys : List (Int × Int)), e = .returned v /\ fin xs /\ ys.Perm xs /\ ys.Pairwise (fun x y => x.1 <= y.1) /\ w'.ownsRow w.heap.size 55 2 v ys.length (bkVs ys) /\ Below w.heap.size w w' := by
 have HC := hidp (collect_c w hseq eg hN hR hRk)
 have HFL := hidp hfl
 clear hseq hR hRk hfl
 go_enter Tryd.func30, Tryd.ntmps30
 go_wp2_with fail
 refine HC.out.mono ?_; rintro e w1 ⟨v, xs, rfl, h1, h2, h3⟩
 have H := hidp (And.intro h1 (And.intro h2 h3))
 have HL := hidp (HFL.out xs h1)
 clear h1 h2 h3
 go_wp2_with fail
 refine (sortB_own (L := xs) (by have := HL.out; omega) H.out.2.1).mono ?_; rintro e w2 ⟨rfl, ys, h4, h5, h6, h7⟩
 have H2 := hidp (And.intro h4 (And.intro h5 (And.intro h6 h7)))
 clear h4 h5 h6 h7
 go_wp2_with fail
 go_ret
 exact ⟨v, xs, ys, rfl, H.out.1, H2.out.1, H2.out.2.1, H2.out.2.2.1, H.out.2.2.grown H2.out.2.2.2 H.out.2.2.size (fun k hk => (H.out.2.1.lt k hk).1)⟩
end
end
end Go.Proofs.YtedakmhffjhfnaaDoor
