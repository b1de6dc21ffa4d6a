/-
  What (*small.hand).pick does: slots are picked, the first one is made live, the others are kept. Written by small/gen_pick.py.
-/
import Derived.Test.YtjjfcaliippgpaaGreatDoorU16
import Derived.Deep.CutRange
import Derived.Deep.RegionWith
import Derived.Test.YtjjfcaliippgpaaGreatDoorU15
import Derived.Test.YtjjfcaliippgpaaGreatDoorU07
namespace Go.Proofs.YtjjfcaliippgpaaGreatDoor
open Go.ChangeShapes Go.WideShapes Go.ChangeAt Go.RowKit Go.Maps
set_option linter.unusedVariables false
set_option linter.unusedSimpArgs false
set_option maxRecDepth 100000
section
section
variable {O : Ob} {w0 ws wS w w' : World} {A Q G : Nat -> Prop} {g b D : Nat} {t q s : Int} {U V : Nat -> Sl} {Z Y : Nat -> List Int} {st s' : Vst}
theorem Mild.cell (h : Mild D w w') {p : Addr} {v : Value} (hc : w.cell? p = some v) : w'.cell? p = some v := by
 unfold World.cell? at hc ⊢
 cases ho : w.heap[p.block]? with
 | none => rw [ho] at hc; cases hc
 | some o =>
  rw [ho] at hc
  have : w'.heap[p.block]? = some o := by
   refine h.cells _ _ ho ?_
   cases o <;> first | rfl | (simp at hc)
  rw [this]
  exact hc
theorem LongsAt.mild {u : Value} {l : List Int} (h : LongsAt w u l) (hm : Mild D w w') : LongsAt w' u l := by
 obtain ⟨A, c, h1, h2, h3, h4, h5, h6⟩ := h
 exact ⟨A, c, h1, h2, h3, h4, h5, fun ad e => ⟨fun hl => Nat.lt_of_lt_of_le ((h6 ad e).1 hl) hm.size, fun i z hi => hm.cell ((h6 ad e).2 i z hi)⟩⟩
theorem Mild.turns {F : Nat -> Prop} (hm : Mild D w w') (h : Turns F wS w) (hD : wS.heap.size <= D) : Turns F wS w' :=
 ⟨hm.os.trans h.os, hm.tape.trans h.tape, hm.output.trans h.output, Nat.le_trans h.size hm.size, fun i hi hf => (hm.low i (by omega)).trans (h.block i hi hf)⟩
theorem Hnd.mild (h : Hnd noOb w0 A Q G ws g b t q s U Z st w) (hm : Mild D w w') (h0 : w0.heap.size <= D) (hs : ws.heap.size <= D) : Hnd noOb w0 A Q G ws g b t q s U Z st w' := by
 obtain ⟨A', h1, h2, h3, h4⟩ := h.p.at_
 refine ⟨⟨⟨A', h1, h2, hm.turns h3 h0, fun i x => ⟨(h4 i x).1, Nat.lt_of_lt_of_le (h4 i x).2.1 hm.size, (h4 i x).2.2⟩⟩, fun k hk => (h.p.pk k hk).mild hm, h.p.old⟩, hm.held h.held, ⟨Nat.le_trans h.stay.1 hm.size, fun i x hl => (hm.low i (by omega)).trans (h.stay.2 i x hl)⟩, h.ng, h.npb⟩
theorem Hnd.regain (h : Hnd O w0 A Q G ws g b t q s U Z st wS) (k : Hnd noOb w0 A Q G wS g b t q s V Y s' w) (ht : Turns (fun i => i = g) wS w) (hn : ∀ i, PB V Y i -> PB U Z i \/ wS.heap.size <= i) : Hnd O w0 A Q G ws g b t q s V Y st w := by
 obtain ⟨A', h1, h2, h3, h4⟩ := h.p.at_
 obtain ⟨_, _, _, k3, k4⟩ := k.p.at_
 have hg := (h4 g (.inl (.inr rfl))).2.2
 refine ⟨⟨⟨A', O.turns h1 ht (fun i hi e => hg (by rw [<- e]; exact hi)), h2, k3, fun i x => ?_⟩, k.p.pk, k.p.old⟩, k.held, h.stay.trans k.stay, k.ng, k.npb⟩
 refine ⟨(k4 i x).1, (k4 i x).2.1, fun y => ?_⟩
 rcases x with x | ⟨x, x0⟩
 ·exact (h4 i (.inl x)).2.2 y
 ·rcases hn i x with h5 | h5
  ·exact (h4 i (.inr ⟨h5, x0⟩)).2.2 y
  ·have := O.lt h1 i y; omega
def ylB (fa : Nat -> Int) (l : List Nat) (pos : Nat) : List Int := (List.range pos).map fun j => fa (l.getD (l.length - 1 - j) 0)
theorem ylB_zero (fa : Nat -> Int) (l : List Nat) : ylB fa l 0 = [] := rfl
theorem ylB_succ (fa : Nat -> Int) (l : List Nat) (pos : Nat) : ylB fa l (pos + 1) = ylB fa l pos ++ [fa (l.getD (l.length - 1 - pos) 0)] := by
 unfold ylB
 rw [List.range_succ, List.map_append]
 rfl
theorem ylB_len (fa : Nat -> Int) (l : List Nat) (pos : Nat) : (ylB fa l pos).length = pos := by unfold ylB; simp
theorem ylB_all (fa : Nat -> Int) (l : List Nat) : ylB fa l (l.length - 1) = (l.drop 1).reverse.map fa := by
 apply List.ext_getElem
 ·simp [ylB]
 ·intro i h1 h2
  have h3 : i < l.length - 1 := by simpa [ylB] using h1
  simp only [ylB, List.getElem_map, List.getElem_range, List.getElem_reverse, List.getElem_drop, List.length_drop]
  congr 1
  rw [show l.getD (l.length - 1 - i) 0 = l[l.length - 1 - i]'(by omega) by simp [List.getD, List.getElem?_eq_getElem (show l.length - 1 - i < l.length by omega)]]
  congr 1
  omega
end
theorem cell_ltP {w : World} {p : Addr} {v : Value} (h : w.cell? p = some v) : p.block < w.heap.size := by
 rcases Nat.lt_or_ge p.block w.heap.size with h1 | h1
 ·exact h1
 ·have h2 : w.heap[p.block]? = none := Array.getElem?_eq_none h1
  unfold World.cell? at h
  rw [h2] at h
  cases h
theorem BackAt.below {B : Option Addr} {m c bx : Nat} {f : Nat -> Int} {w w' : World} (h : BackAt B m c f bx w) (hb : Below w.heap.size w w') : BackAt B m c f bx w' :=
 ⟨(hb.cell (cell_ltP h.1)).trans h.1, fun i hi => by
  obtain ⟨ad, e, hc⟩ := h.2 i hi
  exact ⟨ad, e, (hb.cell (cell_ltP hc)).trans hc⟩⟩
def ad1 (g c : Nat) : Addr := if c = 1 then ⟨g, 0, none⟩ else ⟨g, 1, none⟩
theorem ad1_add {g L c j : Nat} (hL : L <= c) (hj : j < L - 1) : (ad1 g c).add j = ⟨g, 1 + j, none⟩ := by
 unfold ad1
 rw [if_neg (by omega)]
 unfold Addr.add
 by_cases hz : j = 0
 ·rw [if_pos hz, hz]
 ·rw [if_neg hz]
theorem cut1 (g L c : Nat) (h : 1 <= L) (hL : L <= c) (w : World) : (Instr.slice 42 (.slice (some ⟨g, 0, none⟩) L c) (some (.int .i64 1)) none none).run Tryz.prog w = .ok (.slice (some (ad1 g c)) (L - 1) (c - 1)) w := by
 have hu : Tryz.prog.underlying 42 = some (.slice (Tryz.prog.elem 42)) := by kernel_rfl
 have hs : ∀ w, (sizeOf (Tryz.prog.elem 42)).run Tryz.prog w = .ok 1 w := fun w => by kernel_rfl
 rw [run_slice_l (P := Tryz.prog) (w := w) 42 (some ⟨g, 0, none⟩) L c hu .i64 1 (by omega) (by omega), hs]
 have e : (1 : Int).toNat = 1 := rfl
 simp only [Result.andThen, sliced, e, Nat.mul_one]
 congr 2
 unfold ad1
 by_cases h1 : c = 1
 ·subst h1; simp
 ·rw [if_neg h1, if_neg (by omega)]; simp [Addr.add]
def GP (G : Nat -> Prop) (N0 N1 NP : Nat) (g2 : Nat) : Nat -> Prop := fun i => G i \/ i = N0 \/ i = N1 \/ i = NP \/ i = g2

section
variable {base b n : Nat} {wh : Bool} {K : Nat -> Option Nat} {st : Vst} {w w0 : World} {A Q G : Nat -> Prop} {g : Nat} {t q s : Int} {U : Nat -> Sl} {Z : Nat -> List Int}

set_option maxHeartbeats 6400000 in
theorem smPick_none (hn : n < 2 ^ 40) (hq : q <= 1024) (k : Int) (hk0 : -9223372036854775808 <= k) (hk1 : k <= 9223372036854775807) (s2 : Vst) (hx : pickZ n K t q s k 4 st = (none, s2)) (hT : SlotsLaid w0) (hA : ¬ A 0) (h : Hnd (vOb base b n wh K) w0 A Q G w g b t q s U Z st w) :
  Calls Tryz.prog 38 #[.pointer (some ⟨g, 0, none⟩), .int .i64 k] w fun e w' => e = .returned (.tuple #[.int .i64 0, .bool false]) /\ Hnd (vOb base b n wh K) w0 A Q G w g b t q s U Z s2 w' := by
 have HN := hidp (Hnd.more (G' := fun i => G i \/ i = w.heap.size \/ i = (w.heap.size + 1)) h (Bnew (Bnew (B0 w) (.cells #[.pointer (some ⟨g, 0, none⟩)] 81)) (.cells #[.int .i64 k] 3)) (fun i x => by
  rcases x with x | x | x
  ·exact .inl x
  ·exact .inr ⟨by omega, by simp; omega⟩
  ·exact .inr ⟨by omega, by simp; omega⟩))
 have HB0 := hidp ((Held.new w 81 #[.pointer (some ⟨g, 0, none⟩)]).alloc (.cells #[.int .i64 k] 3))
 have HB1 := hidp (Held.new2 w (.cells #[.pointer (some ⟨g, 0, none⟩)] 81) 3 #[.int .i64 k])
 have HPL : Hid (∀ i, PB U Z i -> i < w.heap.size) := hidp (fun i hi => hi.lt h.p.pk)
 have HGL := hidp h.held.lt
 have HTL := hidp hT
 have HNA := hidp hA
 have HX := hidp hx
 clear h hT hA hx
 refine calls_of_wp_mark Tryz.func38 rfl ?_
 simp only [Tryz.ntmps38, List.size_toArray, List.length_cons, List.length_nil, Nat.reduceAdd, Nat.reduceSub, Array.replicate_succ, Array.replicate_zero, List.push_toArray, List.append_toArray, List.nil_append, List.cons_append]
 go_wp2_with fail
 replace HN := hidp HN.out.drew
 replace HB0 := hidp (HB0.out.keep (Bdrew (B0 _)))
 replace HB1 := hidp (HB1.out.keep (Bdrew (B0 _)))
 refine wp_region_held_drew (S := (fun w' => (w'.cell? ⟨w.heap.size, 0, none⟩ = some (.pointer (some ⟨g, 0, none⟩)) /\ w'.cell? ⟨(w.heap.size + 1), 0, none⟩ = some (.int .i64 k)) /\ w'.cell? ⟨g, 0, none⟩ = some (.pointer (some ⟨b, 0, none⟩)) /\ w'.cell? ⟨g, 1, none⟩ = some (.int .i64 t) /\ w'.cell? ⟨g, 2, none⟩ = some (.int .i64 q) /\ w'.cell? ⟨g, 3, none⟩ = some (.int .i64 s))) (by kernel_rfl) ?_ (fun hHeld => ?_)
 ·(try dsimp only)
  first | exact ⟨⟨HB0.out.cell 0, HB1.out.cell 0⟩, HN.out.held.hd4⟩ | exact hHeld
 generalize hwd : World.drew ((w.alloc (.cells #[.pointer (some ⟨g, 0, none⟩)] 81)).alloc (.cells #[.int .i64 k] 3)) = w5 at *
 clear hwd
 refine tkz 0 ?_
 refine tkz 1 ?_
 refine tkz 2 ?_
 refine tkz 3 ?_
 refine tkz 4 ?_
 refine tkz 5 ?_
 refine tkz 6 ?_
 refine tkz 7 ?_
 refine tkz 8 ?_
 refine wpAnyH_ready (rs := [9, 14]) (by kernel_rfl) (by simp) ?_
 refine AllReadyH.cons (o := _) rfl (fun K hK => ?_) (AllReadyH.cons (o := _) rfl (fun K hK => ?_) AllReadyH.nil)
 ·skip
  go_simp
  refine (slPick_c hn hq hk0 hk1 HTL.out HNA.out 4 HN.out.at_).mono ?_
  rintro e w6 ⟨u, rfl, u2, he2, ho, h1, h2⟩
  injection he2 with he2
  subst he2
  rw [HX.out] at ho h1 ⊢
  dsimp only [pickP, pickL, Option.isSome] at ho h1 ⊢
  have HROW := hidp (HN.out.row h1 h2 (fun i hi => (ho.lt i hi).1))
  replace HB0 := hidp (h2.held (.inl (.inl (.inr (.inl rfl)))) HB0.out)
  replace HB1 := hidp (h2.held (.inl (.inl (.inr (.inr rfl)))) HB1.out)
  rw [List.length_nil] at ho
  obtain ⟨A2, c2, hu2⟩ := own_slice ho
  subst hu2
  replace HN := HROW
  clear h1 h2 ho HROW
  refine hK.out _ _ ?_ (fun hHeld => ?_)
  ·(try dsimp only)
   first | exact ⟨⟨HB0.out.cell 0, HB1.out.cell 0⟩, HN.out.held.hd4⟩ | exact hHeld
  clear hK K
  (try simp only [Act.put, gA, gB, gC, sA, sB, sC])
  refine tkz 10 ?_
  refine tkz 11 ?_
  refine tkz 12 ?_
  refine tkz 13 ?_
  refine rdz 14 fun K hK => ?_
  go_simp
  have hb := Bnew (B0 w6) (.cells #[.int .i64 0] 3)
  have HP := hidp (Held.new w6 3 #[.int .i64 0])
  replace HN := hidp (Hnd.more (G' := fun i => GU (fun i => G i \/ i = w.heap.size \/ i = (w.heap.size + 1)) (.slice A2 0 c2) i \/ i = w6.heap.size) HN.out hb (fun i x => by
   rcases x with x | x
   ·exact .inl x
   ·right; subst x; simp))
  have HNP : Hid (w.heap.size + 1 < w6.heap.size) := hidp HB1.out.lt
  replace HB0 := hidp (HB0.out.keep hb)
  replace HB1 := hidp (HB1.out.keep hb)
  generalize hnp : w6.heap.size = NP at *
  generalize hwn : w6.alloc (.cells #[.int .i64 0] 3) = w7 at *
  clear hb hnp hwn
  refine hK.out _ _ ?_ (fun hHeld => ?_)
  ·(try dsimp only)
   first | exact ⟨⟨HB0.out.cell 0, HB1.out.cell 0⟩, HN.out.held.hd4⟩ | exact hHeld
  clear hK K
  (try simp only [Act.put, gA, gB, gC, sA, sB, sC])
  refine rdz 15 fun K hK => ?_
  have z0 := HP.out.cell 0
  have f0 := HP.out.thawed 0
  go_simp
  replace HN := hidp (HN.out.put (i := NP) (.inr rfl) (fun x => by have := HPL.out NP x; have := HNP.out; omega) (by have := HNP.out; omega) 0 (.int .i64 (-1)))
  replace HB0 := hidp (HB0.out.far (p := ⟨NP, 0, none⟩) (by show w.heap.size ≠ NP; have := HNP.out; omega) (.int .i64 (-1)))
  replace HB1 := hidp (HB1.out.far (p := ⟨NP, 0, none⟩) (by show (w.heap.size + 1) ≠ NP; have := HNP.out; omega) (.int .i64 (-1)))
  replace HP := hidp (HP.out.put 0 (.int .i64 (-1)))
  generalize hws : w7.setCell ⟨NP, 0, none⟩ (.int .i64 (-1)) = w8 at *
  clear z0 f0 hws
  refine hK.out _ _ ?_ (fun hHeld => ?_)
  ·(try dsimp only)
   first | exact ⟨⟨HB0.out.cell 0, HB1.out.cell 0⟩, HN.out.held.hd4⟩ | exact hHeld
  clear hK K
  (try simp only [Act.put, gA, gB, gC, sA, sB, sC])
  refine tkz 16 ?_
  refine tkz 17 ?_
  refine dnz ?_
  go_wp2_with fail
  refine mark_none rfl ?_
  go_ret2
  exact ⟨rfl, HN.out.less fun i x => .inl (.inl (.inl x))⟩
 ·skip
  go_simp
  have hb := Bnew (B0 w5) (.cells #[.int .i64 0] 3)
  have HP := hidp (Held.new w5 3 #[.int .i64 0])
  replace HN := hidp (Hnd.more (G' := fun i => (G i \/ i = w.heap.size \/ i = (w.heap.size + 1)) \/ i = w5.heap.size) HN.out hb (fun i x => by
   rcases x with x | x
   ·exact .inl x
   ·right; subst x; simp))
  have HNP : Hid (w.heap.size + 1 < w5.heap.size) := hidp HB1.out.lt
  replace HB0 := hidp (HB0.out.keep hb)
  replace HB1 := hidp (HB1.out.keep hb)
  generalize hnp : w5.heap.size = NP at *
  generalize hwn : w5.alloc (.cells #[.int .i64 0] 3) = w7 at *
  have HLN : Hid (NP < w7.heap.size) := hidp HP.out.lt
  clear hb hnp hwn
  refine hK.out _ _ ?_ (fun hHeld => ?_)
  ·(try dsimp only)
   first | exact ⟨⟨HB0.out.cell 0, HB1.out.cell 0⟩, HN.out.held.hd4⟩ | exact hHeld
  clear hK K
  (try simp only [Act.put, gA, gB, gC, sA, sB, sC])
  refine rdz 9 fun K hK => ?_
  go_simp
  refine (slPick_c hn hq hk0 hk1 HTL.out HNA.out 4 HN.out.at_).mono ?_
  rintro e w6 ⟨u, rfl, u2, he2, ho, h1, h2⟩
  injection he2 with he2
  subst he2
  rw [HX.out] at ho h1 ⊢
  dsimp only [pickP, pickL, Option.isSome] at ho h1 ⊢
  have HROW := hidp (HN.out.row h1 h2 (fun i hi => (ho.lt i hi).1))
  replace HB0 := hidp (h2.held (.inl (.inl (.inl (.inr (.inl rfl))))) HB0.out)
  replace HB1 := hidp (h2.held (.inl (.inl (.inl (.inr (.inr rfl))))) HB1.out)
  replace HP := hidp (h2.held (.inl (.inl (.inr rfl))) HP.out)
  rw [List.length_nil] at ho
  obtain ⟨A2, c2, hu2⟩ := own_slice ho
  subst hu2
  replace HN := HROW
  clear h1 h2 ho HROW
  refine hK.out _ _ ?_ (fun hHeld => ?_)
  ·(try dsimp only)
   first | exact ⟨⟨HB0.out.cell 0, HB1.out.cell 0⟩, HN.out.held.hd4⟩ | exact hHeld
  clear hK K
  (try simp only [Act.put, gA, gB, gC, sA, sB, sC])
  refine tkz 10 ?_
  refine tkz 11 ?_
  refine tkz 12 ?_
  refine tkz 13 ?_
  refine rdz 15 fun K hK => ?_
  have z0 := HP.out.cell 0
  have f0 := HP.out.thawed 0
  go_simp
  replace HN := hidp (HN.out.put (i := NP) (.inl (.inr rfl)) (fun x => by have := HPL.out NP x; have := HNP.out; omega) (by have := HNP.out; omega) 0 (.int .i64 (-1)))
  replace HB0 := hidp (HB0.out.far (p := ⟨NP, 0, none⟩) (by show w.heap.size ≠ NP; have := HNP.out; omega) (.int .i64 (-1)))
  replace HB1 := hidp (HB1.out.far (p := ⟨NP, 0, none⟩) (by show (w.heap.size + 1) ≠ NP; have := HNP.out; omega) (.int .i64 (-1)))
  replace HP := hidp (HP.out.put 0 (.int .i64 (-1)))
  generalize hws : w6.setCell ⟨NP, 0, none⟩ (.int .i64 (-1)) = w8 at *
  clear z0 f0 hws
  refine hK.out _ _ ?_ (fun hHeld => ?_)
  ·(try dsimp only)
   first | exact ⟨⟨HB0.out.cell 0, HB1.out.cell 0⟩, HN.out.held.hd4⟩ | exact hHeld
  clear hK K
  (try simp only [Act.put, gA, gB, gC, sA, sB, sC])
  refine tkz 16 ?_
  refine tkz 17 ?_
  refine dnz ?_
  go_wp2_with fail
  refine mark_none rfl ?_
  go_ret2
  exact ⟨rfl, HN.out.less fun i x => .inl (.inl (.inl x))⟩

end
end
section
section
variable {base b n : Nat} {wh : Bool} {K : Nat -> Option Nat} {st : Vst} {w w0 : World} {A Q G : Nat -> Prop} {g : Nat} {t q s : Int} {U : Nat -> Sl} {Z : Nat -> List Int}
attribute [local go_sem] Oper.semAt_some

set_option maxHeartbeats 6400000 in
theorem smPick_some (hn : n < 2 ^ 40) (hq : q <= 1024) (k : Nat) (hk : k < 9) (s2 : Vst) (p : Nat) (l : List Nat) (hx : pickZ n K t q s (k : Int) 4 st = (some (p, l), s2)) (nl : Nat) (hl : l.length = nl) (hl1 : 1 <= nl) (hl4 : nl <= 4) (hl32 : ∀ i, i < nl -> l.getD i 0 < 32) (hZ : Z k = [])
  (fa : Nat -> Int) (hfa : ∀ i, i < nl -> atI t q s (k : Int) (p : Int) ((l.getD i 0 : Nat) : Int) = fa (l.getD i 0)) (hfb : ∀ i, i < nl -> -9223372036854775808 <= fa (l.getD i 0) /\ fa (l.getD i 0) <= 9223372036854775807) (hT : SlotsLaid w0) (hA : ¬ A 0) (h : Hnd (vOb base b n wh K) w0 A Q G w g b t q s U Z st w) :
  Calls Tryz.prog 38 #[.pointer (some ⟨g, 0, none⟩), .int .i64 (k : Int)] w fun e w' => e = .returned (.tuple #[.int .i64 (fa (l.getD 0 0)), .bool true]) /\ VOk n s2 /\ ∃ V, (∀ i, PB V (updF Z k ((l.drop 1).reverse.map fa)) i -> PB U Z i \/ w.heap.size <= i) /\ Hnd (vOb base b n wh K) w0 A Q G w g b t q s V (updF Z k ((l.drop 1).reverse.map fa)) (putS n (getS n K s2 (pageI t q s (p : Int) 4)) (pageI t q s (p : Int) 4) (getV n K s2 (pageI t q s (p : Int) 4) ||| 2 ^ l.getD 0 0)) w' := by
 have hk0 : -9223372036854775808 <= (k : Int) := by omega
 have hk1 : (k : Int) <= 9223372036854775807 := by omega
 have HN := hidp (Hnd.more (G' := fun i => G i \/ i = w.heap.size \/ i = (w.heap.size + 1)) h (Bnew (Bnew (B0 w) (.cells #[.pointer (some ⟨g, 0, none⟩)] 81)) (.cells #[.int .i64 (k : Int)] 3)) (fun i x => by
  rcases x with x | x | x
  ·exact .inl x
  ·exact .inr ⟨by omega, by simp; omega⟩
  ·exact .inr ⟨by omega, by simp; omega⟩))
 have HB0 := hidp ((Held.new w 81 #[.pointer (some ⟨g, 0, none⟩)]).alloc (.cells #[.int .i64 (k : Int)] 3))
 have HB1 := hidp (Held.new2 w (.cells #[.pointer (some ⟨g, 0, none⟩)] 81) 3 #[.int .i64 (k : Int)])
 have HPL : Hid (∀ i, PB U Z i -> i < w.heap.size) := hidp (fun i hi => hi.lt h.p.pk)
 have HGL := hidp h.held.lt
 have HTL := hidp hT
 have HNA := hidp hA
 have HX := hidp hx
 have HNL := hidp hl
 have HL32 := hidp hl32
 have hl0 : 0 < nl := hl1
 obtain ⟨i0, hi0⟩ : ∃ i0, l.getD 0 0 = i0 := ⟨_, rfl⟩
 have HI0 := hidp hi0
 have HL0 : Hid (i0 < 32) := hidp (by rw [<- hi0]; exact hl32 0 (by omega))
 rw [hi0]
 have HFA := hidp hfa
 have HFB := hidp hfb
 have HZ := hidp hZ
 clear h hT hA hx hl hl32 hfa hfb hZ hi0
 refine calls_of_wp_mark Tryz.func38 rfl ?_
 simp only [Tryz.ntmps38, List.size_toArray, List.length_cons, List.length_nil, Nat.reduceAdd, Nat.reduceSub, Array.replicate_succ, Array.replicate_zero, List.push_toArray, List.append_toArray, List.nil_append, List.cons_append]
 go_wp2_with fail
 go_cut [6, 7, 8] from 13 to 26 (fun u6 u7 u8 wx => ∃ (NP g2 c2 : Nat) (cr : Array Value), u6 = .pointer (some ⟨NP, 0, none⟩) /\ u7 = .slice (some ⟨g2, 0, none⟩) nl c2 /\ u8 = .bool true /\ Hnd (vOb base b n wh K) w0 A Q (GP G w.heap.size (w.heap.size + 1) NP g2) w g b t q s U Z s2 wx /\ Held wx w.heap.size 81 #[.pointer (some ⟨g, 0, none⟩)] /\ Held wx (w.heap.size + 1) 3 #[.int .i64 (k : Int)] /\ Held wx NP 3 #[.int .i64 (p : Int)] /\ Held wx g2 3 cr /\ (∀ (w : World), Held w g2 3 cr -> ∀ i, i < nl -> w.cell? ⟨g2, i, none⟩ = some (.int .i64 ((l.getD i 0 : Nat) : Int))) /\ nl <= c2 /\ c2 <= 9223372036854775807)
 case first =>
  replace HN := hidp HN.out.drew
  replace HB0 := hidp (HB0.out.keep (Bdrew (B0 _)))
  replace HB1 := hidp (HB1.out.keep (Bdrew (B0 _)))
  refine wp_region_held_drew (S := (fun w' => (w'.cell? ⟨w.heap.size, 0, none⟩ = some (.pointer (some ⟨g, 0, none⟩)) /\ w'.cell? ⟨(w.heap.size + 1), 0, none⟩ = some (.int .i64 (k : Int))) /\ w'.cell? ⟨g, 0, none⟩ = some (.pointer (some ⟨b, 0, none⟩)) /\ w'.cell? ⟨g, 1, none⟩ = some (.int .i64 t) /\ w'.cell? ⟨g, 2, none⟩ = some (.int .i64 q) /\ w'.cell? ⟨g, 3, none⟩ = some (.int .i64 s))) (by kernel_rfl) ?_ (fun hHeld => ?_)
  ·(try dsimp only)
   first | exact ⟨⟨HB0.out.cell 0, HB1.out.cell 0⟩, HN.out.held.hd4⟩ | exact hHeld
  generalize hwd : World.drew ((w.alloc (.cells #[.pointer (some ⟨g, 0, none⟩)] 81)).alloc (.cells #[.int .i64 (k : Int)] 3)) = w5 at *
  clear hwd
  have HLW : Hid (w.heap.size + 1 < w5.heap.size) := hidp HB1.out.lt
  refine tkz 0 ?_
  refine tkz 1 ?_
  refine tkz 2 ?_
  refine tkz 3 ?_
  refine tkz 4 ?_
  refine tkz 5 ?_
  refine tkz 6 ?_
  refine tkz 7 ?_
  refine tkz 8 ?_
  refine wpAnyH_ready (rs := [9, 14]) (by kernel_rfl) (by simp) ?_
  refine AllReadyH.cons (o := _) rfl (fun K hK => ?_) (AllReadyH.cons (o := _) rfl (fun K hK => ?_) AllReadyH.nil)
  ·skip
   go_simp
   refine (slPick_c hn hq hk0 hk1 HTL.out HNA.out 4 HN.out.at_).mono ?_
   rintro e w6 ⟨u, rfl, u2, he2, ho, h1, h2⟩
   injection he2 with he2
   subst he2
   rw [HX.out] at ho h1 ⊢
   dsimp only [pickP, pickL, Option.isSome] at ho h1 ⊢
   have HROW := hidp (HN.out.row h1 h2 (fun i hi => (ho.lt i hi).1))
   replace HB0 := hidp (h2.held (.inl (.inl (.inr (.inl rfl)))) HB0.out)
   replace HB1 := hidp (h2.held (.inl (.inl (.inr (.inr rfl)))) HB1.out)
   rw [HNL.out] at ho
   obtain ⟨g2, c2, hu2, _⟩ := ho.form (by omega)
   subst hu2
   obtain ⟨cr, hcr, hcc1, hcc2, hcells⟩ := own_held ho HNL.out
   have HR := hidp hcr
   have HSC := hidp hcells
   clear hcr hcells
   replace HN := HROW
   clear h1 h2 ho HROW
   refine hK.out _ _ ?_ (fun hHeld => ?_)
   ·(try dsimp only)
    first | exact ⟨⟨HB0.out.cell 0, HB1.out.cell 0⟩, HN.out.held.hd4⟩ | exact hHeld
   clear hK K
   (try simp only [Act.put, gA, gB, gC, sA, sB, sC])
   refine tkz 10 ?_
   refine tkz 11 ?_
   refine tkz 12 ?_
   refine tkz 13 ?_
   refine rdz 14 fun K hK => ?_
   go_simp
   have hb := Bnew (B0 w6) (.cells #[.int .i64 0] 3)
   have HP := hidp (Held.new w6 3 #[.int .i64 0])
   replace HN := hidp (Hnd.more (G' := fun i => GU (fun i => G i \/ i = w.heap.size \/ i = (w.heap.size + 1)) (.slice (some ⟨g2, 0, none⟩) nl c2) i \/ i = w6.heap.size) HN.out hb (fun i x => by
    rcases x with x | x
    ·exact .inl x
    ·right; subst x; simp))
   have HNP : Hid (w.heap.size + 1 < w6.heap.size) := hidp HB1.out.lt
   have HEN : Hid (g2 ≠ w6.heap.size) := hidp (by have := HR.out.lt; omega)
   replace HB0 := hidp (HB0.out.keep hb)
   replace HB1 := hidp (HB1.out.keep hb)
   replace HR := hidp (HR.out.keep hb)
   generalize hnp : w6.heap.size = NP at *
   generalize hwn : w6.alloc (.cells #[.int .i64 0] 3) = w7 at *
   clear hb hnp hwn
   refine hK.out _ _ ?_ (fun hHeld => ?_)
   ·(try dsimp only)
    first | exact ⟨⟨HB0.out.cell 0, HB1.out.cell 0⟩, HN.out.held.hd4⟩ | exact hHeld
   clear hK K
   (try simp only [Act.put, gA, gB, gC, sA, sB, sC])
   refine rdz 15 fun K hK => ?_
   have z0 := HP.out.cell 0
   have f0 := HP.out.thawed 0
   go_simp
   replace HN := hidp (HN.out.put (i := NP) (.inr rfl) (fun x => by have := HPL.out NP x; have := HNP.out; omega) (by have := HNP.out; omega) 0 (.int .i64 (p : Int)))
   replace HB0 := hidp (HB0.out.far (p := ⟨NP, 0, none⟩) (by show w.heap.size ≠ NP; have := HNP.out; omega) (.int .i64 (p : Int)))
   replace HB1 := hidp (HB1.out.far (p := ⟨NP, 0, none⟩) (by show (w.heap.size + 1) ≠ NP; have := HNP.out; omega) (.int .i64 (p : Int)))
   replace HR := hidp (HR.out.far (p := ⟨NP, 0, none⟩) (HEN.out) (.int .i64 (p : Int)))
   replace HP := hidp (HP.out.put 0 (.int .i64 (p : Int)))
   generalize hws : w7.setCell ⟨NP, 0, none⟩ (.int .i64 (p : Int)) = w8 at *
   clear z0 f0 hws
   refine hK.out _ _ ?_ (fun hHeld => ?_)
   ·(try dsimp only)
    first | exact ⟨⟨HB0.out.cell 0, HB1.out.cell 0⟩, HN.out.held.hd4⟩ | exact hHeld
   clear hK K
   (try simp only [Act.put, gA, gB, gC, sA, sB, sC])
   refine tkz 16 ?_
   refine tkz 17 ?_
   refine dnz ?_
   have HNF := hidp (HN.out.less (G' := GP G w.heap.size (w.heap.size + 1) NP g2) (fun i x => by
    rcases x with x | x | x | x | x
    ·exact .inl (.inl (.inl x))
    ·exact .inl (.inl (.inr (.inl x)))
    ·exact .inl (.inl (.inr (.inr x)))
    ·exact .inr x
    ·exact .inl (.inr (by rw [x]; rfl))))
   go_wp2_with fail
   go_meet
   case rel => exact ⟨NP, g2, c2, cr, rfl, rfl, rfl, HNF.out, HB0.out, HB1.out, HP.out, HR.out, HSC.out, hcc1, hcc2⟩
  ·skip
   go_simp
   have hb := Bnew (B0 w5) (.cells #[.int .i64 0] 3)
   have HP := hidp (Held.new w5 3 #[.int .i64 0])
   replace HN := hidp (Hnd.more (G' := fun i => (G i \/ i = w.heap.size \/ i = (w.heap.size + 1)) \/ i = w5.heap.size) HN.out hb (fun i x => by
    rcases x with x | x
    ·exact .inl x
    ·right; subst x; simp))
   have HNP : Hid (w.heap.size + 1 < w5.heap.size) := hidp HB1.out.lt
   replace HB0 := hidp (HB0.out.keep hb)
   replace HB1 := hidp (HB1.out.keep hb)
   generalize hnp : w5.heap.size = NP at *
   generalize hwn : w5.alloc (.cells #[.int .i64 0] 3) = w7 at *
   have HLN : Hid (NP < w7.heap.size) := hidp HP.out.lt
   clear hb hnp hwn
   refine hK.out _ _ ?_ (fun hHeld => ?_)
   ·(try dsimp only)
    first | exact ⟨⟨HB0.out.cell 0, HB1.out.cell 0⟩, HN.out.held.hd4⟩ | exact hHeld
   clear hK K
   (try simp only [Act.put, gA, gB, gC, sA, sB, sC])
   refine rdz 9 fun K hK => ?_
   go_simp
   refine (slPick_c hn hq hk0 hk1 HTL.out HNA.out 4 HN.out.at_).mono ?_
   rintro e w6 ⟨u, rfl, u2, he2, ho, h1, h2⟩
   injection he2 with he2
   subst he2
   rw [HX.out] at ho h1 ⊢
   dsimp only [pickP, pickL, Option.isSome] at ho h1 ⊢
   have HROW := hidp (HN.out.row h1 h2 (fun i hi => (ho.lt i hi).1))
   replace HB0 := hidp (h2.held (.inl (.inl (.inl (.inr (.inl rfl))))) HB0.out)
   replace HB1 := hidp (h2.held (.inl (.inl (.inl (.inr (.inr rfl))))) HB1.out)
   replace HP := hidp (h2.held (.inl (.inl (.inr rfl))) HP.out)
   rw [HNL.out] at ho
   obtain ⟨g2, c2, hu2, _⟩ := ho.form (by omega)
   subst hu2
   obtain ⟨cr, hcr, hcc1, hcc2, hcells⟩ := own_held ho HNL.out
   have HR := hidp hcr
   have HSC := hidp hcells
   clear hcr hcells
   replace HN := HROW
   have HEN : Hid (g2 ≠ NP) := hidp (by have h3 := (ho.lt g2 rfl).1; have h4 := HLN.out; omega)
   clear h1 h2 ho HROW
   refine hK.out _ _ ?_ (fun hHeld => ?_)
   ·(try dsimp only)
    first | exact ⟨⟨HB0.out.cell 0, HB1.out.cell 0⟩, HN.out.held.hd4⟩ | exact hHeld
   clear hK K
   (try simp only [Act.put, gA, gB, gC, sA, sB, sC])
   refine tkz 10 ?_
   refine tkz 11 ?_
   refine tkz 12 ?_
   refine tkz 13 ?_
   refine rdz 15 fun K hK => ?_
   have z0 := HP.out.cell 0
   have f0 := HP.out.thawed 0
   go_simp
   replace HN := hidp (HN.out.put (i := NP) (.inl (.inr rfl)) (fun x => by have := HPL.out NP x; have := HNP.out; omega) (by have := HNP.out; omega) 0 (.int .i64 (p : Int)))
   replace HB0 := hidp (HB0.out.far (p := ⟨NP, 0, none⟩) (by show w.heap.size ≠ NP; have := HNP.out; omega) (.int .i64 (p : Int)))
   replace HB1 := hidp (HB1.out.far (p := ⟨NP, 0, none⟩) (by show (w.heap.size + 1) ≠ NP; have := HNP.out; omega) (.int .i64 (p : Int)))
   replace HR := hidp (HR.out.far (p := ⟨NP, 0, none⟩) (HEN.out) (.int .i64 (p : Int)))
   replace HP := hidp (HP.out.put 0 (.int .i64 (p : Int)))
   generalize hws : w6.setCell ⟨NP, 0, none⟩ (.int .i64 (p : Int)) = w8 at *
   clear z0 f0 hws
   refine hK.out _ _ ?_ (fun hHeld => ?_)
   ·(try dsimp only)
    first | exact ⟨⟨HB0.out.cell 0, HB1.out.cell 0⟩, HN.out.held.hd4⟩ | exact hHeld
   clear hK K
   (try simp only [Act.put, gA, gB, gC, sA, sB, sC])
   refine tkz 16 ?_
   refine tkz 17 ?_
   refine dnz ?_
   have HNF := hidp (HN.out.less (G' := GP G w.heap.size (w.heap.size + 1) NP g2) (fun i x => by
    rcases x with x | x | x | x | x
    ·exact .inl (.inl (.inl x))
    ·exact .inl (.inl (.inr (.inl x)))
    ·exact .inl (.inl (.inr (.inr x)))
    ·exact .inl (.inr x)
    ·exact .inr (by rw [x]; rfl)))
   go_wp2_with fail
   go_meet
   case rel => exact ⟨NP, g2, c2, cr, rfl, rfl, rfl, HNF.out, HB0.out, HB1.out, HP.out, HR.out, HSC.out, hcc1, hcc2⟩
 case rest =>
  clear HN HB0 HB1
  obtain ⟨NP, g2, c2, cr, rfl, rfl, rfl, hN, hB0, hB1, hP, hR, hSC, hc1, hc2⟩ := hcut
  have HN := hidp hN
  have HB0 := hidp hB0
  have HB1 := hidp hB1
  have HP := hidp hP
  have HR := hidp hR
  have HSC := hidp hSC
  have HOK : Hid (VOk n s2) := hidp (by obtain ⟨A', ⟨o, hI, _⟩, _⟩ := hN.at_; exact hI.ok)
  have HS0 : Hid (∀ (w : World), Held w g2 3 cr -> w.cell? ⟨g2, 0, none⟩ = some (.int .i64 (i0 : Int))) := hidp (fun w hw => by rw [<- HI0.out]; exact hSC w hw 0 (by omega))
  clear hN hB0 hB1 hP hR hSC
  go_wp2_with fail
  replace HN := hidp HN.out.drew
  replace HB0 := hidp (HB0.out.keep (Bdrew (B0 _)))
  replace HB1 := hidp (HB1.out.keep (Bdrew (B0 _)))
  replace HP := hidp (HP.out.keep (Bdrew (B0 _)))
  replace HR := hidp (HR.out.keep (Bdrew (B0 _)))
  refine wp_region_held_drew (S := (fun w' => w'.cell? ⟨w.heap.size, 0, none⟩ = some (.pointer (some ⟨g, 0, none⟩)) /\ w'.cell? ⟨NP, 0, none⟩ = some (.int .i64 (p : Int)) /\ w'.cell? ⟨g2, 0, none⟩ = some (.int .i64 (i0 : Int)))) (by kernel_rfl) ?_ (fun hHeld => ?_)
  ·(try dsimp only)
   first | exact ⟨HB0.out.cell 0, HP.out.cell 0, HS0.out _ HR.out⟩ | exact hHeld
  refine tkz 0 ?_
  refine tkz 1 ?_
  refine tkz 2 ?_
  refine tkz 3 ?_
  refine tkz 4 ?_
  refine rdz 5 fun K hK => ?_
  go_simp
  refine (smLive_c hn (p : Int) i0 HL0.out HG.hand HN.out.held HN.out.at_).mono ?_
  rintro e w2 ⟨rfl, h1, h2⟩
  replace HB0 := hidp (h2.held (.inl (.inl (.inr (.inl rfl)))) HB0.out)
  replace HB1 := hidp (h2.held (.inl (.inl (.inr (.inr (.inl rfl))))) HB1.out)
  replace HP := hidp (h2.held (.inl (.inl (.inr (.inr (.inr (.inl rfl)))))) HP.out)
  replace HR := hidp (h2.held (.inl (.inl (.inr (.inr (.inr (.inr rfl)))))) HR.out)
  replace HN := hidp (HN.out.call h1 h2)
  clear h1 h2
  refine hK.out _ _ ?_ (fun hHeld => ?_)
  ·(try dsimp only)
   first | exact ⟨HB0.out.cell 0, HP.out.cell 0, HS0.out _ HR.out⟩ | exact hHeld
  clear hK K
  (try simp only [Act.put, gA, gB, gC, sA, sB, sC])
  refine dnz ?_
  have y0 := HB0.out.cell 0
  have y1 := HB1.out.cell 0
  have y2 := HP.out.cell 0
  have y3 := HS0.out _ HR.out
  obtain ⟨x0, x1, x2, x3⟩ := HN.out.held.hd4
  have hcut1 := cut1 g2 nl c2 hl1 hc1
  have had1 := fun j => ad1_add (g := g2) (j := j) hc1
  generalize ad1 g2 c2 = ad1 at *
  have HAD := hidp had1
  clear had1
  obtain ⟨m, hm⟩ : ∃ m, nl - 1 = m := ⟨_, rfl⟩
  obtain ⟨c3, hc3⟩ : ∃ c3, c2 - 1 = c3 := ⟨_, rfl⟩
  rw [hm, hc3] at hcut1
  have HM := hidp hm
  have HC3 := hidp hc3
  clear hm hc3
  go_wp2_with fail
  refine (smBack_c (some ad1) m c3 _).mono ?_
  rintro e w3 ⟨rfl, hw3⟩
  replace HN := hidp (Hnd.more (G' := fun i => GP G w.heap.size (w.heap.size + 1) NP g2 i \/ i = w2.heap.size) HN.out (Bnew (B0 w2) (.cells #[.slice (some ad1) m c3] 42)) (fun i x => by
   rcases x with x | x
   ·exact .inl x
   ·right; subst x; simp))
  have HBX := hidp (Held.new w2 42 #[.slice (some ad1) m c3])
  replace HB0 := hidp (HB0.out.keep (Bnew (B0 w2) (.cells #[.slice (some ad1) m c3] 42)))
  replace HB1 := hidp (HB1.out.keep (Bnew (B0 w2) (.cells #[.slice (some ad1) m c3] 42)))
  replace HP := hidp (HP.out.keep (Bnew (B0 w2) (.cells #[.slice (some ad1) m c3] 42)))
  replace HR := hidp (HR.out.keep (Bnew (B0 w2) (.cells #[.slice (some ad1) m c3] 42)))
  rw [<- hw3] at HN HBX HB0 HB1 HP HR
  generalize hnb : w2.heap.size = NB at *
  clear hw3 hnb y0 y1 y2 y3 x0 x1 x2 x3 hcut1
  have HR0 : Hid (BackAt (some ad1) m c3 (fun i => ((l.getD (i + 1) 0 : Nat) : Int)) NB w3) := hidp ⟨HBX.out.cell 0, fun i hi => ⟨ad1, rfl, by
   have h1 := HM.out
   rw [HAD.out i (by omega), HSC.out _ HR.out (1 + i) (by omega), Nat.add_comm 1 i]⟩⟩
  have HW0 : Hid (w0.heap.size <= w3.heap.size) := hidp HN.out.at_.size
  have HWW : Hid (w.heap.size <= w3.heap.size) := hidp HN.out.stay.1
  have HNF := hidp HN.out.forget.begin_
  have hfu : updF Z k (ylB fa l 0) = Z := by
   funext j
   by_cases e : j = k
   ·subst e; rw [updF_same, ylB_zero, HZ.out]
   ·rw [updF_other _ _ e]
  go_wp2_with fail
  refine wp_seq_cap (gf := 116) (cap := #[.pointer (some ⟨NB, 0, none⟩)]) (enc := encB m (fun i => ((l.getD (i + 1) 0 : Nat) : Int))) (can := canB m) (next := (· + 1)) (R := BackAt (some ad1) m c3 (fun i => ((l.getD (i + 1) 0 : Nat) : Int)) NB) rfl (enters_of Tryz.func116 (by kernel_rfl) rfl) (backward_seq (some ad1) m c3 (by have := HM.out; have := HC3.out; omega) (by have := HC3.out; unfold maxLen; omega) _ NB) HR0.out (fun A B h hb => h.below hb) (fun _ => rfl)
   (fun pos F B => F = (fun i => i = g) /\ pos <= m /\ Turns (fun i => i = g) w3 B /\ ∃ V, Hnd noOb w0 A Q (fun i => GP G w.heap.size (w.heap.size + 1) NP g2 i \/ i = NB) w3 g b t q s V (updF Z k (ylB fa l pos)) freshS B /\ ∀ i, PB V (updF Z k (ylB fa l pos)) i -> PB U Z i \/ w3.heap.size <= i)
   (fun _ _ => False) ?hI ?hIx ?hIR ?hIF (F0 := fun i => i = g) ⟨rfl, Nat.zero_le _, T0 _ _, U, by rw [hfu]; exact HNF.out, fun i hi => by rw [hfu] at hi; exact .inl hi⟩ ?round ?done ?stop
  case hI => rintro pos F B B' ⟨h1, h2, h3, V, h4, h5⟩ hm; exact ⟨h1, h2, hm.turns h3 (Nat.le_refl _), V, h4.mild hm HW0.out (Nat.le_refl _), h5⟩
  case hIx => rintro c B B' h hm; exact h
  case hIR =>
   rintro pos F B ⟨h1, h2, h3, V, h4, h5⟩
   refine ⟨(h4.stay.held (.inr rfl) HBX.out).cell 0, fun i hi => ⟨ad1, rfl, ?_⟩⟩
   have h6 := HM.out
   rw [HAD.out i (by omega), HSC.out _ (h4.stay.held (.inl (.inr (.inr (.inr (.inr rfl))))) HR.out) (1 + i) (by omega), Nat.add_comm 1 i]
  case hIF => rintro pos F B ⟨rfl, h2, h3, V, h4, h5⟩ i hi; rw [hi]; exact ⟨_, h4.held, rfl⟩
  case stop => rintro D c B hD h hk; exact h.elim
  case round =>
   rintro l' pos F B hc ⟨rfl, hpos, hT, V, hN, hV⟩ hsz
   have hlt : pos < m := of_decide_eq_true hc
   obtain ⟨j, hj⟩ : ∃ j, l.getD (l.length - 1 - pos) 0 = j := ⟨_, rfl⟩
   have he : (fun i => ((l.getD (i + 1) 0 : Nat) : Int)) (m - 1 - pos) = (j : Int) := by
    rw [<- hj]
    have h1 := HM.out
    have h2 := HNL.out
    show ((l.getD (m - 1 - pos + 1) 0 : Nat) : Int) = _
    rw [show m - 1 - pos + 1 = l.length - 1 - pos by omega]
   have hfj := HFA.out (l.length - 1 - pos) (by have := HNL.out; omega)
   have hbj := HFB.out (l.length - 1 - pos) (by have := HNL.out; omega)
   rw [hj] at hfj hbj
   unfold encB
   rw [he]
   gi_wp2_with fail
   refine ⟨B0 _, fun A2 hM hs => ?_⟩
   have HNr := hidp (hN.mild hM HW0.out (Nat.le_refl _))
   have HTr := hidp (hM.turns hT (Nat.le_refl _))
   have HVr := hidp hV
   have HYS := hidp (ylB_succ fa l pos)
   rw [hj] at HYS
   have b0 := (HNr.out.stay.held (.inl (.inr (.inl rfl))) HB0.out).cell 0
   have b1 := (HNr.out.stay.held (.inl (.inr (.inr (.inl rfl)))) HB1.out).cell 0
   have b2 := (HNr.out.stay.held (.inl (.inr (.inr (.inr (.inl rfl))))) HP.out).cell 0
   have h3 : ((updF Z k (ylB fa l pos)) k).length <= 3 := by rw [updF_same, ylB_len]; have := HM.out; omega
   have hu : updF (updF Z k (ylB fa l pos)) k ((updF Z k (ylB fa l pos)) k ++ [fa j]) = updF Z k (ylB fa l (pos + 1)) := by
    rw [HYS.out, updF_same]
    funext x
    by_cases e : x = k
    ·subst e; rw [updF_same, updF_same]
    ·rw [updF_other _ _ e, updF_other _ _ e, updF_other _ _ e]
   have HU := hidp hu
   have HSZ := hidp (hM.turns hT (Nat.le_refl _)).size
   clear hN hT hV hM hs hsz hc hj he HN HNF hfu hu
   gi_wp2_with (first
    | (refine ⟨trivial, rfl, ?_⟩; gi_at_call 62; refine (calls_in (smKeep_yes k hk (p : Int) (j : Int) (fa j) hfj hbj h3 (HTL.out.at_ HNA.out HNr.out.at_) HNr.out.begin_)).mono ?_; rintro e w4 ⟨rfl, x, hx, ht, hn4⟩; have HX4 := hidp hx; have HT4 := hidp ht; have HN4 := hidp (HNr.out.then_ hn4); clear hx ht hn4)
    | fail)
   refine ⟨HT4.out, _, ⟨rfl, by omega, HTr.out.trans HT4.out, updF V k x, by rw [<- HU.out]; exact HN4.out, fun i hi => ?_⟩, fun i hi => .inl hi⟩
   rw [<- HU.out] at hi
   rcases hi.turn_new (w := A2) HX4.out with h1 | h1
   ·exact HVr.out i h1
   ·exact .inr (Nat.le_trans HSZ.out h1)
  case done =>
   rintro D pos F B hD hc ⟨rfl, hpos, hT, V, hN, hV⟩ hkD
   have hpm : pos = m := by have := of_decide_eq_false hc; omega
   subst hpm
   have HY : Hid (updF Z k (ylB fa l pos) = updF Z k ((l.drop 1).reverse.map fa)) := hidp (by
    have h1 := HM.out
    have h2 := HNL.out
    rw [<- ylB_all, show l.length - 1 = pos by omega])
   rw [HY.out] at hN hV
   replace HB0 := hidp (hN.stay.held (.inl (.inr (.inl rfl))) HB0.out)
   replace HB1 := hidp (hN.stay.held (.inl (.inr (.inr (.inl rfl)))) HB1.out)
   replace HP := hidp (hN.stay.held (.inl (.inr (.inr (.inr (.inl rfl))))) HP.out)
   replace HR := hidp (hN.stay.held (.inl (.inr (.inr (.inr (.inr rfl))))) HR.out)
   have HND := hidp hN
   have HTD := hidp hT
   have HVD := hidp hV
   have HKD := hidp hkD
   have HDD := hidp hD
   have HFI : Hid (atI t q s (k : Int) (p : Int) (i0 : Int) = fa i0) := hidp (by rw [<- HI0.out]; exact HFA.out 0 (by omega))
   clear hN hT hV hkD hc hD hpos HNF hfu HY HR0 HBX
   go_wp2_with fail
   replace HND := hidp HND.out.drew
   replace HTD := hidp HTD.out.drew
   replace HB0 := hidp (HB0.out.keep (Bdrew (B0 _)))
   replace HB1 := hidp (HB1.out.keep (Bdrew (B0 _)))
   replace HP := hidp (HP.out.keep (Bdrew (B0 _)))
   replace HR := hidp (HR.out.keep (Bdrew (B0 _)))
   replace HKD : Hid (B.drew.heap[D]? = some (.deferred (some []))) := hidp HKD.out
   refine wp_region_held_drew (S := (fun w' => (w'.cell? ⟨w.heap.size, 0, none⟩ = some (.pointer (some ⟨g, 0, none⟩)) /\ w'.cell? ⟨(w.heap.size + 1), 0, none⟩ = some (.int .i64 (k : Int)) /\ w'.cell? ⟨NP, 0, none⟩ = some (.int .i64 (p : Int)) /\ w'.cell? ⟨g2, 0, none⟩ = some (.int .i64 (i0 : Int))) /\ w'.cell? ⟨g, 0, none⟩ = some (.pointer (some ⟨b, 0, none⟩)) /\ w'.cell? ⟨g, 1, none⟩ = some (.int .i64 t) /\ w'.cell? ⟨g, 2, none⟩ = some (.int .i64 q) /\ w'.cell? ⟨g, 3, none⟩ = some (.int .i64 s))) (by kernel_rfl) ?_ (fun hHeld => ?_)
   ·(try dsimp only)
    first | exact ⟨⟨HB0.out.cell 0, HB1.out.cell 0, HP.out.cell 0, HS0.out _ HR.out⟩, HND.out.held.hd4⟩ | exact hHeld
   refine tkz 0 ?_
   refine tkz 1 ?_
   refine tkz 2 ?_
   refine tkz 3 ?_
   refine tkz 4 ?_
   refine tkz 5 ?_
   refine tkz 6 ?_
   refine tkz 7 ?_
   refine tkz 8 ?_
   refine rdz 9 fun K hK => ?_
   go_simp
   refine (adAt_c t q s (k : Int) (p : Int) (i0 : Int) hk0 hk1 _ (HTL.out.at_ HNA.out HND.out.at_)).mono ?_
   rintro e w5 ⟨rfl, hb⟩
   rw [HFI.out]
   replace HND := hidp (HND.out.keep hb)
   replace HTD := hidp (HTD.out.trans (Turns.of_below hb _))
   replace HB0 := hidp (HB0.out.keep hb)
   replace HB1 := hidp (HB1.out.keep hb)
   replace HP := hidp (HP.out.keep hb)
   replace HR := hidp (HR.out.keep hb)
   replace HKD := hidp ((hb.block D (Array.getElem?_eq_some_iff.1 HKD.out).1).trans HKD.out)
   clear hb
   refine hK.out _ _ ?_ (fun hHeld => ?_)
   ·(try dsimp only)
    first | exact ⟨⟨HB0.out.cell 0, HB1.out.cell 0, HP.out.cell 0, HS0.out _ HR.out⟩, HND.out.held.hd4⟩ | exact hHeld
   clear hK K
   (try simp only [Act.put, gA, gB, gC, sA, sB, sC])
   refine tkz 10 ?_
   refine tkz 11 ?_
   refine tkz 12 ?_
   refine tkz 13 ?_
   refine tkz 14 ?_
   refine dnz ?_
   go_wp2_with fail
   refine mark_end rfl HKD.out ?_
   have hM := Mild.put (D := w3.heap.size) (.deferred none) HDD.out HKD.out rfl
   refine bodyPost_ret (v := .tuple #[.int .i64 (fa i0), .bool true]) (by simp [results, Tryz.results38, go_sem]) rfl ⟨rfl, HOK.out, V, fun i hi => ?_, ?_⟩
   ·rcases HVD.out i hi with h1 | h1
    ·exact .inl h1
    ·exact .inr (Nat.le_trans HWW.out h1)
   ·exact (HN.out.regain (HND.out.mild hM HW0.out (Nat.le_refl _)) (hM.turns HTD.out (Nat.le_refl _)) HVD.out).less fun i x => .inl (.inl x)

end
end
end Go.Proofs.YtjjfcaliippgpaaGreatDoor

namespace Go.Proofs.YtjjfcaliippgpaaGreatDoor
open Go.ChangeShapes Go.WideShapes Go.ChangeAt Go.RowKit Go.Maps
set_option linter.unusedVariables false
set_option linter.unusedSimpArgs false
section
def szH (H : AuH) (k : Nat) : Int := (sizeN (H.s : Int) (k : Int) : Int)
section
variable {H H' : AuH} {n c c' : Nat} {L L' : Nat -> List Nat} {T t0 k p i : Nat} {Z : Nat -> Nat -> List Int} {a : Int} {l : List Int}
theorem mem_haveT {a : Int} {t : Nat} (ha : a ∈ Z t k) : ∀ {T : Nat}, t < T -> a ∈ haveT Z k T
 | 0, h => absurd h (Nat.not_lt_zero _)
 | T + 1, h => by
  unfold haveT
  rw [List.mem_append]
  by_cases e : t = T
  ·subst e; exact .inr ha
  ·exact .inl (mem_haveT ha (by omega))
theorem fits_hand (HV : HeapV H n c) (F : FitsP H.parts (szH H) T Z) (ht : t0 < T) (hk : k < 9) (ha : a ∈ Z t0 k) : ∃ q i, H.hand q i /\ H.Cl q = (k : Int) /\ H.slotA q i = a := by
 have h1 := (F.perm k hk).mem_iff.1 (mem_haveT ha ht)
 obtain ⟨q, i, hh, hz, e⟩ := mem_pkA.1 h1
 refine ⟨q, i, hh, ?_, e⟩
 have h8 : 0 <= H.Cl q /\ H.Cl q <= 8 := by have := H.K_cases q; have := hh.2.1; omega
 have hs := HV.nums
 refine sizeN_inj (s := (H.s : Int)) (by omega) h8 (by omega) ?_
 have : ((H.zs q : Nat) : Int) = ((sizeN (H.s : Int) (k : Int) : Nat) : Int) := hz
 unfold AuH.zs at this
 omega
end
section
variable {H : AuH} {n c c' : Nat} {K : Nat -> Option Nat} {st : Vst} {L L' : Nat -> List Nat} {T t0 k p i : Nat} {Z : Nat -> Nat -> List Int} {l : List Int}
end
end
section
section
variable {H : AuH} {n c : Nat} {q i : Nat}
structure SlotAt (H : AuH) (q i : Nat) : Prop where
 spot : spotB H.t H.p H.s (H.slotA q i) = true
 page : spotP H.t H.p H.s (H.slotA q i) = q
 off : spotO H.t H.p H.s (H.slotA q i) = ((i * H.zs q : Nat) : Int)
 isB : slotB H.t H.p H.s (H.Cl q) (spotO H.t H.p H.s (H.slotA q i)) = true
 slot : slotR H.t H.p H.s (H.Cl q) (spotO H.t H.p H.s (H.slotA q i)) = i
 atB_ : atB H.t H.p H.s (H.Cl q) q i = true
 atI_ : atI H.t H.p H.s (H.Cl q) q i = H.slotA q i
 low : 1024 <= H.slotA q i
theorem slotA_at (HV : HeapV H n c) (hq : q < H.p) (hk : H.K q = 3) (hi : i < slotI (H.Cl q)) : SlotAt H q i := by
 obtain ⟨z1, z2⟩ := slot_room HV hk hi
 have ho : i * H.zs q < H.pg := by omega
 have e : H.slotA q i = H.first q + ((i * H.zs q : Nat) : Int) := by unfold AuH.slotA; push_cast; rfl
 obtain ⟨g1, g2, g3⟩ := AuH.spot_at HV hq ho
 obtain ⟨a1, a2⟩ := AuH.addr_at HV hq ho
 have hcast : ((i * H.zs q : Nat) : Int) = (i : Int) * (sizeN (H.s : Int) (H.Cl q) : Int) := by push_cast; rfl
 have hsl := slot_at (t := H.t) (p := H.p) (s := H.s) (k := H.Cl q) HV.right i hi (o := ((i * H.zs q : Nat) : Int)) hcast
 have hat := at_in (t := H.t) (p := H.p) (s := H.s) (k := H.Cl q) (i := (q : Int)) (j := (i : Int)) ⟨by omega, by omega⟩
 rw [<- hcast, a1, a2] at hat
 rw [<- e] at g1 g2 g3 hat
 have hf := first_eq HV hq
 exact ⟨g1, g2, g3, by rw [g3]; exact hsl.1, by rw [g3]; exact hsl.2, hat.1, hat.2, by rw [e]; omega⟩
theorem hand_at (HV : HeapV H n c) (hh : H.hand q i) : SlotAt H q i := slotA_at HV hh.1 hh.2.1 hh.2.2.1
end
end
section
section
variable (n : Nat) (K : Nat -> Option Nat) (t q s : Int)
def allocI (k : Int) (l : List Int) (st : Vst) : Option (Int × List Int) × Vst :=
 if k < 0 \/ 8 < k then (none, st)
 else match l.getLast? with
  | some a => (some (a, l.dropLast), onS n K t q s (spotP t q s a).toNat (slotR t q s k (spotO t q s a)).toNat st)
  | none => match (pickI n K t q s k 4 st).1 with
   | some (p, m) => (some (atI t q s k (p : Int) ((m.getD 0 0 : Nat) : Int), (m.drop 1).reverse.map fun (i : Nat) => atI t q s k (p : Int) (i : Int)), onS n K t q s p (m.getD 0 0) (pickI n K t q s k 4 st).2)
   | none => (none, (pickI n K t q s k 4 st).2)
end
section
variable {H : AuH} {n c : Nat} {K : Nat -> Option Nat} {st st1 : Vst} {L L' : Nat -> List Nat} {T t0 k p i : Nat} {Z : Nat -> Nat -> List Int} {a : Int} {l : List Int}
end
end
end Go.Proofs.YtjjfcaliippgpaaGreatDoor
