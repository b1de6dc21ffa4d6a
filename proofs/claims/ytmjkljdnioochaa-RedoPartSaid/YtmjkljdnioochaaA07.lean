/-
  The law RedoPart: the walk. Written by redo/gen_part.py.
-/
import Derived.Test.YtmjkljdnioochaaA06
namespace Go.Proofs.Ytmjkljdnioochaa
open Go.ChangeShapes Go.WideShapes Go.ChangeAt Go.RowKit Go.Maps
set_option linter.unusedVariables false
set_option linter.unusedSimpArgs false
set_option maxRecDepth 100000
section
def BoolsAt (w : World) (A : Option Addr) (l : List Bool) : Prop := ∀ i b, l[i]? = some b -> ∃ ad, A = some ad /\ ad.block < w.heap.size /\ w.cell? (ad.add i) = some (.bool b)
theorem BoolsAt.below {w w' : World} {A : Option Addr} {l : List Bool} (h : BoolsAt w A l) (hb : Below w.heap.size w w') : BoolsAt w' A l := fun i b hi => by
 obtain ⟨ad, e, h1, h2⟩ := h i b hi
 exact ⟨ad, e, Nat.lt_of_lt_of_le h1 hb.size, (hb.cell (by rw [block_of_add]; exact h1)).trans h2⟩
section
variable {H : Type} {enc : TypeId × Value -> H} {w : World} {base : Nat} {sp : Nat -> Bool} {held : Bool}
theorem open_bools {r : Reach} {b0 : Nat} {v : Value} {d : DataW H} {p : List MemPlace} (hv : Value.okWide Try.prog w r b0 40 v) (h : DataW.Trod enc Try.prog w base sp held 40 v d p) (hlt : ∀ x ∈ p, x.block < w.heap.size) :
  ∃ (A : Option Addr) (c : Nat) (l : List Bool), v = .slice A l.length c /\ l.length <= c /\ c <= maxLen /\ BoolsAt w A l := by
 obtain ⟨fuel, hf⟩ := h
 have hvc : v.cells = #[v] := by
  obtain ⟨A, n, c, rfl⟩ := okWide_slice Try.underlying40 hv
  rfl
 rw [hvc] at hf
 have hc : Try.prog.cellsOf 4 = 1 := by kernel_rfl
 rcases Go.Deep.open_slice Try.underlying40 hf with ⟨hcs, _⟩ | ⟨a, len, cap, m, n, D, Pl, hcs, hb, hl, hm, hmm, hx, hi⟩
 ·injection hcs with hcs
  exact ⟨none, 0, [], hcs, Nat.le_refl _, Nat.zero_le _, fun i a h => by simp at h⟩
 ·injection hcs with hcs
  have hlm : len <= m := by rw [hmm]; split <;> omega
  have each : ∀ i, i < len -> ∃ q : Bool, w.cell? (a.add i) = some (.bool q) := by
   intro i hil
   obtain ⟨cs', h1, h2⟩ := hi i (by omega)
   obtain ⟨q, rfl, _⟩ := DataW.trod_bool Try.underlying4 h2
   rw [hc] at h1
   obtain ⟨_, hlen, hcell⟩ := World.cells?_some h1
   refine ⟨q, ?_⟩
   have h4 := hcell 0 (by omega)
   rw [add_of_add] at h4
   simpa using h4
  obtain ⟨q, hq⟩ := Go.Deep.choose_lt (α := Bool) (p := fun i q => w.cell? (a.add i) = some (.bool q)) each
  have hln : ((List.range len).map q).length = len := by simp
  refine ⟨some a, cap, (List.range len).map q, by rw [hln]; exact hcs, by rw [hln]; exact hl, hm, ?_⟩
  intro i y hy
  have hil : i < len := by
   rcases Nat.lt_or_ge i len with h3 | h3
   ·exact h3
   ·rw [List.getElem?_eq_none (by simp; omega)] at hy; cases hy
  rw [List.getElem?_map, List.getElem?_range hil] at hy
  injection hy with hy
  subst hy
  refine ⟨a, rfl, ?_, hq i hil⟩
  have hp : (p : List MemPlace) = MemPlace.row a (m * 1) ++ (List.range m).flatMap Pl := by
   have := congrArg Prod.snd hx
   rw [hc] at this
   exact this
  have h0 : (MemPlace.row a (m * 1))[0]'(by simp [MemPlace.row]; omega) ∈ p := by
   rw [hp]
   exact List.mem_append_left _ (List.getElem_mem _)
  have h1 := hlt _ h0
  simpa [MemPlace.row, MemPlace.block] using h1
end
theorem RedoPart_many (t p s : Int) (A A2 : Option Addr) (m c k c2 : Nat) (h : 3000 < m) (W : World) : Calls Try.prog 4 #[.agg #[.int .i64 t, .int .i64 p, .int .i64 s], .slice A m c, .slice A2 k c2] W (Keeps W) := by
 have q1 : decide ((3000 : Int) < (m : Int)) = true := decide_eq_true (by omega)
 have q1n : decide (3000 < m) = true := decide_eq_true h
 have HC := hidp (Held.new W 23 #[.int .i64 t, .int .i64 p, .int .i64 s])
 have HB := hidp (Bnew (B0 W) (.cells #[.int .i64 t, .int .i64 p, .int .i64 s] 23))
 obtain ⟨x0, x1, x2⟩ := HC.out.three
 go_enter Try.func4, Try.ntmps4
 go_wp2_with fail
 refine (live27_c _).mono ?_
 rintro e w19 ⟨rfl, hb⟩
 replace HB := hidp (Bgo HB.out hb)
 clear hb
 go_wp2
 go_ret
 exact ⟨rfl, HB.out⟩
set_option maxHeartbeats 3200000 in
theorem RedoPart_none (t p s : Int) (A A2 : Option Addr) (m c k c2 n : Nat) (f : Nat -> Nat) (h : m <= 3000) (W : World)
  (HS : Hid (∀ w, WV w A m c f -> Calls Try.prog 14 #[.agg #[.int .i64 t, .int .i64 p, .int .i64 s], .slice A m c] w fun e w' => outV none n e w' /\ Below w.heap.size w w'))
  (HT : Hid (∀ w, WV w A m c f -> Calls Try.prog 15 #[.agg #[.int .i64 t, .int .i64 p, .int .i64 s], .slice A m c] w fun e w' => outW none m e w' /\ Below w.heap.size w w'))
  (hW : WV W A m c f) : Calls Try.prog 4 #[.agg #[.int .i64 t, .int .i64 p, .int .i64 s], .slice A m c, .slice A2 k c2] W (Keeps W) := by
 have q1 : decide ((3000 : Int) < (m : Int)) = false := decide_eq_false (by omega)
 have q1n : decide (3000 < m) = false := decide_eq_false (by omega)
 have HW := hidp (hW.below (Bnew (B0 W) (.cells #[.int .i64 t, .int .i64 p, .int .i64 s] 23)))
 clear hW
 have HC := hidp (Held.new W 23 #[.int .i64 t, .int .i64 p, .int .i64 s])
 have HB := hidp (Bnew (B0 W) (.cells #[.int .i64 t, .int .i64 p, .int .i64 s] 23))
 obtain ⟨x0, x1, x2⟩ := HC.out.three
 go_enter Try.func4, Try.ntmps4
 go_wp2_with fail
 refine (HS.out _ HW.out).mono ?_
 rintro e w1 ⟨⟨A3, c3, rfl⟩, hb⟩
 replace HC := hidp (HC.out.keep hb)
 replace HW := hidp (HW.out.below hb)
 replace HB := hidp (Bgo HB.out hb)
 clear hb
 clear x0 x1 x2
 obtain ⟨x0, x1, x2⟩ := HC.out.three
 go_wp2_with fail
 refine (HT.out _ HW.out).mono ?_
 rintro e w2 ⟨⟨A4, c4, rfl⟩, hb⟩
 replace HC := hidp (HC.out.keep hb)
 replace HW := hidp (HW.out.below hb)
 replace HB := hidp (Bgo HB.out hb)
 clear hb
 clear x0 x1 x2
 obtain ⟨x0, x1, x2⟩ := HC.out.three
 go_wp2_with fail
 refine (live27_c _).mono ?_
 rintro e w19 ⟨rfl, hb⟩
 replace HB := hidp (Bgo HB.out hb)
 clear hb
 go_wp2
 go_ret
 exact ⟨rfl, HB.out⟩
set_option maxHeartbeats 6400000 in
theorem RedoPart_some (t p s n : Nat) (A A2 : Option Addr) (m c k c2 : Nat) (f x : Nat -> Nat) (l : List Bool) (hm : m <= 3000) (hm0 : 0 < m) (hl : l.length = k) (hkc : k <= c2) (hc2 : c2 <= maxLen) (hnm : 16 + n <= m) (hn : rdN t p = n) (HXX : Hid (tidyR t p f = some x)) (HF64 : Hid (∀ i, f i < 2 ^ 64)) (HNC : Hid (lC (t : Int) (p : Int) (s : Int) = (n : Int))) (W : World)
  (HS2 : Hid (∀ (w : World) {A : Option Addr} {c : Nat} (h : Nat -> Nat), tidyR t p h = some x -> WV w A m c h -> Calls Try.prog 14 #[.agg #[.int .i64 (t : Int), .int .i64 (p : Int), .int .i64 (s : Int)], .slice A m c] w fun e w' => outV (some x) n e w' /\ Below w.heap.size w w'))
  (HT2 : Hid (∀ (w : World) {A : Option Addr} {c : Nat} (h : Nat -> Nat), tidyR t p h = some x -> WV w A m c h -> Calls Try.prog 15 #[.agg #[.int .i64 (t : Int), .int .i64 (p : Int), .int .i64 (s : Int)], .slice A m c] w fun e w' => outW (some x) m e w' /\ Below w.heap.size w w'))
  (hW : WV W A m c f) (HBL : Hid (BoolsAt W A2 l)) : Calls Try.prog 4 #[.agg #[.int .i64 (t : Int), .int .i64 (p : Int), .int .i64 (s : Int)], .slice A m c, .slice A2 k c2] W (Keeps W) := by
 have q1 : decide ((3000 : Int) < (m : Int)) = false := decide_eq_false (by omega)
 have q1n : decide (3000 < m) = false := decide_eq_false (by omega)
 have q2 : ((m : Int) != (m : Int)) = false := by simp
 have q3 : ((n : Int) != (n : Int)) = false := by simp
 have HX64 : Hid (∀ i, x i < 2 ^ 64) := hidp (tidyR_lt HXX.out HF64.out)
 have HLK := hidp hl
 have hcc2 : c2 <= 9223372036854775807 := hc2
 have hcc : c <= 9223372036854775807 := hW.max
 have hmc : m <= c := hW.le
 have HW := hidp (hW.below (Bnew (B0 W) (.cells #[.int .i64 (t : Int), .int .i64 (p : Int), .int .i64 (s : Int)] 23)))
 subst hn
 obtain ⟨n, hn⟩ : ∃ n, rdN t p = n := ⟨_, rfl⟩
 rw [hn] at hnm HNC HS2 q3
 have HRN := hidp hn
 clear hW hl hn
 have HC := hidp (Held.new W 23 #[.int .i64 (t : Int), .int .i64 (p : Int), .int .i64 (s : Int)])
 have HB := hidp (Bnew (B0 W) (.cells #[.int .i64 (t : Int), .int .i64 (p : Int), .int .i64 (s : Int)] 23))
 obtain ⟨x0, x1, x2⟩ := HC.out.three
 go_enter Try.func4, Try.ntmps4
 go_wp2_with fail
 refine (HS2.out _ f HXX.out HW.out).mono ?_
 rintro e w1 ⟨⟨A3, c3, rfl, hsv⟩, hb⟩
 have HV1 := hidp hsv
 replace HC := hidp (HC.out.keep hb)
 replace HW := hidp (HW.out.below hb)
 replace HB := hidp (Bgo HB.out hb)
 clear hb hsv
 clear x0 x1 x2
 obtain ⟨x0, x1, x2⟩ := HC.out.three
 go_wp2_with fail
 refine (HT2.out _ f HXX.out HW.out).mono ?_
 rintro e w2 ⟨⟨A4, c4, rfl, hwv⟩, hb⟩
 have HX1 := hidp hwv
 replace HC := hidp (HC.out.keep hb)
 replace HW := hidp (HW.out.below hb)
 replace HV1 := hidp (HV1.out.below hb)
 replace HB := hidp (Bgo HB.out hb)
 clear hb hwv
 clear x0 x1 x2
 obtain ⟨x0, x1, x2⟩ := HC.out.three
 have h3c := HV1.out.le
 have h3m : c3 <= 9223372036854775807 := HV1.out.max
 have h4c := HX1.out.le
 have h4m : c4 <= 9223372036854775807 := HX1.out.max
 go_wp2_with fail
 refine (r7Cells_c t p s _).mono ?_
 rintro e w3 ⟨rfl, hb⟩
 rw [HNC.out]
 replace HC := hidp (HC.out.keep hb)
 replace HW := hidp (HW.out.below hb)
 replace HV1 := hidp (HV1.out.below hb)
 replace HX1 := hidp (HX1.out.below hb)
 replace HB := hidp (Bgo HB.out hb)
 clear hb
 clear x0 x1 x2
 obtain ⟨x0, x1, x2⟩ := HC.out.three
 have HWc := HW
 go_wp2_with (first
  | (at_builtin; refine wpList_copy_words (w := w3) rfl _ _ rfl rfl A m c f hm0 (by omega) rfl HWc.out ?_; intro g cg w4 hg4 HRW HB4)
  | fail)
 have HAB3 : Hid (∀ ad, A3 = some ad -> 0 < n -> ad.block < g) := hidp (fun ad e h0 => by
  obtain ⟨ad', e', h1, _⟩ := HV1.out.cell (i := 0) h0
  rw [e] at e'
  injection e' with e'
  rw [e']
  omega)
 have HAB4 : Hid (∀ ad, A4 = some ad -> 0 < m -> ad.block < g) := hidp (fun ad e h0 => by
  obtain ⟨ad', e', h1, _⟩ := HX1.out.cell 0 h0
  rw [e] at e'
  injection e' with e'
  rw [e']
  omega)
 have HG : Hid (W.heap.size < g) := hidp (by have := HC.out.lt; omega)
 have hcg := HRW.out.le
 have hcgm : cg <= 9223372036854775807 := HRW.out.max
 have hb := HB4.out
 replace HC := hidp (HC.out.keep hb)
 replace HV1 := hidp (HV1.out.below hb)
 replace HX1 := hidp (HX1.out.below hb)
 replace HB := hidp (Bgo HB.out hb)
 clear hb HB4 HW HWc hg4 x0 x1 x2
 go_wp2_with fail
 have HH0 : Hid (∀ i, f i = f i \/ (16 <= i /\ i < 16 + rdN t p /\ f i = x i)) := hidp (fun i => .inl rfl)
 go_loopw [12] (fun u12 wr => ∃ (j : Nat) (h : Nat -> Nat), j <= n /\ u12 = .int .i64 (j : Int) /\ Hid (∀ i, h i = f i \/ (16 <= i /\ i < 16 + rdN t p /\ h i = x i)) /\ Hid (RowF wr g 46 m cg (wrdF h)) /\ Hid (Held wr W.heap.size 23 #[.int .i64 (t : Int), .int .i64 (p : Int), .int .i64 (s : Int)]) /\ Hid (SV wr A3 n c3 (valR x)) /\ Hid (WV wr A4 m c4 x) /\ Hid (Below W.heap.size W wr)) (fun u12 _ => n - (intOf u12).toNat)
 case atStart => exact ⟨0, f, by omega, rfl, HH0, HRW, HC, HV1, HX1, HB⟩
 case round =>
  clear HRW HC HV1 HX1 HB HH0
  obtain ⟨j, h, hj, rfl, HH, HRW, HC, HV1, HX1, HB⟩ := hrel
  obtain ⟨x0, x1, x2⟩ := HC.out.three
  by_cases hlt : j < n
  ·have t1 : decide ((j : Int) < (n : Int)) = true := decide_eq_true (by omega)
   have t1n : decide (j < n) = true := decide_eq_true hlt
   by_cases hlk : j < k
   ·have t2 : decide ((j : Int) < (k : Int)) = true := decide_eq_true (by omega)
    have t2n : decide (j < k) = true := decide_eq_true hlk
    obtain ⟨b, hb⟩ : ∃ b, l[j]? = some b := ⟨_, List.getElem?_eq_getElem (by rw [HLK.out]; exact hlk)⟩
    obtain ⟨ab, hab, _, hcb⟩ := HBL.out.below HB.out j b hb
    subst hab
    clear hb
    cases b with
    | false =>
     go_wp2
     go_roundw
     case rel => exact ⟨j + 1, h, by omega, by go_num, HH, HRW, HC, HV1, HX1, HB⟩
     case measure => simp [intOf]; omega
    | true =>
     obtain ⟨q, hq⟩ : ∃ q, 16 + j = q := ⟨_, rfl⟩
     have hqm : q < m := by omega
     obtain ⟨ax, hax, _, hcx⟩ := HX1.out.cell q hqm
     obtain ⟨y, hy⟩ : ∃ y, x q = y := ⟨_, rfl⟩
     rw [hy] at hcx
     have hA4 := hax
     have HQ := hidp hq
     have HY := hidp hy
     have i1 : IntKind.i64.wrap ((16 : Int) + (j : Int)) = (q : Int) := by rw [i64_same (by omega) (by omega)]; omega
     have i3 : (q : Int) < (m : Int) := by omega
     have yq := HRW.out.cell (i := q) hqm
     have fq := HRW.out.thawed q
     have HAX : Hid (ax.block < g) := hidp (HAB4.out ax hax hm0)
     have HH1 : Hid (∀ i, (if i = q then y else h i) = f i \/ (16 <= i /\ i < 16 + rdN t p /\ (if i = q then y else h i) = x i)) := hidp (fun i => by
      by_cases e : i = q
      ·rw [if_pos e]; exact .inr ⟨by omega, by have := HRN.out; omega, by rw [e, hy]⟩
      ·rw [if_neg e]; exact HH.out i)
     subst hax
     clear hq hy
     go_wp2
     replace HB := hidp (Bput HB.out (p := ⟨g, q, none⟩) (by have := HG.out; show W.heap.size <= g; omega) (.int .u64 (y : Int)))
     replace HC := hidp (HC.out.far (p := ⟨g, q, none⟩) (by have := HG.out; show W.heap.size ≠ g; omega) (.int .u64 (y : Int)))
     replace HV1 := hidp (HV1.out.block (by simp) (fun ad e h0 => Below.heap_setCell _ ⟨g, q, none⟩ (.int .u64 (y : Int)) _ (by have := HAB3.out ad e h0; show ad.block ≠ g; omega)))
     replace HX1 := hidp (HX1.out.block (by simp) (fun ad e h0 => Below.heap_setCell _ ⟨g, q, none⟩ (.int .u64 (y : Int)) _ (by have := HAB4.out ad e h0; show ad.block ≠ g; omega)))
     replace HRW := hidp (HRW.out.put (i := q) hqm (.int .u64 (y : Int)))
     go_roundw
     case rel => exact ⟨j + 1, _, by omega, by go_num, HH1, hidp (HRW.out.congr fun i hi => by
       dsimp only [wrdF, updF]
       by_cases e : i = q
       ·rw [if_pos e, if_pos e]
       ·rw [if_neg e, if_neg e]), HC, HV1, HX1, HB⟩
     case measure => simp [intOf]; omega
   ·have t2 : decide ((j : Int) < (k : Int)) = false := decide_eq_false (by omega)
    have t2n : decide (j < k) = false := decide_eq_false hlk
    have HWV := hidp (WV.of_row HRW.out (fun i hi => by
     rcases HH.out i with h4 | ⟨_, _, h4⟩
     ·rw [h4]; exact HF64.out i
     ·rw [h4]; exact HX64.out i))
    go_wp2_with fail
    refine (HS2.out _ h (tidyR_part HXX.out HH.out) HWV.out).mono ?_
    rintro e w7 ⟨⟨A7, c7, rfl, hsv⟩, hb⟩
    have HV2 := hidp hsv
    replace HC := hidp (HC.out.keep hb)
    replace HV1 := hidp (HV1.out.below hb)
    replace HX1 := hidp (HX1.out.below hb)
    replace HWV := hidp (HWV.out.below hb)
    replace HB := hidp (Bgo HB.out hb)
    clear hb hsv
    clear x0 x1 x2
    obtain ⟨x0, x1, x2⟩ := HC.out.three
    go_wp2_with fail
    refine (HT2.out _ h (tidyR_part HXX.out HH.out) HWV.out).mono ?_
    rintro e w8 ⟨⟨A8, c8, rfl, hwv⟩, hb⟩
    have HX2 := hidp hwv
    replace HC := hidp (HC.out.keep hb)
    replace HV1 := hidp (HV1.out.below hb)
    replace HV2 := hidp (HV2.out.below hb)
    replace HX1 := hidp (HX1.out.below hb)
    replace HB := hidp (Bgo HB.out hb)
    clear hb hwv HWV
    go_wp2_with fail
    refine (Vals_same ((List.range n).map (valR x)) _ _ _ HV1.out.row HV2.out.row).mono ?_
    rintro e w9 ⟨rfl, k6, rfl⟩
    have hb := Bdraw (B0 w8) k6
    replace HX1 := hidp (HX1.out.below hb)
    replace HX2 := hidp (HX2.out.below hb)
    clear hb
    go_wp2_with fail
    refine (Words_same ((List.range m).map x) m (hidp (by simp)) _ _ _ _ (by unfold maxLen; omega) _ _ _ (hidp HX1.out.reads) (hidp HX2.out.reads)).mono ?_
    rintro e w10 ⟨rfl, k7, rfl⟩
    replace HB := hidp (Bdraw HB.out (k6 + k7))
    go_wp2_with fail
    refine (live27_c _).mono ?_
    rintro e w19 ⟨rfl, hb⟩
    replace HB := hidp (Bgo HB.out hb)
    clear hb
    go_wp2
    go_ret
    exact ⟨rfl, HB.out⟩
  ·have t1 : decide ((j : Int) < (n : Int)) = false := decide_eq_false (by omega)
   have t1n : decide (j < n) = false := decide_eq_false hlt
   have HWV := hidp (WV.of_row HRW.out (fun i hi => by
    rcases HH.out i with h4 | ⟨_, _, h4⟩
    ·rw [h4]; exact HF64.out i
    ·rw [h4]; exact HX64.out i))
   go_wp2_with fail
   refine (HS2.out _ h (tidyR_part HXX.out HH.out) HWV.out).mono ?_
   rintro e w7 ⟨⟨A7, c7, rfl, hsv⟩, hb⟩
   have HV2 := hidp hsv
   replace HC := hidp (HC.out.keep hb)
   replace HV1 := hidp (HV1.out.below hb)
   replace HX1 := hidp (HX1.out.below hb)
   replace HWV := hidp (HWV.out.below hb)
   replace HB := hidp (Bgo HB.out hb)
   clear hb hsv
   clear x0 x1 x2
   obtain ⟨x0, x1, x2⟩ := HC.out.three
   go_wp2_with fail
   refine (HT2.out _ h (tidyR_part HXX.out HH.out) HWV.out).mono ?_
   rintro e w8 ⟨⟨A8, c8, rfl, hwv⟩, hb⟩
   have HX2 := hidp hwv
   replace HC := hidp (HC.out.keep hb)
   replace HV1 := hidp (HV1.out.below hb)
   replace HV2 := hidp (HV2.out.below hb)
   replace HX1 := hidp (HX1.out.below hb)
   replace HB := hidp (Bgo HB.out hb)
   clear hb hwv HWV
   go_wp2_with fail
   refine (Vals_same ((List.range n).map (valR x)) _ _ _ HV1.out.row HV2.out.row).mono ?_
   rintro e w9 ⟨rfl, k6, rfl⟩
   have hb := Bdraw (B0 w8) k6
   replace HX1 := hidp (HX1.out.below hb)
   replace HX2 := hidp (HX2.out.below hb)
   clear hb
   go_wp2_with fail
   refine (Words_same ((List.range m).map x) m (hidp (by simp)) _ _ _ _ (by unfold maxLen; omega) _ _ _ (hidp HX1.out.reads) (hidp HX2.out.reads)).mono ?_
   rintro e w10 ⟨rfl, k7, rfl⟩
   replace HB := hidp (Bdraw HB.out (k6 + k7))
   go_wp2_with fail
   refine (live27_c _).mono ?_
   rintro e w19 ⟨rfl, hb⟩
   replace HB := hidp (Bgo HB.out hb)
   clear hb
   go_wp2
   go_ret
   exact ⟨rfl, HB.out⟩
theorem RedoPart_calls (t p s : Int) (A A2 : Option Addr) (c c2 : Nat) (ws : List Nat) (l : List Bool) (hwc : ws.length <= c) (hcm : c <= maxLen) (h64 : ∀ x ∈ ws, x < 2 ^ 64) (hlc : l.length <= c2) (hcm2 : c2 <= maxLen) (W : World)
  (HR : Hid (Reads W W.heap.size 1 A ws.length (wordVs ws))) (HBL : Hid (BoolsAt W A2 l)) :
  Calls Try.prog 4 #[.agg #[.int .i64 t, .int .i64 p, .int .i64 s], .slice A ws.length c, .slice A2 l.length c2] W (Keeps W) := by
 by_cases hf : ws.length <= 3000
 ·have hW := WV.of_reads HR.out (Nat.le_refl _) h64 hwc hcm
  have hf64 : ∀ i, (fun i => ws.getD i 0) i < 2 ^ 64 := fun i => getD_64 h64 i
  cases h1 : okW t p s ws.length
  ·exact RedoPart_none t p s A A2 _ c _ c2 0 _ hf W (hidp (fun w _ => rdSettle_no h1)) (hidp (fun w _ => rdTidy_no h1)) hW
  ·obtain ⟨hr, hm0, hmw, _⟩ := okW_right h1
   have hri := (rightB_iff t p s).1 hr
   have e1 : ((t.toNat : Nat) : Int) = t := by omega
   have e2 : ((p.toNat : Nat) : Int) = p := by omega
   have e3 : ((s.toNat : Nat) : Int) = s := by omega
   have h1' : okW (t.toNat : Int) (p.toNat : Int) (s.toNat : Int) ws.length = true := by rw [e1, e2, e3]; exact h1
   have hr' : rightB (t.toNat : Int) (p.toNat : Int) (s.toNat : Int) = true := by rw [e1, e2, e3]; exact hr
   have hmw' : (ws.length : Int) = lW (t.toNat : Int) (p.toNat : Int) (s.toNat : Int) := by rw [e1, e2, e3]; exact hmw
   rw [rdW_eq hr'] at hmw'
   have hM := rdM_lt t.toNat p.toNat
   have hWW : rdM t.toNat p.toNat <= rdW t.toNat p.toNat := by unfold rdW; omega
   cases hX : tidyR t.toNat p.toNat (fun i => ws.getD i 0) with
   | none =>
    exact RedoPart_none t p s A A2 _ c _ c2 _ _ hf W (hidp (fun w h => by have := rdSettle_in none hX h1' h; rw [e1, e2, e3] at this; exact this)) (hidp (fun w h => by have := rdTidy_in none hX h1' h; rw [e1, e2, e3] at this; exact this)) hW
   | some x =>
    have := RedoPart_some t.toNat p.toNat s.toNat _ A A2 _ c _ c2 _ x l hf hm0 rfl hlc hcm2 (by omega) rfl (hidp hX) (hidp hf64) (hidp (rdN_eq hr')) W (hidp (fun w _ _ h hx hw => rdSettle_in (some x) hx h1' hw)) (hidp (fun w _ _ h hx hw => rdTidy_in (some x) hx h1' hw)) hW HBL
    rw [e1, e2, e3] at this
    exact this
 ·exact RedoPart_many t p s A A2 _ c _ c2 (by omega) W
end
end Go.Proofs.Ytmjkljdnioochaa
