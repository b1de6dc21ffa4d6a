/-
  The document's answer for Views: has, Get.
-/
import Derived.Test.YtnmhdlpnimdffaaGreatDoorA02
import Derived.Deep.RegionHeld3
import Derived.Test.YtnmhdlpnimdffaaGreatDoorA01
import Derived.Below
import Derived.Test.YtnmhdlpnimdffaaGreatDoorAKit
import Derived.WalkKit
import Derived.ProofKit
import Derived.BigQuiet
import Derived.Outline
import Derived.Deep.QuietTactic
namespace Go.Proofs.YtnmhdlpnimdffaaGreatDoor
open Go.ChangeShapes Go.WideShapes Go.ChangeAt Go.RowKit Go.Maps
set_option linter.unusedVariables false
set_option maxRecDepth 100000
set_option linter.unusedSimpArgs false
section
theorem has11_c (A : Option Addr) (c q : Nat) (l : List Nat) (hl : l.length = q) (hqc : q <= c) (hc : c <= maxLen) (i : Nat) (w : World) (hR : Reads w w.heap.size 1 A q (ntVs l)) :
  Calls Tryz.prog 94 #[.slice A q c, .int .i64 (i : Int)] w fun e w' => e = .returned (.bool (decide (i ∈ l))) /\ w' = w := by
 have HR := hidp hR
 have HL := hidp hl
 have hc2 : c <= 9223372036854775807 := hc
 clear hR hl
 go_enter Tryz.func94, Tryz.ntmps94
 go_wp2_with fail
 go_loopw [5] (fun j wr => ∃ k : Nat, k <= q /\ j = .int .i64 k /\ Hid (i ∉ l.take k) /\ wr = w) (fun j _ => q - (intOf j).toNat)
 case atStart => exact ⟨0, by omega, rfl, hidp (by simp), rfl⟩
 case round =>
  obtain ⟨k, hk, rfl, HN, rfl⟩ := hrel
  by_cases hlt : k < q
  ·obtain ⟨x, hx⟩ : ∃ x, l[k]? = some x := ⟨_, List.getElem?_eq_getElem (by rw [HL.out]; exact hlt)⟩
   obtain ⟨ad, rfl, _, hcl⟩ := HR.out.2 (by omega)
   have x0 : wr.cell? (ad.add k) = some (.int .i64 (x : Int)) := hcl k _ (by unfold ntVs; rw [List.getElem?_map, hx]; rfl)
   have HT : Hid (l.take (k + 1) = l.take k ++ [x]) := hidp (by rw [List.take_add_one, hx]; rfl)
   clear hcl
   by_cases he : x = i
   ·subst he
    have HV : Hid (decide (x ∈ l) = true) := hidp (decide_eq_true (List.mem_of_getElem? hx))
    clear hx
    go_wp2
    go_ret
    exact ⟨by rw [HV.out]; rfl, rfl⟩
   ·have t0 : ((x : Int) == i) = false := by simp; omega
    have t1 : (x == i) = false := by simpa using he
    have HN2 : Hid (i ∉ l.take (k + 1)) := hidp (by
     rw [HT.out, List.mem_append]
     rintro (h | h)
     ·exact HN.out h
     ·simp at h; exact he h.symm)
    clear hx he
    go_wp2
    go_roundw
    case rel => exact ⟨k + 1, by omega, by go_num, HN2, by trivial⟩
    case measure => simp [intOf]; omega
  ·obtain rfl : k = q := by omega
   have HV : Hid (decide (i ∈ l) = false) := hidp (decide_eq_false (by
    have := HN.out
    rwa [List.take_of_length_le (by have := HL.out; omega)] at this))
   go_wp2
   go_ret
   exact ⟨by rw [HV.out]; rfl, rfl⟩

theorem RGet_no {base b n : Nat} {all : Bool} {v : Nat -> Value} {K : Nat -> Option Nat} {s : Vst} (a : Int) (ho : opn n s a = false) (w : World) (h : IsRefV w base b n all v K s) :
  Calls Tryz.prog 40 #[.pointer (some ⟨b, 0, none⟩), .int .i64 a] w fun e w' => e = .returned (.int .u32 0) /\ w' = w := by
 obtain ⟨c0, _, _, _, _, _, _, c7, _⟩ := h.cells
 clear h
 rcases Int.lt_or_le a 0 with h1 | h1
 ·have t0 : decide (a < 0) = true := decide_eq_true h1
  go_enter Tryz.func40, Tryz.ntmps40
  go_wp2
  go_ret
  exact ⟨rfl, rfl⟩
 ·have t0 : decide (a < 0) = false := decide_eq_false (by omega)
  rcases Int.lt_or_le a n with h2 | h2
  ·have t1 : decide ((n : Int) <= a) = false := decide_eq_false (by omega)
   have hl : s.lost = true := by
    unfold opn at ho
    cases hh : s.lost with
    | true => rfl
    | false =>
     rw [hh, decide_eq_true (p := 0 <= a /\ a < n) ⟨h1, h2⟩] at ho
     cases ho
   have hm : missI s = (s.miss : Int) := by unfold missI; rw [hl]; rfl
   rw [hm] at c7
   have t2 : decide ((0 : Int) <= (s.miss : Int)) = true := decide_eq_true (by omega)
   clear hm hl ho
   go_enter Tryz.func40, Tryz.ntmps40
   go_wp2
   go_ret
   exact ⟨rfl, rfl⟩
  ·have t1 : decide ((n : Int) <= a) = true := decide_eq_true (by omega)
   go_enter Tryz.func40, Tryz.ntmps40
   go_wp2
   go_ret
   exact ⟨rfl, rfl⟩

theorem missI_no {s : Vst} (h : s.lost = false) : missI s = -1 := by unfold missI; rw [h]; rfl

theorem RGet_put {base b n : Nat} {all : Bool} {v : Nat -> Value} {K : Nat -> Option Nat} {s : Vst} (i k : Nat) (hl : s.lost = false) (hk : pos s.wr i = some k) (hi : i < n) (w : World) (h : IsRefV w base b n all v K s) :
  Calls Tryz.prog 40 #[.pointer (some ⟨b, 0, none⟩), .int .i64 (i : Int)] w fun e w' => e = .returned (.int .u32 ((atW s.wr k : Nat) : Int)) /\ w' = w := by
 have hn := h.nmax
 obtain ⟨c0, _, _, c3, c4, _, _, c7, _⟩ := h.cells
 obtain ⟨g2, p2, hv2, hp2, hm2, hg2, hl2, hr2⟩ := h.row (i := 2) (by omega) (by omega)
 obtain ⟨g3, p3, hv3, hp3, hm3, hg3, hl3, hr3⟩ := h.row (i := 3) (by omega) (by omega)
 have d2 := (hr2 i hi).1.trans (rX_2 n K s hi)
 have d3 := (hr3 i hi).1.trans (rX_3 n K s hi)
 have hto : toV s.wr i = atW s.wr k := by unfold toV; rw [hk]
 rw [hk] at d2
 rw [hto] at d3
 rw [hv2] at c3
 rw [hv3] at c4
 rw [missI_no hl] at c7
 have t0 : decide ((i : Int) < 0) = false := decide_eq_false (by omega)
 have t1 : decide ((n : Int) <= i) = false := decide_eq_false (by omega)
 have t2 : decide (n <= i) = false := decide_eq_false (by omega)
 clear h hr2 hr3 hv2 hv3 hto hk hl
 go_enter Tryz.func40, Tryz.ntmps40
 go_wp2
 go_ret
 exact ⟨rfl, rfl⟩

theorem rN_rd (n : Nat) (s : Vst) (i : Nat) : ∀ j, j < 6 -> updF (rN n s) 4 (s.rd.length + 1) j = rN n { s with rd := s.rd ++ [i] } j := six rfl rfl rfl rfl (by simp [updF, rN]) rfl
theorem rX_rd (n : Nat) (K : Nat -> Option Nat) (s : Vst) (i : Nat) : ∀ j, j < 6 -> updF (rX n K s) 4 (ntVs s.rd ++ [.int .i64 (i : Int)]) j = rX n K { s with rd := s.rd ++ [i] } j := six rfl rfl rfl rfl (by simp [updF, rX, ntVs]) rfl
theorem OwnAll.rowAt {w : World} {base b k : Nat} {e : Nat -> TypeId} {sz : Nat -> Nat} {v : Nat -> Value} {n : Nat -> Nat} {xs : Nat -> List Value} (h : OwnAll w base b k e sz v n xs) {i : Nat} (hi : i < k) {T : TypeId} {z m : Nat} {ys : List Value} (h1 : e i = T) (h2 : sz i = z) (h3 : n i = m) (h4 : xs i = ys) : w.ownsRow base T z (v i) m ys := by
 subst h1 h2 h3 h4
 exact h.own i hi

theorem RGet_known {base b n : Nat} {all : Bool} {v : Nat -> Value} {K : Nat -> Option Nat} {s : Vst} (i x : Nat) (hl : s.lost = false) (hk : pos s.wr i = none) (hi : i < n) (hx : K i = some x) (hlim : s.rd.length < 2 ^ 40) (w : World) (h : IsRefV w base b n all v K s) :
    Calls Tryz.prog 40 #[.pointer (some ⟨b, 0, none⟩), .int .i64 (i : Int)] w fun e w' => e = .returned (.int .u32 (x : Int)) /\ LeftR w base b n all v K (noteS s i) w' := by
  have hn := h.nmax
  obtain ⟨c0, c1, c2, c3, _, c5, _, c7, _⟩ := h.cells
  obtain ⟨g0, p0, hv0, hp0, hm0, hg0, hl0, hr0⟩ := h.row (i := 0) (by omega) (by omega)
  obtain ⟨g1, p1, hv1, hp1, hm1, hg1, hl1, hr1⟩ := h.row (i := 1) (by omega) (by omega)
  obtain ⟨g2, p2, hv2, hp2, hm2, hg2, hl2, hr2⟩ := h.row (i := 2) (by omega) (by omega)
  have d0 := (hr0 i hi).1.trans (rX_0 n K s hi)
  have d1 := (hr1 i hi).1.trans (rX_1 n K s hi)
  have d2 := (hr2 i hi).1.trans (rX_2 n K s hi)
  rw [hx] at d0 d1
  rw [hk] at d2
  rw [hv0] at c1
  rw [hv1] at c2
  rw [hv2] at c3
  rw [missI_no hl] at c7
  have HO : Hid (w.ownsRow base 3 1 (v 4) s.rd.length (ntVs s.rd)) := hidp (h.parts.own.rowAt (by omega) rfl rfl rfl rfl)
  obtain ⟨A, cr, hv4⟩ := own_slice HO.out
  rw [hv4] at c5
  obtain ⟨hqc, hcr⟩ := vown_caps (by have := HO.out; rwa [hv4] at this)
  have HRD : Hid (Reads w w.heap.size 1 A s.rd.length (ntVs s.rd)) := hidp (Reads.of_own (by have := HO.out; rwa [hv4] at this))
  obtain ⟨q, hq⟩ : ∃ q, s.rd.length = q := ⟨_, rfl⟩
  have HQ := hidp hq
  have HV4 := hidp hv4
  have HH := hidp h
  have HV1 := hidp hv1
  have hbl := h.parts.head.lt
  have t0 : decide ((i : Int) < 0) = false := decide_eq_false (by omega)
  have t1 : decide ((n : Int) <= i) = false := decide_eq_false (by omega)
  have t2 : decide (n <= i) = false := decide_eq_false (by omega)
  rw [hq] at c5 hqc HRD hlim
  have H01 : Hid (∀ w' : World, (∀ g, g = g1 \/ g = b -> w'.heap[g]? = w.heap[g]?) -> w'.cell? ⟨g1, i, none⟩ = some (.int .u32 (x : Int)) /\ w'.cell? ⟨b, 2, none⟩ = some (.slice (some ⟨g1, 0, none⟩) n p1)) := hidp (fun w' hw => ⟨(World.cell?_of_block (a := ⟨g1, i, none⟩) (hw g1 (.inl rfl))).trans d1, (World.cell?_of_block (a := ⟨b, 2, none⟩) (hw b (.inr rfl))).trans c2⟩)
  by_cases hm : i ∈ s.rd
  · have HM : Hid (decide (i ∈ s.rd) = true) := hidp (decide_eq_true hm)
    have HN := hidp (noteS_in hm)
    clear h hr0 hr1 hr2 hv0 hv1 hv2 hv4 hk hl hx hq hm
    go_enter Tryz.func40, Tryz.ntmps40
    go_wp2_with fail
    refine (has11_c A cr q s.rd HQ.out hqc hcr i _ HRD.out).mono ?_
    rintro e w1 ⟨rfl, rfl⟩
    rw [HM.out]
    go_wp2
    go_ret
    exact ⟨rfl, by rw [HN.out]; exact LeftR.same HH.out⟩
  · have HM : Hid (decide (i ∈ s.rd) = false) := hidp (decide_eq_false hm)
    have HN := hidp (noteS_new hm)
    have HOK := hidp (h.ok.note (i := i) hi)
    have H14 : Hid (∀ g, (v 4).ownBlock = some g -> g ≠ g1) := hidp (fun g hg e => by
      have := h.parts.own.apart 1 4 g1 (by omega) (by omega) (by rw [hv1]; rfl) (by rw [hg, e])
      omega)
    obtain ⟨i0, hin, hz0, hz1, hz2⟩ := info_parts intInfo
    clear h hr0 hr1 hr2 hv0 hv1 hv2 hv4 hk hl hx hq hm
    go_enter Tryz.func40, Tryz.ntmps40
    go_wp2_with fail
    refine (has11_c A cr q s.rd HQ.out hqc hcr i _ HRD.out).mono ?_
    rintro e w1 ⟨rfl, rfl⟩
    rw [HM.out]
    go_wp2_with (first
      | (at_builtin
         refine wpList_append_lies _ rfl _ _ 35 rfl base 3 i0 (.int .i64 0) 1 8 Tryz.underlying35 hin hz0 hz1 hz2 rfl (by decide) (.slice A q cr) q (ntVs s.rd) rfl ?c0 ⟨_, 0, none⟩ 1 1 [.int .i64 (i : Int)] rfl rfl ?c1 ?c2 (by omega) ?c3 ?c4 ?c5 _ rfl ?_
         case c0 =>
           have h9 := HO.out.alloc (.cells #[.int .i64 (i : Int)] 3)
           rw [HV4.out, HQ.out] at h9
           rw [<- HQ.out] at h9 ⊢
           exact h9
         case c1 => intro j y hy; rcases j with _ | j; (· simp at hy; subst hy; simp [Addr.add]); (· simp at hy)
         case c2 => simp [Value.oneCell']
         case c3 => unfold maxLen; omega
         case c4 => omega
         case c5 => have := HH.out.parts.bb; have := HH.out.parts.head.lt; simp; omega
         intro g cap w4 hown4 hgrow4 hat4 hlt4
         obtain ⟨hp4, hA4, hT4⟩ := (HH.out.parts.keep (Bnew (B0 w1) (.cells #[.int .i64 (i : Int)] 3))).grow (i := 4) (by omega) hown4 (by rw [HV4.out, HQ.out]; exact hgrow4) (fun q' hq' => by
           have hq' : g = q' := by simpa [Value.ownBlock] using hq'
           subst hq'
           rcases hat4 with h1 | h1
           · left; rw [HV4.out, HQ.out]; exact h1
           · right; rw [h1]; exact Nat.le_refl _)
         have c5' : w4.cell? ⟨b, 5, none⟩ = some (.slice A q cr) := (hp4.head.cell 5).trans (by rw [<- HQ.out, <- HV4.out]; rfl)
         have f5 := hp4.head.thawed 5
         have y9 := H01.out w4 (fun z hz => by
           have hz1 : z < w1.heap.size := by rcases hz with rfl | rfl; exact hl1; exact hbl
           refine (hgrow4.block z (by simp; omega) (fun e => ?_)).trans ((Bnew (B0 w1) (.cells #[.int .i64 (i : Int)] 3)).block z hz1)
           have e : (v 4).ownBlock = some z := by rw [HV4.out, HQ.out]; exact e.symm
           rcases hz with rfl | rfl
           · exact H14.out _ e rfl
           · exact HH.out.parts.own.notb 4 (by omega) e)
         obtain ⟨y1, y2⟩ := y9
         have HP4 := hidp hp4
         have HA4 := hidp hA4
         have HT4 := hidp (((T0 (OwnF b 6 v) w1).alloc (.cells #[.int .i64 (i : Int)] 3)).trans hT4)
         clear hp4 hA4 hT4 hown4 hgrow4 hat4)
      | go_in)
    go_ret
    obtain ⟨hp5, _⟩ := HP4.out.setHead 5 (.slice (some ⟨g, 0, none⟩) (q + 1) cap)
    refine ⟨rfl, updF v 4 (.slice (some ⟨g, 0, none⟩) (q + 1) cap), ?_, fun z hz => ?_, HT4.out.put (p := ⟨b, 5, none⟩) (.inl rfl) _⟩
    · rw [HN.out] at HOK ⊢
      refine { parts := hp5.congr rfl ?_ (rX_rd n K s i), ok := HOK.out, nmax := hn, k32 := HH.out.k32 }
      rw [<- HQ.out]
      exact rN_rd n s i
    · rcases HA4.out z hz with h1 | h1
      · exact .inl h1
      · simp at h1
        exact .inr (by omega)

theorem RGet_lost {base b n : Nat} {all : Bool} {v : Nat -> Value} {K : Nat -> Option Nat} {s : Vst} (i : Nat) (hl : s.lost = false) (hk : pos s.wr i = none) (hi : i < n) (hx : K i = none) (w : World) (h : IsRefV w base b n all v K s) :
  Calls Tryz.prog 40 #[.pointer (some ⟨b, 0, none⟩), .int .i64 (i : Int)] w fun e w' => e = .returned (.int .u32 0) /\ LeftR w base b n all v K { s with lost := true, miss := i } w' := by
 have hn := h.nmax
 obtain ⟨c0, c1, _, c3, _, _, _, c7, _⟩ := h.cells
 obtain ⟨g0, p0, hv0, hp0, hm0, hg0, hl0, hr0⟩ := h.row (i := 0) (by omega) (by omega)
 obtain ⟨g2, p2, hv2, hp2, hm2, hg2, hl2, hr2⟩ := h.row (i := 2) (by omega) (by omega)
 have d0 := (hr0 i hi).1.trans (rX_0 n K s hi)
 have d2 := (hr2 i hi).1.trans (rX_2 n K s hi)
 rw [hx] at d0
 rw [hk] at d2
 rw [hv0] at c1
 rw [hv2] at c3
 rw [missI_no hl] at c7
 have f7 := h.parts.head.thawed 7
 have HH := hidp h
 have t0 : decide ((i : Int) < 0) = false := decide_eq_false (by omega)
 have t1 : decide ((n : Int) <= i) = false := decide_eq_false (by omega)
 have t2 : decide (n <= i) = false := decide_eq_false (by omega)
 clear h hr0 hr2 hv0 hv2 hk hl hx
 go_enter Tryz.func40, Tryz.ntmps40
 go_wp2
 go_ret
 obtain ⟨hp, ht⟩ := HH.out.parts.setHead 7 (.int .i64 (i : Int))
 exact ⟨rfl, v, { parts := hp.congr rfl (fun _ _ => rfl) (fun _ _ => rfl), ok := { HH.out.ok with mLt := fun _ => hi }, nmax := hn, k32 := HH.out.k32 }, fun g hg => .inl hg, ht⟩

theorem VRGet_c {base b n : Nat} {all : Bool} {v : Nat -> Value} {K : Nat -> Option Nat} {s : Vst} (a : Int) (h1 : s.rd.length < 2 ^ 40) (w : World) (h : IsRefV w base b n all v K s) :
  Calls Tryz.prog 40 #[.pointer (some ⟨b, 0, none⟩), .int .i64 a] w fun e w' => e = .returned (.int .u32 ((getV n K s a : Nat) : Int)) /\ LeftR w base b n all v K (getS n K s a) w' := by
 by_cases ho : opn n s a = true
 ·obtain ⟨i, rfl, hi, hl⟩ := opn_at ho
  cases hp : pos s.wr i with
  | some k =>
   rw [getV_put ho hp, getS_put ho hp]
   refine (RGet_put i k hl hp hi w h).mono ?_
   rintro e w1 ⟨rfl, rfl⟩
   exact ⟨rfl, LeftR.same h⟩
  | none =>
   cases hk : K i with
   | some x =>
    rw [getV_known ho hp hk, getS_known ho hp hk]
    exact RGet_known i x hl hp hi hk h1 w h
   | none =>
    rw [getV_lost ho hp hk, getS_lost ho hp hk]
    exact RGet_lost i hl hp hi hk w h
 ·have ho : opn n s a = false := by simpa using ho
  rw [getV_no ho, getS_no ho]
  refine (RGet_no a ho w h).mono ?_
  rintro e w1 ⟨rfl, rfl⟩
  exact ⟨rfl, LeftR.same h⟩
end
end Go.Proofs.YtnmhdlpnimdffaaGreatDoor

namespace Go.Proofs.YtnmhdlpnimdffaaGreatDoor
open Go.ChangeShapes Go.WideShapes Go.ChangeAt Go.RowKit
set_option linter.unusedVariables false
set_option maxRecDepth 100000
set_option linter.unusedSimpArgs false
section
theorem valVs_len (l : List Nat) : (valVs l).length = l.length := by unfold valVs; simp
def RowP (w : World) (v : Value) (l : List (Nat × Nat)) : Prop :=
 l.length <= maxLen /\ ((v = .slice none 0 0 /\ l = []) \/ ∃ g c, v = .slice (some ⟨g, 0, none⟩) l.length c /\ g < w.heap.size /\ ∀ i u, (prVs l)[i]? = some u -> w.cell? ⟨g, i, none⟩ = some u)
theorem RowP.below {w w' : World} {v : Value} {l : List (Nat × Nat)} (h : RowP w v l) (hb : Below w.heap.size w w') : RowP w' v l := by
 refine ⟨h.1, ?_⟩
 rcases h.2 with h | ⟨g, c, hv, hg, hc⟩
 ·exact .inl h
 ·exact .inr ⟨g, c, hv, Nat.lt_of_lt_of_le hg hb.size, fun i u hu => (hb.cell (p := ⟨g, i, none⟩) hg).trans (hc i u hu)⟩
theorem RowP.of_own {w : World} {base : Nat} {e : TypeId} {v : Value} {l : List (Nat × Nat)} (h : w.ownsRow base e 2 v l.length (prVs l)) : RowP w v l := by
 rcases h.2 with ⟨rfl, hn⟩ | ⟨g, cap, cur, rfl, hb, hg, hnc, hcm, hcs, htake⟩
 ·exact ⟨by omega, .inl ⟨rfl, List.eq_nil_of_length_eq_zero hn⟩⟩
 ·have hl := h.lt g rfl
  refine ⟨by omega, .inr ⟨g, cap, rfl, hl.2, fun i u hu => ?_⟩⟩
  have hi : i < (prVs l).length := by
   rcases Nat.lt_or_ge i (prVs l).length with h3 | h3
   ·exact h3
   ·rw [List.getElem?_eq_none h3] at hu; cases hu
  rw [prVs_len] at hi
  rw [h.cellAt i hi, hu]

theorem Pairs_same (l : List (Nat × Nat)) (v u : Value) (w : World) (h1 : RowP w v l) (h2 : RowP w u l) :
  Calls Tryz.prog 50 #[v, u] w fun e w' => e = .returned (.bool true) /\ ∃ n, w' = w.drewN n := by
 have hm := h1.1
 unfold maxLen at hm
 by_cases hx : l = []
 ·subst hx
  have hv : ∃ A c, v = .slice A 0 c := by
   rcases h1.2 with ⟨rfl, _⟩ | ⟨g, c, rfl, _⟩
   ·exact ⟨_, _, rfl⟩
   ·exact ⟨_, _, rfl⟩
  have hu : ∃ A c, u = .slice A 0 c := by
   rcases h2.2 with ⟨rfl, _⟩ | ⟨g, c, rfl, _⟩
   ·exact ⟨_, _, rfl⟩
   ·exact ⟨_, _, rfl⟩
  obtain ⟨A, c, rfl⟩ := hv
  obtain ⟨B, d, rfl⟩ := hu
  clear h1 h2
  go_enter Tryz.func50, Tryz.ntmps50
  go_wp2
  refine wp_loop_rounds 1 ?_
  rw [rounds_succ]
  go_wp2
  go_ret
  exact ⟨rfl, 0, rfl⟩
 ·rcases h1.2 with ⟨_, h⟩ | ⟨g, c, rfl, _, hc⟩
  ·exact absurd h hx
  rcases h2.2 with ⟨_, h⟩ | ⟨g2, c2, rfl, _, hc2⟩
  ·exact absurd h hx
  have HC : Hid (∀ k, k < l.length -> w.cell? ⟨g, k * 2, none⟩ = some (.int .i64 (cellW l k : Int)) /\ w.cell? ⟨g, k * 2 + 1, none⟩ = some (.int .u32 (atW l k : Int))) := hidp (fun k hk => ⟨hc _ _ (prVs_at l k hk).1, hc _ _ (prVs_at l k hk).2⟩)
  have HC2 : Hid (∀ k, k < l.length -> w.cell? ⟨g2, k * 2, none⟩ = some (.int .i64 (cellW l k : Int)) /\ w.cell? ⟨g2, k * 2 + 1, none⟩ = some (.int .u32 (atW l k : Int))) := hidp (fun k hk => ⟨hc2 _ _ (prVs_at l k hk).1, hc2 _ _ (prVs_at l k hk).2⟩)
  clear hc hc2 h1 h2 hx
  generalize hn : l.length = n at *
  clear hn
  go_enter Tryz.func50, Tryz.ntmps50
  go_wp2
  go_loopw [5] (fun i wr => ∃ k m : Nat, k <= n /\ i = .int .i64 k /\ wr = w.drewN m) (fun i _ => n - (intOf i).toNat)
  case atStart => exact ⟨0, 0, by omega, rfl, rfl⟩
  case round =>
   obtain ⟨k, m, hk, rfl, rfl⟩ := hrel
   by_cases hlt : k < n
   ·obtain ⟨c1, d1⟩ := HC.out k hlt
    obtain ⟨c2, d2⟩ := HC2.out k hlt
    generalize cellW l k = x at *
    generalize atW l k = y at *
    go_wp2
    go_quiet (fail)
    go_wp2
    go_roundw
    case rel => exact ⟨k + 1, _, by omega, by go_num, rfl⟩
    case measure => simp [intOf]; omega
   ·go_wp2
    go_ret
    exact ⟨rfl, m, rfl⟩
end
end Go.Proofs.YtnmhdlpnimdffaaGreatDoor

namespace Go.Proofs.YtnmhdlpnimdffaaGreatDoor
open Go.ChangeShapes Go.WideShapes Go.ChangeAt Go.RowKit Go.Maps
set_option linter.unusedVariables false
set_option maxRecDepth 100000
set_option linter.unusedSimpArgs false
section
theorem RPut_no {base b n : Nat} {all : Bool} {v : Nat -> Value} {K : Nat -> Option Nat} {s : Vst} (a x : Int) (ho : opn n s a = false) (w : World) (h : IsRefV w base b n all v K s) :
  Calls Tryz.prog 43 #[.pointer (some ⟨b, 0, none⟩), .int .i64 a, .int .u32 x] w fun e w' => e = .returned (.tuple #[]) /\ w' = w := by
 obtain ⟨c0, _, _, _, _, _, _, c7, _⟩ := h.cells
 clear h
 rcases Int.lt_or_le a 0 with h1 | h1
 ·have t0 : decide (a < 0) = true := decide_eq_true h1
  go_enter Tryz.func43, Tryz.ntmps43
  go_wp2
  (try simp only [Exit.inBlock, Exit.then])
  refine bodyPost_ret (results_none rfl _ _ _) rfl ?_
  exact ⟨rfl, rfl⟩
 ·have t0 : decide (a < 0) = false := decide_eq_false (by omega)
  rcases Int.lt_or_le a n with h2 | h2
  ·have t1 : decide ((n : Int) <= a) = false := decide_eq_false (by omega)
   have hl : s.lost = true := by
    unfold opn at ho
    cases hh : s.lost with
    | true => rfl
    | false =>
     rw [hh, decide_eq_true (p := 0 <= a /\ a < n) ⟨h1, h2⟩] at ho
     cases ho
   have hm : missI s = (s.miss : Int) := by unfold missI; rw [hl]; rfl
   rw [hm] at c7
   have t2 : decide ((0 : Int) <= (s.miss : Int)) = true := decide_eq_true (by omega)
   clear hm hl ho
   go_enter Tryz.func43, Tryz.ntmps43
   go_wp2
   (try simp only [Exit.inBlock, Exit.then])
   refine bodyPost_ret (results_none rfl _ _ _) rfl ?_
   exact ⟨rfl, rfl⟩
  ·have t1 : decide ((n : Int) <= a) = true := decide_eq_true (by omega)
   go_enter Tryz.func43, Tryz.ntmps43
   go_wp2
   (try simp only [Exit.inBlock, Exit.then])
   refine bodyPost_ret (results_none rfl _ _ _) rfl ?_
   exact ⟨rfl, rfl⟩

theorem atW_set {l : List (Nat × Nat)} {k i v : Nat} (h : k < l.length) : atW (l.set k (i, v)) k = v := by unfold atW; simp [List.getD, h]
theorem atW_set_ne {l : List (Nat × Nat)} {k m : Nat} {p : Nat × Nat} (h : m ≠ k) : atW (l.set k p) m = atW l m := by unfold atW; simp [List.getD, List.getElem?_set_ne (Ne.symm h)]
theorem toV_putW (l : List (Nat × Nat)) (i v j : Nat) : toV (putW l i v) j = updF (toV l) i v j := by
 unfold toV updF
 rw [pos_putW]
 cases hp : pos l i with
 | some k =>
  rw [putW_some hp]
  simp only
  have hkl := (pos_some hp).1
  by_cases e : j = i
  ·subst e
   rw [if_pos rfl, hp]
   exact atW_set hkl
  ·rw [if_neg e]
   cases hj : pos l j with
   | none => rfl
   | some m =>
    have hne : m ≠ k := by
     rintro rfl
     exact e ((pos_some hj).2.symm.trans (pos_some hp).2)
    exact atW_set_ne hne
 | none =>
  rw [putW_none hp]
  simp only
  by_cases e : j = i
  ·subst e
   rw [if_pos rfl, if_pos rfl]
   simp [atW, List.getD]
  ·rw [if_neg e, if_neg e]
   cases hj : pos l j with
   | none => rfl
   | some m =>
    have := (pos_some hj).1
    simp [atW, List.getD, List.getElem?_append_left this]
theorem isPut_putW (l : List (Nat × Nat)) (i v j : Nat) : (pos (putW l i v) j).isSome = updF (fun j => (pos l j).isSome) i true j := by
 rw [pos_putW]
 unfold updF
 cases hp : pos l i with
 | some k =>
  simp only
  by_cases e : j = i
  ·subst e; simp [hp]
  ·simp [e]
 | none =>
  simp only
  by_cases e : j = i <;> simp [e]
theorem rX_put2 (n : Nat) (K : Nat -> Option Nat) (s : Vst) (i v : Nat) : (rX n K s 2).set i (.bool true) = rX n K { s with wr := putW s.wr i v } 2 := by
 show (rowL n (bitF fun j => (pos s.wr j).isSome)).set i (.bool true) = rowL n (bitF fun j => (pos (putW s.wr i v) j).isSome)
 rw [rowL_set]
 refine rowL_congr (fun j _ => ?_)
 show updF (fun i => Value.bool (pos s.wr i).isSome) i (.bool true) j = Value.bool (pos (putW s.wr i v) j).isSome
 rw [isPut_putW]
 unfold updF
 by_cases e : j = i <;> simp [e]
theorem rX_put3 (n : Nat) (K : Nat -> Option Nat) (s : Vst) (i v : Nat) : (rX n K s 3).set i (.int .u32 (v : Int)) = rX n K { s with wr := putW s.wr i v } 3 := by
 show (rowL n (valF (toV s.wr))).set i (.int .u32 (v : Int)) = rowL n (valF (toV (putW s.wr i v)))
 rw [rowL_set]
 refine rowL_congr (fun j _ => ?_)
 show updF (fun i => Value.int .u32 ((toV s.wr i : Nat) : Int)) i (.int .u32 (v : Int)) j = Value.int .u32 ((toV (putW s.wr i v) j : Nat) : Int)
 rw [toV_putW]
 unfold updF
 by_cases e : j = i <;> simp [e]
theorem put_cells {l : List (Nat × Nat)} {i v k : Nat} (h : pos l i = some k) : (putW l i v).map (·.1) = l.map (·.1) /\ (putW l i v).length = l.length := by
 rw [putW_some h]
 refine ⟨?_, by simp⟩
 rw [List.map_set]
 have hk := pos_some h
 apply List.ext_getElem?
 intro j
 rw [List.getElem?_set]
 split
 ·rename_i e
  subst e
  have h2 := hk.2
  unfold cellW at h2
  rw [if_pos (by simpa using hk.1), List.getElem?_map, List.getElem?_eq_getElem hk.1]
  rw [List.getD, List.getElem?_eq_getElem hk.1] at h2
  exact congrArg some h2.symm
 ·rfl

theorem RPut_old {base b n : Nat} {all : Bool} {v : Nat -> Value} {K : Nat -> Option Nat} {s : Vst} (i k x : Nat) (hl : s.lost = false) (hk : pos s.wr i = some k) (hi : i < n) (hx : x < 2 ^ 32) (w : World) (h : IsRefV w base b n all v K s) :
  Calls Tryz.prog 43 #[.pointer (some ⟨b, 0, none⟩), .int .i64 (i : Int), .int .u32 (x : Int)] w fun e w' => e = .returned (.tuple #[]) /\ LeftR w base b n all v K { s with wr := putW s.wr i x } w' := by
 have hn := h.nmax
 obtain ⟨c0, _, _, c3, c4, _, _, c7, _⟩ := h.cells
 obtain ⟨g2, p2, hv2, hp2, hm2, hg2, hl2, hr2⟩ := h.row (i := 2) (by omega) (by omega)
 obtain ⟨g3, p3, hv3, hp3, hm3, hg3, hl3, hr3⟩ := h.row (i := 3) (by omega) (by omega)
 have hg23 : g3 ≠ g2 := fun e => by
  have := h.parts.own.apart 2 3 g2 (by omega) (by omega) (by rw [hv2]; rfl) (by rw [hv3, e]; rfl)
  omega
 have d2 := (hr2 i hi).1.trans (rX_2 n K s hi)
 have d3 := (hr3 i hi).1.trans (rX_3 n K s hi)
 have f2 := (hr2 i hi).2
 have f3 := (hr3 i hi).2
 rw [hk] at d2
 rw [hv2] at c3
 rw [hv3] at c4
 rw [missI_no hl] at c7
 have HH := hidp h
 have HOK : Hid (VOk n { s with wr := putW s.wr i x }) := hidp (by
  have := h.ok.put (a := (i : Int)) hx
  rwa [putS_yes (opn_yes hi hl)] at this)
 have HV2 := hidp hv2
 have HV3 := hidp hv3
 have HPC := hidp (put_cells (v := x) hk)
 have t0 : decide ((i : Int) < 0) = false := decide_eq_false (by omega)
 have t1 : decide ((n : Int) <= i) = false := decide_eq_false (by omega)
 have t2 : decide (n <= i) = false := decide_eq_false (by omega)
 clear h hr2 hr3 hv2 hv3 hk hl
 generalize toV s.wr i = old at *
 go_enter Tryz.func43, Tryz.ntmps43
 go_wp2
 go_end0
 obtain ⟨hp5, ht5⟩ := HH.out.parts.store (i := 2) (g := g2) (cap := p2) (by omega) HV2.out i (.bool true)
 obtain ⟨hp6, ht6⟩ := hp5.store (i := 3) (g := g3) (cap := p3) (by omega) HV3.out i (.int .u32 (x : Int))
 refine ⟨rfl, v, { parts := hp6.congr rfl (six rfl rfl rfl rfl rfl HPC.out.2.symm) (six rfl rfl (rX_put2 n K s i x) (rX_put3 n K s i x) rfl ?_), ok := HOK.out, nmax := hn, k32 := HH.out.k32 }, fun g hg => .inl hg, ht5.trans ht6⟩
 show ntVs (s.wr.map (·.1)) = ntVs ((putW s.wr i x).map (·.1))
 rw [HPC.out.1]

theorem RPut_new {base b n : Nat} {all : Bool} {v : Nat -> Value} {K : Nat -> Option Nat} {s : Vst} (i x : Nat) (hl : s.lost = false) (hk : pos s.wr i = none) (hi : i < n) (hx : x < 2 ^ 32) (hlim : s.wr.length < 2 ^ 40) (w : World) (h : IsRefV w base b n all v K s) :
    Calls Tryz.prog 43 #[.pointer (some ⟨b, 0, none⟩), .int .i64 (i : Int), .int .u32 (x : Int)] w fun e w' => e = .returned (.tuple #[]) /\ LeftR w base b n all v K { s with wr := putW s.wr i x } w' := by
  have hn := h.nmax
  obtain ⟨c0, _, _, c3, c4, _, c6, c7, _⟩ := h.cells
  obtain ⟨g2, p2, hv2, hp2, hm2, hg2, hl2, hr2⟩ := h.row (i := 2) (by omega) (by omega)
  obtain ⟨g3, p3, hv3, hp3, hm3, hg3, hl3, hr3⟩ := h.row (i := 3) (by omega) (by omega)
  have hg23 : g3 ≠ g2 := fun e => by
    have := h.parts.own.apart 2 3 g2 (by omega) (by omega) (by rw [hv2]; rfl) (by rw [hv3, e]; rfl)
    omega
  have d2 := (hr2 i hi).1.trans (rX_2 n K s hi)
  rw [hk] at d2
  rw [hv2] at c3
  rw [hv3] at c4
  rw [missI_no hl] at c7
  have HO : Hid (w.ownsRow base 3 1 (v 5) s.wr.length (ntVs (s.wr.map (·.1)))) := hidp (h.parts.own.rowAt (by omega) rfl rfl rfl rfl)
  obtain ⟨A, cr, hv5⟩ := own_slice HO.out
  rw [hv5] at c6
  obtain ⟨q, hq⟩ : ∃ q, s.wr.length = q := ⟨_, rfl⟩
  have HQ := hidp hq
  have HV5 := hidp hv5
  have HH := hidp h
  have HV2 := hidp hv2
  have HV3 := hidp hv3
  have hbl := h.parts.head.lt
  have HOK : Hid (VOk n { s with wr := putW s.wr i x }) := hidp (by
    have := h.ok.put (a := (i : Int)) hx
    rwa [putS_yes (opn_yes hi hl)] at this)
  have HPW := hidp (putW_none (v := x) hk)
  have t0 : decide ((i : Int) < 0) = false := decide_eq_false (by omega)
  have t1 : decide ((n : Int) <= i) = false := decide_eq_false (by omega)
  have t2 : decide (n <= i) = false := decide_eq_false (by omega)
  obtain ⟨i0, hin, hz0, hz1, hz2⟩ := info_parts intInfo
  rw [hq] at c6 hlim
  clear h hr2 hr3 hv2 hv3 hk hl hv5 hq
  go_enter Tryz.func43, Tryz.ntmps43
  go_wp2_with (first
    | (at_builtin
       refine wpList_append_lies _ rfl _ _ 35 rfl base 3 i0 (.int .i64 0) 1 8 Tryz.underlying35 hin hz0 hz1 hz2 rfl (by decide) (.slice A q cr) q (ntVs (s.wr.map (·.1))) rfl ?c0 ⟨_, 0, none⟩ 1 1 [.int .i64 (i : Int)] rfl rfl ?c1 ?c2 (by omega) ?c3 ?c4 ?c5 _ rfl ?_
       case c0 =>
         have h9 := HO.out.alloc (.cells #[.int .i64 (i : Int)] 3)
         rw [HV5.out, HQ.out] at h9
         rw [<- HQ.out] at h9 ⊢
         exact h9
       case c1 => intro j y hy; rcases j with _ | j; (· simp at hy; subst hy; simp [Addr.add]); (· simp at hy)
       case c2 => simp [Value.oneCell']
       case c3 => unfold maxLen; omega
       case c4 => omega
       case c5 => have := HH.out.parts.bb; have := HH.out.parts.head.lt; simp; omega
       intro g cap w4 hown4 hgrow4 hat4 hlt4
       obtain ⟨hp4, hA4, hT4⟩ := (HH.out.parts.keep (Bnew (B0 w) (.cells #[.int .i64 (i : Int)] 3))).grow (i := 5) (by omega) hown4 (by rw [HV5.out, HQ.out]; exact hgrow4) (fun q' hq' => by
         have hq' : g = q' := by simpa [Value.ownBlock] using hq'
         subst hq'
         rcases hat4 with h1 | h1
         · left; rw [HV5.out, HQ.out]; exact h1
         · right; rw [h1]; exact Nat.le_refl _)
       have e3 : w4.cell? ⟨b, 3, none⟩ = some (.slice (some ⟨g2, 0, none⟩) n p2) := (hp4.head.cell 3).trans (by rw [<- HV2.out]; rfl)
       have e4 : w4.cell? ⟨b, 4, none⟩ = some (.slice (some ⟨g3, 0, none⟩) n p3) := (hp4.head.cell 4).trans (by rw [<- HV3.out]; rfl)
       have e6 : w4.cell? ⟨b, 6, none⟩ = some (.slice A q cr) := (hp4.head.cell 6).trans (by rw [<- HQ.out, <- HV5.out]; rfl)
       have f6 := hp4.head.thawed 6
       obtain ⟨d5, f5⟩ := hp4.at_ (i := 2) (g := g2) (cap := p2) (by omega) HV2.out (show i < n from hi)
       obtain ⟨d7, f7⟩ := hp4.at_ (i := 3) (g := g3) (cap := p3) (by omega) HV3.out (show i < n from hi)
       have d5' : w4.cell? ⟨g2, i, none⟩ = some (.bool (pos s.wr i).isSome) := d5.trans (rX_2 n K s hi)
       have d7' : w4.cell? ⟨g3, i, none⟩ = some (.int .u32 ((toV s.wr i : Nat) : Int)) := d7.trans (rX_3 n K s hi)
       have HP4 := hidp hp4
       have HA4 := hidp hA4
       have HT4 := hidp (((T0 (OwnF b 6 v) w).alloc (.cells #[.int .i64 (i : Int)] 3)).trans hT4)
       clear hp4 hA4 hT4 hown4 hgrow4 hat4 d5 d7)
    | go_in)
  go_end0
  obtain ⟨hp5, _⟩ := HP4.out.setHead 6 (.slice (some ⟨g, 0, none⟩) (q + 1) cap)
  obtain ⟨hp6, _⟩ := hp5.store (i := 2) (g := g2) (cap := p2) (by omega) HV2.out i (.bool true)
  obtain ⟨hp7, _⟩ := hp6.store (i := 3) (g := g3) (cap := p3) (by omega) HV3.out i (.int .u32 (x : Int))
  refine ⟨rfl, updF v 5 (.slice (some ⟨g, 0, none⟩) (q + 1) cap), { parts := hp7.congr rfl (six rfl rfl rfl rfl rfl ?_) (six rfl rfl (rX_put2 n K s i x) (rX_put3 n K s i x) rfl ?_), ok := HOK.out, nmax := hn, k32 := HH.out.k32 }, fun z hz => ?_,
    ((HT4.out.put (p := ⟨b, 6, none⟩) (.inl rfl) _).put (p := ⟨g2, i, none⟩) (.inr ⟨2, by omega, by rw [HV2.out]; rfl⟩) _).put (p := ⟨g3, i, none⟩) (.inr ⟨3, by omega, by rw [HV3.out]; rfl⟩) _⟩
  · show q + 1 = (putW s.wr i x).length
    rw [HPW.out, <- HQ.out]
    simp
  · show ntVs (s.wr.map (·.1)) ++ [.int .i64 (i : Int)] = ntVs ((putW s.wr i x).map (·.1))
    rw [HPW.out]
    simp [ntVs]
  · rcases HA4.out z hz with h1 | h1
    · exact .inl h1
    · simp at h1
      exact .inr (by omega)

theorem VRPut_c {base b n : Nat} {all : Bool} {v : Nat -> Value} {K : Nat -> Option Nat} {s : Vst} (a : Int) (x : Nat) (hx : x < 2 ^ 32) (h1 : s.wr.length < 2 ^ 40) (w : World) (h : IsRefV w base b n all v K s) :
  Calls Tryz.prog 43 #[.pointer (some ⟨b, 0, none⟩), .int .i64 a, .int .u32 (x : Int)] w fun e w' => e = .returned (.tuple #[]) /\ LeftR w base b n all v K (putS n s a x) w' := by
 by_cases ho : opn n s a = true
 ·obtain ⟨i, rfl, hi, hl⟩ := opn_at ho
  rw [putS_yes ho]
  cases hp : pos s.wr i with
  | some k => exact RPut_old i k x hl hp hi hx w h
  | none => exact RPut_new i x hl hp hi hx h1 w h
 ·have ho : opn n s a = false := by simpa using ho
  rw [putS_no ho]
  refine (RPut_no a _ ho w h).mono ?_
  rintro e w1 ⟨rfl, rfl⟩
  exact ⟨rfl, LeftR.same h⟩
end
end Go.Proofs.YtnmhdlpnimdffaaGreatDoor

namespace Go.Proofs.YtnmhdlpnimdffaaGreatDoor
open Go.ChangeShapes Go.WideShapes Go.ChangeAt Go.RowKit Go.Maps
set_option linter.unusedVariables false
set_option maxRecDepth 100000
section
structure Ob where
 I : World -> Vst -> (Nat -> Prop) -> Prop
 lt : ∀ {w : World} {s : Vst} {A : Nat -> Prop}, I w s A -> ∀ i, A i -> i < w.heap.size
 turns : ∀ {w w' : World} {s : Vst} {A G : Nat -> Prop}, I w s A -> Turns G w w' -> (∀ i, A i -> ¬ G i) -> I w' s A

def vOb (base b n : Nat) (wh : Bool) (K : Nat -> Option Nat) : Ob where
 I w s A := ∃ o, IsView w base b n wh o K s /\ A = o.A b
 lt := by
  rintro w s A ⟨o, h, rfl⟩
  exact h.lt
 turns := by
  rintro w w' s A G ⟨o, h, rfl⟩ ht hf
  exact ⟨o, h.turns ht hf, rfl⟩
def rOb (base b n : Nat) (all : Bool) (K : Nat -> Option Nat) : Ob where
 I w s A := ∃ v, IsRefV w base b n all v K s /\ A = OwnF b 6 v
 lt := by
  rintro w s A ⟨v, h, rfl⟩
  exact h.parts.lt
 turns := by
  rintro w w' s A G ⟨v, h, rfl⟩ ht hf
  exact ⟨v, h.turns ht hf, rfl⟩

def Ob.Left (O : Ob) (w : World) (A : Nat -> Prop) (s : Vst) (w' : World) : Prop := ∃ A', O.I w' s A' /\ (∀ g, A' g -> A g \/ w.heap.size <= g) /\ Turns A w w'
def Ob.At (O : Ob) (w0 : World) (A G : Nat -> Prop) (s : Vst) (w : World) : Prop :=
 ∃ A', O.I w s A' /\ (∀ g, A' g -> A g \/ w0.heap.size <= g) /\ Turns A w0 w /\ ∀ g, G g -> w0.heap.size <= g /\ g < w.heap.size /\ ¬ A' g
def Stay (G : Nat -> Prop) (w w' : World) : Prop := w.heap.size <= w'.heap.size /\ ∀ g, G g -> g < w.heap.size -> w'.heap[g]? = w.heap[g]?
def And1 (G : Nat -> Prop) (N : Nat) : Nat -> Prop := fun g => G g \/ g = N
section
variable {O : Ob} {w w' w0 : World} {A G : Nat -> Prop} {s s' : Vst} {N : Nat}
theorem Ob.keep {A : Nat -> Prop} (h : O.I w s A) (hb : Below w.heap.size w w') : O.I w' s A := O.turns h (Turns.of_below hb (fun _ => False)) (fun _ _ x => x)
theorem Ob.At.start (h : O.I w s A) : O.At w A (fun _ => False) s w := ⟨A, h, fun g hg => .inl hg, T0 _ _, fun g hg => hg.elim⟩
theorem Ob.At.left (h : O.At w0 A G s w) : O.Left w0 A s w := by
 obtain ⟨A', h1, h2, h3, _⟩ := h
 exact ⟨A', h1, h2, h3⟩
theorem Ob.At.keep (h : O.At w0 A G s w) (hb : Below w.heap.size w w') : O.At w0 A G s w' := by
 obtain ⟨A', h1, h2, h3, h4⟩ := h
 exact ⟨A', Ob.keep h1 hb, h2, h3.trans (Turns.of_below hb A), fun g hg => ⟨(h4 g hg).1, Nat.lt_of_lt_of_le (h4 g hg).2.1 hb.size, (h4 g hg).2.2⟩⟩
theorem Ob.At.alloc (h : O.At w0 A G s w) (o : Obj) : O.At w0 A G s (w.alloc o) := h.keep (Bnew (B0 w) o)
theorem Ob.At.drew (h : O.At w0 A G s w) : O.At w0 A G s w.drew := h.keep (Bdrew (B0 w))
theorem Ob.At.box (h : O.At w0 A G s w) (o : Obj) : O.At w0 A (And1 G w.heap.size) s (w.alloc o) := by
 obtain ⟨A', h1, h2, h3, h4⟩ := h
 have hs := h3.size
 refine ⟨A', Ob.keep h1 (Bnew (B0 w) o), h2, h3.alloc o, ?_⟩
 rintro g (hg | rfl)
 ·exact ⟨(h4 g hg).1, Nat.lt_of_lt_of_le (h4 g hg).2.1 (Bnew (B0 w) o).size, (h4 g hg).2.2⟩
 ·exact ⟨hs, by simp, fun x => by have := O.lt h1 _ x; omega⟩
theorem Ob.At.put (h : O.At w0 A G s w) {p : Addr} (hp : G p.block) (u : Value) : O.At w0 A G s (w.setCell p u) := by
 obtain ⟨A', h1, h2, h3, h4⟩ := h
 have hq := h4 _ hp
 refine ⟨A', O.turns h1 ((T0 (fun i => i = p.block) w).put (p := p) rfl u) (fun i hi e => hq.2.2 (by rw [<- e]; exact hi)), h2, h3.put_new hq.1 u, fun g hg => ⟨(h4 g hg).1, by simp; exact (h4 g hg).2.1, (h4 g hg).2.2⟩⟩
theorem Ob.At.less {G' : Nat -> Prop} (h : O.At w0 A G s w) (hg : ∀ g, G' g -> G g) : O.At w0 A G' s w := by
 obtain ⟨A', h1, h2, h3, h4⟩ := h
 exact ⟨A', h1, h2, h3, fun g x => h4 g (hg g x)⟩
theorem Ob.At.call (h : O.At w0 A G s w) {P : Program} {f : FuncId} {args : Array Value} {R : Ending -> Prop} (hc : ∀ B, O.I w s B -> Calls P f args w fun e w' => R e /\ O.Left w B s' w') :
  Calls P f args w fun e w' => R e /\ O.At w0 A G s' w' /\ Stay G w w' := by
 obtain ⟨A', h1, h2, h3, h4⟩ := h
 refine (hc A' h1).mono ?_
 rintro e w' ⟨hr, B, k1, k2, k3⟩
 have hs := h3.size
 refine ⟨hr, ⟨B, k1, fun g hg => ?_, k3.more_new hs h3 h2, fun g hg => ?_⟩, k3.size, fun g hg hl => k3.block g hl (h4 g hg).2.2⟩
 ·rcases k2 g hg with h5 | h5
  ·exact h2 g h5
  ·exact .inr (by omega)
 ·refine ⟨(h4 g hg).1, Nat.lt_of_lt_of_le (h4 g hg).2.1 k3.size, fun x => ?_⟩
  rcases k2 g x with h5 | h5
  ·exact (h4 g hg).2.2 h5
  ·have := (h4 g hg).2.1; omega
theorem Stay.of_below (hb : Below w.heap.size w w') (G : Nat -> Prop) : Stay G w w' := ⟨hb.size, fun g _ hl => hb.block g hl⟩
theorem Stay.trans {w'' : World} (h : Stay G w w') (k : Stay G w' w'') : Stay G w w'' := ⟨Nat.le_trans h.1 k.1, fun g hg hl => (k.2 g hg (Nat.lt_of_lt_of_le hl h.1)).trans (h.2 g hg hl)⟩
theorem Stay.less {G' : Nat -> Prop} (h : Stay G w w') (hg : ∀ g, G' g -> G g) : Stay G' w w' := ⟨h.1, fun g x hl => h.2 g (hg g x) hl⟩
theorem Stay.held {g : Nat} {t : TypeId} {cs : Array Value} (h : Stay G w w') (hg : G g) (hh : Held w g t cs) : Held w' g t cs := (h.2 g hg hh.lt).trans hh
end

theorem nodup_few : ∀ (n : Nat) (l : List Nat), (∀ i ∈ l, i < n) -> l.Nodup -> l.length <= n
 | 0, l, h, _ => by
  cases l with
  | nil => simp
  | cons a r => have := h a (List.mem_cons_self ..); omega
 | n + 1, l, h, hd => by
  by_cases hn : n ∈ l
  ·have h1 := nodup_few n (l.erase n) (fun i hi => by
    have h2 := (hd.mem_erase_iff).1 hi
    have h3 := h i h2.2
    have h4 := h2.1
    omega) (hd.erase n)
   rw [List.length_erase_of_mem hn] at h1
   omega
  ·have h1 := nodup_few n l (fun i hi => by
    have h3 := h i hi
    have h4 : i ≠ n := fun e => hn (e ▸ hi)
    omega) hd
   omega
theorem VOk.few {n : Nat} {s : Vst} (h : VOk n s) : s.rd.length <= n /\ s.wr.length <= n := by
 refine ⟨nodup_few _ _ h.rdLt h.rdNd, ?_⟩
 have : (s.wr.map (·.1)).length <= n := by
  refine nodup_few _ _ (fun i hi => ?_) ?_
  ·obtain ⟨p, hp, rfl⟩ := List.mem_map.1 hi
   exact (h.wrLt p hp).1
  ·unfold List.Nodup
   rw [List.pairwise_iff_getElem]
   intro i j hi hj hij e
   have hj' : j < s.wr.length := by simpa using hj
   have h1 := h.wrNd i (by omega)
   have h2 := h.wrNd j hj'
   have e1 : cellW s.wr i = cellW s.wr j := by
    unfold cellW
    simp [List.getD, List.getElem?_eq_getElem (show i < s.wr.length by omega), List.getElem?_eq_getElem hj'] at e ⊢
    exact e
   rw [e1, h2] at h1
   injection h1 with h1
   omega
 simpa using this

section
variable {base b n : Nat} {wh all : Bool} {K : Nat -> Option Nat} {s : Vst} {w w0 : World} {A G : Nat -> Prop}
theorem vGetA (hn : n < 2 ^ 40) (a : Int) (h : (vOb base b n wh K).At w0 A G s w) :
  Calls Tryz.prog 25 #[.pointer (some ⟨b, 0, none⟩), .int .i64 a] w fun e w' => e = .returned (.int .u32 ((getV n K s a : Nat) : Int)) /\ (vOb base b n wh K).At w0 A G (getS n K s a) w' /\ Stay G w w' := by
 refine h.call ?_
 rintro B ⟨o, hI, rfl⟩
 refine (VGet_c a (by have := hI.ok.few; omega) (by have := hI.ok.few; omega) w hI).mono ?_
 rintro e w' ⟨rfl, o', h1, h2, h3⟩
 exact ⟨rfl, _, ⟨o', h1, rfl⟩, h2, h3.more (fun i hi => .inl hi)⟩
theorem vPutA (hn : n < 2 ^ 40) (a : Int) (v : Nat) (hv : v < 2 ^ 32) (h : (vOb base b n wh K).At w0 A G s w) :
  Calls Tryz.prog 33 #[.pointer (some ⟨b, 0, none⟩), .int .i64 a, .int .u32 (v : Int)] w fun e w' => e = .returned (.tuple #[]) /\ (vOb base b n wh K).At w0 A G (putS n s a v) w' /\ Stay G w w' := by
 refine h.call ?_
 rintro B ⟨o, hI, rfl⟩
 refine (VPut_c a v hv (by have := hI.ok.few; omega) w hI).mono ?_
 rintro e w' ⟨rfl, o', h1, h2, h3⟩
 exact ⟨rfl, _, ⟨o', h1, rfl⟩, h2, h3.more (fun i hi => .inl hi)⟩
theorem rGetA (hn : n < 2 ^ 40) (a : Int) (h : (rOb base b n all K).At w0 A G s w) :
  Calls Tryz.prog 40 #[.pointer (some ⟨b, 0, none⟩), .int .i64 a] w fun e w' => e = .returned (.int .u32 ((getV n K s a : Nat) : Int)) /\ (rOb base b n all K).At w0 A G (getS n K s a) w' /\ Stay G w w' := by
 refine h.call ?_
 rintro B ⟨v, hI, rfl⟩
 refine (VRGet_c a (by have := hI.ok.few; omega) w hI).mono ?_
 rintro e w' ⟨rfl, v', h1, h2, h3⟩
 exact ⟨rfl, _, ⟨v', h1, rfl⟩, h2, h3⟩
theorem rPutA (hn : n < 2 ^ 40) (a : Int) (x : Nat) (hx : x < 2 ^ 32) (h : (rOb base b n all K).At w0 A G s w) :
  Calls Tryz.prog 43 #[.pointer (some ⟨b, 0, none⟩), .int .i64 a, .int .u32 (x : Int)] w fun e w' => e = .returned (.tuple #[]) /\ (rOb base b n all K).At w0 A G (putS n s a x) w' /\ Stay G w w' := by
 refine h.call ?_
 rintro B ⟨v, hI, rfl⟩
 refine (VRPut_c a x hx (by have := hI.ok.few; omega) w hI).mono ?_
 rintro e w' ⟨rfl, v', h1, h2, h3⟩
 exact ⟨rfl, _, ⟨v', h1, rfl⟩, h2, h3⟩
end
end
end Go.Proofs.YtnmhdlpnimdffaaGreatDoor

namespace Go.Proofs.YtnmhdlpnimdffaaGreatDoor.HM

theorem bit_eq (x k : Nat) : x / 2 ^ k % 2 = (x.testBit k).toNat := by
 rw [Nat.testBit_eq_decide_div_mod_eq]
 rcases Nat.mod_two_eq_zero_or_one (x / 2 ^ k) with h | h <;> simp [h]

def getN (w a k : Nat) : Nat := w / 2 ^ a % 2 ^ k
def putN (w a k v : Nat) : Nat := (w &&& (2 ^ 64 - 1 - (2 ^ k - 1) * 2 ^ a)) ||| v * 2 ^ a

theorem mask_lt (a k : Nat) (h : a + k <= 64) : (2 ^ k - 1) * 2 ^ a < 2 ^ 64 := by
 have h1 : (2 ^ k - 1) * 2 ^ a < 2 ^ k * 2 ^ a := (Nat.mul_lt_mul_right (Nat.two_pow_pos a)).2 (by have := Nat.two_pow_pos k; omega)
 rw [<- Nat.pow_add] at h1
 exact Nat.lt_of_lt_of_le h1 (Nat.pow_le_pow_right (by omega) (by omega))

theorem bit_putN (w a k v i : Nat) (h : a + k <= 64) (hv : v < 2 ^ k) (hi : i < 64) : (putN w a k v).testBit i = if a <= i /\ i < a + k then v.testBit (i - a) else w.testBit i := by
 unfold putN
 rw [Nat.testBit_or, Nat.testBit_and, Nat.sub_sub, Nat.add_comm 1, Nat.testBit_two_pow_sub_succ (mask_lt a k h), Nat.testBit_mul_two_pow, Nat.testBit_mul_two_pow, Nat.testBit_two_pow_sub_one]
 by_cases h1 : a <= i
 ·by_cases h2 : i < a + k
  ·have h3 : i - a < k := by omega
   simp [h1, h2, h3, hi]
  ·have h3 : ¬ i - a < k := by omega
   have h4 : v.testBit (i - a) = false := Nat.testBit_lt_two_pow (Nat.lt_of_lt_of_le hv (Nat.pow_le_pow_right (by omega) (by omega)))
   simp [h1, h2, h3, h4, hi]
 ·simp [h1, hi]

theorem putN_lt (w a k v : Nat) (h : a + k <= 64) (hv : v < 2 ^ k) : putN w a k v < 2 ^ 64 := by
 have h1 : v * 2 ^ a < 2 ^ 64 := by
  have h2 : v * 2 ^ a < 2 ^ k * 2 ^ a := (Nat.mul_lt_mul_right (Nat.two_pow_pos a)).2 hv
  rw [<- Nat.pow_add] at h2
  exact Nat.lt_of_lt_of_le h2 (Nat.pow_le_pow_right (by omega) (by omega))
 unfold putN
 refine Nat.or_lt_two_pow (Nat.lt_of_le_of_lt Nat.and_le_right ?_) h1
 have := Nat.two_pow_pos 64
 omega

theorem bit_high {x i : Nat} (h : x < 2 ^ 64) (hi : 64 <= i) : x.testBit i = false :=
 Nat.testBit_lt_two_pow (Nat.lt_of_lt_of_le h (Nat.pow_le_pow_right (by omega) hi))

def onesTo (v k : Nat) : Nat := ((List.range k).filter fun i => v.testBit i).length
def freeTo (v k : Nat) : List Nat := (List.range k).filter fun i => !v.testBit i
theorem onesTo_succ (v k : Nat) : onesTo v (k + 1) = onesTo v k + if v.testBit k then 1 else 0 := by
 unfold onesTo
 rw [List.range_succ, List.filter_append, List.length_append]
 cases h : v.testBit k <;> simp [h]
theorem onesTo_le (v k : Nat) : onesTo v k <= k := by
 unfold onesTo
 exact Nat.le_trans (List.length_filter_le _ _) (by simp)
theorem freeTo_succ (v k : Nat) : freeTo v (k + 1) = freeTo v k ++ if v.testBit k then [] else [k] := by
 unfold freeTo
 rw [List.range_succ, List.filter_append]
 cases h : v.testBit k <;> simp [h]
theorem ones_free (v k : Nat) : onesTo v k + (freeTo v k).length = k := by
 induction k with
 | zero => rfl
 | succ k ih =>
  rw [onesTo_succ, freeTo_succ, List.length_append]
  cases h : v.testBit k <;> simp <;> omega

def logI (n : Int) : Int := if n < 1 then -1 else (Nat.log2 n.toNat : Int)
theorem logI_at (n : Int) (k : Nat) (h1 : 1 <= n / 2 ^ k) (h2 : n / 2 ^ (k + 1) < 1) : logI n = k := by
 have hp : (0 : Int) < 2 ^ k := Int.pow_pos (by omega)
 have hn : 1 <= n := by
  have h3 := (Int.le_ediv_iff_mul_le hp).1 h1
  omega
 obtain ⟨m, rfl⟩ := Int.eq_ofNat_of_zero_le (show 0 <= n by omega)
 unfold logI
 rw [if_neg (by omega), Int.toNat_natCast]
 have h4 : 2 ^ k <= m := by
  have h3 := (Int.le_ediv_iff_mul_le hp).1 h1
  rw [Int.one_mul] at h3
  exact_mod_cast h3
 have h5 : m < 2 ^ (k + 1) := by
  have h3 := (Int.ediv_lt_iff_lt_mul (Int.pow_pos (by omega))).1 h2
  rw [Int.one_mul] at h3
  exact_mod_cast h3
 have : m ≠ 0 := by have := Nat.two_pow_pos k; omega
 have e : Nat.log2 m = k := by
  rw [Nat.log2_eq_iff this]
  exact ⟨h4, h5⟩
 rw [e]
theorem logI_no (n : Int) (h : n < 1) : logI n = -1 := by unfold logI; rw [if_pos h]

end Go.Proofs.YtnmhdlpnimdffaaGreatDoor.HM

namespace Go.Proofs.YtnmhdlpnimdffaaGreatDoor
open Go.ChangeShapes Go.WideShapes Go.ChangeAt Go.RowKit
set_option linter.unusedVariables false
section
def fieldB (a k : Int) : Bool := decide (0 <= a /\ 1 <= k /\ a <= 64 - k)
theorem fieldB_yes {a k : Int} (h0 : 0 <= a) (h1 : 1 <= k) (h2 : a <= 64 - k) : fieldB a k = true := by unfold fieldB; simp [h0, h1, h2]
theorem fieldB_no {a k : Int} (h : ¬ (0 <= a /\ 1 <= k /\ a <= 64 - k)) : fieldB a k = false := by unfold fieldB; exact decide_eq_false h
theorem isField_c (a k : Int) (ha : -9223372036854775808 <= a) (ha' : a <= 9223372036854775807) (hk : -9223372036854775808 <= k) (hk' : k <= 9223372036854775807) (w : World) :
  Calls Tryz.prog 118 #[.int .i64 a, .int .i64 k] w fun e w' => e = .returned (.bool (fieldB a k)) /\ w = w' := by
 by_cases h0 : 0 <= a
 ·by_cases h1 : 1 <= k
  ·by_cases h2 : a <= 64 - k
   ·have H := hidp (fieldB_yes (a := a) (k := k) (by omega) (by omega) (by omega))
    go_enter Tryz.func118, Tryz.ntmps118
    go_wp2
    go_ret
    exact ⟨by rw [H.out]; rfl, rfl⟩
   ·have H := hidp (fieldB_no (a := a) (k := k) (by omega))
    go_enter Tryz.func118, Tryz.ntmps118
    go_wp2
    go_ret
    exact ⟨by rw [H.out]; rfl, rfl⟩
  ·have H := hidp (fieldB_no (a := a) (k := k) (by omega))
   go_enter Tryz.func118, Tryz.ntmps118
   go_wp2
   go_ret
   exact ⟨by rw [H.out]; rfl, rfl⟩
 ·have H := hidp (fieldB_no (a := a) (k := k) (by omega))
  go_enter Tryz.func118, Tryz.ntmps118
  go_wp2
  go_ret
  exact ⟨by rw [H.out]; rfl, rfl⟩
theorem low_wrap : ∀ k : Fin 65, 1 <= k.val -> IntKind.u64.wrap (IntKind.u64.wrap (2 ^ k.val) - 1) = ((2 ^ k.val - 1 : Nat) : Int) := by decide +kernel
theorem lowBits_c (k : Int) (h0 : 1 <= k) (h1 : k <= 64) (w : World) :
  Calls Tryz.prog 119 #[.int .i64 k] w fun e w' => e = .returned (.int .u64 ((2 ^ k.toNat - 1 : Nat) : Int)) /\ w = w' := by
 have H := hidp (low_wrap ⟨k.toNat, by omega⟩ (by simp; omega))
 go_enter Tryz.func119, Tryz.ntmps119
 go_wp2
 go_ret
 exact ⟨ret_int H.out, rfl⟩
theorem odd_bit (v k : Nat) : ((((v / 2 ^ k % 2 : Nat) : Int)) == 1) = v.testBit k := by
 rw [HM.bit_eq]
 cases v.testBit k <;> rfl
theorem Bit_c (v : Nat) (i : Int) (b : Bool) (hv : v < 2 ^ 32) (h0 : 0 <= i) (h1 : i < 32) (hb : v.testBit i.toNat = b) (w : World) :
  Calls Tryz.prog 109 #[.int .u32 (v : Int), .int .i64 i] w fun e w' => e = .returned (.bool b) /\ w = w' := by
 have H := hidp hb
 clear hb
 go_enter Tryz.func109, Tryz.ntmps109
 go_wp2
 go_ret
 exact ⟨ret_bool (by rw [shr_cast, tmod_two, odd_bit, H.out]), rfl⟩
theorem ROnes_c (v : Nat) (hv : v < 2 ^ 32) (w : World) :
  Calls Tryz.prog 96 #[.int .u32 (v : Int)] w fun e w' => e = .returned (.int .i64 ((HM.onesTo v 32 : Nat) : Int)) /\ w = w' := by
 go_enter Tryz.func96, Tryz.ntmps96
 go_wp2
 go_loop [3, 4] (fun s i => ∃ k : Nat, k <= 32 /\ i = .int .i64 k /\ s = .int .i64 ((HM.onesTo v k : Nat) : Int)) (fun _ i => 32 - (intOf i).toNat)
 case atStart => exact ⟨0, by omega, rfl, rfl⟩
 case round =>
  obtain ⟨k, hk, rfl, rfl⟩ := hrel
  have hle := HM.onesTo_le v k
  by_cases hlt : k < 32
  ·have HS := hidp (HM.onesTo_succ v k)
   cases hb : v.testBit k
   all_goals
    have HT := hidp ((congrArg v.testBit (Int.toNat_natCast k)).trans hb)
    have HB := hidp hb
    clear hb
    go_wp2_with (go_at_call 109; refine (Bit_c v k _ hv (by omega) (by omega) HT.out _).mono ?_; rintro e w' ⟨rfl, rfl⟩)
    go_round
    case rel => exact ⟨k + 1, by omega, by go_num, by rw [HS.out, HB.out]; go_num⟩
    case measure => simp [intOf]; omega
  ·obtain rfl : k = 32 := by omega
   go_wp2
   go_ret
   exact ⟨rfl, rfl⟩
theorem Log_c (n : Int) (h0 : -9223372036854775808 <= n) (h1 : n <= 9223372036854775807) (w : World) :
  Calls Tryz.prog 152 #[.int .i64 n] w fun e w' => e = .returned (.int .i64 (HM.logI n)) /\ w = w' := by
 go_enter Tryz.func152, Tryz.ntmps152
 go_wp2
 go_loop [3, 5] (fun l i => ∃ k : Nat, k <= 63 /\ i = .int .i64 k /\ l = .int .i64 ((k : Int) - 1) /\ Hid (0 < k -> 1 <= n / 2 ^ (k - 1))) (fun _ i => 63 - (intOf i).toNat)
 case atStart => exact ⟨0, by omega, rfl, rfl, hidp (fun h => absurd h (by omega))⟩
 case round =>
  obtain ⟨k, hk, rfl, rfl, HF⟩ := hrel
  by_cases hlt : n / 2 ^ k < 1
  ·have HL : Hid (HM.logI n = (k : Int) - 1) := by
    by_cases hk0 : k = 0
    ·subst hk0
     exact hidp (HM.logI_no n (by simpa using hlt))
    ·have hs : k - 1 + 1 = k := by omega
     refine hidp ((HM.logI_at n (k - 1) (HF.out (by omega)) (by rw [hs]; exact hlt)).trans (by omega))
   go_wp2
   go_ret
   exact ⟨ret_int HL.out.symm, rfl⟩
  ·have hk2 : k < 63 := by
    rcases Nat.lt_or_ge k 63 with h | h
    ·exact h
    ·obtain rfl : k = 63 := by omega
     exact absurd (show n / 2 ^ 63 < 1 from by omega) hlt
   have HN := hidp hlt
   go_wp2
   go_round
   case rel => exact ⟨k + 1, by omega, by go_num, by go_num, hidp (fun _ => by have := HN.out; simp only [Nat.add_sub_cancel]; omega)⟩
   case measure => simp [intOf]; omega
theorem RLog_c (n : Int) (h0 : -9223372036854775808 <= n) (h1 : n <= 9223372036854775807) (w : World) :
  Calls Tryz.prog 137 #[.int .i64 n] w fun e w' => e = .returned (.int .i64 (HM.logI n)) /\ w = w' := by
 go_enter Tryz.func137, Tryz.ntmps137
 go_wp2
 go_loop [0, 3] (fun m l => ∃ (q : Int) (k : Nat), k <= 63 /\ m = .int .i64 q /\ -9223372036854775808 <= q /\ q <= 9223372036854775807 /\ Hid (q = n / 2 ^ k) /\ l = .int .i64 ((k : Int) - 1) /\ Hid (0 < k -> 1 <= n / 2 ^ (k - 1))) (fun m _ => (intOf m).toNat)
 case atStart => exact ⟨n, 0, by omega, rfl, h0, h1, hidp (by simp), rfl, hidp (fun h => absurd h (by omega))⟩
 case round =>
  obtain ⟨q, k, hk, rfl, hq0, hq1, HQ, rfl, HF⟩ := hrel
  by_cases hlt : q < 1
  ·have HL : Hid (HM.logI n = (k : Int) - 1) := by
    have hq := HQ.out
    by_cases hk0 : k = 0
    ·subst hk0
     exact hidp (HM.logI_no n (by rw [hq] at hlt; simpa using hlt))
    ·have hs : k - 1 + 1 = k := by omega
     refine hidp ((HM.logI_at n (k - 1) (HF.out (by omega)) (by rw [hs, <- hq]; exact hlt)).trans (by omega))
   go_wp2
   go_ret
   exact ⟨ret_int HL.out.symm, rfl⟩
  ·have hk2 : k < 63 := by
    rcases Nat.lt_or_ge k 63 with h | h
    ·exact h
    ·obtain rfl : k = 63 := by omega
     have hq := HQ.out
     omega
   have HS : Hid (q / 2 = n / 2 ^ (k + 1)) := hidp (by rw [HQ.out, Int.pow_succ, Int.ediv_ediv_of_nonneg (Int.le_of_lt (Int.pow_pos (by omega)))])
   have hp : 1 <= q := by omega
   clear hlt
   go_wp2
   go_round
   case rel => exact ⟨q / 2, k + 1, by omega, rfl, by omega, by omega, HS, by go_num, hidp (fun _ => by have := HQ.out; simp only [Nat.add_sub_cancel]; omega)⟩
   case measure => simp [intOf]; omega
theorem join_or (h l : Nat) (hh : h < 2 ^ 32) (hl : l < 2 ^ 32) : bits .or .u64 ((h : Int) * 4294967296) (l : Int) = ((h * 4294967296 + l : Nat) : Int) := by
 have e : (h : Int) * 4294967296 = ((h * 4294967296 : Nat) : Int) := by omega
 rw [e, u64_or_nat _ _ (by omega) (by omega), nat_join 32 _ _ (by omega) hl]
theorem Join_c (h l : Nat) (hh : h < 2 ^ 32) (hl : l < 2 ^ 32) (w : World) :
  Calls Tryz.prog 74 #[.int .u32 (h : Int), .int .u32 (l : Int)] w fun e w' => e = .returned (.int .u64 ((h * 4294967296 + l : Nat) : Int)) /\ w = w' := by
 go_enter Tryz.func74, Tryz.ntmps74
 go_wp2
 go_ret
 exact ⟨ret_int (join_or h l hh hl), rfl⟩
theorem Lo_c (x : Nat) (hx : x < 2 ^ 64) (w : World) :
  Calls Tryz.prog 122 #[.int .u64 (x : Int)] w fun e w' => e = .returned (.int .u32 ((x % 4294967296 : Nat) : Int)) /\ w = w' := by
 go_enter Tryz.func122, Tryz.ntmps122
 go_wp2
 go_ret
 exact ⟨ret_int (by first | omega | (rw [Int.tmod_eq_emod_of_nonneg (by omega)]; omega) | (rw [IntKind.wrap_u32]; omega)), rfl⟩
theorem field_nat {a k : Int} (h : fieldB a k = true) : ∃ a' k' : Nat, a = a' /\ k = k' /\ 1 <= k' /\ a' + k' <= 64 := by
 unfold fieldB at h
 have := of_decide_eq_true h
 exact ⟨a.toNat, k.toNat, by omega, by omega, by omega, by omega⟩
def getI (x : Nat) (a k : Int) : Nat := if fieldB a k then HM.getN x a.toNat k.toNat else 0
theorem and_low (y k : Nat) (hy : y < 2 ^ 64) (hk : k <= 64) : bits .and .u64 (y : Int) ((2 ^ k - 1 : Nat) : Int) = ((y % 2 ^ k : Nat) : Int) := by
 have h2 : 2 ^ k <= 2 ^ 64 := Nat.pow_le_pow_right (by omega) hk
 rw [u64_and_nat y _ hy (by omega), Nat.and_two_pow_sub_one_eq_mod]
theorem Get_c (x : Nat) (a k : Int) (hx : x < 2 ^ 64) (ha : -9223372036854775808 <= a) (ha' : a <= 9223372036854775807) (hk : -9223372036854775808 <= k) (hk' : k <= 9223372036854775807) (w : World) :
  Calls Tryz.prog 76 #[.int .u64 (x : Int), .int .i64 a, .int .i64 k] w fun e w' => e = .returned (.int .u64 ((getI x a k : Nat) : Int)) /\ ∃ n, w' = w.drewN n := by
 cases hf : fieldB a k
 ·have H := hidp hf
  clear hf
  go_enter Tryz.func76, Tryz.ntmps76
  go_wp2_with (go_at_call 118; refine (isField_c a k ha ha' hk hk' _).mono ?_; rintro e w' ⟨rfl, rfl⟩; rw [H.out])
  go_ret
  exact ⟨ret_int (by unfold getI; rw [H.out]; rfl), 0, rfl⟩
 ·have H := hidp hf
  obtain ⟨a', k', rfl, rfl, h1, h2⟩ := field_nat hf
  clear hf
  go_enter Tryz.func76, Tryz.ntmps76
  go_wp2_with (go_at_call 118; refine (isField_c a' k' ha ha' hk hk' _).mono ?_; rintro e w' ⟨rfl, rfl⟩; rw [H.out])
  go_quiet ((go_at_call 119; exact quiet_same (lowBits_c k' (by omega) (by omega) _)))
  go_wp2
  go_ret
  exact ⟨ret_int (by rw [shr_cast, and_low _ _ (Nat.lt_of_le_of_lt (Nat.div_le_self _ _) hx) (by omega)]; unfold getI; rw [H.out, if_pos rfl, Int.toNat_natCast, Int.toNat_natCast]; rfl), nq, rfl⟩
def putOk (a k : Int) (v : Nat) : Bool := fieldB a k && decide (v < 2 ^ k.toNat)
def putI (x : Nat) (a k : Int) (v : Nat) : Nat := if putOk a k v then HM.putN x a.toNat k.toNat v else 0
theorem wrap_nat (n : Nat) (h : n < 2 ^ 64) : IntKind.u64.wrap (n : Int) = (n : Int) := by
 simp only [IntKind.wrap, IntKind.bits, IntKind.signed]; simp; omega
theorem put_bits (x a k v : Nat) (hx : x < 2 ^ 64) (h : a + k <= 64) (hv : v < 2 ^ k) :
  bits .or .u64 (bits .andNot .u64 (x : Int) (IntKind.u64.wrap (((2 ^ k - 1 : Nat) : Int) * 2 ^ a))) (IntKind.u64.wrap ((v : Int) * 2 ^ a)) = ((HM.putN x a k v : Nat) : Int) := by
 have h1 := HM.mask_lt a k h
 have h2 : v * 2 ^ a < 2 ^ 64 := Nat.lt_of_le_of_lt (Nat.mul_le_mul_right _ (by omega)) h1
 have e1 : ((2 ^ k - 1 : Nat) : Int) * 2 ^ a = (((2 ^ k - 1) * 2 ^ a : Nat) : Int) := by rw [Int.natCast_mul, Int.natCast_pow]; rfl
 have e2 : (v : Int) * 2 ^ a = ((v * 2 ^ a : Nat) : Int) := by rw [Int.natCast_mul, Int.natCast_pow]; rfl
 rw [e1, e2, wrap_nat _ h1, wrap_nat _ h2, u64_andNot_nat _ _ hx h1, u64_or_nat _ _ (Nat.lt_of_le_of_lt Nat.and_le_left hx) h2]
 rfl
theorem Put_c (x v : Nat) (a k : Int) (hx : x < 2 ^ 64) (hv : v < 2 ^ 64) (ha : -9223372036854775808 <= a) (ha' : a <= 9223372036854775807) (hk : -9223372036854775808 <= k) (hk' : k <= 9223372036854775807) (w : World) :
  Calls Tryz.prog 121 #[.int .u64 (x : Int), .int .i64 a, .int .i64 k, .int .u64 (v : Int)] w fun e w' => e = .returned (.tuple #[.int .u64 ((putI x a k v : Nat) : Int), .bool (putOk a k v)]) /\ ∃ n, w' = w.drewN n := by
 cases hf : fieldB a k
 ·have H := hidp hf
  clear hf
  go_enter Tryz.func121, Tryz.ntmps121
  go_wp2_with (go_at_call 118; refine (isField_c a k ha ha' hk hk' _).mono ?_; rintro e w' ⟨rfl, rfl⟩; rw [H.out])
  go_ret2
  exact ⟨by unfold putI putOk; rw [H.out]; rfl, 0, rfl⟩
 ·have H := hidp hf
  obtain ⟨a', k', rfl, rfl, h1, h2⟩ := field_nat hf
  clear hf
  by_cases hlt : v < 2 ^ k'
  ·have HO : Hid (putOk a' k' v = true) := hidp (by unfold putOk; rw [H.out, Int.toNat_natCast]; simp [hlt])
   have HP : Hid (putI x a' k' v = HM.putN x a' k' v) := hidp (by unfold putI; rw [HO.out, if_pos rfl, Int.toNat_natCast, Int.toNat_natCast])
   have HB := hidp (put_bits x a' k' v hx h2 hlt)
   have hng : ¬ (((2 ^ k' - 1 : Nat) : Int) < (v : Int)) := by omega
   go_enter Tryz.func121, Tryz.ntmps121
   go_wp2_with (first | (go_at_call 118; refine (isField_c a' k' ha ha' hk hk' _).mono ?_; rintro e w' ⟨rfl, rfl⟩; rw [H.out]) | (go_at_call 119; refine (lowBits_c k' (by omega) (by omega) _).mono ?_; rintro e w' ⟨rfl, rfl⟩; rw [Int.toNat_natCast]))
   go_quiet ((go_at_call 119; exact quiet_same (lowBits_c k' (by omega) (by omega) _)))
   go_wp2
   go_ret2
   exact ⟨by rw [HO.out, HP.out, <- HB.out]; rfl, nq, rfl⟩
  ·have HO : Hid (putOk a' k' v = false) := hidp (by unfold putOk; rw [H.out, Int.toNat_natCast]; simp [hlt])
   have HP : Hid (putI x a' k' v = 0) := hidp (by unfold putI; rw [HO.out]; rfl)
   have hg : (((2 ^ k' - 1 : Nat) : Int) < (v : Int)) := by have := Nat.two_pow_pos k'; omega
   go_enter Tryz.func121, Tryz.ntmps121
   go_wp2_with (first | (go_at_call 118; refine (isField_c a' k' ha ha' hk hk' _).mono ?_; rintro e w' ⟨rfl, rfl⟩; rw [H.out]) | (go_at_call 119; refine (lowBits_c k' (by omega) (by omega) _).mono ?_; rintro e w' ⟨rfl, rfl⟩; rw [Int.toNat_natCast]))
   go_ret2
   exact ⟨by rw [HO.out, HP.out]; rfl, 0, rfl⟩
end
section
def outB (v l m : Int) : Bool := decide (v < l \/ m < v)
theorem outB_lt {v l m : Int} (h : v < l) : outB v l m = true := by unfold outB; simp [h]
theorem outB_gt {v l m : Int} (h : m < v) : outB v l m = true := by unfold outB; simp [h]
theorem outB_no {v l m : Int} (h : l <= v) (h' : v <= m) : outB v l m = false := by unfold outB; exact decide_eq_false (by omega)
def rightB (t p s : Int) : Bool := !(outB t 1 16) && (!(outB p 4 1024) && !(outB s 10 20))
theorem rightB_iff (t p s : Int) : rightB t p s = true ↔ (1 <= t /\ t <= 16) /\ (4 <= p /\ p <= 1024) /\ 10 <= s /\ s <= 20 := by
 unfold rightB outB
 simp only [Bool.and_eq_true, Bool.not_eq_true', decide_eq_false_iff_not]
 omega

theorem cfWrong_c (a v l m : Int) (w : World) :
  Calls Tryz.prog 145 #[.agg #[.int .i64 a, .int .i64 v, .int .i64 l, .int .i64 m]] w fun e w' => e = .returned (.bool (outB v l m)) /\ Below w.heap.size w w' := by
 by_cases h0 : v < l
 ·have H := hidp (outB_lt (m := m) h0)
  go_enter Tryz.func145, Tryz.ntmps145
  go_wp2
  go_ret
  exact ⟨by rw [H.out]; rfl, Bnew (B0 _) _⟩
 ·by_cases h1 : m < v
  ·have H := hidp (outB_gt (l := l) h1)
   go_enter Tryz.func145, Tryz.ntmps145
   go_wp2
   go_ret
   exact ⟨by rw [H.out]; rfl, Bnew (B0 _) _⟩
  ·have H := hidp (outB_no (v := v) (l := l) (m := m) (by omega) (by omega))
   go_enter Tryz.func145, Tryz.ntmps145
   go_wp2
   go_ret
   exact ⟨by rw [H.out]; rfl, Bnew (B0 _) _⟩

def numV (t p s : Int) : Array Value := #[.int .i64 0, .int .i64 t, .int .i64 1, .int .i64 16, .int .i64 16, .int .i64 p, .int .i64 4, .int .i64 1024, .int .i64 32, .int .i64 s, .int .i64 10, .int .i64 20]
theorem cfNumbers_c (t p s : Int) (w : World) :
  Calls Tryz.prog 144 #[.agg #[.int .i64 t, .int .i64 p, .int .i64 s]] w fun e w' => e = .returned (.agg #[.int .i64 0, .int .i64 t, .int .i64 1, .int .i64 16, .int .i64 16, .int .i64 p, .int .i64 4, .int .i64 1024, .int .i64 32, .int .i64 s, .int .i64 10, .int .i64 20]) /\ Below w.heap.size w w' := by
 go_enter Tryz.func144, Tryz.ntmps144
 go_wp2
 exact bodyPost_ret (v := .agg #[.int .i64 0, .int .i64 t, .int .i64 1, .int .i64 16, .int .i64 16, .int .i64 p, .int .i64 4, .int .i64 1024, .int .i64 32, .int .i64 s, .int .i64 10, .int .i64 20]) (by simp [results, Tryz.results144, go_sem]) rfl ⟨rfl, Bnew (Bnew (B0 _) _) _⟩

theorem num_cells {t p s : Int} {g : Nat} {T : TypeId} {w : World} (h : Held w g T (numV t p s)) : w.cell? ⟨g, 0, none⟩ = some (.int .i64 0) /\ w.cell? ⟨g, 1, none⟩ = some (.int .i64 t) /\ w.cell? ⟨g, 2, none⟩ = some (.int .i64 1) /\ w.cell? ⟨g, 3, none⟩ = some (.int .i64 16) /\ w.cell? ⟨g, 4, none⟩ = some (.int .i64 16) /\ w.cell? ⟨g, 5, none⟩ = some (.int .i64 p) /\ w.cell? ⟨g, 6, none⟩ = some (.int .i64 4) /\ w.cell? ⟨g, 7, none⟩ = some (.int .i64 1024) /\ w.cell? ⟨g, 8, none⟩ = some (.int .i64 32) /\ w.cell? ⟨g, 9, none⟩ = some (.int .i64 s) /\ w.cell? ⟨g, 10, none⟩ = some (.int .i64 10) /\ w.cell? ⟨g, 11, none⟩ = some (.int .i64 20) :=
 ⟨h.cell 0, h.cell 1, h.cell 2, h.cell 3, h.cell 4, h.cell 5, h.cell 6, h.cell 7, h.cell 8, h.cell 9, h.cell 10, h.cell 11⟩
def idxI (t p s : Int) : Int := if outB t 1 16 then 0 else if outB p 4 1024 then 1 else if outB s 10 20 then 2 else -1
set_option maxHeartbeats 1600000 in
theorem cfIndex_c (t p s : Int) (g : Nat) (w : World) (hc : Held w g 165 (numV t p s)) :
  Calls Tryz.prog 151 #[.slice (some ⟨g, 0, none⟩) 3 3, .func (.func 145) #[] #[]] w fun e w' => e = .returned (.int .i64 (idxI t p s)) /\ Below w.heap.size w w' := by
 obtain ⟨c0, c1, c2, c3, c4, c5, c6, c7, c8, c9, c10, c11⟩ := num_cells hc
 cases h0 : outB t 1 16
 ·cases h1 : outB p 4 1024
  ·cases h2 : outB s 10 20
   ·have HX0 := hidp h0
    have HX1 := hidp h1
    have HX2 := hidp h2
    have HI : Hid (idxI t p s = -1) := hidp (by unfold idxI; simp [h0, h1, h2])
    clear h0 h1 h2
    go_enter Tryz.func151, Tryz.ntmps151
    go_wp2
    refine wp_loop_rounds 4 ?_
    rw [rounds_succ]
    go_wp2_with fail
    refine (cfWrong_c 0 t 1 16 _).mono ?_
    rintro e w1 ⟨rfl, hb0⟩
    rw [HX0.out]
    have hc1 := hc.keep hb0
    clear c0 c1 c2 c3 c4 c5 c6 c7 c8 c9 c10 c11
    obtain ⟨d0, d1, d2, d3, d4, d5, d6, d7, d8, d9, d10, d11⟩ := num_cells hc1
    go_wp2_with fail
    rw [rounds_succ]
    go_wp2_with fail
    refine (cfWrong_c 16 p 4 1024 _).mono ?_
    rintro e w2 ⟨rfl, hb1⟩
    rw [HX1.out]
    have hc2 := hc1.keep hb1
    clear d0 d1 d2 d3 d4 d5 d6 d7 d8 d9 d10 d11
    obtain ⟨d0, d1, d2, d3, d4, d5, d6, d7, d8, d9, d10, d11⟩ := num_cells hc2
    go_wp2_with fail
    rw [rounds_succ]
    go_wp2_with fail
    refine (cfWrong_c 32 s 10 20 _).mono ?_
    rintro e w3 ⟨rfl, hb2⟩
    rw [HX2.out]
    have hc3 := hc2.keep hb2
    clear d0 d1 d2 d3 d4 d5 d6 d7 d8 d9 d10 d11
    obtain ⟨d0, d1, d2, d3, d4, d5, d6, d7, d8, d9, d10, d11⟩ := num_cells hc3
    go_wp2_with fail
    rw [rounds_succ]
    go_wp2
    go_ret
    exact ⟨by rw [HI.out]; rfl, Bgo (Bgo (Bgo (B0 _) hb0) hb1) hb2⟩
   ·have HX0 := hidp h0
    have HX1 := hidp h1
    have HX2 := hidp h2
    have HI : Hid (idxI t p s = 2) := hidp (by unfold idxI; simp [h0, h1, h2])
    clear h0 h1 h2
    go_enter Tryz.func151, Tryz.ntmps151
    go_wp2
    refine wp_loop_rounds 3 ?_
    rw [rounds_succ]
    go_wp2_with fail
    refine (cfWrong_c 0 t 1 16 _).mono ?_
    rintro e w1 ⟨rfl, hb0⟩
    rw [HX0.out]
    have hc1 := hc.keep hb0
    clear c0 c1 c2 c3 c4 c5 c6 c7 c8 c9 c10 c11
    obtain ⟨d0, d1, d2, d3, d4, d5, d6, d7, d8, d9, d10, d11⟩ := num_cells hc1
    go_wp2_with fail
    rw [rounds_succ]
    go_wp2_with fail
    refine (cfWrong_c 16 p 4 1024 _).mono ?_
    rintro e w2 ⟨rfl, hb1⟩
    rw [HX1.out]
    have hc2 := hc1.keep hb1
    clear d0 d1 d2 d3 d4 d5 d6 d7 d8 d9 d10 d11
    obtain ⟨d0, d1, d2, d3, d4, d5, d6, d7, d8, d9, d10, d11⟩ := num_cells hc2
    go_wp2_with fail
    rw [rounds_succ]
    go_wp2_with fail
    refine (cfWrong_c 32 s 10 20 _).mono ?_
    rintro e w3 ⟨rfl, hb2⟩
    rw [HX2.out]
    have hc3 := hc2.keep hb2
    clear d0 d1 d2 d3 d4 d5 d6 d7 d8 d9 d10 d11
    obtain ⟨d0, d1, d2, d3, d4, d5, d6, d7, d8, d9, d10, d11⟩ := num_cells hc3
    go_wp2
    go_ret
    exact ⟨by rw [HI.out]; rfl, Bgo (Bgo (Bgo (B0 _) hb0) hb1) hb2⟩
  ·have HX0 := hidp h0
   have HX1 := hidp h1
   have HI : Hid (idxI t p s = 1) := hidp (by unfold idxI; simp [h0, h1])
   clear h0 h1
   go_enter Tryz.func151, Tryz.ntmps151
   go_wp2
   refine wp_loop_rounds 2 ?_
   rw [rounds_succ]
   go_wp2_with fail
   refine (cfWrong_c 0 t 1 16 _).mono ?_
   rintro e w1 ⟨rfl, hb0⟩
   rw [HX0.out]
   have hc1 := hc.keep hb0
   clear c0 c1 c2 c3 c4 c5 c6 c7 c8 c9 c10 c11
   obtain ⟨d0, d1, d2, d3, d4, d5, d6, d7, d8, d9, d10, d11⟩ := num_cells hc1
   go_wp2_with fail
   rw [rounds_succ]
   go_wp2_with fail
   refine (cfWrong_c 16 p 4 1024 _).mono ?_
   rintro e w2 ⟨rfl, hb1⟩
   rw [HX1.out]
   have hc2 := hc1.keep hb1
   clear d0 d1 d2 d3 d4 d5 d6 d7 d8 d9 d10 d11
   obtain ⟨d0, d1, d2, d3, d4, d5, d6, d7, d8, d9, d10, d11⟩ := num_cells hc2
   go_wp2
   go_ret
   exact ⟨by rw [HI.out]; rfl, Bgo (Bgo (B0 _) hb0) hb1⟩
 ·have HX0 := hidp h0
  have HI : Hid (idxI t p s = 0) := hidp (by unfold idxI; simp [h0])
  clear h0
  go_enter Tryz.func151, Tryz.ntmps151
  go_wp2
  refine wp_loop_rounds 1 ?_
  rw [rounds_succ]
  go_wp2_with fail
  refine (cfWrong_c 0 t 1 16 _).mono ?_
  rintro e w1 ⟨rfl, hb0⟩
  rw [HX0.out]
  have hc1 := hc.keep hb0
  clear c0 c1 c2 c3 c4 c5 c6 c7 c8 c9 c10 c11
  obtain ⟨d0, d1, d2, d3, d4, d5, d6, d7, d8, d9, d10, d11⟩ := num_cells hc1
  go_wp2
  go_ret
  exact ⟨by rw [HI.out]; rfl, Bgo (B0 _) hb0⟩

theorem idx_right {t p s : Int} (h : rightB t p s = true) : idxI t p s = -1 := by
 unfold rightB at h
 unfold idxI
 cases h0 : outB t 1 16 <;> cases h1 : outB p 4 1024 <;> cases h2 : outB s 10 20 <;> simp_all
theorem idx_wrong {t p s : Int} (h : rightB t p s = false) : ∃ k : Int, idxI t p s = k /\ 0 <= k /\ k <= 2 := by
 unfold rightB at h
 unfold idxI
 cases h0 : outB t 1 16 <;> cases h1 : outB p 4 1024 <;> cases h2 : outB s 10 20 <;> simp_all

theorem cfContains_c (t p s : Int) (g : Nat) (w : World) (hc : Held w g 165 (numV t p s)) :
  Calls Tryz.prog 146 #[.slice (some ⟨g, 0, none⟩) 3 3, .func (.func 145) #[] #[]] w fun e w' => e = .returned (.bool (!rightB t p s)) /\ Below w.heap.size w w' := by
 cases hr : rightB t p s
 ·obtain ⟨k, hk, h0, h2⟩ := idx_wrong hr
  have HK := hidp hk
  clear hk
  go_enter Tryz.func146, Tryz.ntmps146
  go_wp2_with fail
  refine (cfIndex_c t p s g _ hc).mono ?_
  rintro e w1 ⟨rfl, hb⟩
  rw [HK.out]
  go_wp2
  go_ret
  exact ⟨by first | rfl | trivial, hb⟩
 ·have HK := hidp (idx_right hr)
  go_enter Tryz.func146, Tryz.ntmps146
  go_wp2_with fail
  refine (cfIndex_c t p s g _ hc).mono ?_
  rintro e w1 ⟨rfl, hb⟩
  rw [HK.out]
  go_wp2
  go_ret
  exact ⟨by first | rfl | trivial, hb⟩

def checkI (t p s : Int) : Int := if rightB t p s then 0 else 1
theorem check_yes {t p s : Int} (h : rightB t p s = true) : checkI t p s = 0 := by unfold checkI; rw [h]; rfl
theorem check_no {t p s : Int} (h : rightB t p s = false) : checkI t p s = 1 := by unfold checkI; rw [h]; rfl
theorem cfCheck_c (t p s : Int) (w : World) :
  Calls Tryz.prog 138 #[.agg #[.int .i64 t, .int .i64 p, .int .i64 s]] w fun e w' => e = .returned (.int .i64 (checkI t p s)) /\ Below w.heap.size w w' := by
 cases hr : rightB t p s
 ·have HK := hidp (check_no hr)
  have HR := hidp hr
  clear hr
  go_enter Tryz.func138, Tryz.ntmps138
  go_wp2_with fail
  refine (cfNumbers_c t p s _).mono ?_
  rintro e w1 ⟨rfl, hb1⟩
  go_wp2_with fail
  refine (cfContains_c t p s _ _ (Held.new w1 _ _)).mono ?_
  rintro e w2 ⟨rfl, hb2⟩
  rw [HR.out]
  go_wp2
  go_ret
  exact ⟨by rw [HK.out]; rfl, Bgo (Bnew (Bgo (Bnew (B0 _) _) hb1) _) hb2⟩
 ·have HK := hidp (check_yes hr)
  have HR := hidp hr
  clear hr
  go_enter Tryz.func138, Tryz.ntmps138
  go_wp2_with fail
  refine (cfNumbers_c t p s _).mono ?_
  rintro e w1 ⟨rfl, hb1⟩
  go_wp2_with fail
  refine (cfContains_c t p s _ _ (Held.new w1 _ _)).mono ?_
  rintro e w2 ⟨rfl, hb2⟩
  rw [HR.out]
  go_wp2
  go_ret
  exact ⟨by rw [HK.out]; rfl, Bgo (Bnew (Bgo (Bnew (B0 _) _) hb1) _) hb2⟩
end
section
theorem rightB_mk {t p s : Int} (h : (1 <= t /\ t <= 16) /\ (4 <= p /\ p <= 1024) /\ 10 <= s /\ s <= 20) : rightB t p s = true := (rightB_iff t p s).2 h
theorem rightB_not {t p s : Int} (h : ¬ ((1 <= t /\ t <= 16) /\ (4 <= p /\ p <= 1024) /\ 10 <= s /\ s <= 20)) : rightB t p s = false := by
 cases hr : rightB t p s
 ·rfl
 ·exact absurd ((rightB_iff t p s).1 hr) h

theorem r4Right_c (t p s : Int) (w : World) :
  Calls Tryz.prog 61 #[.agg #[.int .i64 t, .int .i64 p, .int .i64 s]] w fun e w' => e = .returned (.bool (rightB t p s)) /\ Below w.heap.size w w' := by
 by_cases a1 : 1 <= t
 ·by_cases a2 : t <= 16
  ·by_cases a3 : 4 <= p
   ·by_cases a4 : p <= 1024
    ·by_cases a5 : 10 <= s
     ·by_cases a6 : s <= 20
      ·have H := hidp (rightB_mk (t := t) (p := p) (s := s) (by omega))
       go_enter Tryz.func61, Tryz.ntmps61
       go_wp2
       go_ret
       exact ⟨by rw [H.out]; rfl, Bnew (B0 _) _⟩
      ·have H := hidp (rightB_not (t := t) (p := p) (s := s) (by omega))
       go_enter Tryz.func61, Tryz.ntmps61
       go_wp2
       go_ret
       exact ⟨by rw [H.out]; rfl, Bnew (B0 _) _⟩
     ·have H := hidp (rightB_not (t := t) (p := p) (s := s) (by omega))
      go_enter Tryz.func61, Tryz.ntmps61
      go_wp2
      go_ret
      exact ⟨by rw [H.out]; rfl, Bnew (B0 _) _⟩
    ·have H := hidp (rightB_not (t := t) (p := p) (s := s) (by omega))
     go_enter Tryz.func61, Tryz.ntmps61
     go_wp2
     go_ret
     exact ⟨by rw [H.out]; rfl, Bnew (B0 _) _⟩
   ·have H := hidp (rightB_not (t := t) (p := p) (s := s) (by omega))
    go_enter Tryz.func61, Tryz.ntmps61
    go_wp2
    go_ret
    exact ⟨by rw [H.out]; rfl, Bnew (B0 _) _⟩
  ·have H := hidp (rightB_not (t := t) (p := p) (s := s) (by omega))
   go_enter Tryz.func61, Tryz.ntmps61
   go_wp2
   go_ret
   exact ⟨by rw [H.out]; rfl, Bnew (B0 _) _⟩
 ·have H := hidp (rightB_not (t := t) (p := p) (s := s) (by omega))
  go_enter Tryz.func61, Tryz.ntmps61
  go_wp2
  go_ret
  exact ⟨by rw [H.out]; rfl, Bnew (B0 _) _⟩

def pageN (t p s : Int) : Nat := if rightB t p s then 2 ^ s.toNat else 0
def bytesN (t p s : Int) : Nat := if rightB t p s then p.toNat * 2 ^ s.toNat else 0
theorem page_yes {t p s : Int} (h : rightB t p s = true) : pageN t p s = 2 ^ s.toNat := by unfold pageN; rw [if_pos h]
theorem page_no {t p s : Int} (h : rightB t p s = false) : pageN t p s = 0 := by unfold pageN; rw [h]; rfl
theorem bytes_yes {t p s : Int} (h : rightB t p s = true) : bytesN t p s = p.toNat * 2 ^ s.toNat := by unfold bytesN; rw [if_pos h]
theorem bytes_no {t p s : Int} (h : rightB t p s = false) : bytesN t p s = 0 := by unfold bytesN; rw [h]; rfl
theorem pow_bounds (k : Nat) (h : k <= 20) : 1 <= 2 ^ k /\ 2 ^ k <= 1048576 := ⟨Nat.one_le_two_pow, by have := Nat.pow_le_pow_right (show 0 < 2 by omega) h; omega⟩
theorem pow_next (k : Nat) : 2 ^ (k + 1) = 2 ^ k * 2 := Nat.pow_succ 2 k

theorem r4Page_c (t p s : Int) (w : World) :
  Calls Tryz.prog 106 #[.agg #[.int .i64 t, .int .i64 p, .int .i64 s]] w fun e w' => e = .returned (.int .i64 ((pageN t p s : Nat) : Int)) /\ Below w.heap.size w w' := by
 cases hr : rightB t p s
 ·have HP := hidp (page_no hr)
  have HR := hidp hr
  clear hr
  go_enter Tryz.func106, Tryz.ntmps106
  go_wp2_with fail
  refine (r4Right_c t p s _).mono ?_
  rintro e w1 ⟨rfl, hb1⟩
  rw [HR.out]
  go_wp2
  go_ret
  exact ⟨by rw [HP.out]; rfl, Bgo (Bnew (B0 _) _) hb1⟩
 ·have HP := hidp (page_yes hr)
  have HR := hidp hr
  obtain ⟨_, _, hs, hs'⟩ := (rightB_iff t p s).1 hr
  clear hr
  go_enter Tryz.func106, Tryz.ntmps106
  go_wp2_with fail
  have hc := Held.new w 23 #[.int .i64 t, .int .i64 p, .int .i64 s]
  refine (r4Right_c t p s _).mono ?_
  rintro e w1 ⟨rfl, hb1⟩
  rw [HR.out]
  obtain ⟨c0, c1, c2⟩ := (hc.keep hb1).three
  go_wp2
  go_loop [3, 4] (fun n i => ∃ k : Nat, (k : Int) <= s /\ i = .int .i64 k /\ n = .int .i64 ((2 ^ k : Nat) : Int)) (fun _ i => 64 - (intOf i).toNat)
  case atStart => exact ⟨0, by omega, rfl, rfl⟩
  case round =>
   obtain ⟨k, hk, rfl, rfl⟩ := hrel
   obtain ⟨b1, b2⟩ := pow_bounds k (by omega)
   by_cases hlt : (k : Int) < s
   ·have HS := hidp (pow_next k)
    obtain ⟨m, hm⟩ : ∃ m, m = 2 ^ k := ⟨_, rfl⟩
    rw [<- hm] at b1 b2 HS
    rw [<- hm]
    have HM := hidp hm
    clear hm
    go_wp2
    go_round
    case rel => exact ⟨k + 1, by omega, by go_num, by rw [HS.out]; go_num⟩
    case measure => simp [intOf]; omega
   ·obtain rfl : s = k := by omega
    go_wp2
    go_ret
    exact ⟨by rw [HP.out]; rfl, Bgo (Bnew (B0 _) _) hb1⟩
end
end Go.Proofs.YtnmhdlpnimdffaaGreatDoor
