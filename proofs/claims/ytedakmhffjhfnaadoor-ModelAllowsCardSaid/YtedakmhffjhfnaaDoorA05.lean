/-
  What the document's automaton allows (nacreref26.Allows): all ways. Written by model/gen_top.py.
-/
import Derived.Test.YtedakmhffjhfnaaDoorA04
import Derived.Test.YtedakmhffjhfnaaDoorA01
import Derived.Test.YtedakmhffjhfnaaDoorA02
import Derived.RegionTactic
import Derived.Below
import Derived.Test.YtedakmhffjhfnaaDoorAKit
import Derived.WalkKit
import Derived.ProofKit
import Derived.BigQuiet
import Derived.Outline
import Derived.Deep.QuietTactic
import Derived.Deep.RegionHeld3
import Derived.IntWalk
import Derived.KernelRfl
import Derived.Deep.DeepFit
import Derived.Maps.OwnSet
import Derived.Maps.AppendAt
import Derived.DeepKeys4
import Derived.Shelf.SlSortCmp.WholeK
import Derived.Lib.SliceRun
import Derived.Deep.Slices
import Derived.Lib.SmallJoins
namespace Go.Proofs.YtedakmhffjhfnaaDoor
open Go.ChangeShapes Go.WideShapes Go.ChangeAt Go.RowKit Go.Maps
set_option linter.unusedVariables false
set_option linter.unusedSimpArgs false
set_option maxRecDepth 100000
section
theorem sizeAt_eq {L : List (Int × Int)} {a z : Int} {i : Nat} (hi : mAt L a = (i : Int)) (hl : L[i]? = some (a, z)) : sizeAt L (mAt L a) = z := by
 unfold sizeAt
 rw [hi, Int.toNat_natCast, List.getD, hl]
 rfl

theorem r26Allow_c {w : World} {g base : Nat} {Z : Nat -> Prop} {t p s : Int} {L : List (Int × Int)} {R : Nat -> Int} (h : RMod w g base Z t p s L R) (hn : L.length <= 90000) (k a b err out aux : Int) (hk : -9223372036854775808 <= k /\ k <= 9223372036854775807) (ha : -9223372036854775808 <= a /\ a <= 9223372036854775807) (hb : -9223372036854775808 <= b /\ b <= 9223372036854775807) : Calls Tryd.prog 15 #[.pointer (some ⟨g, 0, none⟩), .agg #[.int .i64 k, .int .i64 a, .int .i64 b], .agg #[.int .i64 err, .int .i64 out, .int .i64 aux]] w fun e w' => e = .returned (.bool (allowM t p s L R k a b err out aux)) /\ Below w.heap.size w w' := by
 unfold allowM
 cases ho : opB k a b with
 | false =>
  rw [if_pos rfl]
  exact r26Allow_wrong h hn k a b err out aux ha hb hk ho _ rfl
 | true =>
  rw [if_neg (by simp)]
  have hkk := opB_kind ho
  rcases (by omega : k = 1 \/ k = 2 \/ k = 3 \/ k = 4 \/ k = 5 \/ k = 6 \/ k = 7 \/ k = 8 \/ k = 9) with rfl | rfl | rfl | rfl | rfl | rfl | rfl | rfl | rfl
  ·rw [if_neg (by omega), if_pos rfl]
   cases hm : madeM t p s L a err out aux (-1) with
   | true =>
    rw [Bool.true_and]
    exact r26Allow_alloc h hn a b err out aux ha hb ho _ rfl _ _ rfl rfl _ hm rfl
   | false =>
    rw [Bool.false_and]
    exact r26Allow_noalloc h hn a b err out aux ha hb ho _ rfl _ _ rfl rfl hm
  ·rcases mAt_cases L a with ⟨hi, _⟩ | ⟨i, z, hi, hl, hil⟩
   ·rw [if_pos ⟨by omega, by omega⟩]
    exact r26Allow_none2 h hn a b err out aux ha hb ho hi _ rfl
   ·rw [if_neg (by omega), if_neg (by omega), if_pos rfl, sizeAt_eq hi hl]
    cases hh : heldM R a with
    | true =>
     rw [if_pos rfl]
     exact r26Allow_held h hn a b err out aux ha hb ho i z hi hl hil hh _ rfl
    | false =>
     rw [if_neg (by simp)]
     exact r26Allow_free h hn a b err out aux ha hb ho i z hi hl hil hh _ rfl
  ·rcases mAt_cases L a with ⟨hi, _⟩ | ⟨i, z, hi, hl, hil⟩
   ·rw [if_pos ⟨by omega, by omega⟩]
    exact r26Allow_none3 h hn a b err out aux ha hb ho hi _ rfl
   ·rw [if_neg (by omega), if_neg (by omega), if_neg (by omega), if_pos rfl]
    by_cases hoa : out = a
    ·rw [if_pos hoa, hi]
     cases hm : madeM t p s L b err out aux (i : Int) with
     | true =>
      rw [Bool.true_and]
      exact r26Allow_reown h hn a b err out aux ha hb ho i z hi hl hil hoa _ _ rfl rfl _ hm rfl
     | false =>
      rw [Bool.false_and]
      exact r26Allow_noreown h hn a b err out aux ha hb ho i z hi hl hil hoa _ _ rfl rfl hm
    ·rw [if_neg hoa]
     cases hm : madeM t p s L b err out aux (-1) with
     | true =>
      rw [Bool.true_and]
      exact r26Allow_renew h hn a b err out aux ha hb ho i z hi hl hil hoa _ _ rfl rfl _ hm rfl
     | false =>
      rw [Bool.false_and]
      exact r26Allow_norenew h hn a b err out aux ha hb ho i z hi hl hil hoa _ _ rfl rfl hm
  ·rw [if_neg (by omega), if_neg (by omega), if_neg (by omega), if_neg (by omega), if_neg (by omega), if_neg (by omega), if_neg (by omega)]
   exact r26Allow_root4 h hn a b err out aux ha hb ho _ rfl _ rfl
  ·rw [if_neg (by omega), if_neg (by omega), if_neg (by omega), if_neg (by omega), if_neg (by omega), if_neg (by omega), if_neg (by omega)]
   exact r26Allow_root5 h hn a b err out aux ha hb ho _ rfl _ rfl
  ·rw [if_neg (by omega), if_neg (by omega), if_neg (by omega), if_neg (by omega), if_neg (by omega), if_neg (by omega), if_neg (by omega)]
   exact r26Allow_root6 h hn a b err out aux ha hb ho _ rfl _ rfl
  ·rcases mAt_cases L a with ⟨hi, _⟩ | ⟨i, z, hi, hl, hil⟩
   ·rw [if_pos ⟨by omega, by omega⟩]
    exact r26Allow_none7 h hn a b err out aux ha hb ho hi _ rfl
   ·rw [if_neg (by omega), if_neg (by omega), if_neg (by omega), if_neg (by omega), if_pos rfl, sizeAt_eq hi hl]
    exact r26Allow_usable h hn a b err out aux ha hb ho i z hi hl hil _ rfl
  ·rw [if_neg (by omega), if_neg (by omega), if_neg (by omega), if_neg (by omega), if_neg (by omega), if_pos rfl]
   by_cases he : err = 0
   ·by_cases h1 : out < 0
    ·rw [decide_eq_false (by omega)]
     exact r26Allow_stats_b h hn a b err out aux ha hb ho _ rfl he h1
    by_cases h2 : p < out
    ·rw [decide_eq_false (by omega)]
     exact r26Allow_stats_c h hn a b err out aux ha hb ho _ rfl he (by omega) h2
    by_cases h3 : aux = (L.length : Int)
    ·rw [decide_eq_true ⟨he, by omega, by omega, h3⟩]
     exact r26Allow_stats_e h hn a b err out aux ha hb ho _ rfl he (by omega) (by omega) h3
    ·rw [decide_eq_false (by omega)]
     exact r26Allow_stats_d h hn a b err out aux ha hb ho _ rfl he (by omega) (by omega) h3
   ·rw [decide_eq_false (by omega)]
    exact r26Allow_stats_a h hn a b err out aux ha hb ho _ rfl he
  ·rw [if_neg (by omega), if_neg (by omega), if_neg (by omega), if_neg (by omega), if_neg (by omega), if_neg (by omega), if_pos rfl]
   by_cases h0 : a < 0
   ·rw [if_pos (.inl h0)]
    exact r26Allow_flush_lo h hn a b err out aux ha hb ho _ rfl h0 _ rfl
   by_cases h8 : 8 < a
   ·rw [if_pos (.inr h8)]
    exact r26Allow_flush_hi h hn a b err out aux ha hb ho _ rfl h8 _ rfl
   rw [if_neg (by omega)]
   by_cases he : err = 0
   ·by_cases h1 : out < 0
    ·rw [decide_eq_false (by omega)]
     exact r26Allow_flush_b h hn a b err out aux ha hb ho _ rfl (by omega) (by omega) he h1
    by_cases h2 : 4 < out
    ·rw [decide_eq_false (by omega)]
     exact r26Allow_flush_c h hn a b err out aux ha hb ho _ rfl (by omega) (by omega) he (by omega) h2
    by_cases h3 : aux = 0
    ·rw [decide_eq_true ⟨he, by omega, by omega, h3⟩]
     exact r26Allow_flush_e h hn a b err out aux ha hb ho _ rfl (by omega) (by omega) he (by omega) (by omega) h3
    ·rw [decide_eq_false (by omega)]
     exact r26Allow_flush_d h hn a b err out aux ha hb ho _ rfl (by omega) (by omega) he (by omega) (by omega) h3
   ·rw [decide_eq_false (by omega)]
    exact r26Allow_flush_a h hn a b err out aux ha hb ho _ rfl (by omega) (by omega) he
end
section
theorem addTo_few (b : Int × Int) (L : List (Int × Int)) : (addTo b L).1.length <= L.length + 1 := by
 have := addTo_len b L ([], false)
 unfold addTo
 simp at this
 exact this
theorem addTo_flat {b : Int × Int} {L : List (Int × Int)} {nl : Nat} (hn : L.length = nl) : ∀ j, j <= nl -> (addTo b (L.take j)).2 = false -> (addTo b (L.take j)).1.length = j
 | 0, _, _ => by simp [addTo]
 | j + 1, hj, h => by
  obtain ⟨x, hx⟩ : ∃ x, L[j]? = some x := ⟨_, List.getElem?_eq_getElem (by omega)⟩
  have e : L.take (j + 1) = L.take j ++ [x] := by rw [List.take_add_one, hx]; rfl
  rw [e, addTo_snoc] at h ⊢
  unfold addStep at h ⊢
  split at h
  ·cases h
  ·rename_i hc
   rw [if_neg hc]
   have := addTo_flat hn j (by omega) h
   simp [this]
end
section
set_option maxHeartbeats 12800000 in
theorem r26Add_c {w : World} {g base : Nat} {Z : Nat -> Prop} {t p s : Int} {L : List (Int × Int)} {R : Nat -> Int} (h : RMod w g base Z t p s L R) (hn : L.length <= 90000) (b1 b2 : Int) (hin : insB (pageN t p s : Int) (endI t p s) b1 b2 = true) : Calls Tryd.prog 24 #[.pointer (some ⟨g, 0, none⟩), .agg #[.int .i64 b1, .int .i64 b2]] w fun e w' => e = .returned (.tuple #[]) /\ RMod w' g base Z t p s (addB L (b1, b2)) R /\ Turns (fun i => i = g) w w' := by
  obtain ⟨j0, hjn, hjz0, hjz1, hjz2⟩ := info_parts blockInfo
  obtain ⟨nl, hnl⟩ : ∃ n, L.length = n := ⟨_, rfl⟩
  have HNL := hidp hnl
  rw [hnl] at hn
  have HLO := hidp h.lo
  have HMW := hidp h
  have HIN := hidp hin
  obtain ⟨A, c, hX, hO⟩ := h.ex
  rw [hnl] at hX hO
  have HX0 := hidp hX
  have HO00 := hidp hO
  have hcv := own_caps3 hO
  have HXW := hidp ((Held.new w 55 #[.int .i64 b1, .int .i64 b2]).alloc (.cells #[] 55))
  have HBW := hidp (Bnew (Bnew (B0 w) (.cells #[.int .i64 b1, .int .i64 b2] 55)) (.cells #[] 55))
  have HOW : Hid (((w.alloc (.cells #[.int .i64 b1, .int .i64 b2] 55)).alloc (.cells #[] 55)).ownsRow (w.heap.size + 1) 55 2 (.slice (some ⟨(w.alloc (.cells #[.int .i64 b1, .int .i64 b2] 55)).heap.size, 0, none⟩) 0 0) 0 []) := hidp (World.ownsRow_lit (base := w.heap.size + 1) (e := 55) (size := 2) (w.alloc (.cells #[.int .i64 b1, .int .i64 b2] 55)) #[] 0 (by simp) (by unfold maxLen; omega) rfl)
  rw [World.size_alloc] at HOW
  clear h hin hX hO hnl
  go_enter Tryd.func24, Tryd.ntmps24
  go_wp2_with fail
  go_loopw [4, 5, 6] (fun u4 u5 u6 wr => ∃ (i k : Nat) (d : Bool), i <= nl /\ u6 = .int .i64 (i : Int) /\ u5 = .bool d /\ k <= i + 1 /\ Hid ((addTo (b1, b2) (L.take i)).1.length = k) /\ Hid ((addTo (b1, b2) (L.take i)).2 = d) /\ Hid (wr.ownsRow (w.heap.size + 1) 55 2 u4 k (bkVs (addTo (b1, b2) (L.take i)).1)) /\ Hid (Held wr w.heap.size 55 #[.int .i64 b1, .int .i64 b2]) /\ Hid (Below w.heap.size w wr)) (fun _ _ u6 _ => nl - (intOf u6).toNat)
  case atStart => exact ⟨0, 0, false, by omega, rfl, rfl, by omega, hidp rfl, hidp rfl, HOW, HXW, HBW⟩
  case round =>
    clear HOW HBW HXW
    obtain ⟨i, k, d, hi, rfl, rfl, hki, HM, HD, HO, HX, HB⟩ := hrel
    obtain ⟨y0, y1⟩ := HX.out.two
    have HG := hidp (HX0.out.keep HB.out)
    obtain ⟨_, _, _, x3⟩ := mod_cells HG.out
    have hbs := HB.out.size
    by_cases hlt : i < nl
    · obtain ⟨x, hx⟩ : ∃ x, L[i]? = some x := ⟨_, List.getElem?_eq_getElem (by have := HNL.out; omega)⟩
      obtain ⟨gv, cv', hvv, hbv, hlv⟩ := HO00.out.form (by omega)
      injection hvv with hvv hn0 hcc
      subst hvv
      subst hcc
      obtain ⟨p0, p1⟩ := own_block0 (own_below HO00.out HB.out) HNL.out hx
      have HTK : Hid (L.take (i + 1) = L.take i ++ [x]) := hidp (by rw [List.take_add_one, hx]; rfl)
      have HXX := hidp hx
      have hkm := addTo_few (b1, b2) (L.take i)
      obtain ⟨ad, z⟩ := x
      have t0 : decide ((i : Int) < nl) = true := decide_eq_true (by omega)
      clear hn0 hx
      simp only at p0 p1
      have HPP : Hid (wr.cell? ⟨w.heap.size, 0, none⟩ = some (.int .i64 b1) /\ wr.cell? ⟨g, 3, none⟩ = some (.slice (some ⟨gv, 0, none⟩) nl c) /\ wr.cell? ⟨gv, i * 2, none⟩ = some (.int .i64 ad)) := hidp ⟨y0, x3, p0⟩
      generalize hT : addTo (b1, b2) (L.take i) = T at *
      obtain ⟨acc, dd⟩ := T
      simp only at HM HD HO hkm
      have hdd := HD.out
      have hmm := HM.out
      have hacc : acc.length <= i + 1 := by rw [List.length_take] at hkm; omega
      cases d with
      | true =>
        subst hdd
        have HT1 : Hid (addTo (b1, b2) (L.take (i + 1)) = (acc ++ [(ad, z)], true)) := hidp (by rw [HTK.out, addTo_snoc, hT]; unfold addStep; rw [if_neg (by simp)])
        clear hT
        go_wp2_with fail
        have HSD : Hid ((fun w' => w'.cell? ⟨w.heap.size, 0, none⟩ = some (.int .i64 b1) /\ w'.cell? ⟨g, 3, none⟩ = some (.slice (some ⟨gv, 0, none⟩) nl c) /\ w'.cell? ⟨gv, i * 2, none⟩ = some (.int .i64 ad)) wr.drew) := hidp HPP.out
        refine wp_region_held_drew (S := (fun w' => w'.cell? ⟨w.heap.size, 0, none⟩ = some (.int .i64 b1) /\ w'.cell? ⟨g, 3, none⟩ = some (.slice (some ⟨gv, 0, none⟩) nl c) /\ w'.cell? ⟨gv, i * 2, none⟩ = some (.int .i64 ad))) (by kernel_rfl) ?_ (fun hHeld => ?_)
        · (try dsimp only)
          exact HSD.out
        refine tkz 0 ?_
        refine tkz 1 ?_
        refine tkz 2 ?_
        refine skz 3 ?_
        refine skz 4 ?_
        refine skz 5 ?_
        refine skz 6 ?_
        refine skz 7 ?_
        refine skz 8 ?_
        refine skz 9 ?_
        refine skz 10 ?_
        refine skz 11 ?_
        refine skz 12 ?_
        refine skz 13 ?_
        refine skz 14 ?_
        refine tkz 15 ?_
        refine dnz ?_
        have HOd := hidp (own_below HO.out (Bdrew (B0 wr)))
        have HXd := hidp (HX.out.keep (Bdrew (B0 wr)))
        have HBd := hidp (Bdrew HB.out)
        generalize hwd : wr.drew = wd at *
        clear hwd y0 y1 p0 p1 x3 HPP HSD
        have HGHBd := hidp (HX0.out.keep HBd.out)
        obtain ⟨_, _, _, x3⟩ := mod_cells HGHBd.out
        have HPHBd := hidp (own_block0 (own_below HO00.out HBd.out) HNL.out HXX.out)
        obtain ⟨p0, p1⟩ := HPHBd.out
        dsimp only at p0 p1
        obtain ⟨y0, y1⟩ := HXd.out.two
        have hbsd := HBd.out.size
        have hxsd := HXd.out.lt
        go_wp2_with (first
          | (at_builtin
             refine wpList_append_lies _ rfl _ _ 24 rfl (w.heap.size + 1) 55 j0 (.agg #[.int .i64 0, .int .i64 0]) 2 16 Tryd.underlying24 hjn hjz0 hjz1 hjz2 rfl (by decide) u4 (k) (bkVs (acc)) rfl (HOd.out.alloc _) ⟨_, 0, none⟩ 1 1 [.int .i64 ad, .int .i64 z] rfl rfl ?c1 ?c2 (by omega) ?c3 ?c4 ?c5 _ rfl ?_
             case c1 => intro jj yy hyy; rcases jj with _ | _ | jj; (· simp at hyy; subst hyy; simp [Addr.add]); (· simp at hyy; subst hyy; simp [Addr.add]); (· simp at hyy)
             case c2 => simp [Value.oneCell']
             case c3 => unfold maxLen; omega
             case c4 => omega
             case c5 => simp; omega
             intro g8 capg8 w8 hown8 hgrow8 hat8 hlt8)
          | fail)
        have HO8 : Hid (w8.ownsRow (w.heap.size + 1) 55 2 (.slice (some ⟨g8, 0, none⟩) (k + 1) capg8) (k + 1) (bkVs (addTo (b1, b2) (L.take (i + 1))).1)) := hidp (by rw [HT1.out]; show w8.ownsRow _ _ _ _ _ (bkVs (acc ++ [(ad, z)])); rw [bkVs_snoc]; exact hown8)
        have HB8 : Hid (Below w.heap.size w w8) := hidp ((Bnew HBd.out _).grown hgrow8 (by have := HBd.out.size; simp; omega) (fun j hj => by have := (HOd.out.lt j hj).1; omega))
        have HX8 : Hid (Held w8 w.heap.size 55 #[.int .i64 b1, .int .i64 b2]) := hidp ((hgrow8.block _ (by have := HXd.out.lt; simp; omega) (fun e => by have := (HOd.out.lt _ e.symm).1; omega)).trans (HXd.out.alloc _))
        have HM1 : Hid ((addTo (b1, b2) (L.take (i + 1))).1.length = k + 1) := hidp (by rw [HT1.out]; simp; have := HM.out; omega)
        have HD1 : Hid ((addTo (b1, b2) (L.take (i + 1))).2 = true) := hidp (by rw [HT1.out])
        clear hown8 hgrow8 hat8 hlt8 y0 y1 p0 p1 x3
        go_wp2_with fail
        go_roundw
        case rel => exact ⟨i + 1, k + 1, true, by omega, by go_num, rfl, by omega, HM1, HD1, HO8, HX8, HB8⟩
        case measure => simp [intOf]; omega
      | false =>
        have hkf : k <= i := by
          have h0 := addTo_flat (b := (b1, b2)) HNL.out
          have := h0 i (by omega) (by rw [hT]; exact hdd)
          rw [hT] at this
          simp only at this
          omega
        by_cases hlt2 : b1 < ad
        · subst hdd
          have HT1 : Hid (addTo (b1, b2) (L.take (i + 1)) = (acc ++ [(b1, b2)] ++ [(ad, z)], true)) := hidp (by rw [HTK.out, addTo_snoc, hT]; unfold addStep; rw [if_pos ⟨rfl, hlt2⟩])
          have t1 : decide (b1 < ad) = true := decide_eq_true hlt2
          clear hT
          go_wp2_with fail
          have HSD : Hid ((fun w' => w'.cell? ⟨w.heap.size, 0, none⟩ = some (.int .i64 b1) /\ w'.cell? ⟨g, 3, none⟩ = some (.slice (some ⟨gv, 0, none⟩) nl c) /\ w'.cell? ⟨gv, i * 2, none⟩ = some (.int .i64 ad)) wr.drew) := hidp HPP.out
          refine wp_region_held_drew (S := (fun w' => w'.cell? ⟨w.heap.size, 0, none⟩ = some (.int .i64 b1) /\ w'.cell? ⟨g, 3, none⟩ = some (.slice (some ⟨gv, 0, none⟩) nl c) /\ w'.cell? ⟨gv, i * 2, none⟩ = some (.int .i64 ad))) (by kernel_rfl) ?_ (fun hHeld => ?_)
          · (try dsimp only)
            exact HSD.out
          refine tkz 0 ?_
          refine tkz 1 ?_
          refine tkz 2 ?_
          refine tkz 3 ?_
          refine tkz 4 ?_
          refine tkz 5 ?_
          refine tkz 6 ?_
          refine tkz 7 ?_
          refine tkz 8 ?_
          refine tkz 9 ?_
          refine tkz 10 ?_
          refine tkz 11 ?_
          refine tkz 12 ?_
          refine tkz 13 ?_
          refine tkz 14 ?_
          refine tkz 15 ?_
          refine dnz ?_
          have HOd := hidp (own_below HO.out (Bdrew (B0 wr)))
          have HXd := hidp (HX.out.keep (Bdrew (B0 wr)))
          have HBd := hidp (Bdrew HB.out)
          generalize hwd : wr.drew = wd at *
          clear hwd y0 y1 p0 p1 x3 HPP HSD
          have HGHBd := hidp (HX0.out.keep HBd.out)
          obtain ⟨_, _, _, x3⟩ := mod_cells HGHBd.out
          have HPHBd := hidp (own_block0 (own_below HO00.out HBd.out) HNL.out HXX.out)
          obtain ⟨p0, p1⟩ := HPHBd.out
          dsimp only at p0 p1
          obtain ⟨y0, y1⟩ := HXd.out.two
          have hbsd := HBd.out.size
          have hxsd := HXd.out.lt
          have HTOK : Hid True := hidp trivial
          go_wp2_with (first
            | (at_builtin
               have hz := HTOK.out
               clear hz HTOK
               refine wpList_append_lies _ rfl _ _ 24 rfl (w.heap.size + 1) 55 j0 (.agg #[.int .i64 0, .int .i64 0]) 2 16 Tryd.underlying24 hjn hjz0 hjz1 hjz2 rfl (by decide) u4 (k) (bkVs (acc)) rfl (HOd.out.alloc _) ⟨_, 0, none⟩ 1 1 [.int .i64 b1, .int .i64 b2] rfl rfl ?c1 ?c2 (by omega) ?c3 ?c4 ?c5 _ rfl ?_
               case c1 => intro jj yy hyy; rcases jj with _ | _ | jj; (· simp at hyy; subst hyy; simp [Addr.add]); (· simp at hyy; subst hyy; simp [Addr.add]); (· simp at hyy)
               case c2 => simp [Value.oneCell']
               case c3 => unfold maxLen; omega
               case c4 => omega
               case c5 => simp; omega
               intro g7 capg7 w7 hown8 hgrow8 hat8 hlt8
               have HO7 : Hid (w7.ownsRow (w.heap.size + 1) 55 2 (.slice (some ⟨g7, 0, none⟩) (k + 1) capg7) (k + 1) (bkVs (acc ++ [(b1, b2)]))) := hidp (by rw [bkVs_snoc]; exact hown8)
               have HB7 : Hid (Below w.heap.size w w7) := hidp ((Bnew HBd.out _).grown hgrow8 (by have := HBd.out.size; simp; omega) (fun j hj => by have := (HOd.out.lt j hj).1; omega))
               have HX7 : Hid (Held w7 w.heap.size 55 #[.int .i64 b1, .int .i64 b2]) := hidp ((hgrow8.block _ (by have := HXd.out.lt; simp; omega) (fun e => by have := (HOd.out.lt _ e.symm).1; omega)).trans (HXd.out.alloc _))
               clear hown8 hgrow8 hat8 hlt8 y0 y1 p0 p1 x3
               have hbs7 := HB7.out.size
               have hxs7 := HX7.out.lt
               have HGHB7 := hidp (HX0.out.keep HB7.out)
               obtain ⟨_, _, _, x3⟩ := mod_cells HGHB7.out
               have HPHB7 := hidp (own_block0 (own_below HO00.out HB7.out) HNL.out HXX.out)
               obtain ⟨p0, p1⟩ := HPHB7.out
               dsimp only at p0 p1
               obtain ⟨y0, y1⟩ := HX7.out.two)
            | (at_builtin
               refine wpList_append_lies _ rfl _ _ 24 rfl (w.heap.size + 1) 55 j0 (.agg #[.int .i64 0, .int .i64 0]) 2 16 Tryd.underlying24 hjn hjz0 hjz1 hjz2 rfl (by decide) (.slice (some ⟨g7, 0, none⟩) (k + 1) capg7) (k + 1) (bkVs (acc ++ [(b1, b2)])) rfl (HO7.out.alloc _) ⟨_, 0, none⟩ 1 1 [.int .i64 ad, .int .i64 z] rfl rfl ?c1 ?c2 (by omega) ?c3 ?c4 ?c5 _ rfl ?_
               case c1 => intro jj yy hyy; rcases jj with _ | _ | jj; (· simp at hyy; subst hyy; simp [Addr.add]); (· simp at hyy; subst hyy; simp [Addr.add]); (· simp at hyy)
               case c2 => simp [Value.oneCell']
               case c3 => unfold maxLen; omega
               case c4 => omega
               case c5 => simp; omega
               intro g8 capg8 w8 hown8 hgrow8 hat8 hlt8)
            | fail)
          have HO8 : Hid (w8.ownsRow (w.heap.size + 1) 55 2 (.slice (some ⟨g8, 0, none⟩) (k + 1 + 1) capg8) (k + 1 + 1) (bkVs (addTo (b1, b2) (L.take (i + 1))).1)) := hidp (by rw [HT1.out]; show w8.ownsRow _ _ _ _ _ (bkVs (acc ++ [(b1, b2)] ++ [(ad, z)])); rw [bkVs_snoc]; exact hown8)
          have HB8 : Hid (Below w.heap.size w w8) := hidp ((Bnew HB7.out _).grown hgrow8 (by have := HB7.out.size; simp; omega) (fun j hj => by have := (HO7.out.lt j hj).1; omega))
          have HX8 : Hid (Held w8 w.heap.size 55 #[.int .i64 b1, .int .i64 b2]) := hidp ((hgrow8.block _ (by have := HX7.out.lt; simp; omega) (fun e => by have := (HO7.out.lt _ e.symm).1; omega)).trans (HX7.out.alloc _))
          have HM1 : Hid ((addTo (b1, b2) (L.take (i + 1))).1.length = k + 1 + 1) := hidp (by rw [HT1.out]; simp; have := HM.out; omega)
          have HD1 : Hid ((addTo (b1, b2) (L.take (i + 1))).2 = true) := hidp (by rw [HT1.out])
          clear hown8 hgrow8 hat8 hlt8 y0 y1 p0 p1 x3
          go_wp2_with fail
          go_roundw
          case rel => exact ⟨i + 1, k + 1 + 1, true, by omega, by go_num, rfl, by omega, HM1, HD1, HO8, HX8, HB8⟩
          case measure => simp [intOf]; omega
        · subst hdd
          have HT1 : Hid (addTo (b1, b2) (L.take (i + 1)) = (acc ++ [(ad, z)], false)) := hidp (by rw [HTK.out, addTo_snoc, hT]; unfold addStep; rw [if_neg (by intro h; exact hlt2 h.2)])
          have t1 : decide (b1 < ad) = false := decide_eq_false hlt2
          clear hT
          go_wp2_with fail
          have HSD : Hid ((fun w' => w'.cell? ⟨w.heap.size, 0, none⟩ = some (.int .i64 b1) /\ w'.cell? ⟨g, 3, none⟩ = some (.slice (some ⟨gv, 0, none⟩) nl c) /\ w'.cell? ⟨gv, i * 2, none⟩ = some (.int .i64 ad)) wr.drew) := hidp HPP.out
          refine wp_region_held_drew (S := (fun w' => w'.cell? ⟨w.heap.size, 0, none⟩ = some (.int .i64 b1) /\ w'.cell? ⟨g, 3, none⟩ = some (.slice (some ⟨gv, 0, none⟩) nl c) /\ w'.cell? ⟨gv, i * 2, none⟩ = some (.int .i64 ad))) (by kernel_rfl) ?_ (fun hHeld => ?_)
          · (try dsimp only)
            exact HSD.out
          refine tkz 0 ?_
          refine tkz 1 ?_
          refine tkz 2 ?_
          refine tkz 3 ?_
          refine tkz 4 ?_
          refine tkz 5 ?_
          refine tkz 6 ?_
          refine tkz 7 ?_
          refine tkz 8 ?_
          refine tkz 9 ?_
          refine tkz 10 ?_
          refine tkz 11 ?_
          refine tkz 12 ?_
          refine tkz 13 ?_
          refine tkz 14 ?_
          refine tkz 15 ?_
          refine dnz ?_
          have HOd := hidp (own_below HO.out (Bdrew (B0 wr)))
          have HXd := hidp (HX.out.keep (Bdrew (B0 wr)))
          have HBd := hidp (Bdrew HB.out)
          generalize hwd : wr.drew = wd at *
          clear hwd y0 y1 p0 p1 x3 HPP HSD
          have HGHBd := hidp (HX0.out.keep HBd.out)
          obtain ⟨_, _, _, x3⟩ := mod_cells HGHBd.out
          have HPHBd := hidp (own_block0 (own_below HO00.out HBd.out) HNL.out HXX.out)
          obtain ⟨p0, p1⟩ := HPHBd.out
          dsimp only at p0 p1
          obtain ⟨y0, y1⟩ := HXd.out.two
          have hbsd := HBd.out.size
          have hxsd := HXd.out.lt
          go_wp2_with (first
            | (at_builtin
               refine wpList_append_lies _ rfl _ _ 24 rfl (w.heap.size + 1) 55 j0 (.agg #[.int .i64 0, .int .i64 0]) 2 16 Tryd.underlying24 hjn hjz0 hjz1 hjz2 rfl (by decide) u4 (k) (bkVs (acc)) rfl (HOd.out.alloc _) ⟨_, 0, none⟩ 1 1 [.int .i64 ad, .int .i64 z] rfl rfl ?c1 ?c2 (by omega) ?c3 ?c4 ?c5 _ rfl ?_
               case c1 => intro jj yy hyy; rcases jj with _ | _ | jj; (· simp at hyy; subst hyy; simp [Addr.add]); (· simp at hyy; subst hyy; simp [Addr.add]); (· simp at hyy)
               case c2 => simp [Value.oneCell']
               case c3 => unfold maxLen; omega
               case c4 => omega
               case c5 => simp; omega
               intro g8 capg8 w8 hown8 hgrow8 hat8 hlt8)
            | fail)
          have HO8 : Hid (w8.ownsRow (w.heap.size + 1) 55 2 (.slice (some ⟨g8, 0, none⟩) (k + 1) capg8) (k + 1) (bkVs (addTo (b1, b2) (L.take (i + 1))).1)) := hidp (by rw [HT1.out]; show w8.ownsRow _ _ _ _ _ (bkVs (acc ++ [(ad, z)])); rw [bkVs_snoc]; exact hown8)
          have HB8 : Hid (Below w.heap.size w w8) := hidp ((Bnew HBd.out _).grown hgrow8 (by have := HBd.out.size; simp; omega) (fun j hj => by have := (HOd.out.lt j hj).1; omega))
          have HX8 : Hid (Held w8 w.heap.size 55 #[.int .i64 b1, .int .i64 b2]) := hidp ((hgrow8.block _ (by have := HXd.out.lt; simp; omega) (fun e => by have := (HOd.out.lt _ e.symm).1; omega)).trans (HXd.out.alloc _))
          have HM1 : Hid ((addTo (b1, b2) (L.take (i + 1))).1.length = k + 1) := hidp (by rw [HT1.out]; simp; have := HM.out; omega)
          have HD1 : Hid ((addTo (b1, b2) (L.take (i + 1))).2 = false) := hidp (by rw [HT1.out])
          clear hown8 hgrow8 hat8 hlt8 y0 y1 p0 p1 x3
          go_wp2_with fail
          go_roundw
          case rel => exact ⟨i + 1, k + 1, false, by omega, by go_num, rfl, by omega, HM1, HD1, HO8, HX8, HB8⟩
          case measure => simp [intOf]; omega
    · have hkn : i = nl := by omega
      have t0 : decide ((i : Int) < nl) = false := decide_eq_false (by omega)
      have HTK : Hid (L.take i = L) := hidp (by rw [List.take_of_length_le (by have := HNL.out; omega)])
      clear hkn
      rw [HTK.out] at HO HM HD
      cases d with
      | true =>
        have HA9 := hidp (HMW.out.keep HB.out)
        have HE : Hid (addB L (b1, b2) = (addTo (b1, b2) L).1) := hidp (by unfold addB; rw [if_pos HD.out])
        rw [<- HE.out] at HO HM
        obtain ⟨Au, cu, hu⟩ := own_slice HO.out
        subst hu
        have HO9 : Hid (wr.ownsRow base 55 2 (.slice Au k cu) k (bkVs (addB L (b1, b2)))) := hidp (by
          have h := HO.out
          exact own_down h (Nat.le_trans HLO.out (by omega)))
        have HL9 : Hid ((addB L (b1, b2)).length = k) := HM
        obtain ⟨A9, c9, hx9, _⟩ := HA9.out.ex
        have f3 := hx9.thawed 3
        obtain ⟨_, _, _, x3⟩ := mod_cells hx9
        clear hx9
        go_wp2_with fail
        go_end0
        refine ⟨rfl, ?_, ?_⟩
        · have h1 := HA9.out.live (A := Au) (c := cu) (L' := addB L (b1, b2)) (HA9.out.ins.add HIN.out) (by rw [HL9.out]; exact HO9.out) (fun i hi hz => by
            have h1 := (HO.out.lt i (by rw [HL9.out] at hi; exact hi)).1
            have h2 := HMW.out.zlt i hz
            omega)
          rw [HL9.out] at h1
          exact h1
        · exact (Turns.of_below HB.out (fun i => i = g)).put (p := ⟨g, 3, none⟩) rfl _
      | false =>
        have hbs := HB.out.size
        have hxs := HX.out.lt
        go_wp2_with (first
          | (at_builtin
             refine wpList_append_lies _ rfl _ _ 24 rfl (w.heap.size + 1) 55 j0 (.agg #[.int .i64 0, .int .i64 0]) 2 16 Tryd.underlying24 hjn hjz0 hjz1 hjz2 rfl (by decide) u4 (k) (bkVs ((addTo (b1, b2) L).1)) rfl (HO.out.alloc _) ⟨_, 0, none⟩ 1 1 [.int .i64 b1, .int .i64 b2] rfl rfl ?c1 ?c2 (by omega) ?c3 ?c4 ?c5 _ rfl ?_
             case c1 => intro jj yy hyy; rcases jj with _ | _ | jj; (· simp at hyy; subst hyy; simp [Addr.add]); (· simp at hyy; subst hyy; simp [Addr.add]); (· simp at hyy)
             case c2 => simp [Value.oneCell']
             case c3 => unfold maxLen; omega
             case c4 => omega
             case c5 => simp; omega
             intro g8 capg8 w8 hown8 hgrow8 hat8 hlt8
             have HE : Hid (addB L (b1, b2) = (addTo (b1, b2) L).1 ++ [(b1, b2)]) := hidp (by unfold addB; rw [if_neg (by rw [HD.out]; simp)])
             have HO8 : Hid (w8.ownsRow (w.heap.size + 1) 55 2 (.slice (some ⟨g8, 0, none⟩) (k + 1) capg8) (k + 1) (bkVs (addB L (b1, b2)))) := hidp (by rw [HE.out, bkVs_snoc]; exact hown8)
             have HB8 : Hid (Below w.heap.size w w8) := hidp ((Bnew HB.out _).grown hgrow8 (by simp; omega) (fun j hj => by have := (HO.out.lt j hj).1; omega))
             have HM8 : Hid ((addB L (b1, b2)).length = k + 1) := hidp (by rw [HE.out, List.length_append, HM.out]; rfl)
             have HA9 := hidp (HMW.out.keep HB8.out)
             clear hown8 hgrow8 hat8 hlt8 x3 y0 y1
             obtain ⟨A9, c9, hx9, _⟩ := HA9.out.ex
             have f3 := hx9.thawed 3
             obtain ⟨_, _, _, x3⟩ := mod_cells hx9
             clear hx9)
          | fail)
        have HO9 : Hid (w8.ownsRow base 55 2 (.slice (some ⟨g8, 0, none⟩) (k + 1) capg8) (k + 1) (bkVs (addB L (b1, b2)))) := hidp (by
          have h := HO8.out
          exact own_down h (Nat.le_trans HLO.out (by omega)))
        have HL9 : Hid ((addB L (b1, b2)).length = (k + 1)) := HM8
        go_end0
        refine ⟨rfl, ?_, ?_⟩
        · have h1 := HA9.out.live (A := (some ⟨g8, 0, none⟩)) (c := capg8) (L' := addB L (b1, b2)) (HA9.out.ins.add HIN.out) (by rw [HL9.out]; exact HO9.out) (fun i hi hz => by
            have h1 := (HO8.out.lt i (by rw [HL9.out] at hi; exact hi)).1
            have h2 := HMW.out.zlt i hz
            omega)
          rw [HL9.out] at h1
          exact h1
        · exact (Turns.of_below HB8.out (fun i => i = g)).put (p := ⟨g, 3, none⟩) rfl _
end
end Go.Proofs.YtedakmhffjhfnaaDoor

namespace Go.Proofs.YtedakmhffjhfnaaDoor
open Go.ChangeShapes Go.WideShapes Go.ChangeAt Go.RowKit Go.Maps
set_option linter.unusedVariables false
set_option linter.unusedSimpArgs false
section
def ChainM (e : Int) : Int -> List (Int × Int) -> Prop
 | _, [] => True
 | at_, b :: L => (1 <= b.2 /\ at_ <= b.1 /\ b.2 <= e - b.1) /\ ChainM e (b.1 + b.2) L
theorem ChainM.from_ {e a a' : Int} : ∀ {L : List (Int × Int)}, ChainM e a L -> (∀ x ∈ L, a' <= x.1) -> ChainM e a' L
 | [], _, _ => trivial
 | b :: L, h, hx => ⟨⟨h.1.1, hx b (List.mem_cons_self ..), h.1.2.2⟩, h.2⟩
theorem ChainM.ge {e : Int} : ∀ {L : List (Int × Int)} {a : Int}, ChainM e a L -> ∀ x ∈ L, a <= x.1
 | [], _, _, x, hx => absurd hx (List.not_mem_nil)
 | b :: L, a, h, x, hx => by
  rcases List.mem_cons.1 hx with rfl | hx
  ·exact h.1.2.1
  ·have h1 := ChainM.ge h.2 x hx
   have h2 := h.1
   omega
theorem ChainM.pos {e : Int} : ∀ {L : List (Int × Int)} {a : Int}, ChainM e a L -> ∀ x ∈ L, 1 <= x.2
 | [], _, _, x, hx => absurd hx (List.not_mem_nil)
 | b :: L, a, h, x, hx => by
  rcases List.mem_cons.1 hx with rfl | hx
  ·exact h.1.1
  ·exact ChainM.pos h.2 x hx
theorem ChainM.split {e : Int} (y : Int) : ∀ {L : List (Int × Int)} {a : Int}, ChainM e a L -> ∃ X Y, L = X ++ Y /\ (∀ x ∈ X, x.1 < y) /\ ∀ x ∈ Y, y <= x.1
 | [], a, _ => ⟨[], [], rfl, fun x hx => absurd hx (List.not_mem_nil), fun x hx => absurd hx (List.not_mem_nil)⟩
 | b :: L, a, h => by
  by_cases hb : b.1 < y
  ·obtain ⟨X, Y, e1, h1, h2⟩ := ChainM.split y h.2
   refine ⟨b :: X, Y, by rw [e1]; rfl, fun x hx => ?_, h2⟩
   rcases List.mem_cons.1 hx with rfl | hx
   ·exact hb
   ·exact h1 x hx
  ·refine ⟨[], b :: L, rfl, fun x hx => absurd hx (List.not_mem_nil), fun x hx => ?_⟩
   have h1 := ChainM.ge (L := b :: L) (a := b.1) ⟨⟨h.1.1, by omega, h.1.2.2⟩, h.2⟩ x hx
   omega
theorem ChainM.put {e : Int} {b : Int × Int} {Y : List (Int × Int)} (hb : 1 <= b.2 /\ b.2 <= e - b.1) (hY : ∀ y ∈ Y, b.1 + b.2 <= y.1) : ∀ {X : List (Int × Int)} {a : Int}, ChainM e a (X ++ Y) -> (∀ x ∈ X, x.1 + x.2 <= b.1) -> a <= b.1 -> ChainM e a (X ++ [b] ++ Y)
 | [], a, h, _, ha => ⟨⟨hb.1, ha, hb.2⟩, h.from_ hY⟩
 | x :: X, a, h, hX, ha => by
  have h : ChainM e a (x :: (X ++ Y)) := h
  refine ⟨h.1, ?_⟩
  exact ChainM.put hb hY h.2 (fun z hz => hX z (List.mem_cons_of_mem _ hz)) (hX x (List.mem_cons_self ..))
theorem chain_add {g e : Int} {L : List (Int × Int)} {a z : Int} (h : ChainM e g L) (hi : insB g e a z = true) (hh : ∀ x ∈ L, hitB x a z = false) : ChainM e g (addB L (a, z)) /\ ∃ X Y, L = X ++ Y /\ addB L (a, z) = X ++ [(a, z)] ++ Y := by
 have hib := of_decide_eq_true hi
 have hx : ∀ x ∈ L, x.1 + x.2 <= a \/ a + z <= x.1 := fun x hx => by
  have h1 := hh x hx
  unfold hitB at h1
  by_cases h2 : x.1 < a + z
  ·rw [decide_eq_true h2, Bool.true_and] at h1
   have := of_decide_eq_false h1
   omega
  ·omega
 obtain ⟨X, Y, rfl, h1, h2⟩ := h.split a
 have hX : ∀ x ∈ X, x.1 + x.2 <= a := fun x hm => by
  have h3 := hx x (List.mem_append_left _ hm)
  have h4 := h1 x hm
  omega
 have hY : ∀ y ∈ Y, a + z <= y.1 := fun y hm => by
  have h3 := hx y (List.mem_append_right _ hm)
  have h4 := h2 y hm
  have h5 := h.pos y (List.mem_append_right _ hm)
  omega
 have e1 : addB (X ++ Y) (a, z) = X ++ [(a, z)] ++ Y := addB_mid (b := (a, z)) h1 (fun y hm => by have := hY y hm; show a < y.1; omega)
 rw [e1]
 exact ⟨h.put (b := (a, z)) (Y := Y) ⟨hib.1, hib.2.2.2⟩ hY hX hib.2.1, X, Y, rfl, rfl⟩
end
end Go.Proofs.YtedakmhffjhfnaaDoor

namespace Go.Proofs.YtedakmhffjhfnaaDoor
open Go.ChangeShapes Go.WideShapes Go.ChangeAt Go.RowKit Go.Maps
set_option linter.unusedVariables false
set_option maxRecDepth 100000
section
def bkV (a b : Int) : Value := .agg #[.int .i64 a, .int .i64 b]
def bkL (a b : Int) : Lit := .string (keyBytes [.int .i64 a, .int .i64 b])
theorem bk_row : 55 < Tryd.prog.types.size := of_decide_eq_true (by kernel_rfl)
theorem bk_size : ∃ d, Tryd.prog.types.size = d + 1 := ⟨Tryd.prog.types.size - 1, by have := bk_row; omega⟩
theorem bk_keyType : Tryd.prog.keyType 55 = true := by kernel_rfl
theorem bk_cells : Tryd.prog.cellsOf 55 = 2 := by kernel_rfl
theorem i64_cells : Tryd.prog.cellsOf 2 = 1 := by kernel_rfl
theorem bkKey : Keyed Tryd.prog 55 :=
 Keyed.of_law (deep_law_laid (m := 3) (by kernel_rfl) (by decide) bk_row (by kernel_rfl) (by kernel_rfl))
theorem i64_lits {d : Nat} {x : Value} {l : List Lit} (h : Tryd.prog.keyLits (d + 1) 2 [x] = some l) : ∃ a : Int, x = .int .i64 a /\ (Lit.int .i64 a).wf = true /\ l = [.int .i64 a] := by
 unfold Program.keyLits at h
 rw [Tryd.underlying2] at h
 cases x <;> simp at h
 obtain ⟨⟨rfl, hw⟩, rfl⟩ := h
 exact ⟨_, rfl, hw, rfl⟩
theorem bk_lits {d : Nat} (cs : List Value) (L : List Lit) (h : Tryd.prog.keyLits (d + 2) 55 cs = some L) : ∃ a b : Int, cs = [.int .i64 a, .int .i64 b] /\ (Lit.int .i64 a).wf = true /\ (Lit.int .i64 b).wf = true /\ L = [.int .i64 a, .int .i64 b] := by
 unfold Program.keyLits at h
 rw [Tryd.underlying55] at h
 simp only [bk_cells] at h
 split at h
 case isFalse => cases h
 case isTrue hc =>
  match cs, hc.1 with
  | [x, y], _ =>
   simp [i64_cells, Option.bind_eq_some_iff] at h
   obtain ⟨l1, h1, l2, ⟨l3, h2, rfl⟩, rfl⟩ := h
   obtain ⟨a, rfl, ha, rfl⟩ := i64_lits h1
   obtain ⟨b, rfl, hb, rfl⟩ := i64_lits h2
   exact ⟨a, b, rfl, ha, hb, rfl⟩
theorem bk_lits_mk {d : Nat} {a b : Int} (ha : (Lit.int .i64 a).wf = true) (hb : (Lit.int .i64 b).wf = true) : Tryd.prog.keyLits (d + 2) 55 [.int .i64 a, .int .i64 b] = some [.int .i64 a, .int .i64 b] := by
 unfold Program.keyLits
 rw [Tryd.underlying55]
 simp [bk_cells, i64_cells, Program.keyLits, Tryd.underlying2, ha, hb]
theorem bk_key {a b : Int} (ha : (Lit.int .i64 a).wf = true) (hb : (Lit.int .i64 b).wf = true) : keyOf Tryd.prog 55 (bkV a b) = some (bkL a b) := by
 obtain ⟨d, hd⟩ := bk_size
 rw [keyOf, Tryd.underlying55]
 simp only [bk_keyType, hd, bkV, Value.cells]
 rw [bk_lits_mk ha hb]
 simp [Value.formed, Tryd.underlying55, bk_cells, bkL]
theorem bk_inv {key : Value} {kl : Lit} (h : keyOf Tryd.prog 55 key = some kl) : ∃ x : Int × Int, key = bkV x.1 x.2 /\ (Lit.int .i64 x.1).wf = true /\ (Lit.int .i64 x.2).wf = true /\ kl = bkL x.1 x.2 := by
 obtain ⟨d, hd⟩ := bk_size
 obtain ⟨xs, L, rfl, hl, rfl⟩ := keyOf_top (by kernel_rfl) h
 rw [hd] at hl
 obtain ⟨a, b, hx, ha, hb, rfl⟩ := bk_lits _ _ hl
 refine ⟨(a, b), ?_, ha, hb, rfl⟩
 obtain ⟨l⟩ := xs
 simp at hx
 subst hx
 rfl
theorem bk_inj {a b c d : Int} (ha : (Lit.int .i64 a).wf = true) (hb : (Lit.int .i64 b).wf = true) (hc : (Lit.int .i64 c).wf = true) (hd : (Lit.int .i64 d).wf = true) (h : bkL a b = bkL c d) : a = c /\ b = d := by
 have h1 := bkKey.inj (bk_key ha hb) ((bk_key hc hd).trans (by rw [h]))
 unfold bkV at h1
 simpa using h1
theorem bk_isKey (a b : Int) : WideAt.IsKeyLit (bkL a b) := by unfold bkL; trivial
def WfB (x : Int × Int) : Prop := (Lit.int .i64 x.1).wf = true /\ (Lit.int .i64 x.2).wf = true

structure LiveIs (D : DataW Unit) (L : List (Int × Int)) : Prop where
 tidy : Tidy D
 wf : ∀ x ∈ L, WfB x
 has : ∀ x : Int × Int, WfB x -> (Maps.has D (bkL x.1 x.2) = true ↔ x ∈ L)
 size : Maps.size D = L.length
section
variable {D : DataW Unit} {L : List (Int × Int)}
theorem LiveIs.none : LiveIs (.map []) [] := ⟨tidy_empty, by simp, fun x _ => by simp [Maps.has], rfl⟩
theorem LiveIs.put {x : Int × Int} {L' : List (Int × Int)} (h : LiveIs D L) (hx : WfB x) (hn : x ∉ L) (hp : L'.Perm (x :: L)) : LiveIs (D.put (bkL x.1 x.2) (.agg [])) L' := by
 have hf : Maps.has D (bkL x.1 x.2) = false := by
  cases e : Maps.has D (bkL x.1 x.2) with
  | false => rfl
  | true => exact absurd ((h.has x hx).1 e) hn
 refine ⟨h.tidy.put (bk_isKey _ _) _, fun y hy => ?_, fun y hy => ?_, ?_⟩
 ·rcases List.mem_cons.1 (hp.mem_iff.1 hy) with rfl | h1
  ·exact hx
  ·exact h.wf y h1
 ·by_cases e : y = x
  ·subst e
   rw [has_put_same h.tidy.isMap (bk_isKey _ _)]
   exact ⟨fun _ => hp.mem_iff.2 (List.mem_cons_self ..), fun _ => rfl⟩
  ·rw [has_put_other (fun e2 => e (Prod.ext (bk_inj hy.1 hy.2 hx.1 hx.2 e2).1 (bk_inj hy.1 hy.2 hx.1 hx.2 e2).2)), h.has y hy, hp.mem_iff, List.mem_cons]
   exact ⟨fun h => .inr h, fun h => h.resolve_left e⟩
 ·rw [size_put h.tidy, hf, h.size, hp.length_eq]
  simp
def CameB (D : DataW Unit) (left : Lit -> Bool) (ss : List (Int × Int)) : Prop :=
 ss.Nodup /\ (∀ x ∈ ss, WfB x) /\ ∀ x : Int × Int, WfB x -> (x ∈ ss ↔ (Maps.has D (bkL x.1 x.2) = true /\ left (bkL x.1 x.2) = false))
theorem CameB.start (D : DataW Unit) : CameB D (Maps.has D) [] :=
 ⟨List.nodup_nil, by simp, fun x _ => by cases Maps.has D (bkL x.1 x.2) <;> simp⟩
theorem CameB.step {left : Lit -> Bool} {ss : List (Int × Int)} {x : Int × Int} (h : CameB D left ss) (hx : WfB x) (hl : left (bkL x.1 x.2) = true) (hh : Maps.has D (bkL x.1 x.2) = true) :
  CameB D (fun z => left z && !z.sameKey (bkL x.1 x.2)) (ss ++ [x]) := by
 have hnb : x ∉ ss := fun hm => by rw [((h.2.2 x hx).1 hm).2] at hl; cases hl
 refine ⟨?_, ?_, fun y hy => ?_⟩
 ·rw [List.nodup_append]
  exact ⟨h.1, by simp, fun y hy z hz e => by simp at hz; subst hz; subst e; exact hnb hy⟩
 ·intro y hy
  rcases List.mem_append.1 hy with h1 | h1
  ·exact h.2.1 y h1
  ·simp at h1; subst h1; exact hx
 ·by_cases e : y = x
  ·subst e
   have : (bkL y.1 y.2).sameKey (bkL y.1 y.2) = true := WideAt.sameKey_self (bk_isKey _ _)
   simp [this, hh]
  ·have h1 : (bkL y.1 y.2).sameKey (bkL x.1 x.2) = false := Maps.sameKey_ne (fun e2 => e (Prod.ext (bk_inj hy.1 hy.2 hx.1 hx.2 e2).1 (bk_inj hy.1 hy.2 hx.1 hx.2 e2).2))
   rw [List.mem_append, h.2.2 y hy]
   simp [h1, e]
theorem CameB.done {left : Lit -> Bool} {ss : List (Int × Int)} (h : CameB D left ss) (hl : ∀ kl, left kl = false) (hp : LiveIs D L) (hnd : L.Nodup) : ss.Perm L := by
 refine (List.perm_ext_iff_of_nodup h.1 hnd).2 (fun x => ?_)
 constructor
 ·intro hx
  have hw := h.2.1 x hx
  exact (hp.has x hw).1 ((h.2.2 x hw).1 hx).1
 ·intro hx
  have hw := hp.wf x hx
  exact (h.2.2 x hw).2 ⟨(hp.has x hw).2 hx, hl _⟩
end
end
end Go.Proofs.YtedakmhffjhfnaaDoor

namespace Go.Proofs.YtedakmhffjhfnaaDoor
open Go.ChangeShapes Go.WideShapes Go.ChangeAt Go.RowKit Go.Maps
set_option linter.unusedVariables false
set_option linter.unusedSimpArgs false
set_option maxRecDepth 100000
section
theorem held_not_map {H : Type} {w : World} {g b n : Nat} {t k : TypeId} {cs : Array Value} {P : Program} {R : Value -> Option (DataW H × List MemPlace)} {D : DataW H} (h : Held w g t cs) (hm : w.ownsMap P k R b n D) : g ≠ b := by
 rintro rfl
 obtain ⟨es, clock, hb, _⟩ := hm
 unfold Held at h
 rw [h] at hb
 cases hb
def AscM (L : List (Int × Int)) : Prop := L.Pairwise (fun x y => x.1 + x.2 <= y.1)
theorem ins_parts {g e a z : Int} (h : insB g e a z = true) : 1 <= z /\ g <= a /\ a <= e /\ z <= e - a := of_decide_eq_true h
theorem AscM.nodup {g e : Int} {L : List (Int × Int)} (h : AscM L) (hi : InsM g e L) : L.Nodup := by
 refine List.Pairwise.imp_of_mem ?_ h
 intro x y hx hy h1 e1
 subst e1
 have := ins_parts (hi x hx)
 omega
structure IsMod (w : World) (g : Nat) (F : Nat -> Prop) (t p s : Int) (L : List (Int × Int)) (R : Nat -> Int) : Prop where
 right : rightB t p s = true
 ins : InsM (pageN t p s : Int) (endI t p s) L
 asc : AscM L
 lt : ∀ i, F i -> i < w.heap.size
 fg : F g
 ex : ∃ (m : Nat) (D : DataW Unit), F m /\ Held w g 62 (mC t p s (.map (some m)) R) /\ w.ownsMap Tryd.prog 55 unitElem m L.length D /\ LiveIs D L
section
variable {w w' : World} {g : Nat} {F : Nat -> Prop} {t p s : Int} {L : List (Int × Int)} {R : Nat -> Int}
theorem IsMod.turns {G : Nat -> Prop} (h : IsMod w g F t p s L R) (ht : Turns G w w') (hg : ∀ i, F i -> ¬ G i) : IsMod w' g F t p s L R := by
 obtain ⟨m, D, hm, h1, h2, h3⟩ := h.ex
 exact ⟨h.right, h.ins, h.asc, fun i hi => Nat.lt_of_lt_of_le (h.lt i hi) ht.size, h.fg, m, D, hm, ht.held h1 (hg g h.fg), owns_turns h2 ht (hg m hm), h3⟩
theorem IsMod.stay (h : IsMod w g F t p s L R) (hb : Below w.heap.size w w') : IsMod w' g F t p s L R :=
 h.turns (Turns.of_below hb (fun _ => False)) (fun _ _ x => x)
theorem IsMod.nodup (h : IsMod w g F t p s L R) : L.Nodup := h.asc.nodup h.ins
theorem IsMod.congr {R' : Nat -> Int} (h : IsMod w g F t p s L R) (e : ∀ k, k < 8 -> R k = R' k) : IsMod w g F t p s L R' := by
 obtain ⟨m, D, hm, h1, h2, h3⟩ := h.ex
 refine ⟨h.right, h.ins, h.asc, h.lt, h.fg, m, D, hm, ?_, h2, h3⟩
 have e2 : mC t p s (.map (some m)) R' = mC t p s (.map (some m)) R := by
  unfold mC
  rw [e 0 (by omega), e 1 (by omega), e 2 (by omega), e 3 (by omega), e 4 (by omega), e 5 (by omega), e 6 (by omega), e 7 (by omega)]
 rw [e2]
 exact h1
theorem IsMod.root (h : IsMod w g F t p s L R) {k : Nat} (hk : k < 8) (x : Int) : IsMod (w.setCell ⟨g, 4 + k, none⟩ (.int .i64 x)) g F t p s L (updF R k x) := by
 obtain ⟨m, D, hm, h1, h2, h3⟩ := h.ex
 have h4 := h1.put (4 + k) (.int .i64 x)
 rw [mC_root _ _ _ _ _ hk] at h4
 exact ⟨h.right, h.ins, h.asc, fun i hi => by simp; exact h.lt i hi, h.fg, m, D, hm, h4, h2.setCell (fun e => held_not_map h1 h2 e.symm) _, h3⟩
end
end
end Go.Proofs.YtedakmhffjhfnaaDoor

namespace Go.Proofs.YtedakmhffjhfnaaDoor
open Go.ChangeShapes Go.WideShapes Go.ChangeAt Go.RowKit Go.Maps
set_option linter.unusedVariables false
set_option linter.unusedSimpArgs false
section
theorem asc_chain {g e : Int} : ∀ {L : List (Int × Int)} {a : Int}, AscM L -> InsM g e L -> (∀ x ∈ L, a <= x.1) -> ChainM e a L
 | [], _, _, _, _ => trivial
 | b :: L, a, h, hi, ha => by
  have h1 := ins_parts (hi b (List.mem_cons_self ..))
  have h2 := List.pairwise_cons.1 h
  exact ⟨⟨h1.1, ha b (List.mem_cons_self ..), h1.2.2.2⟩, asc_chain h2.2 (fun x hx => hi x (List.mem_cons_of_mem _ hx)) h2.1⟩
theorem chain_ins {g e : Int} : ∀ {L : List (Int × Int)} {a : Int}, ChainM e a L -> g <= a -> InsM g e L
 | [], _, _, _ => fun x hx => by cases hx
 | b :: L, a, h, ha => fun x hx => by
  have h0 := h.1
  rcases List.mem_cons.1 hx with rfl | hx
  ·exact decide_eq_true ⟨by omega, by omega, by omega, by omega⟩
  ·exact chain_ins (g := g) h.2 (by omega) x hx
theorem chain_asc {e : Int} : ∀ {L : List (Int × Int)} {a : Int}, ChainM e a L -> AscM L
 | [], _, _ => List.Pairwise.nil
 | b :: L, a, h => List.pairwise_cons.2 ⟨fun x hx => ChainM.ge h.2 x hx, chain_asc h.2⟩
theorem chain_iff {g e : Int} {L : List (Int × Int)} : ChainM e g L ↔ AscM L /\ InsM g e L :=
 ⟨fun h => ⟨chain_asc h, chain_ins h (Int.le_refl _)⟩, fun h => asc_chain h.1 h.2 (fun x hx => (ins_parts (h.2 x hx)).2.1)⟩
theorem asc_hit {g e : Int} {L : List (Int × Int)} (ha : AscM L) (hi : InsM g e L) {x y : Int × Int} (hx : x ∈ L) (hy : y ∈ L) (hn : x ≠ y) : hitB x y.1 y.2 = false := by
 obtain ⟨i, hi1, rfl⟩ := List.getElem_of_mem hx
 obtain ⟨j, hj1, rfl⟩ := List.getElem_of_mem hy
 have hp := List.pairwise_iff_getElem.1 ha
 unfold hitB
 rcases Nat.lt_trichotomy i j with h3 | h3 | h3
 ·have := hp i j hi1 hj1 h3
  rw [decide_eq_false (p := L[j].1 < L[i].1 + L[i].2) (by omega), Bool.and_false]
 ·subst h3; exact absurd rfl hn
 ·have := hp j i hj1 hi1 h3
  rw [decide_eq_false (p := L[i].1 < L[j].1 + L[j].2) (by omega), Bool.false_and]
theorem add_perm {X Y L : List (Int × Int)} {b : Int × Int} (h1 : L = X ++ Y) (h2 : addB L b = X ++ [b] ++ Y) : (addB L b).Perm (b :: L) := by
 rw [h2, h1, List.append_assoc]
 exact List.perm_middle
theorem ofL_good {g e : Int} {ys : List (Int × Int)} (hc : ChainM e g ys) : ∀ (n : Nat) (p : List (Int × Int)), p.length = n -> (∀ x ∈ p, x ∈ ys) -> p.Nodup -> ∃ L, ofL g e p = some L /\ L.Perm p /\ ChainM e g L
 | 0, p, hn, _, _ => by
  obtain rfl : p = [] := List.eq_nil_of_length_eq_zero hn
  exact ⟨[], rfl, List.Perm.refl _, trivial⟩
 | n + 1, p, hn, hs, hd => by
  rcases List.eq_nil_or_concat p with rfl | ⟨q, b, rfl⟩
  ·simp at hn
  rw [List.concat_eq_append] at hn hs hd ⊢
  have hd2 := List.nodup_append.1 hd
  obtain ⟨L, h1, h2, h3⟩ := ofL_good hc n q (by simpa using hn) (fun x hx => hs x (List.mem_append_left _ hx)) hd2.1
  obtain ⟨ha, hi⟩ := chain_iff.1 hc
  have hb := hs b (by simp)
  have hh : ∀ x ∈ L, hitB x b.1 b.2 = false := fun x hx => asc_hit ha hi (hs x (List.mem_append_left _ (h2.mem_iff.1 hx))) hb (hd2.2.2 x (h2.mem_iff.1 hx) b (by simp))
  have hf : freeM g e L b.1 b.2 (-1) = true := freeM_all (hi b hb) (fun j x hx => .inr (hh x (List.mem_of_getElem? hx)))
  obtain ⟨h4, X, Y, h5, h6⟩ := chain_add h3 (hi b hb) hh
  refine ⟨addB L b, ?_, ?_, h4⟩
  ·rw [ofL_snoc, h1]
   unfold ofStep
   dsimp only
   rw [if_pos hf]
  ·refine (add_perm h5 h6).trans ?_
   exact (List.Perm.cons b h2).trans (List.perm_append_comm (l₁ := [b]) (l₂ := q))
theorem ofL_back {g e : Int} : ∀ (n : Nat) (p : List (Int × Int)) (L : List (Int × Int)), p.length = n -> ofL g e p = some L -> L.Perm p /\ ChainM e g L
 | 0, p, L, hn, h => by
  obtain rfl : p = [] := List.eq_nil_of_length_eq_zero hn
  have h : some [] = some L := h
  injection h with h
  subst h
  exact ⟨List.Perm.refl _, trivial⟩
 | n + 1, p, L, hn, h => by
  rcases List.eq_nil_or_concat p with rfl | ⟨q, b, rfl⟩
  ·simp at hn
  rw [List.concat_eq_append] at hn h ⊢
  rw [ofL_snoc] at h
  unfold ofStep at h
  split at h
  ·cases h
  ·rename_i L0 h0
   split at h
   ·rename_i hf
    injection h with h
    subst h
    obtain ⟨h1, h2⟩ := ofL_back n q L0 (by simpa using hn) h0
    have hi := freeM_ins hf
    have hh : ∀ x ∈ L0, hitB x b.1 b.2 = false := fun x hx => by
     obtain ⟨j, hj, hjx⟩ := List.getElem_of_mem hx
     cases e1 : hitB x b.1 b.2 with
     | false => rfl
     | true => rw [freeM_hit (j := j) (x := x) (by rw [List.getElem?_eq_getElem hj, hjx]) (by omega) e1] at hf; cases hf
    obtain ⟨h4, X, Y, h5, h6⟩ := chain_add h2 hi hh
    exact ⟨(add_perm h5 h6).trans ((List.Perm.cons b h1).trans (List.perm_append_comm (l₁ := [b]) (l₂ := q))), h4⟩
   ·cases h
theorem sort_one {g e : Int} {L ys : List (Int × Int)} (hp : L.Perm ys) (hc : ChainM e g L) (hs : ys.Pairwise (fun x y => x.1 <= y.1)) : L = ys := by
 obtain ⟨ha, hi⟩ := chain_iff.1 hc
 refine List.Perm.eq_of_pairwise (le := fun x y => x.1 <= y.1) (fun x y hx hy h1 h2 => ?_) (List.Pairwise.imp_of_mem (fun {x y} hx hy h => by have := ins_parts (hi x hx); omega) ha) hs hp
 have hy2 : y ∈ L := hp.mem_iff.2 hy
 obtain ⟨i, hi1, rfl⟩ := List.getElem_of_mem hx
 obtain ⟨j, hj1, hj2⟩ := List.getElem_of_mem hy2
 subst hj2
 have hp2 := List.pairwise_iff_getElem.1 ha
 have p1 := ins_parts (hi _ hx)
 have p2 := ins_parts (hi _ hy2)
 rcases Nat.lt_trichotomy i j with h3 | h3 | h3
 ·have := hp2 i j hi1 hj1 h3
  omega
 ·subst h3; rfl
 ·have := hp2 j i hj1 hi1 h3
  omega
def fillB (g e : Int) : Int -> List (Int × Int) -> Bool
 | _, [] => true
 | at_, b :: L => insB g e b.1 b.2 && decide (at_ <= b.1) && fillB g e (b.1 + b.2) L
theorem fill_chain {g e : Int} : ∀ {L : List (Int × Int)} {a : Int}, fillB g e a L = true -> ChainM e a L /\ InsM g e L
 | [], a, _ => ⟨trivial, fun x hx => by cases hx⟩
 | b :: L, a, h => by
  unfold fillB at h
  simp only [Bool.and_eq_true, decide_eq_true_eq] at h
  have h1 := ins_parts h.1.1
  obtain ⟨h2, h3⟩ := fill_chain h.2
  refine ⟨⟨⟨h1.1, h.1.2, h1.2.2.2⟩, h2⟩, fun x hx => ?_⟩
  rcases List.mem_cons.1 hx with rfl | hx
  ·exact h.1.1
  ·exact h3 x hx
theorem chain_fill {g e : Int} : ∀ {L : List (Int × Int)} {a : Int}, ChainM e a L -> InsM g e L -> fillB g e a L = true
 | [], a, _, _ => rfl
 | b :: L, a, h, hi => by
  unfold fillB
  rw [hi b (List.mem_cons_self ..), decide_eq_true h.1.2.1, chain_fill h.2 (fun x hx => hi x (List.mem_cons_of_mem _ hx))]
  rfl
theorem of_sorted {g e : Int} (hg : 0 <= g) {l ys : List (Int × Int)} (hp : ys.Perm l) (hs : ys.Pairwise (fun x y => x.1 <= y.1)) : ofL g e l = if fillB g e 0 ys = true then some ys else none := by
 by_cases hf : fillB g e 0 ys = true
 ·rw [if_pos hf]
  obtain ⟨h1, h2⟩ := fill_chain hf
  have hc : ChainM e g ys := chain_iff.2 ⟨chain_asc h1, h2⟩
  obtain ⟨L, h3, h4, h5⟩ := ofL_good hc _ l rfl (fun x hx => hp.mem_iff.2 hx) (hp.nodup_iff.1 ((chain_asc h1).nodup h2))
  rw [h3, sort_one (h4.trans hp.symm) h5 hs]
 ·rw [if_neg hf]
  cases h : ofL g e l with
  | none => rfl
  | some L =>
   exfalso
   obtain ⟨h1, h2⟩ := ofL_back _ l L rfl h
   have e1 := sort_one (h1.trans hp.symm) h2 hs
   subst e1
   obtain ⟨h3, h4⟩ := chain_iff.1 h2
   exact hf (chain_fill (asc_chain h3 h4 (fun x hx => by have := ins_parts (h4 x hx); omega)) h4)

section
variable {H : Type} {P : Program} {w : World} {ops : Array Oper} {o : Oper} {a : Act} {K : Act -> World -> Prop} {Q : Exit -> Act -> World -> Prop} {E : Prop}
theorem step_mapUpdate (hgd : o.guard = none) (m x v : Operand) (t : TypeId) (hop : o.op = Op.mapUpdate t m x v)
  (k e : TypeId) (Kd : Keyed P k) (ht : P.underlying t = some (.map k e)) (R : Value -> Option (DataW H × List MemPlace)) (b n : Nat) (D : DataW H)
  (hm : a.eval m = .map (some b)) (hown : w.ownsMap P k R b n D) (hn : n < maxLen) (key val : Value) (kl : Lit) (hx : a.eval x = key) (hv : a.eval v = val) (hkey : keyOf P k key = some kl)
  (d : DataW H) (ps : List MemPlace) (hval : R val = some (d, ps))
  (hK : ∀ w', w'.ownsMap P k R b (n + 1) (D.put kl d) -> w.grownBy w' (some b) -> K (a.put o.dst undef) w') :
  if Region.wanted o (yielded ops a.tmps) = true then Oper.wp P o a w K Q else E := by
 have hw : Region.wanted o (yielded ops a.tmps) = true := by simp [Region.wanted, hgd]
 rw [if_pos hw]
 obtain ⟨w', hrun, r1, r2⟩ := hown.update Kd ht hn hkey hval
 unfold Oper.wp
 simp [execOp, hop, hm, hx, hv, hrun, Result.andThen]
 exact hK w' r1 r2
end
section
variable {w w' : World} {g m : Nat} {F : Nat -> Prop} {t p s : Int} {L L' : List (Int × Int)} {R : Nat -> Int} {D : DataW Unit}
theorem IsMod.more (h : IsMod w g F t p s L R) (hm : F m) (hX : Held w g 62 (mC t p s (.map (some m)) R)) (hO : w.ownsMap Tryd.prog 55 unitElem m L.length D) (hD : LiveIs D L) {x : Int × Int} (hx : WfB x) (hn : x ∉ L) (hp : L'.Perm (x :: L)) (ha : AscM L') (hi : InsM (pageN t p s : Int) (endI t p s) L')
  (hown : w'.ownsMap Tryd.prog 55 unitElem m (L.length + 1) (D.put (bkL x.1 x.2) (.agg []))) (hg : w.grownBy w' (some m)) : IsMod w' g F t p s L' R :=
 ⟨h.right, hi, ha, fun i hi => Nat.lt_of_lt_of_le (h.lt i hi) hg.size, h.fg, m, _, hm, (hg.block g hX.lt (fun e => held_not_map hX hO (by injection e))).trans hX, by rw [hp.length_eq]; exact hown, hD.put hx hn hp⟩
end
end
end Go.Proofs.YtedakmhffjhfnaaDoor

namespace Go.Proofs.YtedakmhffjhfnaaDoor
open Go.ChangeShapes Go.WideShapes Go.ChangeAt Go.RowKit Go.Maps
set_option linter.unusedVariables false
section
def encB (x : Int × Int) : List Value := [.int .i64 x.1, .int .i64 x.2]
def cmpB (x y : Int × Int) : Int := if x.1 < y.1 then -1 else if y.1 < x.1 then 1 else 0
theorem ltOf_b (x y : Int × Int) : ltOf cmpB x y = decide (x.1 < y.1) := by
 unfold ltOf cmpB
 by_cases h1 : x.1 < y.1
 ·simp [h1]
 ·by_cases h2 : y.1 < x.1 <;> simp [h1, h2]
theorem swo_b : Go.Sort.SWO (ltOf cmpB) where
 irrefl x := by rw [ltOf_b]; simp
 trans x y z h1 h2 := by rw [ltOf_b] at *; simp at *; omega
 ntrans x y z h1 h2 := by rw [ltOf_b] at *; simp at *; omega
theorem bk_get : ∀ (L : List (Int × Int)) (t : Nat), (bkVs L)[t]? = (L[t / 2]?).map (fun x => if t % 2 = 0 then Value.int .i64 x.1 else Value.int .i64 x.2)
 | [], t => by simp [bkVs]
 | x :: L, 0 => by simp [bkVs]
 | x :: L, 1 => by simp [bkVs]
 | x :: L, t + 2 => by
  have e : bkVs (x :: L) = .int .i64 x.1 :: .int .i64 x.2 :: bkVs L := by simp [bkVs]
  rw [e, List.getElem?_cons_succ, List.getElem?_cons_succ, bk_get L t, show (t + 2) / 2 = t / 2 + 1 by omega, List.getElem?_cons_succ, show (t + 2) % 2 = t % 2 by omega]
theorem flat_bk (L : List (Int × Int)) : Go.Sort.flatK encB 2 L.toArray = (bkVs L).toArray := by
 refine Go.Sort.ext_get! (by simp [bkVs_len]) fun t ht => ?_
 have ht : t < L.length * 2 := by simpa using ht
 rw [Go.Sort.get_flatK _ _ _ _ (by simpa using ht)]
 have h1 := bk_get L t
 have h2 : t / 2 < L.length := by omega
 rw [List.getElem?_eq_getElem h2] at h1
 have h3 : (bkVs L).toArray[t]! = if t % 2 = 0 then Value.int .i64 (L[t / 2]'h2).1 else Value.int .i64 (L[t / 2]'h2).2 := by
  have : (bkVs L).toArray[t]? = (bkVs L)[t]? := by simp
  rw [getElem!_def, this, h1]
  rfl
 rw [h3]
 have h4 : L.toArray[t / 2]! = L[t / 2]'h2 := by
  rw [getElem!_pos _ _ (by simpa using h2)]
  simp
 rw [h4]
 rcases (by omega : t % 2 = 0 \/ t % 2 = 1) with e | e <;> rw [e] <;> rfl
section
variable {w : World} {base g cap m n sz : Nat} {e : TypeId} {os : Array Obj} {cur : Array Value} {xs ys : List Value}
theorem holds_of_row (hb : w.heap[g]? = some (.cells cur e (0, 0))) (ht : cur.toList.take xs.length = xs) : Go.Sort.Holds id w g 0 xs.toArray := by
 intro j hj
 have hj' : j < xs.length := by simpa using hj
 refine ⟨?_, by simp [World.frozen?, hb]⟩
 have h1 : (cur.toList.take xs.length)[j]? = xs[j]? := by rw [ht]
 rw [List.getElem?_take_of_lt hj'] at h1
 simp only [World.cell?, hb, Nat.zero_add]
 simp only [Option.isSome_none, Bool.false_eq_true, if_false]
 rw [<- Array.getElem?_toList, h1]
 simp [hj']
theorem heap_sorted (d : Array Value) {fr : Nat × Nat} (hb : w.heap[g]? = some (.cells cur e fr)) :
  (Go.Sort.grow (Go.Sort.putRow id (Go.Sort.ahead w n) g 0 d) os).heap[g]? = some (.cells (Go.Sort.putCells id 0 d cur) e fr) := by
 have hg : g < w.heap.size := (Array.getElem?_eq_some_iff.1 hb).1
 rw [Go.Sort.heap_grow_old _ _ (by simpa using hg)]
 simp [Go.Sort.putRow, Go.Sort.mapBlock, Go.Sort.ahead, Array.getElem?_modify, hb, Go.Sort.onCells]
theorem grown_sorted (d : Array Value) : w.grownBy (Go.Sort.grow (Go.Sort.putRow id (Go.Sort.ahead w n) g 0 d) os) (some g) := by
 refine ⟨rfl, rfl, rfl, by simp, fun k hk hne => ?_⟩
 rw [Go.Sort.heap_grow_old _ _ (by simpa using hk)]
 have : g ≠ k := fun e => hne (by rw [e])
 simp [Go.Sort.putRow, Go.Sort.mapBlock, Go.Sort.ahead, Array.getElem?_modify, this]
theorem take_sorted (cur : Array Value) (ts : List Value) (h : ts.length <= cur.size) : (Go.Sort.putCells id 0 ts.toArray cur).toList.take ts.length = ts := by
 apply List.ext_getElem?
 intro j
 by_cases hj : j < ts.length
 ·rw [List.getElem?_take_of_lt hj, Array.getElem?_toList]
  simp [Go.Sort.putCells, hj, show j < cur.size by omega]
 ·rw [List.getElem?_take_eq_none (by omega), List.getElem?_eq_none (by omega)]
theorem own_sorted (hl : ys.length = m * sz) (hbase : base <= g) (hb : w.heap[g]? = some (.cells cur e (0, 0))) (h1 : m <= cap) (h2 : cap <= maxLen) (h3 : cur.size = cap * sz) :
  (Go.Sort.grow (Go.Sort.putRow id (Go.Sort.ahead w n) g 0 ys.toArray) os).ownsRow base e sz (.slice (some ⟨g, 0, none⟩) m cap) m ys :=
 ⟨hl, .inr ⟨g, cap, _, rfl, hbase, heap_sorted _ hb, h1, h2, by simp [Go.Sort.putCells, h3], by rw [<- hl]; exact take_sorted cur ys (by rw [h3, hl]; exact Nat.mul_le_mul_right _ h1)⟩⟩
end
theorem perm_in {d d' : Array (Int × Int)} (h : Go.Sort.PermIn 0 d.size d d') : d'.toList.Perm d.toList := by
 have h3 := h.2.2
 rw [Array.extract_size] at h3
 rw [<- h.1, Array.extract_size] at h3
 exact h3
theorem sorted_in {d d' : Array (Int × Int)} (hs : d'.size = d.size) (h : Go.Sort.SortedIn (ltOf cmpB) 0 d.size d') : d'.toList.Pairwise (fun x y => x.1 <= y.1) := by
 rw [List.pairwise_iff_getElem]
 intro i j hi hj hij
 have h1 := h i j (Nat.zero_le _) hij (by rw [<- hs]; simpa using hj)
 rw [ltOf_b, getElem!_pos d' j (by simpa using hj), getElem!_pos d' i (by simpa using hi)] at h1
 simp at h1
 simpa using h1
end
section
theorem Turns.putObj {k : Nat} (w : World) (o : Obj) : Turns (fun i => i = k) w (w.putObj k o) := ⟨rfl, rfl, rfl, by simp, fun i _ hf => World.putObj_heap_other hf⟩

def RoundGoT (k : Nat) (P : Program) (l : Nat) (body : Code) (Q : World -> Exit -> Act -> World -> Prop) (A : World) (a₁ : Act) (A₁ : World) : Prop :=
 Below A.heap.size A A₁ /\ ∀ A₂, Turns (fun i => i = k) A₁ A₂ -> A₂.heap.size = A₁.heap.size -> body.wpIn (inR l) 0 P (Q A₂) a₁ A₂
end
section
def SeqXs {α : Type} (P : Program) (gf : Nat) (cap : Array Value) (enc : α -> Value) (N : Nat) (fin : List α -> Prop) (R : World -> Prop) : Prop :=
 ∀ (l : Nat) (J : List α -> (Nat -> Prop) -> World -> Prop) (W : World) (F0 : Nat -> Prop), R W ->
  (∀ xs F A B, J xs F A -> Below A.heap.size A B -> J xs F B) ->
  (∀ xs F A B k, J xs F A -> W.heap.size <= k -> ¬ F k -> Turns (fun i => i = k) A B -> J xs F B) ->
  (∀ xs F A, J xs F A -> R A /\ ∀ i, F i -> i < A.heap.size) ->
  (∀ xs x F A, J xs F A -> W.heap.size <= A.heap.size -> xs.length < N -> YieldAt Fence.wide 0 P l #[enc x] A fun e B =>
   e = .returned (.bool true) /\ A.heap.size <= B.heap.size /\ (∀ k, W.heap.size <= k -> k < A.heap.size -> ¬ F k -> B.heap[k]? = A.heap[k]?) /\ ∃ F', J (xs ++ [x]) F' B /\ ∀ i, F' i -> F i \/ A.heap.size <= i) ->
  (∀ i, F0 i -> i < W.heap.size) -> J [] F0 W ->
  CallsIn Fence.wide 0 P gf (#[.func (.yield l) #[] #[]] ++ cap) W fun e B => (∃ v, e = .returned v) /\ ∃ xs F, J xs F B /\ fin xs

def endXs {α : Type} (I : List α -> (Nat -> Prop) -> World -> Prop) (xs : List α) (F : Nat -> Prop) (N : Nat) (A : World) : Exit -> Act -> World -> Prop
 | .normal, _, B => Turns F A B /\ ∃ F', I xs F' B /\ ∀ i, F' i -> F i \/ N <= i
 | _, _, _ => False

theorem wp_seq_xs {α : Type} {P : Program} {g : Operand} {ps : Array Tmp} {assign body : Code} {Q : Exit -> Act -> World -> Prop} {a : Act} {w : World} {gf : Nat} {cap : Array Value}
  (hg : a.eval g = .func (.func gf) #[] cap) (eg : ∀ args w, (callFunc gf args).run P w = .ok (.enter gf args) w)
  {enc : α -> Value} {N : Nat} {fin : List α -> Prop} {R : World -> Prop} (hseq : SeqXs P gf cap enc N fin R) (hb0 : R w) (hRB : ∀ A B, R A -> Below A.heap.size A B -> R B) (hps : ps.size = 1)
  (I : List α -> (Nat -> Prop) -> World -> Prop)
  (hIB : ∀ xs F A B, I xs F A -> Below A.heap.size A B -> I xs F B)
  (hI : ∀ xs F A B k, I xs F A -> w.heap.size <= k -> ¬ F k -> Turns (fun i => i = k) A B -> I xs F B)
  (hIR : ∀ xs F A, I xs F A -> R A /\ ∀ i, F i -> i < A.heap.size)
  {F0 : Nat -> Prop} (h0 : I [] F0 w)
  (hround : ∀ (l : Nat) (xs : List α) (x : α) (F : Nat -> Prop) (A : World), xs.length < N -> I xs F A -> w.heap.size + 2 <= A.heap.size -> (¬ F w.heap.size /\ ¬ F (w.heap.size + 1)) ->
   assign.wpIn (inR l) 0 P (Exit.then (RoundGoT (w.heap.size + 1) P l body (endXs I (xs ++ [x]) F A.heap.size) A) (fun _ _ _ => False))
    { tmps := (ps.zip #[enc x]).foldl (fun t (p, v) => t.setIfInBounds p v) a.tmps, defers := [] } A)
  (hdone : ∀ (xs : List α) (F : Nat -> Prop) (A : World), fin xs -> I xs F A -> (¬ F w.heap.size /\ ¬ F (w.heap.size + 1)) -> A.heap[w.heap.size]? = some (.deferred (some [])) -> Q .normal { a with defers := mark w.heap.size :: a.defers } A) :
  (Code.rangeFunc g ps assign body).wp P Q a w := by
 refine (wpIn_wide (n := 1)).1 (wpIn_rangeFunc ?_)
 intro fn hfn
 have hF0 := (hIR _ _ _ h0).2
 obtain ⟨rec, hrec⟩ : ∃ rec : LoopState -> Option Code -> Loop, rec = fun st pe => { state := st, pending := pe, fn, tmps := a.tmps, params := ps, assign, body, defers := w.heap.size } := ⟨_, rfl⟩
 obtain ⟨W1, hW1⟩ : ∃ W1, (w.alloc (.deferred (some []))).alloc (.loop (rec .ready none)) = W1 := ⟨_, rfl⟩
 have hbw : Below w.heap.size w W1 := by rw [<- hW1]; exact Bnew (Bnew (B0 w) _) _
 have hs1 : W1.heap.size = w.heap.size + 2 := by rw [<- hW1]; simp
 have hL1 : W1.heap[w.heap.size + 1]? = some (.loop (rec .ready none)) := by
  have := heap_alloc_new (w.alloc (.deferred (some []))) (.loop (rec .ready none))
  rw [hW1] at this; simpa using this
 have hK1 : W1.heap[w.heap.size]? = some (.deferred (some [])) := by
  rw [<- hW1]; exact (Below.heap_alloc _ _ _ (by simp)).trans (heap_alloc_new w _)
 refine ⟨w.heap.size + 1, [mark w.heap.size], W1, { target := .fn (.func gf) cap, args := #[.func (.yield (w.heap.size + 1)) #[] #[]] }, W1, gf, #[.func (.yield (w.heap.size + 1)) #[] #[]] ++ cap, W1, ?_, ?_, ?_, ?_, fun _ => Nat.le_refl _, ?_⟩
 ·rw [<- hW1, hrec]; exact run_enterLoop_outer _ _ _ _ _
 ·simp only [resolve, hg]
  simp [go_sem]
 ·intro f' hf'; exact trivial
 ·simp [invoke, go_sem, eg]
 ·have keepRow : ∀ {A B : World} {k : Nat} {o : Obj}, Below A.heap.size A B -> A.heap[k]? = some o -> B.heap[k]? = some o := fun hb hk => (hb.block _ (Array.getElem?_eq_some_iff.1 hk).1).trans hk
  have turnRow : ∀ {A B : World} {F : Nat -> Prop} {k : Nat} {o : Obj}, Turns F A B -> ¬ F k -> A.heap[k]? = some o -> B.heap[k]? = some o := fun hb hf hk => (hb.block _ (Array.getElem?_eq_some_iff.1 hk).1 hf).trans hk
  refine (hseq (w.heap.size + 1)
   (fun xs F A => I xs F A /\ (¬ F w.heap.size /\ ¬ F (w.heap.size + 1)) /\ A.heap[w.heap.size + 1]? = some (.loop (rec .ready none)) /\ A.heap[w.heap.size]? = some (.deferred (some [])))
   W1 F0 (hRB _ _ hb0 hbw)
   (fun xs F A B h hb => ⟨hIB xs F A B h.1 hb, h.2.1, keepRow hb h.2.2.1, keepRow hb h.2.2.2⟩)
   (fun xs F A B k h hk hf ht => ⟨hI xs F A B k h.1 (by omega) hf ht, h.2.1, turnRow ht (fun e => by omega) h.2.2.1, turnRow ht (fun e => by omega) h.2.2.2⟩)
   (fun xs F A h => hIR xs F A h.1)
   ?_ (fun i hi => Nat.lt_of_lt_of_le (hF0 i hi) hbw.size) ⟨hIB [] F0 w W1 h0 hbw, ⟨fun hf => by have := hF0 _ hf; omega, fun hf => by have := hF0 _ hf; omega⟩, hL1, hK1⟩).mono ?_
  ·rintro xs x F A ⟨hi, ⟨hF0', hF1⟩, hl, hk⟩ hsA hc
   have hlt : w.heap.size + 1 < A.heap.size := (Array.getElem?_eq_some_iff.1 hl).1
   have hy := run_yield (P := P) (args := #[enc x]) hl (by rw [hrec]; exact hps.symm)
   rw [hrec] at hy
   refine ⟨fn, _, assign, body, hy, roundIn_of_wpIn hfn (wpIn_mono (hround _ xs x F A hc hi (by omega) ⟨hF0', hF1⟩) ?_)⟩
   rintro e a₁ A₁ hg1
   cases e with
   | normal =>
    obtain ⟨hbA, hgo⟩ := hg1
    have hl1 := keepRow hbA hl
    have hk1 := keepRow hbA hk
    have hlt1 : w.heap.size + 1 < A₁.heap.size := (Array.getElem?_eq_some_iff.1 hl1).1
    refine ⟨_, run_beginRound hl1 (by rw [hrec]), ?_⟩
    obtain ⟨A₂, hA₂⟩ : ∃ A₂, A₁.putObj (w.heap.size + 1) (.loop { rec .ready none with state := .busy }) = A₂ := ⟨_, rfl⟩
    have hl2 : A₂.heap[w.heap.size + 1]? = some (.loop { rec .ready none with state := .busy }) := by rw [<- hA₂]; exact World.putObj_heap_same hlt1
    have hk2 : A₂.heap[w.heap.size]? = some (.deferred (some [])) := by rw [<- hA₂]; exact (World.putObj_heap_other (by omega)).trans hk1
    have hM2 : Turns (fun i => i = w.heap.size + 1) A₁ A₂ := by rw [<- hA₂]; exact Turns.putObj _ _
    have hs2 : A₂.heap.size = A₁.heap.size := by rw [<- hA₂]; simp
    have hrows : ∀ k, W1.heap.size <= k -> k < A.heap.size -> A₂.heap[k]? = A.heap[k]? := fun k h1 h2 => by
     rw [<- hA₂]; exact (World.putObj_heap_other (by omega)).trans (hbA.block k h2)
    rw [hA₂]
    refine wpIn_mono (hgo A₂ hM2 hs2) ?_
    have fin : ∀ (B : World), Turns F A₂ B -> (Instr.endRound (w.heap.size + 1) none).run P B = .ok (.bool true) (B.putObj (w.heap.size + 1) (.loop (rec .ready none))) /\
      Turns (fun i => i = w.heap.size + 1) B (B.putObj (w.heap.size + 1) (.loop (rec .ready none))) /\
      (B.putObj (w.heap.size + 1) (.loop (rec .ready none))).heap[w.heap.size + 1]? = some (.loop (rec .ready none)) /\
      (B.putObj (w.heap.size + 1) (.loop (rec .ready none))).heap[w.heap.size]? = some (.deferred (some [])) := fun B hT => by
     have hl3 := turnRow hT hF1 hl2
     have hk3 := turnRow hT hF0' hk2
     have := run_endRound (P := P) none hl3
     rw [hrec] at this ⊢
     exact ⟨this, Turns.putObj _ _, World.putObj_heap_same (Array.getElem?_eq_some_iff.1 hl3).1, (World.putObj_heap_other (by omega)).trans hk3⟩
    rintro e a3 B hp
    cases e with
    | normal =>
     obtain ⟨hT, F', hi3, hF'⟩ := hp
     obtain ⟨hr, hm, hl4, hk4⟩ := fin B hT
     have hsB : A.heap.size <= B.heap.size := by have := hT.size; have := hbA.size; omega
     have hn0 : ¬ F' w.heap.size := fun hf => by
      rcases hF' _ hf with h | h
      ·exact hF0' h
      ·omega
     have hn1 : ¬ F' (w.heap.size + 1) := fun hf => by
      rcases hF' _ hf with h | h
      ·exact hF1 h
      ·omega
     refine ⟨_, _, hr, rfl, Nat.le_trans hsB hm.size, fun k h1 h2 hf => ?_, F', ⟨hI _ _ _ _ _ hi3 (by omega) hn1 hm, ⟨hn0, hn1⟩, hl4, hk4⟩, hF'⟩
     rw [World.putObj_heap_other (by omega), hT.block k (by have := hbA.size; omega) hf]
     exact hrows k h1 h2
    | ret => exact hp.elim
    | exit id => exact hp.elim
    | goto t => exact hp.elim
    | panic ch => exact hp.elim
    | outgrown => exact hp.elim
   | exit id => exact hg1.elim
   | goto t => exact hg1.elim
   | ret => exact hg1.elim
   | panic ch => exact hg1.elim
   | outgrown => exact hg1.elim
  ·rintro e B ⟨⟨v, rfl⟩, xs, F, ⟨hi, ⟨hF0', hF1⟩, hl, hk⟩, hfin⟩
   exact ⟨none, _, by have := run_endLoop (P := P) hl (by rw [hrec]; simp); rw [hrec] at this; exact this, hdone xs F _ hfin (hI _ _ _ _ _ hi (by omega) hF1 (Turns.putObj _ _)) ⟨hF0', hF1⟩ ((World.putObj_heap_other (by omega)).trans hk)⟩
end
end Go.Proofs.YtedakmhffjhfnaaDoor

namespace Go.Proofs.YtedakmhffjhfnaaDoor
open Go.ChangeShapes Go.WideShapes Go.ChangeAt Go.RowKit
set_option linter.unusedVariables false
set_option maxRecDepth 100000
set_option linter.unusedSimpArgs false
section
structure BlkV where
 ad : Int
 z : Int
instance : Inhabited BlkV := ⟨⟨0, 0⟩⟩
structure BlkV.Ok (a : BlkV) : Prop where
 ad : (Lit.int .i64 a.ad).wf = true
 z : (Lit.int .i64 a.z).wf = true
def BlkV.cells (a : BlkV) : List Value := [.int .i64 a.ad, .int .i64 a.z]
def BlkVs (w : World) (A : Option Addr) (l : List BlkV) : Prop :=
 ∀ i a, l[i]? = some a -> ∃ ad, A = some ad /\ ad.block < w.heap.size /\ ∀ j u, a.cells[j]? = some u -> w.cell? (ad.add (i * 2 + j)) = some u
def BlkVAt (w : World) (p : Addr) (a : BlkV) : Prop :=
 w.cell? p = some (.int .i64 a.ad) /\ w.cell? ⟨p.block, p.off + 1, none⟩ = some (.int .i64 a.z)
theorem blkV_off (p : Addr) (j : Nat) (h : j ≠ 0) : p.add j = ⟨p.block, p.off + j, none⟩ := by unfold Addr.add; rw [if_neg h]
theorem BlkVs.cells {w : World} {ad : Addr} {l : List BlkV} (h : BlkVs w (some ad) l) {i : Nat} {a : BlkV} (ha : l[i]? = some a) : BlkVAt w (ad.add (i * 2)) a := by
 obtain ⟨ad', e, _, h2⟩ := h i a ha
 injection e with e
 subst e
 have h10 := h2 0 _ rfl
 have h11 := h2 1 _ rfl
 rw [<- add_of_add] at h10 h11
 rw [blkV_off _ _ (by omega)] at h11
 exact ⟨h10, h11⟩

section
variable {H : Type} {enc : TypeId × Value -> H} {w : World} {base : Nat} {sp : Nat -> Bool} {held : Bool}
theorem blkV_cells {fuel : Nat} {cs : List Value} {x : DataW H × List MemPlace} (h : DataW.trod enc Tryd.prog w base sp held fuel 55 cs = some x) : ∃ a : BlkV, a.Ok /\ cs = a.cells := by
 obtain ⟨xs, n, _, _, hl, hxl, hf⟩ := DataW.trod_struct Tryd.underlying55 h
 have hc : Tryd.prog.cellsOf 55 = 2 := by kernel_rfl
 have s_int64 : Tryd.prog.cellsOf 2 = 1 := by kernel_rfl
 rw [hc] at hl
 match cs, hl, xs, hxl with
 | [v0, v1], _, [y0, y1], _ =>
  have g0 := hf 0 _ rfl
  have g1 := hf 1 _ rfl
  simp [s_int64] at g0 g1
  obtain ⟨a0, e0, _, w0⟩ := DataW.trod_int Tryd.underlying2 g0
  obtain ⟨a1, e1, _, w1⟩ := DataW.trod_int Tryd.underlying2 g1
  simp at e0 e1
  subst e0 e1
  exact ⟨⟨a0, a1⟩, ⟨w0, w1⟩, rfl⟩
end
end
end Go.Proofs.YtedakmhffjhfnaaDoor
