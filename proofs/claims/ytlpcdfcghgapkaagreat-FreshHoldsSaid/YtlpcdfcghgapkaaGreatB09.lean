/-
  The document's blocks. Written by doc12/gen_docblocks.py.
-/
import Derived.Test.YtlpcdfcghgapkaaGreatB08
import Derived.Test.YtlpcdfcghgapkaaGreatB04
import Derived.Deep.AppendLies
import Derived.Test.YtlpcdfcghgapkaaGreatB05
import Derived.Test.YtlpcdfcghgapkaaGreatBDocFeet
import Derived.Test.YtlpcdfcghgapkaaGreatB07
import Derived.Test.YtlpcdfcghgapkaaGreatBDocLoose
import Derived.Test.YtlpcdfcghgapkaaGreatB03
import Derived.Test.YtlpcdfcghgapkaaGreatB02
import Derived.Deep.RegionHeld3
import Derived.Test.YtlpcdfcghgapkaaGreatB01
namespace Go.Proofs.YtlpcdfcghgapkaaGreat
open Go.ChangeShapes Go.WideShapes Go.ChangeAt Go.RowKit Go.Shelf
set_option linter.unusedVariables false
set_option linter.unusedSimpArgs false
section
theorem own_block0 {w : World} {base n g cap : Nat} {e : TypeId} {l : List (Int × Int)} (h : w.ownsRow base e 2 (.slice (some ⟨g, 0, none⟩) n cap) n (bkVs l)) (hn : l.length = n) {i : Nat} {x : Int × Int} (hx : l[i]? = some x) :
  w.cell? ⟨g, i * 2, none⟩ = some (.int .i64 x.1) /\ w.cell? ⟨g, i * 2 + 1, none⟩ = some (.int .i64 x.2) := by
 have hi : i < n := by
  rcases Nat.lt_or_ge i n with h1 | h1
  ·exact h1
  ·rw [List.getElem?_eq_none (by omega)] at hx; cases hx
 have hg : ∀ (l : List (Int × Int)) (i : Nat) (x : Int × Int), l[i]? = some x -> (bkVs l)[i * 2]? = some (.int .i64 x.1) /\ (bkVs l)[i * 2 + 1]? = some (.int .i64 x.2) := by
  intro l
  induction l with
  | nil => intro i x h; simp at h
  | cons y l ih =>
   intro i x h
   have e : bkVs (y :: l) = [.int .i64 y.1, .int .i64 y.2] ++ bkVs l := by simp [bkVs]
   rcases i with _ | i
   ·simp at h; subst h; simp [bkVs]
   ·have h' : l[i]? = some x := by simpa using h
    obtain ⟨h1, h2⟩ := ih i x h'
    have g : ∀ k, (bkVs (y :: l))[(i * 2 + k) + 2]? = (bkVs l)[i * 2 + k]? := fun k => by
     rw [e, List.getElem?_append_right (by simp)]
     simp
    exact ⟨by have := g 0; rw [Nat.add_zero] at this; rw [show (i + 1) * 2 = i * 2 + 2 by omega, this]; exact h1, by rw [show (i + 1) * 2 + 1 = (i * 2 + 1) + 2 by omega, g]; exact h2⟩
 obtain ⟨h1, h2⟩ := hg l i x hx
 exact ⟨(h.cellAt _ (by omega)).trans h1, (h.cellAt _ (by omega)).trans h2⟩

set_option maxHeartbeats 6400000 in
set_option maxRecDepth 100000 in
theorem xBlocks_c {H : AuH} {n c : Nat} (HV : HeapV H n c) (ad : Addr) (w : World) (hv : IsVals w ad n H.V) :
  Calls Tryz.prog 46 #[hpV H ad n c] w fun e w' => ∃ u, e = .returned u /\ w'.ownsRow w.heap.size 55 2 u (blocksOf H.parts).length (bkVs (blocksOf H.parts)) /\ Below w.heap.size w w' := by
 have HVL := hidp hv
 have hpl := AuH.parts_len (H := H) H.p
 have hpp := HV.nums.2.2.2.1
 obtain ⟨j0, hjn, hjz0, hjz1, hjz2⟩ := info_parts blockInfo
 have HX0 := hidp ((Held.new w 96 #[.int .i64 (H.t : Int), .int .i64 (H.p : Int), .int .i64 (H.s : Int), .slice (some ad) n c]).alloc (.cells #[] 55))
 obtain ⟨c0, c1, c2, c3⟩ := HX0.out.four
 have HBW := hidp (Bnew (Bnew (B0 w) (.cells #[.int .i64 (H.t : Int), .int .i64 (H.p : Int), .int .i64 (H.s : Int), .slice (some ad) n c] 96)) (.cells #[] 55))
 have HOW : Hid (((w.alloc (.cells #[.int .i64 (H.t : Int), .int .i64 (H.p : Int), .int .i64 (H.s : Int), .slice (some ad) n c] 96)).alloc (.cells #[] 55)).ownsRow (w.heap.size + 1) 55 2 (.slice (some ⟨(w.alloc (.cells #[.int .i64 (H.t : Int), .int .i64 (H.p : Int), .int .i64 (H.s : Int), .slice (some ad) n c] 96)).heap.size, 0, none⟩) 0 0) 0 []) := hidp (World.ownsRow_lit (base := (w.heap.size + 1)) (e := 55) (size := 2) (w.alloc (.cells #[.int .i64 (H.t : Int), .int .i64 (H.p : Int), .int .i64 (H.s : Int), .slice (some ad) n c] 96)) #[] 0 (by simp) (by unfold maxLen; omega) rfl)
 rw [World.size_alloc] at HOW
 have HW0 : Hid (w.heap.size < ((w.alloc (.cells #[.int .i64 (H.t : Int), .int .i64 (H.p : Int), .int .i64 (H.s : Int), .slice (some ad) n c] 96)).alloc (.cells #[] 55)).heap.size) := hidp (by simp; omega)
 obtain ⟨L, hL⟩ : ∃ L, H.parts = L := ⟨_, rfl⟩
 have HLL := hidp hL
 have hpl : L.length <= 40000 := by rw [<- hL]; unfold AuH.parts; omega
 obtain ⟨nl, hnl⟩ : ∃ nl, L.length = nl := ⟨_, rfl⟩
 rw [hnl] at hpl
 have HNL := hidp hnl
 clear hL hnl hv
 unfold hpV
 go_enter Tryz.func46, Tryz.ntmps46
 go_wp2_with (first
  | (go_at_call 47; refine (xParts_c HV ad _ (HVL.out.below HBW.out)).mono ?_; rintro e w2 ⟨v, rfl, hown2, hb2⟩; rw [HLL.out, HNL.out] at hown2; obtain ⟨Av, cv, rfl⟩ := own_slice hown2; have HP2 := hidp hown2; have HB2 := hidp (Bgo HBW.out hb2); have HO2 := hidp (own_below HOW.out hb2); have HSZ := hidp hb2.size; clear hown2 hb2)
  | fail)
 generalize (w.alloc (.cells #[.int .i64 (H.t : Int), .int .i64 (H.p : Int), .int .i64 (H.s : Int), .slice (some ad) n c] 96)).alloc (.cells #[] 55) = W0 at *
 have HCV := hidp (own_caps3 HP2.out)
 have hcv : nl <= cv /\ cv <= 9223372036854775807 := HCV.out
 have HNE0 : Hid (∀ g, w2.heap.size <= g \/ g < W0.heap.size -> ∀ gg, (Value.slice Av nl cv).ownBlock = some gg -> gg ≠ g) := hidp (fun g hg gg hgg e => by have := HP2.out.lt gg hgg; omega)
 clear c0 c1 c2 c3 HBW HX0
 go_loopw [3, 5] (fun u3 u5 wr => ∃ (i k : Nat), i <= nl /\ u5 = .int .i64 (i : Int) /\ k <= i /\ Hid ((blocksOf (L.take i)).length = k) /\ Hid (wr.ownsRow (w.heap.size + 1) 55 2 u3 k (bkVs (blocksOf (L.take i)))) /\ Hid (wr.ownsRow W0.heap.size 63 3 (.slice Av nl cv) nl (ptVs L)) /\ Hid (∀ g, u3.ownBlock = some g -> w2.heap.size <= g \/ g < W0.heap.size) /\ Hid (w2.heap.size <= wr.heap.size) /\ Hid (Below w.heap.size w wr)) (fun _ u5 _ => nl - (intOf u5).toNat)
 case atStart => exact ⟨0, 0, by omega, rfl, by omega, hidp rfl, HO2, HP2, hidp (fun g h => .inr (HOW.out.lt g h).2), hidp (Nat.le_refl _), HB2⟩
 case round =>
  clear HO2 HP2 HB2
  obtain ⟨i, k, hi, rfl, hki, HM, HO, HP, HW, HWS, HB⟩ := hrel
  by_cases hlt : i < nl
  ·obtain ⟨x, hx⟩ : ∃ x, L[i]? = some x := ⟨_, List.getElem?_eq_getElem (by have := HNL.out; omega)⟩
   obtain ⟨gv, cv', hvv, hbv, hlv⟩ := HP.out.form (by omega)
   injection hvv with hvv hn0 hcc
   subst hvv
   subst hcc
   obtain ⟨kd, a, z⟩ := x
   obtain ⟨p0, p1, p2⟩ := own_part HP.out HNL.out hx
   have HTK : Hid (L.take (i + 1) = L.take i ++ [(kd, a, z)]) := hidp (by rw [List.take_add_one, hx]; rfl)
   have t0 : decide ((i : Int) < nl) = true := decide_eq_true (by omega)
   have t0n : decide (i < nl) = true := decide_eq_true hlt
   have hxx := hx
   simp only at p0 p1 p2
   have hbs := HWS.out
   have hbs2 : w.heap.size + 1 <= w2.heap.size := by have := HSZ.out; have := HW0.out; omega
   clear hn0 hx
   by_cases h2 : kd = 2
   ·subst h2
    have HB1 : Hid (blocksOf (L.take (i + 1)) = blocksOf (L.take i) ++ [(a, z)]) := hidp (by rw [HTK.out, blocksOf_app, blocksOf_yes rfl])
    have HNE : Hid (∀ gg, gv = gg -> u3.ownBlock ≠ some gg) := hidp (fun gg e h => by subst e; exact HNE0.out gv (HW.out gv h) gv rfl rfl)
    go_wp2_with fail
    refine wp_region_held_drew (S := (fun w' => w'.cell? ⟨gv, i * 3 + 1, none⟩ = some (.int .i64 a) /\ w'.cell? ⟨gv, i * 3 + 2, none⟩ = some (.int .i64 z))) (by kernel_rfl) ?_ (fun hHeld => ?_)
    ·(try dsimp only)
     first | exact (own_part HP.out HNL.out hxx).2 | exact (own_part (HP.out.alloc (.cells #[.int .i64 a, .int .i64 z] 55)) HNL.out hxx).2 | exact (own_part HP8.out HNL.out hxx).2 | exact hHeld
    refine tkz 0 ?_
    refine tkz 1 ?_
    refine tkz 2 ?_
    refine tkz 3 ?_
    refine tkz 4 ?_
    refine tkz 5 ?_
    refine tkz 6 ?_
    refine tkz 7 ?_
    refine tkz 8 ?_
    refine tkz 9 ?_
    refine tkz 10 ?_
    refine tkz 11 ?_
    refine rdz 12 fun K hK => ?_
    go_simp
    skip
    refine hK.out _ _ ?_ (fun hHeld => ?_)
    ·(try dsimp only)
     first | exact (own_part HP.out HNL.out hxx).2 | exact (own_part (HP.out.alloc (.cells #[.int .i64 a, .int .i64 z] 55)) HNL.out hxx).2 | exact (own_part HP8.out HNL.out hxx).2 | exact hHeld
    clear hK K
    (try simp only [Act.put, gA, gB, gC, sA, sB, sC])
    refine rdz 13 fun K hK => ?_
    (refine step_append_lies _ (by rfl) _ _ 30 (by rfl) (w.heap.size + 1) 55 j0 (.agg #[.int .i64 0, .int .i64 0]) 2 16 Tryz.underlying30 hjn hjz0 hjz1 hjz2 rfl (by decide) u3 k (bkVs (blocksOf (L.take i))) (by rfl) (HO.out.drew.alloc _) ⟨_, 0, none⟩ 1 1 [.int .i64 a, .int .i64 z] (by rfl) rfl (fun jj yy hyy => World.news_of_block (w := wr.drew.alloc (.cells #[.int .i64 a, .int .i64 z] 55)) (heap_alloc_new wr.drew _) jj yy (by simpa using hyy)) (by simp [Value.oneCell']) (by omega) (by unfold maxLen; omega) (by omega) (by simp; omega) _ rfl ?_; intro g cap w8 hown8 hgrow8 hat8 hlt8; have HP8 := hidp (own_kept (HP.out.alloc (.cells #[.int .i64 a, .int .i64 z] 55)) (fun gg hgg => hgrow8.block gg (((HP.out.alloc (.cells #[.int .i64 a, .int .i64 z] 55)).lt gg hgg).2) (fun e => HNE.out gg (Option.some.inj (hgg)) e.symm))); have HB8 := hidp ((Bnew (Bdrew HB.out) (.cells #[.int .i64 a, .int .i64 z] 55)).grown hgrow8 (by have := HB.out.size; simp; omega) (fun j hj => by have := (HO.out.lt j hj).1; omega)); have HSG : Hid (w2.heap.size <= w8.heap.size) := hidp (by have := hgrow8.size; simp at this; omega); have HAT := hidp hat8; have HO8 := hidp hown8; clear hown8 hgrow8 hat8 hlt8)
    refine hK.out _ _ ?_ (fun hHeld => ?_)
    ·(try dsimp only)
     first | exact (own_part HP.out HNL.out hxx).2 | exact (own_part (HP.out.alloc (.cells #[.int .i64 a, .int .i64 z] 55)) HNL.out hxx).2 | exact (own_part HP8.out HNL.out hxx).2 | exact hHeld
    clear hK K
    (try simp only [Act.put, gA, gB, gC, sA, sB, sC])
    refine tkz 14 ?_
    refine dnz ?_
    have HM1 : Hid ((blocksOf (L.take (i + 1))).length = k + 1) := hidp (by rw [HB1.out, List.length_append, HM.out]; rfl)
    have HO9 : Hid (w8.ownsRow (w.heap.size + 1) 55 2 (.slice (some ⟨g, 0, none⟩) (k + 1) cap) (k + 1) (bkVs (blocksOf (L.take (i + 1))))) := hidp (by rw [HB1.out, bkVs_snoc]; exact HO8.out)
    have HW9 : Hid (∀ gg, (Value.slice (some ⟨g, 0, none⟩) (k + 1) cap).ownBlock = some gg -> w2.heap.size <= gg \/ gg < W0.heap.size) := hidp (fun gg hgg => by
     have hgg : g = gg := by simpa [Value.ownBlock] using hgg
     subst hgg
     rcases HAT.out with h | h
     ·exact HW.out _ h
     ·left; simp at h; have := HWS.out; omega)
    have HS9 : Hid (w2.heap.size <= w8.heap.size) := HSG
    go_wp2_with fail
    go_roundw
    case rel => exact ⟨i + 1, k + 1, by omega, by go_num, by omega, HM1, HO9, HP8, HW9, HS9, HB8⟩
    case measure => simp [intOf]; omega
   ·have HB1 : Hid (blocksOf (L.take (i + 1)) = blocksOf (L.take i)) := hidp (by rw [HTK.out, blocksOf_app, blocksOf_no h2, List.append_nil])
    have q0 : (kd == 2) = false := by simpa using h2
    clear h2
    go_wp2_with fail
    go_roundw
    case rel => exact ⟨i + 1, k, by omega, by go_num, by omega, hidp (by rw [HB1.out]; exact HM.out), hidp (by rw [HB1.out]; exact HO.out), HP, HW, HWS, HB⟩
    case measure => simp [intOf]; omega
  ·have t0 : decide ((i : Int) < nl) = false := decide_eq_false (by omega)
   have t0n : decide (i < nl) = false := decide_eq_false hlt
   have HTA : Hid (L.take i = L) := hidp (List.take_of_length_le (by have := HNL.out; omega))
   go_wp2_with fail
   go_ret
   refine ⟨_, rfl, ?_, HB.out⟩
   have h := HO.out
   have h2 := HM.out
   rw [HTA.out] at h h2
   rw [HLL.out, h2]
   exact own_down h (by omega)
end
section
set_option maxHeartbeats 3200000 in
set_option maxRecDepth 100000 in
theorem xHas_c (l : List (Int × Int)) (A : Option Addr) (nl cl : Nat) (a : Int) (w : World) (base : Nat) (hO : w.ownsRow base 55 2 (.slice A nl cl) nl (bkVs l)) (hln : l.length = nl) (hcl : nl <= cl /\ cl <= 9223372036854775807) (hnl : nl <= 100000) (b : Bool) (hb : b = true ↔ ∃ x ∈ l, x.1 = a) :
  Calls Tryz.prog 105 #[.slice A nl cl, .int .i64 a] w fun e w' => e = .returned (.bool b) /\ w = w' := by
 have HO := hidp hO
 have HLN := hidp hln
 have HBC := hidp hb
 obtain ⟨hcl1, hcl2⟩ := hcl
 clear hO hln hb
 go_enter Tryz.func105, Tryz.ntmps105
 go_wp2_with fail
 go_loopw [5] (fun u5 wr => ∃ (k : Nat), k <= nl /\ u5 = .int .i64 (k : Int) /\ Hid (∀ x ∈ l.take k, x.1 ≠ a) /\ wr = w) (fun u5 _ => nl - (intOf u5).toNat)
 case atStart => exact ⟨0, by omega, rfl, hidp (by simp), rfl⟩
 case round =>
  obtain ⟨k, hk, rfl, HNO, rfl⟩ := hrel
  by_cases hlt : k < nl
  ·have t0 : decide ((k : Int) < nl) = true := decide_eq_true (by omega)
   have t0n : decide (k < nl) = true := decide_eq_true hlt
   obtain ⟨x, hx⟩ : ∃ x, l[k]? = some x := ⟨_, List.getElem?_eq_getElem (by have := HLN.out; omega)⟩
   obtain ⟨gv, cv', hvv, hbv, hlv⟩ := HO.out.form (by omega)
   injection hvv with hvv hn0 hcc
   subst hvv
   subst hcc
   obtain ⟨p0, p1⟩ := own_block0 HO.out HLN.out hx
   have HTK : Hid (l.take (k + 1) = l.take k ++ [x]) := hidp (by rw [List.take_add_one, hx]; rfl)
   have HMX : Hid (x ∈ l) := hidp (List.mem_of_getElem? hx)
   obtain ⟨xa, xz⟩ := x
   simp only at p0 p1
   clear hn0 hx
   by_cases hxa : xa = a
   ·have q0 : (xa == a) = true := by simpa using hxa
    have HBT : Hid (b = true) := hidp (HBC.out.2 ⟨_, HMX.out, hxa⟩)
    clear hxa
    go_wp2_with fail
    go_ret
    exact ⟨by rw [HBT.out]; rfl, rfl⟩
   ·have q0 : (xa == a) = false := by simpa using hxa
    have HN1 : Hid (∀ x ∈ l.take (k + 1), x.1 ≠ a) := hidp (fun y hy => by
     rw [HTK.out] at hy
     rcases List.mem_append.1 hy with hy | hy
     ·exact HNO.out y hy
     ·have : y = (xa, xz) := by simpa using hy
      subst this
      exact hxa)
    clear hxa
    go_wp2_with fail
    go_roundw
    case rel => exact ⟨k + 1, by omega, by go_num, HN1, (by first | rfl | trivial)⟩
    case measure => simp [intOf]; omega
  ·have t0 : decide ((k : Int) < nl) = false := decide_eq_false (by omega)
   have t0n : decide (k < nl) = false := decide_eq_false hlt
   have HBF : Hid (b = false) := hidp (bool_no HBC.out (fun ⟨x, hx, he⟩ => HNO.out x (by rw [List.take_of_length_le (by have := HLN.out; omega)]; exact hx) he))
   go_wp2_with fail
   go_ret
   exact ⟨by rw [HBF.out]; rfl, rfl⟩

set_option maxHeartbeats 6400000 in
set_option maxRecDepth 100000 in
theorem xRoots_c {H : AuH} {n c : Nat} (HV : HeapV H n c) (ad : Addr) (b : Bool) (hb : b = true ↔ H.R10) (w : World) (hv : IsVals w ad n H.V) :
  Calls Tryz.prog 77 #[hpV H ad n c] w fun e w' => e = .returned (.bool b) /\ Below w.heap.size w w' := by
 have HVL := hidp hv
 have HX0 := hidp (Held.new w 96 #[.int .i64 (H.t : Int), .int .i64 (H.p : Int), .int .i64 (H.s : Int), .slice (some ad) n c])
 obtain ⟨c0, c1, c2, c3⟩ := HX0.out.four
 have HBW := hidp (Bnew (B0 w) (.cells #[.int .i64 (H.t : Int), .int .i64 (H.p : Int), .int .i64 (H.s : Int), .slice (some ad) n c] 96))
 have hn := HV.nums
 have hcx : c <= 9223372036854775807 := hn.2.2.2.2.2.2.2.2
 have hni : n <= 6238 := hn.2.2.2.2.2.2.1
 have hnc := HV.cap
 have hp1 := hn.2.2.2.1
 have hn30 : 30 <= n := by have := HV.len; omega
 have HBC : Hid (b = true ↔ ∀ i, i < 8 -> H.V (22 + i) ≠ 0 -> H.LiveAt (H.V (22 + i) : Int)) := hidp hb
 have hpl := AuH.parts_len (H := H) H.p
 have hbl := blocksOf_len H.parts
 have HLI := hidp (fun a => AuH.live_iff HV a)
 obtain ⟨l, hl⟩ : ∃ l, blocksOf H.parts = l := ⟨_, rfl⟩
 have HLB := hidp hl
 rw [hl] at hbl HLI
 obtain ⟨nb, hnb⟩ : ∃ nb, l.length = nb := ⟨_, rfl⟩
 have HNB := hidp hnb
 have HNL := hidp hnb
 have hnb9 : nb <= 100000 := by have : H.parts.length <= H.p * 33 := hpl; omega
 clear hv hn hb hpl hbl hl hnb
 unfold hpV
 go_enter Tryz.func77, Tryz.ntmps77
 go_wp2_with (first
  | (go_at_call 46; refine (xBlocks_c HV ad _ (HVL.out.below HBW.out)).mono ?_; rintro e w2 ⟨u, rfl, hown2, hb2⟩; rw [HLB.out, HNB.out] at hown2; obtain ⟨Ab, cb, rfl⟩ := own_slice hown2; have HO2 := hidp (own_down hown2 HBW.out.size); have HB2 := hidp (Bgo HBW.out hb2); have HX2 := hidp (HX0.out.keep hb2); clear hown2 hb2)
  | fail)
 have hcc := own_caps3 HO2.out
 obtain ⟨hcc1, hcc2⟩ := hcc
 have hcc2 : cb <= 9223372036854775807 := hcc2
 clear c0 c1 c2 c3 HX0 HBW
 go_loopw [4] (fun u4 wr => ∃ (i : Nat), i <= 8 /\ u4 = .int .i64 (i : Int) /\ Hid (∀ k, k < i -> H.V (22 + k) ≠ 0 -> H.LiveAt (H.V (22 + k) : Int)) /\ Hid (Held wr w.heap.size 96 #[.int .i64 (H.t : Int), .int .i64 (H.p : Int), .int .i64 (H.s : Int), .slice (some ad) n c]) /\ Hid (wr.ownsRow w.heap.size 55 2 (.slice Ab nb cb) nb (bkVs l)) /\ Hid (Below w.heap.size w wr)) (fun u4 _ => 8 - (intOf u4).toNat)
 case atStart => exact ⟨0, by omega, rfl, hidp (fun k h => by omega), HX2, HO2, HB2⟩
 case round =>
  clear HX2 HO2 HB2
  obtain ⟨i, hi, rfl, HOK, HX, HO, HB⟩ := hrel
  obtain ⟨c0, c1, c2, c3⟩ := HX.out.four
  by_cases hlt : i < 8
  ·have t0 : decide ((i : Int) < 8) = true := decide_eq_true (by omega)
   obtain ⟨j, hj⟩ : ∃ j, 22 + i = j := ⟨_, rfl⟩
   have HRT : Hid (nthI 22 8 1 (i : Int) = ((j : Nat) : Int)) := hidp (by rw [nth_on (by omega) (by omega) (by omega)]; omega)
   have hjn : j < n := by omega
   have hjn2 : (j : Int) < n := by omega
   have hv0 := (HVL.out.below HB.out).2 j hjn
   have hbj : (ad.add j).block < wr.heap.size := by rw [block_of_add]; exact (HVL.out.below HB.out).1
   have hv32 := HV.lt j hjn
   obtain ⟨v, hvv⟩ : ∃ v, H.V j = v := ⟨_, rfl⟩
   have HVV : Hid (H.V (22 + i) = v) := hidp (by rw [hj]; exact hvv)
   rw [hvv] at hv0 hv32
   have HS : Hid (∀ w', Below wr.heap.size wr w' -> (fun w' => w'.cell? ⟨w.heap.size, 0, none⟩ = some (.int .i64 (H.t : Int)) /\ w'.cell? ⟨w.heap.size, 1, none⟩ = some (.int .i64 (H.p : Int)) /\ w'.cell? ⟨w.heap.size, 2, none⟩ = some (.int .i64 (H.s : Int)) /\ w'.cell? ⟨w.heap.size, 3, none⟩ = some (.slice (some ad) n c) /\ w'.cell? (ad.add j) = some (.int .u32 (v : Int))) w') := hidp (fun w' hb => by have hh := HX.out.keep hb; exact ⟨hh.four.1, hh.four.2.1, hh.four.2.2.1, hh.four.2.2.2, (hb.cell hbj).trans hv0⟩)
   have wv : IntKind.i64.wrap (v : Int) = (v : Int) := i64_same (by omega) (by omega)
   have HST : Hid ((v ≠ 0 -> H.LiveAt (v : Int)) -> ∀ k, k < i + 1 -> H.V (22 + k) ≠ 0 -> H.LiveAt (H.V (22 + k) : Int)) := hidp (fun h k hk => by
    rcases Nat.lt_or_ge k i with h1 | h1
    ·exact HOK.out k h1
    ·obtain rfl : k = i := by omega
     rw [HVV.out]
     exact h)
   clear hj hvv hv0 hbj
   by_cases hv1 : v = 0
   ·have q0 : ((v : Int) != 0) = false := by simp; omega
    have HOK1 := hidp (HST.out (fun h => absurd hv1 h))
    clear hv1
    go_wp2_with fail
    refine wp_region_held_drew (S := (fun w' => w'.cell? ⟨w.heap.size, 0, none⟩ = some (.int .i64 (H.t : Int)) /\ w'.cell? ⟨w.heap.size, 1, none⟩ = some (.int .i64 (H.p : Int)) /\ w'.cell? ⟨w.heap.size, 2, none⟩ = some (.int .i64 (H.s : Int)) /\ w'.cell? ⟨w.heap.size, 3, none⟩ = some (.slice (some ad) n c) /\ w'.cell? (ad.add j) = some (.int .u32 (v : Int)))) (by kernel_rfl) ?_ (fun hHeld => ?_)
    ·(try dsimp only)
     first | exact HS.out _ (Bdrew (B0 _)) | exact hHeld
    refine tkz 0 ?_
    refine tkz 1 ?_
    refine tkz 2 ?_
    refine rdz 3 fun K hK => ?_
    go_simp
    (go_at_call 24; refine (r7Root_c _ _).mono ?_; rintro e w9 ⟨rfl, rfl⟩; rw [HRT.out])
    refine hK.out _ _ ?_ (fun hHeld => ?_)
    ·(try dsimp only)
     first | exact HS.out _ (Bdrew (B0 _)) | exact hHeld
    clear hK K
    (try simp only [Act.put, gA, gB, gC, sA, sB, sC])
    refine tkz 4 ?_
    refine tkz 5 ?_
    refine tkz 6 ?_
    refine tkz 7 ?_
    refine dnz ?_
    go_wp2_with fail
    go_roundw
    case rel => exact ⟨i + 1, by omega, by go_num, HOK1, hidp HX.out.drew, hidp HO.out.drew, hidp (Bdrew HB.out)⟩
    case measure => simp [intOf]; omega
   ·have q0 : ((v : Int) != 0) = true := by simp; omega
    by_cases hlv : H.LiveAt (v : Int)
    ·have HHA := hidp (fun (W : World) (hO : W.ownsRow w.heap.size 55 2 (.slice Ab nb cb) nb (bkVs l)) => xHas_c l Ab nb cb (v : Int) W w.heap.size hO HNL.out ⟨hcc1, hcc2⟩ (by omega) true ⟨fun _ => (HLI.out v).2 hlv, fun _ => rfl⟩)
     have HOK1 := hidp (HST.out (fun _ => hlv))
     clear hv1 hlv
     go_wp2_with fail
     refine wp_region_held_drew (S := (fun w' => w'.cell? ⟨w.heap.size, 0, none⟩ = some (.int .i64 (H.t : Int)) /\ w'.cell? ⟨w.heap.size, 1, none⟩ = some (.int .i64 (H.p : Int)) /\ w'.cell? ⟨w.heap.size, 2, none⟩ = some (.int .i64 (H.s : Int)) /\ w'.cell? ⟨w.heap.size, 3, none⟩ = some (.slice (some ad) n c) /\ w'.cell? (ad.add j) = some (.int .u32 (v : Int)))) (by kernel_rfl) ?_ (fun hHeld => ?_)
     ·(try dsimp only)
      first | exact HS.out _ (Bdrew (B0 _)) | exact hHeld
     refine tkz 0 ?_
     refine tkz 1 ?_
     refine tkz 2 ?_
     refine rdz 3 fun K hK => ?_
     go_simp
     (go_at_call 24; refine (r7Root_c _ _).mono ?_; rintro e w9 ⟨rfl, rfl⟩; rw [HRT.out])
     refine hK.out _ _ ?_ (fun hHeld => ?_)
     ·(try dsimp only)
      first | exact HS.out _ (Bdrew (B0 _)) | exact hHeld
     clear hK K
     (try simp only [Act.put, gA, gB, gC, sA, sB, sC])
     refine tkz 4 ?_
     refine tkz 5 ?_
     refine tkz 6 ?_
     refine tkz 7 ?_
     refine dnz ?_
     go_wp2_with (first
      | (go_at_call 105; refine (HHA.out _ HO.out.drew).mono ?_; rintro e w9 ⟨rfl, rfl⟩)
      | fail)
     go_roundw
     case rel => exact ⟨i + 1, by omega, by go_num, HOK1, hidp HX.out.drew, hidp HO.out.drew, hidp (Bdrew HB.out)⟩
     case measure => simp [intOf]; omega
    ·have HHA := hidp (fun (W : World) (hO : W.ownsRow w.heap.size 55 2 (.slice Ab nb cb) nb (bkVs l)) => xHas_c l Ab nb cb (v : Int) W w.heap.size hO HNL.out ⟨hcc1, hcc2⟩ (by omega) false ⟨fun h => (by cases h), fun h => absurd ((HLI.out v).1 h) hlv⟩)
     have HBF : Hid (b = false) := hidp (bool_no HBC.out (fun h => hlv (by have h1 := h i hlt; rw [HVV.out] at h1; exact h1 hv1)))
     clear hv1 hlv
     go_wp2_with fail
     refine wp_region_held_drew (S := (fun w' => w'.cell? ⟨w.heap.size, 0, none⟩ = some (.int .i64 (H.t : Int)) /\ w'.cell? ⟨w.heap.size, 1, none⟩ = some (.int .i64 (H.p : Int)) /\ w'.cell? ⟨w.heap.size, 2, none⟩ = some (.int .i64 (H.s : Int)) /\ w'.cell? ⟨w.heap.size, 3, none⟩ = some (.slice (some ad) n c) /\ w'.cell? (ad.add j) = some (.int .u32 (v : Int)))) (by kernel_rfl) ?_ (fun hHeld => ?_)
     ·(try dsimp only)
      first | exact HS.out _ (Bdrew (B0 _)) | exact hHeld
     refine tkz 0 ?_
     refine tkz 1 ?_
     refine tkz 2 ?_
     refine rdz 3 fun K hK => ?_
     go_simp
     (go_at_call 24; refine (r7Root_c _ _).mono ?_; rintro e w9 ⟨rfl, rfl⟩; rw [HRT.out])
     refine hK.out _ _ ?_ (fun hHeld => ?_)
     ·(try dsimp only)
      first | exact HS.out _ (Bdrew (B0 _)) | exact hHeld
     clear hK K
     (try simp only [Act.put, gA, gB, gC, sA, sB, sC])
     refine tkz 4 ?_
     refine tkz 5 ?_
     refine tkz 6 ?_
     refine tkz 7 ?_
     refine dnz ?_
     go_wp2_with (first
      | (go_at_call 105; refine (HHA.out _ HO.out.drew).mono ?_; rintro e w9 ⟨rfl, rfl⟩)
      | fail)
     go_ret
     exact ⟨by rw [HBF.out]; rfl, Bdrew HB.out⟩
  ·have t0 : decide ((i : Int) < 8) = false := decide_eq_false (by omega)
   have HBT : Hid (b = true) := hidp (HBC.out.2 (fun k hk => HOK.out k (by omega)))
   go_wp2_with fail
   go_ret
   exact ⟨by rw [HBT.out]; rfl, HB.out⟩
end
section
set_option maxHeartbeats 3200000 in
theorem xCheck_1 {H : AuH} {n c : Nat} (HV : HeapV H n c) (ad : Addr) (hr : ∀ i, i < 1 -> H.rule i) (hno : ¬ H.rule 1) (w : World) (hv : IsVals w ad n H.V) :
  Calls Tryz.prog 45 #[.agg #[.int .i64 (H.t : Int), .int .i64 (H.p : Int), .int .i64 (H.s : Int)], .slice (some ad) n c] w fun e w' => e = .returned (.tuple #[.int .i64 2, .bool false]) /\ Below w.heap.size w w' := by
 have HVL := hidp hv
 have HX0 := hidp (Held.new w 23 #[.int .i64 (H.t : Int), .int .i64 (H.p : Int), .int .i64 (H.s : Int)])
 obtain ⟨c0, c1, c2⟩ := HX0.out.three
 have HBW := hidp (Bnew (B0 w) (.cells #[.int .i64 (H.t : Int), .int .i64 (H.p : Int), .int .i64 (H.s : Int)] 23))
 have HRI := hidp HV.right
 have HLC : Hid (lC H.t H.p H.s = (n : Int)) := hidp (by have := (lay_yes HV.right).5; have := HV.len; omega)
 have HR1 := hidp (fun (W : World) (hv : IsVals W ad n H.V) => xTiles_c HV ad false ⟨fun h => (by cases h), fun h => absurd h hno⟩ W hv)
 have hn := HV.nums
 have hcx : c <= 9223372036854775807 := hn.2.2.2.2.2.2.2.2
 have hni : n <= 6238 := hn.2.2.2.2.2.2.1
 have hnc := HV.cap
 clear hv hr hno hn
 go_enter Tryz.func45, Tryz.ntmps45
 go_wp2_with (first
  | (go_at_call 5; refine (r4Right_c H.t H.p H.s _).mono ?_; rintro e w2 ⟨rfl, hb2⟩; rw [HRI.out]; have HB2 := hidp (Bgo HBW.out hb2); have HX2 := hidp (HX0.out.keep hb2); clear hb2 c0 c1 c2; obtain ⟨c0, c1, c2⟩ := HX2.out.three)
  | (go_at_call 68; refine (r7Cells_c H.t H.p H.s _).mono ?_; rintro e w3 ⟨rfl, hb3⟩; rw [HLC.out]; have HB3 := hidp (Bgo HB2.out hb3); have HX3 := hidp (HX2.out.keep hb3); clear hb3 c0 c1 c2; obtain ⟨c0, c1, c2⟩ := HX3.out.three; obtain ⟨x0, x1, x2, x3⟩ := (Held.new w3 96 #[.int .i64 (H.t : Int), .int .i64 (H.p : Int), .int .i64 (H.s : Int), .slice (some ad) n c]).four)
  | (go_at_call 69; refine (HR1.out _ (HVL.out.below (Bnew HB3.out (.cells #[.int .i64 (H.t : Int), .int .i64 (H.p : Int), .int .i64 (H.s : Int), .slice (some ad) n c] 96)))).mono ?_; rintro e w4 ⟨rfl, hb4⟩; have HB4 := hidp (Bgo (Bnew HB3.out (.cells #[.int .i64 (H.t : Int), .int .i64 (H.p : Int), .int .i64 (H.s : Int), .slice (some ad) n c] 96)) hb4); have HX4 := hidp ((Held.new w3 96 #[.int .i64 (H.t : Int), .int .i64 (H.p : Int), .int .i64 (H.s : Int), .slice (some ad) n c]).keep hb4); clear hb4 x0 x1 x2 x3; obtain ⟨x0, x1, x2, x3⟩ := HX4.out.four)
  | fail)
 go_ret2
 exact ⟨rfl, HB4.out⟩

set_option maxHeartbeats 3200000 in
theorem xCheck_2 {H : AuH} {n c : Nat} (HV : HeapV H n c) (ad : Addr) (hr : ∀ i, i < 2 -> H.rule i) (hno : ¬ H.rule 2) (w : World) (hv : IsVals w ad n H.V) :
  Calls Tryz.prog 45 #[.agg #[.int .i64 (H.t : Int), .int .i64 (H.p : Int), .int .i64 (H.s : Int)], .slice (some ad) n c] w fun e w' => e = .returned (.tuple #[.int .i64 3, .bool false]) /\ Below w.heap.size w w' := by
 have HVL := hidp hv
 have HX0 := hidp (Held.new w 23 #[.int .i64 (H.t : Int), .int .i64 (H.p : Int), .int .i64 (H.s : Int)])
 obtain ⟨c0, c1, c2⟩ := HX0.out.three
 have HBW := hidp (Bnew (B0 w) (.cells #[.int .i64 (H.t : Int), .int .i64 (H.p : Int), .int .i64 (H.s : Int)] 23))
 have HRI := hidp HV.right
 have HLC : Hid (lC H.t H.p H.s = (n : Int)) := hidp (by have := (lay_yes HV.right).5; have := HV.len; omega)
 have HR1 := hidp (fun (W : World) (hv : IsVals W ad n H.V) => xTiles_c HV ad true ⟨fun _ => hr 1 (by omega), fun _ => rfl⟩ W hv)
 have HR2 := hidp (fun (W : World) (hv : IsVals W ad n H.V) => xFeet_c HV (hr 1 (by omega)) ad false ⟨fun h => (by cases h), fun h => absurd h hno⟩ W hv)
 have hn := HV.nums
 have hcx : c <= 9223372036854775807 := hn.2.2.2.2.2.2.2.2
 have hni : n <= 6238 := hn.2.2.2.2.2.2.1
 have hnc := HV.cap
 clear hv hr hno hn
 go_enter Tryz.func45, Tryz.ntmps45
 go_wp2_with (first
  | (go_at_call 5; refine (r4Right_c H.t H.p H.s _).mono ?_; rintro e w2 ⟨rfl, hb2⟩; rw [HRI.out]; have HB2 := hidp (Bgo HBW.out hb2); have HX2 := hidp (HX0.out.keep hb2); clear hb2 c0 c1 c2; obtain ⟨c0, c1, c2⟩ := HX2.out.three)
  | (go_at_call 68; refine (r7Cells_c H.t H.p H.s _).mono ?_; rintro e w3 ⟨rfl, hb3⟩; rw [HLC.out]; have HB3 := hidp (Bgo HB2.out hb3); have HX3 := hidp (HX2.out.keep hb3); clear hb3 c0 c1 c2; obtain ⟨c0, c1, c2⟩ := HX3.out.three; obtain ⟨x0, x1, x2, x3⟩ := (Held.new w3 96 #[.int .i64 (H.t : Int), .int .i64 (H.p : Int), .int .i64 (H.s : Int), .slice (some ad) n c]).four)
  | (go_at_call 69; refine (HR1.out _ (HVL.out.below (Bnew HB3.out (.cells #[.int .i64 (H.t : Int), .int .i64 (H.p : Int), .int .i64 (H.s : Int), .slice (some ad) n c] 96)))).mono ?_; rintro e w4 ⟨rfl, hb4⟩; have HB4 := hidp (Bgo (Bnew HB3.out (.cells #[.int .i64 (H.t : Int), .int .i64 (H.p : Int), .int .i64 (H.s : Int), .slice (some ad) n c] 96)) hb4); have HX4 := hidp ((Held.new w3 96 #[.int .i64 (H.t : Int), .int .i64 (H.p : Int), .int .i64 (H.s : Int), .slice (some ad) n c]).keep hb4); clear hb4 x0 x1 x2 x3; obtain ⟨x0, x1, x2, x3⟩ := HX4.out.four)
  | (go_at_call 70; refine (HR2.out _ (HVL.out.below HB4.out)).mono ?_; rintro e w5 ⟨rfl, hb5⟩; have HB5 := hidp (Bgo HB4.out hb5); have HX5 := hidp (HX4.out.keep hb5); clear hb5 x0 x1 x2 x3; obtain ⟨x0, x1, x2, x3⟩ := HX5.out.four)
  | fail)
 go_ret2
 exact ⟨rfl, HB5.out⟩

set_option maxHeartbeats 3200000 in
theorem xCheck_3 {H : AuH} {n c : Nat} (HV : HeapV H n c) (ad : Addr) (hr : ∀ i, i < 3 -> H.rule i) (hno : ¬ H.rule 3) (w : World) (hv : IsVals w ad n H.V) :
  Calls Tryz.prog 45 #[.agg #[.int .i64 (H.t : Int), .int .i64 (H.p : Int), .int .i64 (H.s : Int)], .slice (some ad) n c] w fun e w' => e = .returned (.tuple #[.int .i64 4, .bool false]) /\ Below w.heap.size w w' := by
 have HVL := hidp hv
 have HX0 := hidp (Held.new w 23 #[.int .i64 (H.t : Int), .int .i64 (H.p : Int), .int .i64 (H.s : Int)])
 obtain ⟨c0, c1, c2⟩ := HX0.out.three
 have HBW := hidp (Bnew (B0 w) (.cells #[.int .i64 (H.t : Int), .int .i64 (H.p : Int), .int .i64 (H.s : Int)] 23))
 have HRI := hidp HV.right
 have HLC : Hid (lC H.t H.p H.s = (n : Int)) := hidp (by have := (lay_yes HV.right).5; have := HV.len; omega)
 have HR1 := hidp (fun (W : World) (hv : IsVals W ad n H.V) => xTiles_c HV ad true ⟨fun _ => hr 1 (by omega), fun _ => rfl⟩ W hv)
 have HR2 := hidp (fun (W : World) (hv : IsVals W ad n H.V) => xFeet_c HV (hr 1 (by omega)) ad true ⟨fun _ => hr 2 (by omega), fun _ => rfl⟩ W hv)
 have HR3 := hidp (fun (W : World) (hv : IsVals W ad n H.V) => xApart_c HV (hr 1 (by omega)) ad false ⟨fun h => (by cases h), fun h => absurd h hno⟩ W hv)
 have hn := HV.nums
 have hcx : c <= 9223372036854775807 := hn.2.2.2.2.2.2.2.2
 have hni : n <= 6238 := hn.2.2.2.2.2.2.1
 have hnc := HV.cap
 clear hv hr hno hn
 go_enter Tryz.func45, Tryz.ntmps45
 go_wp2_with (first
  | (go_at_call 5; refine (r4Right_c H.t H.p H.s _).mono ?_; rintro e w2 ⟨rfl, hb2⟩; rw [HRI.out]; have HB2 := hidp (Bgo HBW.out hb2); have HX2 := hidp (HX0.out.keep hb2); clear hb2 c0 c1 c2; obtain ⟨c0, c1, c2⟩ := HX2.out.three)
  | (go_at_call 68; refine (r7Cells_c H.t H.p H.s _).mono ?_; rintro e w3 ⟨rfl, hb3⟩; rw [HLC.out]; have HB3 := hidp (Bgo HB2.out hb3); have HX3 := hidp (HX2.out.keep hb3); clear hb3 c0 c1 c2; obtain ⟨c0, c1, c2⟩ := HX3.out.three; obtain ⟨x0, x1, x2, x3⟩ := (Held.new w3 96 #[.int .i64 (H.t : Int), .int .i64 (H.p : Int), .int .i64 (H.s : Int), .slice (some ad) n c]).four)
  | (go_at_call 69; refine (HR1.out _ (HVL.out.below (Bnew HB3.out (.cells #[.int .i64 (H.t : Int), .int .i64 (H.p : Int), .int .i64 (H.s : Int), .slice (some ad) n c] 96)))).mono ?_; rintro e w4 ⟨rfl, hb4⟩; have HB4 := hidp (Bgo (Bnew HB3.out (.cells #[.int .i64 (H.t : Int), .int .i64 (H.p : Int), .int .i64 (H.s : Int), .slice (some ad) n c] 96)) hb4); have HX4 := hidp ((Held.new w3 96 #[.int .i64 (H.t : Int), .int .i64 (H.p : Int), .int .i64 (H.s : Int), .slice (some ad) n c]).keep hb4); clear hb4 x0 x1 x2 x3; obtain ⟨x0, x1, x2, x3⟩ := HX4.out.four)
  | (go_at_call 70; refine (HR2.out _ (HVL.out.below HB4.out)).mono ?_; rintro e w5 ⟨rfl, hb5⟩; have HB5 := hidp (Bgo HB4.out hb5); have HX5 := hidp (HX4.out.keep hb5); clear hb5 x0 x1 x2 x3; obtain ⟨x0, x1, x2, x3⟩ := HX5.out.four)
  | (go_at_call 71; refine (HR3.out _ (HVL.out.below HB5.out)).mono ?_; rintro e w6 ⟨rfl, hb6⟩; have HB6 := hidp (Bgo HB5.out hb6); have HX6 := hidp (HX5.out.keep hb6); clear hb6 x0 x1 x2 x3; obtain ⟨x0, x1, x2, x3⟩ := HX6.out.four)
  | fail)
 go_ret2
 exact ⟨rfl, HB6.out⟩

set_option maxHeartbeats 3200000 in
theorem xCheck_4 {H : AuH} {n c : Nat} (HV : HeapV H n c) (ad : Addr) (hr : ∀ i, i < 4 -> H.rule i) (hno : ¬ H.rule 4) (w : World) (hv : IsVals w ad n H.V) :
  Calls Tryz.prog 45 #[.agg #[.int .i64 (H.t : Int), .int .i64 (H.p : Int), .int .i64 (H.s : Int)], .slice (some ad) n c] w fun e w' => e = .returned (.tuple #[.int .i64 5, .bool false]) /\ Below w.heap.size w w' := by
 have HVL := hidp hv
 have HX0 := hidp (Held.new w 23 #[.int .i64 (H.t : Int), .int .i64 (H.p : Int), .int .i64 (H.s : Int)])
 obtain ⟨c0, c1, c2⟩ := HX0.out.three
 have HBW := hidp (Bnew (B0 w) (.cells #[.int .i64 (H.t : Int), .int .i64 (H.p : Int), .int .i64 (H.s : Int)] 23))
 have HRI := hidp HV.right
 have HLC : Hid (lC H.t H.p H.s = (n : Int)) := hidp (by have := (lay_yes HV.right).5; have := HV.len; omega)
 have HR1 := hidp (fun (W : World) (hv : IsVals W ad n H.V) => xTiles_c HV ad true ⟨fun _ => hr 1 (by omega), fun _ => rfl⟩ W hv)
 have HR2 := hidp (fun (W : World) (hv : IsVals W ad n H.V) => xFeet_c HV (hr 1 (by omega)) ad true ⟨fun _ => hr 2 (by omega), fun _ => rfl⟩ W hv)
 have HR3 := hidp (fun (W : World) (hv : IsVals W ad n H.V) => xApart_c HV (hr 1 (by omega)) ad true ⟨fun _ => hr 3 (by omega), fun _ => rfl⟩ W hv)
 have HR4 := hidp (fun (W : World) (hv : IsVals W ad n H.V) => xSlots5_c HV ad false ⟨fun h => (by cases h), fun h => absurd h hno⟩ W hv)
 have hn := HV.nums
 have hcx : c <= 9223372036854775807 := hn.2.2.2.2.2.2.2.2
 have hni : n <= 6238 := hn.2.2.2.2.2.2.1
 have hnc := HV.cap
 clear hv hr hno hn
 go_enter Tryz.func45, Tryz.ntmps45
 go_wp2_with (first
  | (go_at_call 5; refine (r4Right_c H.t H.p H.s _).mono ?_; rintro e w2 ⟨rfl, hb2⟩; rw [HRI.out]; have HB2 := hidp (Bgo HBW.out hb2); have HX2 := hidp (HX0.out.keep hb2); clear hb2 c0 c1 c2; obtain ⟨c0, c1, c2⟩ := HX2.out.three)
  | (go_at_call 68; refine (r7Cells_c H.t H.p H.s _).mono ?_; rintro e w3 ⟨rfl, hb3⟩; rw [HLC.out]; have HB3 := hidp (Bgo HB2.out hb3); have HX3 := hidp (HX2.out.keep hb3); clear hb3 c0 c1 c2; obtain ⟨c0, c1, c2⟩ := HX3.out.three; obtain ⟨x0, x1, x2, x3⟩ := (Held.new w3 96 #[.int .i64 (H.t : Int), .int .i64 (H.p : Int), .int .i64 (H.s : Int), .slice (some ad) n c]).four)
  | (go_at_call 69; refine (HR1.out _ (HVL.out.below (Bnew HB3.out (.cells #[.int .i64 (H.t : Int), .int .i64 (H.p : Int), .int .i64 (H.s : Int), .slice (some ad) n c] 96)))).mono ?_; rintro e w4 ⟨rfl, hb4⟩; have HB4 := hidp (Bgo (Bnew HB3.out (.cells #[.int .i64 (H.t : Int), .int .i64 (H.p : Int), .int .i64 (H.s : Int), .slice (some ad) n c] 96)) hb4); have HX4 := hidp ((Held.new w3 96 #[.int .i64 (H.t : Int), .int .i64 (H.p : Int), .int .i64 (H.s : Int), .slice (some ad) n c]).keep hb4); clear hb4 x0 x1 x2 x3; obtain ⟨x0, x1, x2, x3⟩ := HX4.out.four)
  | (go_at_call 70; refine (HR2.out _ (HVL.out.below HB4.out)).mono ?_; rintro e w5 ⟨rfl, hb5⟩; have HB5 := hidp (Bgo HB4.out hb5); have HX5 := hidp (HX4.out.keep hb5); clear hb5 x0 x1 x2 x3; obtain ⟨x0, x1, x2, x3⟩ := HX5.out.four)
  | (go_at_call 71; refine (HR3.out _ (HVL.out.below HB5.out)).mono ?_; rintro e w6 ⟨rfl, hb6⟩; have HB6 := hidp (Bgo HB5.out hb6); have HX6 := hidp (HX5.out.keep hb6); clear hb6 x0 x1 x2 x3; obtain ⟨x0, x1, x2, x3⟩ := HX6.out.four)
  | (go_at_call 72; refine (HR4.out _ (HVL.out.below HB6.out)).mono ?_; rintro e w7 ⟨rfl, hb7⟩; have HB7 := hidp (Bgo HB6.out hb7); have HX7 := hidp (HX6.out.keep hb7); clear hb7 x0 x1 x2 x3; obtain ⟨x0, x1, x2, x3⟩ := HX7.out.four)
  | fail)
 go_ret2
 exact ⟨rfl, HB7.out⟩

set_option maxHeartbeats 3200000 in
theorem xCheck_5 {H : AuH} {n c : Nat} (HV : HeapV H n c) (ad : Addr) (hr : ∀ i, i < 5 -> H.rule i) (hno : ¬ H.rule 5) (w : World) (hv : IsVals w ad n H.V) :
  Calls Tryz.prog 45 #[.agg #[.int .i64 (H.t : Int), .int .i64 (H.p : Int), .int .i64 (H.s : Int)], .slice (some ad) n c] w fun e w' => e = .returned (.tuple #[.int .i64 6, .bool false]) /\ Below w.heap.size w w' := by
 have HVL := hidp hv
 have HX0 := hidp (Held.new w 23 #[.int .i64 (H.t : Int), .int .i64 (H.p : Int), .int .i64 (H.s : Int)])
 obtain ⟨c0, c1, c2⟩ := HX0.out.three
 have HBW := hidp (Bnew (B0 w) (.cells #[.int .i64 (H.t : Int), .int .i64 (H.p : Int), .int .i64 (H.s : Int)] 23))
 have HRI := hidp HV.right
 have HLC : Hid (lC H.t H.p H.s = (n : Int)) := hidp (by have := (lay_yes HV.right).5; have := HV.len; omega)
 have HR1 := hidp (fun (W : World) (hv : IsVals W ad n H.V) => xTiles_c HV ad true ⟨fun _ => hr 1 (by omega), fun _ => rfl⟩ W hv)
 have HR2 := hidp (fun (W : World) (hv : IsVals W ad n H.V) => xFeet_c HV (hr 1 (by omega)) ad true ⟨fun _ => hr 2 (by omega), fun _ => rfl⟩ W hv)
 have HR3 := hidp (fun (W : World) (hv : IsVals W ad n H.V) => xApart_c HV (hr 1 (by omega)) ad true ⟨fun _ => hr 3 (by omega), fun _ => rfl⟩ W hv)
 have HR4 := hidp (fun (W : World) (hv : IsVals W ad n H.V) => xSlots5_c HV ad true ⟨fun _ => hr 4 (by omega), fun _ => rfl⟩ W hv)
 have HR5 := hidp (fun (W : World) (hv : IsVals W ad n H.V) => xBins_c HV ad false ⟨fun h => (by cases h), fun h => absurd h hno⟩ W hv)
 have hn := HV.nums
 have hcx : c <= 9223372036854775807 := hn.2.2.2.2.2.2.2.2
 have hni : n <= 6238 := hn.2.2.2.2.2.2.1
 have hnc := HV.cap
 clear hv hr hno hn
 go_enter Tryz.func45, Tryz.ntmps45
 go_wp2_with (first
  | (go_at_call 5; refine (r4Right_c H.t H.p H.s _).mono ?_; rintro e w2 ⟨rfl, hb2⟩; rw [HRI.out]; have HB2 := hidp (Bgo HBW.out hb2); have HX2 := hidp (HX0.out.keep hb2); clear hb2 c0 c1 c2; obtain ⟨c0, c1, c2⟩ := HX2.out.three)
  | (go_at_call 68; refine (r7Cells_c H.t H.p H.s _).mono ?_; rintro e w3 ⟨rfl, hb3⟩; rw [HLC.out]; have HB3 := hidp (Bgo HB2.out hb3); have HX3 := hidp (HX2.out.keep hb3); clear hb3 c0 c1 c2; obtain ⟨c0, c1, c2⟩ := HX3.out.three; obtain ⟨x0, x1, x2, x3⟩ := (Held.new w3 96 #[.int .i64 (H.t : Int), .int .i64 (H.p : Int), .int .i64 (H.s : Int), .slice (some ad) n c]).four)
  | (go_at_call 69; refine (HR1.out _ (HVL.out.below (Bnew HB3.out (.cells #[.int .i64 (H.t : Int), .int .i64 (H.p : Int), .int .i64 (H.s : Int), .slice (some ad) n c] 96)))).mono ?_; rintro e w4 ⟨rfl, hb4⟩; have HB4 := hidp (Bgo (Bnew HB3.out (.cells #[.int .i64 (H.t : Int), .int .i64 (H.p : Int), .int .i64 (H.s : Int), .slice (some ad) n c] 96)) hb4); have HX4 := hidp ((Held.new w3 96 #[.int .i64 (H.t : Int), .int .i64 (H.p : Int), .int .i64 (H.s : Int), .slice (some ad) n c]).keep hb4); clear hb4 x0 x1 x2 x3; obtain ⟨x0, x1, x2, x3⟩ := HX4.out.four)
  | (go_at_call 70; refine (HR2.out _ (HVL.out.below HB4.out)).mono ?_; rintro e w5 ⟨rfl, hb5⟩; have HB5 := hidp (Bgo HB4.out hb5); have HX5 := hidp (HX4.out.keep hb5); clear hb5 x0 x1 x2 x3; obtain ⟨x0, x1, x2, x3⟩ := HX5.out.four)
  | (go_at_call 71; refine (HR3.out _ (HVL.out.below HB5.out)).mono ?_; rintro e w6 ⟨rfl, hb6⟩; have HB6 := hidp (Bgo HB5.out hb6); have HX6 := hidp (HX5.out.keep hb6); clear hb6 x0 x1 x2 x3; obtain ⟨x0, x1, x2, x3⟩ := HX6.out.four)
  | (go_at_call 72; refine (HR4.out _ (HVL.out.below HB6.out)).mono ?_; rintro e w7 ⟨rfl, hb7⟩; have HB7 := hidp (Bgo HB6.out hb7); have HX7 := hidp (HX6.out.keep hb7); clear hb7 x0 x1 x2 x3; obtain ⟨x0, x1, x2, x3⟩ := HX7.out.four)
  | (go_at_call 73; refine (HR5.out _ (HVL.out.below HB7.out)).mono ?_; rintro e w8 ⟨rfl, hb8⟩; have HB8 := hidp (Bgo HB7.out hb8); have HX8 := hidp (HX7.out.keep hb8); clear hb8 x0 x1 x2 x3; obtain ⟨x0, x1, x2, x3⟩ := HX8.out.four)
  | fail)
 go_ret2
 exact ⟨rfl, HB8.out⟩

set_option maxHeartbeats 3200000 in
theorem xCheck_6 {H : AuH} {n c : Nat} (HV : HeapV H n c) (ad : Addr) (hr : ∀ i, i < 6 -> H.rule i) (hno : ¬ H.rule 6) (w : World) (hv : IsVals w ad n H.V) :
  Calls Tryz.prog 45 #[.agg #[.int .i64 (H.t : Int), .int .i64 (H.p : Int), .int .i64 (H.s : Int)], .slice (some ad) n c] w fun e w' => e = .returned (.tuple #[.int .i64 7, .bool false]) /\ Below w.heap.size w w' := by
 have HVL := hidp hv
 have HX0 := hidp (Held.new w 23 #[.int .i64 (H.t : Int), .int .i64 (H.p : Int), .int .i64 (H.s : Int)])
 obtain ⟨c0, c1, c2⟩ := HX0.out.three
 have HBW := hidp (Bnew (B0 w) (.cells #[.int .i64 (H.t : Int), .int .i64 (H.p : Int), .int .i64 (H.s : Int)] 23))
 have HRI := hidp HV.right
 have HLC : Hid (lC H.t H.p H.s = (n : Int)) := hidp (by have := (lay_yes HV.right).5; have := HV.len; omega)
 have HR1 := hidp (fun (W : World) (hv : IsVals W ad n H.V) => xTiles_c HV ad true ⟨fun _ => hr 1 (by omega), fun _ => rfl⟩ W hv)
 have HR2 := hidp (fun (W : World) (hv : IsVals W ad n H.V) => xFeet_c HV (hr 1 (by omega)) ad true ⟨fun _ => hr 2 (by omega), fun _ => rfl⟩ W hv)
 have HR3 := hidp (fun (W : World) (hv : IsVals W ad n H.V) => xApart_c HV (hr 1 (by omega)) ad true ⟨fun _ => hr 3 (by omega), fun _ => rfl⟩ W hv)
 have HR4 := hidp (fun (W : World) (hv : IsVals W ad n H.V) => xSlots5_c HV ad true ⟨fun _ => hr 4 (by omega), fun _ => rfl⟩ W hv)
 have HR5 := hidp (fun (W : World) (hv : IsVals W ad n H.V) => xBins_c HV ad true ⟨fun _ => hr 5 (by omega), fun _ => rfl⟩ W hv)
 have HR6 := hidp (fun (W : World) (hv : IsVals W ad n H.V) => xRacks_c HV (hr 4 (by omega)) ad false ⟨fun h => (by cases h), fun h => absurd h hno⟩ W hv)
 have hn := HV.nums
 have hcx : c <= 9223372036854775807 := hn.2.2.2.2.2.2.2.2
 have hni : n <= 6238 := hn.2.2.2.2.2.2.1
 have hnc := HV.cap
 clear hv hr hno hn
 go_enter Tryz.func45, Tryz.ntmps45
 go_wp2_with (first
  | (go_at_call 5; refine (r4Right_c H.t H.p H.s _).mono ?_; rintro e w2 ⟨rfl, hb2⟩; rw [HRI.out]; have HB2 := hidp (Bgo HBW.out hb2); have HX2 := hidp (HX0.out.keep hb2); clear hb2 c0 c1 c2; obtain ⟨c0, c1, c2⟩ := HX2.out.three)
  | (go_at_call 68; refine (r7Cells_c H.t H.p H.s _).mono ?_; rintro e w3 ⟨rfl, hb3⟩; rw [HLC.out]; have HB3 := hidp (Bgo HB2.out hb3); have HX3 := hidp (HX2.out.keep hb3); clear hb3 c0 c1 c2; obtain ⟨c0, c1, c2⟩ := HX3.out.three; obtain ⟨x0, x1, x2, x3⟩ := (Held.new w3 96 #[.int .i64 (H.t : Int), .int .i64 (H.p : Int), .int .i64 (H.s : Int), .slice (some ad) n c]).four)
  | (go_at_call 69; refine (HR1.out _ (HVL.out.below (Bnew HB3.out (.cells #[.int .i64 (H.t : Int), .int .i64 (H.p : Int), .int .i64 (H.s : Int), .slice (some ad) n c] 96)))).mono ?_; rintro e w4 ⟨rfl, hb4⟩; have HB4 := hidp (Bgo (Bnew HB3.out (.cells #[.int .i64 (H.t : Int), .int .i64 (H.p : Int), .int .i64 (H.s : Int), .slice (some ad) n c] 96)) hb4); have HX4 := hidp ((Held.new w3 96 #[.int .i64 (H.t : Int), .int .i64 (H.p : Int), .int .i64 (H.s : Int), .slice (some ad) n c]).keep hb4); clear hb4 x0 x1 x2 x3; obtain ⟨x0, x1, x2, x3⟩ := HX4.out.four)
  | (go_at_call 70; refine (HR2.out _ (HVL.out.below HB4.out)).mono ?_; rintro e w5 ⟨rfl, hb5⟩; have HB5 := hidp (Bgo HB4.out hb5); have HX5 := hidp (HX4.out.keep hb5); clear hb5 x0 x1 x2 x3; obtain ⟨x0, x1, x2, x3⟩ := HX5.out.four)
  | (go_at_call 71; refine (HR3.out _ (HVL.out.below HB5.out)).mono ?_; rintro e w6 ⟨rfl, hb6⟩; have HB6 := hidp (Bgo HB5.out hb6); have HX6 := hidp (HX5.out.keep hb6); clear hb6 x0 x1 x2 x3; obtain ⟨x0, x1, x2, x3⟩ := HX6.out.four)
  | (go_at_call 72; refine (HR4.out _ (HVL.out.below HB6.out)).mono ?_; rintro e w7 ⟨rfl, hb7⟩; have HB7 := hidp (Bgo HB6.out hb7); have HX7 := hidp (HX6.out.keep hb7); clear hb7 x0 x1 x2 x3; obtain ⟨x0, x1, x2, x3⟩ := HX7.out.four)
  | (go_at_call 73; refine (HR5.out _ (HVL.out.below HB7.out)).mono ?_; rintro e w8 ⟨rfl, hb8⟩; have HB8 := hidp (Bgo HB7.out hb8); have HX8 := hidp (HX7.out.keep hb8); clear hb8 x0 x1 x2 x3; obtain ⟨x0, x1, x2, x3⟩ := HX8.out.four)
  | (go_at_call 74; refine (HR6.out _ (HVL.out.below HB8.out)).mono ?_; rintro e w9 ⟨rfl, hb9⟩; have HB9 := hidp (Bgo HB8.out hb9); have HX9 := hidp (HX8.out.keep hb9); clear hb9 x0 x1 x2 x3; obtain ⟨x0, x1, x2, x3⟩ := HX9.out.four)
  | fail)
 go_ret2
 exact ⟨rfl, HB9.out⟩

set_option maxHeartbeats 3200000 in
theorem xCheck_7 {H : AuH} {n c : Nat} (HV : HeapV H n c) (ad : Addr) (hr : ∀ i, i < 7 -> H.rule i) (hno : ¬ H.rule 7) (w : World) (hv : IsVals w ad n H.V) :
  Calls Tryz.prog 45 #[.agg #[.int .i64 (H.t : Int), .int .i64 (H.p : Int), .int .i64 (H.s : Int)], .slice (some ad) n c] w fun e w' => e = .returned (.tuple #[.int .i64 8, .bool false]) /\ Below w.heap.size w w' := by
 have HVL := hidp hv
 have HX0 := hidp (Held.new w 23 #[.int .i64 (H.t : Int), .int .i64 (H.p : Int), .int .i64 (H.s : Int)])
 obtain ⟨c0, c1, c2⟩ := HX0.out.three
 have HBW := hidp (Bnew (B0 w) (.cells #[.int .i64 (H.t : Int), .int .i64 (H.p : Int), .int .i64 (H.s : Int)] 23))
 have HRI := hidp HV.right
 have HLC : Hid (lC H.t H.p H.s = (n : Int)) := hidp (by have := (lay_yes HV.right).5; have := HV.len; omega)
 have HR1 := hidp (fun (W : World) (hv : IsVals W ad n H.V) => xTiles_c HV ad true ⟨fun _ => hr 1 (by omega), fun _ => rfl⟩ W hv)
 have HR2 := hidp (fun (W : World) (hv : IsVals W ad n H.V) => xFeet_c HV (hr 1 (by omega)) ad true ⟨fun _ => hr 2 (by omega), fun _ => rfl⟩ W hv)
 have HR3 := hidp (fun (W : World) (hv : IsVals W ad n H.V) => xApart_c HV (hr 1 (by omega)) ad true ⟨fun _ => hr 3 (by omega), fun _ => rfl⟩ W hv)
 have HR4 := hidp (fun (W : World) (hv : IsVals W ad n H.V) => xSlots5_c HV ad true ⟨fun _ => hr 4 (by omega), fun _ => rfl⟩ W hv)
 have HR5 := hidp (fun (W : World) (hv : IsVals W ad n H.V) => xBins_c HV ad true ⟨fun _ => hr 5 (by omega), fun _ => rfl⟩ W hv)
 have HR6 := hidp (fun (W : World) (hv : IsVals W ad n H.V) => xRacks_c HV (hr 4 (by omega)) ad true ⟨fun _ => hr 6 (by omega), fun _ => rfl⟩ W hv)
 have HR7 := hidp (fun (W : World) (hv : IsVals W ad n H.V) => xLoose_c HV (hr 4 (by omega)) ad false ⟨fun h => (by cases h), fun h => absurd h hno⟩ W hv)
 have hn := HV.nums
 have hcx : c <= 9223372036854775807 := hn.2.2.2.2.2.2.2.2
 have hni : n <= 6238 := hn.2.2.2.2.2.2.1
 have hnc := HV.cap
 clear hv hr hno hn
 go_enter Tryz.func45, Tryz.ntmps45
 go_wp2_with (first
  | (go_at_call 5; refine (r4Right_c H.t H.p H.s _).mono ?_; rintro e w2 ⟨rfl, hb2⟩; rw [HRI.out]; have HB2 := hidp (Bgo HBW.out hb2); have HX2 := hidp (HX0.out.keep hb2); clear hb2 c0 c1 c2; obtain ⟨c0, c1, c2⟩ := HX2.out.three)
  | (go_at_call 68; refine (r7Cells_c H.t H.p H.s _).mono ?_; rintro e w3 ⟨rfl, hb3⟩; rw [HLC.out]; have HB3 := hidp (Bgo HB2.out hb3); have HX3 := hidp (HX2.out.keep hb3); clear hb3 c0 c1 c2; obtain ⟨c0, c1, c2⟩ := HX3.out.three; obtain ⟨x0, x1, x2, x3⟩ := (Held.new w3 96 #[.int .i64 (H.t : Int), .int .i64 (H.p : Int), .int .i64 (H.s : Int), .slice (some ad) n c]).four)
  | (go_at_call 69; refine (HR1.out _ (HVL.out.below (Bnew HB3.out (.cells #[.int .i64 (H.t : Int), .int .i64 (H.p : Int), .int .i64 (H.s : Int), .slice (some ad) n c] 96)))).mono ?_; rintro e w4 ⟨rfl, hb4⟩; have HB4 := hidp (Bgo (Bnew HB3.out (.cells #[.int .i64 (H.t : Int), .int .i64 (H.p : Int), .int .i64 (H.s : Int), .slice (some ad) n c] 96)) hb4); have HX4 := hidp ((Held.new w3 96 #[.int .i64 (H.t : Int), .int .i64 (H.p : Int), .int .i64 (H.s : Int), .slice (some ad) n c]).keep hb4); clear hb4 x0 x1 x2 x3; obtain ⟨x0, x1, x2, x3⟩ := HX4.out.four)
  | (go_at_call 70; refine (HR2.out _ (HVL.out.below HB4.out)).mono ?_; rintro e w5 ⟨rfl, hb5⟩; have HB5 := hidp (Bgo HB4.out hb5); have HX5 := hidp (HX4.out.keep hb5); clear hb5 x0 x1 x2 x3; obtain ⟨x0, x1, x2, x3⟩ := HX5.out.four)
  | (go_at_call 71; refine (HR3.out _ (HVL.out.below HB5.out)).mono ?_; rintro e w6 ⟨rfl, hb6⟩; have HB6 := hidp (Bgo HB5.out hb6); have HX6 := hidp (HX5.out.keep hb6); clear hb6 x0 x1 x2 x3; obtain ⟨x0, x1, x2, x3⟩ := HX6.out.four)
  | (go_at_call 72; refine (HR4.out _ (HVL.out.below HB6.out)).mono ?_; rintro e w7 ⟨rfl, hb7⟩; have HB7 := hidp (Bgo HB6.out hb7); have HX7 := hidp (HX6.out.keep hb7); clear hb7 x0 x1 x2 x3; obtain ⟨x0, x1, x2, x3⟩ := HX7.out.four)
  | (go_at_call 73; refine (HR5.out _ (HVL.out.below HB7.out)).mono ?_; rintro e w8 ⟨rfl, hb8⟩; have HB8 := hidp (Bgo HB7.out hb8); have HX8 := hidp (HX7.out.keep hb8); clear hb8 x0 x1 x2 x3; obtain ⟨x0, x1, x2, x3⟩ := HX8.out.four)
  | (go_at_call 74; refine (HR6.out _ (HVL.out.below HB8.out)).mono ?_; rintro e w9 ⟨rfl, hb9⟩; have HB9 := hidp (Bgo HB8.out hb9); have HX9 := hidp (HX8.out.keep hb9); clear hb9 x0 x1 x2 x3; obtain ⟨x0, x1, x2, x3⟩ := HX9.out.four)
  | (go_at_call 75; refine (HR7.out _ (HVL.out.below HB9.out)).mono ?_; rintro e w10 ⟨rfl, hb10⟩; have HB10 := hidp (Bgo HB9.out hb10); have HX10 := hidp (HX9.out.keep hb10); clear hb10 x0 x1 x2 x3; obtain ⟨x0, x1, x2, x3⟩ := HX10.out.four)
  | fail)
 go_ret2
 exact ⟨rfl, HB10.out⟩

set_option maxHeartbeats 3200000 in
theorem xCheck_8 {H : AuH} {n c : Nat} (HV : HeapV H n c) (ad : Addr) (hr : ∀ i, i < 8 -> H.rule i) (hno : ¬ H.rule 8) (w : World) (hv : IsVals w ad n H.V) :
  Calls Tryz.prog 45 #[.agg #[.int .i64 (H.t : Int), .int .i64 (H.p : Int), .int .i64 (H.s : Int)], .slice (some ad) n c] w fun e w' => e = .returned (.tuple #[.int .i64 9, .bool false]) /\ Below w.heap.size w w' := by
 have HVL := hidp hv
 have HX0 := hidp (Held.new w 23 #[.int .i64 (H.t : Int), .int .i64 (H.p : Int), .int .i64 (H.s : Int)])
 obtain ⟨c0, c1, c2⟩ := HX0.out.three
 have HBW := hidp (Bnew (B0 w) (.cells #[.int .i64 (H.t : Int), .int .i64 (H.p : Int), .int .i64 (H.s : Int)] 23))
 have HRI := hidp HV.right
 have HLC : Hid (lC H.t H.p H.s = (n : Int)) := hidp (by have := (lay_yes HV.right).5; have := HV.len; omega)
 have HR1 := hidp (fun (W : World) (hv : IsVals W ad n H.V) => xTiles_c HV ad true ⟨fun _ => hr 1 (by omega), fun _ => rfl⟩ W hv)
 have HR2 := hidp (fun (W : World) (hv : IsVals W ad n H.V) => xFeet_c HV (hr 1 (by omega)) ad true ⟨fun _ => hr 2 (by omega), fun _ => rfl⟩ W hv)
 have HR3 := hidp (fun (W : World) (hv : IsVals W ad n H.V) => xApart_c HV (hr 1 (by omega)) ad true ⟨fun _ => hr 3 (by omega), fun _ => rfl⟩ W hv)
 have HR4 := hidp (fun (W : World) (hv : IsVals W ad n H.V) => xSlots5_c HV ad true ⟨fun _ => hr 4 (by omega), fun _ => rfl⟩ W hv)
 have HR5 := hidp (fun (W : World) (hv : IsVals W ad n H.V) => xBins_c HV ad true ⟨fun _ => hr 5 (by omega), fun _ => rfl⟩ W hv)
 have HR6 := hidp (fun (W : World) (hv : IsVals W ad n H.V) => xRacks_c HV (hr 4 (by omega)) ad true ⟨fun _ => hr 6 (by omega), fun _ => rfl⟩ W hv)
 have HR7 := hidp (fun (W : World) (hv : IsVals W ad n H.V) => xLoose_c HV (hr 4 (by omega)) ad true ⟨fun _ => hr 7 (by omega), fun _ => rfl⟩ W hv)
 have HR8 := hidp (fun (W : World) (hv : IsVals W ad n H.V) => xCounts_c HV (hr 4 (by omega)) ad false ⟨fun h => (by cases h), fun h => absurd h hno⟩ W hv)
 have hn := HV.nums
 have hcx : c <= 9223372036854775807 := hn.2.2.2.2.2.2.2.2
 have hni : n <= 6238 := hn.2.2.2.2.2.2.1
 have hnc := HV.cap
 clear hv hr hno hn
 go_enter Tryz.func45, Tryz.ntmps45
 go_wp2_with (first
  | (go_at_call 5; refine (r4Right_c H.t H.p H.s _).mono ?_; rintro e w2 ⟨rfl, hb2⟩; rw [HRI.out]; have HB2 := hidp (Bgo HBW.out hb2); have HX2 := hidp (HX0.out.keep hb2); clear hb2 c0 c1 c2; obtain ⟨c0, c1, c2⟩ := HX2.out.three)
  | (go_at_call 68; refine (r7Cells_c H.t H.p H.s _).mono ?_; rintro e w3 ⟨rfl, hb3⟩; rw [HLC.out]; have HB3 := hidp (Bgo HB2.out hb3); have HX3 := hidp (HX2.out.keep hb3); clear hb3 c0 c1 c2; obtain ⟨c0, c1, c2⟩ := HX3.out.three; obtain ⟨x0, x1, x2, x3⟩ := (Held.new w3 96 #[.int .i64 (H.t : Int), .int .i64 (H.p : Int), .int .i64 (H.s : Int), .slice (some ad) n c]).four)
  | (go_at_call 69; refine (HR1.out _ (HVL.out.below (Bnew HB3.out (.cells #[.int .i64 (H.t : Int), .int .i64 (H.p : Int), .int .i64 (H.s : Int), .slice (some ad) n c] 96)))).mono ?_; rintro e w4 ⟨rfl, hb4⟩; have HB4 := hidp (Bgo (Bnew HB3.out (.cells #[.int .i64 (H.t : Int), .int .i64 (H.p : Int), .int .i64 (H.s : Int), .slice (some ad) n c] 96)) hb4); have HX4 := hidp ((Held.new w3 96 #[.int .i64 (H.t : Int), .int .i64 (H.p : Int), .int .i64 (H.s : Int), .slice (some ad) n c]).keep hb4); clear hb4 x0 x1 x2 x3; obtain ⟨x0, x1, x2, x3⟩ := HX4.out.four)
  | (go_at_call 70; refine (HR2.out _ (HVL.out.below HB4.out)).mono ?_; rintro e w5 ⟨rfl, hb5⟩; have HB5 := hidp (Bgo HB4.out hb5); have HX5 := hidp (HX4.out.keep hb5); clear hb5 x0 x1 x2 x3; obtain ⟨x0, x1, x2, x3⟩ := HX5.out.four)
  | (go_at_call 71; refine (HR3.out _ (HVL.out.below HB5.out)).mono ?_; rintro e w6 ⟨rfl, hb6⟩; have HB6 := hidp (Bgo HB5.out hb6); have HX6 := hidp (HX5.out.keep hb6); clear hb6 x0 x1 x2 x3; obtain ⟨x0, x1, x2, x3⟩ := HX6.out.four)
  | (go_at_call 72; refine (HR4.out _ (HVL.out.below HB6.out)).mono ?_; rintro e w7 ⟨rfl, hb7⟩; have HB7 := hidp (Bgo HB6.out hb7); have HX7 := hidp (HX6.out.keep hb7); clear hb7 x0 x1 x2 x3; obtain ⟨x0, x1, x2, x3⟩ := HX7.out.four)
  | (go_at_call 73; refine (HR5.out _ (HVL.out.below HB7.out)).mono ?_; rintro e w8 ⟨rfl, hb8⟩; have HB8 := hidp (Bgo HB7.out hb8); have HX8 := hidp (HX7.out.keep hb8); clear hb8 x0 x1 x2 x3; obtain ⟨x0, x1, x2, x3⟩ := HX8.out.four)
  | (go_at_call 74; refine (HR6.out _ (HVL.out.below HB8.out)).mono ?_; rintro e w9 ⟨rfl, hb9⟩; have HB9 := hidp (Bgo HB8.out hb9); have HX9 := hidp (HX8.out.keep hb9); clear hb9 x0 x1 x2 x3; obtain ⟨x0, x1, x2, x3⟩ := HX9.out.four)
  | (go_at_call 75; refine (HR7.out _ (HVL.out.below HB9.out)).mono ?_; rintro e w10 ⟨rfl, hb10⟩; have HB10 := hidp (Bgo HB9.out hb10); have HX10 := hidp (HX9.out.keep hb10); clear hb10 x0 x1 x2 x3; obtain ⟨x0, x1, x2, x3⟩ := HX10.out.four)
  | (go_at_call 76; refine (HR8.out _ (HVL.out.below HB10.out)).mono ?_; rintro e w11 ⟨rfl, hb11⟩; have HB11 := hidp (Bgo HB10.out hb11); have HX11 := hidp (HX10.out.keep hb11); clear hb11 x0 x1 x2 x3; obtain ⟨x0, x1, x2, x3⟩ := HX11.out.four)
  | fail)
 go_ret2
 exact ⟨rfl, HB11.out⟩

set_option maxHeartbeats 3200000 in
theorem xCheck_9 {H : AuH} {n c : Nat} (HV : HeapV H n c) (ad : Addr) (hr : ∀ i, i < 9 -> H.rule i) (hno : ¬ H.rule 9) (w : World) (hv : IsVals w ad n H.V) :
  Calls Tryz.prog 45 #[.agg #[.int .i64 (H.t : Int), .int .i64 (H.p : Int), .int .i64 (H.s : Int)], .slice (some ad) n c] w fun e w' => e = .returned (.tuple #[.int .i64 10, .bool false]) /\ Below w.heap.size w w' := by
 have HVL := hidp hv
 have HX0 := hidp (Held.new w 23 #[.int .i64 (H.t : Int), .int .i64 (H.p : Int), .int .i64 (H.s : Int)])
 obtain ⟨c0, c1, c2⟩ := HX0.out.three
 have HBW := hidp (Bnew (B0 w) (.cells #[.int .i64 (H.t : Int), .int .i64 (H.p : Int), .int .i64 (H.s : Int)] 23))
 have HRI := hidp HV.right
 have HLC : Hid (lC H.t H.p H.s = (n : Int)) := hidp (by have := (lay_yes HV.right).5; have := HV.len; omega)
 have HR1 := hidp (fun (W : World) (hv : IsVals W ad n H.V) => xTiles_c HV ad true ⟨fun _ => hr 1 (by omega), fun _ => rfl⟩ W hv)
 have HR2 := hidp (fun (W : World) (hv : IsVals W ad n H.V) => xFeet_c HV (hr 1 (by omega)) ad true ⟨fun _ => hr 2 (by omega), fun _ => rfl⟩ W hv)
 have HR3 := hidp (fun (W : World) (hv : IsVals W ad n H.V) => xApart_c HV (hr 1 (by omega)) ad true ⟨fun _ => hr 3 (by omega), fun _ => rfl⟩ W hv)
 have HR4 := hidp (fun (W : World) (hv : IsVals W ad n H.V) => xSlots5_c HV ad true ⟨fun _ => hr 4 (by omega), fun _ => rfl⟩ W hv)
 have HR5 := hidp (fun (W : World) (hv : IsVals W ad n H.V) => xBins_c HV ad true ⟨fun _ => hr 5 (by omega), fun _ => rfl⟩ W hv)
 have HR6 := hidp (fun (W : World) (hv : IsVals W ad n H.V) => xRacks_c HV (hr 4 (by omega)) ad true ⟨fun _ => hr 6 (by omega), fun _ => rfl⟩ W hv)
 have HR7 := hidp (fun (W : World) (hv : IsVals W ad n H.V) => xLoose_c HV (hr 4 (by omega)) ad true ⟨fun _ => hr 7 (by omega), fun _ => rfl⟩ W hv)
 have HR8 := hidp (fun (W : World) (hv : IsVals W ad n H.V) => xCounts_c HV (hr 4 (by omega)) ad true ⟨fun _ => hr 8 (by omega), fun _ => rfl⟩ W hv)
 have HR9 := hidp (fun (W : World) (hv : IsVals W ad n H.V) => xRoots_c HV ad false ⟨fun h => (by cases h), fun h => absurd h hno⟩ W hv)
 have hn := HV.nums
 have hcx : c <= 9223372036854775807 := hn.2.2.2.2.2.2.2.2
 have hni : n <= 6238 := hn.2.2.2.2.2.2.1
 have hnc := HV.cap
 clear hv hr hno hn
 go_enter Tryz.func45, Tryz.ntmps45
 go_wp2_with (first
  | (go_at_call 5; refine (r4Right_c H.t H.p H.s _).mono ?_; rintro e w2 ⟨rfl, hb2⟩; rw [HRI.out]; have HB2 := hidp (Bgo HBW.out hb2); have HX2 := hidp (HX0.out.keep hb2); clear hb2 c0 c1 c2; obtain ⟨c0, c1, c2⟩ := HX2.out.three)
  | (go_at_call 68; refine (r7Cells_c H.t H.p H.s _).mono ?_; rintro e w3 ⟨rfl, hb3⟩; rw [HLC.out]; have HB3 := hidp (Bgo HB2.out hb3); have HX3 := hidp (HX2.out.keep hb3); clear hb3 c0 c1 c2; obtain ⟨c0, c1, c2⟩ := HX3.out.three; obtain ⟨x0, x1, x2, x3⟩ := (Held.new w3 96 #[.int .i64 (H.t : Int), .int .i64 (H.p : Int), .int .i64 (H.s : Int), .slice (some ad) n c]).four)
  | (go_at_call 69; refine (HR1.out _ (HVL.out.below (Bnew HB3.out (.cells #[.int .i64 (H.t : Int), .int .i64 (H.p : Int), .int .i64 (H.s : Int), .slice (some ad) n c] 96)))).mono ?_; rintro e w4 ⟨rfl, hb4⟩; have HB4 := hidp (Bgo (Bnew HB3.out (.cells #[.int .i64 (H.t : Int), .int .i64 (H.p : Int), .int .i64 (H.s : Int), .slice (some ad) n c] 96)) hb4); have HX4 := hidp ((Held.new w3 96 #[.int .i64 (H.t : Int), .int .i64 (H.p : Int), .int .i64 (H.s : Int), .slice (some ad) n c]).keep hb4); clear hb4 x0 x1 x2 x3; obtain ⟨x0, x1, x2, x3⟩ := HX4.out.four)
  | (go_at_call 70; refine (HR2.out _ (HVL.out.below HB4.out)).mono ?_; rintro e w5 ⟨rfl, hb5⟩; have HB5 := hidp (Bgo HB4.out hb5); have HX5 := hidp (HX4.out.keep hb5); clear hb5 x0 x1 x2 x3; obtain ⟨x0, x1, x2, x3⟩ := HX5.out.four)
  | (go_at_call 71; refine (HR3.out _ (HVL.out.below HB5.out)).mono ?_; rintro e w6 ⟨rfl, hb6⟩; have HB6 := hidp (Bgo HB5.out hb6); have HX6 := hidp (HX5.out.keep hb6); clear hb6 x0 x1 x2 x3; obtain ⟨x0, x1, x2, x3⟩ := HX6.out.four)
  | (go_at_call 72; refine (HR4.out _ (HVL.out.below HB6.out)).mono ?_; rintro e w7 ⟨rfl, hb7⟩; have HB7 := hidp (Bgo HB6.out hb7); have HX7 := hidp (HX6.out.keep hb7); clear hb7 x0 x1 x2 x3; obtain ⟨x0, x1, x2, x3⟩ := HX7.out.four)
  | (go_at_call 73; refine (HR5.out _ (HVL.out.below HB7.out)).mono ?_; rintro e w8 ⟨rfl, hb8⟩; have HB8 := hidp (Bgo HB7.out hb8); have HX8 := hidp (HX7.out.keep hb8); clear hb8 x0 x1 x2 x3; obtain ⟨x0, x1, x2, x3⟩ := HX8.out.four)
  | (go_at_call 74; refine (HR6.out _ (HVL.out.below HB8.out)).mono ?_; rintro e w9 ⟨rfl, hb9⟩; have HB9 := hidp (Bgo HB8.out hb9); have HX9 := hidp (HX8.out.keep hb9); clear hb9 x0 x1 x2 x3; obtain ⟨x0, x1, x2, x3⟩ := HX9.out.four)
  | (go_at_call 75; refine (HR7.out _ (HVL.out.below HB9.out)).mono ?_; rintro e w10 ⟨rfl, hb10⟩; have HB10 := hidp (Bgo HB9.out hb10); have HX10 := hidp (HX9.out.keep hb10); clear hb10 x0 x1 x2 x3; obtain ⟨x0, x1, x2, x3⟩ := HX10.out.four)
  | (go_at_call 76; refine (HR8.out _ (HVL.out.below HB10.out)).mono ?_; rintro e w11 ⟨rfl, hb11⟩; have HB11 := hidp (Bgo HB10.out hb11); have HX11 := hidp (HX10.out.keep hb11); clear hb11 x0 x1 x2 x3; obtain ⟨x0, x1, x2, x3⟩ := HX11.out.four)
  | (go_at_call 77; refine (HR9.out _ (HVL.out.below HB11.out)).mono ?_; rintro e w12 ⟨rfl, hb12⟩; have HB12 := hidp (Bgo HB11.out hb12); have HX12 := hidp (HX11.out.keep hb12); clear hb12 x0 x1 x2 x3; obtain ⟨x0, x1, x2, x3⟩ := HX12.out.four)
  | fail)
 go_ret2
 exact ⟨rfl, HB12.out⟩

set_option maxHeartbeats 3200000 in
theorem xCheck_10 {H : AuH} {n c : Nat} (HV : HeapV H n c) (ad : Addr) (hr : ∀ i, i < 10 -> H.rule i) (w : World) (hv : IsVals w ad n H.V) :
  Calls Tryz.prog 45 #[.agg #[.int .i64 (H.t : Int), .int .i64 (H.p : Int), .int .i64 (H.s : Int)], .slice (some ad) n c] w fun e w' => e = .returned (.tuple #[.int .i64 0, .bool true]) /\ Below w.heap.size w w' := by
 have HVL := hidp hv
 have HX0 := hidp (Held.new w 23 #[.int .i64 (H.t : Int), .int .i64 (H.p : Int), .int .i64 (H.s : Int)])
 obtain ⟨c0, c1, c2⟩ := HX0.out.three
 have HBW := hidp (Bnew (B0 w) (.cells #[.int .i64 (H.t : Int), .int .i64 (H.p : Int), .int .i64 (H.s : Int)] 23))
 have HRI := hidp HV.right
 have HLC : Hid (lC H.t H.p H.s = (n : Int)) := hidp (by have := (lay_yes HV.right).5; have := HV.len; omega)
 have HR1 := hidp (fun (W : World) (hv : IsVals W ad n H.V) => xTiles_c HV ad true ⟨fun _ => hr 1 (by omega), fun _ => rfl⟩ W hv)
 have HR2 := hidp (fun (W : World) (hv : IsVals W ad n H.V) => xFeet_c HV (hr 1 (by omega)) ad true ⟨fun _ => hr 2 (by omega), fun _ => rfl⟩ W hv)
 have HR3 := hidp (fun (W : World) (hv : IsVals W ad n H.V) => xApart_c HV (hr 1 (by omega)) ad true ⟨fun _ => hr 3 (by omega), fun _ => rfl⟩ W hv)
 have HR4 := hidp (fun (W : World) (hv : IsVals W ad n H.V) => xSlots5_c HV ad true ⟨fun _ => hr 4 (by omega), fun _ => rfl⟩ W hv)
 have HR5 := hidp (fun (W : World) (hv : IsVals W ad n H.V) => xBins_c HV ad true ⟨fun _ => hr 5 (by omega), fun _ => rfl⟩ W hv)
 have HR6 := hidp (fun (W : World) (hv : IsVals W ad n H.V) => xRacks_c HV (hr 4 (by omega)) ad true ⟨fun _ => hr 6 (by omega), fun _ => rfl⟩ W hv)
 have HR7 := hidp (fun (W : World) (hv : IsVals W ad n H.V) => xLoose_c HV (hr 4 (by omega)) ad true ⟨fun _ => hr 7 (by omega), fun _ => rfl⟩ W hv)
 have HR8 := hidp (fun (W : World) (hv : IsVals W ad n H.V) => xCounts_c HV (hr 4 (by omega)) ad true ⟨fun _ => hr 8 (by omega), fun _ => rfl⟩ W hv)
 have HR9 := hidp (fun (W : World) (hv : IsVals W ad n H.V) => xRoots_c HV ad true ⟨fun _ => hr 9 (by omega), fun _ => rfl⟩ W hv)
 have hn := HV.nums
 have hcx : c <= 9223372036854775807 := hn.2.2.2.2.2.2.2.2
 have hni : n <= 6238 := hn.2.2.2.2.2.2.1
 have hnc := HV.cap
 clear hv hr hn
 go_enter Tryz.func45, Tryz.ntmps45
 go_wp2_with (first
  | (go_at_call 5; refine (r4Right_c H.t H.p H.s _).mono ?_; rintro e w2 ⟨rfl, hb2⟩; rw [HRI.out]; have HB2 := hidp (Bgo HBW.out hb2); have HX2 := hidp (HX0.out.keep hb2); clear hb2 c0 c1 c2; obtain ⟨c0, c1, c2⟩ := HX2.out.three)
  | (go_at_call 68; refine (r7Cells_c H.t H.p H.s _).mono ?_; rintro e w3 ⟨rfl, hb3⟩; rw [HLC.out]; have HB3 := hidp (Bgo HB2.out hb3); have HX3 := hidp (HX2.out.keep hb3); clear hb3 c0 c1 c2; obtain ⟨c0, c1, c2⟩ := HX3.out.three; obtain ⟨x0, x1, x2, x3⟩ := (Held.new w3 96 #[.int .i64 (H.t : Int), .int .i64 (H.p : Int), .int .i64 (H.s : Int), .slice (some ad) n c]).four)
  | (go_at_call 69; refine (HR1.out _ (HVL.out.below (Bnew HB3.out (.cells #[.int .i64 (H.t : Int), .int .i64 (H.p : Int), .int .i64 (H.s : Int), .slice (some ad) n c] 96)))).mono ?_; rintro e w4 ⟨rfl, hb4⟩; have HB4 := hidp (Bgo (Bnew HB3.out (.cells #[.int .i64 (H.t : Int), .int .i64 (H.p : Int), .int .i64 (H.s : Int), .slice (some ad) n c] 96)) hb4); have HX4 := hidp ((Held.new w3 96 #[.int .i64 (H.t : Int), .int .i64 (H.p : Int), .int .i64 (H.s : Int), .slice (some ad) n c]).keep hb4); clear hb4 x0 x1 x2 x3; obtain ⟨x0, x1, x2, x3⟩ := HX4.out.four)
  | (go_at_call 70; refine (HR2.out _ (HVL.out.below HB4.out)).mono ?_; rintro e w5 ⟨rfl, hb5⟩; have HB5 := hidp (Bgo HB4.out hb5); have HX5 := hidp (HX4.out.keep hb5); clear hb5 x0 x1 x2 x3; obtain ⟨x0, x1, x2, x3⟩ := HX5.out.four)
  | (go_at_call 71; refine (HR3.out _ (HVL.out.below HB5.out)).mono ?_; rintro e w6 ⟨rfl, hb6⟩; have HB6 := hidp (Bgo HB5.out hb6); have HX6 := hidp (HX5.out.keep hb6); clear hb6 x0 x1 x2 x3; obtain ⟨x0, x1, x2, x3⟩ := HX6.out.four)
  | (go_at_call 72; refine (HR4.out _ (HVL.out.below HB6.out)).mono ?_; rintro e w7 ⟨rfl, hb7⟩; have HB7 := hidp (Bgo HB6.out hb7); have HX7 := hidp (HX6.out.keep hb7); clear hb7 x0 x1 x2 x3; obtain ⟨x0, x1, x2, x3⟩ := HX7.out.four)
  | (go_at_call 73; refine (HR5.out _ (HVL.out.below HB7.out)).mono ?_; rintro e w8 ⟨rfl, hb8⟩; have HB8 := hidp (Bgo HB7.out hb8); have HX8 := hidp (HX7.out.keep hb8); clear hb8 x0 x1 x2 x3; obtain ⟨x0, x1, x2, x3⟩ := HX8.out.four)
  | (go_at_call 74; refine (HR6.out _ (HVL.out.below HB8.out)).mono ?_; rintro e w9 ⟨rfl, hb9⟩; have HB9 := hidp (Bgo HB8.out hb9); have HX9 := hidp (HX8.out.keep hb9); clear hb9 x0 x1 x2 x3; obtain ⟨x0, x1, x2, x3⟩ := HX9.out.four)
  | (go_at_call 75; refine (HR7.out _ (HVL.out.below HB9.out)).mono ?_; rintro e w10 ⟨rfl, hb10⟩; have HB10 := hidp (Bgo HB9.out hb10); have HX10 := hidp (HX9.out.keep hb10); clear hb10 x0 x1 x2 x3; obtain ⟨x0, x1, x2, x3⟩ := HX10.out.four)
  | (go_at_call 76; refine (HR8.out _ (HVL.out.below HB10.out)).mono ?_; rintro e w11 ⟨rfl, hb11⟩; have HB11 := hidp (Bgo HB10.out hb11); have HX11 := hidp (HX10.out.keep hb11); clear hb11 x0 x1 x2 x3; obtain ⟨x0, x1, x2, x3⟩ := HX11.out.four)
  | (go_at_call 77; refine (HR9.out _ (HVL.out.below HB11.out)).mono ?_; rintro e w12 ⟨rfl, hb12⟩; have HB12 := hidp (Bgo HB11.out hb12); have HX12 := hidp (HX11.out.keep hb12); clear hb12 x0 x1 x2 x3; obtain ⟨x0, x1, x2, x3⟩ := HX12.out.four)
  | fail)
 go_ret2
 exact ⟨rfl, HB12.out⟩

def XCheckIs (w : World) (t q s : Int) (A : Option Addr) (n c : Nat) (m : Nat) (b : Bool) : Prop :=
 ∀ W, Below w.heap.size w W -> Calls Tryz.prog 45 #[.agg #[.int .i64 t, .int .i64 q, .int .i64 s], .slice A n c] W fun e w' => e = .returned (.tuple #[.int .i64 (m : Int), .bool b]) /\ Below W.heap.size W w'
theorem XCheckIs.grown {w w1 : World} {t q s : Int} {A : Option Addr} {n c m : Nat} {b : Bool} (h : XCheckIs w t q s A n c m b) (hb : Below w.heap.size w w1) : XCheckIs w1 t q s A n c m b :=
 fun W hW => h W (Bgo hb hW)
theorem xCheckIs_yes {H : AuH} {n c : Nat} (HV : HeapV H n c) (ad : Addr) (w : World) (hv : IsVals w ad n H.V) {m : Nat} {b : Bool} (h : H.Told m b) : XCheckIs w H.t H.p H.s (some ad) n c m b := by
 intro W hW
 rcases h with ⟨rfl, rfl, hr⟩ | ⟨rfl, k, rfl, h1, h2, hr, hno⟩
 ·exact xCheck_10 HV ad hr W (hv.below hW)
 ·rcases (by omega : k = 1 \/ k = 2 \/ k = 3 \/ k = 4 \/ k = 5 \/ k = 6 \/ k = 7 \/ k = 8 \/ k = 9) with rfl | rfl | rfl | rfl | rfl | rfl | rfl | rfl | rfl
  ·exact xCheck_1 HV ad hr hno W (hv.below hW)
  ·exact xCheck_2 HV ad hr hno W (hv.below hW)
  ·exact xCheck_3 HV ad hr hno W (hv.below hW)
  ·exact xCheck_4 HV ad hr hno W (hv.below hW)
  ·exact xCheck_5 HV ad hr hno W (hv.below hW)
  ·exact xCheck_6 HV ad hr hno W (hv.below hW)
  ·exact xCheck_7 HV ad hr hno W (hv.below hW)
  ·exact xCheck_8 HV ad hr hno W (hv.below hW)
  ·exact xCheck_9 HV ad hr hno W (hv.below hW)
end
section
set_option maxHeartbeats 1600000 in
theorem xSound_c (t q s : Int) (A : Option Addr) (n c m : Nat) (b : Bool) (w : World) (hC : XCheckIs w t q s A n c m b) :
  Calls Tryz.prog 22 #[.agg #[.int .i64 t, .int .i64 q, .int .i64 s], .slice A n c] w fun e w' => e = .returned (.bool b) /\ Below w.heap.size w w' := by
 have HX0 := hidp (Held.new w 23 #[.int .i64 t, .int .i64 q, .int .i64 s])
 obtain ⟨c0, c1, c2⟩ := HX0.out.three
 have HBW := hidp (Bnew (B0 w) (.cells #[.int .i64 t, .int .i64 q, .int .i64 s] 23))
 have HCK := hidp (hC _ HBW.out)
 clear hC
 go_enter Tryz.func22, Tryz.ntmps22
 go_wp2_with (first
  | (go_at_call 45; refine HCK.out.mono ?_; rintro e w2 ⟨rfl, hb2⟩; have HB2 := hidp (Bgo HBW.out hb2); clear hb2)
  | fail)
 go_ret
 exact ⟨rfl, HB2.out⟩

set_option maxHeartbeats 1600000 in
theorem xPartsTop_yes {H : AuH} {n c : Nat} (HV : HeapV H n c) (ad : Addr) (m : Nat) (w : World) (hv : IsVals w ad n H.V) (hC : XCheckIs w H.t H.p H.s (some ad) n c m true) :
  Calls Tryz.prog 25 #[.agg #[.int .i64 (H.t : Int), .int .i64 (H.p : Int), .int .i64 (H.s : Int)], .slice (some ad) n c] w fun e w' => ∃ u, e = .returned u /\ w'.ownsRow w.heap.size 63 3 u H.parts.length (ptVs H.parts) /\ Below w.heap.size w w' := by
 have HX0 := hidp (Held.new w 23 #[.int .i64 (H.t : Int), .int .i64 (H.p : Int), .int .i64 (H.s : Int)])
 obtain ⟨c0, c1, c2⟩ := HX0.out.three
 have HBW := hidp (Bnew (B0 w) (.cells #[.int .i64 (H.t : Int), .int .i64 (H.p : Int), .int .i64 (H.s : Int)] 23))
 have HSO := hidp (xSound_c (H.t : Int) (H.p : Int) (H.s : Int) (some ad) n c m true _ (hC.grown HBW.out))
 have HPP := hidp (fun (W : World) (h1 : Below w.heap.size w W) => xParts_c HV ad W (hv.below h1))
 unfold hpV at HPP
 clear hC hv
 go_enter Tryz.func25, Tryz.ntmps25
 go_wp2_with (first
  | (go_at_call 22; refine HSO.out.mono ?_; rintro e w2 ⟨rfl, hb2⟩; have HX2 := hidp (HX0.out.keep hb2); have HB2 := hidp (Bgo HBW.out hb2); have HB3 := hidp (Bnew HB2.out (.cells #[.int .i64 (H.t : Int), .int .i64 (H.p : Int), .int .i64 (H.s : Int), .slice (some ad) n c] 96)); clear hb2 c0 c1 c2; obtain ⟨c0, c1, c2⟩ := HX2.out.three; obtain ⟨x0, x1, x2, x3⟩ := (Held.new w2 96 #[.int .i64 (H.t : Int), .int .i64 (H.p : Int), .int .i64 (H.s : Int), .slice (some ad) n c]).four)
  | (go_at_call 47; refine (HPP.out _ HB3.out).mono ?_; rintro e w4 ⟨u, rfl, hown4, hb4⟩; have HO4 := hidp hown4; have HB4 := hidp (Bgo HB3.out hb4); clear hown4 hb4)
  | fail)
 go_ret
 exact ⟨u, rfl, own_down HO4.out HB3.out.size, HB4.out⟩

set_option maxHeartbeats 1600000 in
theorem xLiveTop_yes {H : AuH} {n c : Nat} (HV : HeapV H n c) (ad : Addr) (m : Nat) (w : World) (hv : IsVals w ad n H.V) (hC : XCheckIs w H.t H.p H.s (some ad) n c m true) :
  Calls Tryz.prog 23 #[.agg #[.int .i64 (H.t : Int), .int .i64 (H.p : Int), .int .i64 (H.s : Int)], .slice (some ad) n c] w fun e w' => ∃ u, e = .returned u /\ w'.ownsRow w.heap.size 55 2 u (blocksOf H.parts).length (bkVs (blocksOf H.parts)) /\ Below w.heap.size w w' := by
 have HX0 := hidp (Held.new w 23 #[.int .i64 (H.t : Int), .int .i64 (H.p : Int), .int .i64 (H.s : Int)])
 obtain ⟨c0, c1, c2⟩ := HX0.out.three
 have HBW := hidp (Bnew (B0 w) (.cells #[.int .i64 (H.t : Int), .int .i64 (H.p : Int), .int .i64 (H.s : Int)] 23))
 have HSO := hidp (xSound_c (H.t : Int) (H.p : Int) (H.s : Int) (some ad) n c m true _ (hC.grown HBW.out))
 have HPP := hidp (fun (W : World) (h1 : Below w.heap.size w W) => xBlocks_c HV ad W (hv.below h1))
 unfold hpV at HPP
 clear hC hv
 go_enter Tryz.func23, Tryz.ntmps23
 go_wp2_with (first
  | (go_at_call 22; refine HSO.out.mono ?_; rintro e w2 ⟨rfl, hb2⟩; have HX2 := hidp (HX0.out.keep hb2); have HB2 := hidp (Bgo HBW.out hb2); have HB3 := hidp (Bnew HB2.out (.cells #[.int .i64 (H.t : Int), .int .i64 (H.p : Int), .int .i64 (H.s : Int), .slice (some ad) n c] 96)); clear hb2 c0 c1 c2; obtain ⟨c0, c1, c2⟩ := HX2.out.three; obtain ⟨x0, x1, x2, x3⟩ := (Held.new w2 96 #[.int .i64 (H.t : Int), .int .i64 (H.p : Int), .int .i64 (H.s : Int), .slice (some ad) n c]).four)
  | (go_at_call 46; refine (HPP.out _ HB3.out).mono ?_; rintro e w4 ⟨u, rfl, hown4, hb4⟩; have HO4 := hidp hown4; have HB4 := hidp (Bgo HB3.out hb4); clear hown4 hb4)
  | fail)
 go_ret
 exact ⟨u, rfl, own_down HO4.out HB3.out.size, HB4.out⟩
end
end Go.Proofs.YtlpcdfcghgapkaaGreat

namespace Go.Proofs.YtlpcdfcghgapkaaGreat
open Go.ChangeShapes Go.WideShapes Go.ChangeAt Go.RowKit Go.Maps
set_option linter.unusedVariables false
set_option linter.unusedSimpArgs false
set_option maxRecDepth 100000
section
structure Duo (W : World) (O1 O2 : Ob) (A B G : Nat -> Prop) (s1 s2 : Vst) (w : World) : Prop where
 i1 : O1.I w s1 A
 i2 : O2.I w s2 B
 ab : ∀ i, A i -> ¬ B i
 aG : ∀ g, G g -> g < w.heap.size /\ ¬ A g /\ ¬ B g
 lo : ∀ i, A i \/ B i -> W.heap.size <= i
 bel : Below W.heap.size W w
section
variable {W w w' : World} {O1 O2 : Ob} {A B G : Nat -> Prop} {s1 s2 s' : Vst}
end
end
end Go.Proofs.YtlpcdfcghgapkaaGreat
