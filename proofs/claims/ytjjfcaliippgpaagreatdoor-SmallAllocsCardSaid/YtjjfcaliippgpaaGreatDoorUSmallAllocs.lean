/-
  The law SmallAllocs: the walk. Written by small/gen_allocs.py.
-/
import Derived.Test.YtjjfcaliippgpaaGreatDoorU19
import Derived.Test.YtjjfcaliippgpaaGreatDoorU21
import Derived.Test.YtjjfcaliippgpaaGreatDoorU20
import Derived.Test.YtjjfcaliippgpaaGreatDoorU15
import Derived.Test.YtjjfcaliippgpaaGreatDoorU04
namespace Go.Proofs.YtjjfcaliippgpaaGreatDoor
open Go.ChangeShapes Go.WideShapes Go.ChangeAt Go.RowKit Go.Maps
set_option linter.unusedVariables false
set_option linter.unusedSimpArgs false
set_option maxRecDepth 100000
section
theorem SmallAllocs_no (t q s : Int) (A : Option Addr) (n c : Nat) (A2 : Option Addr) (T c2 : Nat) (t0 k0 pg sl : Int) (W : World) (hT : SlotsLaid W) (HF : Hid (∀ w, Below W.heap.size W w -> Calls Tryz.prog 7 #[.agg #[.int .i64 t, .int .i64 q, .int .i64 s], .slice A n c, .agg #[.slice A2 T c2, .int .i64 t0, .int .i64 k0, .int .i64 pg, .int .i64 sl]] w fun e w' => e = .returned (.bool false) /\ Below w.heap.size w w')) : Calls Tryz.prog 3 #[.agg #[.int .i64 t, .int .i64 q, .int .i64 s], .slice A n c, .agg #[.slice A2 T c2, .int .i64 t0, .int .i64 k0, .int .i64 pg, .int .i64 sl]] W (Keeps W) := by
 have HC := hidp ((Held.new W 23 #[.int .i64 t, .int .i64 q, .int .i64 s]).alloc (.cells #[.slice A2 T c2, .int .i64 t0, .int .i64 k0, .int .i64 pg, .int .i64 sl] 27))
 have HX := hidp (Held.new2 W (.cells #[.int .i64 t, .int .i64 q, .int .i64 s] 23) 27 #[.slice A2 T c2, .int .i64 t0, .int .i64 k0, .int .i64 pg, .int .i64 sl])
 have HB := hidp (Bnew (Bnew (B0 W) (.cells #[.int .i64 t, .int .i64 q, .int .i64 s] 23)) (.cells #[.slice A2 T c2, .int .i64 t0, .int .i64 k0, .int .i64 pg, .int .i64 sl] 27))
 have HTL := hidp hT
 clear hT
 obtain ⟨x0', x1', x2'⟩ := HC.out.three
 obtain ⟨y0', y1', y2', y3', y4'⟩ := HX.out.five'
 go_enter Tryz.func3, Tryz.ntmps3
 go_wp2_with fail
 refine (HF.out _ HB.out).mono ?_
 rintro e w2 ⟨rfl, hb⟩
 replace HC := hidp (HC.out.keep hb)
 replace HX := hidp (HX.out.keep hb)
 replace HB := hidp (Bgo HB.out hb)
 clear hb
 clear x0' x1' x2' y0' y1' y2' y3' y4'
 obtain ⟨x0', x1', x2'⟩ := HC.out.three
 obtain ⟨y0', y1', y2', y3', y4'⟩ := HX.out.five'
 go_wp2_with fail
 refine (live18_c _ (HTL.out.below HB.out)).mono ?_
 rintro e w19 ⟨rfl, hb⟩
 have HBL := hidp (Bgo HB.out hb)
 clear hb
 go_wp2
 go_ret
 exact ⟨rfl, HBL.out⟩

set_option maxHeartbeats 12800000 in
theorem SmallAllocs_main {H : AuH} (ad : Addr) (n c : Nat) (HV : HeapV H n c) (vals : List Nat) (HNN : Hid (vals.length = n)) (H32 : Hid (∀ x ∈ vals, x < 2 ^ 32)) (hnc : n <= c) (ad2 : Addr) (c2 : Nat) (hTc : H.t <= c2) (hc2 : c2 <= maxLen) (i0 : Nat) (hi0 : i0 < H.t) (k0 pg sl : Int) (hk0 : -9223372036854775808 <= k0) (hk1 : k0 <= 9223372036854775807) (U : Nat -> Nat -> Sl) (Z : Nat -> Nat -> List Int) (hq : H.p <= 64) (hok : 0 <= k0 /\ k0 <= 8 -> AlOk n (wholeV15 vals) H.t H.p H.s k0 (Z i0 k0.toNat) freshS)
  (W : World) (hT : SlotsLaid W) (HR : Hid (Reads W W.heap.size 1 (some ad) n (valVs vals))) (HP : Hid (PksAt W (some ad2) H.t U Z)) (HF : Hid (∀ w, Below W.heap.size W w -> Calls Tryz.prog 7 #[.agg #[.int .i64 (H.t : Int), .int .i64 (H.p : Int), .int .i64 (H.s : Int)], .slice (some ad) n c, .agg #[.slice (some ad2) H.t c2, .int .i64 (i0 : Int), .int .i64 k0, .int .i64 pg, .int .i64 sl]] w fun e w' => e = .returned (.bool true) /\ Below w.heap.size w w')) :
  Calls Tryz.prog 3 #[.agg #[.int .i64 (H.t : Int), .int .i64 (H.p : Int), .int .i64 (H.s : Int)], .slice (some ad) n c, .agg #[.slice (some ad2) H.t c2, .int .i64 (i0 : Int), .int .i64 k0, .int .i64 pg, .int .i64 sl]] W (Keeps W) := by
 have hn : n <= 6238 := by have := HV.nums; omega
 have hcm : c <= maxLen := HV.max
 have hcm2 : c <= 9223372036854775807 := hcm
 have hc3 : c2 <= 9223372036854775807 := by unfold maxLen at hc2; omega
 have hn40 : n < 2 ^ 40 := by omega
 have hq10 : (H.p : Int) <= 1024 := by omega
 have HNI : Hid (∀ w, Below W.heap.size W w -> (w.cell? (ad2.add (i0 * 9)) = some (U i0 0).v /\ w.cell? ⟨(ad2.add (i0 * 9)).block, (ad2.add (i0 * 9)).off + 1, none⟩ = some (U i0 1).v /\ w.cell? ⟨(ad2.add (i0 * 9)).block, (ad2.add (i0 * 9)).off + 2, none⟩ = some (U i0 2).v /\ w.cell? ⟨(ad2.add (i0 * 9)).block, (ad2.add (i0 * 9)).off + 3, none⟩ = some (U i0 3).v /\ w.cell? ⟨(ad2.add (i0 * 9)).block, (ad2.add (i0 * 9)).off + 4, none⟩ = some (U i0 4).v /\ w.cell? ⟨(ad2.add (i0 * 9)).block, (ad2.add (i0 * 9)).off + 5, none⟩ = some (U i0 5).v /\ w.cell? ⟨(ad2.add (i0 * 9)).block, (ad2.add (i0 * 9)).off + 6, none⟩ = some (U i0 6).v /\ w.cell? ⟨(ad2.add (i0 * 9)).block, (ad2.add (i0 * 9)).off + 7, none⟩ = some (U i0 7).v /\ w.cell? ⟨(ad2.add (i0 * 9)).block, (ad2.add (i0 * 9)).off + 8, none⟩ = some (U i0 8).v)) := hidp (fun w hb => (HP.out.below hb).nine hi0)
 have HPU : Hid (∀ w, Below W.heap.size W w -> PkV w (U i0) (Z i0)) := hidp (fun w hb => (HP.out.below hb).pk hi0)
 have HPW : Hid (∀ i, PB (U i0) (Z i0) i -> i < W.heap.size) := hidp (fun i hi => hi.lt (HP.out.pk hi0))
 have HOK := hidp hok
 obtain ⟨av, hav⟩ : ∃ av, alV (allocI n (wholeV15 vals) H.t H.p H.s k0 (Z i0 k0.toNat) freshS).1 = av := ⟨_, rfl⟩
 obtain ⟨bv, hbv⟩ : ∃ bv, (allocI n (wholeV15 vals) H.t H.p H.s k0 (Z i0 k0.toNat) freshS).1.isSome = bv := ⟨_, rfl⟩
 obtain ⟨Y, hY⟩ : ∃ Y, alZ (allocI n (wholeV15 vals) H.t H.p H.s k0 (Z i0 k0.toNat) freshS).1 (Z i0) k0 = Y := ⟨_, rfl⟩
 obtain ⟨sx, hsx⟩ : ∃ sx, (allocI n (wholeV15 vals) H.t H.p H.s k0 (Z i0 k0.toNat) freshS).2 = sx := ⟨_, rfl⟩
 have HAV := hidp hav
 have HBV := hidp hbv
 have HYY := hidp hY
 have HSX := hidp hsx
 clear hav hbv hY hsx hok
 have hpp : (av == av) = true := by simp
 have hbb : (bv == bv) = true := by simp
 have HC := hidp ((Held.new W 23 #[.int .i64 (H.t : Int), .int .i64 (H.p : Int), .int .i64 (H.s : Int)]).alloc (.cells #[.slice (some ad2) H.t c2, .int .i64 (i0 : Int), .int .i64 k0, .int .i64 pg, .int .i64 sl] 27))
 have HX := hidp (Held.new2 W (.cells #[.int .i64 (H.t : Int), .int .i64 (H.p : Int), .int .i64 (H.s : Int)] 23) 27 #[.slice (some ad2) H.t c2, .int .i64 (i0 : Int), .int .i64 k0, .int .i64 pg, .int .i64 sl])
 have HB := hidp (Bnew (Bnew (B0 W) (.cells #[.int .i64 (H.t : Int), .int .i64 (H.p : Int), .int .i64 (H.s : Int)] 23)) (.cells #[.slice (some ad2) H.t c2, .int .i64 (i0 : Int), .int .i64 k0, .int .i64 pg, .int .i64 sl] 27))
 have HTL := hidp hT
 clear hT
 obtain ⟨x0', x1', x2'⟩ := HC.out.three
 obtain ⟨y0', y1', y2', y3', y4'⟩ := HX.out.five'
 go_enter Tryz.func3, Tryz.ntmps3
 go_wp2_with fail
 refine (HF.out _ HB.out).mono ?_
 rintro e w2 ⟨rfl, hb⟩
 replace HC := hidp (HC.out.keep hb)
 replace HX := hidp (HX.out.keep hb)
 replace HB := hidp (Bgo HB.out hb)
 clear hb
 clear x0' x1' x2' y0' y1' y2' y3' y4'
 obtain ⟨x0', x1', x2'⟩ := HC.out.three
 obtain ⟨y0', y1', y2', y3', y4'⟩ := HX.out.five'
 have HXL : Hid (W.heap.size + 1 < w2.heap.size) := hidp HX.out.lt
 have HWS : Hid (W.heap.size <= w2.heap.size) := hidp HB.out.size
 have HR1 : Hid (Reads w2 w2.heap.size 1 (some ad) n (valVs vals)) := hidp ((HR.out.below HB.out).more HB.out.size)
 go_wp2_with fail
 refine (Whole_c (some ad) c vals n HNN.out (by omega) H32.out _ (by
  intro h0
  obtain ⟨ad', e, _, hc⟩ := HR1.out.2 h0
  exact ⟨ad', e, hc⟩)).mono ?_
 rintro e w3 ⟨b1, o1, rfl, hI, hB⟩
 have HV2 : Hid (IsView w3 w2.heap.size b1 n true o1 (wholeV15 vals) freshS) := hidp hI
 replace HB := hidp (Bgo HB.out hB)
 have HR2 : Hid (Reads w3 w3.heap.size 1 (some ad) n (valVs vals)) := hidp ((HR1.out.below hB).more hB.size)
 replace HC := hidp (HC.out.keep hB)
 replace HX := hidp (HX.out.keep hB)
 have HWZ : Hid (W.heap.size <= w2.heap.size) := hidp HWS.out
 clear hI hB HR1
 clear x0' x1' x2' y0' y1' y2' y3' y4'
 obtain ⟨x0', x1', x2'⟩ := HC.out.three
 obtain ⟨y0', y1', y2', y3', y4'⟩ := HX.out.five'
 go_wp2_with fail
 refine (RWhole_c (some ad) c vals n HNN.out (by omega) hnc hcm H32.out _ HR2.out).mono ?_
 rintro e w4 ⟨b2, v2, rfl, hI, hB⟩
 have HV3 := hidp (HV2.out.keep hB)
 have HA3 : Hid (IsRefV w4 w3.heap.size b2 n true v2 (wholeV15 vals) freshS) := hidp hI
 replace HB := hidp (Bgo HB.out hB)
 replace HC := hidp (HC.out.keep hB)
 replace HX := hidp (HX.out.keep hB)
 have HL2 : Hid (∀ i, o1.A b1 i -> i < w3.heap.size) := hidp HV2.out.lt
 have HL9 : Hid (w2.heap.size <= w3.heap.size) := hidp (by have h1 := HV2.out.head.lt; have h2 := HV2.out.ge b1 (.inl (.inl (.inl rfl))); omega)
 clear hI hB HV2 HR2
 have HZC : Hid (W.heap.size + 1 < w2.heap.size) := hidp HXL.out
 generalize hz1 : w2.heap.size = z1 at *
 generalize hz2 : w3.heap.size = z2 at *
 have HD : Hid (Duo W (vOb z1 b1 n true (wholeV15 vals)) (rOb z2 b2 n true (wholeV15 vals)) (o1.A b1) (OwnF b2 6 v2) (fun i => i < z1) freshS freshS w4) := hidp ⟨⟨o1, HV3.out, rfl⟩, ⟨v2, HA3.out, rfl⟩, fun i hi hj => by have := HL2.out i hi; have := HA3.out.parts.ge i hj; omega, fun g hg => by
   have hl1 := HL9.out
   have hlt := HV3.out.head.lt
   have hge := HV3.out.ge b1 (.inl (.inl (.inl rfl)))
   exact ⟨by omega, fun x => by have := HV3.out.ge _ x; omega, fun x => by have := HA3.out.parts.ge _ x; omega⟩, fun i hi => by
   have := HWZ.out
   rcases hi with hi | hi
   ·have := HV3.out.ge _ hi; omega
   ·have := HA3.out.parts.ge _ hi; have := HL9.out; omega, HB.out⟩
 clear HV3 HA3 HL2 HL9 HWZ hz1 hz2 HB
 clear x0' x1' x2' y0' y1' y2' y3' y4'
 obtain ⟨x0', x1', x2'⟩ := HC.out.three
 obtain ⟨y0', y1', y2', y3', y4'⟩ := HX.out.five'
 have HPZ : Hid (∀ i, PB (U i0) (Z i0) i -> i < z1) := hidp (fun i hi => by have := HPW.out i hi; have := HZC.out; omega)
 go_wp2_with fail
 go_cut [9, 10, 11] from 25 to 39 (fun u9 u10 u11 wx => ∃ (N1 : Nat) (V1 : Nat -> Sl) (A14 : Nat -> Prop), u9 = .int .i64 av /\ u10 = .pointer (some ⟨N1, 0, none⟩) /\ u11 = .bool bv /\ Duo W (vOb z1 b1 n true (wholeV15 vals)) (rOb z2 b2 n true (wholeV15 vals)) A14 (OwnF b2 6 v2) (fun i => ((i < z1) \/ PB V1 Y i) \/ i = N1) sx freshS wx /\ W.heap.size + 1 < N1 /\ Held wx N1 36 (pkC V1) /\ PkV wx V1 Y /\ Held wx W.heap.size 23 #[.int .i64 (H.t : Int), .int .i64 (H.p : Int), .int .i64 (H.s : Int)] /\ Held wx (W.heap.size + 1) 27 #[.slice (some ad2) H.t c2, .int .i64 (i0 : Int), .int .i64 k0, .int .i64 pg, .int .i64 sl])
 case first =>
  clear x0' x1' x2' y0' y1' y2' y3' y4'
  replace HD := hidp (HD.out.keep (Bdrew (B0 _)))
  replace HC := hidp (HC.out.keep (Bdrew (B0 _)))
  replace HX := hidp (HX.out.keep (Bdrew (B0 _)))
  refine wp_region_held_drew (S := (fun w' => (w'.cell? ⟨W.heap.size, 0, none⟩ = some (.int .i64 (H.t : Int)) /\ w'.cell? ⟨W.heap.size, 1, none⟩ = some (.int .i64 (H.p : Int)) /\ w'.cell? ⟨W.heap.size, 2, none⟩ = some (.int .i64 (H.s : Int))) /\ (w'.cell? ⟨W.heap.size + 1, 0, none⟩ = some (.slice (some ad2) H.t c2) /\ w'.cell? ⟨W.heap.size + 1, 1, none⟩ = some (.int .i64 (i0 : Int)) /\ w'.cell? ⟨W.heap.size + 1, 2, none⟩ = some (.int .i64 k0) /\ w'.cell? ⟨W.heap.size + 1, 3, none⟩ = some (.int .i64 pg) /\ w'.cell? ⟨W.heap.size + 1, 4, none⟩ = some (.int .i64 sl)) /\ (w'.cell? (ad2.add (i0 * 9)) = some (U i0 0).v /\ w'.cell? ⟨(ad2.add (i0 * 9)).block, (ad2.add (i0 * 9)).off + 1, none⟩ = some (U i0 1).v /\ w'.cell? ⟨(ad2.add (i0 * 9)).block, (ad2.add (i0 * 9)).off + 2, none⟩ = some (U i0 2).v /\ w'.cell? ⟨(ad2.add (i0 * 9)).block, (ad2.add (i0 * 9)).off + 3, none⟩ = some (U i0 3).v /\ w'.cell? ⟨(ad2.add (i0 * 9)).block, (ad2.add (i0 * 9)).off + 4, none⟩ = some (U i0 4).v /\ w'.cell? ⟨(ad2.add (i0 * 9)).block, (ad2.add (i0 * 9)).off + 5, none⟩ = some (U i0 5).v /\ w'.cell? ⟨(ad2.add (i0 * 9)).block, (ad2.add (i0 * 9)).off + 6, none⟩ = some (U i0 6).v /\ w'.cell? ⟨(ad2.add (i0 * 9)).block, (ad2.add (i0 * 9)).off + 7, none⟩ = some (U i0 7).v /\ w'.cell? ⟨(ad2.add (i0 * 9)).block, (ad2.add (i0 * 9)).off + 8, none⟩ = some (U i0 8).v))) (by kernel_rfl) ?_ (fun hHeld => ?_)
  ·(try dsimp only)
   first | exact ⟨HC.out.three, HX.out.five', HNI.out _ HD.out.bel⟩ | exact hHeld
  generalize hwd : World.drew w4 = w14 at *
  clear hwd
  refine tkz 0 ?_
  refine tkz 1 ?_
  refine tkz 2 ?_
  refine tkz 3 ?_
  refine tkz 4 ?_
  refine tkz 5 ?_
  refine tkz 6 ?_
  refine tkz 7 ?_
  refine tkz 8 ?_
  refine tkz 9 ?_
  refine wpAnyH_ready (rs := [10, 15]) (by kernel_rfl) (by simp) ?_
  refine AllReadyH.cons (o := _) rfl (fun K hK => ?_) (AllReadyH.cons (o := _) rfl (fun K hK => ?_) AllReadyH.nil)
  ·skip
   go_simp
   refine (smAlloc_c hn40 hq10 k0 hk0 hk1 HOK.out (HD.out.slots HTL.out).1 (HD.out.slots HTL.out).2.1 (HPU.out _ HD.out.bel) (fun i hi ha => (HD.out.aG i (HPZ.out i hi)).2.1 ha) HD.out.i1).mono ?_
   rintro e w15 ⟨V1, rfl, hl, _⟩
   rw [HAV.out, HBV.out]
   rw [HYY.out, HSX.out] at hl
   obtain ⟨A14, h2, hpv, h3⟩ := HD.out.pkt1 (HPU.out _ HD.out.bel) (fun i hi => HPZ.out i hi) hl
   have HNB : Hid (∀ i, W.heap.size <= i -> PB V1 Y i -> w14.heap.size <= i) := hidp (fun i h4 hi => by
    rcases hl.old i hi with h5 | h5
    ·have := HPW.out i h5; omega
    ·exact h5)
   replace HC := hidp (h3.held (by have := HZC.out; omega) HC.out)
   replace HX := hidp (h3.held (HZC.out) HX.out)
   replace HD := hidp h2
   have HP1 := hidp hpv
   clear h2 h3 hpv hl
   refine hK.out _ _ ?_ (fun hHeld => ?_)
   ·(try dsimp only)
    first | exact ⟨HC.out.three, HX.out.five', HNI.out _ HD.out.bel⟩ | exact hHeld
   clear hK K
   (try simp only [Act.put, gA, gB, gC, sA, sB, sC])
   refine tkz 11 ?_
   refine tkz 12 ?_
   refine tkz 13 ?_
   refine tkz 14 ?_
   refine rdz 15 fun K hK => ?_
   go_simp
   have hb := Bnew (B0 w15) (.cells #[.slice none 0 0, .slice none 0 0, .slice none 0 0, .slice none 0 0, .slice none 0 0, .slice none 0 0, .slice none 0 0, .slice none 0 0, .slice none 0 0] 36)
   have HN1 : Hid (Held (w15.alloc (.cells #[.slice none 0 0, .slice none 0 0, .slice none 0 0, .slice none 0 0, .slice none 0 0, .slice none 0 0, .slice none 0 0, .slice none 0 0, .slice none 0 0] 36)) w15.heap.size 36 (pkC zeroU)) := hidp (Held.new w15 36 #[.slice none 0 0, .slice none 0 0, .slice none 0 0, .slice none 0 0, .slice none 0 0, .slice none 0 0, .slice none 0 0, .slice none 0 0, .slice none 0 0])
   have HGL : Hid (∀ i, (((i < z1) \/ PB V1 Y i) : Prop) -> i < w15.heap.size) := hidp (fun i hi => (HD.out.aG i hi).1)
   have HGW : Hid (W.heap.size <= w15.heap.size) := hidp HD.out.bel.size
   have HGX : Hid (W.heap.size + 1 < w15.heap.size) := hidp HX.out.lt
   skip
   replace HD := hidp (HD.out.keep2 (G' := fun i => ((i < z1) \/ PB V1 Y i) \/ i = w15.heap.size) hb (fun i x => by
    rcases x with x | x
    ·exact .inl x
    ·right; subst x; simp))
   replace HC := hidp (HC.out.keep hb)
   replace HX := hidp (HX.out.keep hb)
   replace HP1 := hidp (HP1.out.below hb)
   have HNN2 : Hid (¬ PB V1 Y w15.heap.size) := hidp (fun x => by have := HGL.out _ (.inr x); omega)
   generalize hnp : w15.heap.size = N1 at *
   generalize hwn : w15.alloc (.cells #[.slice none 0 0, .slice none 0 0, .slice none 0 0, .slice none 0 0, .slice none 0 0, .slice none 0 0, .slice none 0 0, .slice none 0 0, .slice none 0 0] 36) = w17 at *
   clear hb hnp hwn
   refine hK.out _ _ ?_ (fun hHeld => ?_)
   ·(try dsimp only)
    first | exact ⟨HC.out.three, HX.out.five', HNI.out _ HD.out.bel⟩ | exact hHeld
   clear hK K
   (try simp only [Act.put, gA, gB, gC, sA, sB, sC])
   refine tkz 16 ?_
   refine rdz 17 fun K hK => ?_
   obtain ⟨z0, z1, z2, z3, z4, z5, z6, z7, z8⟩ := HN1.out.nineP
   obtain ⟨f0, f1, f2, f3, f4, f5, f6, f7, f8⟩ := HN1.out.thawP
   go_simp
   obtain ⟨WF, hWF⟩ : ∃ WF, setP w17 N1 V1 = WF := ⟨_, rfl⟩
   replace HD := hidp (HD.out.putP (.inr rfl) HGW.out V1)
   replace HP1 := hidp (HP1.out.putP HNN2.out V1)
   replace HC := hidp (HC.out.farP (fun e : W.heap.size = N1 => by have := HGL.out W.heap.size (.inl (by have := HZC.out; omega)); omega) V1)
   replace HX := hidp (HX.out.farP (fun e : (W.heap.size + 1) = N1 => by have := HGL.out (W.heap.size + 1) (.inl (HZC.out)); omega) V1)
   replace HN1 := hidp (Held.setP HN1.out V1)
   rw [hWF] at HD HP1 HN1 HC HX
   unfold setP at hWF
   rw [hWF]
   clear z0 z1 z2 z3 z4 z5 z6 z7 z8 f0 f1 f2 f3 f4 f5 f6 f7 f8 hWF HNN2
   refine hK.out _ _ ?_ (fun hHeld => ?_)
   ·(try dsimp only)
    first | exact ⟨HC.out.three, HX.out.five', HNI.out _ HD.out.bel⟩ | exact hHeld
   clear hK K
   (try simp only [Act.put, gA, gB, gC, sA, sB, sC])
   refine tkz 18 ?_
   refine dnz ?_
   go_wp2_with fail
   go_meet
   case rel => exact ⟨N1, V1, A14, rfl, rfl, rfl, HD.out, HGX.out, HN1.out, HP1.out, HC.out, HX.out⟩
  ·skip
   go_simp
   have hb := Bnew (B0 w14) (.cells #[.slice none 0 0, .slice none 0 0, .slice none 0 0, .slice none 0 0, .slice none 0 0, .slice none 0 0, .slice none 0 0, .slice none 0 0, .slice none 0 0] 36)
   have HN1 : Hid (Held (w14.alloc (.cells #[.slice none 0 0, .slice none 0 0, .slice none 0 0, .slice none 0 0, .slice none 0 0, .slice none 0 0, .slice none 0 0, .slice none 0 0, .slice none 0 0] 36)) w14.heap.size 36 (pkC zeroU)) := hidp (Held.new w14 36 #[.slice none 0 0, .slice none 0 0, .slice none 0 0, .slice none 0 0, .slice none 0 0, .slice none 0 0, .slice none 0 0, .slice none 0 0, .slice none 0 0])
   have HGL : Hid (∀ i, ((i < z1) : Prop) -> i < w14.heap.size) := hidp (fun i hi => (HD.out.aG i hi).1)
   have HGW : Hid (W.heap.size <= w14.heap.size) := hidp HD.out.bel.size
   have HGX : Hid (W.heap.size + 1 < w14.heap.size) := hidp HX.out.lt
   skip
   replace HD := hidp (HD.out.keep2 (G' := fun i => (i < z1) \/ i = w14.heap.size) hb (fun i x => by
    rcases x with x | x
    ·exact .inl x
    ·right; subst x; simp))
   replace HC := hidp (HC.out.keep hb)
   replace HX := hidp (HX.out.keep hb)
   generalize hnp : w14.heap.size = N1 at *
   generalize hwn : w14.alloc (.cells #[.slice none 0 0, .slice none 0 0, .slice none 0 0, .slice none 0 0, .slice none 0 0, .slice none 0 0, .slice none 0 0, .slice none 0 0, .slice none 0 0] 36) = w17 at *
   have HNL : Hid (N1 < w17.heap.size) := hidp HN1.out.lt
   clear hb hnp hwn
   refine hK.out _ _ ?_ (fun hHeld => ?_)
   ·(try dsimp only)
    first | exact ⟨HC.out.three, HX.out.five', HNI.out _ HD.out.bel⟩ | exact hHeld
   clear hK K
   (try simp only [Act.put, gA, gB, gC, sA, sB, sC])
   refine rdz 10 fun K hK => ?_
   go_simp
   refine (smAlloc_c hn40 hq10 k0 hk0 hk1 HOK.out (HD.out.slots HTL.out).1 (HD.out.slots HTL.out).2.1 (HPU.out _ HD.out.bel) (fun i hi ha => (HD.out.aG i (.inl (HPZ.out i hi))).2.1 ha) HD.out.i1).mono ?_
   rintro e w15 ⟨V1, rfl, hl, _⟩
   rw [HAV.out, HBV.out]
   rw [HYY.out, HSX.out] at hl
   obtain ⟨A14, h2, hpv, h3⟩ := HD.out.pkt1 (HPU.out _ HD.out.bel) (fun i hi => .inl (HPZ.out i hi)) hl
   have HNB : Hid (∀ i, W.heap.size <= i -> PB V1 Y i -> w17.heap.size <= i) := hidp (fun i h4 hi => by
    rcases hl.old i hi with h5 | h5
    ·have := HPW.out i h5; omega
    ·exact h5)
   replace HC := hidp (h3.held (.inl (by have := HZC.out; omega)) HC.out)
   replace HX := hidp (h3.held (.inl (HZC.out)) HX.out)
   replace HN1 := hidp (h3.held (.inr rfl) HN1.out)
   replace HD := hidp h2
   have HP1 := hidp hpv
   clear h2 h3 hpv hl
   refine hK.out _ _ ?_ (fun hHeld => ?_)
   ·(try dsimp only)
    first | exact ⟨HC.out.three, HX.out.five', HNI.out _ HD.out.bel⟩ | exact hHeld
   clear hK K
   (try simp only [Act.put, gA, gB, gC, sA, sB, sC])
   refine tkz 11 ?_
   refine tkz 12 ?_
   refine tkz 13 ?_
   refine tkz 14 ?_
   refine tkz 16 ?_
   refine rdz 17 fun K hK => ?_
   have HNN2 : Hid (¬ PB V1 Y N1) := hidp (fun x => by have h4 := HNB.out _ HGW.out x; have := HNL.out; omega)
   obtain ⟨z0, z1, z2, z3, z4, z5, z6, z7, z8⟩ := HN1.out.nineP
   obtain ⟨f0, f1, f2, f3, f4, f5, f6, f7, f8⟩ := HN1.out.thawP
   go_simp
   obtain ⟨WF, hWF⟩ : ∃ WF, setP w15 N1 V1 = WF := ⟨_, rfl⟩
   replace HD := hidp (HD.out.putP (.inl (.inr rfl)) HGW.out V1)
   replace HP1 := hidp (HP1.out.putP HNN2.out V1)
   replace HC := hidp (HC.out.farP (fun e : W.heap.size = N1 => by have := HGL.out W.heap.size (by have := HZC.out; omega); omega) V1)
   replace HX := hidp (HX.out.farP (fun e : (W.heap.size + 1) = N1 => by have := HGL.out (W.heap.size + 1) (HZC.out); omega) V1)
   replace HN1 := hidp (Held.setP HN1.out V1)
   rw [hWF] at HD HP1 HN1 HC HX
   unfold setP at hWF
   rw [hWF]
   clear z0 z1 z2 z3 z4 z5 z6 z7 z8 f0 f1 f2 f3 f4 f5 f6 f7 f8 hWF HNN2
   refine hK.out _ _ ?_ (fun hHeld => ?_)
   ·(try dsimp only)
    first | exact ⟨HC.out.three, HX.out.five', HNI.out _ HD.out.bel⟩ | exact hHeld
   clear hK K
   (try simp only [Act.put, gA, gB, gC, sA, sB, sC])
   refine tkz 18 ?_
   refine dnz ?_
   replace HD := hidp (HD.out.less (G' := fun i => ((i < z1) \/ PB V1 Y i) \/ i = N1) (fun i x => by
    rcases x with (x | x) | x
    ·exact .inl (.inl x)
    ·exact .inr x
    ·exact .inl (.inr x)))
   go_wp2_with fail
   go_meet
   case rel => exact ⟨N1, V1, A14, rfl, rfl, rfl, HD.out, HGX.out, HN1.out, HP1.out, HC.out, HX.out⟩
 case rest =>
  clear HC HX HD
  obtain ⟨N1, V1, A14, rfl, rfl, rfl, hd, hgx1, hn, hp, hc, hx⟩ := hcut
  have HD := hidp hd
  have HN1 := hidp hn
  have HP1 := hidp hp
  have HC := hidp hc
  have HX := hidp hx
  have HP1L : Hid (∀ i, PB V1 Y i -> i < wc.heap.size) := hidp (fun i hi => hi.lt hp)
  clear hd hn hp hc hx
  obtain ⟨x0', x1', x2'⟩ := HC.out.three
  obtain ⟨y0', y1', y2', y3', y4'⟩ := HX.out.five'
  go_wp2_with fail
  go_cut [12, 13, 14] from 40 to 54 (fun u12 u13 u14 wy => ∃ (N2 : Nat) (V2 : Nat -> Sl) (A24 : Nat -> Prop), u12 = .int .i64 av /\ u13 = .pointer (some ⟨N2, 0, none⟩) /\ u14 = .bool bv /\ Duo W (vOb z1 b1 n true (wholeV15 vals)) (rOb z2 b2 n true (wholeV15 vals)) A14 A24 (fun i => (((i < z1 \/ PB V1 Y i) \/ i = N1) \/ PB V2 Y i) \/ i = N2) sx sx wy /\ W.heap.size + 1 < N2 /\ N1 < N2 /\ Held wy N2 36 (pkC V2) /\ PkV wy V2 Y /\ Held wy N1 36 (pkC V1) /\ PkV wy V1 Y /\ Held wy W.heap.size 23 #[.int .i64 (H.t : Int), .int .i64 (H.p : Int), .int .i64 (H.s : Int)] /\ Held wy (W.heap.size + 1) 27 #[.slice (some ad2) H.t c2, .int .i64 (i0 : Int), .int .i64 k0, .int .i64 pg, .int .i64 sl])
  case first =>
   clear x0' x1' x2' y0' y1' y2' y3' y4'
   replace HD := hidp (HD.out.keep (Bdrew (B0 _)))
   replace HC := hidp (HC.out.keep (Bdrew (B0 _)))
   replace HX := hidp (HX.out.keep (Bdrew (B0 _)))
   replace HN1 := hidp (HN1.out.keep (Bdrew (B0 _)))
   replace HP1 := hidp (HP1.out.below (Bdrew (B0 _)))
   replace HP1L : Hid (∀ i, PB V1 Y i -> i < wc.drew.heap.size) := hidp HP1L.out
   refine wp_region_held_drew (S := (fun w' => (w'.cell? ⟨W.heap.size, 0, none⟩ = some (.int .i64 (H.t : Int)) /\ w'.cell? ⟨W.heap.size, 1, none⟩ = some (.int .i64 (H.p : Int)) /\ w'.cell? ⟨W.heap.size, 2, none⟩ = some (.int .i64 (H.s : Int))) /\ (w'.cell? ⟨W.heap.size + 1, 0, none⟩ = some (.slice (some ad2) H.t c2) /\ w'.cell? ⟨W.heap.size + 1, 1, none⟩ = some (.int .i64 (i0 : Int)) /\ w'.cell? ⟨W.heap.size + 1, 2, none⟩ = some (.int .i64 k0) /\ w'.cell? ⟨W.heap.size + 1, 3, none⟩ = some (.int .i64 pg) /\ w'.cell? ⟨W.heap.size + 1, 4, none⟩ = some (.int .i64 sl)) /\ (w'.cell? (ad2.add (i0 * 9)) = some (U i0 0).v /\ w'.cell? ⟨(ad2.add (i0 * 9)).block, (ad2.add (i0 * 9)).off + 1, none⟩ = some (U i0 1).v /\ w'.cell? ⟨(ad2.add (i0 * 9)).block, (ad2.add (i0 * 9)).off + 2, none⟩ = some (U i0 2).v /\ w'.cell? ⟨(ad2.add (i0 * 9)).block, (ad2.add (i0 * 9)).off + 3, none⟩ = some (U i0 3).v /\ w'.cell? ⟨(ad2.add (i0 * 9)).block, (ad2.add (i0 * 9)).off + 4, none⟩ = some (U i0 4).v /\ w'.cell? ⟨(ad2.add (i0 * 9)).block, (ad2.add (i0 * 9)).off + 5, none⟩ = some (U i0 5).v /\ w'.cell? ⟨(ad2.add (i0 * 9)).block, (ad2.add (i0 * 9)).off + 6, none⟩ = some (U i0 6).v /\ w'.cell? ⟨(ad2.add (i0 * 9)).block, (ad2.add (i0 * 9)).off + 7, none⟩ = some (U i0 7).v /\ w'.cell? ⟨(ad2.add (i0 * 9)).block, (ad2.add (i0 * 9)).off + 8, none⟩ = some (U i0 8).v))) (by kernel_rfl) ?_ (fun hHeld => ?_)
   ·(try dsimp only)
    first | exact ⟨HC.out.three, HX.out.five', HNI.out _ HD.out.bel⟩ | exact hHeld
   generalize hwd : World.drew wc = w24 at *
   clear hwd
   refine tkz 0 ?_
   refine tkz 1 ?_
   refine tkz 2 ?_
   refine tkz 3 ?_
   refine tkz 4 ?_
   refine tkz 5 ?_
   refine tkz 6 ?_
   refine tkz 7 ?_
   refine tkz 8 ?_
   refine tkz 9 ?_
   refine wpAnyH_ready (rs := [10, 15]) (by kernel_rfl) (by simp) ?_
   refine AllReadyH.cons (o := _) rfl (fun K hK => ?_) (AllReadyH.cons (o := _) rfl (fun K hK => ?_) AllReadyH.nil)
   ·skip
    go_simp
    refine (r18Alloc_c hn40 hq10 k0 HOK.out (HPU.out _ HD.out.bel) (fun i hi ha => (HD.out.aG i (.inl (.inl (HPZ.out i hi)))).2.2 ha) HD.out.i2).mono ?_
    rintro e w25 ⟨V2, rfl, hl, _⟩
    rw [HAV.out, HBV.out]
    rw [HYY.out, HSX.out] at hl
    obtain ⟨A24, h2, hpv, h3⟩ := HD.out.pkt2 (HPU.out _ HD.out.bel) (fun i hi => .inl (.inl (HPZ.out i hi))) hl
    have HNB : Hid (∀ i, W.heap.size <= i -> PB V2 Y i -> w24.heap.size <= i) := hidp (fun i h4 hi => by
     rcases hl.old i hi with h5 | h5
     ·have := HPW.out i h5; omega
     ·exact h5)
    replace HC := hidp (h3.held (.inl (.inl (by have := HZC.out; omega))) HC.out)
    replace HX := hidp (h3.held (.inl (.inl (HZC.out))) HX.out)
    replace HN1 := hidp (h3.held (.inr rfl) HN1.out)
    replace HP1 := hidp (HP1.out.stay h3.1 (fun i hi => h3.2 i (.inl (.inr hi)) (HP1L.out i hi)))
    replace HP1L : Hid (∀ i, PB V1 Y i -> i < w25.heap.size) := hidp (fun i hi => Nat.lt_of_lt_of_le (HP1L.out i hi) h3.1)
    replace HD := hidp h2
    have HP2 := hidp hpv
    clear h2 h3 hpv hl
    refine hK.out _ _ ?_ (fun hHeld => ?_)
    ·(try dsimp only)
     first | exact ⟨HC.out.three, HX.out.five', HNI.out _ HD.out.bel⟩ | exact hHeld
    clear hK K
    (try simp only [Act.put, gA, gB, gC, sA, sB, sC])
    refine tkz 11 ?_
    refine tkz 12 ?_
    refine tkz 13 ?_
    refine tkz 14 ?_
    refine rdz 15 fun K hK => ?_
    go_simp
    have hb := Bnew (B0 w25) (.cells #[.slice none 0 0, .slice none 0 0, .slice none 0 0, .slice none 0 0, .slice none 0 0, .slice none 0 0, .slice none 0 0, .slice none 0 0, .slice none 0 0] 36)
    have HN2 : Hid (Held (w25.alloc (.cells #[.slice none 0 0, .slice none 0 0, .slice none 0 0, .slice none 0 0, .slice none 0 0, .slice none 0 0, .slice none 0 0, .slice none 0 0, .slice none 0 0] 36)) w25.heap.size 36 (pkC zeroU)) := hidp (Held.new w25 36 #[.slice none 0 0, .slice none 0 0, .slice none 0 0, .slice none 0 0, .slice none 0 0, .slice none 0 0, .slice none 0 0, .slice none 0 0, .slice none 0 0])
    have HGL : Hid (∀ i, ((((i < z1 \/ PB V1 Y i) \/ i = N1) \/ PB V2 Y i) : Prop) -> i < w25.heap.size) := hidp (fun i hi => (HD.out.aG i hi).1)
    have HGW : Hid (W.heap.size <= w25.heap.size) := hidp HD.out.bel.size
    have HGX : Hid (W.heap.size + 1 < w25.heap.size) := hidp HX.out.lt
    have HN12 : Hid (N1 < w25.heap.size) := hidp HN1.out.lt
    replace HD := hidp (HD.out.keep2 (G' := fun i => (((i < z1 \/ PB V1 Y i) \/ i = N1) \/ PB V2 Y i) \/ i = w25.heap.size) hb (fun i x => by
     rcases x with x | x
     ·exact .inl x
     ·right; subst x; simp))
    replace HC := hidp (HC.out.keep hb)
    replace HX := hidp (HX.out.keep hb)
    replace HN1 := hidp (HN1.out.keep hb)
    replace HP1 := hidp (HP1.out.below hb)
    replace HP1L : Hid (∀ i, PB V1 Y i -> i < (w25.alloc (.cells #[.slice none 0 0, .slice none 0 0, .slice none 0 0, .slice none 0 0, .slice none 0 0, .slice none 0 0, .slice none 0 0, .slice none 0 0, .slice none 0 0] 36)).heap.size) := hidp (fun i hi => Nat.lt_of_lt_of_le (HP1L.out i hi) hb.size)
    replace HP2 := hidp (HP2.out.below hb)
    have HNN2 : Hid (¬ PB V2 Y w25.heap.size) := hidp (fun x => by have := HGL.out _ (.inr x); omega)
    generalize hnp : w25.heap.size = N2 at *
    generalize hwn : w25.alloc (.cells #[.slice none 0 0, .slice none 0 0, .slice none 0 0, .slice none 0 0, .slice none 0 0, .slice none 0 0, .slice none 0 0, .slice none 0 0, .slice none 0 0] 36) = w27 at *
    clear hb hnp hwn
    refine hK.out _ _ ?_ (fun hHeld => ?_)
    ·(try dsimp only)
     first | exact ⟨HC.out.three, HX.out.five', HNI.out _ HD.out.bel⟩ | exact hHeld
    clear hK K
    (try simp only [Act.put, gA, gB, gC, sA, sB, sC])
    refine tkz 16 ?_
    refine rdz 17 fun K hK => ?_
    obtain ⟨z0, z1, z2, z3, z4, z5, z6, z7, z8⟩ := HN2.out.nineP
    obtain ⟨f0, f1, f2, f3, f4, f5, f6, f7, f8⟩ := HN2.out.thawP
    go_simp
    obtain ⟨WF, hWF⟩ : ∃ WF, setP w27 N2 V2 = WF := ⟨_, rfl⟩
    replace HD := hidp (HD.out.putP (.inr rfl) HGW.out V2)
    replace HP2 := hidp (HP2.out.putP HNN2.out V2)
    replace HC := hidp (HC.out.farP (fun e : W.heap.size = N2 => by have := HGL.out W.heap.size (.inl (.inl (.inl (by have := HZC.out; omega)))); omega) V2)
    replace HX := hidp (HX.out.farP (fun e : (W.heap.size + 1) = N2 => by have := HGL.out (W.heap.size + 1) (.inl (.inl (.inl (HZC.out)))); omega) V2)
    replace HN1 := hidp (HN1.out.farP (fun e : N1 = N2 => by have := HGL.out N1 (.inl (.inr rfl)); omega) V2)
    replace HP1 := hidp (HP1.out.putP (fun x : PB V1 Y N2 => by have := HGL.out _ (.inl (.inl (.inr x))); omega) V2)
    replace HP1L : Hid (∀ i, PB V1 Y i -> i < (setP w27 N2 V2).heap.size) := hidp (fun i hi => by rw [sizeP]; exact HP1L.out i hi)
    replace HN2 := hidp (Held.setP HN2.out V2)
    rw [hWF] at HD HP2 HN2 HC HX HN1 HP1 HP1L
    unfold setP at hWF
    rw [hWF]
    clear z0 z1 z2 z3 z4 z5 z6 z7 z8 f0 f1 f2 f3 f4 f5 f6 f7 f8 hWF HNN2
    refine hK.out _ _ ?_ (fun hHeld => ?_)
    ·(try dsimp only)
     first | exact ⟨HC.out.three, HX.out.five', HNI.out _ HD.out.bel⟩ | exact hHeld
    clear hK K
    (try simp only [Act.put, gA, gB, gC, sA, sB, sC])
    refine tkz 18 ?_
    refine dnz ?_
    go_wp2_with fail
    go_meet
    case rel => exact ⟨N2, V2, A24, rfl, rfl, rfl, HD.out, HGX.out, HN12.out, HN2.out, HP2.out, HN1.out, HP1.out, HC.out, HX.out⟩
   ·skip
    go_simp
    have hb := Bnew (B0 w24) (.cells #[.slice none 0 0, .slice none 0 0, .slice none 0 0, .slice none 0 0, .slice none 0 0, .slice none 0 0, .slice none 0 0, .slice none 0 0, .slice none 0 0] 36)
    have HN2 : Hid (Held (w24.alloc (.cells #[.slice none 0 0, .slice none 0 0, .slice none 0 0, .slice none 0 0, .slice none 0 0, .slice none 0 0, .slice none 0 0, .slice none 0 0, .slice none 0 0] 36)) w24.heap.size 36 (pkC zeroU)) := hidp (Held.new w24 36 #[.slice none 0 0, .slice none 0 0, .slice none 0 0, .slice none 0 0, .slice none 0 0, .slice none 0 0, .slice none 0 0, .slice none 0 0, .slice none 0 0])
    have HGL : Hid (∀ i, (((i < z1 \/ PB V1 Y i) \/ i = N1) : Prop) -> i < w24.heap.size) := hidp (fun i hi => (HD.out.aG i hi).1)
    have HGW : Hid (W.heap.size <= w24.heap.size) := hidp HD.out.bel.size
    have HGX : Hid (W.heap.size + 1 < w24.heap.size) := hidp HX.out.lt
    have HN12 : Hid (N1 < w24.heap.size) := hidp HN1.out.lt
    replace HD := hidp (HD.out.keep2 (G' := fun i => ((i < z1 \/ PB V1 Y i) \/ i = N1) \/ i = w24.heap.size) hb (fun i x => by
     rcases x with x | x
     ·exact .inl x
     ·right; subst x; simp))
    replace HC := hidp (HC.out.keep hb)
    replace HX := hidp (HX.out.keep hb)
    replace HN1 := hidp (HN1.out.keep hb)
    replace HP1 := hidp (HP1.out.below hb)
    replace HP1L : Hid (∀ i, PB V1 Y i -> i < (w24.alloc (.cells #[.slice none 0 0, .slice none 0 0, .slice none 0 0, .slice none 0 0, .slice none 0 0, .slice none 0 0, .slice none 0 0, .slice none 0 0, .slice none 0 0] 36)).heap.size) := hidp (fun i hi => Nat.lt_of_lt_of_le (HP1L.out i hi) hb.size)
    generalize hnp : w24.heap.size = N2 at *
    generalize hwn : w24.alloc (.cells #[.slice none 0 0, .slice none 0 0, .slice none 0 0, .slice none 0 0, .slice none 0 0, .slice none 0 0, .slice none 0 0, .slice none 0 0, .slice none 0 0] 36) = w27 at *
    have HNL : Hid (N2 < w27.heap.size) := hidp HN2.out.lt
    clear hb hnp hwn
    refine hK.out _ _ ?_ (fun hHeld => ?_)
    ·(try dsimp only)
     first | exact ⟨HC.out.three, HX.out.five', HNI.out _ HD.out.bel⟩ | exact hHeld
    clear hK K
    (try simp only [Act.put, gA, gB, gC, sA, sB, sC])
    refine rdz 10 fun K hK => ?_
    go_simp
    refine (r18Alloc_c hn40 hq10 k0 HOK.out (HPU.out _ HD.out.bel) (fun i hi ha => (HD.out.aG i (.inl (.inl (.inl (HPZ.out i hi))))).2.2 ha) HD.out.i2).mono ?_
    rintro e w25 ⟨V2, rfl, hl, _⟩
    rw [HAV.out, HBV.out]
    rw [HYY.out, HSX.out] at hl
    obtain ⟨A24, h2, hpv, h3⟩ := HD.out.pkt2 (HPU.out _ HD.out.bel) (fun i hi => .inl (.inl (.inl (HPZ.out i hi)))) hl
    have HNB : Hid (∀ i, W.heap.size <= i -> PB V2 Y i -> w27.heap.size <= i) := hidp (fun i h4 hi => by
     rcases hl.old i hi with h5 | h5
     ·have := HPW.out i h5; omega
     ·exact h5)
    replace HC := hidp (h3.held (.inl (.inl (.inl (by have := HZC.out; omega)))) HC.out)
    replace HX := hidp (h3.held (.inl (.inl (.inl (HZC.out)))) HX.out)
    replace HN1 := hidp (h3.held (.inl (.inr rfl)) HN1.out)
    replace HN2 := hidp (h3.held (.inr rfl) HN2.out)
    replace HP1 := hidp (HP1.out.stay h3.1 (fun i hi => h3.2 i (.inl (.inl (.inr hi))) (HP1L.out i hi)))
    replace HP1L : Hid (∀ i, PB V1 Y i -> i < w25.heap.size) := hidp (fun i hi => Nat.lt_of_lt_of_le (HP1L.out i hi) h3.1)
    replace HD := hidp h2
    have HP2 := hidp hpv
    clear h2 h3 hpv hl
    refine hK.out _ _ ?_ (fun hHeld => ?_)
    ·(try dsimp only)
     first | exact ⟨HC.out.three, HX.out.five', HNI.out _ HD.out.bel⟩ | exact hHeld
    clear hK K
    (try simp only [Act.put, gA, gB, gC, sA, sB, sC])
    refine tkz 11 ?_
    refine tkz 12 ?_
    refine tkz 13 ?_
    refine tkz 14 ?_
    refine tkz 16 ?_
    refine rdz 17 fun K hK => ?_
    have HNN2 : Hid (¬ PB V2 Y N2) := hidp (fun x => by have h4 := HNB.out _ HGW.out x; have := HNL.out; omega)
    obtain ⟨z0, z1, z2, z3, z4, z5, z6, z7, z8⟩ := HN2.out.nineP
    obtain ⟨f0, f1, f2, f3, f4, f5, f6, f7, f8⟩ := HN2.out.thawP
    go_simp
    obtain ⟨WF, hWF⟩ : ∃ WF, setP w25 N2 V2 = WF := ⟨_, rfl⟩
    replace HD := hidp (HD.out.putP (.inl (.inr rfl)) HGW.out V2)
    replace HP2 := hidp (HP2.out.putP HNN2.out V2)
    replace HC := hidp (HC.out.farP (fun e : W.heap.size = N2 => by have := HGL.out W.heap.size (.inl (.inl (by have := HZC.out; omega))); omega) V2)
    replace HX := hidp (HX.out.farP (fun e : (W.heap.size + 1) = N2 => by have := HGL.out (W.heap.size + 1) (.inl (.inl (HZC.out))); omega) V2)
    replace HN1 := hidp (HN1.out.farP (fun e : N1 = N2 => by have := HGL.out N1 (.inr rfl); omega) V2)
    replace HP1 := hidp (HP1.out.putP (fun x : PB V1 Y N2 => by have := HGL.out _ (.inl (.inr x)); omega) V2)
    replace HP1L : Hid (∀ i, PB V1 Y i -> i < (setP w25 N2 V2).heap.size) := hidp (fun i hi => by rw [sizeP]; exact HP1L.out i hi)
    replace HN2 := hidp (Held.setP HN2.out V2)
    rw [hWF] at HD HP2 HN2 HC HX HN1 HP1 HP1L
    unfold setP at hWF
    rw [hWF]
    clear z0 z1 z2 z3 z4 z5 z6 z7 z8 f0 f1 f2 f3 f4 f5 f6 f7 f8 hWF HNN2
    refine hK.out _ _ ?_ (fun hHeld => ?_)
    ·(try dsimp only)
     first | exact ⟨HC.out.three, HX.out.five', HNI.out _ HD.out.bel⟩ | exact hHeld
    clear hK K
    (try simp only [Act.put, gA, gB, gC, sA, sB, sC])
    refine tkz 18 ?_
    refine dnz ?_
    replace HD := hidp (HD.out.less (G' := fun i => (((i < z1 \/ PB V1 Y i) \/ i = N1) \/ PB V2 Y i) \/ i = N2) (fun i x => by
     rcases x with (x | x) | x
     ·exact .inl (.inl x)
     ·exact .inr x
     ·exact .inl (.inr x)))
    go_wp2_with fail
    go_meet
    case rel => exact ⟨N2, V2, A24, rfl, rfl, rfl, HD.out, HGX.out, HN12.out, HN2.out, HP2.out, HN1.out, HP1.out, HC.out, HX.out⟩
  case rest =>
   clear HC HX HD HN1 HP1 HP1L
   obtain ⟨N2, V2, A24, rfl, rfl, rfl, hd, hgx2, hn12, hn, hp, hn1, hp1, hc, hx⟩ := hcut
   have HD := hidp hd
   have HN2 := hidp hn
   have HP2 := hidp hp
   have HC := hidp hc
   have HX := hidp hx
   have HN1 := hidp hn1
   have HP1 := hidp hp1
   clear hn1 hp1
   clear hd hn hp hc hx
   obtain ⟨p0, p1, p2, p3, p4, p5, p6, p7, p8⟩ := HN1.out.nineP
   obtain ⟨q0, q1, q2, q3, q4, q5, q6, q7, q8⟩ := HN2.out.nineP
   go_wp2_with fail
   refine (rSame_c V1 V2 Y _ HP1.out HP2.out).mono ?_
   rintro e w7 ⟨rfl, hb⟩
   replace HD := hidp (HD.out.keep hb)
   clear hb p0 p1 p2 p3 p4 p5 p6 p7 p8 q0 q1 q2 q3 q4 q5 q6 q7 q8 HN1 HN2 HP1 HP2 HC HX
   obtain ⟨o, hI, _⟩ := HD.out.i1
   obtain ⟨v, hR, _⟩ := HD.out.i2
   have HV := hidp hI
   have HAA := hidp hR
   have HB := hidp HD.out.bel
   have HL : Hid (sx.rd.length < 2 ^ 40 /\ sx.wr.length < 2 ^ 40) := hidp (by have := hI.ok.few; omega)
   clear hI hR HD
   go_wp2_with fail
   refine (vReads_c HL.out.1 _ HV.out).mono ?_
   rintro e w90 ⟨r6, rfl, ho, hb⟩
   have HV := hidp (HV.out.keep hb)
   have HAA := hidp (HAA.out.keep hb)
   have HB := hidp (Bgo HB.out hb)
   have HR6 := hidp (rowV_nat6 ho)
   clear hb ho
   go_wp2_with fail
   refine (vWrites_c HL.out.2 _ HV.out).mono ?_
   rintro e w91 ⟨r7, rfl, ho, hb⟩
   have HV := hidp (HV.out.keep hb)
   have HAA := hidp (HAA.out.keep hb)
   have HB := hidp (Bgo HB.out hb)
   have HP7 := hidp (RowP.of_own ho)
   have HR7 := hidp (HR6.out.below hb)
   clear hb ho HR6
   go_wp2_with fail
   refine (vMissing_c _ HV.out).mono ?_
   rintro e w92 ⟨rfl, hw⟩
   subst hw
   go_wp2_with fail
   refine (Same_c HL.out.1 HL.out.2 r6 r7 _ HAA.out HR7.out HP7.out).mono ?_
   rintro e w93 ⟨rfl, hb⟩
   have HB := hidp (Bgo HB.out hb)
   clear hb HV HAA HR7 HP7
   go_wp2_with fail
   refine (live18_c _ (HTL.out.below HB.out)).mono ?_
   rintro e w19 ⟨rfl, hb⟩
   have HBL := hidp (Bgo HB.out hb)
   clear hb
   go_wp2
   go_ret
   exact ⟨rfl, HBL.out⟩

theorem SmallAllocs_calls (t q s : Int) (A : Option Addr) (c : Nat) (vals : List Nat) (hnc : vals.length <= c) (hcm : c <= maxLen) (h32 : ∀ x ∈ vals, x < 2 ^ 32) (A2 : Option Addr) (T c2 : Nat) (t0 k0 pg sl : Int) (hk0 : -9223372036854775808 <= k0) (hk1 : k0 <= 9223372036854775807) (U : Nat -> Nat -> Sl) (Z : Nat -> Nat -> List Int) (hTc : T <= c2) (hc2 : c2 <= maxLen) (W : World) (hT : SlotsLaid W) (HP : Hid (PksAt W A2 T U Z)) (HR : Hid (Reads W W.heap.size 1 A vals.length (valVs vals))) :
  Calls Tryz.prog 3 #[.agg #[.int .i64 t, .int .i64 q, .int .i64 s], .slice A vals.length c, .agg #[.slice A2 T c2, .int .i64 t0, .int .i64 k0, .int .i64 pg, .int .i64 sl]] W (Keeps W) := by
 rcases fit_or t q s A c vals hnc hcm h32 A2 T c2 t0 k0 pg sl U Z hTc hc2 W HP.out HR.out with h | ⟨H, ad, m, i0, L, rfl, rfl, rfl, rfl, rfl, rfl, hi0, hq, hV, HV, hv, hr, hok, hX, F, hF⟩
 ·exact SmallAllocs_no t q s A _ c A2 T c2 t0 k0 pg sl W hT (hidp h)
 ·obtain ⟨ad2, rfl, _⟩ := HP.out i0 hi0
  have hK : ∀ i, i < vals.length -> wholeV15 vals i = some (H.V i) := fun i hi => by
   unfold wholeV15
   rw [hV i, List.getElem?_eq_getElem hi]
   simp [List.getD, List.getElem?_eq_getElem hi]
  exact SmallAllocs_main ad _ c HV vals (hidp rfl) (hidp h32) hnc ad2 c2 hTc hc2 i0 hi0 k0 pg sl hk0 hk1 U Z hq (fun hk => by
   obtain ⟨k, rfl⟩ := Int.eq_ofNat_of_zero_le hk.1
   exact al_ok HV F hi0 (by omega)) W hT HR HP (hidp hF)
end
end Go.Proofs.YtjjfcaliippgpaaGreatDoor
