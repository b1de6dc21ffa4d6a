/-
  The document's parts of a heap. Written by doc12/gen_docparts.py.
-/
import Derived.Test.YtjjfcaliippgpaaGreatDoorU13
import Derived.Deep.AppendLies
import Derived.Test.YtjjfcaliippgpaaGreatDoorU07
import Derived.Test.YtjjfcaliippgpaaGreatDoorU08
namespace Go.Proofs.YtjjfcaliippgpaaGreatDoor
open Go.ChangeShapes Go.WideShapes Go.ChangeAt Go.RowKit Go.Shelf
set_option linter.unusedVariables false
set_option linter.unusedSimpArgs false
section
theorem ptVs_ints (l : List (Int × Int × Int)) : ∀ u ∈ ptVs l, u.oneCell' = true := fun u hu => by
 unfold ptVs at hu
 obtain ⟨x, _, hx⟩ := List.mem_flatMap.1 hu
 simp at hx
 rcases hx with rfl | rfl | rfl <;> rfl
set_option maxHeartbeats 6400000 in
set_option maxRecDepth 100000 in
theorem xParts_c {H : AuH} {n c : Nat} (HV : HeapV H n c) (ad : Addr) (w : World) (hv : IsVals w ad n H.V) :
    Calls Tryz.prog 108 #[hpV H ad n c] w fun e w' => ∃ u, e = .returned u /\ w'.ownsRow w.heap.size 128 3 u H.parts.length (ptVs H.parts) /\ Below w.heap.size w w' := by
  have HVL := hidp hv
  have hg := pg_le HV
  have hn := HV.nums
  have hcx : c <= 9223372036854775807 := hn.2.2.2.2.2.2.2.2
  have hni : n <= 6238 := hn.2.2.2.2.2.2.1
  have hnc := HV.cap
  have hp1 := hn.2.2.2.1
  obtain ⟨j0, hjn, hjz0, hjz1, hjz2⟩ := info_parts partInfo
  have HX0 := hidp ((Held.new w 114 #[.int .i64 (H.t : Int), .int .i64 (H.p : Int), .int .i64 (H.s : Int), .slice (some ad) n c]).alloc (.cells #[] 128))
  obtain ⟨c0, c1, c2, c3⟩ := HX0.out.four
  have HBW := hidp (Bnew (Bnew (B0 w) (.cells #[.int .i64 (H.t : Int), .int .i64 (H.p : Int), .int .i64 (H.s : Int), .slice (some ad) n c] 114)) (.cells #[] 128))
  have HOW : Hid (((w.alloc (.cells #[.int .i64 (H.t : Int), .int .i64 (H.p : Int), .int .i64 (H.s : Int), .slice (some ad) n c] 114)).alloc (.cells #[] 128)).ownsRow (w.heap.size + 1) 128 3 (.slice (some ⟨(w.alloc (.cells #[.int .i64 (H.t : Int), .int .i64 (H.p : Int), .int .i64 (H.s : Int), .slice (some ad) n c] 114)).heap.size, 0, none⟩) 0 0) 0 []) := hidp (World.ownsRow_lit (base := (w.heap.size + 1)) (e := 128) (size := 3) (w.alloc (.cells #[.int .i64 (H.t : Int), .int .i64 (H.p : Int), .int .i64 (H.s : Int), .slice (some ad) n c] 114)) #[] 0 (by simp) (by unfold maxLen; omega) rfl)
  rw [World.size_alloc] at HOW
  have HPG0 : Hid (∀ W : World, Calls Tryz.prog 71 #[(.agg #[.int .i64 (H.t : Int), .int .i64 (H.p : Int), .int .i64 (H.s : Int)])] W fun e w' => e = .returned (.int .i64 ((H.pg : Nat) : Int)) /\ Below W.heap.size W w') := hidp (fun W => by have h := r4Page_c H.t H.p H.s W; rwa [hg.2.2.2] at h)
  have hgb := hg.2.1
  clear hv hn hg
  unfold hpV
  go_enter Tryz.func108, Tryz.ntmps108
  go_wp2_with fail
  generalize (w.alloc (.cells #[.int .i64 (H.t : Int), .int .i64 (H.p : Int), .int .i64 (H.s : Int), .slice (some ad) n c] 114)).alloc (.cells #[] 128) = W0 at *
  clear c0 c1 c2 c3
  go_loopw [3, 4] (fun u3 u4 wr => ∃ (p nl : Nat) (l : List (Int × Int × Int)), p <= H.p /\ u4 = .int .i64 (p : Int) /\ nl <= p * 33 /\ Hid (AuH.catTo H.partsAt p = l) /\ Hid (l.length = nl) /\ Hid (wr.ownsRow (w.heap.size + 1) 128 3 u3 nl (ptVs l)) /\ Hid (Held wr w.heap.size 114 #[.int .i64 (H.t : Int), .int .i64 (H.p : Int), .int .i64 (H.s : Int), .slice (some ad) n c]) /\ Hid (Below w.heap.size w wr)) (fun _ u4 _ => H.p - (intOf u4).toNat)
  case atStart => exact ⟨0, 0, [], by omega, rfl, by omega, hidp rfl, hidp rfl, HOW, HX0, HBW⟩
  case round =>
    clear HX0 HBW HOW
    obtain ⟨p, nl, l, hp, rfl, hnl, HCT, HLN, HO, HX, HB⟩ := hrel
    obtain ⟨c0, c1, c2, c3⟩ := HX.out.four
    by_cases hlt : p < H.p
    · have t0 : decide ((p : Int) < H.p) = true := decide_eq_true (by omega)
      have hnl9 : nl <= 100000 := by omega
      have hf := first_eq HV hlt
      have HOF : Hid (∀ W : World, Calls Tryz.prog 93 #[(.agg #[.int .i64 (H.t : Int), .int .i64 (H.p : Int), .int .i64 (H.s : Int)]), .int .i64 (p : Int), .int .i64 0] W fun e w' => e = .returned (.tuple #[.int .i64 (H.first p), .bool true]) /\ Below W.heap.size W w') := hidp (fun W => by
        have h := r6Of_c H.t H.p H.s p 0 W
        rwa [hf.1, hf.2.1] at h)
      have hkc := H.K_cases p
      obtain ⟨kk, hkk⟩ : ∃ k, H.K p = k := ⟨_, rfl⟩
      obtain ⟨m, hmm⟩ : ∃ m, H.ln p = m := ⟨_, rfl⟩
      obtain ⟨cl, hcl⟩ : ∃ k, H.Cl p = k := ⟨_, rfl⟩
      have HK := hidp hkk
      have HM := hidp hmm
      have HCL := hidp hcl
      rw [hkk, hmm, hcl] at hkc
      obtain ⟨fp, hfp⟩ : ∃ x, H.first p = x := ⟨_, rfl⟩
      rw [hfp] at HOF
      obtain ⟨pg, hpg⟩ : ∃ x, H.pg = x := ⟨_, rfl⟩
      have HPG := hidp HPG0.out
      rw [hpg] at HPG hgb
      obtain ⟨zz, hzz⟩ : ∃ z : Int, (m : Int) * (pg : Int) = z := ⟨_, rfl⟩
      have hmz : m * pg <= 1024 * 1048576 := Nat.mul_le_mul (by omega) hgb
      have sw : IntKind.i64.wrap ((m : Int) * (pg : Int)) = zz := by
        rw [<- hzz]
        have hc : ((m * pg : Nat) : Int) = (m : Int) * (pg : Int) := by push_cast; rfl
        rw [<- hc]
        exact i64_same (by omega) (by omega)
      clear hf
      rcases (by omega : H.K p = 0 \/ H.K p = 1 \/ H.K p = 2 \/ H.K p = 3) with hk | hk | hk | hk
      · have HCT1 : Hid (AuH.catTo H.partsAt (p + 1) = l) := hidp (by
          rw [<- HCT.out]
          show AuH.catTo H.partsAt p ++ H.partsAt p = _
          rw [AuH.partsAt_no hk, List.append_nil])
        rw [hkk] at hk
        subst hk
        clear hkk hmm hcl hkc hfp hpg hzz hmz
        go_wp2_with (first
          | (go_at_call 149; refine (xInfo_c HV ad hlt _ (HVL.out.below HB.out)).mono ?_; rintro e w2 ⟨rfl, hb2⟩; rw [HK.out, HM.out, HCL.out]; have HGN : Hid (∀ g, u3.ownBlock = some g -> g < w2.heap.size) := hidp (fun g h => by have h1 := (HO.out.lt g h).2; have h2 := hb2.size; omega); have HB3 := hidp (Bnew (Bgo HB.out hb2) (.cells #[.int .i64 0, .int .i64 (m : Int), .int .i64 cl] 119)); have HX3 := hidp ((HX.out.keep hb2).alloc (.cells #[.int .i64 0, .int .i64 (m : Int), .int .i64 cl] 119)); have HO3 := hidp ((own_below HO.out hb2).alloc (.cells #[.int .i64 0, .int .i64 (m : Int), .int .i64 cl] 119)); have HI3 := hidp (Held.new w2 119 #[.int .i64 0, .int .i64 (m : Int), .int .i64 cl]); have HG2 := hidp (rfl : w2.heap.size = w2.heap.size); clear hb2 c0 c1 c2 c3; obtain ⟨c0, c1, c2, c3⟩ := HX3.out.four; obtain ⟨d0, d1, d2⟩ := HI3.out.three)
          | (go_at_call 93; refine (HOF.out _).mono ?_; rintro e w4 ⟨rfl, hb4⟩; have HB4 := hidp (Bgo HB3.out hb4); have HX4 := hidp (HX3.out.keep hb4); have HO4 := hidp (own_below HO3.out hb4); have HI4 := hidp (HI3.out.keep hb4); clear hb4 c0 c1 c2 c3 d0 d1 d2; obtain ⟨c0, c1, c2, c3⟩ := HX4.out.four; obtain ⟨d0, d1, d2⟩ := HI4.out.three)
          | fail)
        go_roundw
        case rel => exact ⟨p + 1, nl, l, by omega, by go_num, by omega, HCT1, HLN, HO4, HX4, HB4⟩
        case measure => simp [intOf]; omega
      · have HPA : Hid (H.partsAt p = [(1, fp, zz)]) := hidp (by rw [<- hfp, <- hzz, <- hmm, <- hpg]; unfold AuH.partsAt; rw [if_pos hk])
        have HCT1 : Hid (AuH.catTo H.partsAt (p + 1) = l ++ [(1, fp, zz)]) := hidp (by rw [<- HPA.out, <- HCT.out]; rfl)
        rw [hkk] at hk
        subst hk
        clear hkk hmm hcl hkc hfp hpg hzz hmz
        go_wp2_with (first
          | (go_at_call 149; refine (xInfo_c HV ad hlt _ (HVL.out.below HB.out)).mono ?_; rintro e w2 ⟨rfl, hb2⟩; rw [HK.out, HM.out, HCL.out]; have HGN : Hid (∀ g, u3.ownBlock = some g -> g < w2.heap.size) := hidp (fun g h => by have h1 := (HO.out.lt g h).2; have h2 := hb2.size; omega); have HB3 := hidp (Bnew (Bgo HB.out hb2) (.cells #[.int .i64 1, .int .i64 (m : Int), .int .i64 cl] 119)); have HX3 := hidp ((HX.out.keep hb2).alloc (.cells #[.int .i64 1, .int .i64 (m : Int), .int .i64 cl] 119)); have HO3 := hidp ((own_below HO.out hb2).alloc (.cells #[.int .i64 1, .int .i64 (m : Int), .int .i64 cl] 119)); have HI3 := hidp (Held.new w2 119 #[.int .i64 1, .int .i64 (m : Int), .int .i64 cl]); have HG2 := hidp (rfl : w2.heap.size = w2.heap.size); clear hb2 c0 c1 c2 c3; obtain ⟨c0, c1, c2, c3⟩ := HX3.out.four; obtain ⟨d0, d1, d2⟩ := HI3.out.three)
          | (go_at_call 93; refine (HOF.out _).mono ?_; rintro e w4 ⟨rfl, hb4⟩; have HB4 := hidp (Bgo HB3.out hb4); have HX4 := hidp (HX3.out.keep hb4); have HO4 := hidp (own_below HO3.out hb4); have HI4 := hidp (HI3.out.keep hb4); clear hb4 c0 c1 c2 c3 d0 d1 d2; obtain ⟨c0, c1, c2, c3⟩ := HX4.out.four; obtain ⟨d0, d1, d2⟩ := HI4.out.three)
          | fail)
        generalize hg2 : w2.heap.size = g2 at *
        have HSH : Hid (∀ w', Held w' w.heap.size 114 #[.int .i64 (H.t : Int), .int .i64 (H.p : Int), .int .i64 (H.s : Int), .slice (some ad) n c] -> Held w' g2 119 #[.int .i64 1, .int .i64 (m : Int), .int .i64 cl] -> (fun w' => w'.cell? ⟨w.heap.size, 0, none⟩ = some (.int .i64 (H.t : Int)) /\ w'.cell? ⟨w.heap.size, 1, none⟩ = some (.int .i64 (H.p : Int)) /\ w'.cell? ⟨w.heap.size, 2, none⟩ = some (.int .i64 (H.s : Int)) /\ w'.cell? ⟨w.heap.size, 3, none⟩ = some (.slice (some ad) n c) /\ w'.cell? ⟨g2, 0, none⟩ = some (.int .i64 1) /\ w'.cell? ⟨g2, 1, none⟩ = some (.int .i64 (m : Int))) w') := hidp (fun w' h1 h2 => ⟨h1.four.1, h1.four.2.1, h1.four.2.2.1, h1.four.2.2.2, h2.three.1, h2.three.2.1⟩)
        clear c2 c3 d2 HG2
        refine wp_region_held_drew (S := (fun w' => w'.cell? ⟨w.heap.size, 0, none⟩ = some (.int .i64 (H.t : Int)) /\ w'.cell? ⟨w.heap.size, 1, none⟩ = some (.int .i64 (H.p : Int)) /\ w'.cell? ⟨w.heap.size, 2, none⟩ = some (.int .i64 (H.s : Int)) /\ w'.cell? ⟨w.heap.size, 3, none⟩ = some (.slice (some ad) n c) /\ w'.cell? ⟨g2, 0, none⟩ = some (.int .i64 1) /\ w'.cell? ⟨g2, 1, none⟩ = some (.int .i64 (m : Int)))) (by kernel_rfl) ?_ (fun hHeld => ?_)
        · (try dsimp only)
          first | exact HSH.out _ HX4.out.drew HI4.out.drew | exact HSH.out _ HX5.out HI5.out | exact HSH.out _ (HX5.out.alloc _) (HI5.out.alloc _) | exact HSH.out _ HX8.out HI8.out | exact hHeld
        refine tkz 0 ?_
        refine tkz 1 ?_
        refine tkz 2 ?_
        refine tkz 3 ?_
        refine tkz 4 ?_
        refine tkz 5 ?_
        refine tkz 6 ?_
        refine tkz 7 ?_
        refine rdz 8 fun K hK => ?_
        go_simp
        (go_at_call 71; refine (HPG.out _).mono ?_; rintro e w5 ⟨rfl, hb5⟩; have HB5 := hidp (Bgo (Bdrew HB4.out) hb5); have HX5 := hidp (HX4.out.drew.keep hb5); have HI5 := hidp (HI4.out.drew.keep hb5); have HO5 := hidp (own_below (w := w4.drew) HO4.out hb5); have hb5s := HX5.out.lt; clear hb5)
        refine hK.out _ _ ?_ (fun hHeld => ?_)
        · (try dsimp only)
          first | exact HSH.out _ HX4.out.drew HI4.out.drew | exact HSH.out _ HX5.out HI5.out | exact HSH.out _ (HX5.out.alloc _) (HI5.out.alloc _) | exact HSH.out _ HX8.out HI8.out | exact hHeld
        clear hK K
        (try simp only [Act.put, gA, gB, gC, sA, sB, sC])
        refine tkz 9 ?_
        refine tkz 10 ?_
        refine rdz 11 fun K hK => ?_
        go_simp
        skip
        refine hK.out _ _ ?_ (fun hHeld => ?_)
        · (try dsimp only)
          first | exact HSH.out _ HX4.out.drew HI4.out.drew | exact HSH.out _ HX5.out HI5.out | exact HSH.out _ (HX5.out.alloc _) (HI5.out.alloc _) | exact HSH.out _ HX8.out HI8.out | exact hHeld
        clear hK K
        (try simp only [Act.put, gA, gB, gC, sA, sB, sC])
        refine rdz 12 fun K hK => ?_
        (refine step_append_lies _ (by rfl) _ _ 124 (by rfl) (w.heap.size + 1) 128 j0 (.agg #[.int .i64 0, .int .i64 0, .int .i64 0]) 3 24 Tryz.underlying124 hjn hjz0 hjz1 hjz2 rfl (by decide) u3 nl (ptVs l) (by rfl) (HO5.out.alloc _) ⟨_, 0, none⟩ 1 1 [.int .i64 1, .int .i64 fp, .int .i64 zz] (by rfl) rfl (fun jj yy hyy => World.news_of_block (w := w5.alloc (.cells #[.int .i64 1, .int .i64 fp, .int .i64 zz] 128)) (heap_alloc_new w5 _) jj yy (by simpa using hyy)) (by simp [Value.oneCell']) (by omega) (by unfold maxLen; omega) (by omega) (by simp; omega) _ rfl ?_; intro g cap w8 hown8 hgrow8 hat8 hlt8; have HX8 := hidp (held_grown (HX5.out.alloc (.cells #[.int .i64 1, .int .i64 fp, .int .i64 zz] 128)) hgrow8 (fun e => by have := (HO5.out.lt _ e).1; omega)); have HI8 := hidp (held_grown (HI5.out.alloc (.cells #[.int .i64 1, .int .i64 fp, .int .i64 zz] 128)) hgrow8 (fun e => by have := HGN.out _ e; omega)); have HB8 := hidp ((Bnew HB5.out (.cells #[.int .i64 1, .int .i64 fp, .int .i64 zz] 128)).grown hgrow8 (by have := HB5.out.size; simp; omega) (fun j hj => by have := (HO5.out.lt j hj).1; omega)); have HO8 := hidp hown8; clear hown8 hgrow8 hat8 hlt8)
        refine hK.out _ _ ?_ (fun hHeld => ?_)
        · (try dsimp only)
          first | exact HSH.out _ HX4.out.drew HI4.out.drew | exact HSH.out _ HX5.out HI5.out | exact HSH.out _ (HX5.out.alloc _) (HI5.out.alloc _) | exact HSH.out _ HX8.out HI8.out | exact hHeld
        clear hK K
        (try simp only [Act.put, gA, gB, gC, sA, sB, sC])
        refine tkz 13 ?_
        refine dnz ?_
        go_wp2_with fail
        go_roundw
        case rel => exact ⟨p + 1, nl + 1, _, by omega, by go_num, by omega, HCT1, hidp (by rw [List.length_append, HLN.out]; rfl), hidp (by rw [ptVs_app, ptVs_one]; exact HO8.out), HX8, HB8⟩
        case measure => simp [intOf]; omega
      · have HPA : Hid (H.partsAt p = [(2, fp, zz)]) := hidp (by rw [<- hfp, <- hzz, <- hmm, <- hpg]; unfold AuH.partsAt; rw [if_neg (by omega), if_pos hk])
        have HCT1 : Hid (AuH.catTo H.partsAt (p + 1) = l ++ [(2, fp, zz)]) := hidp (by rw [<- HPA.out, <- HCT.out]; rfl)
        rw [hkk] at hk
        subst hk
        clear hkk hmm hcl hkc hfp hpg hzz hmz
        go_wp2_with (first
          | (go_at_call 149; refine (xInfo_c HV ad hlt _ (HVL.out.below HB.out)).mono ?_; rintro e w2 ⟨rfl, hb2⟩; rw [HK.out, HM.out, HCL.out]; have HGN : Hid (∀ g, u3.ownBlock = some g -> g < w2.heap.size) := hidp (fun g h => by have h1 := (HO.out.lt g h).2; have h2 := hb2.size; omega); have HB3 := hidp (Bnew (Bgo HB.out hb2) (.cells #[.int .i64 2, .int .i64 (m : Int), .int .i64 cl] 119)); have HX3 := hidp ((HX.out.keep hb2).alloc (.cells #[.int .i64 2, .int .i64 (m : Int), .int .i64 cl] 119)); have HO3 := hidp ((own_below HO.out hb2).alloc (.cells #[.int .i64 2, .int .i64 (m : Int), .int .i64 cl] 119)); have HI3 := hidp (Held.new w2 119 #[.int .i64 2, .int .i64 (m : Int), .int .i64 cl]); have HG2 := hidp (rfl : w2.heap.size = w2.heap.size); clear hb2 c0 c1 c2 c3; obtain ⟨c0, c1, c2, c3⟩ := HX3.out.four; obtain ⟨d0, d1, d2⟩ := HI3.out.three)
          | (go_at_call 93; refine (HOF.out _).mono ?_; rintro e w4 ⟨rfl, hb4⟩; have HB4 := hidp (Bgo HB3.out hb4); have HX4 := hidp (HX3.out.keep hb4); have HO4 := hidp (own_below HO3.out hb4); have HI4 := hidp (HI3.out.keep hb4); clear hb4 c0 c1 c2 c3 d0 d1 d2; obtain ⟨c0, c1, c2, c3⟩ := HX4.out.four; obtain ⟨d0, d1, d2⟩ := HI4.out.three)
          | fail)
        generalize hg2 : w2.heap.size = g2 at *
        have HSH : Hid (∀ w', Held w' w.heap.size 114 #[.int .i64 (H.t : Int), .int .i64 (H.p : Int), .int .i64 (H.s : Int), .slice (some ad) n c] -> Held w' g2 119 #[.int .i64 2, .int .i64 (m : Int), .int .i64 cl] -> (fun w' => w'.cell? ⟨w.heap.size, 0, none⟩ = some (.int .i64 (H.t : Int)) /\ w'.cell? ⟨w.heap.size, 1, none⟩ = some (.int .i64 (H.p : Int)) /\ w'.cell? ⟨w.heap.size, 2, none⟩ = some (.int .i64 (H.s : Int)) /\ w'.cell? ⟨w.heap.size, 3, none⟩ = some (.slice (some ad) n c) /\ w'.cell? ⟨g2, 0, none⟩ = some (.int .i64 2) /\ w'.cell? ⟨g2, 1, none⟩ = some (.int .i64 (m : Int))) w') := hidp (fun w' h1 h2 => ⟨h1.four.1, h1.four.2.1, h1.four.2.2.1, h1.four.2.2.2, h2.three.1, h2.three.2.1⟩)
        clear c2 c3 d2 HG2
        refine wp_region_held_drew (S := (fun w' => w'.cell? ⟨w.heap.size, 0, none⟩ = some (.int .i64 (H.t : Int)) /\ w'.cell? ⟨w.heap.size, 1, none⟩ = some (.int .i64 (H.p : Int)) /\ w'.cell? ⟨w.heap.size, 2, none⟩ = some (.int .i64 (H.s : Int)) /\ w'.cell? ⟨w.heap.size, 3, none⟩ = some (.slice (some ad) n c) /\ w'.cell? ⟨g2, 0, none⟩ = some (.int .i64 2) /\ w'.cell? ⟨g2, 1, none⟩ = some (.int .i64 (m : Int)))) (by kernel_rfl) ?_ (fun hHeld => ?_)
        · (try dsimp only)
          first | exact HSH.out _ HX4.out.drew HI4.out.drew | exact HSH.out _ HX5.out HI5.out | exact HSH.out _ (HX5.out.alloc _) (HI5.out.alloc _) | exact HSH.out _ HX8.out HI8.out | exact hHeld
        refine tkz 0 ?_
        refine tkz 1 ?_
        refine tkz 2 ?_
        refine tkz 3 ?_
        refine tkz 4 ?_
        refine tkz 5 ?_
        refine tkz 6 ?_
        refine tkz 7 ?_
        refine rdz 8 fun K hK => ?_
        go_simp
        (go_at_call 71; refine (HPG.out _).mono ?_; rintro e w5 ⟨rfl, hb5⟩; have HB5 := hidp (Bgo (Bdrew HB4.out) hb5); have HX5 := hidp (HX4.out.drew.keep hb5); have HI5 := hidp (HI4.out.drew.keep hb5); have HO5 := hidp (own_below (w := w4.drew) HO4.out hb5); have hb5s := HX5.out.lt; clear hb5)
        refine hK.out _ _ ?_ (fun hHeld => ?_)
        · (try dsimp only)
          first | exact HSH.out _ HX4.out.drew HI4.out.drew | exact HSH.out _ HX5.out HI5.out | exact HSH.out _ (HX5.out.alloc _) (HI5.out.alloc _) | exact HSH.out _ HX8.out HI8.out | exact hHeld
        clear hK K
        (try simp only [Act.put, gA, gB, gC, sA, sB, sC])
        refine tkz 9 ?_
        refine tkz 10 ?_
        refine rdz 11 fun K hK => ?_
        go_simp
        skip
        refine hK.out _ _ ?_ (fun hHeld => ?_)
        · (try dsimp only)
          first | exact HSH.out _ HX4.out.drew HI4.out.drew | exact HSH.out _ HX5.out HI5.out | exact HSH.out _ (HX5.out.alloc _) (HI5.out.alloc _) | exact HSH.out _ HX8.out HI8.out | exact hHeld
        clear hK K
        (try simp only [Act.put, gA, gB, gC, sA, sB, sC])
        refine rdz 12 fun K hK => ?_
        (refine step_append_lies _ (by rfl) _ _ 124 (by rfl) (w.heap.size + 1) 128 j0 (.agg #[.int .i64 0, .int .i64 0, .int .i64 0]) 3 24 Tryz.underlying124 hjn hjz0 hjz1 hjz2 rfl (by decide) u3 nl (ptVs l) (by rfl) (HO5.out.alloc _) ⟨_, 0, none⟩ 1 1 [.int .i64 2, .int .i64 fp, .int .i64 zz] (by rfl) rfl (fun jj yy hyy => World.news_of_block (w := w5.alloc (.cells #[.int .i64 2, .int .i64 fp, .int .i64 zz] 128)) (heap_alloc_new w5 _) jj yy (by simpa using hyy)) (by simp [Value.oneCell']) (by omega) (by unfold maxLen; omega) (by omega) (by simp; omega) _ rfl ?_; intro g cap w8 hown8 hgrow8 hat8 hlt8; have HX8 := hidp (held_grown (HX5.out.alloc (.cells #[.int .i64 2, .int .i64 fp, .int .i64 zz] 128)) hgrow8 (fun e => by have := (HO5.out.lt _ e).1; omega)); have HI8 := hidp (held_grown (HI5.out.alloc (.cells #[.int .i64 2, .int .i64 fp, .int .i64 zz] 128)) hgrow8 (fun e => by have := HGN.out _ e; omega)); have HB8 := hidp ((Bnew HB5.out (.cells #[.int .i64 2, .int .i64 fp, .int .i64 zz] 128)).grown hgrow8 (by have := HB5.out.size; simp; omega) (fun j hj => by have := (HO5.out.lt j hj).1; omega)); have HO8 := hidp hown8; clear hown8 hgrow8 hat8 hlt8)
        refine hK.out _ _ ?_ (fun hHeld => ?_)
        · (try dsimp only)
          first | exact HSH.out _ HX4.out.drew HI4.out.drew | exact HSH.out _ HX5.out HI5.out | exact HSH.out _ (HX5.out.alloc _) (HI5.out.alloc _) | exact HSH.out _ HX8.out HI8.out | exact hHeld
        clear hK K
        (try simp only [Act.put, gA, gB, gC, sA, sB, sC])
        refine tkz 13 ?_
        refine dnz ?_
        go_wp2_with fail
        go_roundw
        case rel => exact ⟨p + 1, nl + 1, _, by omega, by go_num, by omega, HCT1, hidp (by rw [List.length_append, HLN.out]; rfl), hidp (by rw [ptVs_app, ptVs_one]; exact HO8.out), HX8, HB8⟩
        case measure => simp [intOf]; omega
      · have hlq := AuH.partsAt_len (H := H) p
        have hlq0 : 0 < (H.partsAt p).length := by
          unfold AuH.partsAt
          rw [if_neg (by omega), if_neg (by omega), if_pos hk, List.length_append, AuH.slotsTo_len]
          have : 0 < H.sl p := by
            unfold AuH.sl
            have := mt (slotI_zero (k := H.Cl p)).1 (by omega)
            omega
          omega
        obtain ⟨lq, hlqq⟩ : ∃ x, (H.partsAt p).length = x := ⟨_, rfl⟩
        rw [hlqq] at hlq hlq0
        have HLQ := hidp hlqq
        have HSLB : Hid (∀ W : World, IsVals W ad n H.V -> Calls Tryz.prog 150 #[.agg #[.int .i64 (H.t : Int), .int .i64 (H.p : Int), .int .i64 (H.s : Int), .slice (some ad) n c], .int .i64 (p : Int), .int .i64 cl] W fun e w' => ∃ u, e = .returned u /\ w'.ownsRow W.heap.size 128 3 u (H.partsAt p).length (ptVs (H.partsAt p)) /\ Below W.heap.size W w') := hidp (fun W hv => by
          have h := xSlab_c HV ad hlt hk W hv
          rwa [hcl] at h)
        have HCT1 : Hid (AuH.catTo H.partsAt (p + 1) = l ++ H.partsAt p) := hidp (by rw [<- HCT.out]; rfl)
        rw [hkk] at hk
        subst hk
        clear hkk hmm hcl hkc hfp hpg hzz hmz hlqq
        go_wp2_with (first
          | (go_at_call 149; refine (xInfo_c HV ad hlt _ (HVL.out.below HB.out)).mono ?_; rintro e w2 ⟨rfl, hb2⟩; rw [HK.out, HM.out, HCL.out]; have HGN : Hid (∀ g, u3.ownBlock = some g -> g < w2.heap.size) := hidp (fun g h => by have h1 := (HO.out.lt g h).2; have h2 := hb2.size; omega); have HB3 := hidp (Bnew (Bgo HB.out hb2) (.cells #[.int .i64 3, .int .i64 (m : Int), .int .i64 cl] 119)); have HX3 := hidp ((HX.out.keep hb2).alloc (.cells #[.int .i64 3, .int .i64 (m : Int), .int .i64 cl] 119)); have HO3 := hidp ((own_below HO.out hb2).alloc (.cells #[.int .i64 3, .int .i64 (m : Int), .int .i64 cl] 119)); have HI3 := hidp (Held.new w2 119 #[.int .i64 3, .int .i64 (m : Int), .int .i64 cl]); have HG2 := hidp (rfl : w2.heap.size = w2.heap.size); clear hb2 c0 c1 c2 c3; obtain ⟨c0, c1, c2, c3⟩ := HX3.out.four; obtain ⟨d0, d1, d2⟩ := HI3.out.three)
          | (go_at_call 93; refine (HOF.out _).mono ?_; rintro e w4 ⟨rfl, hb4⟩; have HB4 := hidp (Bgo HB3.out hb4); have HX4 := hidp (HX3.out.keep hb4); have HO4 := hidp (own_below HO3.out hb4); have HI4 := hidp (HI3.out.keep hb4); clear hb4 c0 c1 c2 c3 d0 d1 d2; obtain ⟨c0, c1, c2, c3⟩ := HX4.out.four; obtain ⟨d0, d1, d2⟩ := HI4.out.three)
          | (go_at_call 150; refine (HSLB.out _ (HVL.out.below HB4.out)).mono ?_; rintro e w5 ⟨u2, rfl, hown5, hb5⟩; have HB5 := hidp (Bgo HB4.out hb5); have HX5 := hidp (HX4.out.keep hb5); have HI5 := hidp (HI4.out.keep hb5); have HO5 := hidp (own_below HO4.out hb5); have hb5s := HX5.out.lt; clear hb5 c0 c1 c2 c3 d0 d1 d2; rw [HLQ.out] at hown5; obtain ⟨As, cs, rfl⟩ := own_slice hown5; obtain ⟨asl, rfl, _, hnw⟩ := (Reads.of_own hown5).2 hlq0; have HNW := hidp hnw; clear hown5 hnw)
          | (at_builtin
             refine wpList_append_lies _ rfl _ _ 124 rfl (w.heap.size + 1) 128 j0 (.agg #[.int .i64 0, .int .i64 0, .int .i64 0]) 3 24 Tryz.underlying124 hjn hjz0 hjz1 hjz2 rfl (by decide) u3 nl (ptVs l) rfl HO5.out asl lq cs (ptVs (H.partsAt p)) rfl ?c0 HNW.out ?c1 hlq0 ?c3 ?c4 ?c5 _ rfl ?_
             case c0 => rw [ptVs_len, HLQ.out]
             case c1 => exact ptVs_ints _
             case c3 => unfold maxLen; omega
             case c4 => omega
             case c5 => omega
             intro g cap w8 hown8 hgrow8 hat8 hlt8)
          | fail)
        have HX8 := hidp (held_grown HX5.out hgrow8 (fun e => by have := (HO5.out.lt _ e).1; omega))
        have HB8 := hidp (HB5.out.grown hgrow8 (by have := HB5.out.size; omega) (fun j hj => by have := (HO5.out.lt j hj).1; omega))
        have HO8 := hidp hown8
        clear hown8 hgrow8 hat8 hlt8
        go_wp2_with fail
        go_roundw
        case rel => exact ⟨p + 1, nl + lq, _, by omega, by go_num, by omega, HCT1, hidp (by rw [List.length_append, HLN.out, HLQ.out]), hidp (by rw [ptVs_app]; exact HO8.out), HX8, HB8⟩
        case measure => simp [intOf]; omega
    · have t0 : decide ((p : Int) < H.p) = false := decide_eq_false (by omega)
      have hpe : p = H.p := by omega
      have HOE : Hid (wr.ownsRow (w.heap.size + 1) 128 3 u3 H.parts.length (ptVs H.parts)) := hidp (by
        have h := HO.out
        unfold AuH.parts
        rw [<- hpe, HCT.out, HLN.out]
        exact h)
      clear hpe
      go_wp2_with fail
      go_ret
      exact ⟨_, rfl, own_down HOE.out (by omega), HB.out⟩
end
section
theorem own_block0 {w : World} {base n g cap : Nat} {e : TypeId} {l : List (Int × Int)} (h : w.ownsRow base e 2 (.slice (some ⟨g, 0, none⟩) n cap) n (bkVs l)) (hn : l.length = n) {i : Nat} {x : Int × Int} (hx : l[i]? = some x) :
  w.cell? ⟨g, i * 2, none⟩ = some (.int .i64 x.1) /\ w.cell? ⟨g, i * 2 + 1, none⟩ = some (.int .i64 x.2) := by
 have hi : i < n := by
  rcases Nat.lt_or_ge i n with h1 | h1
  ·exact h1
  ·rw [List.getElem?_eq_none (by omega)] at hx; cases hx
 have hg : ∀ (l : List (Int × Int)) (i : Nat) (x : Int × Int), l[i]? = some x -> (bkVs l)[i * 2]? = some (.int .i64 x.1) /\ (bkVs l)[i * 2 + 1]? = some (.int .i64 x.2) := by
  intro l
  induction l with
  | nil => intro i x h; simp at h
  | cons y l ih =>
   intro i x h
   have e : bkVs (y :: l) = [.int .i64 y.1, .int .i64 y.2] ++ bkVs l := by simp [bkVs]
   rcases i with _ | i
   ·simp at h; subst h; simp [bkVs]
   ·have h' : l[i]? = some x := by simpa using h
    obtain ⟨h1, h2⟩ := ih i x h'
    have g : ∀ k, (bkVs (y :: l))[(i * 2 + k) + 2]? = (bkVs l)[i * 2 + k]? := fun k => by
     rw [e, List.getElem?_append_right (by simp)]
     simp
    exact ⟨by have := g 0; rw [Nat.add_zero] at this; rw [show (i + 1) * 2 = i * 2 + 2 by omega, this]; exact h1, by rw [show (i + 1) * 2 + 1 = (i * 2 + 1) + 2 by omega, g]; exact h2⟩
 obtain ⟨h1, h2⟩ := hg l i x hx
 exact ⟨(h.cellAt _ (by omega)).trans h1, (h.cellAt _ (by omega)).trans h2⟩

set_option maxHeartbeats 6400000 in
set_option maxRecDepth 100000 in
theorem xBlocks_c {H : AuH} {n c : Nat} (HV : HeapV H n c) (ad : Addr) (w : World) (hv : IsVals w ad n H.V) :
  Calls Tryz.prog 107 #[hpV H ad n c] w fun e w' => ∃ u, e = .returned u /\ w'.ownsRow w.heap.size 64 2 u (blocksOf H.parts).length (bkVs (blocksOf H.parts)) /\ Below w.heap.size w w' := by
 have HVL := hidp hv
 have hpl := AuH.parts_len (H := H) H.p
 have hpp := HV.nums.2.2.2.1
 obtain ⟨j0, hjn, hjz0, hjz1, hjz2⟩ := info_parts blockInfo
 have HX0 := hidp ((Held.new w 114 #[.int .i64 (H.t : Int), .int .i64 (H.p : Int), .int .i64 (H.s : Int), .slice (some ad) n c]).alloc (.cells #[] 64))
 obtain ⟨c0, c1, c2, c3⟩ := HX0.out.four
 have HBW := hidp (Bnew (Bnew (B0 w) (.cells #[.int .i64 (H.t : Int), .int .i64 (H.p : Int), .int .i64 (H.s : Int), .slice (some ad) n c] 114)) (.cells #[] 64))
 have HOW : Hid (((w.alloc (.cells #[.int .i64 (H.t : Int), .int .i64 (H.p : Int), .int .i64 (H.s : Int), .slice (some ad) n c] 114)).alloc (.cells #[] 64)).ownsRow (w.heap.size + 1) 64 2 (.slice (some ⟨(w.alloc (.cells #[.int .i64 (H.t : Int), .int .i64 (H.p : Int), .int .i64 (H.s : Int), .slice (some ad) n c] 114)).heap.size, 0, none⟩) 0 0) 0 []) := hidp (World.ownsRow_lit (base := (w.heap.size + 1)) (e := 64) (size := 2) (w.alloc (.cells #[.int .i64 (H.t : Int), .int .i64 (H.p : Int), .int .i64 (H.s : Int), .slice (some ad) n c] 114)) #[] 0 (by simp) (by unfold maxLen; omega) rfl)
 rw [World.size_alloc] at HOW
 have HW0 : Hid (w.heap.size < ((w.alloc (.cells #[.int .i64 (H.t : Int), .int .i64 (H.p : Int), .int .i64 (H.s : Int), .slice (some ad) n c] 114)).alloc (.cells #[] 64)).heap.size) := hidp (by simp; omega)
 obtain ⟨L, hL⟩ : ∃ L, H.parts = L := ⟨_, rfl⟩
 have HLL := hidp hL
 have hpl : L.length <= 40000 := by rw [<- hL]; unfold AuH.parts; omega
 obtain ⟨nl, hnl⟩ : ∃ nl, L.length = nl := ⟨_, rfl⟩
 rw [hnl] at hpl
 have HNL := hidp hnl
 clear hL hnl hv
 unfold hpV
 go_enter Tryz.func107, Tryz.ntmps107
 go_wp2_with (first
  | (go_at_call 108; refine (xParts_c HV ad _ (HVL.out.below HBW.out)).mono ?_; rintro e w2 ⟨v, rfl, hown2, hb2⟩; rw [HLL.out, HNL.out] at hown2; obtain ⟨Av, cv, rfl⟩ := own_slice hown2; have HP2 := hidp hown2; have HB2 := hidp (Bgo HBW.out hb2); have HO2 := hidp (own_below HOW.out hb2); have HSZ := hidp hb2.size; clear hown2 hb2)
  | fail)
 generalize (w.alloc (.cells #[.int .i64 (H.t : Int), .int .i64 (H.p : Int), .int .i64 (H.s : Int), .slice (some ad) n c] 114)).alloc (.cells #[] 64) = W0 at *
 have HCV := hidp (own_caps3 HP2.out)
 have hcv : nl <= cv /\ cv <= 9223372036854775807 := HCV.out
 have HNE0 : Hid (∀ g, w2.heap.size <= g \/ g < W0.heap.size -> ∀ gg, (Value.slice Av nl cv).ownBlock = some gg -> gg ≠ g) := hidp (fun g hg gg hgg e => by have := HP2.out.lt gg hgg; omega)
 clear c0 c1 c2 c3 HBW HX0
 go_loopw [3, 5] (fun u3 u5 wr => ∃ (i k : Nat), i <= nl /\ u5 = .int .i64 (i : Int) /\ k <= i /\ Hid ((blocksOf (L.take i)).length = k) /\ Hid (wr.ownsRow (w.heap.size + 1) 64 2 u3 k (bkVs (blocksOf (L.take i)))) /\ Hid (wr.ownsRow W0.heap.size 128 3 (.slice Av nl cv) nl (ptVs L)) /\ Hid (∀ g, u3.ownBlock = some g -> w2.heap.size <= g \/ g < W0.heap.size) /\ Hid (w2.heap.size <= wr.heap.size) /\ Hid (Below w.heap.size w wr)) (fun _ u5 _ => nl - (intOf u5).toNat)
 case atStart => exact ⟨0, 0, by omega, rfl, by omega, hidp rfl, HO2, HP2, hidp (fun g h => .inr (HOW.out.lt g h).2), hidp (Nat.le_refl _), HB2⟩
 case round =>
  clear HO2 HP2 HB2
  obtain ⟨i, k, hi, rfl, hki, HM, HO, HP, HW, HWS, HB⟩ := hrel
  by_cases hlt : i < nl
  ·obtain ⟨x, hx⟩ : ∃ x, L[i]? = some x := ⟨_, List.getElem?_eq_getElem (by have := HNL.out; omega)⟩
   obtain ⟨gv, cv', hvv, hbv, hlv⟩ := HP.out.form (by omega)
   injection hvv with hvv hn0 hcc
   subst hvv
   subst hcc
   obtain ⟨kd, a, z⟩ := x
   obtain ⟨p0, p1, p2⟩ := own_part HP.out HNL.out hx
   have HTK : Hid (L.take (i + 1) = L.take i ++ [(kd, a, z)]) := hidp (by rw [List.take_add_one, hx]; rfl)
   have t0 : decide ((i : Int) < nl) = true := decide_eq_true (by omega)
   have t0n : decide (i < nl) = true := decide_eq_true hlt
   have hxx := hx
   simp only at p0 p1 p2
   have hbs := HWS.out
   have hbs2 : w.heap.size + 1 <= w2.heap.size := by have := HSZ.out; have := HW0.out; omega
   clear hn0 hx
   by_cases h2 : kd = 2
   ·subst h2
    have HB1 : Hid (blocksOf (L.take (i + 1)) = blocksOf (L.take i) ++ [(a, z)]) := hidp (by rw [HTK.out, blocksOf_app, blocksOf_yes rfl])
    have HNE : Hid (∀ gg, gv = gg -> u3.ownBlock ≠ some gg) := hidp (fun gg e h => by subst e; exact HNE0.out gv (HW.out gv h) gv rfl rfl)
    go_wp2_with fail
    refine wp_region_held_drew (S := (fun w' => w'.cell? ⟨gv, i * 3 + 1, none⟩ = some (.int .i64 a) /\ w'.cell? ⟨gv, i * 3 + 2, none⟩ = some (.int .i64 z))) (by kernel_rfl) ?_ (fun hHeld => ?_)
    ·(try dsimp only)
     first | exact (own_part HP.out HNL.out hxx).2 | exact (own_part (HP.out.alloc (.cells #[.int .i64 a, .int .i64 z] 64)) HNL.out hxx).2 | exact (own_part HP8.out HNL.out hxx).2 | exact hHeld
    refine tkz 0 ?_
    refine tkz 1 ?_
    refine tkz 2 ?_
    refine tkz 3 ?_
    refine tkz 4 ?_
    refine tkz 5 ?_
    refine tkz 6 ?_
    refine tkz 7 ?_
    refine tkz 8 ?_
    refine tkz 9 ?_
    refine tkz 10 ?_
    refine tkz 11 ?_
    refine rdz 12 fun K hK => ?_
    go_simp
    skip
    refine hK.out _ _ ?_ (fun hHeld => ?_)
    ·(try dsimp only)
     first | exact (own_part HP.out HNL.out hxx).2 | exact (own_part (HP.out.alloc (.cells #[.int .i64 a, .int .i64 z] 64)) HNL.out hxx).2 | exact (own_part HP8.out HNL.out hxx).2 | exact hHeld
    clear hK K
    (try simp only [Act.put, gA, gB, gC, sA, sB, sC])
    refine rdz 13 fun K hK => ?_
    (refine step_append_lies _ (by rfl) _ _ 53 (by rfl) (w.heap.size + 1) 64 j0 (.agg #[.int .i64 0, .int .i64 0]) 2 16 Tryz.underlying53 hjn hjz0 hjz1 hjz2 rfl (by decide) u3 k (bkVs (blocksOf (L.take i))) (by rfl) (HO.out.drew.alloc _) ⟨_, 0, none⟩ 1 1 [.int .i64 a, .int .i64 z] (by rfl) rfl (fun jj yy hyy => World.news_of_block (w := wr.drew.alloc (.cells #[.int .i64 a, .int .i64 z] 64)) (heap_alloc_new wr.drew _) jj yy (by simpa using hyy)) (by simp [Value.oneCell']) (by omega) (by unfold maxLen; omega) (by omega) (by simp; omega) _ rfl ?_; intro g cap w8 hown8 hgrow8 hat8 hlt8; have HP8 := hidp (own_kept (HP.out.alloc (.cells #[.int .i64 a, .int .i64 z] 64)) (fun gg hgg => hgrow8.block gg (((HP.out.alloc (.cells #[.int .i64 a, .int .i64 z] 64)).lt gg hgg).2) (fun e => HNE.out gg (Option.some.inj (hgg)) e.symm))); have HB8 := hidp ((Bnew (Bdrew HB.out) (.cells #[.int .i64 a, .int .i64 z] 64)).grown hgrow8 (by have := HB.out.size; simp; omega) (fun j hj => by have := (HO.out.lt j hj).1; omega)); have HSG : Hid (w2.heap.size <= w8.heap.size) := hidp (by have := hgrow8.size; simp at this; omega); have HAT := hidp hat8; have HO8 := hidp hown8; clear hown8 hgrow8 hat8 hlt8)
    refine hK.out _ _ ?_ (fun hHeld => ?_)
    ·(try dsimp only)
     first | exact (own_part HP.out HNL.out hxx).2 | exact (own_part (HP.out.alloc (.cells #[.int .i64 a, .int .i64 z] 64)) HNL.out hxx).2 | exact (own_part HP8.out HNL.out hxx).2 | exact hHeld
    clear hK K
    (try simp only [Act.put, gA, gB, gC, sA, sB, sC])
    refine tkz 14 ?_
    refine dnz ?_
    have HM1 : Hid ((blocksOf (L.take (i + 1))).length = k + 1) := hidp (by rw [HB1.out, List.length_append, HM.out]; rfl)
    have HO9 : Hid (w8.ownsRow (w.heap.size + 1) 64 2 (.slice (some ⟨g, 0, none⟩) (k + 1) cap) (k + 1) (bkVs (blocksOf (L.take (i + 1))))) := hidp (by rw [HB1.out, bkVs_snoc]; exact HO8.out)
    have HW9 : Hid (∀ gg, (Value.slice (some ⟨g, 0, none⟩) (k + 1) cap).ownBlock = some gg -> w2.heap.size <= gg \/ gg < W0.heap.size) := hidp (fun gg hgg => by
     have hgg : g = gg := by simpa [Value.ownBlock] using hgg
     subst hgg
     rcases HAT.out with h | h
     ·exact HW.out _ h
     ·left; simp at h; have := HWS.out; omega)
    have HS9 : Hid (w2.heap.size <= w8.heap.size) := HSG
    go_wp2_with fail
    go_roundw
    case rel => exact ⟨i + 1, k + 1, by omega, by go_num, by omega, HM1, HO9, HP8, HW9, HS9, HB8⟩
    case measure => simp [intOf]; omega
   ·have HB1 : Hid (blocksOf (L.take (i + 1)) = blocksOf (L.take i)) := hidp (by rw [HTK.out, blocksOf_app, blocksOf_no h2, List.append_nil])
    have q0 : (kd == 2) = false := by simpa using h2
    clear h2
    go_wp2_with fail
    go_roundw
    case rel => exact ⟨i + 1, k, by omega, by go_num, by omega, hidp (by rw [HB1.out]; exact HM.out), hidp (by rw [HB1.out]; exact HO.out), HP, HW, HWS, HB⟩
    case measure => simp [intOf]; omega
  ·have t0 : decide ((i : Int) < nl) = false := decide_eq_false (by omega)
   have t0n : decide (i < nl) = false := decide_eq_false hlt
   have HTA : Hid (L.take i = L) := hidp (List.take_of_length_le (by have := HNL.out; omega))
   go_wp2_with fail
   go_ret
   refine ⟨_, rfl, ?_, HB.out⟩
   have h := HO.out
   have h2 := HM.out
   rw [HTA.out] at h h2
   rw [HLL.out, h2]
   exact own_down h (by omega)
end
section
set_option maxHeartbeats 3200000 in
set_option maxRecDepth 100000 in
theorem xHas_c (l : List (Int × Int)) (A : Option Addr) (nl cl : Nat) (a : Int) (w : World) (base : Nat) (hO : w.ownsRow base 64 2 (.slice A nl cl) nl (bkVs l)) (hln : l.length = nl) (hcl : nl <= cl /\ cl <= 9223372036854775807) (hnl : nl <= 100000) (b : Bool) (hb : b = true ↔ ∃ x ∈ l, x.1 = a) :
  Calls Tryz.prog 25 #[.slice A nl cl, .int .i64 a] w fun e w' => e = .returned (.bool b) /\ w = w' := by
 have HO := hidp hO
 have HLN := hidp hln
 have HBC := hidp hb
 obtain ⟨hcl1, hcl2⟩ := hcl
 clear hO hln hb
 go_enter Tryz.func25, Tryz.ntmps25
 go_wp2_with fail
 go_loopw [5] (fun u5 wr => ∃ (k : Nat), k <= nl /\ u5 = .int .i64 (k : Int) /\ Hid (∀ x ∈ l.take k, x.1 ≠ a) /\ wr = w) (fun u5 _ => nl - (intOf u5).toNat)
 case atStart => exact ⟨0, by omega, rfl, hidp (by simp), rfl⟩
 case round =>
  obtain ⟨k, hk, rfl, HNO, rfl⟩ := hrel
  by_cases hlt : k < nl
  ·have t0 : decide ((k : Int) < nl) = true := decide_eq_true (by omega)
   have t0n : decide (k < nl) = true := decide_eq_true hlt
   obtain ⟨x, hx⟩ : ∃ x, l[k]? = some x := ⟨_, List.getElem?_eq_getElem (by have := HLN.out; omega)⟩
   obtain ⟨gv, cv', hvv, hbv, hlv⟩ := HO.out.form (by omega)
   injection hvv with hvv hn0 hcc
   subst hvv
   subst hcc
   obtain ⟨p0, p1⟩ := own_block0 HO.out HLN.out hx
   have HTK : Hid (l.take (k + 1) = l.take k ++ [x]) := hidp (by rw [List.take_add_one, hx]; rfl)
   have HMX : Hid (x ∈ l) := hidp (List.mem_of_getElem? hx)
   obtain ⟨xa, xz⟩ := x
   simp only at p0 p1
   clear hn0 hx
   by_cases hxa : xa = a
   ·have q0 : (xa == a) = true := by simpa using hxa
    have HBT : Hid (b = true) := hidp (HBC.out.2 ⟨_, HMX.out, hxa⟩)
    clear hxa
    go_wp2_with fail
    go_ret
    exact ⟨by rw [HBT.out]; rfl, rfl⟩
   ·have q0 : (xa == a) = false := by simpa using hxa
    have HN1 : Hid (∀ x ∈ l.take (k + 1), x.1 ≠ a) := hidp (fun y hy => by
     rw [HTK.out] at hy
     rcases List.mem_append.1 hy with hy | hy
     ·exact HNO.out y hy
     ·have : y = (xa, xz) := by simpa using hy
      subst this
      exact hxa)
    clear hxa
    go_wp2_with fail
    go_roundw
    case rel => exact ⟨k + 1, by omega, by go_num, HN1, (by first | rfl | trivial)⟩
    case measure => simp [intOf]; omega
  ·have t0 : decide ((k : Int) < nl) = false := decide_eq_false (by omega)
   have t0n : decide (k < nl) = false := decide_eq_false hlt
   have HBF : Hid (b = false) := hidp (bool_no HBC.out (fun ⟨x, hx, he⟩ => HNO.out x (by rw [List.take_of_length_le (by have := HLN.out; omega)]; exact hx) he))
   go_wp2_with fail
   go_ret
   exact ⟨by rw [HBF.out]; rfl, rfl⟩

set_option maxHeartbeats 6400000 in
set_option maxRecDepth 100000 in
theorem xRoots_c {H : AuH} {n c : Nat} (HV : HeapV H n c) (ad : Addr) (b : Bool) (hb : b = true ↔ H.R10) (w : World) (hv : IsVals w ad n H.V) :
  Calls Tryz.prog 148 #[hpV H ad n c] w fun e w' => e = .returned (.bool b) /\ Below w.heap.size w w' := by
 have HVL := hidp hv
 have HX0 := hidp (Held.new w 114 #[.int .i64 (H.t : Int), .int .i64 (H.p : Int), .int .i64 (H.s : Int), .slice (some ad) n c])
 obtain ⟨c0, c1, c2, c3⟩ := HX0.out.four
 have HBW := hidp (Bnew (B0 w) (.cells #[.int .i64 (H.t : Int), .int .i64 (H.p : Int), .int .i64 (H.s : Int), .slice (some ad) n c] 114))
 have hn := HV.nums
 have hcx : c <= 9223372036854775807 := hn.2.2.2.2.2.2.2.2
 have hni : n <= 6238 := hn.2.2.2.2.2.2.1
 have hnc := HV.cap
 have hp1 := hn.2.2.2.1
 have hn30 : 30 <= n := by have := HV.len; omega
 have HBC : Hid (b = true ↔ ∀ i, i < 8 -> H.V (22 + i) ≠ 0 -> H.LiveAt (H.V (22 + i) : Int)) := hidp hb
 have hpl := AuH.parts_len (H := H) H.p
 have hbl := blocksOf_len H.parts
 have HLI := hidp (fun a => AuH.live_iff HV a)
 obtain ⟨l, hl⟩ : ∃ l, blocksOf H.parts = l := ⟨_, rfl⟩
 have HLB := hidp hl
 rw [hl] at hbl HLI
 obtain ⟨nb, hnb⟩ : ∃ nb, l.length = nb := ⟨_, rfl⟩
 have HNB := hidp hnb
 have HNL := hidp hnb
 have hnb9 : nb <= 100000 := by have : H.parts.length <= H.p * 33 := hpl; omega
 clear hv hn hb hpl hbl hl hnb
 unfold hpV
 go_enter Tryz.func148, Tryz.ntmps148
 go_wp2_with (first
  | (go_at_call 107; refine (xBlocks_c HV ad _ (HVL.out.below HBW.out)).mono ?_; rintro e w2 ⟨u, rfl, hown2, hb2⟩; rw [HLB.out, HNB.out] at hown2; obtain ⟨Ab, cb, rfl⟩ := own_slice hown2; have HO2 := hidp (own_down hown2 HBW.out.size); have HB2 := hidp (Bgo HBW.out hb2); have HX2 := hidp (HX0.out.keep hb2); clear hown2 hb2)
  | fail)
 have hcc := own_caps3 HO2.out
 obtain ⟨hcc1, hcc2⟩ := hcc
 have hcc2 : cb <= 9223372036854775807 := hcc2
 clear c0 c1 c2 c3 HX0 HBW
 go_loopw [4] (fun u4 wr => ∃ (i : Nat), i <= 8 /\ u4 = .int .i64 (i : Int) /\ Hid (∀ k, k < i -> H.V (22 + k) ≠ 0 -> H.LiveAt (H.V (22 + k) : Int)) /\ Hid (Held wr w.heap.size 114 #[.int .i64 (H.t : Int), .int .i64 (H.p : Int), .int .i64 (H.s : Int), .slice (some ad) n c]) /\ Hid (wr.ownsRow w.heap.size 64 2 (.slice Ab nb cb) nb (bkVs l)) /\ Hid (Below w.heap.size w wr)) (fun u4 _ => 8 - (intOf u4).toNat)
 case atStart => exact ⟨0, by omega, rfl, hidp (fun k h => by omega), HX2, HO2, HB2⟩
 case round =>
  clear HX2 HO2 HB2
  obtain ⟨i, hi, rfl, HOK, HX, HO, HB⟩ := hrel
  obtain ⟨c0, c1, c2, c3⟩ := HX.out.four
  by_cases hlt : i < 8
  ·have t0 : decide ((i : Int) < 8) = true := decide_eq_true (by omega)
   obtain ⟨j, hj⟩ : ∃ j, 22 + i = j := ⟨_, rfl⟩
   have HRT : Hid (nthI 22 8 1 (i : Int) = ((j : Nat) : Int)) := hidp (by rw [nth_on (by omega) (by omega) (by omega)]; omega)
   have hjn : j < n := by omega
   have hjn2 : (j : Int) < n := by omega
   have hv0 := (HVL.out.below HB.out).2 j hjn
   have hbj : (ad.add j).block < wr.heap.size := by rw [block_of_add]; exact (HVL.out.below HB.out).1
   have hv32 := HV.lt j hjn
   obtain ⟨v, hvv⟩ : ∃ v, H.V j = v := ⟨_, rfl⟩
   have HVV : Hid (H.V (22 + i) = v) := hidp (by rw [hj]; exact hvv)
   rw [hvv] at hv0 hv32
   have HS : Hid (∀ w', Below wr.heap.size wr w' -> (fun w' => w'.cell? ⟨w.heap.size, 0, none⟩ = some (.int .i64 (H.t : Int)) /\ w'.cell? ⟨w.heap.size, 1, none⟩ = some (.int .i64 (H.p : Int)) /\ w'.cell? ⟨w.heap.size, 2, none⟩ = some (.int .i64 (H.s : Int)) /\ w'.cell? ⟨w.heap.size, 3, none⟩ = some (.slice (some ad) n c) /\ w'.cell? (ad.add j) = some (.int .u32 (v : Int))) w') := hidp (fun w' hb => by have hh := HX.out.keep hb; exact ⟨hh.four.1, hh.four.2.1, hh.four.2.2.1, hh.four.2.2.2, (hb.cell hbj).trans hv0⟩)
   have wv : IntKind.i64.wrap (v : Int) = (v : Int) := i64_same (by omega) (by omega)
   have HST : Hid ((v ≠ 0 -> H.LiveAt (v : Int)) -> ∀ k, k < i + 1 -> H.V (22 + k) ≠ 0 -> H.LiveAt (H.V (22 + k) : Int)) := hidp (fun h k hk => by
    rcases Nat.lt_or_ge k i with h1 | h1
    ·exact HOK.out k h1
    ·obtain rfl : k = i := by omega
     rw [HVV.out]
     exact h)
   clear hj hvv hv0 hbj
   by_cases hv1 : v = 0
   ·have q0 : ((v : Int) != 0) = false := by simp; omega
    have HOK1 := hidp (HST.out (fun h => absurd hv1 h))
    clear hv1
    go_wp2_with fail
    refine wp_region_held_drew (S := (fun w' => w'.cell? ⟨w.heap.size, 0, none⟩ = some (.int .i64 (H.t : Int)) /\ w'.cell? ⟨w.heap.size, 1, none⟩ = some (.int .i64 (H.p : Int)) /\ w'.cell? ⟨w.heap.size, 2, none⟩ = some (.int .i64 (H.s : Int)) /\ w'.cell? ⟨w.heap.size, 3, none⟩ = some (.slice (some ad) n c) /\ w'.cell? (ad.add j) = some (.int .u32 (v : Int)))) (by kernel_rfl) ?_ (fun hHeld => ?_)
    ·(try dsimp only)
     first | exact HS.out _ (Bdrew (B0 _)) | exact hHeld
    refine tkz 0 ?_
    refine tkz 1 ?_
    refine tkz 2 ?_
    refine rdz 3 fun K hK => ?_
    go_simp
    (go_at_call 67; refine (r7Root_c _ _).mono ?_; rintro e w9 ⟨rfl, rfl⟩; rw [HRT.out])
    refine hK.out _ _ ?_ (fun hHeld => ?_)
    ·(try dsimp only)
     first | exact HS.out _ (Bdrew (B0 _)) | exact hHeld
    clear hK K
    (try simp only [Act.put, gA, gB, gC, sA, sB, sC])
    refine tkz 4 ?_
    refine tkz 5 ?_
    refine tkz 6 ?_
    refine tkz 7 ?_
    refine dnz ?_
    go_wp2_with fail
    go_roundw
    case rel => exact ⟨i + 1, by omega, by go_num, HOK1, hidp HX.out.drew, hidp HO.out.drew, hidp (Bdrew HB.out)⟩
    case measure => simp [intOf]; omega
   ·have q0 : ((v : Int) != 0) = true := by simp; omega
    by_cases hlv : H.LiveAt (v : Int)
    ·have HHA := hidp (fun (W : World) (hO : W.ownsRow w.heap.size 64 2 (.slice Ab nb cb) nb (bkVs l)) => xHas_c l Ab nb cb (v : Int) W w.heap.size hO HNL.out ⟨hcc1, hcc2⟩ (by omega) true ⟨fun _ => (HLI.out v).2 hlv, fun _ => rfl⟩)
     have HOK1 := hidp (HST.out (fun _ => hlv))
     clear hv1 hlv
     go_wp2_with fail
     refine wp_region_held_drew (S := (fun w' => w'.cell? ⟨w.heap.size, 0, none⟩ = some (.int .i64 (H.t : Int)) /\ w'.cell? ⟨w.heap.size, 1, none⟩ = some (.int .i64 (H.p : Int)) /\ w'.cell? ⟨w.heap.size, 2, none⟩ = some (.int .i64 (H.s : Int)) /\ w'.cell? ⟨w.heap.size, 3, none⟩ = some (.slice (some ad) n c) /\ w'.cell? (ad.add j) = some (.int .u32 (v : Int)))) (by kernel_rfl) ?_ (fun hHeld => ?_)
     ·(try dsimp only)
      first | exact HS.out _ (Bdrew (B0 _)) | exact hHeld
     refine tkz 0 ?_
     refine tkz 1 ?_
     refine tkz 2 ?_
     refine rdz 3 fun K hK => ?_
     go_simp
     (go_at_call 67; refine (r7Root_c _ _).mono ?_; rintro e w9 ⟨rfl, rfl⟩; rw [HRT.out])
     refine hK.out _ _ ?_ (fun hHeld => ?_)
     ·(try dsimp only)
      first | exact HS.out _ (Bdrew (B0 _)) | exact hHeld
     clear hK K
     (try simp only [Act.put, gA, gB, gC, sA, sB, sC])
     refine tkz 4 ?_
     refine tkz 5 ?_
     refine tkz 6 ?_
     refine tkz 7 ?_
     refine dnz ?_
     go_wp2_with (first
      | (go_at_call 25; refine (HHA.out _ HO.out.drew).mono ?_; rintro e w9 ⟨rfl, rfl⟩)
      | fail)
     go_roundw
     case rel => exact ⟨i + 1, by omega, by go_num, HOK1, hidp HX.out.drew, hidp HO.out.drew, hidp (Bdrew HB.out)⟩
     case measure => simp [intOf]; omega
    ·have HHA := hidp (fun (W : World) (hO : W.ownsRow w.heap.size 64 2 (.slice Ab nb cb) nb (bkVs l)) => xHas_c l Ab nb cb (v : Int) W w.heap.size hO HNL.out ⟨hcc1, hcc2⟩ (by omega) false ⟨fun h => (by cases h), fun h => absurd ((HLI.out v).1 h) hlv⟩)
     have HBF : Hid (b = false) := hidp (bool_no HBC.out (fun h => hlv (by have h1 := h i hlt; rw [HVV.out] at h1; exact h1 hv1)))
     clear hv1 hlv
     go_wp2_with fail
     refine wp_region_held_drew (S := (fun w' => w'.cell? ⟨w.heap.size, 0, none⟩ = some (.int .i64 (H.t : Int)) /\ w'.cell? ⟨w.heap.size, 1, none⟩ = some (.int .i64 (H.p : Int)) /\ w'.cell? ⟨w.heap.size, 2, none⟩ = some (.int .i64 (H.s : Int)) /\ w'.cell? ⟨w.heap.size, 3, none⟩ = some (.slice (some ad) n c) /\ w'.cell? (ad.add j) = some (.int .u32 (v : Int)))) (by kernel_rfl) ?_ (fun hHeld => ?_)
     ·(try dsimp only)
      first | exact HS.out _ (Bdrew (B0 _)) | exact hHeld
     refine tkz 0 ?_
     refine tkz 1 ?_
     refine tkz 2 ?_
     refine rdz 3 fun K hK => ?_
     go_simp
     (go_at_call 67; refine (r7Root_c _ _).mono ?_; rintro e w9 ⟨rfl, rfl⟩; rw [HRT.out])
     refine hK.out _ _ ?_ (fun hHeld => ?_)
     ·(try dsimp only)
      first | exact HS.out _ (Bdrew (B0 _)) | exact hHeld
     clear hK K
     (try simp only [Act.put, gA, gB, gC, sA, sB, sC])
     refine tkz 4 ?_
     refine tkz 5 ?_
     refine tkz 6 ?_
     refine tkz 7 ?_
     refine dnz ?_
     go_wp2_with (first
      | (go_at_call 25; refine (HHA.out _ HO.out.drew).mono ?_; rintro e w9 ⟨rfl, rfl⟩)
      | fail)
     go_ret
     exact ⟨by rw [HBF.out]; rfl, Bdrew HB.out⟩
  ·have t0 : decide ((i : Int) < 8) = false := decide_eq_false (by omega)
   have HBT : Hid (b = true) := hidp (HBC.out.2 (fun k hk => HOK.out k (by omega)))
   go_wp2_with fail
   go_ret
   exact ⟨by rw [HBT.out]; rfl, HB.out⟩
end
end Go.Proofs.YtjjfcaliippgpaaGreatDoor
