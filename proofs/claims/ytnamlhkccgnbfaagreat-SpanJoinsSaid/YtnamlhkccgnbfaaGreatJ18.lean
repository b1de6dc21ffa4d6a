/-
  What the laws' own add, of a list of live blocks by address, does. Written by span/gen_lists.py.
-/
import Derived.Test.YtnamlhkccgnbfaaGreatJ17
import Derived.Test.YtnamlhkccgnbfaaGreatJ05
import Derived.Test.YtnamlhkccgnbfaaGreatJ16
import Derived.Test.YtnamlhkccgnbfaaGreatJ15
import Derived.Test.YtnamlhkccgnbfaaGreatJ14
import Derived.Deep.CutRange
namespace Go.Proofs.YtnamlhkccgnbfaaGreat
open Go.ChangeShapes Go.WideShapes Go.ChangeAt Go.RowKit Go.Maps
set_option linter.unusedVariables false
set_option linter.unusedSimpArgs false
set_option maxRecDepth 100000
section
theorem addTo_few (b : Int × Int) (L : List (Int × Int)) : (addTo b L).1.length ≤ L.length + 1 := by
  have := addTo_len b L ([], false)
  unfold addTo
  simp at this
  exact this
theorem addTo_flat {b : Int × Int} {L : List (Int × Int)} {nl : Nat} (hn : L.length = nl) : ∀ j, j ≤ nl → (addTo b (L.take j)).2 = false → (addTo b (L.take j)).1.length = j
  | 0, _, _ => by simp [addTo]
  | j + 1, hj, h => by
    obtain ⟨x, hx⟩ : ∃ x, L[j]? = some x := ⟨_, List.getElem?_eq_getElem (by omega)⟩
    have e : L.take (j + 1) = L.take j ++ [x] := by rw [List.take_add_one, hx]; rfl
    rw [e, addTo_snoc] at h ⊢
    unfold addStep at h ⊢
    split at h
    · cases h
    · rename_i hc
      rw [if_neg hc]
      have := addTo_flat hn j (by omega) h
      simp [this]
set_option maxHeartbeats 12800000 in
theorem add15_c (L : List (Int × Int)) (b1 b2 : Int) (A : Option Addr) (nl c b0 : Nat) (w : World) (hn : L.length = nl) (hnl : nl ≤ 100000) (hO : w.ownsRow b0 64 2 (.slice A nl c) nl (bkVs L)) :
    Calls Tryz.prog 29 #[.slice A nl c, .agg #[.int .i64 b1, .int .i64 b2]] w fun e w' => ∃ u, e = .returned u ∧ w'.ownsRow w.heap.size 64 2 u (addB L (b1, b2)).length (bkVs (addB L (b1, b2))) ∧ Below w.heap.size w w' := by
  obtain ⟨j0, hjn, hjz0, hjz1, hjz2⟩ := info_parts blockInfo
  have HNL := hidp hn
  have HO0 := hidp hO
  have HCV := hidp (own_caps3 hO)
  have hcv : nl ≤ c ∧ c ≤ 9223372036854775807 := HCV.out
  have HX0 := hidp ((Held.new w 64 #[.int .i64 b1, .int .i64 b2]).alloc (.cells #[] 64))
  have HBW := hidp (Bnew (Bnew (B0 w) (.cells #[.int .i64 b1, .int .i64 b2] 64)) (.cells #[] 64))
  have HOW : Hid (((w.alloc (.cells #[.int .i64 b1, .int .i64 b2] 64)).alloc (.cells #[] 64)).ownsRow (w.heap.size + 1) 64 2 (.slice (some ⟨(w.alloc (.cells #[.int .i64 b1, .int .i64 b2] 64)).heap.size, 0, none⟩) 0 0) 0 []) := hidp (World.ownsRow_lit (base := w.heap.size + 1) (e := 64) (size := 2) (w.alloc (.cells #[.int .i64 b1, .int .i64 b2] 64)) #[] 0 (by simp) (by unfold maxLen; omega) rfl)
  rw [World.size_alloc] at HOW
  clear hO hn
  go_enter Tryz.func29, Tryz.ntmps29
  go_wp2_with fail
  go_loopw [5, 6, 7] (fun u5 u6 u7 wr => ∃ (i k : Nat) (d : Bool), i ≤ nl ∧ u7 = .int .i64 (i : Int) ∧ u6 = .bool d ∧ k ≤ i + 1 ∧ Hid ((addTo (b1, b2) (L.take i)).1.length = k) ∧ Hid ((addTo (b1, b2) (L.take i)).2 = d) ∧ Hid (wr.ownsRow (w.heap.size + 1) 64 2 u5 k (bkVs (addTo (b1, b2) (L.take i)).1)) ∧ Hid (Held wr w.heap.size 64 #[.int .i64 b1, .int .i64 b2]) ∧ Hid (Below w.heap.size w wr)) (fun _ _ u7 _ => nl - (intOf u7).toNat)
  case atStart => exact ⟨0, 0, false, by omega, rfl, rfl, by omega, hidp rfl, hidp rfl, HOW, HX0, HBW⟩
  case round =>
    clear HOW HBW HX0
    obtain ⟨i, k, d, hi, rfl, rfl, hki, HM, HD, HO, HX, HB⟩ := hrel
    obtain ⟨y0, y1⟩ := HX.out.two
    by_cases hlt : i < nl
    · obtain ⟨x, hx⟩ : ∃ x, L[i]? = some x := ⟨_, List.getElem?_eq_getElem (by have := HNL.out; omega)⟩
      obtain ⟨gv, cv', hvv, hbv, hlv⟩ := HO0.out.form (by omega)
      injection hvv with hvv hn0 hcc
      subst hvv
      subst hcc
      obtain ⟨p0, p1⟩ := own_block0 (own_below HO0.out HB.out) HNL.out hx
      have HTK : Hid (L.take (i + 1) = L.take i ++ [x]) := hidp (by rw [List.take_add_one, hx]; rfl)
      have hkm := addTo_few (b1, b2) (L.take i)
      obtain ⟨ad, z⟩ := x
      have t0 : decide ((i : Int) < nl) = true := decide_eq_true (by omega)
      clear hn0 hx
      simp only at p0 p1
      have HPP : Hid (wr.cell? ⟨w.heap.size, 0, none⟩ = some (.int .i64 b1) ∧ wr.cell? ⟨gv, i * 2, none⟩ = some (.int .i64 ad)) := hidp ⟨y0, p0⟩
      have hbs := HB.out.size
      generalize hT : addTo (b1, b2) (L.take i) = T at *
      obtain ⟨acc, dd⟩ := T
      simp only at HM HD HO hkm
      have hdd := HD.out
      have hmm := HM.out
      have hkk : k ≤ i + 1 := hki
      have hacc : acc.length ≤ i + 1 := by rw [List.length_take] at hkm; omega
      have HXX : Hid (L[i]? = some (ad, z)) := hidp (by
        have h1 := HTK.out
        have h2 : (L.take (i + 1))[i]? = some (ad, z) := by rw [h1, List.getElem?_append_right (by rw [List.length_take]; omega), List.length_take]; have : min i L.length = i := by have := HNL.out; omega
                                                            rw [this]; simp
        rw [List.getElem?_take] at h2
        simpa using h2)
      have hk2 : d = true → k ≤ i + 1 := fun _ => hki
      cases d with
      | true =>
        subst hdd
        have HT1 : Hid (addTo (b1, b2) (L.take (i + 1)) = (acc ++ [(ad, z)], true)) := hidp (by rw [HTK.out, addTo_snoc, hT]; unfold addStep; rw [if_neg (by simp)])
        clear hT
        go_wp2_with fail
        have HSD : Hid ((fun w' => w'.cell? ⟨w.heap.size, 0, none⟩ = some (.int .i64 b1) ∧ w'.cell? ⟨gv, i * 2, none⟩ = some (.int .i64 ad)) wr.drew) := hidp HPP.out
        refine wp_region_held_drew (S := (fun w' => w'.cell? ⟨w.heap.size, 0, none⟩ = some (.int .i64 b1) ∧ w'.cell? ⟨gv, i * 2, none⟩ = some (.int .i64 ad))) (by kernel_rfl) ?_ (fun hHeld => ?_)
        · (try dsimp only)
          exact HSD.out
        refine tkz 0 ?_
        refine tkz 1 ?_
        refine tkz 2 ?_
        refine skO (i := 3) rfl (by kernel_rfl) (fun _ _ _ h => h) (by rfl) (by assumption) ?_
        (try simp only [Act.put, gA, gB, gC, sA, sB, sC])
        refine skO (i := 4) rfl (by kernel_rfl) (fun _ _ _ h => h) (by rfl) (by assumption) ?_
        (try simp only [Act.put, gA, gB, gC, sA, sB, sC])
        refine skO (i := 5) rfl (by kernel_rfl) (fun _ _ _ h => h) (by rfl) (by assumption) ?_
        (try simp only [Act.put, gA, gB, gC, sA, sB, sC])
        refine skO (i := 6) rfl (by kernel_rfl) (fun _ _ _ h => h) (by rfl) (by assumption) ?_
        (try simp only [Act.put, gA, gB, gC, sA, sB, sC])
        refine skO (i := 7) rfl (by kernel_rfl) (fun _ _ _ h => h) (by rfl) (by assumption) ?_
        (try simp only [Act.put, gA, gB, gC, sA, sB, sC])
        refine skO (i := 8) rfl (by kernel_rfl) (fun _ _ _ h => h) (by rfl) (by assumption) ?_
        (try simp only [Act.put, gA, gB, gC, sA, sB, sC])
        refine skO (i := 9) rfl (by kernel_rfl) (fun _ _ _ h => h) (by rfl) (by assumption) ?_
        (try simp only [Act.put, gA, gB, gC, sA, sB, sC])
        refine skO (i := 10) rfl (by kernel_rfl) (fun _ _ _ h => h) (by rfl) (by assumption) ?_
        (try simp only [Act.put, gA, gB, gC, sA, sB, sC])
        refine tkz 11 ?_
        refine wpAnyH_done (by kernel_rfl) ?_ _
        have HOd := hidp (own_below HO.out (Bdrew (B0 wr)))
        have HXd := hidp (HX.out.keep (Bdrew (B0 wr)))
        have HBd := hidp (Bdrew HB.out)
        have HPd := hidp (own_block0 (own_below HO0.out HBd.out) HNL.out HXX.out)
        obtain ⟨y0, y1⟩ := HXd.out.two
        obtain ⟨p0, p1⟩ := HPd.out
        dsimp only at p0 p1
        generalize hwd : wr.drew = wd at *
        clear hwd
        have hbsd := HBd.out.size
        have hxsd := HXd.out.lt
        go_wp2_with (first
          | (at_builtin
             refine wpList_append_lies _ rfl _ _ 51 rfl (w.heap.size + 1) 64 j0 (.agg #[.int .i64 0, .int .i64 0]) 2 16 Tryz.underlying51 hjn hjz0 hjz1 hjz2 rfl (by decide) u5 (k) (bkVs (acc)) rfl (HOd.out.alloc _) ⟨_, 0, none⟩ 1 1 [.int .i64 ad, .int .i64 z] rfl rfl ?c1 ?c2 (by omega) ?c3 ?c4 ?c5 _ rfl ?_
             case c1 => intro jj yy hyy; rcases jj with _ | _ | jj; (· simp at hyy; subst hyy; simp [Addr.add]); (· simp at hyy; subst hyy; simp [Addr.add]); (· simp at hyy)
             case c2 => simp [Value.oneCell']
             case c3 => unfold maxLen; omega
             case c4 => omega
             case c5 => simp; omega
             intro g8 capg8 w8 hown8 hgrow8 hat8 hlt8)
          | fail)
        
        have HO8 : Hid (w8.ownsRow (w.heap.size + 1) 64 2 (.slice (some ⟨g8, 0, none⟩) (k + 1) capg8) (k + 1) (bkVs (addTo (b1, b2) (L.take (i + 1))).1)) := hidp (by rw [HT1.out]; show w8.ownsRow _ _ _ _ _ (bkVs (acc ++ [(ad, z)])); rw [bkVs_snoc]; exact hown8)
        have HB8 : Hid (Below w.heap.size w w8) := hidp ((Bnew HBd.out _).grown hgrow8 (by have := HBd.out.size; simp; omega) (fun j hj => by have := (HOd.out.lt j hj).1; omega))
        have HX8 : Hid (Held w8 w.heap.size 64 #[.int .i64 b1, .int .i64 b2]) := hidp ((hgrow8.block _ (by have := HXd.out.lt; simp; omega) (fun e => by have := (HOd.out.lt _ e.symm).1; omega)).trans (HXd.out.alloc _))
        have HM1 : Hid ((addTo (b1, b2) (L.take (i + 1))).1.length = k + 1) := hidp (by rw [HT1.out]; simp; have := HM.out; omega)
        have HD1 : Hid ((addTo (b1, b2) (L.take (i + 1))).2 = true) := hidp (by rw [HT1.out])
        clear hown8 hgrow8 hat8 hlt8 y0 y1 p0 p1
        go_wp2_with fail
        go_roundw
        case rel => exact ⟨i + 1, k + 1, true, by omega, by go_num, rfl, by omega, HM1, HD1, HO8, HX8, HB8⟩
        case measure => simp [intOf]; omega
      | false =>
        have hkf : k ≤ i := by
          have h0 : ∀ j, j ≤ nl → (addTo (b1, b2) (L.take j)).2 = false → (addTo (b1, b2) (L.take j)).1.length = j := addTo_flat HNL.out
          have := h0 i (by omega) (by rw [hT]; exact hdd)
          rw [hT] at this
          simp only at this
          omega
        by_cases hlt2 : b1 < ad
        · subst hdd
          have HT1 : Hid (addTo (b1, b2) (L.take (i + 1)) = (acc ++ [(b1, b2)] ++ [(ad, z)], true)) := hidp (by rw [HTK.out, addTo_snoc, hT]; unfold addStep; rw [if_pos ⟨rfl, hlt2⟩])
          have t1 : decide (b1 < ad) = true := decide_eq_true hlt2
          clear hT
          go_wp2_with fail
          have HSD : Hid ((fun w' => w'.cell? ⟨w.heap.size, 0, none⟩ = some (.int .i64 b1) ∧ w'.cell? ⟨gv, i * 2, none⟩ = some (.int .i64 ad)) wr.drew) := hidp HPP.out
          refine wp_region_held_drew (S := (fun w' => w'.cell? ⟨w.heap.size, 0, none⟩ = some (.int .i64 b1) ∧ w'.cell? ⟨gv, i * 2, none⟩ = some (.int .i64 ad))) (by kernel_rfl) ?_ (fun hHeld => ?_)
          · (try dsimp only)
            exact HSD.out
          refine tkz 0 ?_
          refine tkz 1 ?_
          refine tkz 2 ?_
          refine tkz 3 ?_
          refine tkz 4 ?_
          refine tkz 5 ?_
          refine tkz 6 ?_
          refine tkz 7 ?_
          refine tkz 8 ?_
          refine tkz 9 ?_
          refine tkz 10 ?_
          refine tkz 11 ?_
          refine wpAnyH_done (by kernel_rfl) ?_ _
          have HOd := hidp (own_below HO.out (Bdrew (B0 wr)))
          have HXd := hidp (HX.out.keep (Bdrew (B0 wr)))
          have HBd := hidp (Bdrew HB.out)
          have HPd := hidp (own_block0 (own_below HO0.out HBd.out) HNL.out HXX.out)
          obtain ⟨y0, y1⟩ := HXd.out.two
          obtain ⟨p0, p1⟩ := HPd.out
          dsimp only at p0 p1
          generalize hwd : wr.drew = wd at *
          clear hwd
          have hbsd := HBd.out.size
          have hxsd := HXd.out.lt
          have HTOK : Hid True := hidp trivial
          go_wp2_with (first
            | (at_builtin
               have hz := HTOK.out
               clear hz HTOK
               refine wpList_append_lies _ rfl _ _ 51 rfl (w.heap.size + 1) 64 j0 (.agg #[.int .i64 0, .int .i64 0]) 2 16 Tryz.underlying51 hjn hjz0 hjz1 hjz2 rfl (by decide) u5 (k) (bkVs (acc)) rfl (HOd.out.alloc _) ⟨_, 0, none⟩ 1 1 [.int .i64 b1, .int .i64 b2] rfl rfl ?c1 ?c2 (by omega) ?c3 ?c4 ?c5 _ rfl ?_
               case c1 => intro jj yy hyy; rcases jj with _ | _ | jj; (· simp at hyy; subst hyy; simp [Addr.add]); (· simp at hyy; subst hyy; simp [Addr.add]); (· simp at hyy)
               case c2 => simp [Value.oneCell']
               case c3 => unfold maxLen; omega
               case c4 => omega
               case c5 => simp; omega
               intro g7 capg7 w7 hown8 hgrow8 hat8 hlt8
               have HO7 : Hid (w7.ownsRow (w.heap.size + 1) 64 2 (.slice (some ⟨g7, 0, none⟩) (k + 1) capg7) (k + 1) (bkVs (acc ++ [(b1, b2)]))) := hidp (by rw [bkVs_snoc]; exact hown8)
               have HB7 : Hid (Below w.heap.size w w7) := hidp ((Bnew HBd.out _).grown hgrow8 (by have := HBd.out.size; simp; omega) (fun j hj => by have := (HOd.out.lt j hj).1; omega))
               have HX7 : Hid (Held w7 w.heap.size 64 #[.int .i64 b1, .int .i64 b2]) := hidp ((hgrow8.block _ (by have := HXd.out.lt; simp; omega) (fun e => by have := (HOd.out.lt _ e.symm).1; omega)).trans (HXd.out.alloc _))
               clear hown8 hgrow8 hat8 hlt8 y0 y1 p0 p1
               have hbs7 := HB7.out.size
               have hxs7 := HX7.out.lt
               have HPd := hidp (own_block0 (own_below HO0.out HB7.out) HNL.out HXX.out)
               obtain ⟨p0, p1⟩ := HPd.out
               dsimp only at p0 p1
               obtain ⟨y0, y1⟩ := HX7.out.two)
            | (at_builtin
               refine wpList_append_lies _ rfl _ _ 51 rfl (w.heap.size + 1) 64 j0 (.agg #[.int .i64 0, .int .i64 0]) 2 16 Tryz.underlying51 hjn hjz0 hjz1 hjz2 rfl (by decide) (.slice (some ⟨g7, 0, none⟩) (k + 1) capg7) (k + 1) (bkVs (acc ++ [(b1, b2)])) rfl (HO7.out.alloc _) ⟨_, 0, none⟩ 1 1 [.int .i64 ad, .int .i64 z] rfl rfl ?c1 ?c2 (by omega) ?c3 ?c4 ?c5 _ rfl ?_
               case c1 => intro jj yy hyy; rcases jj with _ | _ | jj; (· simp at hyy; subst hyy; simp [Addr.add]); (· simp at hyy; subst hyy; simp [Addr.add]); (· simp at hyy)
               case c2 => simp [Value.oneCell']
               case c3 => unfold maxLen; omega
               case c4 => omega
               case c5 => simp; omega
               intro g8 capg8 w8 hown8 hgrow8 hat8 hlt8)
            | fail)
          
          have HO8 : Hid (w8.ownsRow (w.heap.size + 1) 64 2 (.slice (some ⟨g8, 0, none⟩) (k + 1 + 1) capg8) (k + 1 + 1) (bkVs (addTo (b1, b2) (L.take (i + 1))).1)) := hidp (by rw [HT1.out]; show w8.ownsRow _ _ _ _ _ (bkVs (acc ++ [(b1, b2)] ++ [(ad, z)])); rw [bkVs_snoc]; exact hown8)
          have HB8 : Hid (Below w.heap.size w w8) := hidp ((Bnew HB7.out _).grown hgrow8 (by have := HB7.out.size; simp; omega) (fun j hj => by have := (HO7.out.lt j hj).1; omega))
          have HX8 : Hid (Held w8 w.heap.size 64 #[.int .i64 b1, .int .i64 b2]) := hidp ((hgrow8.block _ (by have := HX7.out.lt; simp; omega) (fun e => by have := (HO7.out.lt _ e.symm).1; omega)).trans (HX7.out.alloc _))
          have HM1 : Hid ((addTo (b1, b2) (L.take (i + 1))).1.length = k + 1 + 1) := hidp (by rw [HT1.out]; simp; have := HM.out; omega)
          have HD1 : Hid ((addTo (b1, b2) (L.take (i + 1))).2 = true) := hidp (by rw [HT1.out])
          clear hown8 hgrow8 hat8 hlt8 y0 y1 p0 p1
          go_wp2_with fail
          go_roundw
          case rel => exact ⟨i + 1, k + 1 + 1, true, by omega, by go_num, rfl, by omega, HM1, HD1, HO8, HX8, HB8⟩
          case measure => simp [intOf]; omega
        · subst hdd
          have HT1 : Hid (addTo (b1, b2) (L.take (i + 1)) = (acc ++ [(ad, z)], false)) := hidp (by rw [HTK.out, addTo_snoc, hT]; unfold addStep; rw [if_neg (by intro h; exact hlt2 h.2)])
          have t1 : decide (b1 < ad) = false := decide_eq_false hlt2
          clear hT
          go_wp2_with fail
          have HSD : Hid ((fun w' => w'.cell? ⟨w.heap.size, 0, none⟩ = some (.int .i64 b1) ∧ w'.cell? ⟨gv, i * 2, none⟩ = some (.int .i64 ad)) wr.drew) := hidp HPP.out
          refine wp_region_held_drew (S := (fun w' => w'.cell? ⟨w.heap.size, 0, none⟩ = some (.int .i64 b1) ∧ w'.cell? ⟨gv, i * 2, none⟩ = some (.int .i64 ad))) (by kernel_rfl) ?_ (fun hHeld => ?_)
          · (try dsimp only)
            exact HSD.out
          refine tkz 0 ?_
          refine tkz 1 ?_
          refine tkz 2 ?_
          refine tkz 3 ?_
          refine tkz 4 ?_
          refine tkz 5 ?_
          refine tkz 6 ?_
          refine tkz 7 ?_
          refine tkz 8 ?_
          refine tkz 9 ?_
          refine tkz 10 ?_
          refine tkz 11 ?_
          refine wpAnyH_done (by kernel_rfl) ?_ _
          have HOd := hidp (own_below HO.out (Bdrew (B0 wr)))
          have HXd := hidp (HX.out.keep (Bdrew (B0 wr)))
          have HBd := hidp (Bdrew HB.out)
          have HPd := hidp (own_block0 (own_below HO0.out HBd.out) HNL.out HXX.out)
          obtain ⟨y0, y1⟩ := HXd.out.two
          obtain ⟨p0, p1⟩ := HPd.out
          dsimp only at p0 p1
          generalize hwd : wr.drew = wd at *
          clear hwd
          have hbsd := HBd.out.size
          have hxsd := HXd.out.lt
          go_wp2_with (first
            | (at_builtin
               refine wpList_append_lies _ rfl _ _ 51 rfl (w.heap.size + 1) 64 j0 (.agg #[.int .i64 0, .int .i64 0]) 2 16 Tryz.underlying51 hjn hjz0 hjz1 hjz2 rfl (by decide) u5 (k) (bkVs (acc)) rfl (HOd.out.alloc _) ⟨_, 0, none⟩ 1 1 [.int .i64 ad, .int .i64 z] rfl rfl ?c1 ?c2 (by omega) ?c3 ?c4 ?c5 _ rfl ?_
               case c1 => intro jj yy hyy; rcases jj with _ | _ | jj; (· simp at hyy; subst hyy; simp [Addr.add]); (· simp at hyy; subst hyy; simp [Addr.add]); (· simp at hyy)
               case c2 => simp [Value.oneCell']
               case c3 => unfold maxLen; omega
               case c4 => omega
               case c5 => simp; omega
               intro g8 capg8 w8 hown8 hgrow8 hat8 hlt8)
            | fail)
          
          have HO8 : Hid (w8.ownsRow (w.heap.size + 1) 64 2 (.slice (some ⟨g8, 0, none⟩) (k + 1) capg8) (k + 1) (bkVs (addTo (b1, b2) (L.take (i + 1))).1)) := hidp (by rw [HT1.out]; show w8.ownsRow _ _ _ _ _ (bkVs (acc ++ [(ad, z)])); rw [bkVs_snoc]; exact hown8)
          have HB8 : Hid (Below w.heap.size w w8) := hidp ((Bnew HBd.out _).grown hgrow8 (by have := HBd.out.size; simp; omega) (fun j hj => by have := (HOd.out.lt j hj).1; omega))
          have HX8 : Hid (Held w8 w.heap.size 64 #[.int .i64 b1, .int .i64 b2]) := hidp ((hgrow8.block _ (by have := HXd.out.lt; simp; omega) (fun e => by have := (HOd.out.lt _ e.symm).1; omega)).trans (HXd.out.alloc _))
          have HM1 : Hid ((addTo (b1, b2) (L.take (i + 1))).1.length = k + 1) := hidp (by rw [HT1.out]; simp; have := HM.out; omega)
          have HD1 : Hid ((addTo (b1, b2) (L.take (i + 1))).2 = false) := hidp (by rw [HT1.out])
          clear hown8 hgrow8 hat8 hlt8 y0 y1 p0 p1
          go_wp2_with fail
          go_roundw
          case rel => exact ⟨i + 1, k + 1, false, by omega, by go_num, rfl, by omega, HM1, HD1, HO8, HX8, HB8⟩
          case measure => simp [intOf]; omega
    · have hkn : i = nl := by omega
      have t0 : decide ((i : Int) < nl) = false := decide_eq_false (by omega)
      have HTK : Hid (L.take i = L) := hidp (by rw [List.take_of_length_le (by have := HNL.out; omega)])
      clear hkn
      have h1 := HO.out
      have h2 := HM.out
      have h3 := HD.out
      rw [HTK.out] at h1 h2 h3
      have HO1 := hidp h1
      have HM1 := hidp h2
      have HD1 := hidp h3
      clear h1 h2 h3
      cases d with
      | true =>
        go_wp2_with fail
        go_ret
        refine ⟨u5, rfl, ?_, HB.out⟩
        have e : addB L (b1, b2) = (addTo (b1, b2) L).1 := by unfold addB; rw [if_pos HD1.out]
        rw [e, HM1.out]
        exact own_down HO1.out (by omega)
      | false =>
        have hbs := HB.out.size
        have hxs := HX.out.lt
        go_wp2_with (first
          | (at_builtin
             refine wpList_append_lies _ rfl _ _ 51 rfl (w.heap.size + 1) 64 j0 (.agg #[.int .i64 0, .int .i64 0]) 2 16 Tryz.underlying51 hjn hjz0 hjz1 hjz2 rfl (by decide) u5 (k) (bkVs ((addTo (b1, b2) L).1)) rfl (HO1.out.alloc _) ⟨_, 0, none⟩ 1 1 [.int .i64 b1, .int .i64 b2] rfl rfl ?c1 ?c2 (by omega) ?c3 ?c4 ?c5 _ rfl ?_
             case c1 => intro jj yy hyy; rcases jj with _ | _ | jj; (· simp at hyy; subst hyy; simp [Addr.add]); (· simp at hyy; subst hyy; simp [Addr.add]); (· simp at hyy)
             case c2 => simp [Value.oneCell']
             case c3 => unfold maxLen; omega
             case c4 => omega
             case c5 => simp; omega
             intro g8 capg8 w8 hown8 hgrow8 hat8 hlt8)
          | fail)
        have HO8 : Hid (w8.ownsRow (w.heap.size + 1) 64 2 (.slice (some ⟨g8, 0, none⟩) (k + 1) capg8) (k + 1) (bkVs ((addTo (b1, b2) L).1 ++ [(b1, b2)]))) := hidp (by rw [bkVs_snoc]; exact hown8)
        have HB8 : Hid (Below w.heap.size w w8) := hidp ((Bnew HB.out _).grown hgrow8 (by simp; omega) (fun j hj => by have := (HO1.out.lt j hj).1; omega))
        clear hown8 hgrow8 hat8 hlt8
        go_wp2_with fail
        go_ret
        refine ⟨.slice (some ⟨g8, 0, none⟩) (k + 1) capg8, rfl, ?_, HB8.out⟩
        have e : addB L (b1, b2) = (addTo (b1, b2) L).1 ++ [(b1, b2)] := by unfold addB; rw [if_neg (by rw [HD1.out]; simp)]
        rw [e, List.length_append, HM1.out]
        exact own_down HO8.out (by omega)
end
section
theorem used15_no (t q s p : Int) (A : Option Addr) (n c : Nat) (h : p < 0 ∨ q ≤ p) (w : World) :
    Calls Tryz.prog 18 #[.agg #[.int .i64 t, .int .i64 q, .int .i64 s], .slice A n c, .int .i64 p] w fun e w' => e = .returned (.tuple #[.int .i64 0, .bool false]) ∧ Below w.heap.size w w' := by
  have HB := hidp (Bnew (B0 w) (.cells #[.int .i64 t, .int .i64 q, .int .i64 s] 23))
  obtain ⟨x0, x1, x2⟩ := (Held.new w 23 #[.int .i64 t, .int .i64 q, .int .i64 s]).three
  by_cases h0 : p < 0
  · have t0 : decide (p < (0 : Int)) = true := decide_eq_true h0
    go_enter Tryz.func18, Tryz.ntmps18
    go_wp2
    go_ret2
    exact ⟨rfl, HB.out⟩
  · have t0 : decide (p < (0 : Int)) = false := decide_eq_false h0
    have t1 : decide (q ≤ p) = true := decide_eq_true (by omega)
    go_enter Tryz.func18, Tryz.ntmps18
    go_wp2
    go_ret2
    exact ⟨rfl, HB.out⟩
set_option maxHeartbeats 3200000 in
theorem used15_c {H : AuH} {n c : Nat} (HV : HeapV H n c) (ad : Addr) {p : Nat} (hp : p < H.p) (b : Bool) (hb : b = true ↔ H.K p = 2) (w : World) (hv : IsVals w ad n H.V) :
    Calls Tryz.prog 18 #[.agg #[.int .i64 (H.t : Int), .int .i64 (H.p : Int), .int .i64 (H.s : Int)], .slice (some ad) n c, .int .i64 (p : Int)] w fun e w' => e = .returned (.tuple #[.int .i64 (H.ln p : Int), .bool b]) ∧ Below w.heap.size w w' := by
  have t0 : decide ((p : Int) < 0) = false := decide_eq_false (by omega)
  have t1 : decide ((H.p : Int) ≤ (p : Int)) = false := decide_eq_false (by omega)
  have HVL := hidp hv
  have HC := hidp ((Held.new w 23 #[.int .i64 (H.t : Int), .int .i64 (H.p : Int), .int .i64 (H.s : Int)]).alloc (.cells #[.int .i64 (H.t : Int), .int .i64 (H.p : Int), .int .i64 (H.s : Int), .slice (some ad) n c] 101))
  have HX := hidp (Held.new2 w (.cells #[.int .i64 (H.t : Int), .int .i64 (H.p : Int), .int .i64 (H.s : Int)] 23) 101 #[.int .i64 (H.t : Int), .int .i64 (H.p : Int), .int .i64 (H.s : Int), .slice (some ad) n c])
  have HB := hidp (Bnew (Bnew (B0 w) (.cells #[.int .i64 (H.t : Int), .int .i64 (H.p : Int), .int .i64 (H.s : Int)] 23)) (.cells #[.int .i64 (H.t : Int), .int .i64 (H.p : Int), .int .i64 (H.s : Int), .slice (some ad) n c] 101))
  obtain ⟨x0, x1, x2⟩ := HC.out.three
  obtain ⟨v0, v1, v2⟩ := (Held.new w 23 #[.int .i64 (H.t : Int), .int .i64 (H.p : Int), .int .i64 (H.s : Int)]).three
  obtain ⟨y0, y1, y2, y3⟩ := HX.out.four
  obtain ⟨kk, hkk⟩ : ∃ kk, H.K p = kk := ⟨_, rfl⟩
  obtain ⟨ll, hll⟩ : ∃ ll, H.ln p = ll := ⟨_, rfl⟩
  obtain ⟨cc, hcc⟩ : ∃ cc, H.Cl p = cc := ⟨_, rfl⟩
  have HK := hidp hkk
  have HL := hidp hll
  have HCC := hidp hcc
  rw [hkk] at hb
  rw [hll]
  have t2 : (kk == 2) = b := by
    cases b with
    | true => simpa using hb
    | false => simpa using hb
  clear hkk hll hcc hv hb
  go_enter Tryz.func18, Tryz.ntmps18
  go_wp2_with fail
  refine (xInfo_c HV ad hp _ (HVL.out.below HB.out)).mono ?_
  rintro e w4 ⟨rfl, hb⟩
  rw [HK.out, HL.out, HCC.out]
  have HI := hidp (Held.new w4 103 #[.int .i64 kk, .int .i64 (ll : Int), .int .i64 cc])
  replace HB := hidp (Bnew (Bgo HB.out hb) (.cells #[.int .i64 kk, .int .i64 (ll : Int), .int .i64 cc] 103))
  clear hb HC HX x0 x1 x2 y0 y1 y2 y3 v0 v1 v2
  obtain ⟨y0, y1, y2⟩ := HI.out.three
  go_wp2_with fail
  refine wp_region_held_drew (S := (fun w' => w'.cell? ⟨w4.heap.size, 0, none⟩ = some (.int .i64 kk) ∧ w'.cell? ⟨w4.heap.size, 1, none⟩ = some (.int .i64 (ll : Int)))) (by kernel_rfl) ?_ (fun hHeld => ?_)
  · (try dsimp only)
    first | exact ⟨HI.out.drw.three.1, HI.out.drw.three.2.1⟩ | exact hHeld
  refine tkz 0 ?_
  refine tkz 1 ?_
  refine tkz 2 ?_
  refine tkz 3 ?_
  refine tkz 4 ?_
  refine tkz 5 ?_
  refine tkz 6 ?_
  refine wpAnyH_done (by kernel_rfl) ?_ _
  go_wp2
  go_ret2
  exact ⟨rfl, Bdrew HB.out⟩
end
section
theorem told_rules15 {H : AuH} {m : Nat} (h : H.Told m true) : ∀ i, i < 10 → H.rule i := by
  rcases h with ⟨_, _, h⟩ | ⟨h, _⟩
  · exact h
  · cases h
theorem SpanJoins_few (t q s x0v xx : Int) (A : Option Addr) (n c m : Nat) (hq : 64 < q) (W : World)  : Calls Tryz.prog 6 #[.agg #[.int .i64 t, .int .i64 q, .int .i64 s], .slice A n c, .agg #[.int .i64 x0v, .int .i64 xx]] W (Keeps W) := by
  have t2 : decide (q ≤ (64 : Int)) = false := decide_eq_false (by omega)
  have HC := hidp ((Held.new W 23 #[.int .i64 t, .int .i64 q, .int .i64 s]).alloc (.cells #[.int .i64 x0v, .int .i64 xx] 42))
  have HX := hidp (Held.new2 W (.cells #[.int .i64 t, .int .i64 q, .int .i64 s] 23) 42 #[.int .i64 x0v, .int .i64 xx])
  have HB := hidp (Bnew (Bnew (B0 W) (.cells #[.int .i64 t, .int .i64 q, .int .i64 s] 23)) (.cells #[.int .i64 x0v, .int .i64 xx] 42))
  obtain ⟨x0, x1, x2⟩ := HC.out.three
  obtain ⟨y0, y1⟩ := HX.out.two
  go_enter Tryz.func6, Tryz.ntmps6
  go_wp2_with fail
  refine (few14_c t q s _).mono ?_
  rintro e w1 ⟨rfl, hb⟩
  rw [t2]
  replace HC := hidp (HC.out.keep hb)
  replace HX := hidp (HX.out.keep hb)
  replace HB := hidp (Bgo HB.out hb)
  clear hb
  clear x0 x1 x2 y0 y1
  obtain ⟨x0, x1, x2⟩ := HC.out.three
  obtain ⟨y0, y1⟩ := HX.out.two

  
  go_wp2_with fail
  refine (live15_c _).mono ?_
  rintro e w19 ⟨rfl, hb⟩
  have HBL := hidp (Bgo HB.out hb)
  clear hb
  go_wp2
  go_ret
  exact ⟨rfl, HBL.out⟩

theorem SpanJoins_no (t q s x0v xx : Int) (A : Option Addr) (n c m : Nat) (hq : q ≤ 64) (W : World) (hX : Hid (XCheckIs W t q s A n c m false)) : Calls Tryz.prog 6 #[.agg #[.int .i64 t, .int .i64 q, .int .i64 s], .slice A n c, .agg #[.int .i64 x0v, .int .i64 xx]] W (Keeps W) := by
  have t2 : decide (q ≤ (64 : Int)) = true := decide_eq_true (by omega)
  have HC := hidp ((Held.new W 23 #[.int .i64 t, .int .i64 q, .int .i64 s]).alloc (.cells #[.int .i64 x0v, .int .i64 xx] 42))
  have HX := hidp (Held.new2 W (.cells #[.int .i64 t, .int .i64 q, .int .i64 s] 23) 42 #[.int .i64 x0v, .int .i64 xx])
  have HB := hidp (Bnew (Bnew (B0 W) (.cells #[.int .i64 t, .int .i64 q, .int .i64 s] 23)) (.cells #[.int .i64 x0v, .int .i64 xx] 42))
  obtain ⟨x0, x1, x2⟩ := HC.out.three
  obtain ⟨y0, y1⟩ := HX.out.two
  go_enter Tryz.func6, Tryz.ntmps6
  go_wp2_with fail
  refine (few14_c t q s _).mono ?_
  rintro e w1 ⟨rfl, hb⟩
  rw [t2]
  replace HC := hidp (HC.out.keep hb)
  replace HX := hidp (HX.out.keep hb)
  replace HB := hidp (Bgo HB.out hb)
  clear hb
  clear x0 x1 x2 y0 y1
  obtain ⟨x0, x1, x2⟩ := HC.out.three
  obtain ⟨y0, y1⟩ := HX.out.two
  go_wp2_with fail
  refine (xSound_c t q s A n c m false _ (hX.out.grown HB.out)).mono ?_
  rintro e w2 ⟨rfl, hb⟩
  replace HC := hidp (HC.out.keep hb)
  replace HX := hidp (HX.out.keep hb)
  replace HB := hidp (Bgo HB.out hb)
  clear hb
  clear x0 x1 x2 y0 y1
  obtain ⟨x0, x1, x2⟩ := HC.out.three
  obtain ⟨y0, y1⟩ := HX.out.two
  
  go_wp2_with fail
  refine (live15_c _).mono ?_
  rintro e w19 ⟨rfl, hb⟩
  have HBL := hidp (Bgo HB.out hb)
  clear hb
  go_wp2
  go_ret
  exact ⟨rfl, HBL.out⟩

theorem SpanJoins_off (t q s x0v xx : Int) (A : Option Addr) (n c m : Nat) (hq : q ≤ 64) (hx0 : x0v < 0 ∨ q ≤ x0v) (W : World) (hX : Hid (XCheckIs W t q s A n c m true)) : Calls Tryz.prog 6 #[.agg #[.int .i64 t, .int .i64 q, .int .i64 s], .slice A n c, .agg #[.int .i64 x0v, .int .i64 xx]] W (Keeps W) := by
  have t2 : decide (q ≤ (64 : Int)) = true := decide_eq_true (by omega)
  have HC := hidp ((Held.new W 23 #[.int .i64 t, .int .i64 q, .int .i64 s]).alloc (.cells #[.int .i64 x0v, .int .i64 xx] 42))
  have HX := hidp (Held.new2 W (.cells #[.int .i64 t, .int .i64 q, .int .i64 s] 23) 42 #[.int .i64 x0v, .int .i64 xx])
  have HB := hidp (Bnew (Bnew (B0 W) (.cells #[.int .i64 t, .int .i64 q, .int .i64 s] 23)) (.cells #[.int .i64 x0v, .int .i64 xx] 42))
  obtain ⟨x0, x1, x2⟩ := HC.out.three
  obtain ⟨y0, y1⟩ := HX.out.two
  go_enter Tryz.func6, Tryz.ntmps6
  go_wp2_with fail
  refine (few14_c t q s _).mono ?_
  rintro e w1 ⟨rfl, hb⟩
  rw [t2]
  replace HC := hidp (HC.out.keep hb)
  replace HX := hidp (HX.out.keep hb)
  replace HB := hidp (Bgo HB.out hb)
  clear hb
  clear x0 x1 x2 y0 y1
  obtain ⟨x0, x1, x2⟩ := HC.out.three
  obtain ⟨y0, y1⟩ := HX.out.two
  go_wp2_with fail
  refine (xSound_c t q s A n c m true _ (hX.out.grown HB.out)).mono ?_
  rintro e w2 ⟨rfl, hb⟩
  replace HC := hidp (HC.out.keep hb)
  replace HX := hidp (HX.out.keep hb)
  replace HB := hidp (Bgo HB.out hb)
  clear hb
  clear x0 x1 x2 y0 y1
  obtain ⟨x0, x1, x2⟩ := HC.out.three
  obtain ⟨y0, y1⟩ := HX.out.two
  go_wp2_with fail
  refine (used15_no t q s x0v A n c hx0 _).mono ?_
  rintro e w3 ⟨rfl, hb⟩
  replace HB := hidp (Bgo HB.out hb)
  clear hb
  go_wp2_with fail
  refine (live15_c _).mono ?_
  rintro e w19 ⟨rfl, hb⟩
  have HBL := hidp (Bgo HB.out hb)
  clear hb
  go_wp2
  go_ret
  exact ⟨rfl, HBL.out⟩

theorem SpanJoins_kind {H : AuH} (ad : Addr) (n c m p : Nat) (xx : Int) (HV : HeapV H n c) (hq : H.p ≤ 64) (hp : p < H.p) (hk : H.K p ≠ 2) (W : World) (hv : Hid (IsVals W ad n H.V)) (hX : Hid (XCheckIs W H.t H.p H.s (some ad) n c m true)) :
    Calls Tryz.prog 6 #[.agg #[.int .i64 (H.t : Int), .int .i64 (H.p : Int), .int .i64 (H.s : Int)], .slice (some ad) n c, .agg #[.int .i64 (p : Int), .int .i64 xx]] W (Keeps W) := by
  have t2 : decide ((H.p : Int) ≤ (64 : Int)) = true := decide_eq_true (by omega)
  have HC := hidp ((Held.new W 23 #[.int .i64 (H.t : Int), .int .i64 (H.p : Int), .int .i64 (H.s : Int)]).alloc (.cells #[.int .i64 (p : Int), .int .i64 xx] 42))
  have HX := hidp (Held.new2 W (.cells #[.int .i64 (H.t : Int), .int .i64 (H.p : Int), .int .i64 (H.s : Int)] 23) 42 #[.int .i64 (p : Int), .int .i64 xx])
  have HB := hidp (Bnew (Bnew (B0 W) (.cells #[.int .i64 (H.t : Int), .int .i64 (H.p : Int), .int .i64 (H.s : Int)] 23)) (.cells #[.int .i64 (p : Int), .int .i64 xx] 42))
  obtain ⟨x0, x1, x2⟩ := HC.out.three
  obtain ⟨y0, y1⟩ := HX.out.two
  go_enter Tryz.func6, Tryz.ntmps6
  go_wp2_with fail
  refine (few14_c H.t H.p H.s _).mono ?_
  rintro e w1 ⟨rfl, hb⟩
  rw [t2]
  replace HC := hidp (HC.out.keep hb)
  replace HX := hidp (HX.out.keep hb)
  replace HB := hidp (Bgo HB.out hb)
  clear hb
  clear x0 x1 x2 y0 y1
  obtain ⟨x0, x1, x2⟩ := HC.out.three
  obtain ⟨y0, y1⟩ := HX.out.two
  go_wp2_with fail
  refine (xSound_c H.t H.p H.s (some ad) n c m true _ (hX.out.grown HB.out)).mono ?_
  rintro e w2 ⟨rfl, hb⟩
  replace HC := hidp (HC.out.keep hb)
  replace HX := hidp (HX.out.keep hb)
  replace HB := hidp (Bgo HB.out hb)
  clear hb
  clear x0 x1 x2 y0 y1
  obtain ⟨x0, x1, x2⟩ := HC.out.three
  obtain ⟨y0, y1⟩ := HX.out.two
  go_wp2_with fail
  refine (used15_c HV ad hp false (by simpa using hk) _ (hv.out.below HB.out)).mono ?_
  rintro e w3 ⟨rfl, hb⟩
  replace HB := hidp (Bgo HB.out hb)
  clear hb
  go_wp2_with fail
  refine (live15_c _).mono ?_
  rintro e w19 ⟨rfl, hb⟩
  have HBL := hidp (Bgo HB.out hb)
  clear hb
  go_wp2
  go_ret
  exact ⟨rfl, HBL.out⟩
def wholeK15 (vals : List Nat) : Nat → Option Nat := fun i => vals[i]?
end
end Go.Proofs.YtnamlhkccgnbfaaGreat
