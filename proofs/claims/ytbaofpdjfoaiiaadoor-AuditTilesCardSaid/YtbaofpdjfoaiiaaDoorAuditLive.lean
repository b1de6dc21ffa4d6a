/-
  The live blocks; Parts, Live. Written by audit/gen_live.py.
-/
import Derived.Test.YtbaofpdjfoaiiaaDoorAuditParts2
import Derived.Test.YtbaofpdjfoaiiaaDoorAuditHeapOf
namespace Go.Proofs.YtbaofpdjfoaiiaaDoor
open Go.ChangeShapes Go.WideShapes Go.ChangeAt Go.RowKit Go.Shelf
set_option linter.unusedVariables false
set_option linter.unusedSimpArgs false

def blocksOf (l : List (Int × Int × Int)) : List (Int × Int) := (l.filter fun x => decide (x.1 = 2)).map fun x => x.2
def bkVs (l : List (Int × Int)) : List Value := l.flatMap fun x => [.int .i64 x.1, .int .i64 x.2]
theorem bkVs_len (l : List (Int × Int)) : (bkVs l).length = l.length * 2 := by unfold bkVs; induction l with
  | nil => rfl
  | cons x l ih => rw [List.flatMap_cons, List.length_append, ih]; simp; omega
theorem bkVs_snoc (l : List (Int × Int)) (x : Int × Int) : bkVs (l ++ [x]) = bkVs l ++ [.int .i64 x.1, .int .i64 x.2] := by unfold bkVs; rw [List.flatMap_append]; simp
theorem blocksOf_app (l m : List (Int × Int × Int)) : blocksOf (l ++ m) = blocksOf l ++ blocksOf m := by unfold blocksOf; rw [List.filter_append, List.map_append]
theorem blocksOf_yes {x : Int × Int × Int} (h : x.1 = 2) : blocksOf [x] = [x.2] := by simp [blocksOf, h]
theorem blocksOf_no {x : Int × Int × Int} (h : x.1 ≠ 2) : blocksOf [x] = [] := by simp [blocksOf, h]
theorem blocksOf_len (l : List (Int × Int × Int)) : (blocksOf l).length ≤ l.length := by unfold blocksOf; rw [List.length_map]; exact List.length_filter_le _ _
theorem blockInfo : (Tryd.prog.info? 37).map (fun i => (i.zero, i.size, i.bytes)) = some (some (.agg #[.int .i64 0, .int .i64 0]), 2, 16) := by kernel_rfl
theorem ptVs_get : ∀ (l : List (Int × Int × Int)) (i : Nat) (x : Int × Int × Int), l[i]? = some x → (ptVs l)[i * 3]? = some (.int .i64 x.1) ∧ (ptVs l)[i * 3 + 1]? = some (.int .i64 x.2.1) ∧ (ptVs l)[i * 3 + 2]? = some (.int .i64 x.2.2)
  | [], i, x, h => by simp at h
  | y :: l, 0, x, h => by
    simp at h
    subst h
    simp [ptVs]
  | y :: l, i + 1, x, h => by
    have h' : l[i]? = some x := by simpa using h
    obtain ⟨h1, h2, h3⟩ := ptVs_get l i x h'
    have e : ptVs (y :: l) = [.int .i64 y.1, .int .i64 y.2.1, .int .i64 y.2.2] ++ ptVs l := by simp [ptVs]
    have g : ∀ k, (ptVs (y :: l))[(i * 3 + k) + 3]? = (ptVs l)[i * 3 + k]? := fun k => by
      rw [e, List.getElem?_append_right (by simp)]
      simp
    exact ⟨by have := g 0; rw [Nat.add_zero] at this; rw [show (i + 1) * 3 = i * 3 + 3 by omega, this]; exact h1, by rw [show (i + 1) * 3 + 1 = (i * 3 + 1) + 3 by omega, g]; exact h2, by rw [show (i + 1) * 3 + 2 = (i * 3 + 2) + 3 by omega, g]; exact h3⟩
theorem own_caps3 {w : World} {base : Nat} {e : TypeId} {size n c : Nat} {A : Option Addr} {xs : List Value} (h : w.ownsRow base e size (.slice A n c) n xs) : n ≤ c ∧ c ≤ maxLen := by
  rcases h.2 with ⟨h1, h2⟩ | ⟨g, cap, cur, h1, hb, hg, hnc, hcm, hr⟩
  · injection h1 with _ h1 h3; omega
  · injection h1 with _ _ h3; omega
/-- the parts of a row, one by one -/
theorem own_part {w : World} {base n g cap : Nat} {e : TypeId} {l : List (Int × Int × Int)} (h : w.ownsRow base e 3 (.slice (some ⟨g, 0, none⟩) n cap) n (ptVs l)) (hn : l.length = n) {i : Nat} {x : Int × Int × Int} (hx : l[i]? = some x) :
    w.cell? ⟨g, i * 3, none⟩ = some (.int .i64 x.1) ∧ w.cell? ⟨g, i * 3 + 1, none⟩ = some (.int .i64 x.2.1) ∧ w.cell? ⟨g, i * 3 + 2, none⟩ = some (.int .i64 x.2.2) := by
  have hi : i < n := by
    rcases Nat.lt_or_ge i n with h1 | h1
    · exact h1
    · rw [List.getElem?_eq_none (by omega)] at hx; cases hx
  obtain ⟨h1, h2, h3⟩ := ptVs_get l i x hx
  exact ⟨(h.cellAt _ (by omega)).trans h1, (h.cellAt _ (by omega)).trans h2, (h.cellAt _ (by omega)).trans h3⟩

set_option maxHeartbeats 3200000 in
set_option maxRecDepth 100000 in
theorem auLive_c {H : AuH} {n c : Nat} (HV : HeapV H n c) (ht : H.Tiled) (ad : Addr) (w : World) (hv : IsVals w ad n H.V) (hT : SlotsLaid w) :
    Calls Tryd.prog 11 #[hpV H ad n c] w fun e w' => ∃ u, e = .returned u ∧ w'.ownsRow w.heap.size 37 2 u (blocksOf H.parts).length (bkVs (blocksOf H.parts)) ∧ Below w.heap.size w w' := by
  have hx := Held.new w 41 #[.int .i64 (H.t : Int), .int .i64 (H.p : Int), .int .i64 (H.s : Int), .slice (some ad) n c]
  obtain ⟨c0, c1, c2, c3⟩ := hx.four
  have HBW := hidp (Bnew (B0 w) (.cells #[.int .i64 (H.t : Int), .int .i64 (H.p : Int), .int .i64 (H.s : Int), .slice (some ad) n c] 41))
  have HPS := hidp (auParts_c HV ht ad _ (hv.below HBW.out) (hT.below HBW.out))
  have hpl := AuH.parts_len (H := H) H.p
  have hpp := HV.nums.2.2.2.1
  obtain ⟨j0, hjn, hjz0, hjz1, hjz2⟩ := info_parts blockInfo
  obtain ⟨L, hL⟩ : ∃ L, H.parts = L := ⟨_, rfl⟩
  have hpl : L.length ≤ 40000 := by rw [← hL]; unfold AuH.parts; omega
  rw [hL] at HPS ⊢
  obtain ⟨nl, hnl⟩ : ∃ nl, L.length = nl := ⟨_, rfl⟩
  rw [hnl] at HPS hpl
  have HNL := hidp hnl
  clear hx hL hnl hv hT
  unfold hpV
  go_enter Tryd.func11, Tryd.ntmps11
  go_wp2_with (first
    | (go_at_call 10; refine HPS.out.mono ?_; rintro e w2 ⟨v, rfl, hown2, hb2⟩; obtain ⟨Av, cv, rfl⟩ := own_slice hown2; have HO2 := hidp hown2; have HB2 := hidp (Bgo HBW.out hb2); clear hown2 hb2)
    | fail)
  clear c0 c1 c2 c3 HBW HPS
  have HC2 := hidp (own_caps3 HO2.out)
  have hcv : nl ≤ cv ∧ cv ≤ 9223372036854775807 := HC2.out
  go_loopw [3, 9] (fun u i wr => ∃ (k m : Nat), k ≤ nl ∧ i = .int .i64 (k : Int) ∧ m ≤ k ∧ Hid ((blocksOf (L.take k)).length = m) ∧ Hid (wr.ownsRow w2.heap.size 37 2 u m (bkVs (blocksOf (L.take k)))) ∧ Hid (Below w2.heap.size w2 wr)) (fun _ i _ => nl - (intOf i).toNat)
  case atStart => exact ⟨0, 0, by omega, rfl, by omega, hidp rfl, hidp (World.ownsRow_nil _ _ _ _), hidp (B0 _)⟩
  case round =>
    obtain ⟨k, m, hk, rfl, hmk, HM, HO, HB⟩ := hrel
    by_cases hlt : k < nl
    · obtain ⟨x, hx⟩ : ∃ x, L[k]? = some x := ⟨_, List.getElem?_eq_getElem (by have := HNL.out; omega)⟩
      obtain ⟨gv, cv', hvv, hbv, hlv⟩ := HO2.out.form (by omega)
      injection hvv with hvv hn0 hcc
      subst hvv
      subst hcc
      obtain ⟨p0, p1, p2⟩ := own_part (own_below HO2.out HB.out) HNL.out hx
      have HTK : Hid (L.take (k + 1) = L.take k ++ [x]) := hidp (by rw [List.take_add_one, hx]; rfl)
      obtain ⟨kd, a, z⟩ := x
      have t0 : decide ((k : Int) < nl) = true := decide_eq_true (by omega)
      clear hn0 hx
      simp only at p0 p1 p2
      have hbs := HB.out.size
      by_cases h2 : kd = 2
      · subst h2
        have HB1 : Hid (blocksOf (L.take (k + 1)) = blocksOf (L.take k) ++ [(a, z)]) := hidp (by rw [HTK.out, blocksOf_app, blocksOf_yes rfl])
        go_wp2_with (first
          | (at_builtin
             refine wpList_append_lies _ rfl _ _ 29 rfl w2.heap.size 37 j0 (.agg #[.int .i64 0, .int .i64 0]) 2 16 Tryd.underlying29 hjn hjz0 hjz1 hjz2 rfl (by decide) u3 m (bkVs (blocksOf (L.take k))) rfl ((HO.out.alloc _).alloc _) ⟨_, 0, none⟩ 1 1 [.int .i64 a, .int .i64 z] rfl rfl ?c1 ?c2 (by omega) ?c3 ?c4 ?c5 _ rfl ?_
             case c1 => intro jj yy hyy; rcases jj with _ | _ | jj; (· simp at hyy; subst hyy; simp [Addr.add]); (· simp at hyy; subst hyy; simp [Addr.add]); (· simp at hyy)
             case c2 => simp [Value.oneCell']
             case c3 => unfold maxLen; omega
             case c4 => omega
             case c5 => simp; omega
             intro g cap w8 hown8 hgrow8 hat8 hlt8)
          | fail)
        have HO8 : Hid (w8.ownsRow w2.heap.size 37 2 (.slice (some ⟨g, 0, none⟩) (m + 1) cap) (m + 1) (bkVs (blocksOf (L.take (k + 1))))) := hidp (by rw [HB1.out, bkVs_snoc]; exact hown8)
        have HB8 : Hid (Below w2.heap.size w2 w8) := hidp ((Bnew (Bnew HB.out _) _).grown hgrow8 (by simp; omega) (fun i hi => (HO.out.lt i hi).1))
        have HM1 : Hid ((blocksOf (L.take (k + 1))).length = m + 1) := hidp (by rw [HB1.out, List.length_append, HM.out]; rfl)
        clear hown8 hgrow8 hat8 hlt8
        go_wp2_with fail
        go_roundw
        case rel => exact ⟨k + 1, m + 1, by omega, by go_num, by omega, HM1, HO8, HB8⟩
        case measure => simp [intOf]; omega
      · have HB1 : Hid (blocksOf (L.take (k + 1)) = blocksOf (L.take k)) := hidp (by rw [HTK.out, blocksOf_app, blocksOf_no h2, List.append_nil])
        have q0 : (kd == 2) = false := by simpa using h2
        go_wp2_with fail
        go_roundw
        case rel => exact ⟨k + 1, m, by omega, by go_num, by omega, hidp (by rw [HB1.out]; exact HM.out), hidp (by rw [HB1.out]; exact HO.out.alloc _), hidp (Bnew HB.out _)⟩
        case measure => simp [intOf]; omega
    · have hkn : k = nl := by omega
      have t0 : decide ((k : Int) < nl) = false := decide_eq_false (by omega)
      have HTK : Hid (L.take k = L) := hidp (by rw [List.take_of_length_le (by have := HNL.out; omega)])
      clear hkn
      go_wp2_with fail
      go_ret
      refine ⟨u3, rfl, ?_, HB2.out.trans (HB.out.mono HB2.out.size)⟩
      have h1 := HO.out
      have h2 := HM.out
      rw [HTK.out] at h1 h2
      rw [h2]
      exact own_down h1 HB2.out.size


set_option maxHeartbeats 1600000 in
theorem auPartsTop_no (t q s : Int) (A : Option Addr) (n c m : Nat) (w : World) (hC : CheckIs w t q s A n c m false) :
    Calls Tryd.prog 6 #[.agg #[.int .i64 t, .int .i64 q, .int .i64 s], .slice A n c] w fun e w' => e = .returned (.slice none 0 0) ∧ Below w.heap.size w w' := by
  have hx := Held.new w 23 #[.int .i64 t, .int .i64 q, .int .i64 s]
  obtain ⟨c0, c1, c2⟩ := hx.three
  have HBW := hidp (Bnew (B0 w) (.cells #[.int .i64 t, .int .i64 q, .int .i64 s] 23))
  have HHO := hidp (auHeapOf_c t q s A n c m false _ (hC.grown HBW.out))
  clear hx hC
  unfold cfV at HHO
  go_enter Tryd.func6, Tryd.ntmps6
  go_wp2_with (first
    | (go_at_call 9; refine HHO.out.mono ?_; rintro e w2 ⟨rfl, hb2⟩; have HB2 := hidp (Bgo HBW.out hb2); clear hb2)
    | fail)
  go_ret
  exact ⟨rfl, Bnew HB2.out _⟩
set_option maxHeartbeats 1600000 in
theorem auPartsTop_yes {H : AuH} {n c : Nat} (HV : HeapV H n c) (ht : H.Tiled) (ad : Addr) (m : Nat) (w : World) (hv : IsVals w ad n H.V) (hT : SlotsLaid w) (hC : CheckIs w H.t H.p H.s (some ad) n c m true) :
    Calls Tryd.prog 6 #[.agg #[.int .i64 (H.t : Int), .int .i64 (H.p : Int), .int .i64 (H.s : Int)], .slice (some ad) n c] w fun e w' => ∃ u, e = .returned u ∧ w'.ownsRow w.heap.size 35 3 u H.parts.length (ptVs H.parts) ∧ Below w.heap.size w w' := by
  have hx := Held.new w 23 #[.int .i64 (H.t : Int), .int .i64 (H.p : Int), .int .i64 (H.s : Int)]
  obtain ⟨c0, c1, c2⟩ := hx.three
  have HBW := hidp (Bnew (B0 w) (.cells #[.int .i64 (H.t : Int), .int .i64 (H.p : Int), .int .i64 (H.s : Int)] 23))
  have HHO := hidp (auHeapOf_c (H.t : Int) (H.p : Int) (H.s : Int) (some ad) n c m true _ (hC.grown HBW.out))
  have HVL := hidp hv
  have HTL := hidp hT
  clear hx hC hv hT
  unfold cfV at HHO
  have HPP := hidp (fun (W : World) (h1 : Below w.heap.size w W) => auParts_c HV ht ad W (HVL.out.below h1) (HTL.out.below h1))
  unfold hpV at HPP
  go_enter Tryd.func6, Tryd.ntmps6
  go_wp2_with (first
    | (go_at_call 9; refine HHO.out.mono ?_; rintro e w2 ⟨rfl, hb2⟩; have HB2 := hidp (Bgo HBW.out hb2); have HB3 := hidp (Bnew HB2.out (.cells #[.int .i64 (H.t : Int), .int .i64 (H.p : Int), .int .i64 (H.s : Int), .slice (some ad) n c] 41)); have hx2 := Held.new w2 41 #[.int .i64 (H.t : Int), .int .i64 (H.p : Int), .int .i64 (H.s : Int), .slice (some ad) n c]; clear hb2 c0 c1 c2; obtain ⟨c0, c1, c2, c3⟩ := hx2.four)
    | (go_at_call 10; refine (HPP.out _ HB3.out).mono ?_; rintro e w4 ⟨u, rfl, hown4, hb4⟩; have HO4 := hidp hown4; have HB4 := hidp (Bgo HB3.out hb4); clear hown4 hb4)
    | fail)
  go_ret
  exact ⟨u, rfl, own_down HO4.out HB3.out.size, HB4.out⟩


set_option maxHeartbeats 1600000 in
theorem auLiveTop_no (t q s : Int) (A : Option Addr) (n c m : Nat) (w : World) (hC : CheckIs w t q s A n c m false) :
    Calls Tryd.prog 7 #[.agg #[.int .i64 t, .int .i64 q, .int .i64 s], .slice A n c] w fun e w' => e = .returned (.slice none 0 0) ∧ Below w.heap.size w w' := by
  have hx := Held.new w 23 #[.int .i64 t, .int .i64 q, .int .i64 s]
  obtain ⟨c0, c1, c2⟩ := hx.three
  have HBW := hidp (Bnew (B0 w) (.cells #[.int .i64 t, .int .i64 q, .int .i64 s] 23))
  have HHO := hidp (auHeapOf_c t q s A n c m false _ (hC.grown HBW.out))
  clear hx hC
  unfold cfV at HHO
  go_enter Tryd.func7, Tryd.ntmps7
  go_wp2_with (first
    | (go_at_call 9; refine HHO.out.mono ?_; rintro e w2 ⟨rfl, hb2⟩; have HB2 := hidp (Bgo HBW.out hb2); clear hb2)
    | fail)
  go_ret
  exact ⟨rfl, Bnew HB2.out _⟩
set_option maxHeartbeats 1600000 in
theorem auLiveTop_yes {H : AuH} {n c : Nat} (HV : HeapV H n c) (ht : H.Tiled) (ad : Addr) (m : Nat) (w : World) (hv : IsVals w ad n H.V) (hT : SlotsLaid w) (hC : CheckIs w H.t H.p H.s (some ad) n c m true) :
    Calls Tryd.prog 7 #[.agg #[.int .i64 (H.t : Int), .int .i64 (H.p : Int), .int .i64 (H.s : Int)], .slice (some ad) n c] w fun e w' => ∃ u, e = .returned u ∧ w'.ownsRow w.heap.size 37 2 u (blocksOf H.parts).length (bkVs (blocksOf H.parts)) ∧ Below w.heap.size w w' := by
  have hx := Held.new w 23 #[.int .i64 (H.t : Int), .int .i64 (H.p : Int), .int .i64 (H.s : Int)]
  obtain ⟨c0, c1, c2⟩ := hx.three
  have HBW := hidp (Bnew (B0 w) (.cells #[.int .i64 (H.t : Int), .int .i64 (H.p : Int), .int .i64 (H.s : Int)] 23))
  have HHO := hidp (auHeapOf_c (H.t : Int) (H.p : Int) (H.s : Int) (some ad) n c m true _ (hC.grown HBW.out))
  have HVL := hidp hv
  have HTL := hidp hT
  clear hx hC hv hT
  unfold cfV at HHO
  have HPP := hidp (fun (W : World) (h1 : Below w.heap.size w W) => auLive_c HV ht ad W (HVL.out.below h1) (HTL.out.below h1))
  unfold hpV at HPP
  go_enter Tryd.func7, Tryd.ntmps7
  go_wp2_with (first
    | (go_at_call 9; refine HHO.out.mono ?_; rintro e w2 ⟨rfl, hb2⟩; have HB2 := hidp (Bgo HBW.out hb2); have HB3 := hidp (Bnew HB2.out (.cells #[.int .i64 (H.t : Int), .int .i64 (H.p : Int), .int .i64 (H.s : Int), .slice (some ad) n c] 41)); have hx2 := Held.new w2 41 #[.int .i64 (H.t : Int), .int .i64 (H.p : Int), .int .i64 (H.s : Int), .slice (some ad) n c]; clear hb2 c0 c1 c2; obtain ⟨c0, c1, c2, c3⟩ := hx2.four)
    | (go_at_call 11; refine (HPP.out _ HB3.out).mono ?_; rintro e w4 ⟨u, rfl, hown4, hb4⟩; have HO4 := hidp hown4; have HB4 := hidp (Bgo HB3.out hb4); clear hown4 hb4)
    | fail)
  go_ret
  exact ⟨u, rfl, own_down HO4.out HB3.out.size, HB4.out⟩

end Go.Proofs.YtbaofpdjfoaiiaaDoor
