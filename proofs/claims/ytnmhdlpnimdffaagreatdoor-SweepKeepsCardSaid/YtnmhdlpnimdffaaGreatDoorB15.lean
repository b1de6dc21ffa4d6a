/-
  What the document's answer of layer 17 does: how often an address is among some, all addresses of a class, which pockets are few.
-/
import Derived.Test.YtnmhdlpnimdffaaGreatDoorB14
import Derived.Test.YtnmhdlpnimdffaaGreatDoorB06
import Derived.Test.YtnmhdlpnimdffaaGreatDoorB01
import Derived.Test.YtnmhdlpnimdffaaGreatDoorB13
import Derived.Test.YtnmhdlpnimdffaaGreatDoorB03
import Derived.Laws.MakeOwn
import Derived.Test.YtnmhdlpnimdffaaGreatDoorB02
import Derived.Deep.RegionHeld3
import Derived.Deep.CutRange
import Derived.Test.YtnmhdlpnimdffaaGreatDoorBKit
import Derived.Lib.SmallJoins
namespace Go.Proofs.YtnmhdlpnimdffaaGreatDoor
open Go.ChangeShapes Go.WideShapes Go.ChangeAt Go.RowKit Go.Maps
set_option linter.unusedVariables false
set_option linter.unusedSimpArgs false
set_option maxRecDepth 100000
section
theorem count_take {l : List Int} {i : Nat} {z : Int} (a : Int) (hz : l[i]? = some z) : (l.take (i + 1)).count a = (l.take i).count a + if z = a then 1 else 0 := by
 rw [List.take_add_one, hz, List.count_append]
 congr 1
 show [z].count a = _
 rw [List.count_singleton]
 by_cases h : z = a
 ·subst h; simp
 ·rw [if_neg h]; simp [h]
theorem rOften_c (u : Value) (l : List Int) (a : Int) (nl : Nat) (hnl : l.length = nl) (hl : nl <= 1000000) (w : World) (h : LongsAt w u l) :
  Calls Tryz.prog 60 #[u, .int .i64 a] w fun e w' => e = .returned (.int .i64 ((l.count a : Nat) : Int)) /\ w = w' := by
 obtain ⟨A, c, rfl, hlc, hcm, hb, hnone, hcell⟩ := h
 have HNL := hidp hnl
 have HCL := hidp hcell
 have HNO := hidp hnone
 rw [hnl] at hlc ⊢
 clear hnl hcell hnone
 go_enter Tryz.func60, Tryz.ntmps60
 go_wp2
 go_loop [5, 6] (fun u5 u6 => ∃ i : Nat, i <= nl /\ u6 = .int .i64 (i : Int) /\ u5 = .int .i64 (((l.take i).count a : Nat) : Int)) (fun _ u6 => nl - (intOf u6).toNat)
 case atStart => exact ⟨0, by omega, rfl, rfl⟩
 case round =>
  obtain ⟨i, hi, rfl, rfl⟩ := hrel
  by_cases hlt : i < nl
  ·obtain ⟨z, hz⟩ : ∃ z, l[i]? = some z := ⟨_, List.getElem?_eq_getElem (by rw [HNL.out]; exact hlt)⟩
   cases A with
   | none => exact absurd HNL.out (by rw [(HNO.out rfl).1]; simp; omega)
   | some ad =>
    have hc := (HCL.out ad rfl).2 i z hz
    have HT := hidp (count_take a hz)
    have hk : (l.take i).count a <= i := Nat.le_trans List.count_le_length (by rw [List.length_take]; omega)
    clear hz
    generalize (l.take i).count a = y at *
    by_cases h4 : z = a
    ·have t0 : (z == a) = true := by simpa using h4
     rw [if_pos h4] at HT
     clear h4
     go_wp2
     go_round
     case rel => exact ⟨i + 1, by omega, by go_num, by rw [HT.out]; go_num⟩
     case measure => simp [intOf]; omega
    ·have t0 : (z == a) = false := by simpa using h4
     rw [if_neg h4, Nat.add_zero] at HT
     clear h4
     go_wp2
     go_round
     case rel => exact ⟨i + 1, by omega, by go_num, by rw [HT.out]; rfl⟩
     case measure => simp [intOf]; omega
  ·obtain rfl : i = nl := by omega
   have HE : Hid (l.take i = l) := hidp (List.take_of_length_le (by rw [HNL.out]; exact Nat.le_refl _))
   go_wp2
   go_ret
   exact ⟨by rw [HE.out]; rfl, rfl⟩
def lgVs (l : List Int) : List Value := l.map (Value.int .i64)
theorem lgVs_len (l : List Int) : (lgVs l).length = l.length := List.length_map ..
theorem lgVs_get {l : List Int} {j : Nat} {u : Value} (h : (lgVs l)[j]? = some u) : ∃ z, l[j]? = some z /\ u = .int .i64 z := by
 unfold lgVs at h
 rw [List.getElem?_map] at h
 cases hz : l[j]? with
 | none => rw [hz] at h; cases h
 | some z => rw [hz] at h; injection h with h; exact ⟨z, rfl, h.symm⟩
theorem own_caps_any {w : World} {base : Nat} {e : TypeId} {size n c : Nat} {A : Option Addr} {xs : List Value} (h : w.ownsRow base e size (.slice A n c) n xs) : n <= c /\ c <= 9223372036854775807 := by
 rcases h.2 with ⟨h1, h2⟩ | ⟨g, cap, cur, h1, hb, hg, hnc, hcm, hr⟩
 ·injection h1 with _ h1 h3; omega
 ·injection h1 with _ _ h3; unfold maxLen at hcm; omega
set_option maxHeartbeats 3200000 in
theorem rAll_c (A : Option Addr) (T c k : Nat) (U : Nat -> Nat -> Sl) (Z : Nat -> Nat -> List Int) (hT : T <= 1000) (hk : k < 9) (hl : ∀ t, t < T -> (Z t k).length <= 1000) (hTc : T <= c) (hcm : c <= maxLen) (w : World) (h : PksAt w A T U Z) :
    Calls Tryz.prog 58 #[.slice A T c, .int .i64 (k : Int)] w fun e w' => ∃ u, e = .returned u /\ w'.ownsRow w.heap.size 2 1 u (haveT Z k T).length (lgVs (haveT Z k T)) /\ Below w.heap.size w w' := by
  have HP := hidp h
  have HB := hidp (Bnew (B0 w) (.cells #[] 2))
  have HO : Hid ((w.alloc (.cells #[] 2)).ownsRow w.heap.size 2 1 (.slice (some ⟨w.heap.size, 0, none⟩) 0 0) 0 []) := hidp (World.ownsRow_lit (base := w.heap.size) (e := 2) (size := 1) w #[] 0 (Nat.le_refl _) (by unfold maxLen; omega) rfl)
  have hlen : ∀ i, i <= T -> (haveT Z k i).length <= i * 1000 := fun i => by
    induction i with
    | zero => intro _; exact Nat.le_refl _
    | succ i ih =>
      intro hi
      unfold haveT
      rw [List.length_append]
      have := ih (by omega)
      have := hl i (by omega)
      omega
  obtain ⟨i0, hi0, hz0, hz1, hz2⟩ := info_parts longInfo
  clear h
  go_enter Tryz.func58, Tryz.ntmps58
  go_wp2
  go_loopw [5, 6] (fun u5 u6 wr => ∃ i : Nat, i <= T /\ u6 = .int .i64 (i : Int) /\ Hid (wr.ownsRow w.heap.size 2 1 u5 (haveT Z k i).length (lgVs (haveT Z k i))) /\ Hid (Below w.heap.size w wr)) (fun _ u6 _ => T - (intOf u6).toNat)
  case atStart => exact ⟨0, by omega, rfl, HO, HB⟩
  case round =>
    clear HO HB
    obtain ⟨i, hi, rfl, HO, HB⟩ := hrel
    by_cases hlt : i < T
    · obtain ⟨ad, e, _, hcs⟩ := HP.out.below HB.out i hlt
      subst e
      obtain ⟨hc0, hL⟩ := hcs k hk
      obtain ⟨A2, c2, hu, hlc, hcm2, _, hno, hcl⟩ := hL
      rw [hu] at hc0
      have hc1 := hc0
      rw [<- add_of_add] at hc1
      have hll := hlen i hi
      have hz := hl i hlt
      have HE : Hid (haveT Z k (i + 1) = haveT Z k i ++ Z i k) := hidp rfl
      have HCL := hidp hcl
      obtain ⟨n1, hn1⟩ : ∃ n1, (Z i k).length = n1 := ⟨_, rfl⟩
      obtain ⟨n0, hn0⟩ : ∃ n0, (haveT Z k i).length = n0 := ⟨_, rfl⟩
      have HN1 := hidp hn1
      have HN0 := hidp hn0
      rw [hn0] at HO hll
      rw [hn1] at hc0 hc1 hlc hz
      obtain ⟨A1, c1, hu1⟩ := own_slice HO.out
      subst hu1
      have hcc := own_caps_any HO.out
      clear hcl hu hn1 hn0
      cases A2 with
      | none =>
        obtain ⟨hz1', hz2'⟩ := hno rfl
        have hn10 : n1 = 0 := by rw [<- HN1.out, hz1']; rfl
        subst hn10
        subst hz2'
        go_wp2_with (first
          | (at_builtin
             refine wpList_append_none rfl _ _ 97 rfl 2 i0 Tryz.underlying97 hi0 A1 n0 c1 0 hcc.1 rfl rfl ?_)
          | fail)
        go_roundw
        case rel => exact ⟨i + 1, by omega, by go_num, by rw [HE.out, hz1', List.append_nil, HN0.out]; exact HO, HB⟩
        case measure => simp [intOf]; omega
      | some ad2 =>
        go_wp2_with (first
          | (at_builtin
             refine wpList_append_own _ rfl _ _ 97 rfl w.heap.size 2 i0 (.int .i64 0) 1 8 Tryz.underlying97 hi0 hz0 hz1 hz2 rfl (by decide) _ _ _ rfl HO.out ad2 n1 c2 (lgVs (Z i k)) rfl ?c0 ?c1 ?c2 ?c3 ?c4 ?c5 ?_
             case c0 => rw [lgVs_len, HN1.out]; omega
             case c1 => intro j y hy; obtain ⟨z, hz, rfl⟩ := lgVs_get hy; exact (HCL.out ad2 rfl).2 j z hz
             case c2 => intro y hy; obtain ⟨j, hj⟩ := List.mem_iff_getElem?.1 hy; obtain ⟨z, _, rfl⟩ := lgVs_get hj; simp [Value.oneCell']
             case c3 => unfold maxLen; omega
             case c4 => omega
             case c5 => have := HB.out.size; omega
             intro u7 w7 hown7 hgrow hat7
             have HO7 : Hid (w7.ownsRow w.heap.size 2 1 u7 (haveT Z k (i + 1)).length (lgVs (haveT Z k (i + 1)))) := hidp (by rw [HE.out, List.length_append, HN0.out, HN1.out]; unfold lgVs at hown7 ⊢; rw [List.map_append]; exact hown7)
             have HB7 := hidp (HB.out.grown hgrow (by have := HB.out.size; omega) (fun j hj => (HO.out.lt j hj).1))
             clear hown7 hgrow hat7)
          | fail)
        go_roundw
        case rel => exact ⟨i + 1, by omega, by go_num, HO7, HB7⟩
        case measure => simp [intOf]; omega
    · obtain rfl : i = T := by omega
      go_wp2
      go_ret
      exact ⟨_, rfl, HO.out, HB.out⟩
end
end Go.Proofs.YtnmhdlpnimdffaaGreatDoor

namespace Go.Proofs.YtnmhdlpnimdffaaGreatDoor
open Go.ChangeShapes Go.WideShapes Go.ChangeAt Go.RowKit Go.Maps
set_option linter.unusedVariables false
set_option linter.unusedSimpArgs false
section
theorem longs_of_own {w : World} {base : Nat} {u : Value} {l : List Int} (h : w.ownsRow base 2 1 u l.length (lgVs l)) (hb : ∀ z ∈ l, -9223372036854775808 <= z /\ z <= 9223372036854775807) : LongsAt w u l := by
 have hx : ∀ {A : Option Addr} {c : Nat}, u = .slice A l.length c -> A ≠ none -> True := fun _ _ => trivial
 rcases h.2 with ⟨hu, hn⟩ | ⟨g, cap, cur, hu, hbs, hg, hnc, hcm, hr⟩
 ·have hl : l = [] := List.length_eq_zero_iff.1 hn
  subst hl
  exact ⟨none, 0, hu, Nat.le_refl _, Nat.zero_le _, hb, fun _ => ⟨rfl, rfl⟩, fun ad e => by cases e⟩
 ·refine ⟨some ⟨g, 0, none⟩, cap, hu, hnc, hcm, hb, (fun e => by cases e), fun ad e => ?_⟩
  injection e with e
  subst e
  refine ⟨fun _ => (h.lt g (by rw [hu]; rfl)).2, fun i z hz => ?_⟩
  have hi : i < l.length := by
   rcases Nat.lt_or_ge i l.length with h1 | h1
   ·exact h1
   ·rw [List.getElem?_eq_none h1] at hz; cases hz
  subst hu
  have h1 := h.cellAt i (by omega)
  rw [show (⟨g, 0, none⟩ : Addr).add i = ⟨g, i, none⟩ by unfold Addr.add; by_cases h0 : i = 0 <;> simp [h0]]
  rw [h1]
  unfold lgVs
  rw [List.getElem?_map, hz]
  rfl
end
end Go.Proofs.YtnmhdlpnimdffaaGreatDoor

namespace Go.Proofs.YtnmhdlpnimdffaaGreatDoor
open Go.ChangeShapes Go.WideShapes Go.ChangeAt Go.RowKit Go.Maps
set_option linter.unusedVariables false
set_option linter.unusedSimpArgs false
set_option maxRecDepth 100000
section
theorem pkA_take {parts : List (Int × Int × Int)} {i : Nat} {x : Int × Int × Int} (z : Int) (hx : parts[i]? = some x) : pkA (parts.take (i + 1)) z = pkA (parts.take i) z ++ if x.1 = 4 /\ x.2.2 = z then [x.2.1] else [] := by
 rw [List.take_add_one, hx]
 unfold pkA
 show List.map _ (List.filter _ (parts.take i ++ [x])) = _
 rw [List.filter_append, List.map_append]
 congr 1
 by_cases h : x.1 = 4 /\ x.2.2 = z
 ·rw [if_pos h, List.filter_cons_of_pos (by simp [h.1, h.2])]; rfl
 ·rw [if_neg h, List.filter_cons_of_neg (by simp only [Bool.and_eq_true, decide_eq_true_eq]; exact h)]; rfl
theorem haveT_len {Z : Nat -> Nat -> List Int} {k B : Nat} : ∀ {T : Nat}, (∀ t, t < T -> (Z t k).length <= B) -> (haveT Z k T).length <= T * B
 | 0, _ => Nat.zero_le _
 | T + 1, h => by
  unfold haveT
  rw [List.length_append, Nat.add_mul, Nat.one_mul]
  have := haveT_len (T := T) (fun t ht => h t (by omega))
  have := h T (by omega)
  omega
theorem haveT_mem {Z : Nat -> Nat -> List Int} {k : Nat} {a : Int} : ∀ {T : Nat}, a ∈ haveT Z k T -> ∃ t, t < T /\ a ∈ Z t k
 | 0, h => by simp [haveT] at h
 | T + 1, h => by
  unfold haveT at h
  rcases List.mem_append.1 h with h | h
  ·obtain ⟨t, h1, h2⟩ := haveT_mem h
   exact ⟨t, by omega, h2⟩
  ·exact ⟨T, by omega, h⟩
theorem mem_pkA_at {l : List (Int × Int × Int)} {i : Nat} {xk xa xz z : Int} (hx : l[i]? = some (xk, xa, xz)) (h4 : xk = 4) (hz : xz = z) : xa ∈ pkA l z := by
 unfold pkA
 exact List.mem_map.2 ⟨_, List.mem_filter.2 ⟨List.mem_of_getElem? hx, by simp [h4, hz]⟩, rfl⟩
theorem pkA_len (l : List (Int × Int × Int)) (z : Int) : (pkA l z).length <= l.length := by unfold pkA; rw [List.length_map]; exact List.length_filter_le _ _
theorem overN_bound {parts : List (Int × Int × Int)} {sz : Nat -> Int} {T B : Nat} {Z : Nat -> Nat -> List Int} {m : Nat} (h : ∀ k, k < m -> (haveT Z k T).length <= B) : ∀ j : Nat, j <= m -> -((j : Int) * parts.length) <= overN parts sz T Z j /\ overN parts sz T Z j <= (j : Int) * B
 | 0, _ => by unfold overN; simp
 | j + 1, hj => by
  obtain ⟨h1, h2⟩ := overN_bound (sz := sz) h j (by omega)
  have h3 := h j (by omega)
  have h4 := pkA_len parts (sz j)
  unfold overN
  have e1 : ((j + 1 : Nat) : Int) * (parts.length : Int) = (j : Int) * parts.length + parts.length := by push_cast; rw [Int.add_mul]; omega
  have e2 : ((j + 1 : Nat) : Int) * (B : Int) = (j : Int) * B + B := by push_cast; rw [Int.add_mul]; omega
  rw [e1, e2]
  generalize (j : Int) * (parts.length : Int) = x1 at *
  generalize (j : Int) * (B : Int) = x2 at *
  omega
set_option maxHeartbeats 12800000 in
theorem rFits_heap {H : AuH} {n c : Nat} (HV : HeapV H n c) (ad : Addr) (m : Nat) (A2 : Option Addr) (c2 : Nat) (U : Nat -> Nat -> Sl) (Z : Nat -> Nat -> List Int) (hTc : H.t <= c2) (hc2 : c2 <= maxLen)
  (sz : Nat -> Int) (hsz : ∀ k : Nat, k < 9 -> ((sizeN (H.s : Int) (k : Int) : Nat) : Int) = sz k) (hnd : ∀ k, k < 9 -> (pkA H.parts (sz k)).Nodup) (b : Bool) (hb : b = true ↔ FitsP H.parts sz H.t Z)
  (w : World) (hv : IsVals w ad n H.V) (hX : XCheckIs w H.t H.p H.s (some ad) n c m true) (hP : PksAt w A2 H.t U Z) :
  Calls Tryz.prog 22 #[.agg #[.int .i64 (H.t : Int), .int .i64 (H.p : Int), .int .i64 (H.s : Int)], .slice (some ad) n c, .slice A2 H.t c2] w fun e w' => e = .returned (.bool b) /\ Below w.heap.size w w' := by
 have HNO : Hid (∀ k, k < 9 -> ¬ OnceP H.parts sz H.t Z k -> b = false) := hidp (fun k hk h => by
  cases b with
  | false => rfl
  | true => exact absurd (((fits_iff hnd).2 (hb.1 rfl)).1 k hk) h)
 have HYES : Hid ((∀ k, k < 9 -> OnceP H.parts sz H.t Z k) -> b = (overN H.parts sz H.t Z 9 == 0)) := hidp (fun h => by
  by_cases h0 : overN H.parts sz H.t Z 9 = 0
  ·rw [hb.2 ((fits_iff hnd).1 ⟨h, h0⟩), h0]; rfl
  ·cases b with
   | false => symm; simpa using h0
   | true => exact absurd ((fits_iff hnd).2 (hb.1 rfl)).2 h0)
 have HC := hidp (Held.new w 23 #[.int .i64 (H.t : Int), .int .i64 (H.p : Int), .int .i64 (H.s : Int)])
 have HB := hidp (Bnew (B0 w) (.cells #[.int .i64 (H.t : Int), .int .i64 (H.p : Int), .int .i64 (H.s : Int)] 23))
 have HXX := hidp hX
 have HVL := hidp hv
 have HPP := hidp hP
 have HSZA := hidp hsz
 obtain ⟨l, hpl⟩ : ∃ l, H.parts = l := ⟨_, rfl⟩
 obtain ⟨nl, hnl⟩ : ∃ nl, l.length = nl := ⟨_, rfl⟩
 have hnum := HV.nums
 have hT16 : H.t <= 16 := by omega
 have hnb : nl <= 60000 := by
  have h2 : H.parts.length <= H.p * 33 := AuH.parts_len H.p
  rw [hpl, hnl] at h2
  omega
 have HPL := hidp hpl
 have HNL := hidp hnl
 rw [hpl] at HNO HYES
 have t0 : ((H.t : Int) != (H.t : Int)) = false := by simp
 have s0 : -9223372036854775808 <= (H.s : Int) := by omega
 clear hb hX hv hP hsz hnl hpl hnd
 obtain ⟨x0, x1, x2⟩ := HC.out.three
 go_enter Tryz.func22, Tryz.ntmps22
 go_wp2_with fail
 refine (xSound_c H.t H.p H.s (some ad) n c m true _ (HXX.out.grown HB.out)).mono ?_
 rintro e w2 ⟨rfl, hb⟩
 replace HC := hidp (HC.out.keep hb)
 replace HB := hidp (Bgo HB.out hb)
 clear hb x0 x1 x2
 obtain ⟨x0, x1, x2⟩ := HC.out.three
 go_wp2_with fail
 refine (xPartsTop_yes HV ad m _ (HVL.out.below HB.out) (HXX.out.grown HB.out)).mono ?_
 rintro e w3 ⟨u3, rfl, ho, hb⟩
 rw [HPL.out, HNL.out] at ho
 obtain ⟨A1, c1, hu⟩ := own_slice ho
 subst hu
 have hcc := own_caps_any ho
 generalize w2.heap.size = bs at ho
 have HO := hidp ho
 replace HC := hidp (HC.out.keep hb)
 replace HB := hidp (Bgo HB.out hb)
 clear ho hb x0 x1 x2
 have HIB : Hid (∀ k, k < 9 -> ∀ z ∈ haveT Z k H.t, -9223372036854775808 <= z /\ z <= 9223372036854775807) := hidp (fun k hk z hz => by
  obtain ⟨t, ht, hz⟩ := haveT_mem hz
  obtain ⟨_, _, _, hcs⟩ := HPP.out t ht
  obtain ⟨_, _, _, _, _, hb, _⟩ := (hcs k hk).2
  exact hb z hz)
 go_wp2_with fail
 go_loopw [8, 9] (fun u8 u9 wr => ∃ (k : Nat) (ov : Int), k <= 9 /\ u9 = .int .i64 (k : Int) /\ u8 = .int .i64 ov /\ Hid (overN l sz H.t Z k = ov) /\ Hid (∀ j, j < k -> OnceP l sz H.t Z j) /\ Hid (Held wr w.heap.size 23 #[.int .i64 (H.t : Int), .int .i64 (H.p : Int), .int .i64 (H.s : Int)]) /\ Hid (wr.ownsRow bs 102 3 (.slice A1 nl c1) nl (ptVs l)) /\ Hid (Below w.heap.size w wr)) (fun _ u9 _ => 9 - (intOf u9).toNat)
 case atStart => exact ⟨0, 0, by omega, rfl, rfl, hidp rfl, hidp (fun j hj => absurd hj (Nat.not_lt_zero _)), HC, HO, HB⟩
 case round =>
  clear HC HO HB
  obtain ⟨k, ov, hk, rfl, rfl, HOV, HON, HC, HO, HB⟩ := hrel
  by_cases hk9 : k < 9
  ·go_wp2_with fail
   go_loopw [10] (fun u10 wr2 => ∃ t : Nat, t <= H.t /\ u10 = .int .i64 (t : Int) /\ wr2 = wr /\ Hid (∀ t', t' < t -> (Z t' k).length <= 4)) (fun u10 _ => H.t - (intOf u10).toNat)
   case atStart => exact ⟨0, by omega, rfl, rfl, hidp (fun j hj => absurd hj (Nat.not_lt_zero _))⟩
   case round =>
    obtain ⟨t, ht, rfl, rfl, HF4⟩ := hrel
    by_cases htT : t < H.t
    ·obtain ⟨ad2, e2, _, hcs⟩ := HPP.out.below HB.out t htT
     obtain ⟨hc0, hL⟩ := hcs k hk9
     obtain ⟨A3, c3, hu, hlc, hcm2, _, _, _⟩ := hL
     rw [hu] at hc0
     have hc1 := hc0
     rw [<- add_of_add] at hc1
     obtain ⟨n1, hn1⟩ : ∃ n1, (Z t k).length = n1 := ⟨_, rfl⟩
     have HN1 := hidp hn1
     have hz : (Z t k).length <= 9223372036854775807 := Nat.le_trans hlc (by unfold maxLen at hcm2; omega)
     rw [hn1] at hc0 hc1 hlc hz
     clear hu hn1 hcs
     by_cases h4 : n1 <= 4
     ·have t1 : decide ((4 : Int) < (n1 : Int)) = false := decide_eq_false (by omega)
      have t1n : decide (4 < n1) = false := decide_eq_false (by omega)
      subst e2
      go_wp2_with fail
      go_roundw
      case rel => exact ⟨t + 1, by omega, by go_num, by first | rfl | trivial, hidp (fun t' h' => by
       by_cases e : t' = t
       ·subst e; rw [HN1.out]; exact h4
       ·exact HF4.out t' (by omega))⟩
      case measure => simp [intOf]; omega
     ·have t1 : decide ((4 : Int) < (n1 : Int)) = true := decide_eq_true (by omega)
      have t1n : decide (4 < n1) = true := decide_eq_true (by omega)
      have hf := HNO.out k hk9 (fun h => h4 (by rw [<- HN1.out]; exact h.1 t htT))
      subst hf
      subst e2
      go_wp2_with fail
      go_ret
      exact ⟨rfl, HB.out⟩
    ·obtain rfl : t = H.t := by omega
     go_wp2_with fail
     refine (rAll_c A2 H.t c2 k U Z (by omega) hk9 (fun t' h' => Nat.le_trans (HF4.out t' h') (by omega)) hTc hc2 _ (HPP.out.below HB.out)).mono ?_
     rintro e w4 ⟨u4, rfl, ho, hb⟩
     obtain ⟨nh, hnh⟩ : ∃ nh, (haveT Z k H.t).length = nh := ⟨_, rfl⟩
     have hhl := haveT_len (Z := Z) (k := k) (B := 1000) (T := H.t) (fun t' ht' => Nat.le_trans (HF4.out t' ht') (by omega))
     have HLH := hidp (longs_of_own ho (HIB.out k hk9))
     rw [hnh] at ho hhl
     obtain ⟨A4, c4, hu⟩ := own_slice ho
     subst hu
     have hcc4 := own_caps_any ho
     have HV1 := hidp ho
     have HNH := hidp hnh
     replace HC := hidp (HC.out.keep hb)
     replace HO := hidp (own_below HO.out hb)
     replace HB := hidp (Bgo HB.out hb)
     have hbd := overN_bound (parts := l) (sz := sz) (T := H.t) (B := 16000) (Z := Z) (m := k) (fun j hj => by
      have h5 := haveT_len (Z := Z) (k := j) (B := 1000) (T := H.t) (fun t ht => Nat.le_trans ((HON.out j hj).1 t ht) (by omega))
      omega) k (Nat.le_refl _)
     rw [HNL.out, HOV.out] at hbd
     have hbd1 : -540000 <= ov /\ ov <= 144000 := by
      have g1 : (k : Int) * (nl : Int) <= 9 * 60000 := by
       have : k * nl <= 9 * 60000 := Nat.mul_le_mul hk hnb
       omega
      omega
     have v1 : IntKind.i64.wrap (ov + (nh : Int)) = ov + (nh : Int) := i64_same (by omega) (by omega)
     obtain ⟨zk, hzk⟩ : ∃ zk, sz k = zk := ⟨_, rfl⟩
     have HSZ : Hid (((sizeN (H.s : Int) (k : Int) : Nat) : Int) = zk) := hidp (by rw [HSZA.out k hk9, hzk])
     have HZK := hidp hzk
     clear ho hb hnh hbd hzk
     go_wp2_with fail
     go_loopw [8, 12] (fun u8 u12 wr => ∃ (i : Nat) (v : Int), i <= nl /\ u12 = .int .i64 (i : Int) /\ u8 = .int .i64 v /\ Hid (v = ov + (nh : Int) - ((pkA (l.take i) zk).length : Int)) /\ Hid (∀ a ∈ pkA (l.take i) zk, (haveT Z k H.t).count a = 1) /\ Hid (Held wr w.heap.size 23 #[.int .i64 (H.t : Int), .int .i64 (H.p : Int), .int .i64 (H.s : Int)]) /\ Hid (wr.ownsRow bs 102 3 (.slice A1 nl c1) nl (ptVs l)) /\ Hid (LongsAt wr (.slice A4 nh c4) (haveT Z k H.t)) /\ Hid (Below w.heap.size w wr)) (fun _ u12 _ => nl - (intOf u12).toNat)
     case atStart => exact ⟨0, ov + (nh : Int), by omega, rfl, rfl, hidp (by simp [pkA]), hidp (fun a ha => by simp [pkA] at ha), HC, HO, HLH, HB⟩
     case round =>
      clear HC HO HB HLH HV1
      obtain ⟨i, v, hi, rfl, rfl, HV0, HQ, HC, HO, HLH, HB⟩ := hrel
      by_cases hlt : i < nl
      ·obtain ⟨x, hx⟩ : ∃ x, l[i]? = some x := ⟨_, List.getElem?_eq_getElem (by rw [HNL.out]; exact hlt)⟩
       obtain ⟨xk, xa, xz⟩ := x
       obtain ⟨g, c9, hg, _⟩ := HO.out.form (by omega)
       injection hg with hg3 _ hg4
       subst hg3
       clear hg4
       have HXC := hidp (fun (w' : World) (ho : w'.ownsRow bs 102 3 (.slice (some ⟨g, 0, none⟩) nl c1) nl (ptVs l)) => (show w'.cell? ⟨g, i * 3, none⟩ = some (.int .i64 xk) /\ w'.cell? ⟨g, i * 3 + 1, none⟩ = some (.int .i64 xa) /\ w'.cell? ⟨g, i * 3 + 2, none⟩ = some (.int .i64 xz) from
        ⟨by rw [ho.cellAt (i * 3) (by omega)]; exact (ptVs_get l i _ hx).1, by rw [ho.cellAt (i * 3 + 1) (by omega)]; exact (ptVs_get l i _ hx).2.1, by rw [ho.cellAt (i * 3 + 2) (by omega)]; exact (ptVs_get l i _ hx).2.2⟩))
       have HPK := hidp (pkA_take zk hx)
       have hpl := pkA_len (l.take i) zk
       rw [List.length_take] at hpl
       have hv0 := HV0.out
       have hvb : -700000 <= v /\ v <= 700000 := by omega
       have HME : Hid (xk = 4 -> xz = zk -> xa ∈ pkA l zk) := hidp (fun e1 e2 => mem_pkA_at hx e1 e2)
       obtain ⟨cn, hcn⟩ : ∃ cn, (haveT Z k H.t).count xa = cn := ⟨_, rfl⟩
       have HCT := hidp hcn
       have hcb : cn <= nh := by rw [<- hcn, <- HNH.out]; exact List.count_le_length
       clear hx hv0 hpl hcn
       obtain ⟨x0, x1, x2⟩ := HC.out.three
       by_cases h4 : xk = 4
       ·have t4 : (xk == 4) = true := by simpa using h4
        by_cases h5 : xz = zk
        ·have t5 : (xz == zk) = true := by simpa using h5
         rw [if_pos ⟨h4, h5⟩] at HPK
         have HMM := hidp (HME.out h4 h5)
         clear h4 h5
         by_cases h6 : cn = 1
         ·have t6 : ((cn : Int) != 1) = false := by rw [bne_eq_false_iff_eq]; omega
          have t6n : (cn != 1) = false := by rw [bne_eq_false_iff_eq]; exact h6
          have v2 : IntKind.i64.wrap (v - 1) = v - 1 := i64_same (by omega) (by omega)
          have HC1 : Hid ((haveT Z k H.t).count xa = 1) := hidp (by rw [HCT.out]; exact h6)
          clear h6
          go_wp2_with fail
          replace HC := hidp (HC.out.keep (Bdrew (B0 _)))
          replace HO := hidp (own_below HO.out (Bdrew (B0 _)))
          replace HLH := hidp (HLH.out.below (Bdrew (B0 _)))
          replace HB := hidp (Bgo HB.out (Bdrew (B0 _)))
          refine wp_region_held_drew (S := (fun w' => (w'.cell? ⟨w.heap.size, 0, none⟩ = some (.int .i64 (H.t : Int)) /\ w'.cell? ⟨w.heap.size, 1, none⟩ = some (.int .i64 (H.p : Int)) /\ w'.cell? ⟨w.heap.size, 2, none⟩ = some (.int .i64 (H.s : Int))) /\ w'.cell? ⟨g, i * 3, none⟩ = some (.int .i64 xk) /\ w'.cell? ⟨g, i * 3 + 1, none⟩ = some (.int .i64 xa) /\ w'.cell? ⟨g, i * 3 + 2, none⟩ = some (.int .i64 xz))) (by kernel_rfl) ?_ (fun hHeld => ?_)
          ·(try dsimp only)
           first | exact ⟨HC.out.three, HXC.out _ HO.out⟩ | exact hHeld
          refine tkz 0 ?_
          refine tkz 1 ?_
          refine tkz 2 ?_
          refine tkz 3 ?_
          refine tkz 4 ?_
          refine tkz 5 ?_
          refine tkz 6 ?_
          refine tkz 7 ?_
          refine tkz 8 ?_
          refine tkz 9 ?_
          refine tkz 10 ?_
          refine tkz 11 ?_
          refine tkz 12 ?_
          refine tkz 13 ?_
          refine tkz 14 ?_
          refine rdz 15 fun K hK => ?_
          go_simp
          refine (r5Size_c (H.s : Int) (k : Int) (by omega) (by omega) _).mono ?_
          rintro e w9 ⟨rfl, hb⟩
          rw [HSZ.out]
          replace HC := hidp (HC.out.keep hb)
          replace HO := hidp (own_below HO.out hb)
          replace HLH := hidp (HLH.out.below hb)
          replace HB := hidp (Bgo HB.out hb)
          clear hb
          refine hK.out _ _ ?_ (fun hHeld => ?_)
          ·(try dsimp only)
           first | exact ⟨HC.out.three, HXC.out _ HO.out⟩ | exact hHeld
          clear hK K
          (try simp only [Act.put, gA, gB, gC, sA, sB, sC])
          refine tkz 16 ?_
          refine tkz 17 ?_
          refine dnz ?_
          clear x0 x1 x2
          obtain ⟨x0, x1, x2⟩ := HC.out.three
          obtain ⟨y0, y1, y2⟩ := HXC.out _ HO.out
          go_wp2_with fail
          refine (rOften_c (.slice A4 nh c4) (haveT Z k H.t) xa nh HNH.out (by omega) _ HLH.out).mono ?_
          rintro e w8 ⟨rfl, rfl⟩
          rw [HCT.out]
          go_wp2_with fail
          go_roundw
          case rel => exact ⟨i + 1, v - 1, by omega, by go_num, rfl, hidp (by rw [HPK.out, List.length_append, HV0.out]; simp only [List.length_cons, List.length_nil]; omega), hidp (fun a ha => by
           rw [HPK.out] at ha
           rcases List.mem_append.1 ha with ha | ha
           ·exact HQ.out a ha
           ·rw [List.mem_singleton] at ha; rw [ha]; exact HC1.out), HC, HO, HLH, HB⟩
          case measure => simp [intOf]; omega
         ·have t6 : ((cn : Int) != 1) = true := by rw [bne_iff_ne]; omega
          have t6n : (cn != 1) = true := by rw [bne_iff_ne]; exact h6
          have hf := HNO.out k hk9 (fun h => h6 (by rw [<- HCT.out]; exact h.2 xa (by rw [HZK.out]; exact HMM.out)))
          subst hf
          clear h6
          go_wp2_with fail
          replace HC := hidp (HC.out.keep (Bdrew (B0 _)))
          replace HO := hidp (own_below HO.out (Bdrew (B0 _)))
          replace HLH := hidp (HLH.out.below (Bdrew (B0 _)))
          replace HB := hidp (Bgo HB.out (Bdrew (B0 _)))
          refine wp_region_held_drew (S := (fun w' => (w'.cell? ⟨w.heap.size, 0, none⟩ = some (.int .i64 (H.t : Int)) /\ w'.cell? ⟨w.heap.size, 1, none⟩ = some (.int .i64 (H.p : Int)) /\ w'.cell? ⟨w.heap.size, 2, none⟩ = some (.int .i64 (H.s : Int))) /\ w'.cell? ⟨g, i * 3, none⟩ = some (.int .i64 xk) /\ w'.cell? ⟨g, i * 3 + 1, none⟩ = some (.int .i64 xa) /\ w'.cell? ⟨g, i * 3 + 2, none⟩ = some (.int .i64 xz))) (by kernel_rfl) ?_ (fun hHeld => ?_)
          ·(try dsimp only)
           first | exact ⟨HC.out.three, HXC.out _ HO.out⟩ | exact hHeld
          refine tkz 0 ?_
          refine tkz 1 ?_
          refine tkz 2 ?_
          refine tkz 3 ?_
          refine tkz 4 ?_
          refine tkz 5 ?_
          refine tkz 6 ?_
          refine tkz 7 ?_
          refine tkz 8 ?_
          refine tkz 9 ?_
          refine tkz 10 ?_
          refine tkz 11 ?_
          refine tkz 12 ?_
          refine tkz 13 ?_
          refine tkz 14 ?_
          refine rdz 15 fun K hK => ?_
          go_simp
          refine (r5Size_c (H.s : Int) (k : Int) (by omega) (by omega) _).mono ?_
          rintro e w9 ⟨rfl, hb⟩
          rw [HSZ.out]
          replace HC := hidp (HC.out.keep hb)
          replace HO := hidp (own_below HO.out hb)
          replace HLH := hidp (HLH.out.below hb)
          replace HB := hidp (Bgo HB.out hb)
          clear hb
          refine hK.out _ _ ?_ (fun hHeld => ?_)
          ·(try dsimp only)
           first | exact ⟨HC.out.three, HXC.out _ HO.out⟩ | exact hHeld
          clear hK K
          (try simp only [Act.put, gA, gB, gC, sA, sB, sC])
          refine tkz 16 ?_
          refine tkz 17 ?_
          refine dnz ?_
          clear x0 x1 x2
          obtain ⟨x0, x1, x2⟩ := HC.out.three
          obtain ⟨y0, y1, y2⟩ := HXC.out _ HO.out
          go_wp2_with fail
          refine (rOften_c (.slice A4 nh c4) (haveT Z k H.t) xa nh HNH.out (by omega) _ HLH.out).mono ?_
          rintro e w8 ⟨rfl, rfl⟩
          rw [HCT.out]
          go_wp2_with fail
          go_ret
          exact ⟨rfl, HB.out⟩
        ·have t5 : (xz == zk) = false := by simpa using h5
         rw [if_neg (fun h => h5 h.2), List.append_nil] at HPK
         clear h4 h5
         go_wp2_with fail
         replace HC := hidp (HC.out.keep (Bdrew (B0 _)))
         replace HO := hidp (own_below HO.out (Bdrew (B0 _)))
         replace HLH := hidp (HLH.out.below (Bdrew (B0 _)))
         replace HB := hidp (Bgo HB.out (Bdrew (B0 _)))
         refine wp_region_held_drew (S := (fun w' => (w'.cell? ⟨w.heap.size, 0, none⟩ = some (.int .i64 (H.t : Int)) /\ w'.cell? ⟨w.heap.size, 1, none⟩ = some (.int .i64 (H.p : Int)) /\ w'.cell? ⟨w.heap.size, 2, none⟩ = some (.int .i64 (H.s : Int))) /\ w'.cell? ⟨g, i * 3, none⟩ = some (.int .i64 xk) /\ w'.cell? ⟨g, i * 3 + 1, none⟩ = some (.int .i64 xa) /\ w'.cell? ⟨g, i * 3 + 2, none⟩ = some (.int .i64 xz))) (by kernel_rfl) ?_ (fun hHeld => ?_)
         ·(try dsimp only)
          first | exact ⟨HC.out.three, HXC.out _ HO.out⟩ | exact hHeld
         refine tkz 0 ?_
         refine tkz 1 ?_
         refine tkz 2 ?_
         refine tkz 3 ?_
         refine tkz 4 ?_
         refine tkz 5 ?_
         refine tkz 6 ?_
         refine tkz 7 ?_
         refine tkz 8 ?_
         refine tkz 9 ?_
         refine tkz 10 ?_
         refine tkz 11 ?_
         refine tkz 12 ?_
         refine tkz 13 ?_
         refine tkz 14 ?_
         refine rdz 15 fun K hK => ?_
         go_simp
         refine (r5Size_c (H.s : Int) (k : Int) (by omega) (by omega) _).mono ?_
         rintro e w9 ⟨rfl, hb⟩
         rw [HSZ.out]
         replace HC := hidp (HC.out.keep hb)
         replace HO := hidp (own_below HO.out hb)
         replace HLH := hidp (HLH.out.below hb)
         replace HB := hidp (Bgo HB.out hb)
         clear hb
         refine hK.out _ _ ?_ (fun hHeld => ?_)
         ·(try dsimp only)
          first | exact ⟨HC.out.three, HXC.out _ HO.out⟩ | exact hHeld
         clear hK K
         (try simp only [Act.put, gA, gB, gC, sA, sB, sC])
         refine tkz 16 ?_
         refine tkz 17 ?_
         refine dnz ?_
         go_wp2_with fail
         go_roundw
         case rel => exact ⟨i + 1, v, by omega, by go_num, rfl, hidp (by rw [HPK.out]; exact HV0.out), hidp (fun a ha => by rw [HPK.out] at ha; exact HQ.out a ha), HC, HO, HLH, HB⟩
         case measure => simp [intOf]; omega
       ·have t4 : (xk == 4) = false := by simpa using h4
        rw [if_neg (fun h => h4 h.1), List.append_nil] at HPK
        clear h4
        go_wp2_with fail
        replace HC := hidp (HC.out.keep (Bdrew (B0 _)))
        replace HO := hidp (own_below HO.out (Bdrew (B0 _)))
        replace HLH := hidp (HLH.out.below (Bdrew (B0 _)))
        replace HB := hidp (Bgo HB.out (Bdrew (B0 _)))
        refine wp_region_held_drew (S := (fun w' => (w'.cell? ⟨w.heap.size, 0, none⟩ = some (.int .i64 (H.t : Int)) /\ w'.cell? ⟨w.heap.size, 1, none⟩ = some (.int .i64 (H.p : Int)) /\ w'.cell? ⟨w.heap.size, 2, none⟩ = some (.int .i64 (H.s : Int))) /\ w'.cell? ⟨g, i * 3, none⟩ = some (.int .i64 xk) /\ w'.cell? ⟨g, i * 3 + 1, none⟩ = some (.int .i64 xa) /\ w'.cell? ⟨g, i * 3 + 2, none⟩ = some (.int .i64 xz))) (by kernel_rfl) ?_ (fun hHeld => ?_)
        ·(try dsimp only)
         first | exact ⟨HC.out.three, HXC.out _ HO.out⟩ | exact hHeld
        refine tkz 0 ?_
        refine tkz 1 ?_
        refine tkz 2 ?_
        refine tkz 3 ?_
        refine tkz 4 ?_
        refine tkz 5 ?_
        refine tkz 6 ?_
        refine skz 7 ?_
        refine skz 8 ?_
        refine skz 9 ?_
        refine skz 10 ?_
        refine skz 11 ?_
        refine skz 12 ?_
        refine skz 13 ?_
        refine skz 14 ?_
        refine skz 15 ?_
        refine skz 16 ?_
        refine tkz 17 ?_
        refine dnz ?_
        go_wp2_with fail
        go_roundw
        case rel => exact ⟨i + 1, v, by omega, by go_num, rfl, hidp (by rw [HPK.out]; exact HV0.out), hidp (fun a ha => by rw [HPK.out] at ha; exact HQ.out a ha), HC, HO, HLH, HB⟩
        case measure => simp [intOf]; omega
      ·obtain rfl : i = nl := by omega
       have HE : Hid (l.take i = l) := hidp (List.take_of_length_le (by rw [HNL.out]; exact Nat.le_refl _))
       go_wp2_with fail
       go_roundw
       case rel => exact ⟨k + 1, v, by omega, by go_num, rfl, hidp (by
        show overN l sz H.t Z k + ((haveT Z k H.t).length : Int) - ((pkA l (sz k)).length : Int) = v
        rw [HV0.out, HE.out, HOV.out, HNH.out, HZK.out]), hidp (fun j hj => by
        by_cases e : j = k
        ·subst e
         exact ⟨HF4.out, fun a ha => HQ.out a (by rw [HE.out]; rw [HZK.out] at ha; exact ha)⟩
        ·exact HON.out j (by omega)), HC, HO, HB⟩
       case measure => simp [intOf]; omega
  ·obtain rfl : k = 9 := by omega
   have hf := HYES.out HON.out
   rw [HOV.out] at hf
   subst hf
   go_wp2
   go_ret
   exact ⟨rfl, HB.out⟩
end
end Go.Proofs.YtnmhdlpnimdffaaGreatDoor

namespace Go.Proofs.YtnmhdlpnimdffaaGreatDoor
open Go.ChangeShapes Go.WideShapes Go.ChangeAt Go.RowKit
set_option linter.unusedVariables false
set_option linter.unusedSimpArgs false
set_option maxRecDepth 100000
section
def noPk : Array Value := #[.slice none 0 0, .slice none 0 0, .slice none 0 0, .slice none 0 0, .slice none 0 0, .slice none 0 0, .slice none 0 0, .slice none 0 0, .slice none 0 0]
theorem noPk_at : ∀ k, k < 9 -> noPk[k]! = .slice none 0 0
 | 0, _ => rfl
 | 1, _ => rfl
 | 2, _ => rfl
 | 3, _ => rfl
 | 4, _ => rfl
 | 5, _ => rfl
 | 6, _ => rfl
 | 7, _ => rfl
 | 8, _ => rfl
 | k + 9, h => by omega
theorem pk_info24 : (Tryz.prog.info? 99).map (fun i => (i.zero, i.size, i.bytes)) = some (some (.agg noPk), 9, 216) := by kernel_rfl
theorem make_pks (T : Nat) (hT : T <= 100000) (w : World) : (Instr.makeSlice 51 (.int .i64 (T : Int)) (.int .i64 (T : Int))).run Tryz.prog w = .ok (.slice (some ⟨w.heap.size, 0, none⟩) T T) (w.alloc (.cells (madeCells noPk (T * 9)) 99)) := by
 obtain ⟨i, hi⟩ : ∃ i, Tryz.prog.info? 99 = some i := Option.isSome_iff_exists.1 (by kernel_rfl)
 have h := pk_info24
 rw [hi] at h
 simp only [Option.map_some, Option.some.injEq, Prod.mk.injEq] at h
 obtain ⟨hz, hs, hb⟩ := h
 have := run_makeSlice (w := w) 51 99 i _ Tryz.underlying51 hi hz .i64 .i64 (T : Int) (T : Int) (by omega) (by omega) (by first | (rw [hs]; decide) | (rw [hs]; unfold maxLen; omega) | (rw [hs]; omega)) (by first | (rw [hb]; omega) | (rw [hb]; unfold maxLen; omega)) (by omega)
 rw [Int.toNat_natCast, hs] at this
 exact this
theorem pks_made (T : Nat) (w : World) : PksAt (w.alloc (.cells (madeCells noPk (T * 9)) 99)) (some ⟨w.heap.size, 0, none⟩) T (fun _ _ => ⟨none, 0, 0⟩) (fun _ _ => []) := by
 intro t ht
 refine ⟨_, rfl, by simp, fun k hk => ⟨?_, by unfold LongsAt; exact ⟨none, 0, rfl, Nat.le_refl _, Nat.zero_le _, fun z h => (by cases h), fun _ => ⟨rfl, rfl⟩, fun ad e => (by cases e)⟩⟩⟩
 have e : (⟨w.heap.size, 0, none⟩ : Addr).add (t * 9 + k) = ⟨w.heap.size, t * 9 + k, none⟩ := by
  unfold Addr.add
  by_cases hz : t * 9 + k = 0
  ·rw [if_pos hz, hz]
  ·rw [if_neg hz]; simp
 rw [e, (Held.new w 99 (madeCells noPk (T * 9))).cell (t * 9 + k)]
 have hl : t * 9 + k < T * 9 := by omega
 unfold madeCells
 rw [Array.getElem?_map, Array.getElem?_range, if_pos hl]
 show some (noPk[(t * 9 + k) % 9]!) = _
 rw [show (t * 9 + k) % 9 = k by omega, noPk_at k hk]
end
end Go.Proofs.YtnmhdlpnimdffaaGreatDoor

namespace Go.Proofs.YtnmhdlpnimdffaaGreatDoor
open Go.ChangeShapes Go.WideShapes Go.ChangeAt Go.RowKit Go.Maps
set_option linter.unusedVariables false
set_option linter.unusedSimpArgs false
set_option maxRecDepth 100000
section
def SwTo (H : AuH) (n : Nat) (K : Nat -> Option Nat) (j : Nat) (st : Vst) : Prop := ∃ L, SwInv H n K st L /\ ∀ q i, (nowH H n K st).hand q i -> ¬ q < j
def Again (H : AuH) (n : Nat) (v : Nat -> Nat) : Prop := ∀ vals : List Nat, vals.length = n -> (∀ i, i < n -> vals[i]? = some (v i)) ->
 (∀ j, j < H.p -> VOk n (sweepTo n (fun i => vals[i]?) H.t H.p H.s j freshS).2) -> (sweepTo n (fun i => vals[i]?) H.t H.p H.s H.p freshS).1 = 0 /\ (sweepTo n (fun i => vals[i]?) H.t H.p H.s H.p freshS).2.wr = []
section
variable {H : AuH} {n c : Nat} {K : Nat -> Option Nat} {st : Vst} {L : Nat -> List Nat} {j : Nat}
theorem SwTo.start (HV : HeapV H n c) (h : H.Ok L) (hK : ∀ i, i < n -> K i = some (H.V i)) : SwTo H n K 0 freshS := ⟨L, SwInv.start HV h hK, fun _ _ _ => by omega⟩
theorem SwTo.step (h : SwTo H n K j st) (HV : HeapV H n c) (hok : VOk n st) (h32 : ∀ i x, K i = some x -> x < 2 ^ 32) (hj : j < H.p) : SwTo H n K (j + 1) (sweepI n K H.t H.p H.s j st).2 := by
 obtain ⟨L, I, hh⟩ := h
 obtain ⟨L2, I2, b1, _⟩ := I.step HV hok h32 hj
 refine ⟨L2, I2, fun q i x => ?_⟩
 obtain ⟨y, z⟩ := (b1 q i).1 x
 have := hh q i y
 omega
theorem SwTo.no_hand (h : SwTo H n K H.p st) : ∀ q i, ¬ (nowH H n K st).hand q i := by
 obtain ⟨L, I, hh⟩ := h
 intro q i x
 exact hh q i x x.1
theorem SwTo.state (h : SwTo H n K j st) (HV : HeapV H n c) (hok : VOk n st) (h32 : ∀ i x, K i = some x -> x < 2 ^ 32) (L : List (Int × Int)) (hL : blocksOf H.parts = L) (r0 r1 r2 r3 r4 r5 r6 r7 : Nat) (h0 : H.V 22 = r0) (h1 : H.V 23 = r1) (h2 : H.V 24 = r2) (h3 : H.V 25 = r3) (h4 : H.V 26 = r4) (h5 : H.V 27 = r5) (h6 : H.V 28 = r6) (h7 : H.V 29 = r7) (w : World) (g cp : Nat) (hrow : RowF w g 53 n cp (valF (nowV K st.wr))) :
  Calls Tryz.prog 19 #[.agg #[.int .i64 (H.t : Int), .int .i64 (H.p : Int), .int .i64 (H.s : Int)], .slice (some ⟨g, 0, none⟩) n cp] w fun e w' => ∃ u, e = .returned (.tuple #[.agg #[u, .int .i64 (r0 : Int), .int .i64 (r1 : Int), .int .i64 (r2 : Int), .int .i64 (r3 : Int), .int .i64 (r4 : Int), .int .i64 (r5 : Int), .int .i64 (r6 : Int), .int .i64 (r7 : Int)], .bool true]) /\ w'.ownsRow w.heap.size 94 2 u L.length (bkVs L) /\ Below w.heap.size w w' := by
 obtain ⟨L', I, _⟩ := h
 exact state_now HV hok h32 I.work.vw I.ok.rules I.roots L (I.blocks.trans hL) r0 r1 r2 r3 r4 r5 r6 r7 h0 h1 h2 h3 h4 h5 h6 h7 w g cp hrow
theorem SwTo.fits (h : SwTo H n K H.p st) (HV : HeapV H n c) (hok : VOk n st) (h32 : ∀ i x, K i = some x -> x < 2 ^ 32) (w : World) (g cp : Nat) (hrow : RowF w g 53 n cp (valF (nowV K st.wr))) (A2 : Option Addr) (c2 : Nat) (U : Nat -> Nat -> Sl) (hTc : H.t <= c2) (hc2 : c2 <= maxLen) (hP : PksAt w A2 H.t U (fun _ _ => [])) :
  Calls Tryz.prog 22 #[.agg #[.int .i64 (H.t : Int), .int .i64 (H.p : Int), .int .i64 (H.s : Int)], .slice (some ⟨g, 0, none⟩) n cp, .slice A2 H.t c2] w fun e w' => e = .returned (.bool true) /\ Below w.heap.size w w' := by
 have hno := h.no_hand
 obtain ⟨L', I, _⟩ := h
 have HV' := nowH_heap HV hok h32 (cp := cp) hrow.le hrow.max
 have hv' : IsVals w ⟨g, 0, none⟩ n (nowH H n K st).V := ⟨hrow.lt, fun i hi => by
  have e : (⟨g, 0, none⟩ : Addr).add i = ⟨g, i, none⟩ := by
   unfold Addr.add
   by_cases hz : i = 0
   ·rw [if_pos hz, hz]
   ·rw [if_neg hz]; simp
  have e2 : nowV K st.wr i = (nowH H n K st).V i := by
   show _ = curV n (getV n K st) H.V i
   rw [curV_in hi, I.work.vw.at_ hi]
   rfl
  rw [e, hrow.cell hi]
  unfold valF
  rw [e2]⟩
 have hC := xCheckIs_yes HV' ⟨g, 0, none⟩ w hv' (m := 0) (b := true) (.inl ⟨rfl, rfl, I.ok.rules⟩)
 have F := fits_empty hno (fun k => ((sizeN (H.s : Int) (k : Int) : Nat) : Int)) H.t
 exact rFits_heap HV' ⟨g, 0, none⟩ 0 A2 c2 U (fun _ _ => []) hTc hc2 (fun k => ((sizeN (H.s : Int) (k : Int) : Nat) : Int)) (fun _ _ => rfl) (fun k hk => pkA_once HV' I.ok _) true ⟨fun _ => F, fun _ => rfl⟩ w hv' hC hP
theorem SwTo.lt (h : SwTo H n K j st) (HV : HeapV H n c) (hok : VOk n st) (h32 : ∀ i x, K i = some x -> x < 2 ^ 32) : ∀ i, i < n -> nowV K st.wr i < 2 ^ 32 := fun i hi => by
 obtain ⟨L', I, _⟩ := h
 have e2 : nowV K st.wr i = (nowH H n K st).V i := by
  show _ = curV n (getV n K st) H.V i
  rw [curV_in hi, I.work.vw.at_ hi]
  rfl
 rw [e2]
 exact (I.heap HV hok h32).lt i hi
theorem row_list (n : Nat) (f : Nat -> Nat) (hf : ∀ i, i < n -> f i < 2 ^ 32) : ∃ vals : List Nat, vals.length = n /\ (∀ i, i < n -> vals[i]? = some (f i)) /\ (∀ x ∈ vals, x < 2 ^ 32) /\ ∀ (w : World) (g cp : Nat), RowF w g 53 n cp (valF f) -> ∀ j u, (valVs vals)[j]? = some u -> w.cell? ((⟨g, 0, none⟩ : Addr).add j) = some u := by
 have h1 : ∀ i, i < n -> ((List.range n).map f)[i]? = some (f i) := fun i hi => by rw [List.getElem?_map, List.getElem?_range hi]; rfl
 refine ⟨(List.range n).map f, by simp, h1, fun x hx => ?_, fun w g cp hrow j u hu => ?_⟩
 ·obtain ⟨i, hi, rfl⟩ := List.mem_map.1 hx
  exact hf i (List.mem_range.1 hi)
 ·have hj : j < n := by
   have := (List.getElem?_eq_some_iff.1 hu).1
   simpa [valVs] using this
  have e : (⟨g, 0, none⟩ : Addr).add j = ⟨g, j, none⟩ := by
   unfold Addr.add
   by_cases hz : j = 0
   ·rw [if_pos hz, hz]
   ·rw [if_neg hz]; simp
  unfold valVs at hu
  rw [List.getElem?_map, h1 j hj] at hu
  injection hu with hu
  rw [e, hrow.cell hj, <- hu]
  rfl
theorem SwTo.again (h : SwTo H n K H.p st) (HV : HeapV H n c) (hok : VOk n st) (h32 : ∀ i x, K i = some x -> x < 2 ^ 32) : Again H n (nowV K st.wr) := by
 have hno := h.no_hand
 obtain ⟨L', I, _⟩ := h
 intro vals hl hv ho
 have HV' := I.heap HV hok h32
 have hK2 : ∀ i, i < n -> (fun i => vals[i]?) i = some ((nowH H n K st).V i) := fun i hi => by
  have e2 : nowV K st.wr i = (nowH H n K st).V i := by
   show _ = curV n (getV n K st) H.V i
   rw [curV_in hi, I.work.vw.at_ hi]
   rfl
  rw [<- e2]
  exact hv i hi
 have h322 : ∀ i x, (fun i => vals[i]?) i = some x -> x < 2 ^ 32 := fun i x hx => by
  have hi : i < n := by
   rw [<- hl]
   exact (List.getElem?_eq_some_iff.1 hx).1
  have := hK2 i hi
  rw [hx] at this
  injection this with e
  rw [e]
  exact HV'.lt i hi
 have I2 := SwInv.start (H := nowH H n K st) HV' I.ok hK2
 obtain ⟨_, _, _, b2, b3⟩ := SwInv.all HV' h322 I2 H.p (Nat.le_refl _) ho
 have e0 : nowH (nowH H n K st) n (fun i => vals[i]?) freshS = nowH H n K st := nowH_fresh hK2
 have b4 : (sweepTo n (fun i => vals[i]?) H.t H.p H.s H.p freshS).1 = 0 := b3 (by rw [e0]; exact hno)
 refine ⟨b4, ?_⟩
 have b2 : (sweepTo n (fun i => vals[i]?) H.t H.p H.s H.p freshS).2.wr.length <= ([] : List (Nat × Nat)).length + 24 * (sweepTo n (fun i => vals[i]?) H.t H.p H.s H.p freshS).1 := b2
 rw [b4] at b2
 exact List.eq_nil_of_length_eq_zero (by simpa using b2)
end
end
section
theorem SweepKeeps_few (t q s : Int) (A : Option Addr) (n c m : Nat) (hq : 64 < q) (W : World) (hT : SlotsLaid W)  : Calls Tryz.prog 4 #[.agg #[.int .i64 t, .int .i64 q, .int .i64 s], .slice A n c] W (Keeps W) := by
 have t2 : decide (q <= (64 : Int)) = false := decide_eq_false (by omega)
 have HTL := hidp hT
 clear hT
 have HC := hidp (Held.new W 23 #[.int .i64 t, .int .i64 q, .int .i64 s])
 have HB := hidp (Bnew (B0 W) (.cells #[.int .i64 t, .int .i64 q, .int .i64 s] 23))
 obtain ⟨x0, x1, x2⟩ := HC.out.three
 go_enter Tryz.func4, Tryz.ntmps4
 go_wp2_with fail
 refine (few14_c t q s _).mono ?_
 rintro e w1 ⟨rfl, hb⟩
 rw [t2]
 replace HC := hidp (HC.out.keep hb)
 replace HB := hidp (Bgo HB.out hb)
 clear hb
 clear x0 x1 x2
 obtain ⟨x0, x1, x2⟩ := HC.out.three
 go_wp2_with fail
 refine (live24_c _ (HTL.out.below HB.out)).mono ?_
 rintro e w19 ⟨rfl, hb⟩
 have HBL := hidp (Bgo HB.out hb)
 clear hb
 go_wp2
 go_ret
 exact ⟨rfl, HBL.out⟩

theorem SweepKeeps_no (t q s : Int) (A : Option Addr) (n c m : Nat) (hq : q <= 64) (W : World) (hT : SlotsLaid W) (hX : Hid (XCheckIs W t q s A n c m false)) : Calls Tryz.prog 4 #[.agg #[.int .i64 t, .int .i64 q, .int .i64 s], .slice A n c] W (Keeps W) := by
 have t2 : decide (q <= (64 : Int)) = true := decide_eq_true (by omega)
 have HTL := hidp hT
 clear hT
 have HC := hidp (Held.new W 23 #[.int .i64 t, .int .i64 q, .int .i64 s])
 have HB := hidp (Bnew (B0 W) (.cells #[.int .i64 t, .int .i64 q, .int .i64 s] 23))
 obtain ⟨x0, x1, x2⟩ := HC.out.three
 go_enter Tryz.func4, Tryz.ntmps4
 go_wp2_with fail
 refine (few14_c t q s _).mono ?_
 rintro e w1 ⟨rfl, hb⟩
 rw [t2]
 replace HC := hidp (HC.out.keep hb)
 replace HB := hidp (Bgo HB.out hb)
 clear hb
 clear x0 x1 x2
 obtain ⟨x0, x1, x2⟩ := HC.out.three
 go_wp2_with fail
 refine (xSound_c t q s A n c m false _ (hX.out.grown HB.out)).mono ?_
 rintro e w2 ⟨rfl, hb⟩
 replace HC := hidp (HC.out.keep hb)
 replace HB := hidp (Bgo HB.out hb)
 clear hb
 clear x0 x1 x2
 obtain ⟨x0, x1, x2⟩ := HC.out.three
 go_wp2_with fail
 refine (live24_c _ (HTL.out.below HB.out)).mono ?_
 rintro e w19 ⟨rfl, hb⟩
 have HBL := hidp (Bgo HB.out hb)
 clear hb
 go_wp2
 go_ret
 exact ⟨rfl, HBL.out⟩

def wholeKS (vals : List Nat) : Nat -> Option Nat := fun i => vals[i]?
set_option maxHeartbeats 12800000 in
theorem SweepKeeps_main {H : AuH} (ad : Addr) (n c m : Nat) (HV : HeapV H n c) (vals : List Nat) (HNN : Hid (vals.length = n)) (H32 : Hid (∀ x ∈ vals, x < 2 ^ 32)) (hVK : ∀ i, H.V i = vals.getD i 0) (hq : H.p <= 64) (hr : ∀ i, i < 10 -> H.rule i)
  (W : World) (hT : SlotsLaid W) (HR : Hid (Reads W W.heap.size 1 (some ad) n (valVs vals))) (hv : Hid (IsVals W ad n H.V)) (hX : Hid (XCheckIs W H.t H.p H.s (some ad) n c m true)) :
  Calls Tryz.prog 4 #[.agg #[.int .i64 (H.t : Int), .int .i64 (H.p : Int), .int .i64 (H.s : Int)], .slice (some ad) n c] W (Keeps W) := by
 have t2 : decide ((H.p : Int) <= (64 : Int)) = true := decide_eq_true (by omega)
 have hnb : n <= 6238 := by have := HV.nums; omega
 have htb : H.t <= 1024 := by have := HV.nums; omega
 have hn0 : 0 < n := by have := HV.len; omega
 have hcm : c <= maxLen := HV.max
 have hcm2 : c <= 9223372036854775807 := hcm
 have hn40 : n < 2 ^ 40 := by omega
 have hq10 : (H.p : Int) <= 1024 := by omega
 have hK : ∀ i, i < n -> wholeKS vals i = some (H.V i) := fun i hi => by
  unfold wholeKS
  rw [hVK i, List.getElem?_eq_getElem (by rw [HNN.out]; exact hi)]
  simp [List.getD, List.getElem?_eq_getElem (show i < vals.length by rw [HNN.out]; exact hi)]
 have h32K : ∀ i x, wholeKS vals i = some x -> x < 2 ^ 32 := fun i x h => H32.out x (List.mem_of_getElem? h)
 obtain ⟨LL, hok⟩ := AuH.okL_of (by have := HV.nums; omega) hr
 obtain ⟨L, hL⟩ : ∃ L, blocksOf H.parts = L := ⟨_, rfl⟩
 obtain ⟨r0, hr0⟩ : ∃ r, H.V 22 = r := ⟨_, rfl⟩
 obtain ⟨r1, hr1⟩ : ∃ r, H.V 23 = r := ⟨_, rfl⟩
 obtain ⟨r2, hr2⟩ : ∃ r, H.V 24 = r := ⟨_, rfl⟩
 obtain ⟨r3, hr3⟩ : ∃ r, H.V 25 = r := ⟨_, rfl⟩
 obtain ⟨r4, hr4⟩ : ∃ r, H.V 26 = r := ⟨_, rfl⟩
 obtain ⟨r5, hr5⟩ : ∃ r, H.V 27 = r := ⟨_, rfl⟩
 obtain ⟨r6, hr6⟩ : ∃ r, H.V 28 = r := ⟨_, rfl⟩
 obtain ⟨r7, hr7⟩ : ∃ r, H.V 29 = r := ⟨_, rfl⟩
 obtain ⟨nl, hnl⟩ : ∃ nl, L.length = nl := ⟨_, rfl⟩
 have HNL := hidp hnl
 have hnlb : nl <= 60000 := by rw [<- hnl, <- hL]; exact blocks_few15 HV
 have hnlb2 : nl <= 100000 := by omega
 have HRS : Hid (H.V 22 = r0 /\ H.V 23 = r1 /\ H.V 24 = r2 /\ H.V 25 = r3 /\ H.V 26 = r4 /\ H.V 27 = r5 /\ H.V 28 = r6 /\ H.V 29 = r7 /\ blocksOf H.parts = L) := hidp ⟨hr0, hr1, hr2, hr3, hr4, hr5, hr6, hr7, hL⟩
 have HSW0 := hidp (SwTo.start HV hok hK)
 have HSTEP : Hid (∀ (j : Nat) (sj : Vst), j < H.p -> VOk n sj -> SwTo H n (wholeKS vals) j sj -> SwTo H n (wholeKS vals) (j + 1) (sweepI n (wholeKS vals) H.t H.p H.s j sj).2) := hidp (fun j sj hj ho h => h.step HV ho h32K hj)
 have HNOW : Hid (∀ (j : Nat) (sj : Vst), VOk n sj -> SwTo H n (wholeKS vals) j sj -> ∀ (w : World) (g cp : Nat), RowF w g 53 n cp (valF (nowV (wholeKS vals) sj.wr)) -> Calls Tryz.prog 19 #[.agg #[.int .i64 (H.t : Int), .int .i64 (H.p : Int), .int .i64 (H.s : Int)], .slice (some ⟨g, 0, none⟩) n cp] w fun e w' => ∃ u, e = .returned (.tuple #[.agg #[u, .int .i64 (r0 : Int), .int .i64 (r1 : Int), .int .i64 (r2 : Int), .int .i64 (r3 : Int), .int .i64 (r4 : Int), .int .i64 (r5 : Int), .int .i64 (r6 : Int), .int .i64 (r7 : Int)], .bool true]) /\ w'.ownsRow w.heap.size 94 2 u L.length (bkVs L) /\ Below w.heap.size w w') := hidp (fun j sj ho h => h.state HV ho h32K L hL r0 r1 r2 r3 r4 r5 r6 r7 hr0 hr1 hr2 hr3 hr4 hr5 hr6 hr7)
 have HFITS : Hid (∀ sj : Vst, VOk n sj -> SwTo H n (wholeKS vals) H.p sj -> ∀ (w : World) (g cp : Nat), RowF w g 53 n cp (valF (nowV (wholeKS vals) sj.wr)) -> ∀ (A2 : Option Addr) (c2 : Nat) (U : Nat -> Nat -> Sl), H.t <= c2 -> c2 <= maxLen -> PksAt w A2 H.t U (fun _ _ => []) -> Calls Tryz.prog 22 #[.agg #[.int .i64 (H.t : Int), .int .i64 (H.p : Int), .int .i64 (H.s : Int)], .slice (some ⟨g, 0, none⟩) n cp, .slice A2 H.t c2] w fun e w' => e = .returned (.bool true) /\ Below w.heap.size w w') := hidp (fun sj ho h => h.fits HV ho h32K)
 have HAGAIN : Hid (∀ sj : Vst, VOk n sj -> SwTo H n (wholeKS vals) H.p sj -> Again H n (nowV (wholeKS vals) sj.wr)) := hidp (fun sj ho h => h.again HV ho h32K)
 have HLTV : Hid (∀ sj : Vst, VOk n sj -> SwTo H n (wholeKS vals) H.p sj -> ∀ i, i < n -> nowV (wholeKS vals) sj.wr i < 2 ^ 32) := hidp (fun sj ho h => h.lt HV ho h32K)
 have hmk := make_pks H.t (by omega)
 clear hr hVK hK h32K hok hL hnl hr0 hr1 hr2 hr3 hr4 hr5 hr6 hr7
 have HTL := hidp hT
 clear hT
 have HC := hidp (Held.new W 23 #[.int .i64 (H.t : Int), .int .i64 (H.p : Int), .int .i64 (H.s : Int)])
 have HB := hidp (Bnew (B0 W) (.cells #[.int .i64 (H.t : Int), .int .i64 (H.p : Int), .int .i64 (H.s : Int)] 23))
 obtain ⟨x0, x1, x2⟩ := HC.out.three
 go_enter Tryz.func4, Tryz.ntmps4
 go_wp2_with fail
 refine (few14_c H.t H.p H.s _).mono ?_
 rintro e w1 ⟨rfl, hb⟩
 rw [t2]
 replace HC := hidp (HC.out.keep hb)
 replace HB := hidp (Bgo HB.out hb)
 clear hb
 clear x0 x1 x2
 obtain ⟨x0, x1, x2⟩ := HC.out.three
 go_wp2_with fail
 refine (xSound_c H.t H.p H.s (some ad) n c m true _ (hX.out.grown HB.out)).mono ?_
 rintro e w2 ⟨rfl, hb⟩
 replace HC := hidp (HC.out.keep hb)
 replace HB := hidp (Bgo HB.out hb)
 clear hb
 clear x0 x1 x2
 obtain ⟨x0, x1, x2⟩ := HC.out.three
 go_wp2_with fail
 refine (xState_yes HV ad m _ (hv.out.below HB.out) (hX.out.grown HB.out)).mono ?_
 rintro e w3 ⟨u1, rfl, hown, hb⟩
 obtain ⟨hr0, hr1, hr2, hr3, hr4, hr5, hr6, hr7, hL⟩ := HRS.out
 rw [hr0, hr1, hr2, hr3, hr4, hr5, hr6, hr7]
 rw [hL, HNL.out] at hown
 obtain ⟨A1, k1, hu1⟩ := own_slice hown
 subst hu1
 have HO1 : Hid ((w3.alloc (.cells #[.slice A1 nl k1, .int .i64 (r0 : Int), .int .i64 (r1 : Int), .int .i64 (r2 : Int), .int .i64 (r3 : Int), .int .i64 (r4 : Int), .int .i64 (r5 : Int), .int .i64 (r6 : Int), .int .i64 (r7 : Int)] 46)).ownsRow 0 94 2 (.slice A1 nl k1) nl (bkVs L)) := hidp (own_below (own_lower hown (Nat.zero_le _)) (Bnew (B0 _) _))
 have HS := hidp (Held.new w3 46 #[.slice A1 nl k1, .int .i64 (r0 : Int), .int .i64 (r1 : Int), .int .i64 (r2 : Int), .int .i64 (r3 : Int), .int .i64 (r4 : Int), .int .i64 (r5 : Int), .int .i64 (r6 : Int), .int .i64 (r7 : Int)])
 replace HC := hidp ((HC.out.keep hb).alloc (.cells #[.slice A1 nl k1, .int .i64 (r0 : Int), .int .i64 (r1 : Int), .int .i64 (r2 : Int), .int .i64 (r3 : Int), .int .i64 (r4 : Int), .int .i64 (r5 : Int), .int .i64 (r6 : Int), .int .i64 (r7 : Int)] 46))
 replace HB := hidp (Bnew (Bgo HB.out hb) (.cells #[.slice A1 nl k1, .int .i64 (r0 : Int), .int .i64 (r1 : Int), .int .i64 (r2 : Int), .int .i64 (r3 : Int), .int .i64 (r4 : Int), .int .i64 (r5 : Int), .int .i64 (r6 : Int), .int .i64 (r7 : Int)] 46))
 clear hb hown HRS hr0 hr1 hr2 hr3 hr4 hr5 hr6 hr7 hL x0 x1 x2
 go_wp2_with fail
 generalize hN11 : w3.heap.size = NW at *
 generalize hw11 : w3.alloc (.cells #[.slice A1 nl k1, .int .i64 (r0 : Int), .int .i64 (r1 : Int), .int .i64 (r2 : Int), .int .i64 (r3 : Int), .int .i64 (r4 : Int), .int .i64 (r5 : Int), .int .i64 (r6 : Int), .int .i64 (r7 : Int)] 46) = w4 at *
 clear hN11 hw11
 have HRw : Hid (Reads w4 w4.heap.size 1 (some ad) n (valVs vals)) := hidp ((HR.out.below HB.out).more HB.out.size)
 refine (Whole_c (some ad) c vals n HNN.out (by omega) H32.out _ (by
  intro h0
  obtain ⟨ad', e, _, hc⟩ := HRw.out.2 h0
  exact ⟨ad', e, hc⟩)).mono ?_
 rintro e w5 ⟨b1, o1, rfl, hI, hB⟩
 have HZC : Hid (W.heap.size < w4.heap.size) := hidp HC.out.lt
 have HZS : Hid (NW < w4.heap.size) := hidp HS.out.lt
 have HZR : Hid (∀ g, (Value.slice A1 nl k1).ownBlock = some g -> g < w4.heap.size) := hidp (fun g e => (HO1.out.lt g e).2)
 have HD := hidp (duo_made (W := W) (G := fun g => g < w4.heap.size) hI HB.out.size (Bgo HB.out hB) (fun g hg => ⟨Nat.lt_of_lt_of_le hg hB.size, fun x => by have := hI.ge _ x; omega⟩))
 replace HC := hidp (HC.out.keep hB)
 replace HS := hidp (HS.out.keep hB)
 replace HO1 := hidp (own_below HO1.out hB)
 clear hI hB HRw HB
 generalize hz1 : w4.heap.size = z1 at *
 clear hz1
 rw [show (fun i => vals[i]?) = wholeKS vals from rfl] at HD
 obtain ⟨x0, x1, x2⟩ := HC.out.three
 go_wp2_with fail
 go_loopw [8] (fun u8 wr => ∃ (j : Nat) (A4 : Nat -> Prop) (sj : Vst), j <= H.p /\ u8 = .int .i64 (j : Int) /\ Hid (SwTo H n (wholeKS vals) j sj) /\ Hid (Held wr W.heap.size 23 #[.int .i64 (H.t : Int), .int .i64 (H.p : Int), .int .i64 (H.s : Int)]) /\ Hid (Held wr NW 46 #[.slice A1 nl k1, .int .i64 (r0 : Int), .int .i64 (r1 : Int), .int .i64 (r2 : Int), .int .i64 (r3 : Int), .int .i64 (r4 : Int), .int .i64 (r5 : Int), .int .i64 (r6 : Int), .int .i64 (r7 : Int)]) /\ Hid (wr.ownsRow 0 94 2 (.slice A1 nl k1) nl (bkVs L)) /\ Hid (Duo W (vOb z1 b1 n true (wholeKS vals)) noOb A4 (fun _ => False) (fun g => g < z1) sj freshS wr)) (fun u8 _ => H.p - (intOf u8).toNat)
 case atStart => exact ⟨0, _, _, by omega, rfl, HSW0, HC, HS, HO1, HD⟩
 case round =>
  clear HSW0 HC HS HO1 HD x0 x1 x2
  obtain ⟨j, A4, sj, hj, rfl, HSW, HC, HS, HO1, HD⟩ := hrel
  obtain ⟨x0, x1, x2⟩ := HC.out.three
  have HOK : Hid (VOk n sj) := hidp (by obtain ⟨o, hI, _⟩ := HD.out.i1; exact hI.ok)
  by_cases hlt : j < H.p
  ·have t1 : decide ((j : Int) < (H.p : Int)) = true := decide_eq_true (by omega)
   have t1n : decide (j < H.p) = true := decide_eq_true hlt
   have hsn := HSTEP.out j sj hlt HOK.out HSW.out
   obtain ⟨⟨r, sn⟩, hrs⟩ : ∃ x, sweepI n (wholeKS vals) H.t H.p H.s j sj = x := ⟨_, rfl⟩
   rw [hrs] at hsn
   have hpg : sweepP n (wholeKS vals) H.t H.p H.s (j : Int) sj = (r, sn) := by
    unfold sweepP pgB
    rw [decide_eq_true (by omega), decide_eq_true (by omega)]
    simpa using hrs
   have HPG := hidp hpg
   have HSN := hidp hsn
   clear hsn hrs hpg HSW HOK
   go_wp2_with fail
   refine (swPage_c hn40 hq10 (j : Int) (by omega) (HD.out.slots24 HTL.out).1 (HD.out.slots24 HTL.out).2.1 HD.out.at1).mono ?_
   rintro e w6 ⟨rfl, h1, _⟩
   obtain ⟨A4, h2, h3⟩ := HD.out.left1 h1.left
   rw [HPG.out] at h2
   replace HC := hidp (h3.held HZC.out HC.out)
   replace HS := hidp (h3.held HZS.out HS.out)
   replace HO1 := hidp (h3.own HZR.out HO1.out)
   replace HD := hidp h2
   clear h1 h2 h3 x0 x1 x2
   obtain ⟨x0, x1, x2⟩ := HC.out.three
   clear HPG
   have HOK : Hid (VOk n sn) := hidp (by obtain ⟨o, hI, _⟩ := HD.out.i1; exact hI.ok)
   have HNJ := hidp (HNOW.out (j + 1) sn HOK.out HSN.out)
   go_wp2_with fail
   go_cut [9, 10] from 42 to 47 (fun u9 u10 wx => ∃ (N13 k2 : Nat) (A2 : Option Addr) (A4 : Nat -> Prop), u9 = .pointer (some ⟨N13, 0, none⟩) /\ u10 = .bool true /\ Held wx N13 46 #[.slice A2 nl k2, .int .i64 (r0 : Int), .int .i64 (r1 : Int), .int .i64 (r2 : Int), .int .i64 (r3 : Int), .int .i64 (r4 : Int), .int .i64 (r5 : Int), .int .i64 (r6 : Int), .int .i64 (r7 : Int)] /\ wx.ownsRow 0 94 2 (.slice A2 nl k2) nl (bkVs L) /\ Held wx W.heap.size 23 #[.int .i64 (H.t : Int), .int .i64 (H.p : Int), .int .i64 (H.s : Int)] /\ Held wx NW 46 #[.slice A1 nl k1, .int .i64 (r0 : Int), .int .i64 (r1 : Int), .int .i64 (r2 : Int), .int .i64 (r3 : Int), .int .i64 (r4 : Int), .int .i64 (r5 : Int), .int .i64 (r6 : Int), .int .i64 (r7 : Int)] /\ wx.ownsRow 0 94 2 (.slice A1 nl k1) nl (bkVs L) /\ Duo W (vOb z1 b1 n true (wholeKS vals)) noOb A4 (fun _ => False) (fun g => g < z1) sn freshS wx)
   case first =>
    replace HC := hidp HC.out.drw
    replace HS := hidp HS.out.drw
    replace HO1 := hidp (own_below HO1.out (Bdrew (B0 _)))
    replace HD := hidp (HD.out.keep (Bdrew (B0 _)))
    refine wp_region_held_drew (S := (fun w' => w'.cell? ⟨W.heap.size, 0, none⟩ = some (.int .i64 (H.t : Int)) /\ w'.cell? ⟨W.heap.size, 1, none⟩ = some (.int .i64 (H.p : Int)) /\ w'.cell? ⟨W.heap.size, 2, none⟩ = some (.int .i64 (H.s : Int)))) (by kernel_rfl) ?_ (fun hHeld => ?_)
    ·(try dsimp only)
     first | exact HC.out.three | exact hHeld
    generalize hq0 : World.drew w6 = q0 at HC HS HO1 HD hHeld ⊢
    clear hq0
    refine tkz 0 ?_
    refine tkz 1 ?_
    refine wpAnyH_ready (rs := [2, 7]) (by kernel_rfl) (by simp) ?_
    refine AllReadyH.cons (o := _) rfl (fun K hK => ?_) (AllReadyH.cons (o := _) rfl (fun K hK => ?_) AllReadyH.nil)
    ·skip
     go_simp
     obtain ⟨o9, hI9, _⟩ := HD.out.i1
     refine (vVals_some hn0 (by have := hI9.ok.few; omega) _ hI9).mono ?_
     rintro e v1 ⟨g, cp, rfl, _, hrow, hb⟩
     have HRF := hidp hrow
     clear hI9 hrow
     replace HC := hidp (HC.out.keep hb)
     replace HS := hidp (HS.out.keep hb)
     replace HO1 := hidp (own_below HO1.out hb)
     replace HD := hidp (HD.out.keep hb)
     clear hb
     refine hK.out _ _ ?_ (fun hHeld => ?_)
     ·(try dsimp only)
      first | exact HC.out.three | exact hHeld
     clear hK K
     (try simp only [Act.put, gA, gB, gC, sA, sB, sC])
     refine wpAnyH_ready (rs := [3, 7]) (by kernel_rfl) (by simp) ?_
     refine AllReadyH.cons (o := _) rfl (fun K hK => ?_) (AllReadyH.cons (o := _) rfl (fun K hK => ?_) AllReadyH.nil)
     ·skip
      go_simp
      refine (HNJ.out _ _ _ HRF.out).mono ?_
      rintro e v2 ⟨u2, rfl, hown, hb⟩
      rw [HNL.out] at hown
      obtain ⟨A2, k2, hu2⟩ := own_slice hown
      subst hu2
      have HO2 : Hid (v2.ownsRow 0 94 2 (.slice A2 nl k2) nl (bkVs L)) := hidp (own_lower hown (Nat.zero_le _))
      clear HRF hown
      replace HC := hidp (HC.out.keep hb)
      replace HS := hidp (HS.out.keep hb)
      replace HO1 := hidp (own_below HO1.out hb)
      replace HD := hidp (HD.out.keep hb)
      clear hb
      refine hK.out _ _ ?_ (fun hHeld => ?_)
      ·(try dsimp only)
       first | exact HC.out.three | exact hHeld
      clear hK K
      (try simp only [Act.put, gA, gB, gC, sA, sB, sC])
      refine tkz 4 ?_
      refine tkz 5 ?_
      refine tkz 6 ?_
      refine rdz 7 fun K hK => ?_
      ·skip
       go_simp
       have hb := Bnew (B0 v2) (.cells #[.slice none 0 0, .int .i64 0, .int .i64 0, .int .i64 0, .int .i64 0, .int .i64 0, .int .i64 0, .int .i64 0, .int .i64 0] 46)
       have HN := hidp (Held.new v2 46 #[.slice none 0 0, .int .i64 0, .int .i64 0, .int .i64 0, .int .i64 0, .int .i64 0, .int .i64 0, .int .i64 0, .int .i64 0])
       have HLE := hidp HD.out.bel.size
       have HLT : Hid (W.heap.size < v2.heap.size /\ NW < v2.heap.size) := hidp ⟨HC.out.lt, HS.out.lt⟩
       have HNA : Hid (¬ A4 v2.heap.size) := hidp (fun x => by have := Ob.lt (vOb z1 b1 n true (wholeKS vals)) HD.out.i1 _ x; omega)
       replace HC := hidp (HC.out.keep hb)
       replace HS := hidp (HS.out.keep hb)
       replace HO1 := hidp (own_below HO1.out hb)
       replace HO2 := hidp (own_below HO2.out hb)
       replace HD := hidp (HD.out.keep hb)
       clear hb
       generalize hn13 : v2.heap.size = N13 at *
       generalize hw13 : v2.alloc (.cells #[.slice none 0 0, .int .i64 0, .int .i64 0, .int .i64 0, .int .i64 0, .int .i64 0, .int .i64 0, .int .i64 0, .int .i64 0] 46) = v3 at *
       clear hn13 hw13
       refine hK.out _ _ ?_ (fun hHeld => ?_)
       ·(try dsimp only)
        first | exact HC.out.three | exact hHeld
       clear hK K
       (try simp only [Act.put, gA, gB, gC, sA, sB, sC])
       refine rdz 8 fun K hK => ?_
       obtain ⟨z0, z1', z2, z3, z4, z5', z6, z7, z8⟩ := HN.out.nine
       obtain ⟨f0, f1, f2, f3, f4, f5, f6, f7, f8⟩ := HN.out.thawed9
       go_simp
       obtain ⟨WF, hWF⟩ : ∃ WF, wr9 (v3) N13 (.slice A2 nl k2) r0 r1 r2 r3 r4 r5 r6 r7 = WF := ⟨_, rfl⟩
       replace HO1 := hidp (own9 hWF (heldOwn_ne HN.out HO1.out (by decide)) HO1.out)
       replace HO2 := hidp (own9 hWF (heldOwn_ne HN.out HO2.out (by decide)) HO2.out)
       replace HC := hidp (far9 hWF (by have := HLT.out; omega) HC.out)
       replace HS := hidp (far9 hWF (by have := HLT.out; omega) HS.out)
       replace HD := hidp (duo9 hWF HNA.out (fun x => x) HLE.out HD.out)
       replace HN := hidp (held9 hWF HN.out)
       unfold wr9 set9 at hWF
       rw [hWF]
       clear hWF z0 z1' z2 z3 z4 z5' z6 z7 z8 f0 f1 f2 f3 f4 f5 f6 f7 f8
       refine hK.out _ _ ?_ (fun hHeld => ?_)
       ·(try dsimp only)
        first | exact HC.out.three | exact hHeld
       clear hK K
       (try simp only [Act.put, gA, gB, gC, sA, sB, sC])
       refine tkz 9 ?_
       refine dnz ?_
       go_wp2_with fail
       go_meet
       case rel => exact ⟨_, _, _, _, rfl, rfl, HN.out, HO2.out, HC.out, HS.out, HO1.out, HD.out⟩
     ·skip
      go_simp
      have hb := Bnew (B0 v1) (.cells #[.slice none 0 0, .int .i64 0, .int .i64 0, .int .i64 0, .int .i64 0, .int .i64 0, .int .i64 0, .int .i64 0, .int .i64 0] 46)
      have HN := hidp (Held.new v1 46 #[.slice none 0 0, .int .i64 0, .int .i64 0, .int .i64 0, .int .i64 0, .int .i64 0, .int .i64 0, .int .i64 0, .int .i64 0])
      have HLE := hidp HD.out.bel.size
      have HLT : Hid (W.heap.size < v1.heap.size /\ NW < v1.heap.size) := hidp ⟨HC.out.lt, HS.out.lt⟩
      have HNA : Hid (¬ A4 v1.heap.size) := hidp (fun x => by have := Ob.lt (vOb z1 b1 n true (wholeKS vals)) HD.out.i1 _ x; omega)
      replace HC := hidp (HC.out.keep hb)
      replace HS := hidp (HS.out.keep hb)
      replace HO1 := hidp (own_below HO1.out hb)
      replace HD := hidp (HD.out.keep hb)
      replace HRF := hidp (HRF.out.keep hb)
      clear hb
      generalize hn13 : v1.heap.size = N13 at *
      generalize hw13 : v1.alloc (.cells #[.slice none 0 0, .int .i64 0, .int .i64 0, .int .i64 0, .int .i64 0, .int .i64 0, .int .i64 0, .int .i64 0, .int .i64 0] 46) = v4 at *
      clear hn13 hw13
      refine hK.out _ _ ?_ (fun hHeld => ?_)
      ·(try dsimp only)
       first | exact HC.out.three | exact hHeld
      clear hK K
      (try simp only [Act.put, gA, gB, gC, sA, sB, sC])
      refine rdz 3 fun K hK => ?_
      ·skip
       go_simp
       refine (HNJ.out _ _ _ HRF.out).mono ?_
       rintro e v5 ⟨u2, rfl, hown, hb⟩
       rw [HNL.out] at hown
       obtain ⟨A2, k2, hu2⟩ := own_slice hown
       subst hu2
       have HO2 : Hid (v5.ownsRow 0 94 2 (.slice A2 nl k2) nl (bkVs L)) := hidp (own_lower hown (Nat.zero_le _))
       clear HRF hown
       replace HC := hidp (HC.out.keep hb)
       replace HS := hidp (HS.out.keep hb)
       replace HN := hidp (HN.out.keep hb)
       replace HO1 := hidp (own_below HO1.out hb)
       replace HD := hidp (HD.out.keep hb)
       clear hb
       refine hK.out _ _ ?_ (fun hHeld => ?_)
       ·(try dsimp only)
        first | exact HC.out.three | exact hHeld
       clear hK K
       (try simp only [Act.put, gA, gB, gC, sA, sB, sC])
       refine tkz 4 ?_
       refine tkz 5 ?_
       refine tkz 6 ?_
       refine rdz 8 fun K hK => ?_
       obtain ⟨z0, z1', z2, z3, z4, z5', z6, z7, z8⟩ := HN.out.nine
       obtain ⟨f0, f1, f2, f3, f4, f5, f6, f7, f8⟩ := HN.out.thawed9
       go_simp
       obtain ⟨WF, hWF⟩ : ∃ WF, wr9 (v5) N13 (.slice A2 nl k2) r0 r1 r2 r3 r4 r5 r6 r7 = WF := ⟨_, rfl⟩
       replace HO1 := hidp (own9 hWF (heldOwn_ne HN.out HO1.out (by decide)) HO1.out)
       replace HO2 := hidp (own9 hWF (heldOwn_ne HN.out HO2.out (by decide)) HO2.out)
       replace HC := hidp (far9 hWF (by have := HLT.out; omega) HC.out)
       replace HS := hidp (far9 hWF (by have := HLT.out; omega) HS.out)
       replace HD := hidp (duo9 hWF HNA.out (fun x => x) HLE.out HD.out)
       replace HN := hidp (held9 hWF HN.out)
       unfold wr9 set9 at hWF
       rw [hWF]
       clear hWF z0 z1' z2 z3 z4 z5' z6 z7 z8 f0 f1 f2 f3 f4 f5 f6 f7 f8
       refine hK.out _ _ ?_ (fun hHeld => ?_)
       ·(try dsimp only)
        first | exact HC.out.three | exact hHeld
       clear hK K
       (try simp only [Act.put, gA, gB, gC, sA, sB, sC])
       refine tkz 9 ?_
       refine dnz ?_
       go_wp2_with fail
       go_meet
       case rel => exact ⟨_, _, _, _, rfl, rfl, HN.out, HO2.out, HC.out, HS.out, HO1.out, HD.out⟩
    ·skip
     go_simp
     have hb := Bnew (B0 q0) (.cells #[.slice none 0 0, .int .i64 0, .int .i64 0, .int .i64 0, .int .i64 0, .int .i64 0, .int .i64 0, .int .i64 0, .int .i64 0] 46)
     have HN := hidp (Held.new q0 46 #[.slice none 0 0, .int .i64 0, .int .i64 0, .int .i64 0, .int .i64 0, .int .i64 0, .int .i64 0, .int .i64 0, .int .i64 0])
     have HLE := hidp HD.out.bel.size
     have HLT : Hid (W.heap.size < q0.heap.size /\ NW < q0.heap.size) := hidp ⟨HC.out.lt, HS.out.lt⟩
     have HNA : Hid (¬ A4 q0.heap.size) := hidp (fun x => by have := Ob.lt (vOb z1 b1 n true (wholeKS vals)) HD.out.i1 _ x; omega)
     replace HC := hidp (HC.out.keep hb)
     replace HS := hidp (HS.out.keep hb)
     replace HO1 := hidp (own_below HO1.out hb)
     replace HD := hidp (HD.out.keep hb)
     clear hb
     generalize hn13 : q0.heap.size = N13 at *
     generalize hw13 : q0.alloc (.cells #[.slice none 0 0, .int .i64 0, .int .i64 0, .int .i64 0, .int .i64 0, .int .i64 0, .int .i64 0, .int .i64 0, .int .i64 0] 46) = v6 at *
     clear hn13 hw13
     refine hK.out _ _ ?_ (fun hHeld => ?_)
     ·(try dsimp only)
      first | exact HC.out.three | exact hHeld
     clear hK K
     (try simp only [Act.put, gA, gB, gC, sA, sB, sC])
     refine rdz 2 fun K hK => ?_
     ·skip
      go_simp
      obtain ⟨o9, hI9, _⟩ := HD.out.i1
      refine (vVals_some hn0 (by have := hI9.ok.few; omega) _ hI9).mono ?_
      rintro e v7 ⟨g, cp, rfl, _, hrow, hb⟩
      have HRF := hidp hrow
      clear hI9 hrow
      replace HC := hidp (HC.out.keep hb)
      replace HS := hidp (HS.out.keep hb)
      replace HN := hidp (HN.out.keep hb)
      replace HO1 := hidp (own_below HO1.out hb)
      replace HD := hidp (HD.out.keep hb)
      clear hb
      refine hK.out _ _ ?_ (fun hHeld => ?_)
      ·(try dsimp only)
       first | exact HC.out.three | exact hHeld
      clear hK K
      (try simp only [Act.put, gA, gB, gC, sA, sB, sC])
      refine rdz 3 fun K hK => ?_
      ·skip
       go_simp
       refine (HNJ.out _ _ _ HRF.out).mono ?_
       rintro e v8 ⟨u2, rfl, hown, hb⟩
       rw [HNL.out] at hown
       obtain ⟨A2, k2, hu2⟩ := own_slice hown
       subst hu2
       have HO2 : Hid (v8.ownsRow 0 94 2 (.slice A2 nl k2) nl (bkVs L)) := hidp (own_lower hown (Nat.zero_le _))
       clear HRF hown
       replace HC := hidp (HC.out.keep hb)
       replace HS := hidp (HS.out.keep hb)
       replace HN := hidp (HN.out.keep hb)
       replace HO1 := hidp (own_below HO1.out hb)
       replace HD := hidp (HD.out.keep hb)
       clear hb
       refine hK.out _ _ ?_ (fun hHeld => ?_)
       ·(try dsimp only)
        first | exact HC.out.three | exact hHeld
       clear hK K
       (try simp only [Act.put, gA, gB, gC, sA, sB, sC])
       refine tkz 4 ?_
       refine tkz 5 ?_
       refine tkz 6 ?_
       refine rdz 8 fun K hK => ?_
       obtain ⟨z0, z1', z2, z3, z4, z5', z6, z7, z8⟩ := HN.out.nine
       obtain ⟨f0, f1, f2, f3, f4, f5, f6, f7, f8⟩ := HN.out.thawed9
       go_simp
       obtain ⟨WF, hWF⟩ : ∃ WF, wr9 (v8) N13 (.slice A2 nl k2) r0 r1 r2 r3 r4 r5 r6 r7 = WF := ⟨_, rfl⟩
       replace HO1 := hidp (own9 hWF (heldOwn_ne HN.out HO1.out (by decide)) HO1.out)
       replace HO2 := hidp (own9 hWF (heldOwn_ne HN.out HO2.out (by decide)) HO2.out)
       replace HC := hidp (far9 hWF (by have := HLT.out; omega) HC.out)
       replace HS := hidp (far9 hWF (by have := HLT.out; omega) HS.out)
       replace HD := hidp (duo9 hWF HNA.out (fun x => x) HLE.out HD.out)
       replace HN := hidp (held9 hWF HN.out)
       unfold wr9 set9 at hWF
       rw [hWF]
       clear hWF z0 z1' z2 z3 z4 z5' z6 z7 z8 f0 f1 f2 f3 f4 f5 f6 f7 f8
       refine hK.out _ _ ?_ (fun hHeld => ?_)
       ·(try dsimp only)
        first | exact HC.out.three | exact hHeld
       clear hK K
       (try simp only [Act.put, gA, gB, gC, sA, sB, sC])
       refine tkz 9 ?_
       refine dnz ?_
       go_wp2_with fail
       go_meet
       case rel => exact ⟨_, _, _, _, rfl, rfl, HN.out, HO2.out, HC.out, HS.out, HO1.out, HD.out⟩
   case rest =>
    obtain ⟨N13, k2, A2, A4, rfl, rfl, hN, hO2, hHC, hHS, hHO1, hD⟩ := hcut
    have HNS := hidp hN
    have HO2 := hidp hO2
    replace HC := hidp hHC
    replace HS := hidp hHS
    replace HO1 := hidp hHO1
    replace HD := hidp hD
    clear hN hO2 hHC hHS hHO1 hD
    clear x0 x1 x2
    obtain ⟨x0, x1, x2⟩ := HC.out.three
    obtain ⟨a0, a1, a2, a3, a4, a5, a6, a7, a8⟩ := HS.out.nine
    obtain ⟨b0, b1', b2, b3, b4, b5, b6, b7, b8⟩ := HNS.out.nine
    go_wp2_with fail
    refine (xSame_c L L A1 A2 nl nl k1 k2 0 0 r0 r1 r2 r3 r4 r5 r6 r7 r0 r1 r2 r3 r4 r5 r6 r7 _ HNL.out HNL.out hnlb2 hnlb2 HO1.out HO2.out true ⟨fun _ => ⟨rfl, rfl⟩, fun _ => rfl⟩).mono ?_
    rintro e w6 ⟨rfl, hb⟩
    replace HC := hidp (HC.out.keep hb)
    replace HS := hidp (HS.out.keep hb)
    replace HO1 := hidp (own_below HO1.out hb)
    replace HD := hidp (HD.out.keep hb)
    clear hb a0 a1 a2 a3 a4 a5 a6 a7 a8 b0 b1' b2 b3 b4 b5 b6 b7 b8 x0 x1 x2
    obtain ⟨x0, x1, x2⟩ := HC.out.three
    clear x0 x1 x2 HNS HO2
    go_wp2
    go_roundw
    case rel => exact ⟨j + 1, _, _, by omega, by go_num, HSN, HC, HS, HO1, HD⟩
    case measure => simp [intOf]; omega
  ·have t1 : decide ((j : Int) < (H.p : Int)) = false := decide_eq_false (by omega)
   have t1n : decide (j < H.p) = false := decide_eq_false hlt
   obtain rfl : j = H.p := by omega
   have HFT := hidp (HFITS.out sj HOK.out HSW.out)
   have HAG := hidp (HAGAIN.out sj HOK.out HSW.out)
   obtain ⟨v2, hl2, hv2, h322, hc2⟩ := row_list n (nowV (wholeKS vals) sj.wr) (HLTV.out sj HOK.out HSW.out)
   have HL2 := hidp hl2
   have HV2 := hidp hv2
   have H322 := hidp h322
   have HC2 := hidp hc2
   clear HFITS HAGAIN HNOW HSTEP HSW HS HO1 hlt hj HLTV hl2 hv2 h322 hc2
   have HPK : Hid (PksAt (wr.alloc (.cells (madeCells noPk (H.t * 9)) 99)) (some ⟨wr.heap.size, 0, none⟩) H.t (fun _ _ => ⟨none, 0, 0⟩) (fun _ _ => [])) := hidp (pks_made H.t wr)
   replace HC := hidp (HC.out.keep (Bnew (B0 _) (.cells (madeCells noPk (H.t * 9)) 99)))
   replace HD := hidp (HD.out.keep (Bnew (B0 _) (.cells (madeCells noPk (H.t * 9)) 99)))
   go_wp2_with fail
   generalize hNP : wr.heap.size = NP at HPK ⊢
   generalize hwp : wr.alloc _ = wp at *
   clear hNP hwp hmk
   replace HC := hidp (HC.out.keep (Bdrew (B0 _)))
   replace HPK := hidp (HPK.out.below (Bdrew (B0 _)))
   replace HD := hidp (HD.out.keep (Bdrew (B0 _)))
   refine wp_region_held_drew (S := (fun w' => w'.cell? ⟨W.heap.size, 0, none⟩ = some (.int .i64 (H.t : Int)) /\ w'.cell? ⟨W.heap.size, 1, none⟩ = some (.int .i64 (H.p : Int)) /\ w'.cell? ⟨W.heap.size, 2, none⟩ = some (.int .i64 (H.s : Int)))) (by kernel_rfl) ?_ (fun hHeld => ?_)
   ·(try dsimp only)
    first | exact HC.out.three | exact hHeld
   refine tkz 0 ?_
   refine tkz 1 ?_
   refine tkz 3 ?_
   refine rdz 2 fun K hK => ?_
   go_simp
   obtain ⟨o9, hI9, _⟩ := HD.out.i1
   refine (vVals_some hn0 (by have := hI9.ok.few; omega) _ hI9).mono ?_
   rintro e w61 ⟨g, cp, rfl, _, hrow, hb⟩
   have HRF := hidp hrow
   replace HC := hidp (HC.out.keep hb)
   replace HPK := hidp (HPK.out.below hb)
   replace HD := hidp (HD.out.keep hb)
   clear hI9 hrow hb
   refine hK.out _ _ ?_ (fun hHeld => ?_)
   ·(try dsimp only)
    first | exact HC.out.three | exact hHeld
   clear hK K
   (try simp only [Act.put, gA, gB, gC, sA, sB, sC])
   refine rdz 4 fun K hK => ?_
   go_simp
   refine (HFT.out _ _ _ HRF.out _ _ _ (Nat.le_refl _) (by unfold maxLen; omega) HPK.out).mono ?_
   rintro e w62 ⟨rfl, hb⟩
   replace HC := hidp (HC.out.keep hb)
   replace HD := hidp (HD.out.keep hb)
   clear hb HRF HPK
   refine hK.out _ _ ?_ (fun hHeld => ?_)
   ·(try dsimp only)
    first | exact HC.out.three | exact hHeld
   clear hK K
   (try simp only [Act.put, gA, gB, gC, sA, sB, sC])
   refine tkz 5 ?_
   refine dnz ?_
   clear x0 x1 x2
   obtain ⟨x0, x1, x2⟩ := HC.out.three
   go_wp2_with fail
   obtain ⟨o9, hI9, _⟩ := HD.out.i1
   refine (vVals_some hn0 (by have := hI9.ok.few; omega) _ hI9).mono ?_
   rintro e w63 ⟨g, cp, rfl, _, hrow, hb⟩
   have HRF := hidp hrow
   replace HC := hidp (HC.out.keep hb)
   replace HD := hidp (HD.out.keep hb)
   clear hI9 hrow hb
   have HB := hidp HD.out.bel
   clear HD x0 x1 x2
   obtain ⟨x0, x1, x2⟩ := HC.out.three
   go_wp2_with fail
   refine (Whole_c (some ⟨g, 0, none⟩) cp v2 n HL2.out (by omega) H322.out _ (fun _ => ⟨_, rfl, HC2.out _ _ _ HRF.out⟩)).mono ?_
   rintro e w64 ⟨b2, o2, rfl, hI, hB⟩
   have HD : Hid (Duo W (vOb w63.heap.size b2 n true (fun i => v2[i]?)) noOb (o2.A b2) (fun _ => False) (fun g => g = W.heap.size) freshS freshS w64) := hidp (duo_made (W := W) hI HB.out.size (Bgo HB.out hB) (fun g hg => by
    subst hg
    have h1 := HC.out.lt
    have h2 := hB.size
    exact ⟨by omega, fun x => by have := hI.ge _ x; omega⟩))
   replace HC := hidp (HC.out.keep hB)
   clear hI hB HB HRF x0 x1 x2 HC2
   obtain ⟨x0, x1, x2⟩ := HC.out.three
   go_wp2_with fail
   refine (swAll_c hn40 H.p (by omega) rfl (HD.out.slots24 HTL.out).1 (HD.out.slots24 HTL.out).2.1 HD.out.at1).mono ?_
   rintro e w65 ⟨rfl, h1, _, hvk⟩
   obtain ⟨A9, h2, h3⟩ := HD.out.left1 h1.left
   obtain ⟨ha1, ha2⟩ := HAG.out v2 HL2.out HV2.out (fun j hj => hvk j (by omega))
   have e0 : (((sweepTo n (fun i => v2[i]?) H.t H.p H.s H.p freshS).1 : Nat) : Int) = 0 := by rw [ha1]; rfl
   rw [e0]
   obtain ⟨sf, hsf⟩ : ∃ sf, (sweepTo n (fun i => v2[i]?) H.t H.p H.s H.p freshS).2 = sf := ⟨_, rfl⟩
   rw [hsf] at h2 ha2
   replace HC := hidp (h3.held rfl HC.out)
   replace HD := hidp h2
   have HWR := hidp ha2
   clear h1 h2 h3 hvk ha1 ha2 e0 hsf HAG HL2 HV2 H322 x0 x1 x2
   obtain ⟨x0, x1, x2⟩ := HC.out.three
   obtain ⟨o5, hI5, _⟩ := HD.out.i1
   have HI5 := hidp hI5
   have HB5 := hidp HD.out.bel
   clear hI5 HD
   go_wp2_with fail
   refine (vWrites_c (by rw [HWR.out]; simp) _ HI5.out).mono ?_
   rintro e w7 ⟨u7, rfl, ho, hb⟩
   rw [HWR.out] at ho
   obtain ⟨A7, c7, hu7⟩ := own_slice ho
   subst hu7
   have HB := hidp (Bgo HB5.out hb)
   clear hb ho HI5 HB5
   go_wp2_with fail
   refine (live24_c _ (HTL.out.below HB.out)).mono ?_
   rintro e w19 ⟨rfl, hb⟩
   have HBL := hidp (Bgo HB.out hb)
   clear hb
   go_wp2
   go_ret
   exact ⟨rfl, HBL.out⟩
theorem SweepKeeps_calls (t q s : Int) (A : Option Addr) (c : Nat) (vals : List Nat) (hnc : vals.length <= c) (hcm : c <= maxLen) (h32 : ∀ x ∈ vals, x < 2 ^ 32) (W : World) (hT : SlotsLaid W) (HR : Hid (Reads W W.heap.size 1 A vals.length (valVs vals))) :
  Calls Tryz.prog 4 #[.agg #[.int .i64 t, .int .i64 q, .int .i64 s], .slice A vals.length c] W (Keeps W) := by
 by_cases hq : q <= 64
 ·rcases heap13_or W t q s A c vals hnc hcm h32 HR.out with ⟨m, hX⟩ | ⟨H, ad, m, rfl, rfl, rfl, rfl, hV, HV, hv, hto, hX⟩
  ·exact SweepKeeps_no t q s A _ c m hq W hT (hidp hX)
  ·exact SweepKeeps_main ad _ c m HV vals (hidp rfl) (hidp h32) hV (by omega) (told_rules hto) W hT HR (hidp hv) (hidp hX)
 ·exact SweepKeeps_few t q s A _ c 0 (by omega) W hT
end
end Go.Proofs.YtnmhdlpnimdffaaGreatDoor

namespace Go.Proofs.YtnmhdlpnimdffaaGreatDoor
open Go.ChangeShapes Go.WideShapes Go.ChangeAt Go.RowKit
set_option linter.unusedVariables false
set_option linter.unusedSimpArgs false
section
set_option maxRecDepth 100000 in
theorem open_conf {H : Type} {enc : TypeId × Value -> H} {W : World} {b base : Nat} {sp : Nat -> Bool} {held : Bool} {v : Value} {d : DataW H} {p : List MemPlace}
  (hv : Value.okWide Tryz.prog W .any b 23 v) (h : DataW.Trod enc Tryz.prog W base sp held 23 v d p) :
  ∃ (t q s : Int), v = .agg #[.int .i64 t, .int .i64 q, .int .i64 s] := by
 obtain ⟨v0, v1, v2, y0, y1, y2, m, rfl, rfl, rfl, h0, h1, h2⟩ := Joins.open_agg3 Tryz.underlying23 (by kernel_rfl) (by kernel_rfl) hv h
 obtain ⟨a, e0, _, w0⟩ := DataW.trod_int Tryz.underlying3 h0
 obtain ⟨c, e1, _, w1⟩ := DataW.trod_int Tryz.underlying3 h1
 obtain ⟨k, e2, _, w2⟩ := DataW.trod_int Tryz.underlying3 h2
 simp at e0 e1 e2
 subst e0 e1 e2
 exact ⟨a, c, k, rfl⟩
end
end Go.Proofs.YtnmhdlpnimdffaaGreatDoor
