/-
  What the document's answer of layer 17 does: how often an address is among some, all addresses of a class, which pockets are few.
-/
import Derived.Test.YtnmhdlpnimdffaaGreatDoorC14
import Derived.Test.YtnmhdlpnimdffaaGreatDoorC06
import Derived.Test.YtnmhdlpnimdffaaGreatDoorC01
import Derived.Test.YtnmhdlpnimdffaaGreatDoorC13
import Derived.Test.YtnmhdlpnimdffaaGreatDoorC03
import Derived.Laws.MakeOwn
import Derived.Test.YtnmhdlpnimdffaaGreatDoorCKit
import Derived.Test.YtnmhdlpnimdffaaGreatDoorC09
namespace Go.Proofs.YtnmhdlpnimdffaaGreatDoor
open Go.ChangeShapes Go.WideShapes Go.ChangeAt Go.RowKit Go.Maps
set_option linter.unusedVariables false
set_option linter.unusedSimpArgs false
set_option maxRecDepth 100000
section
theorem count_take {l : List Int} {i : Nat} {z : Int} (a : Int) (hz : l[i]? = some z) : (l.take (i + 1)).count a = (l.take i).count a + if z = a then 1 else 0 := by
 rw [List.take_add_one, hz, List.count_append]
 congr 1
 show [z].count a = _
 rw [List.count_singleton]
 by_cases h : z = a
 ·subst h; simp
 ·rw [if_neg h]; simp [h]
theorem rOften_c (u : Value) (l : List Int) (a : Int) (nl : Nat) (hnl : l.length = nl) (hl : nl <= 1000000) (w : World) (h : LongsAt w u l) :
  Calls Tryz.prog 60 #[u, .int .i64 a] w fun e w' => e = .returned (.int .i64 ((l.count a : Nat) : Int)) /\ w = w' := by
 obtain ⟨A, c, rfl, hlc, hcm, hb, hnone, hcell⟩ := h
 have HNL := hidp hnl
 have HCL := hidp hcell
 have HNO := hidp hnone
 rw [hnl] at hlc ⊢
 clear hnl hcell hnone
 go_enter Tryz.func60, Tryz.ntmps60
 go_wp2
 go_loop [5, 6] (fun u5 u6 => ∃ i : Nat, i <= nl /\ u6 = .int .i64 (i : Int) /\ u5 = .int .i64 (((l.take i).count a : Nat) : Int)) (fun _ u6 => nl - (intOf u6).toNat)
 case atStart => exact ⟨0, by omega, rfl, rfl⟩
 case round =>
  obtain ⟨i, hi, rfl, rfl⟩ := hrel
  by_cases hlt : i < nl
  ·obtain ⟨z, hz⟩ : ∃ z, l[i]? = some z := ⟨_, List.getElem?_eq_getElem (by rw [HNL.out]; exact hlt)⟩
   cases A with
   | none => exact absurd HNL.out (by rw [(HNO.out rfl).1]; simp; omega)
   | some ad =>
    have hc := (HCL.out ad rfl).2 i z hz
    have HT := hidp (count_take a hz)
    have hk : (l.take i).count a <= i := Nat.le_trans List.count_le_length (by rw [List.length_take]; omega)
    clear hz
    generalize (l.take i).count a = y at *
    by_cases h4 : z = a
    ·have t0 : (z == a) = true := by simpa using h4
     rw [if_pos h4] at HT
     clear h4
     go_wp2
     go_round
     case rel => exact ⟨i + 1, by omega, by go_num, by rw [HT.out]; go_num⟩
     case measure => simp [intOf]; omega
    ·have t0 : (z == a) = false := by simpa using h4
     rw [if_neg h4, Nat.add_zero] at HT
     clear h4
     go_wp2
     go_round
     case rel => exact ⟨i + 1, by omega, by go_num, by rw [HT.out]; rfl⟩
     case measure => simp [intOf]; omega
  ·obtain rfl : i = nl := by omega
   have HE : Hid (l.take i = l) := hidp (List.take_of_length_le (by rw [HNL.out]; exact Nat.le_refl _))
   go_wp2
   go_ret
   exact ⟨by rw [HE.out]; rfl, rfl⟩
def lgVs (l : List Int) : List Value := l.map (Value.int .i64)
theorem lgVs_len (l : List Int) : (lgVs l).length = l.length := List.length_map ..
theorem lgVs_get {l : List Int} {j : Nat} {u : Value} (h : (lgVs l)[j]? = some u) : ∃ z, l[j]? = some z /\ u = .int .i64 z := by
 unfold lgVs at h
 rw [List.getElem?_map] at h
 cases hz : l[j]? with
 | none => rw [hz] at h; cases h
 | some z => rw [hz] at h; injection h with h; exact ⟨z, rfl, h.symm⟩
theorem own_caps_any {w : World} {base : Nat} {e : TypeId} {size n c : Nat} {A : Option Addr} {xs : List Value} (h : w.ownsRow base e size (.slice A n c) n xs) : n <= c /\ c <= 9223372036854775807 := by
 rcases h.2 with ⟨h1, h2⟩ | ⟨g, cap, cur, h1, hb, hg, hnc, hcm, hr⟩
 ·injection h1 with _ h1 h3; omega
 ·injection h1 with _ _ h3; unfold maxLen at hcm; omega
set_option maxHeartbeats 3200000 in
theorem rAll_c (A : Option Addr) (T c k : Nat) (U : Nat -> Nat -> Sl) (Z : Nat -> Nat -> List Int) (hT : T <= 1000) (hk : k < 9) (hl : ∀ t, t < T -> (Z t k).length <= 1000) (hTc : T <= c) (hcm : c <= maxLen) (w : World) (h : PksAt w A T U Z) :
    Calls Tryz.prog 58 #[.slice A T c, .int .i64 (k : Int)] w fun e w' => ∃ u, e = .returned u /\ w'.ownsRow w.heap.size 2 1 u (haveT Z k T).length (lgVs (haveT Z k T)) /\ Below w.heap.size w w' := by
  have HP := hidp h
  have HB := hidp (Bnew (B0 w) (.cells #[] 2))
  have HO : Hid ((w.alloc (.cells #[] 2)).ownsRow w.heap.size 2 1 (.slice (some ⟨w.heap.size, 0, none⟩) 0 0) 0 []) := hidp (World.ownsRow_lit (base := w.heap.size) (e := 2) (size := 1) w #[] 0 (Nat.le_refl _) (by unfold maxLen; omega) rfl)
  have hlen : ∀ i, i <= T -> (haveT Z k i).length <= i * 1000 := fun i => by
    induction i with
    | zero => intro _; exact Nat.le_refl _
    | succ i ih =>
      intro hi
      unfold haveT
      rw [List.length_append]
      have := ih (by omega)
      have := hl i (by omega)
      omega
  obtain ⟨i0, hi0, hz0, hz1, hz2⟩ := info_parts longInfo
  clear h
  go_enter Tryz.func58, Tryz.ntmps58
  go_wp2
  go_loopw [5, 6] (fun u5 u6 wr => ∃ i : Nat, i <= T /\ u6 = .int .i64 (i : Int) /\ Hid (wr.ownsRow w.heap.size 2 1 u5 (haveT Z k i).length (lgVs (haveT Z k i))) /\ Hid (Below w.heap.size w wr)) (fun _ u6 _ => T - (intOf u6).toNat)
  case atStart => exact ⟨0, by omega, rfl, HO, HB⟩
  case round =>
    clear HO HB
    obtain ⟨i, hi, rfl, HO, HB⟩ := hrel
    by_cases hlt : i < T
    · obtain ⟨ad, e, _, hcs⟩ := HP.out.below HB.out i hlt
      subst e
      obtain ⟨hc0, hL⟩ := hcs k hk
      obtain ⟨A2, c2, hu, hlc, hcm2, _, hno, hcl⟩ := hL
      rw [hu] at hc0
      have hc1 := hc0
      rw [<- add_of_add] at hc1
      have hll := hlen i hi
      have hz := hl i hlt
      have HE : Hid (haveT Z k (i + 1) = haveT Z k i ++ Z i k) := hidp rfl
      have HCL := hidp hcl
      obtain ⟨n1, hn1⟩ : ∃ n1, (Z i k).length = n1 := ⟨_, rfl⟩
      obtain ⟨n0, hn0⟩ : ∃ n0, (haveT Z k i).length = n0 := ⟨_, rfl⟩
      have HN1 := hidp hn1
      have HN0 := hidp hn0
      rw [hn0] at HO hll
      rw [hn1] at hc0 hc1 hlc hz
      obtain ⟨A1, c1, hu1⟩ := own_slice HO.out
      subst hu1
      have hcc := own_caps_any HO.out
      clear hcl hu hn1 hn0
      cases A2 with
      | none =>
        obtain ⟨hz1', hz2'⟩ := hno rfl
        have hn10 : n1 = 0 := by rw [<- HN1.out, hz1']; rfl
        subst hn10
        subst hz2'
        go_wp2_with (first
          | (at_builtin
             refine wpList_append_none rfl _ _ 97 rfl 2 i0 Tryz.underlying97 hi0 A1 n0 c1 0 hcc.1 rfl rfl ?_)
          | fail)
        go_roundw
        case rel => exact ⟨i + 1, by omega, by go_num, by rw [HE.out, hz1', List.append_nil, HN0.out]; exact HO, HB⟩
        case measure => simp [intOf]; omega
      | some ad2 =>
        go_wp2_with (first
          | (at_builtin
             refine wpList_append_own _ rfl _ _ 97 rfl w.heap.size 2 i0 (.int .i64 0) 1 8 Tryz.underlying97 hi0 hz0 hz1 hz2 rfl (by decide) _ _ _ rfl HO.out ad2 n1 c2 (lgVs (Z i k)) rfl ?c0 ?c1 ?c2 ?c3 ?c4 ?c5 ?_
             case c0 => rw [lgVs_len, HN1.out]; omega
             case c1 => intro j y hy; obtain ⟨z, hz, rfl⟩ := lgVs_get hy; exact (HCL.out ad2 rfl).2 j z hz
             case c2 => intro y hy; obtain ⟨j, hj⟩ := List.mem_iff_getElem?.1 hy; obtain ⟨z, _, rfl⟩ := lgVs_get hj; simp [Value.oneCell']
             case c3 => unfold maxLen; omega
             case c4 => omega
             case c5 => have := HB.out.size; omega
             intro u7 w7 hown7 hgrow hat7
             have HO7 : Hid (w7.ownsRow w.heap.size 2 1 u7 (haveT Z k (i + 1)).length (lgVs (haveT Z k (i + 1)))) := hidp (by rw [HE.out, List.length_append, HN0.out, HN1.out]; unfold lgVs at hown7 ⊢; rw [List.map_append]; exact hown7)
             have HB7 := hidp (HB.out.grown hgrow (by have := HB.out.size; omega) (fun j hj => (HO.out.lt j hj).1))
             clear hown7 hgrow hat7)
          | fail)
        go_roundw
        case rel => exact ⟨i + 1, by omega, by go_num, HO7, HB7⟩
        case measure => simp [intOf]; omega
    · obtain rfl : i = T := by omega
      go_wp2
      go_ret
      exact ⟨_, rfl, HO.out, HB.out⟩
end
end Go.Proofs.YtnmhdlpnimdffaaGreatDoor

namespace Go.Proofs.YtnmhdlpnimdffaaGreatDoor
open Go.ChangeShapes Go.WideShapes Go.ChangeAt Go.RowKit Go.Maps
set_option linter.unusedVariables false
set_option linter.unusedSimpArgs false
section
theorem longs_of_own {w : World} {base : Nat} {u : Value} {l : List Int} (h : w.ownsRow base 2 1 u l.length (lgVs l)) (hb : ∀ z ∈ l, -9223372036854775808 <= z /\ z <= 9223372036854775807) : LongsAt w u l := by
 have hx : ∀ {A : Option Addr} {c : Nat}, u = .slice A l.length c -> A ≠ none -> True := fun _ _ => trivial
 rcases h.2 with ⟨hu, hn⟩ | ⟨g, cap, cur, hu, hbs, hg, hnc, hcm, hr⟩
 ·have hl : l = [] := List.length_eq_zero_iff.1 hn
  subst hl
  exact ⟨none, 0, hu, Nat.le_refl _, Nat.zero_le _, hb, fun _ => ⟨rfl, rfl⟩, fun ad e => by cases e⟩
 ·refine ⟨some ⟨g, 0, none⟩, cap, hu, hnc, hcm, hb, (fun e => by cases e), fun ad e => ?_⟩
  injection e with e
  subst e
  refine ⟨fun _ => (h.lt g (by rw [hu]; rfl)).2, fun i z hz => ?_⟩
  have hi : i < l.length := by
   rcases Nat.lt_or_ge i l.length with h1 | h1
   ·exact h1
   ·rw [List.getElem?_eq_none h1] at hz; cases hz
  subst hu
  have h1 := h.cellAt i (by omega)
  rw [show (⟨g, 0, none⟩ : Addr).add i = ⟨g, i, none⟩ by unfold Addr.add; by_cases h0 : i = 0 <;> simp [h0]]
  rw [h1]
  unfold lgVs
  rw [List.getElem?_map, hz]
  rfl
end
end Go.Proofs.YtnmhdlpnimdffaaGreatDoor

namespace Go.Proofs.YtnmhdlpnimdffaaGreatDoor
open Go.ChangeShapes Go.WideShapes Go.ChangeAt Go.RowKit Go.Maps
set_option linter.unusedVariables false
set_option linter.unusedSimpArgs false
set_option maxRecDepth 100000
section
theorem pkA_take {parts : List (Int × Int × Int)} {i : Nat} {x : Int × Int × Int} (z : Int) (hx : parts[i]? = some x) : pkA (parts.take (i + 1)) z = pkA (parts.take i) z ++ if x.1 = 4 /\ x.2.2 = z then [x.2.1] else [] := by
 rw [List.take_add_one, hx]
 unfold pkA
 show List.map _ (List.filter _ (parts.take i ++ [x])) = _
 rw [List.filter_append, List.map_append]
 congr 1
 by_cases h : x.1 = 4 /\ x.2.2 = z
 ·rw [if_pos h, List.filter_cons_of_pos (by simp [h.1, h.2])]; rfl
 ·rw [if_neg h, List.filter_cons_of_neg (by simp only [Bool.and_eq_true, decide_eq_true_eq]; exact h)]; rfl
theorem haveT_len {Z : Nat -> Nat -> List Int} {k B : Nat} : ∀ {T : Nat}, (∀ t, t < T -> (Z t k).length <= B) -> (haveT Z k T).length <= T * B
 | 0, _ => Nat.zero_le _
 | T + 1, h => by
  unfold haveT
  rw [List.length_append, Nat.add_mul, Nat.one_mul]
  have := haveT_len (T := T) (fun t ht => h t (by omega))
  have := h T (by omega)
  omega
theorem haveT_mem {Z : Nat -> Nat -> List Int} {k : Nat} {a : Int} : ∀ {T : Nat}, a ∈ haveT Z k T -> ∃ t, t < T /\ a ∈ Z t k
 | 0, h => by simp [haveT] at h
 | T + 1, h => by
  unfold haveT at h
  rcases List.mem_append.1 h with h | h
  ·obtain ⟨t, h1, h2⟩ := haveT_mem h
   exact ⟨t, by omega, h2⟩
  ·exact ⟨T, by omega, h⟩
theorem mem_pkA_at {l : List (Int × Int × Int)} {i : Nat} {xk xa xz z : Int} (hx : l[i]? = some (xk, xa, xz)) (h4 : xk = 4) (hz : xz = z) : xa ∈ pkA l z := by
 unfold pkA
 exact List.mem_map.2 ⟨_, List.mem_filter.2 ⟨List.mem_of_getElem? hx, by simp [h4, hz]⟩, rfl⟩
theorem pkA_len (l : List (Int × Int × Int)) (z : Int) : (pkA l z).length <= l.length := by unfold pkA; rw [List.length_map]; exact List.length_filter_le _ _
theorem overN_bound {parts : List (Int × Int × Int)} {sz : Nat -> Int} {T B : Nat} {Z : Nat -> Nat -> List Int} {m : Nat} (h : ∀ k, k < m -> (haveT Z k T).length <= B) : ∀ j : Nat, j <= m -> -((j : Int) * parts.length) <= overN parts sz T Z j /\ overN parts sz T Z j <= (j : Int) * B
 | 0, _ => by unfold overN; simp
 | j + 1, hj => by
  obtain ⟨h1, h2⟩ := overN_bound (sz := sz) h j (by omega)
  have h3 := h j (by omega)
  have h4 := pkA_len parts (sz j)
  unfold overN
  have e1 : ((j + 1 : Nat) : Int) * (parts.length : Int) = (j : Int) * parts.length + parts.length := by push_cast; rw [Int.add_mul]; omega
  have e2 : ((j + 1 : Nat) : Int) * (B : Int) = (j : Int) * B + B := by push_cast; rw [Int.add_mul]; omega
  rw [e1, e2]
  generalize (j : Int) * (parts.length : Int) = x1 at *
  generalize (j : Int) * (B : Int) = x2 at *
  omega
set_option maxHeartbeats 12800000 in
theorem rFits_heap {H : AuH} {n c : Nat} (HV : HeapV H n c) (ad : Addr) (m : Nat) (A2 : Option Addr) (c2 : Nat) (U : Nat -> Nat -> Sl) (Z : Nat -> Nat -> List Int) (hTc : H.t <= c2) (hc2 : c2 <= maxLen)
  (sz : Nat -> Int) (hsz : ∀ k : Nat, k < 9 -> ((sizeN (H.s : Int) (k : Int) : Nat) : Int) = sz k) (hnd : ∀ k, k < 9 -> (pkA H.parts (sz k)).Nodup) (b : Bool) (hb : b = true ↔ FitsP H.parts sz H.t Z)
  (w : World) (hv : IsVals w ad n H.V) (hX : XCheckIs w H.t H.p H.s (some ad) n c m true) (hP : PksAt w A2 H.t U Z) :
  Calls Tryz.prog 22 #[.agg #[.int .i64 (H.t : Int), .int .i64 (H.p : Int), .int .i64 (H.s : Int)], .slice (some ad) n c, .slice A2 H.t c2] w fun e w' => e = .returned (.bool b) /\ Below w.heap.size w w' := by
 have HNO : Hid (∀ k, k < 9 -> ¬ OnceP H.parts sz H.t Z k -> b = false) := hidp (fun k hk h => by
  cases b with
  | false => rfl
  | true => exact absurd (((fits_iff hnd).2 (hb.1 rfl)).1 k hk) h)
 have HYES : Hid ((∀ k, k < 9 -> OnceP H.parts sz H.t Z k) -> b = (overN H.parts sz H.t Z 9 == 0)) := hidp (fun h => by
  by_cases h0 : overN H.parts sz H.t Z 9 = 0
  ·rw [hb.2 ((fits_iff hnd).1 ⟨h, h0⟩), h0]; rfl
  ·cases b with
   | false => symm; simpa using h0
   | true => exact absurd ((fits_iff hnd).2 (hb.1 rfl)).2 h0)
 have HC := hidp (Held.new w 23 #[.int .i64 (H.t : Int), .int .i64 (H.p : Int), .int .i64 (H.s : Int)])
 have HB := hidp (Bnew (B0 w) (.cells #[.int .i64 (H.t : Int), .int .i64 (H.p : Int), .int .i64 (H.s : Int)] 23))
 have HXX := hidp hX
 have HVL := hidp hv
 have HPP := hidp hP
 have HSZA := hidp hsz
 obtain ⟨l, hpl⟩ : ∃ l, H.parts = l := ⟨_, rfl⟩
 obtain ⟨nl, hnl⟩ : ∃ nl, l.length = nl := ⟨_, rfl⟩
 have hnum := HV.nums
 have hT16 : H.t <= 16 := by omega
 have hnb : nl <= 60000 := by
  have h2 : H.parts.length <= H.p * 33 := AuH.parts_len H.p
  rw [hpl, hnl] at h2
  omega
 have HPL := hidp hpl
 have HNL := hidp hnl
 rw [hpl] at HNO HYES
 have t0 : ((H.t : Int) != (H.t : Int)) = false := by simp
 have s0 : -9223372036854775808 <= (H.s : Int) := by omega
 clear hb hX hv hP hsz hnl hpl hnd
 obtain ⟨x0, x1, x2⟩ := HC.out.three
 go_enter Tryz.func22, Tryz.ntmps22
 go_wp2_with fail
 refine (xSound_c H.t H.p H.s (some ad) n c m true _ (HXX.out.grown HB.out)).mono ?_
 rintro e w2 ⟨rfl, hb⟩
 replace HC := hidp (HC.out.keep hb)
 replace HB := hidp (Bgo HB.out hb)
 clear hb x0 x1 x2
 obtain ⟨x0, x1, x2⟩ := HC.out.three
 go_wp2_with fail
 refine (xPartsTop_yes HV ad m _ (HVL.out.below HB.out) (HXX.out.grown HB.out)).mono ?_
 rintro e w3 ⟨u3, rfl, ho, hb⟩
 rw [HPL.out, HNL.out] at ho
 obtain ⟨A1, c1, hu⟩ := own_slice ho
 subst hu
 have hcc := own_caps_any ho
 generalize w2.heap.size = bs at ho
 have HO := hidp ho
 replace HC := hidp (HC.out.keep hb)
 replace HB := hidp (Bgo HB.out hb)
 clear ho hb x0 x1 x2
 have HIB : Hid (∀ k, k < 9 -> ∀ z ∈ haveT Z k H.t, -9223372036854775808 <= z /\ z <= 9223372036854775807) := hidp (fun k hk z hz => by
  obtain ⟨t, ht, hz⟩ := haveT_mem hz
  obtain ⟨_, _, _, hcs⟩ := HPP.out t ht
  obtain ⟨_, _, _, _, _, hb, _⟩ := (hcs k hk).2
  exact hb z hz)
 go_wp2_with fail
 go_loopw [8, 9] (fun u8 u9 wr => ∃ (k : Nat) (ov : Int), k <= 9 /\ u9 = .int .i64 (k : Int) /\ u8 = .int .i64 ov /\ Hid (overN l sz H.t Z k = ov) /\ Hid (∀ j, j < k -> OnceP l sz H.t Z j) /\ Hid (Held wr w.heap.size 23 #[.int .i64 (H.t : Int), .int .i64 (H.p : Int), .int .i64 (H.s : Int)]) /\ Hid (wr.ownsRow bs 102 3 (.slice A1 nl c1) nl (ptVs l)) /\ Hid (Below w.heap.size w wr)) (fun _ u9 _ => 9 - (intOf u9).toNat)
 case atStart => exact ⟨0, 0, by omega, rfl, rfl, hidp rfl, hidp (fun j hj => absurd hj (Nat.not_lt_zero _)), HC, HO, HB⟩
 case round =>
  clear HC HO HB
  obtain ⟨k, ov, hk, rfl, rfl, HOV, HON, HC, HO, HB⟩ := hrel
  by_cases hk9 : k < 9
  ·go_wp2_with fail
   go_loopw [10] (fun u10 wr2 => ∃ t : Nat, t <= H.t /\ u10 = .int .i64 (t : Int) /\ wr2 = wr /\ Hid (∀ t', t' < t -> (Z t' k).length <= 4)) (fun u10 _ => H.t - (intOf u10).toNat)
   case atStart => exact ⟨0, by omega, rfl, rfl, hidp (fun j hj => absurd hj (Nat.not_lt_zero _))⟩
   case round =>
    obtain ⟨t, ht, rfl, rfl, HF4⟩ := hrel
    by_cases htT : t < H.t
    ·obtain ⟨ad2, e2, _, hcs⟩ := HPP.out.below HB.out t htT
     obtain ⟨hc0, hL⟩ := hcs k hk9
     obtain ⟨A3, c3, hu, hlc, hcm2, _, _, _⟩ := hL
     rw [hu] at hc0
     have hc1 := hc0
     rw [<- add_of_add] at hc1
     obtain ⟨n1, hn1⟩ : ∃ n1, (Z t k).length = n1 := ⟨_, rfl⟩
     have HN1 := hidp hn1
     have hz : (Z t k).length <= 9223372036854775807 := Nat.le_trans hlc (by unfold maxLen at hcm2; omega)
     rw [hn1] at hc0 hc1 hlc hz
     clear hu hn1 hcs
     by_cases h4 : n1 <= 4
     ·have t1 : decide ((4 : Int) < (n1 : Int)) = false := decide_eq_false (by omega)
      have t1n : decide (4 < n1) = false := decide_eq_false (by omega)
      subst e2
      go_wp2_with fail
      go_roundw
      case rel => exact ⟨t + 1, by omega, by go_num, by first | rfl | trivial, hidp (fun t' h' => by
       by_cases e : t' = t
       ·subst e; rw [HN1.out]; exact h4
       ·exact HF4.out t' (by omega))⟩
      case measure => simp [intOf]; omega
     ·have t1 : decide ((4 : Int) < (n1 : Int)) = true := decide_eq_true (by omega)
      have t1n : decide (4 < n1) = true := decide_eq_true (by omega)
      have hf := HNO.out k hk9 (fun h => h4 (by rw [<- HN1.out]; exact h.1 t htT))
      subst hf
      subst e2
      go_wp2_with fail
      go_ret
      exact ⟨rfl, HB.out⟩
    ·obtain rfl : t = H.t := by omega
     go_wp2_with fail
     refine (rAll_c A2 H.t c2 k U Z (by omega) hk9 (fun t' h' => Nat.le_trans (HF4.out t' h') (by omega)) hTc hc2 _ (HPP.out.below HB.out)).mono ?_
     rintro e w4 ⟨u4, rfl, ho, hb⟩
     obtain ⟨nh, hnh⟩ : ∃ nh, (haveT Z k H.t).length = nh := ⟨_, rfl⟩
     have hhl := haveT_len (Z := Z) (k := k) (B := 1000) (T := H.t) (fun t' ht' => Nat.le_trans (HF4.out t' ht') (by omega))
     have HLH := hidp (longs_of_own ho (HIB.out k hk9))
     rw [hnh] at ho hhl
     obtain ⟨A4, c4, hu⟩ := own_slice ho
     subst hu
     have hcc4 := own_caps_any ho
     have HV1 := hidp ho
     have HNH := hidp hnh
     replace HC := hidp (HC.out.keep hb)
     replace HO := hidp (own_below HO.out hb)
     replace HB := hidp (Bgo HB.out hb)
     have hbd := overN_bound (parts := l) (sz := sz) (T := H.t) (B := 16000) (Z := Z) (m := k) (fun j hj => by
      have h5 := haveT_len (Z := Z) (k := j) (B := 1000) (T := H.t) (fun t ht => Nat.le_trans ((HON.out j hj).1 t ht) (by omega))
      omega) k (Nat.le_refl _)
     rw [HNL.out, HOV.out] at hbd
     have hbd1 : -540000 <= ov /\ ov <= 144000 := by
      have g1 : (k : Int) * (nl : Int) <= 9 * 60000 := by
       have : k * nl <= 9 * 60000 := Nat.mul_le_mul hk hnb
       omega
      omega
     have v1 : IntKind.i64.wrap (ov + (nh : Int)) = ov + (nh : Int) := i64_same (by omega) (by omega)
     obtain ⟨zk, hzk⟩ : ∃ zk, sz k = zk := ⟨_, rfl⟩
     have HSZ : Hid (((sizeN (H.s : Int) (k : Int) : Nat) : Int) = zk) := hidp (by rw [HSZA.out k hk9, hzk])
     have HZK := hidp hzk
     clear ho hb hnh hbd hzk
     go_wp2_with fail
     go_loopw [8, 12] (fun u8 u12 wr => ∃ (i : Nat) (v : Int), i <= nl /\ u12 = .int .i64 (i : Int) /\ u8 = .int .i64 v /\ Hid (v = ov + (nh : Int) - ((pkA (l.take i) zk).length : Int)) /\ Hid (∀ a ∈ pkA (l.take i) zk, (haveT Z k H.t).count a = 1) /\ Hid (Held wr w.heap.size 23 #[.int .i64 (H.t : Int), .int .i64 (H.p : Int), .int .i64 (H.s : Int)]) /\ Hid (wr.ownsRow bs 102 3 (.slice A1 nl c1) nl (ptVs l)) /\ Hid (LongsAt wr (.slice A4 nh c4) (haveT Z k H.t)) /\ Hid (Below w.heap.size w wr)) (fun _ u12 _ => nl - (intOf u12).toNat)
     case atStart => exact ⟨0, ov + (nh : Int), by omega, rfl, rfl, hidp (by simp [pkA]), hidp (fun a ha => by simp [pkA] at ha), HC, HO, HLH, HB⟩
     case round =>
      clear HC HO HB HLH HV1
      obtain ⟨i, v, hi, rfl, rfl, HV0, HQ, HC, HO, HLH, HB⟩ := hrel
      by_cases hlt : i < nl
      ·obtain ⟨x, hx⟩ : ∃ x, l[i]? = some x := ⟨_, List.getElem?_eq_getElem (by rw [HNL.out]; exact hlt)⟩
       obtain ⟨xk, xa, xz⟩ := x
       obtain ⟨g, c9, hg, _⟩ := HO.out.form (by omega)
       injection hg with hg3 _ hg4
       subst hg3
       clear hg4
       have HXC := hidp (fun (w' : World) (ho : w'.ownsRow bs 102 3 (.slice (some ⟨g, 0, none⟩) nl c1) nl (ptVs l)) => (show w'.cell? ⟨g, i * 3, none⟩ = some (.int .i64 xk) /\ w'.cell? ⟨g, i * 3 + 1, none⟩ = some (.int .i64 xa) /\ w'.cell? ⟨g, i * 3 + 2, none⟩ = some (.int .i64 xz) from
        ⟨by rw [ho.cellAt (i * 3) (by omega)]; exact (ptVs_get l i _ hx).1, by rw [ho.cellAt (i * 3 + 1) (by omega)]; exact (ptVs_get l i _ hx).2.1, by rw [ho.cellAt (i * 3 + 2) (by omega)]; exact (ptVs_get l i _ hx).2.2⟩))
       have HPK := hidp (pkA_take zk hx)
       have hpl := pkA_len (l.take i) zk
       rw [List.length_take] at hpl
       have hv0 := HV0.out
       have hvb : -700000 <= v /\ v <= 700000 := by omega
       have HME : Hid (xk = 4 -> xz = zk -> xa ∈ pkA l zk) := hidp (fun e1 e2 => mem_pkA_at hx e1 e2)
       obtain ⟨cn, hcn⟩ : ∃ cn, (haveT Z k H.t).count xa = cn := ⟨_, rfl⟩
       have HCT := hidp hcn
       have hcb : cn <= nh := by rw [<- hcn, <- HNH.out]; exact List.count_le_length
       clear hx hv0 hpl hcn
       obtain ⟨x0, x1, x2⟩ := HC.out.three
       by_cases h4 : xk = 4
       ·have t4 : (xk == 4) = true := by simpa using h4
        by_cases h5 : xz = zk
        ·have t5 : (xz == zk) = true := by simpa using h5
         rw [if_pos ⟨h4, h5⟩] at HPK
         have HMM := hidp (HME.out h4 h5)
         clear h4 h5
         by_cases h6 : cn = 1
         ·have t6 : ((cn : Int) != 1) = false := by rw [bne_eq_false_iff_eq]; omega
          have t6n : (cn != 1) = false := by rw [bne_eq_false_iff_eq]; exact h6
          have v2 : IntKind.i64.wrap (v - 1) = v - 1 := i64_same (by omega) (by omega)
          have HC1 : Hid ((haveT Z k H.t).count xa = 1) := hidp (by rw [HCT.out]; exact h6)
          clear h6
          go_wp2_with fail
          replace HC := hidp (HC.out.keep (Bdrew (B0 _)))
          replace HO := hidp (own_below HO.out (Bdrew (B0 _)))
          replace HLH := hidp (HLH.out.below (Bdrew (B0 _)))
          replace HB := hidp (Bgo HB.out (Bdrew (B0 _)))
          refine wp_region_held_drew (S := (fun w' => (w'.cell? ⟨w.heap.size, 0, none⟩ = some (.int .i64 (H.t : Int)) /\ w'.cell? ⟨w.heap.size, 1, none⟩ = some (.int .i64 (H.p : Int)) /\ w'.cell? ⟨w.heap.size, 2, none⟩ = some (.int .i64 (H.s : Int))) /\ w'.cell? ⟨g, i * 3, none⟩ = some (.int .i64 xk) /\ w'.cell? ⟨g, i * 3 + 1, none⟩ = some (.int .i64 xa) /\ w'.cell? ⟨g, i * 3 + 2, none⟩ = some (.int .i64 xz))) (by kernel_rfl) ?_ (fun hHeld => ?_)
          ·(try dsimp only)
           first | exact ⟨HC.out.three, HXC.out _ HO.out⟩ | exact hHeld
          refine tkz 0 ?_
          refine tkz 1 ?_
          refine tkz 2 ?_
          refine tkz 3 ?_
          refine tkz 4 ?_
          refine tkz 5 ?_
          refine tkz 6 ?_
          refine tkz 7 ?_
          refine tkz 8 ?_
          refine tkz 9 ?_
          refine tkz 10 ?_
          refine tkz 11 ?_
          refine tkz 12 ?_
          refine tkz 13 ?_
          refine tkz 14 ?_
          refine rdz 15 fun K hK => ?_
          go_simp
          refine (r5Size_c (H.s : Int) (k : Int) (by omega) (by omega) _).mono ?_
          rintro e w9 ⟨rfl, hb⟩
          rw [HSZ.out]
          replace HC := hidp (HC.out.keep hb)
          replace HO := hidp (own_below HO.out hb)
          replace HLH := hidp (HLH.out.below hb)
          replace HB := hidp (Bgo HB.out hb)
          clear hb
          refine hK.out _ _ ?_ (fun hHeld => ?_)
          ·(try dsimp only)
           first | exact ⟨HC.out.three, HXC.out _ HO.out⟩ | exact hHeld
          clear hK K
          (try simp only [Act.put, gA, gB, gC, sA, sB, sC])
          refine tkz 16 ?_
          refine tkz 17 ?_
          refine dnz ?_
          clear x0 x1 x2
          obtain ⟨x0, x1, x2⟩ := HC.out.three
          obtain ⟨y0, y1, y2⟩ := HXC.out _ HO.out
          go_wp2_with fail
          refine (rOften_c (.slice A4 nh c4) (haveT Z k H.t) xa nh HNH.out (by omega) _ HLH.out).mono ?_
          rintro e w8 ⟨rfl, rfl⟩
          rw [HCT.out]
          go_wp2_with fail
          go_roundw
          case rel => exact ⟨i + 1, v - 1, by omega, by go_num, rfl, hidp (by rw [HPK.out, List.length_append, HV0.out]; simp only [List.length_cons, List.length_nil]; omega), hidp (fun a ha => by
           rw [HPK.out] at ha
           rcases List.mem_append.1 ha with ha | ha
           ·exact HQ.out a ha
           ·rw [List.mem_singleton] at ha; rw [ha]; exact HC1.out), HC, HO, HLH, HB⟩
          case measure => simp [intOf]; omega
         ·have t6 : ((cn : Int) != 1) = true := by rw [bne_iff_ne]; omega
          have t6n : (cn != 1) = true := by rw [bne_iff_ne]; exact h6
          have hf := HNO.out k hk9 (fun h => h6 (by rw [<- HCT.out]; exact h.2 xa (by rw [HZK.out]; exact HMM.out)))
          subst hf
          clear h6
          go_wp2_with fail
          replace HC := hidp (HC.out.keep (Bdrew (B0 _)))
          replace HO := hidp (own_below HO.out (Bdrew (B0 _)))
          replace HLH := hidp (HLH.out.below (Bdrew (B0 _)))
          replace HB := hidp (Bgo HB.out (Bdrew (B0 _)))
          refine wp_region_held_drew (S := (fun w' => (w'.cell? ⟨w.heap.size, 0, none⟩ = some (.int .i64 (H.t : Int)) /\ w'.cell? ⟨w.heap.size, 1, none⟩ = some (.int .i64 (H.p : Int)) /\ w'.cell? ⟨w.heap.size, 2, none⟩ = some (.int .i64 (H.s : Int))) /\ w'.cell? ⟨g, i * 3, none⟩ = some (.int .i64 xk) /\ w'.cell? ⟨g, i * 3 + 1, none⟩ = some (.int .i64 xa) /\ w'.cell? ⟨g, i * 3 + 2, none⟩ = some (.int .i64 xz))) (by kernel_rfl) ?_ (fun hHeld => ?_)
          ·(try dsimp only)
           first | exact ⟨HC.out.three, HXC.out _ HO.out⟩ | exact hHeld
          refine tkz 0 ?_
          refine tkz 1 ?_
          refine tkz 2 ?_
          refine tkz 3 ?_
          refine tkz 4 ?_
          refine tkz 5 ?_
          refine tkz 6 ?_
          refine tkz 7 ?_
          refine tkz 8 ?_
          refine tkz 9 ?_
          refine tkz 10 ?_
          refine tkz 11 ?_
          refine tkz 12 ?_
          refine tkz 13 ?_
          refine tkz 14 ?_
          refine rdz 15 fun K hK => ?_
          go_simp
          refine (r5Size_c (H.s : Int) (k : Int) (by omega) (by omega) _).mono ?_
          rintro e w9 ⟨rfl, hb⟩
          rw [HSZ.out]
          replace HC := hidp (HC.out.keep hb)
          replace HO := hidp (own_below HO.out hb)
          replace HLH := hidp (HLH.out.below hb)
          replace HB := hidp (Bgo HB.out hb)
          clear hb
          refine hK.out _ _ ?_ (fun hHeld => ?_)
          ·(try dsimp only)
           first | exact ⟨HC.out.three, HXC.out _ HO.out⟩ | exact hHeld
          clear hK K
          (try simp only [Act.put, gA, gB, gC, sA, sB, sC])
          refine tkz 16 ?_
          refine tkz 17 ?_
          refine dnz ?_
          clear x0 x1 x2
          obtain ⟨x0, x1, x2⟩ := HC.out.three
          obtain ⟨y0, y1, y2⟩ := HXC.out _ HO.out
          go_wp2_with fail
          refine (rOften_c (.slice A4 nh c4) (haveT Z k H.t) xa nh HNH.out (by omega) _ HLH.out).mono ?_
          rintro e w8 ⟨rfl, rfl⟩
          rw [HCT.out]
          go_wp2_with fail
          go_ret
          exact ⟨rfl, HB.out⟩
        ·have t5 : (xz == zk) = false := by simpa using h5
         rw [if_neg (fun h => h5 h.2), List.append_nil] at HPK
         clear h4 h5
         go_wp2_with fail
         replace HC := hidp (HC.out.keep (Bdrew (B0 _)))
         replace HO := hidp (own_below HO.out (Bdrew (B0 _)))
         replace HLH := hidp (HLH.out.below (Bdrew (B0 _)))
         replace HB := hidp (Bgo HB.out (Bdrew (B0 _)))
         refine wp_region_held_drew (S := (fun w' => (w'.cell? ⟨w.heap.size, 0, none⟩ = some (.int .i64 (H.t : Int)) /\ w'.cell? ⟨w.heap.size, 1, none⟩ = some (.int .i64 (H.p : Int)) /\ w'.cell? ⟨w.heap.size, 2, none⟩ = some (.int .i64 (H.s : Int))) /\ w'.cell? ⟨g, i * 3, none⟩ = some (.int .i64 xk) /\ w'.cell? ⟨g, i * 3 + 1, none⟩ = some (.int .i64 xa) /\ w'.cell? ⟨g, i * 3 + 2, none⟩ = some (.int .i64 xz))) (by kernel_rfl) ?_ (fun hHeld => ?_)
         ·(try dsimp only)
          first | exact ⟨HC.out.three, HXC.out _ HO.out⟩ | exact hHeld
         refine tkz 0 ?_
         refine tkz 1 ?_
         refine tkz 2 ?_
         refine tkz 3 ?_
         refine tkz 4 ?_
         refine tkz 5 ?_
         refine tkz 6 ?_
         refine tkz 7 ?_
         refine tkz 8 ?_
         refine tkz 9 ?_
         refine tkz 10 ?_
         refine tkz 11 ?_
         refine tkz 12 ?_
         refine tkz 13 ?_
         refine tkz 14 ?_
         refine rdz 15 fun K hK => ?_
         go_simp
         refine (r5Size_c (H.s : Int) (k : Int) (by omega) (by omega) _).mono ?_
         rintro e w9 ⟨rfl, hb⟩
         rw [HSZ.out]
         replace HC := hidp (HC.out.keep hb)
         replace HO := hidp (own_below HO.out hb)
         replace HLH := hidp (HLH.out.below hb)
         replace HB := hidp (Bgo HB.out hb)
         clear hb
         refine hK.out _ _ ?_ (fun hHeld => ?_)
         ·(try dsimp only)
          first | exact ⟨HC.out.three, HXC.out _ HO.out⟩ | exact hHeld
         clear hK K
         (try simp only [Act.put, gA, gB, gC, sA, sB, sC])
         refine tkz 16 ?_
         refine tkz 17 ?_
         refine dnz ?_
         go_wp2_with fail
         go_roundw
         case rel => exact ⟨i + 1, v, by omega, by go_num, rfl, hidp (by rw [HPK.out]; exact HV0.out), hidp (fun a ha => by rw [HPK.out] at ha; exact HQ.out a ha), HC, HO, HLH, HB⟩
         case measure => simp [intOf]; omega
       ·have t4 : (xk == 4) = false := by simpa using h4
        rw [if_neg (fun h => h4 h.1), List.append_nil] at HPK
        clear h4
        go_wp2_with fail
        replace HC := hidp (HC.out.keep (Bdrew (B0 _)))
        replace HO := hidp (own_below HO.out (Bdrew (B0 _)))
        replace HLH := hidp (HLH.out.below (Bdrew (B0 _)))
        replace HB := hidp (Bgo HB.out (Bdrew (B0 _)))
        refine wp_region_held_drew (S := (fun w' => (w'.cell? ⟨w.heap.size, 0, none⟩ = some (.int .i64 (H.t : Int)) /\ w'.cell? ⟨w.heap.size, 1, none⟩ = some (.int .i64 (H.p : Int)) /\ w'.cell? ⟨w.heap.size, 2, none⟩ = some (.int .i64 (H.s : Int))) /\ w'.cell? ⟨g, i * 3, none⟩ = some (.int .i64 xk) /\ w'.cell? ⟨g, i * 3 + 1, none⟩ = some (.int .i64 xa) /\ w'.cell? ⟨g, i * 3 + 2, none⟩ = some (.int .i64 xz))) (by kernel_rfl) ?_ (fun hHeld => ?_)
        ·(try dsimp only)
         first | exact ⟨HC.out.three, HXC.out _ HO.out⟩ | exact hHeld
        refine tkz 0 ?_
        refine tkz 1 ?_
        refine tkz 2 ?_
        refine tkz 3 ?_
        refine tkz 4 ?_
        refine tkz 5 ?_
        refine tkz 6 ?_
        refine skz 7 ?_
        refine skz 8 ?_
        refine skz 9 ?_
        refine skz 10 ?_
        refine skz 11 ?_
        refine skz 12 ?_
        refine skz 13 ?_
        refine skz 14 ?_
        refine skz 15 ?_
        refine skz 16 ?_
        refine tkz 17 ?_
        refine dnz ?_
        go_wp2_with fail
        go_roundw
        case rel => exact ⟨i + 1, v, by omega, by go_num, rfl, hidp (by rw [HPK.out]; exact HV0.out), hidp (fun a ha => by rw [HPK.out] at ha; exact HQ.out a ha), HC, HO, HLH, HB⟩
        case measure => simp [intOf]; omega
      ·obtain rfl : i = nl := by omega
       have HE : Hid (l.take i = l) := hidp (List.take_of_length_le (by rw [HNL.out]; exact Nat.le_refl _))
       go_wp2_with fail
       go_roundw
       case rel => exact ⟨k + 1, v, by omega, by go_num, rfl, hidp (by
        show overN l sz H.t Z k + ((haveT Z k H.t).length : Int) - ((pkA l (sz k)).length : Int) = v
        rw [HV0.out, HE.out, HOV.out, HNH.out, HZK.out]), hidp (fun j hj => by
        by_cases e : j = k
        ·subst e
         exact ⟨HF4.out, fun a ha => HQ.out a (by rw [HE.out]; rw [HZK.out] at ha; exact ha)⟩
        ·exact HON.out j (by omega)), HC, HO, HB⟩
       case measure => simp [intOf]; omega
  ·obtain rfl : k = 9 := by omega
   have hf := HYES.out HON.out
   rw [HOV.out] at hf
   subst hf
   go_wp2
   go_ret
   exact ⟨rfl, HB.out⟩
end
end Go.Proofs.YtnmhdlpnimdffaaGreatDoor

namespace Go.Proofs.YtnmhdlpnimdffaaGreatDoor
open Go.ChangeShapes Go.WideShapes Go.ChangeAt Go.RowKit
set_option linter.unusedVariables false
set_option linter.unusedSimpArgs false
set_option maxRecDepth 100000
section
def noPk : Array Value := #[.slice none 0 0, .slice none 0 0, .slice none 0 0, .slice none 0 0, .slice none 0 0, .slice none 0 0, .slice none 0 0, .slice none 0 0, .slice none 0 0]
theorem noPk_at : ∀ k, k < 9 -> noPk[k]! = .slice none 0 0
 | 0, _ => rfl
 | 1, _ => rfl
 | 2, _ => rfl
 | 3, _ => rfl
 | 4, _ => rfl
 | 5, _ => rfl
 | 6, _ => rfl
 | 7, _ => rfl
 | 8, _ => rfl
 | k + 9, h => by omega
theorem pk_info24 : (Tryz.prog.info? 99).map (fun i => (i.zero, i.size, i.bytes)) = some (some (.agg noPk), 9, 216) := by kernel_rfl
theorem make_pks (T : Nat) (hT : T <= 100000) (w : World) : (Instr.makeSlice 51 (.int .i64 (T : Int)) (.int .i64 (T : Int))).run Tryz.prog w = .ok (.slice (some ⟨w.heap.size, 0, none⟩) T T) (w.alloc (.cells (madeCells noPk (T * 9)) 99)) := by
 obtain ⟨i, hi⟩ : ∃ i, Tryz.prog.info? 99 = some i := Option.isSome_iff_exists.1 (by kernel_rfl)
 have h := pk_info24
 rw [hi] at h
 simp only [Option.map_some, Option.some.injEq, Prod.mk.injEq] at h
 obtain ⟨hz, hs, hb⟩ := h
 have := run_makeSlice (w := w) 51 99 i _ Tryz.underlying51 hi hz .i64 .i64 (T : Int) (T : Int) (by omega) (by omega) (by first | (rw [hs]; decide) | (rw [hs]; unfold maxLen; omega) | (rw [hs]; omega)) (by first | (rw [hb]; omega) | (rw [hb]; unfold maxLen; omega)) (by omega)
 rw [Int.toNat_natCast, hs] at this
 exact this
theorem pks_made (T : Nat) (w : World) : PksAt (w.alloc (.cells (madeCells noPk (T * 9)) 99)) (some ⟨w.heap.size, 0, none⟩) T (fun _ _ => ⟨none, 0, 0⟩) (fun _ _ => []) := by
 intro t ht
 refine ⟨_, rfl, by simp, fun k hk => ⟨?_, by unfold LongsAt; exact ⟨none, 0, rfl, Nat.le_refl _, Nat.zero_le _, fun z h => (by cases h), fun _ => ⟨rfl, rfl⟩, fun ad e => (by cases e)⟩⟩⟩
 have e : (⟨w.heap.size, 0, none⟩ : Addr).add (t * 9 + k) = ⟨w.heap.size, t * 9 + k, none⟩ := by
  unfold Addr.add
  by_cases hz : t * 9 + k = 0
  ·rw [if_pos hz, hz]
  ·rw [if_neg hz]; simp
 rw [e, (Held.new w 99 (madeCells noPk (T * 9))).cell (t * 9 + k)]
 have hl : t * 9 + k < T * 9 := by omega
 unfold madeCells
 rw [Array.getElem?_map, Array.getElem?_range, if_pos hl]
 show some (noPk[(t * 9 + k) % 9]!) = _
 rw [show (t * 9 + k) % 9 = k by omega, noPk_at k hk]
end
end Go.Proofs.YtnmhdlpnimdffaaGreatDoor

namespace Go.Proofs.YtnmhdlpnimdffaaGreatDoor
open Go.ChangeShapes Go.WideShapes Go.ChangeAt Go.RowKit Go.Maps
set_option linter.unusedVariables false
set_option linter.unusedSimpArgs false
set_option maxRecDepth 100000
section
def SwTo (H : AuH) (n : Nat) (K : Nat -> Option Nat) (j : Nat) (st : Vst) : Prop := ∃ L, SwInv H n K st L /\ ∀ q i, (nowH H n K st).hand q i -> ¬ q < j
section
variable {H : AuH} {n c : Nat} {K : Nat -> Option Nat} {st : Vst} {L : Nat -> List Nat} {j : Nat}
theorem SwTo.start (HV : HeapV H n c) (h : H.Ok L) (hK : ∀ i, i < n -> K i = some (H.V i)) : SwTo H n K 0 freshS := ⟨L, SwInv.start HV h hK, fun _ _ _ => by omega⟩
theorem SwTo.step (h : SwTo H n K j st) (HV : HeapV H n c) (hok : VOk n st) (h32 : ∀ i x, K i = some x -> x < 2 ^ 32) (hj : j < H.p) : SwTo H n K (j + 1) (sweepI n K H.t H.p H.s j st).2 := by
 obtain ⟨L, I, hh⟩ := h
 obtain ⟨L2, I2, b1, _⟩ := I.step HV hok h32 hj
 refine ⟨L2, I2, fun q i x => ?_⟩
 obtain ⟨y, z⟩ := (b1 q i).1 x
 have := hh q i y
 omega
theorem SwTo.any (h : SwTo H n K 0 st) (HV : HeapV H n c) (hok : VOk n st) (h32 : ∀ i x, K i = some x -> x < 2 ^ 32) {p : Nat} (hp : p < H.p) : SwTo H n K 0 (sweepI n K H.t H.p H.s p st).2 := by
 obtain ⟨L, I, hh⟩ := h
 obtain ⟨L2, I2, b1, _⟩ := I.step HV hok h32 hp
 exact ⟨L2, I2, fun _ _ _ => by omega⟩
theorem SwTo.no_hand (h : SwTo H n K H.p st) : ∀ q i, ¬ (nowH H n K st).hand q i := by
 obtain ⟨L, I, hh⟩ := h
 intro q i x
 exact hh q i x x.1
theorem SwTo.state (h : SwTo H n K j st) (HV : HeapV H n c) (hok : VOk n st) (h32 : ∀ i x, K i = some x -> x < 2 ^ 32) (L : List (Int × Int)) (hL : blocksOf H.parts = L) (r0 r1 r2 r3 r4 r5 r6 r7 : Nat) (h0 : H.V 22 = r0) (h1 : H.V 23 = r1) (h2 : H.V 24 = r2) (h3 : H.V 25 = r3) (h4 : H.V 26 = r4) (h5 : H.V 27 = r5) (h6 : H.V 28 = r6) (h7 : H.V 29 = r7) (w : World) (g cp : Nat) (hrow : RowF w g 53 n cp (valF (nowV K st.wr))) :
  Calls Tryz.prog 19 #[.agg #[.int .i64 (H.t : Int), .int .i64 (H.p : Int), .int .i64 (H.s : Int)], .slice (some ⟨g, 0, none⟩) n cp] w fun e w' => ∃ u, e = .returned (.tuple #[.agg #[u, .int .i64 (r0 : Int), .int .i64 (r1 : Int), .int .i64 (r2 : Int), .int .i64 (r3 : Int), .int .i64 (r4 : Int), .int .i64 (r5 : Int), .int .i64 (r6 : Int), .int .i64 (r7 : Int)], .bool true]) /\ w'.ownsRow w.heap.size 94 2 u L.length (bkVs L) /\ Below w.heap.size w w' := by
 obtain ⟨L', I, _⟩ := h
 exact state_now HV hok h32 I.work.vw I.ok.rules I.roots L (I.blocks.trans hL) r0 r1 r2 r3 r4 r5 r6 r7 h0 h1 h2 h3 h4 h5 h6 h7 w g cp hrow
theorem SwTo.fits (h : SwTo H n K H.p st) (HV : HeapV H n c) (hok : VOk n st) (h32 : ∀ i x, K i = some x -> x < 2 ^ 32) (w : World) (g cp : Nat) (hrow : RowF w g 53 n cp (valF (nowV K st.wr))) (A2 : Option Addr) (c2 : Nat) (U : Nat -> Nat -> Sl) (hTc : H.t <= c2) (hc2 : c2 <= maxLen) (hP : PksAt w A2 H.t U (fun _ _ => [])) :
  Calls Tryz.prog 22 #[.agg #[.int .i64 (H.t : Int), .int .i64 (H.p : Int), .int .i64 (H.s : Int)], .slice (some ⟨g, 0, none⟩) n cp, .slice A2 H.t c2] w fun e w' => e = .returned (.bool true) /\ Below w.heap.size w w' := by
 have hno := h.no_hand
 obtain ⟨L', I, _⟩ := h
 have HV' := nowH_heap HV hok h32 (cp := cp) hrow.le hrow.max
 have hv' : IsVals w ⟨g, 0, none⟩ n (nowH H n K st).V := ⟨hrow.lt, fun i hi => by
  have e : (⟨g, 0, none⟩ : Addr).add i = ⟨g, i, none⟩ := by
   unfold Addr.add
   by_cases hz : i = 0
   ·rw [if_pos hz, hz]
   ·rw [if_neg hz]; simp
  have e2 : nowV K st.wr i = (nowH H n K st).V i := by
   show _ = curV n (getV n K st) H.V i
   rw [curV_in hi, I.work.vw.at_ hi]
   rfl
  rw [e, hrow.cell hi]
  unfold valF
  rw [e2]⟩
 have hC := xCheckIs_yes HV' ⟨g, 0, none⟩ w hv' (m := 0) (b := true) (.inl ⟨rfl, rfl, I.ok.rules⟩)
 have F := fits_empty hno (fun k => ((sizeN (H.s : Int) (k : Int) : Nat) : Int)) H.t
 exact rFits_heap HV' ⟨g, 0, none⟩ 0 A2 c2 U (fun _ _ => []) hTc hc2 (fun k => ((sizeN (H.s : Int) (k : Int) : Nat) : Int)) (fun _ _ => rfl) (fun k hk => pkA_once HV' I.ok _) true ⟨fun _ => F, fun _ => rfl⟩ w hv' hC hP
end
end
end Go.Proofs.YtnmhdlpnimdffaaGreatDoor

namespace Go.Proofs.YtnmhdlpnimdffaaGreatDoor
open Go.ChangeShapes Go.WideShapes Go.ChangeAt Go.RowKit
set_option linter.unusedVariables false
set_option maxRecDepth 100000
section
def intVs (k : IntKind) (zs : List Int) : List Value := zs.map (.int k)
theorem intVs_len (k : IntKind) (zs : List Int) : (intVs k zs).length = zs.length := by simp [intVs]
section
variable {H : Type} {enc : TypeId × Value -> H} {P : Program} {w : World} {base : Nat} {sp : Nat -> Bool} {held : Bool}
theorem open_intsK {t e : TypeId} {k : IntKind} {v : Value} {d : DataW H} {p : List MemPlace} (ht : P.underlying t = some (.slice e)) (he : P.underlying e = some (.int k)) (hc : P.cellsOf e = 1)
  {r : Reach} {b0 : Nat} (hval : Value.okWide P w r b0 t v) (h : DataW.Trod enc P w base sp held t v d p) (hlt : ∀ x ∈ p, x.block < w.heap.size) :
  ∃ (A : Option Addr) (c : Nat) (zs : List Int), v = .slice A zs.length c /\ zs.length <= c /\ c <= maxLen /\ (∀ x ∈ zs, (Lit.int k x).wf = true) /\ Reads w w.heap.size 1 A zs.length (intVs k zs) := by
 obtain ⟨fuel, hf⟩ := h
 have hv : v.cells = #[v] := by
  obtain ⟨A, n, c, rfl⟩ := okWide_slice ht hval
  rfl
 rw [hv] at hf
 rcases open_ints ht he hc hf with ⟨hcs, _⟩ | ⟨a, len, cap, zs, hcs, hb, hl, hm, hz, hx, hcell, hwf⟩
 ·injection hcs with hcs
  subst hcs
  exact ⟨none, 0, [], rfl, Nat.le_refl _, Nat.zero_le _, by simp, Reads.none_⟩
 ·injection hcs with hcs
  subst hcs
  have hlz : len <= zs.length := by rw [hz]; split <;> omega
  have hlen : (zs.take len).length = len := by simp; omega
  refine ⟨some a, cap, zs.take len, by rw [hlen], by rw [hlen]; exact hl, hm, fun x hx => hwf x (List.mem_of_mem_take hx), ?_⟩
  refine ⟨by rw [intVs_len]; omega, fun hn => ?_⟩
  rw [hlen] at hn
  refine ⟨a, rfl, ?_, fun j u hu => ?_⟩
  ·have hp : (p : List MemPlace) = MemPlace.row a zs.length := by
    have := congrArg Prod.snd hx
    simpa using this
   rw [hp] at hlt
   have := hlt ((MemPlace.row a zs.length)[0]'(by simp [MemPlace.row]; omega)) (List.getElem_mem _)
   simpa [MemPlace.row, MemPlace.block] using this
  ·unfold intVs at hu
   have hj : j < len := by
    rcases Nat.lt_or_ge j len with h1 | h1
    ·exact h1
    ·rw [List.getElem?_eq_none (by simp; omega)] at hu; cases hu
   rw [List.getElem?_map, List.getElem?_take_of_lt hj, List.getElem?_eq_getElem (by omega)] at hu
   simp only [Option.map_some, Option.some.injEq] at hu
   subst hu
   rw [hcell j (by omega)]
   simp [List.getD, List.getElem?_eq_getElem (show j < zs.length by omega)]
end
end
end Go.Proofs.YtnmhdlpnimdffaaGreatDoor

namespace Go.Proofs.YtnmhdlpnimdffaaGreatDoor
open Go.ChangeShapes Go.WideShapes Go.ChangeAt Go.RowKit Go.Maps
set_option linter.unusedVariables false
set_option linter.unusedSimpArgs false
set_option maxRecDepth 100000
section
section
variable {H : AuH} {n c : Nat} {K : Nat -> Option Nat} {st : Vst} {L : Nat -> List Nat} {j : Nat}
theorem SwTo.anyP (h : SwTo H n K 0 st) (HV : HeapV H n c) (hok : VOk n st) (h32 : ∀ i x, K i = some x -> x < 2 ^ 32) (p : Int) : SwTo H n K 0 (sweepP n K H.t H.p H.s p st).2 := by
 unfold sweepP
 by_cases hp : pgB (H.p : Int) p = true
 ·rw [if_pos hp]
  refine h.any HV hok h32 ?_
  unfold pgB at hp
  simp at hp
  omega
 ·rw [if_neg hp]
  exact h
theorem SwTo.all (h : SwTo H n K 0 st) (HV : HeapV H n c) (h32 : ∀ i x, K i = some x -> x < 2 ^ 32) (hok : ∀ j, j <= H.p -> VOk n (sweepTo n K H.t H.p H.s j st).2) : SwTo H n K H.p (sweepTo n K H.t H.p H.s H.p st).2 := by
 have : ∀ m, m <= H.p -> SwTo H n K m (sweepTo n K H.t H.p H.s m st).2 := fun m => by
  induction m with
  | zero => intro _; exact h
  | succ m ih => intro hm; exact (ih (by omega)).step HV (hok m (by omega)) h32 (by omega)
 exact this H.p (Nat.le_refl _)
theorem SwTo.val0 (h : SwTo H n K H.p st) (HV : HeapV H n c) (hok : VOk n st) (h32 : ∀ i x, K i = some x -> x < 2 ^ 32) (hn : 0 < n) : nowV K st.wr 0 = H.V 0 + emptyN H := by
 have hno := h.no_hand
 obtain ⟨L', I, _⟩ := h
 have h1 := I.done HV hok h32 hno
 have e2 : nowV K st.wr 0 = (nowH H n K st).V 0 := by
  show _ = curV n (getV n K st) H.V 0
  rw [curV_in hn, I.work.vw.at_ hn]
  rfl
 rw [e2]
 exact h1
end
theorem Duo.join {W w w' : World} {O1 : Ob} {A F G : Nat -> Prop} {s1 sx s : Vst} {base b n : Nat} {wh : Bool} {K : Nat -> Option Nat} {o : VGeo} (h : Duo W O1 noOb A F G s1 sx w) (hI : IsView w' base b n wh o K s) (hb : w.heap.size <= base) (hB : Below w.heap.size w w') :
  Duo W O1 (vOb base b n wh K) A (o.A b) G s1 s w' :=
 ⟨Ob.keep h.i1 hB, ⟨o, hI, rfl⟩, fun i hi hj => by have := O1.lt h.i1 i hi; have := hI.ge i hj; omega, fun g hg => ⟨Nat.lt_of_lt_of_le (h.aG g hg).1 hB.size, (h.aG g hg).2.1, fun x => by have := hI.ge g x; have := (h.aG g hg).1; omega⟩, fun i hi => by
  rcases hi with hi | hi
  ·exact h.lo i (.inl hi)
  ·have := hI.ge i hi; have := h.bel.size; omega, Bgo h.bel hB⟩
end
end Go.Proofs.YtnmhdlpnimdffaaGreatDoor
