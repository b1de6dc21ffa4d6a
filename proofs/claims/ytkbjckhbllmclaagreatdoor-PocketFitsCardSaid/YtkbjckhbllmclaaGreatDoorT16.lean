/-
  What the document's Fits tells: of a heap, whether pockets fit it. Written by pocket/gen_rfits.py.
-/
import Derived.Test.YtkbjckhbllmclaaGreatDoorT01
import Derived.Test.YtkbjckhbllmclaaGreatDoorT08
import Derived.Test.YtkbjckhbllmclaaGreatDoorT15
import Derived.Test.YtkbjckhbllmclaaGreatDoorT03
import Derived.Test.YtkbjckhbllmclaaGreatDoorT04
import Derived.Deep.Slices
import Derived.Lib.SmallJoins
import Derived.Lib.SliceRun
import Derived.Deep.RegionHeld3
import Derived.Test.YtkbjckhbllmclaaGreatDoorT02
namespace Go.Proofs.YtkbjckhbllmclaaGreatDoor
open Go.ChangeShapes Go.WideShapes Go.ChangeAt Go.RowKit Go.Maps
set_option linter.unusedVariables false
set_option linter.unusedSimpArgs false
set_option maxRecDepth 100000
section
theorem pkA_take {parts : List (Int × Int × Int)} {i : Nat} {x : Int × Int × Int} (z : Int) (hx : parts[i]? = some x) : pkA (parts.take (i + 1)) z = pkA (parts.take i) z ++ if x.1 = 4 ∧ x.2.2 = z then [x.2.1] else [] := by
  rw [List.take_add_one, hx]
  unfold pkA
  show List.map _ (List.filter _ (parts.take i ++ [x])) = _
  rw [List.filter_append, List.map_append]
  congr 1
  by_cases h : x.1 = 4 ∧ x.2.2 = z
  · rw [if_pos h, List.filter_cons_of_pos (by simp [h.1, h.2])]; rfl
  · rw [if_neg h, List.filter_cons_of_neg (by simp only [Bool.and_eq_true, decide_eq_true_eq]; exact h)]; rfl
theorem haveT_len {Z : Nat → Nat → List Int} {k B : Nat} : ∀ {T : Nat}, (∀ t, t < T → (Z t k).length ≤ B) → (haveT Z k T).length ≤ T * B
  | 0, _ => Nat.zero_le _
  | T + 1, h => by
    unfold haveT
    rw [List.length_append, Nat.add_mul, Nat.one_mul]
    have := haveT_len (T := T) (fun t ht => h t (by omega))
    have := h T (by omega)
    omega
theorem haveT_mem {Z : Nat → Nat → List Int} {k : Nat} {a : Int} : ∀ {T : Nat}, a ∈ haveT Z k T → ∃ t, t < T ∧ a ∈ Z t k
  | 0, h => by simp [haveT] at h
  | T + 1, h => by
    unfold haveT at h
    rcases List.mem_append.1 h with h | h
    · obtain ⟨t, h1, h2⟩ := haveT_mem h
      exact ⟨t, by omega, h2⟩
    · exact ⟨T, by omega, h⟩
theorem mem_pkA_at {l : List (Int × Int × Int)} {i : Nat} {xk xa xz z : Int} (hx : l[i]? = some (xk, xa, xz)) (h4 : xk = 4) (hz : xz = z) : xa ∈ pkA l z := by
  unfold pkA
  exact List.mem_map.2 ⟨_, List.mem_filter.2 ⟨List.mem_of_getElem? hx, by simp [h4, hz]⟩, rfl⟩
theorem pkA_len (l : List (Int × Int × Int)) (z : Int) : (pkA l z).length ≤ l.length := by unfold pkA; rw [List.length_map]; exact List.length_filter_le _ _
theorem overN_bound {parts : List (Int × Int × Int)} {sz : Nat → Int} {T B : Nat} {Z : Nat → Nat → List Int} (h : ∀ k, k < 9 → (haveT Z k T).length ≤ B) : ∀ j : Nat, j ≤ 9 → -((j : Int) * parts.length) ≤ overN parts sz T Z j ∧ overN parts sz T Z j ≤ (j : Int) * B
  | 0, _ => by unfold overN; simp
  | j + 1, hj => by
    obtain ⟨h1, h2⟩ := overN_bound (sz := sz) h j (by omega)
    have h3 := h j (by omega)
    have h4 := pkA_len parts (sz j)
    unfold overN
    have e1 : ((j + 1 : Nat) : Int) * (parts.length : Int) = (j : Int) * parts.length + parts.length := by push_cast; rw [Int.add_mul]; omega
    have e2 : ((j + 1 : Nat) : Int) * (B : Int) = (j : Int) * B + B := by push_cast; rw [Int.add_mul]; omega
    rw [e1, e2]
    generalize (j : Int) * (parts.length : Int) = x1 at *
    generalize (j : Int) * (B : Int) = x2 at *
    omega
theorem rFits_unsound (t q s : Int) (A : Option Addr) (n c m : Nat) (A2 : Option Addr) (T c2 : Nat) (w : World) (hX : XCheckIs w t q s A n c m false) :
    Calls Tryz.prog 8 #[.agg #[.int .i64 t, .int .i64 q, .int .i64 s], .slice A n c, .slice A2 T c2] w fun e w' => e = .returned (.bool false) ∧ Below w.heap.size w w' := by
  have HC := hidp (Held.new w 23 #[.int .i64 t, .int .i64 q, .int .i64 s])
  have HB := hidp (Bnew (B0 w) (.cells #[.int .i64 t, .int .i64 q, .int .i64 s] 23))
  have HXX := hidp hX
  clear hX
  obtain ⟨x0, x1, x2⟩ := HC.out.three
  go_enter Tryz.func8, Tryz.ntmps8
  go_wp2_with fail
  refine (xSound_c t q s A n c m false _ (HXX.out.grown HB.out)).mono ?_
  rintro e w2 ⟨rfl, hb⟩
  replace HB := hidp (Bgo HB.out hb)
  clear hb
  go_wp2
  go_ret
  exact ⟨rfl, HB.out⟩
theorem rFits_other (t q s : Int) (A : Option Addr) (n c m : Nat) (A2 : Option Addr) (T c2 : Nat) (hT : (T : Int) ≠ t) (w : World) (hX : XCheckIs w t q s A n c m true) :
    Calls Tryz.prog 8 #[.agg #[.int .i64 t, .int .i64 q, .int .i64 s], .slice A n c, .slice A2 T c2] w fun e w' => e = .returned (.bool false) ∧ Below w.heap.size w w' := by
  have HC := hidp (Held.new w 23 #[.int .i64 t, .int .i64 q, .int .i64 s])
  have HB := hidp (Bnew (B0 w) (.cells #[.int .i64 t, .int .i64 q, .int .i64 s] 23))
  have HXX := hidp hX
  have t0 : ((T : Int) != t) = true := bne_iff_ne.2 hT
  clear hX
  obtain ⟨x0, x1, x2⟩ := HC.out.three
  go_enter Tryz.func8, Tryz.ntmps8
  go_wp2_with fail
  refine (xSound_c t q s A n c m true _ (HXX.out.grown HB.out)).mono ?_
  rintro e w2 ⟨rfl, hb⟩
  replace HC := hidp (HC.out.keep hb)
  replace HB := hidp (Bgo HB.out hb)
  clear hb x0 x1 x2
  obtain ⟨x0, x1, x2⟩ := HC.out.three
  go_wp2
  go_ret
  exact ⟨rfl, HB.out⟩
set_option maxHeartbeats 12800000 in
theorem rFits_heap {H : AuH} {n c : Nat} (HV : HeapV H n c) (ad : Addr) (m : Nat) (A2 : Option Addr) (c2 : Nat) (U : Nat → Nat → Sl) (Z : Nat → Nat → List Int) (hl : ∀ t k, t < H.t → k < 9 → (Z t k).length ≤ 1000) (hTc : H.t ≤ c2) (hc2 : c2 ≤ maxLen)
    (sz : Nat → Int) (hsz : ∀ k : Nat, k < 9 → ((sizeN (H.s : Int) (k : Int) : Nat) : Int) = sz k) (hnd : ∀ k, k < 9 → (pkA H.parts (sz k)).Nodup) (b : Bool) (hb : b = true ↔ FitsP H.parts sz H.t Z)
    (w : World) (hv : IsVals w ad n H.V) (hX : XCheckIs w H.t H.p H.s (some ad) n c m true) (hP : PksAt w A2 H.t U Z) :
    Calls Tryz.prog 8 #[.agg #[.int .i64 (H.t : Int), .int .i64 (H.p : Int), .int .i64 (H.s : Int)], .slice (some ad) n c, .slice A2 H.t c2] w fun e w' => e = .returned (.bool b) ∧ Below w.heap.size w w' := by
  have HNO : Hid (∀ k, k < 9 → ¬ OnceP H.parts sz H.t Z k → b = false) := hidp (fun k hk h => by
    cases b with
    | false => rfl
    | true => exact absurd (((fits_iff hnd).2 (hb.1 rfl)).1 k hk) h)
  have HYES : Hid ((∀ k, k < 9 → OnceP H.parts sz H.t Z k) → b = (overN H.parts sz H.t Z 9 == 0)) := hidp (fun h => by
    by_cases h0 : overN H.parts sz H.t Z 9 = 0
    · rw [hb.2 ((fits_iff hnd).1 ⟨h, h0⟩), h0]; rfl
    · cases b with
      | false => symm; simpa using h0
      | true => exact absurd ((fits_iff hnd).2 (hb.1 rfl)).2 h0)
  have HC := hidp (Held.new w 23 #[.int .i64 (H.t : Int), .int .i64 (H.p : Int), .int .i64 (H.s : Int)])
  have HB := hidp (Bnew (B0 w) (.cells #[.int .i64 (H.t : Int), .int .i64 (H.p : Int), .int .i64 (H.s : Int)] 23))
  have HXX := hidp hX
  have HVL := hidp hv
  have HPP := hidp hP
  have HSZA := hidp hsz
  obtain ⟨l, hpl⟩ : ∃ l, H.parts = l := ⟨_, rfl⟩
  obtain ⟨nl, hnl⟩ : ∃ nl, l.length = nl := ⟨_, rfl⟩
  have hnum := HV.nums
  have hT16 : H.t ≤ 16 := by omega
  have hnb : nl ≤ 60000 := by
    have h2 : H.parts.length ≤ H.p * 33 := AuH.parts_len H.p
    rw [hpl, hnl] at h2
    omega
  have HPL := hidp hpl
  have HNL := hidp hnl
  rw [hpl] at HNO HYES
  have HLN : Hid (∀ t k, t < H.t → k < 9 → (Z t k).length ≤ 1000) := hidp hl
  have t0 : ((H.t : Int) != (H.t : Int)) = false := by simp
  have s0 : -9223372036854775808 ≤ (H.s : Int) := by omega
  clear hb hX hv hP hsz hnl hpl hnd hl
  obtain ⟨x0, x1, x2⟩ := HC.out.three
  go_enter Tryz.func8, Tryz.ntmps8
  go_wp2_with fail
  refine (xSound_c H.t H.p H.s (some ad) n c m true _ (HXX.out.grown HB.out)).mono ?_
  rintro e w2 ⟨rfl, hb⟩
  replace HC := hidp (HC.out.keep hb)
  replace HB := hidp (Bgo HB.out hb)
  clear hb x0 x1 x2
  obtain ⟨x0, x1, x2⟩ := HC.out.three
  go_wp2_with fail
  refine (xPartsTop_yes HV ad m _ (HVL.out.below HB.out) (HXX.out.grown HB.out)).mono ?_
  rintro e w3 ⟨u3, rfl, ho, hb⟩
  rw [HPL.out, HNL.out] at ho
  obtain ⟨A1, c1, hu⟩ := own_slice ho
  subst hu
  have hcc := own_caps_any ho
  generalize w2.heap.size = bs at ho
  have HO := hidp ho
  replace HC := hidp (HC.out.keep hb)
  replace HB := hidp (Bgo HB.out hb)
  clear ho hb x0 x1 x2
  have HBD := hidp (overN_bound (parts := l) (sz := sz) (T := H.t) (B := 16000) (Z := Z) (fun k hk => by
    have := haveT_len (Z := Z) (k := k) (B := 1000) (T := H.t) (fun t ht => HLN.out t k ht hk)
    omega))
  have HIB : Hid (∀ k, k < 9 → ∀ z ∈ haveT Z k H.t, -9223372036854775808 ≤ z ∧ z ≤ 9223372036854775807) := hidp (fun k hk z hz => by
    obtain ⟨t, ht, hz⟩ := haveT_mem hz
    obtain ⟨_, _, _, hcs⟩ := HPP.out t ht
    obtain ⟨_, _, _, _, _, hb, _⟩ := (hcs k hk).2
    exact hb z hz)
  go_wp2_with fail
  go_loopw [8, 9] (fun u8 u9 wr => ∃ (k : Nat) (ov : Int), k ≤ 9 ∧ u9 = .int .i64 (k : Int) ∧ u8 = .int .i64 ov ∧ Hid (overN l sz H.t Z k = ov) ∧ Hid (∀ j, j < k → OnceP l sz H.t Z j) ∧ Hid (Held wr w.heap.size 23 #[.int .i64 (H.t : Int), .int .i64 (H.p : Int), .int .i64 (H.s : Int)]) ∧ Hid (wr.ownsRow bs 43 3 (.slice A1 nl c1) nl (ptVs l)) ∧ Hid (Below w.heap.size w wr)) (fun _ u9 _ => 9 - (intOf u9).toNat)
  case atStart => exact ⟨0, 0, by omega, rfl, rfl, hidp rfl, hidp (fun j hj => absurd hj (Nat.not_lt_zero _)), HC, HO, HB⟩
  case round =>
    clear HC HO HB
    obtain ⟨k, ov, hk, rfl, rfl, HOV, HON, HC, HO, HB⟩ := hrel
    by_cases hk9 : k < 9
    · go_wp2_with fail
      go_loopw [10] (fun u10 wr2 => ∃ t : Nat, t ≤ H.t ∧ u10 = .int .i64 (t : Int) ∧ wr2 = wr ∧ Hid (∀ t', t' < t → (Z t' k).length ≤ 4)) (fun u10 _ => H.t - (intOf u10).toNat)
      case atStart => exact ⟨0, by omega, rfl, rfl, hidp (fun j hj => absurd hj (Nat.not_lt_zero _))⟩
      case round =>
        obtain ⟨t, ht, rfl, rfl, HF4⟩ := hrel
        by_cases htT : t < H.t
        · obtain ⟨ad2, e2, _, hcs⟩ := HPP.out.below HB.out t htT
          obtain ⟨hc0, hL⟩ := hcs k hk9
          obtain ⟨A3, c3, hu, hlc, hcm2, _, _, _⟩ := hL
          rw [hu] at hc0
          have hc1 := hc0
          rw [← add_of_add] at hc1
          obtain ⟨n1, hn1⟩ : ∃ n1, (Z t k).length = n1 := ⟨_, rfl⟩
          have HN1 := hidp hn1
          have hz := HLN.out t k htT hk9
          rw [hn1] at hc0 hc1 hlc hz
          clear hu hn1 hcs
          by_cases h4 : n1 ≤ 4
          · have t1 : decide ((4 : Int) < (n1 : Int)) = false := decide_eq_false (by omega)
            have t1n : decide (4 < n1) = false := decide_eq_false (by omega)
            subst e2
            go_wp2_with fail
            go_roundw
            case rel => exact ⟨t + 1, by omega, by go_num, by first | rfl | trivial, hidp (fun t' h' => by
              by_cases e : t' = t
              · subst e; rw [HN1.out]; exact h4
              · exact HF4.out t' (by omega))⟩
            case measure => simp [intOf]; omega
          · have t1 : decide ((4 : Int) < (n1 : Int)) = true := decide_eq_true (by omega)
            have t1n : decide (4 < n1) = true := decide_eq_true (by omega)
            have hf := HNO.out k hk9 (fun h => h4 (by rw [← HN1.out]; exact h.1 t htT))
            subst hf
            subst e2
            go_wp2_with fail
            go_ret
            exact ⟨rfl, HB.out⟩
        · obtain rfl : t = H.t := by omega
          go_wp2_with fail
          refine (rAll_c A2 H.t c2 k U Z (by omega) hk9 (fun t' h' => HLN.out t' k h' hk9) hTc hc2 _ (HPP.out.below HB.out)).mono ?_
          rintro e w4 ⟨u4, rfl, ho, hb⟩
          obtain ⟨nh, hnh⟩ : ∃ nh, (haveT Z k H.t).length = nh := ⟨_, rfl⟩
          have hhl := haveT_len (Z := Z) (k := k) (B := 1000) (T := H.t) (fun t' ht' => HLN.out t' k ht' hk9)
          have HLH := hidp (longs_of_own ho (HIB.out k hk9))
          rw [hnh] at ho hhl
          obtain ⟨A4, c4, hu⟩ := own_slice ho
          subst hu
          have hcc4 := own_caps_any ho
          have HV1 := hidp ho
          have HNH := hidp hnh
          replace HC := hidp (HC.out.keep hb)
          replace HO := hidp (own_below HO.out hb)
          replace HB := hidp (Bgo HB.out hb)
          have hbd := HBD.out k hk
          rw [HNL.out, HOV.out] at hbd
          have hbd1 : -540000 ≤ ov ∧ ov ≤ 144000 := by
            have g1 : (k : Int) * (nl : Int) ≤ 9 * 60000 := by
              have : k * nl ≤ 9 * 60000 := Nat.mul_le_mul hk hnb
              omega
            omega
          have v1 : IntKind.i64.wrap (ov + (nh : Int)) = ov + (nh : Int) := i64_same (by omega) (by omega)
          obtain ⟨zk, hzk⟩ : ∃ zk, sz k = zk := ⟨_, rfl⟩
          have HSZ : Hid (((sizeN (H.s : Int) (k : Int) : Nat) : Int) = zk) := hidp (by rw [HSZA.out k hk9, hzk])
          have HZK := hidp hzk
          clear ho hb hnh hbd hzk
          go_wp2_with fail
          go_loopw [8, 12] (fun u8 u12 wr => ∃ (i : Nat) (v : Int), i ≤ nl ∧ u12 = .int .i64 (i : Int) ∧ u8 = .int .i64 v ∧ Hid (v = ov + (nh : Int) - ((pkA (l.take i) zk).length : Int)) ∧ Hid (∀ a ∈ pkA (l.take i) zk, (haveT Z k H.t).count a = 1) ∧ Hid (Held wr w.heap.size 23 #[.int .i64 (H.t : Int), .int .i64 (H.p : Int), .int .i64 (H.s : Int)]) ∧ Hid (wr.ownsRow bs 43 3 (.slice A1 nl c1) nl (ptVs l)) ∧ Hid (LongsAt wr (.slice A4 nh c4) (haveT Z k H.t)) ∧ Hid (Below w.heap.size w wr)) (fun _ u12 _ => nl - (intOf u12).toNat)
          case atStart => exact ⟨0, ov + (nh : Int), by omega, rfl, rfl, hidp (by simp [pkA]), hidp (fun a ha => by simp [pkA] at ha), HC, HO, HLH, HB⟩
          case round =>
            clear HC HO HB HLH HV1
            obtain ⟨i, v, hi, rfl, rfl, HV0, HQ, HC, HO, HLH, HB⟩ := hrel
            by_cases hlt : i < nl
            · obtain ⟨x, hx⟩ : ∃ x, l[i]? = some x := ⟨_, List.getElem?_eq_getElem (by rw [HNL.out]; exact hlt)⟩
              obtain ⟨xk, xa, xz⟩ := x
              obtain ⟨g, c9, hg, _⟩ := HO.out.form (by omega)
              injection hg with hg3 _ hg4
              subst hg3
              clear hg4
              have HXC := hidp (fun (w' : World) (ho : w'.ownsRow bs 43 3 (.slice (some ⟨g, 0, none⟩) nl c1) nl (ptVs l)) => (show w'.cell? ⟨g, i * 3, none⟩ = some (.int .i64 xk) ∧ w'.cell? ⟨g, i * 3 + 1, none⟩ = some (.int .i64 xa) ∧ w'.cell? ⟨g, i * 3 + 2, none⟩ = some (.int .i64 xz) from
                ⟨by rw [ho.cellAt (i * 3) (by omega)]; exact (ptVs_get l i _ hx).1, by rw [ho.cellAt (i * 3 + 1) (by omega)]; exact (ptVs_get l i _ hx).2.1, by rw [ho.cellAt (i * 3 + 2) (by omega)]; exact (ptVs_get l i _ hx).2.2⟩))
              have HPK := hidp (pkA_take zk hx)
              have hpl := pkA_len (l.take i) zk
              rw [List.length_take] at hpl
              have hv0 := HV0.out
              have hvb : -700000 ≤ v ∧ v ≤ 700000 := by omega
              have HME : Hid (xk = 4 → xz = zk → xa ∈ pkA l zk) := hidp (fun e1 e2 => mem_pkA_at hx e1 e2)
              obtain ⟨cn, hcn⟩ : ∃ cn, (haveT Z k H.t).count xa = cn := ⟨_, rfl⟩
              have HCT := hidp hcn
              have hcb : cn ≤ nh := by rw [← hcn, ← HNH.out]; exact List.count_le_length
              clear hx hv0 hpl hcn
              obtain ⟨x0, x1, x2⟩ := HC.out.three
              by_cases h4 : xk = 4
              · have t4 : (xk == 4) = true := by simpa using h4
                by_cases h5 : xz = zk
                · have t5 : (xz == zk) = true := by simpa using h5
                  rw [if_pos ⟨h4, h5⟩] at HPK
                  have HMM := hidp (HME.out h4 h5)
                  clear h4 h5
                  by_cases h6 : cn = 1
                  · have t6 : ((cn : Int) != 1) = false := by rw [bne_eq_false_iff_eq]; omega
                    have t6n : (cn != 1) = false := by rw [bne_eq_false_iff_eq]; exact h6
                    have v2 : IntKind.i64.wrap (v - 1) = v - 1 := i64_same (by omega) (by omega)
                    have HC1 : Hid ((haveT Z k H.t).count xa = 1) := hidp (by rw [HCT.out]; exact h6)
                    clear h6
                    go_wp2_with fail
                    replace HC := hidp (HC.out.keep (Bdrew (B0 _)))
                    replace HO := hidp (own_below HO.out (Bdrew (B0 _)))
                    replace HLH := hidp (HLH.out.below (Bdrew (B0 _)))
                    replace HB := hidp (Bgo HB.out (Bdrew (B0 _)))
                    refine wp_region_held_drew (S := (fun w' => (w'.cell? ⟨w.heap.size, 0, none⟩ = some (.int .i64 (H.t : Int)) ∧ w'.cell? ⟨w.heap.size, 1, none⟩ = some (.int .i64 (H.p : Int)) ∧ w'.cell? ⟨w.heap.size, 2, none⟩ = some (.int .i64 (H.s : Int))) ∧ w'.cell? ⟨g, i * 3, none⟩ = some (.int .i64 xk) ∧ w'.cell? ⟨g, i * 3 + 1, none⟩ = some (.int .i64 xa) ∧ w'.cell? ⟨g, i * 3 + 2, none⟩ = some (.int .i64 xz))) (by kernel_rfl) ?_ (fun hHeld => ?_)
                    · (try dsimp only)
                      first | exact ⟨HC.out.three, HXC.out _ HO.out⟩ | exact hHeld
                    refine tkz 0 ?_
                    refine tkz 1 ?_
                    refine tkz 2 ?_
                    refine tkz 3 ?_
                    refine tkz 4 ?_
                    refine tkz 5 ?_
                    refine tkz 6 ?_
                    refine tkz 7 ?_
                    refine tkz 8 ?_
                    refine tkz 9 ?_
                    refine tkz 10 ?_
                    refine tkz 11 ?_
                    refine tkz 12 ?_
                    refine tkz 13 ?_
                    refine tkz 14 ?_
                    refine wpAnyH_ready (rs := [15]) (by kernel_rfl) (by simp) ?_
                    refine AllReadyH.cons (o := _) rfl (fun K hK => ?_) AllReadyH.nil
                    go_simp
                    refine (r5Size_c (H.s : Int) (k : Int) (by omega) (by omega) _).mono ?_
                    rintro e w9 ⟨rfl, hb⟩
                    rw [HSZ.out]
                    replace HC := hidp (HC.out.keep hb)
                    replace HO := hidp (own_below HO.out hb)
                    replace HLH := hidp (HLH.out.below hb)
                    replace HB := hidp (Bgo HB.out hb)
                    clear hb
                    refine hK.out _ _ ?_ (fun hHeld => ?_)
                    · (try dsimp only)
                      first | exact ⟨HC.out.three, HXC.out _ HO.out⟩ | exact hHeld
                    clear hK K
                    (try simp only [Act.put, gA, gB, gC, sA, sB, sC])
                    refine tkz 16 ?_
                    refine tkz 17 ?_
                    refine wpAnyH_done (by kernel_rfl) ?_ _
                    clear x0 x1 x2
                    obtain ⟨x0, x1, x2⟩ := HC.out.three
                    obtain ⟨y0, y1, y2⟩ := HXC.out _ HO.out
                    go_wp2_with fail
                    refine (rOften_c (.slice A4 nh c4) (haveT Z k H.t) xa nh HNH.out (by omega) _ HLH.out).mono ?_
                    rintro e w8 ⟨rfl, rfl⟩
                    rw [HCT.out]
                    go_wp2_with fail
                    go_roundw
                    case rel => exact ⟨i + 1, v - 1, by omega, by go_num, rfl, hidp (by rw [HPK.out, List.length_append, HV0.out]; simp only [List.length_cons, List.length_nil]; omega), hidp (fun a ha => by
                      rw [HPK.out] at ha
                      rcases List.mem_append.1 ha with ha | ha
                      · exact HQ.out a ha
                      · rw [List.mem_singleton] at ha; rw [ha]; exact HC1.out), HC, HO, HLH, HB⟩
                    case measure => simp [intOf]; omega
                  · have t6 : ((cn : Int) != 1) = true := by rw [bne_iff_ne]; omega
                    have t6n : (cn != 1) = true := by rw [bne_iff_ne]; exact h6
                    have hf := HNO.out k hk9 (fun h => h6 (by rw [← HCT.out]; exact h.2 xa (by rw [HZK.out]; exact HMM.out)))
                    subst hf
                    clear h6
                    go_wp2_with fail
                    replace HC := hidp (HC.out.keep (Bdrew (B0 _)))
                    replace HO := hidp (own_below HO.out (Bdrew (B0 _)))
                    replace HLH := hidp (HLH.out.below (Bdrew (B0 _)))
                    replace HB := hidp (Bgo HB.out (Bdrew (B0 _)))
                    refine wp_region_held_drew (S := (fun w' => (w'.cell? ⟨w.heap.size, 0, none⟩ = some (.int .i64 (H.t : Int)) ∧ w'.cell? ⟨w.heap.size, 1, none⟩ = some (.int .i64 (H.p : Int)) ∧ w'.cell? ⟨w.heap.size, 2, none⟩ = some (.int .i64 (H.s : Int))) ∧ w'.cell? ⟨g, i * 3, none⟩ = some (.int .i64 xk) ∧ w'.cell? ⟨g, i * 3 + 1, none⟩ = some (.int .i64 xa) ∧ w'.cell? ⟨g, i * 3 + 2, none⟩ = some (.int .i64 xz))) (by kernel_rfl) ?_ (fun hHeld => ?_)
                    · (try dsimp only)
                      first | exact ⟨HC.out.three, HXC.out _ HO.out⟩ | exact hHeld
                    refine tkz 0 ?_
                    refine tkz 1 ?_
                    refine tkz 2 ?_
                    refine tkz 3 ?_
                    refine tkz 4 ?_
                    refine tkz 5 ?_
                    refine tkz 6 ?_
                    refine tkz 7 ?_
                    refine tkz 8 ?_
                    refine tkz 9 ?_
                    refine tkz 10 ?_
                    refine tkz 11 ?_
                    refine tkz 12 ?_
                    refine tkz 13 ?_
                    refine tkz 14 ?_
                    refine wpAnyH_ready (rs := [15]) (by kernel_rfl) (by simp) ?_
                    refine AllReadyH.cons (o := _) rfl (fun K hK => ?_) AllReadyH.nil
                    go_simp
                    refine (r5Size_c (H.s : Int) (k : Int) (by omega) (by omega) _).mono ?_
                    rintro e w9 ⟨rfl, hb⟩
                    rw [HSZ.out]
                    replace HC := hidp (HC.out.keep hb)
                    replace HO := hidp (own_below HO.out hb)
                    replace HLH := hidp (HLH.out.below hb)
                    replace HB := hidp (Bgo HB.out hb)
                    clear hb
                    refine hK.out _ _ ?_ (fun hHeld => ?_)
                    · (try dsimp only)
                      first | exact ⟨HC.out.three, HXC.out _ HO.out⟩ | exact hHeld
                    clear hK K
                    (try simp only [Act.put, gA, gB, gC, sA, sB, sC])
                    refine tkz 16 ?_
                    refine tkz 17 ?_
                    refine wpAnyH_done (by kernel_rfl) ?_ _
                    clear x0 x1 x2
                    obtain ⟨x0, x1, x2⟩ := HC.out.three
                    obtain ⟨y0, y1, y2⟩ := HXC.out _ HO.out
                    go_wp2_with fail
                    refine (rOften_c (.slice A4 nh c4) (haveT Z k H.t) xa nh HNH.out (by omega) _ HLH.out).mono ?_
                    rintro e w8 ⟨rfl, rfl⟩
                    rw [HCT.out]
                    go_wp2_with fail
                    go_ret
                    exact ⟨rfl, HB.out⟩
                · have t5 : (xz == zk) = false := by simpa using h5
                  rw [if_neg (fun h => h5 h.2), List.append_nil] at HPK
                  clear h4 h5
                  go_wp2_with fail
                  replace HC := hidp (HC.out.keep (Bdrew (B0 _)))
                  replace HO := hidp (own_below HO.out (Bdrew (B0 _)))
                  replace HLH := hidp (HLH.out.below (Bdrew (B0 _)))
                  replace HB := hidp (Bgo HB.out (Bdrew (B0 _)))
                  refine wp_region_held_drew (S := (fun w' => (w'.cell? ⟨w.heap.size, 0, none⟩ = some (.int .i64 (H.t : Int)) ∧ w'.cell? ⟨w.heap.size, 1, none⟩ = some (.int .i64 (H.p : Int)) ∧ w'.cell? ⟨w.heap.size, 2, none⟩ = some (.int .i64 (H.s : Int))) ∧ w'.cell? ⟨g, i * 3, none⟩ = some (.int .i64 xk) ∧ w'.cell? ⟨g, i * 3 + 1, none⟩ = some (.int .i64 xa) ∧ w'.cell? ⟨g, i * 3 + 2, none⟩ = some (.int .i64 xz))) (by kernel_rfl) ?_ (fun hHeld => ?_)
                  · (try dsimp only)
                    first | exact ⟨HC.out.three, HXC.out _ HO.out⟩ | exact hHeld
                  refine tkz 0 ?_
                  refine tkz 1 ?_
                  refine tkz 2 ?_
                  refine tkz 3 ?_
                  refine tkz 4 ?_
                  refine tkz 5 ?_
                  refine tkz 6 ?_
                  refine tkz 7 ?_
                  refine tkz 8 ?_
                  refine tkz 9 ?_
                  refine tkz 10 ?_
                  refine tkz 11 ?_
                  refine tkz 12 ?_
                  refine tkz 13 ?_
                  refine tkz 14 ?_
                  refine wpAnyH_ready (rs := [15]) (by kernel_rfl) (by simp) ?_
                  refine AllReadyH.cons (o := _) rfl (fun K hK => ?_) AllReadyH.nil
                  go_simp
                  refine (r5Size_c (H.s : Int) (k : Int) (by omega) (by omega) _).mono ?_
                  rintro e w9 ⟨rfl, hb⟩
                  rw [HSZ.out]
                  replace HC := hidp (HC.out.keep hb)
                  replace HO := hidp (own_below HO.out hb)
                  replace HLH := hidp (HLH.out.below hb)
                  replace HB := hidp (Bgo HB.out hb)
                  clear hb
                  refine hK.out _ _ ?_ (fun hHeld => ?_)
                  · (try dsimp only)
                    first | exact ⟨HC.out.three, HXC.out _ HO.out⟩ | exact hHeld
                  clear hK K
                  (try simp only [Act.put, gA, gB, gC, sA, sB, sC])
                  refine tkz 16 ?_
                  refine tkz 17 ?_
                  refine wpAnyH_done (by kernel_rfl) ?_ _
                  go_wp2_with fail
                  go_roundw
                  case rel => exact ⟨i + 1, v, by omega, by go_num, rfl, hidp (by rw [HPK.out]; exact HV0.out), hidp (fun a ha => by rw [HPK.out] at ha; exact HQ.out a ha), HC, HO, HLH, HB⟩
                  case measure => simp [intOf]; omega
              · have t4 : (xk == 4) = false := by simpa using h4
                rw [if_neg (fun h => h4 h.1), List.append_nil] at HPK
                clear h4
                go_wp2_with fail
                replace HC := hidp (HC.out.keep (Bdrew (B0 _)))
                replace HO := hidp (own_below HO.out (Bdrew (B0 _)))
                replace HLH := hidp (HLH.out.below (Bdrew (B0 _)))
                replace HB := hidp (Bgo HB.out (Bdrew (B0 _)))
                refine wp_region_held_drew (S := (fun w' => (w'.cell? ⟨w.heap.size, 0, none⟩ = some (.int .i64 (H.t : Int)) ∧ w'.cell? ⟨w.heap.size, 1, none⟩ = some (.int .i64 (H.p : Int)) ∧ w'.cell? ⟨w.heap.size, 2, none⟩ = some (.int .i64 (H.s : Int))) ∧ w'.cell? ⟨g, i * 3, none⟩ = some (.int .i64 xk) ∧ w'.cell? ⟨g, i * 3 + 1, none⟩ = some (.int .i64 xa) ∧ w'.cell? ⟨g, i * 3 + 2, none⟩ = some (.int .i64 xz))) (by kernel_rfl) ?_ (fun hHeld => ?_)
                · (try dsimp only)
                  first | exact ⟨HC.out.three, HXC.out _ HO.out⟩ | exact hHeld
                refine tkz 0 ?_
                refine tkz 1 ?_
                refine tkz 2 ?_
                refine tkz 3 ?_
                refine tkz 4 ?_
                refine tkz 5 ?_
                refine tkz 6 ?_
                refine skO (i := 7) rfl (by kernel_rfl) (fun _ _ _ h => h) (by rfl) (by assumption) ?_
                (try simp only [Act.put, gA, gB, gC, sA, sB, sC])
                refine skO (i := 8) rfl (by kernel_rfl) (fun _ _ _ h => h) (by rfl) (by assumption) ?_
                (try simp only [Act.put, gA, gB, gC, sA, sB, sC])
                refine skO (i := 9) rfl (by kernel_rfl) (fun _ _ _ h => h) (by rfl) (by assumption) ?_
                (try simp only [Act.put, gA, gB, gC, sA, sB, sC])
                refine skO (i := 10) rfl (by kernel_rfl) (fun _ _ _ h => h) (by rfl) (by assumption) ?_
                (try simp only [Act.put, gA, gB, gC, sA, sB, sC])
                refine skO (i := 11) rfl (by kernel_rfl) (fun _ _ _ h => h) (by rfl) (by assumption) ?_
                (try simp only [Act.put, gA, gB, gC, sA, sB, sC])
                refine skO (i := 12) rfl (by kernel_rfl) (fun _ _ _ h => h) (by rfl) (by assumption) ?_
                (try simp only [Act.put, gA, gB, gC, sA, sB, sC])
                refine skO (i := 13) rfl (by kernel_rfl) (fun _ _ _ h => h) (by rfl) (by assumption) ?_
                (try simp only [Act.put, gA, gB, gC, sA, sB, sC])
                refine skO (i := 14) rfl (by kernel_rfl) (fun _ _ _ h => h) (by rfl) (by assumption) ?_
                (try simp only [Act.put, gA, gB, gC, sA, sB, sC])
                refine skO (i := 15) rfl (by kernel_rfl) (fun _ _ _ h => h) (by rfl) (by assumption) ?_
                (try simp only [Act.put, gA, gB, gC, sA, sB, sC])
                refine skO (i := 16) rfl (by kernel_rfl) (fun _ _ _ h => h) (by rfl) (by assumption) ?_
                (try simp only [Act.put, gA, gB, gC, sA, sB, sC])
                refine tkz 17 ?_
                refine wpAnyH_done (by kernel_rfl) ?_ _
                go_wp2_with fail
                go_roundw
                case rel => exact ⟨i + 1, v, by omega, by go_num, rfl, hidp (by rw [HPK.out]; exact HV0.out), hidp (fun a ha => by rw [HPK.out] at ha; exact HQ.out a ha), HC, HO, HLH, HB⟩
                case measure => simp [intOf]; omega
            · obtain rfl : i = nl := by omega
              have HE : Hid (l.take i = l) := hidp (List.take_of_length_le (by rw [HNL.out]; exact Nat.le_refl _))
              go_wp2_with fail
              go_roundw
              case rel => exact ⟨k + 1, v, by omega, by go_num, rfl, hidp (by
                show overN l sz H.t Z k + ((haveT Z k H.t).length : Int) - ((pkA l (sz k)).length : Int) = v
                rw [HV0.out, HE.out, HOV.out, HNH.out, HZK.out]), hidp (fun j hj => by
                by_cases e : j = k
                · subst e
                  exact ⟨HF4.out, fun a ha => HQ.out a (by rw [HE.out]; rw [HZK.out] at ha; exact ha)⟩
                · exact HON.out j (by omega)), HC, HO, HB⟩
              case measure => simp [intOf]; omega
    · obtain rfl : k = 9 := by omega
      have hf := HYES.out HON.out
      rw [HOV.out] at hf
      subst hf
      go_wp2
      go_ret
      exact ⟨rfl, HB.out⟩
end
end Go.Proofs.YtkbjckhbllmclaaGreatDoor

namespace Go.Proofs.YtkbjckhbllmclaaGreatDoor
open Go.ChangeShapes Go.WideShapes Go.ChangeAt Go.RowKit
set_option linter.unusedVariables false
set_option maxRecDepth 100000
section
structure Vst where
  rd : List Nat
  wr : List (Nat × Nat)
  lost : Bool
  miss : Nat
def pos : List (Nat × Nat) → Nat → Option Nat
  | [], _ => none
  | p :: r, i => if p.1 = i then some 0 else (pos r i).map (· + 1)
def cellW (l : List (Nat × Nat)) (k : Nat) : Nat := (l.getD k (0, 0)).1
def atW (l : List (Nat × Nat)) (k : Nat) : Nat := (l.getD k (0, 0)).2

theorem pos_some : ∀ {l : List (Nat × Nat)} {i k : Nat}, pos l i = some k → k < l.length ∧ cellW l k = i
  | [], i, k, h => by cases h
  | p :: r, i, k, h => by
    unfold pos at h
    split at h
    · rename_i e
      injection h with h
      subst h
      exact ⟨by simp, by simpa [cellW] using e⟩
    · cases hp : pos r i with
      | none => rw [hp] at h; cases h
      | some m =>
        rw [hp] at h
        injection h with h
        subst h
        have := pos_some hp
        exact ⟨by simp; omega, by simpa [cellW] using this.2⟩
theorem pos_snoc : ∀ {l : List (Nat × Nat)} {i : Nat} (v : Nat), pos l i = none → ∀ j, pos (l ++ [(i, v)]) j = if j = i then some l.length else pos l j
  | [], i, v, h, j => by
    by_cases e : j = i
    · subst e; simp [pos]
    · have : ¬ i = j := fun x => e x.symm
      simp [pos, e, this]
  | p :: r, i, v, h, j => by
    have hp : ¬ p.1 = i := by
      intro e
      simp [pos, e] at h
    have hr : pos r i = none := by
      simp [pos, hp] at h
      exact h
    have ih := pos_snoc v hr j
    by_cases e : j = i
    · subst e
      simp [pos, hp, ih]
    · by_cases e2 : p.1 = j
      · simp [pos, e, e2]
      · simp [pos, e, e2, ih]
theorem pos_set : ∀ (l : List (Nat × Nat)) (k v j : Nat), pos (l.set k (cellW l k, v)) j = pos l j
  | [], k, v, j => by simp [pos]
  | p :: r, 0, v, j => by simp [pos, cellW]
  | p :: r, k + 1, v, j => by
    have ih := pos_set r k v j
    simp [pos, cellW] at ih ⊢
    rw [ih]

def putW (l : List (Nat × Nat)) (i v : Nat) : List (Nat × Nat) :=
  match pos l i with
  | some k => l.set k (i, v)
  | none => l ++ [(i, v)]
theorem putW_some {l : List (Nat × Nat)} {i v k : Nat} (h : pos l i = some k) : putW l i v = l.set k (i, v) := by unfold putW; rw [h]
theorem putW_none {l : List (Nat × Nat)} {i v : Nat} (h : pos l i = none) : putW l i v = l ++ [(i, v)] := by unfold putW; rw [h]
theorem pos_putW (l : List (Nat × Nat)) (i v j : Nat) : pos (putW l i v) j = match pos l i with | some _ => pos l j | none => if j = i then some l.length else pos l j := by
  cases h : pos l i with
  | some k =>
    rw [putW_some h]
    have := pos_set l k v j
    rw [(pos_some h).2] at this
    exact this
  | none =>
    rw [putW_none h]
    exact pos_snoc v h j

def opn (n : Nat) (s : Vst) (a : Int) : Bool := !s.lost && decide (0 ≤ a ∧ a < n)
def noteS (s : Vst) (i : Nat) : Vst := if i ∈ s.rd then s else { s with rd := s.rd ++ [i] }
def getV (n : Nat) (K : Nat → Option Nat) (s : Vst) (a : Int) : Nat :=
  if opn n s a then (match pos s.wr a.toNat with | some k => atW s.wr k | none => (K a.toNat).getD 0) else 0
def getS (n : Nat) (K : Nat → Option Nat) (s : Vst) (a : Int) : Vst :=
  if opn n s a then (match pos s.wr a.toNat with | some _ => s | none => match K a.toNat with | some _ => noteS s a.toNat | none => { s with lost := true, miss := a.toNat }) else s
def putS (n : Nat) (s : Vst) (a : Int) (v : Nat) : Vst := if opn n s a then { s with wr := putW s.wr a.toNat v } else s
def missI (s : Vst) : Int := if s.lost then s.miss else -1

section
variable {n : Nat} {K : Nat → Option Nat} {s : Vst} {i v k : Nat} {a : Int}
theorem opn_at (h : opn n s a = true) : ∃ i : Nat, a = i ∧ i < n ∧ s.lost = false := by
  unfold opn at h
  simp at h
  exact ⟨a.toNat, by omega, by omega, h.1⟩
theorem opn_yes (h : i < n) (hl : s.lost = false) : opn n s (i : Int) = true := by unfold opn; simp [hl]; omega
theorem getV_no (h : opn n s a = false) : getV n K s a = 0 := by unfold getV; rw [h]; rfl
theorem getS_no (h : opn n s a = false) : getS n K s a = s := by unfold getS; rw [h]; rfl
theorem putS_no (h : opn n s a = false) : putS n s a v = s := by unfold putS; rw [h]; rfl
theorem putS_yes (h : opn n s (i : Int) = true) : putS n s (i : Int) v = { s with wr := putW s.wr i v } := by unfold putS; rw [if_pos h]; rfl
theorem getS_put (h : opn n s (i : Int) = true) (hp : pos s.wr i = some k) : getS n K s (i : Int) = s := by
  unfold getS; rw [if_pos h, Int.toNat_natCast, hp]
theorem getS_known (h : opn n s (i : Int) = true) (hp : pos s.wr i = none) (hk : K i = some v) : getS n K s (i : Int) = noteS s i := by
  unfold getS; rw [if_pos h, Int.toNat_natCast, hp, hk]
theorem getS_lost (h : opn n s (i : Int) = true) (hp : pos s.wr i = none) (hk : K i = none) : getS n K s (i : Int) = { s with lost := true, miss := i } := by
  unfold getS; rw [if_pos h, Int.toNat_natCast, hp, hk]
end

structure VOk (n : Nat) (s : Vst) : Prop where
  rdLt : ∀ i ∈ s.rd, i < n
  rdNd : s.rd.Nodup
  wrLt : ∀ p ∈ s.wr, p.1 < n ∧ p.2 < 2 ^ 32
  wrNd : ∀ k, k < s.wr.length → pos s.wr (cellW s.wr k) = some k
  mLt : s.lost = true → s.miss < n
section
variable {n : Nat} {K : Nat → Option Nat} {s : Vst} {i v k : Nat} {a : Int}
theorem VOk.note (h : VOk n s) (hi : i < n) : VOk n (noteS s i) := by
  unfold noteS
  split
  · exact h
  · rename_i hn
    refine { h with rdLt := fun j hj => ?_, rdNd := ?_ }
    · simp at hj
      rcases hj with hj | rfl
      · exact h.rdLt j hj
      · exact hi
    · show (s.rd ++ [i]).Nodup
      rw [List.nodup_append]
      refine ⟨h.rdNd, by simp, ?_⟩
      intro x hx y hy
      simp at hy
      subst hy
      rintro rfl
      exact hn hx
theorem VOk.get (h : VOk n s) : VOk n (getS n K s a) := by
  by_cases ho : opn n s a = true
  · obtain ⟨i, rfl, hi, hl⟩ := opn_at ho
    cases hp : pos s.wr i with
    | some k => rw [getS_put ho hp]; exact h
    | none =>
      cases hk : K i with
      | some v => rw [getS_known ho hp hk]; exact h.note hi
      | none => rw [getS_lost ho hp hk]; exact { h with mLt := fun _ => hi }
  · rw [getS_no (by simpa using ho)]; exact h
theorem VOk.put (h : VOk n s) (hv : v < 2 ^ 32) : VOk n (putS n s a v) := by
  by_cases ho : opn n s a = true
  · obtain ⟨i, rfl, hi, hl⟩ := opn_at ho
    rw [putS_yes ho]
    refine { h with wrLt := fun p hp => ?_, wrNd := fun k hk => ?_ }
    · have hp : p ∈ putW s.wr i v := hp
      unfold putW at hp
      split at hp
      · rcases List.mem_or_eq_of_mem_set hp with h1 | h1
        · exact h.wrLt p h1
        · subst h1; exact ⟨hi, hv⟩
      · simp at hp
        rcases hp with hp | rfl
        · exact h.wrLt p hp
        · exact ⟨hi, hv⟩
    · show pos (putW s.wr i v) (cellW (putW s.wr i v) k) = some k
      have hk : k < (putW s.wr i v).length := hk
      rw [pos_putW]
      cases hp : pos s.wr i with
      | some m =>
        rw [putW_some hp] at hk ⊢
        simp only
        have hk' : k < s.wr.length := by simpa using hk
        have : cellW (s.wr.set m (i, v)) k = cellW s.wr k := by
          unfold cellW
          by_cases e : k = m
          · subst e
            have h2 := (pos_some hp).2
            unfold cellW at h2
            simp [List.getD, hk']
            simpa [List.getD, hk'] using h2.symm
          · simp [List.getD, List.getElem?_set_ne (Ne.symm e)]
        rw [this]
        exact h.wrNd k hk'
      | none =>
        rw [putW_none hp] at hk ⊢
        simp only
        rcases Nat.lt_or_ge k s.wr.length with h1 | h1
        · have e1 : cellW (s.wr ++ [(i, v)]) k = cellW s.wr k := by
            unfold cellW
            simp [List.getD, List.getElem?_append_left h1]
          have e2 := h.wrNd k h1
          rw [e1, if_neg, e2]
          intro e3
          rw [e3, hp] at e2
          cases e2
        · obtain rfl : k = s.wr.length := by simp at hk; omega
          have e1 : cellW (s.wr ++ [(i, v)]) s.wr.length = i := by simp [cellW, List.getD]
          rw [e1, if_pos rfl]
  · rw [putS_no (by simpa using ho)]; exact h
end
end
end Go.Proofs.YtkbjckhbllmclaaGreatDoor

namespace Go.Proofs.YtkbjckhbllmclaaGreatDoor
open Go.ChangeShapes Go.WideShapes Go.ChangeAt Go.RowKit Go.Maps
set_option linter.unusedVariables false
set_option maxRecDepth 100000
section
def kInt (c : Int) : Lit := .int .i64 c
theorem kInt_ne {c d : Int} (h : c ≠ d) : kInt c ≠ kInt d := fun e => by
  unfold kInt at e
  injection e with _ e
  exact h e
theorem kInt_key (c : Int) : WideAt.IsKeyLit (kInt c) := by unfold kInt; trivial
structure SetIs (D : DataW Unit) (l : List Nat) : Prop where
  tidy : Tidy D
  has : ∀ c : Int, Maps.has D (kInt c) = decide (0 ≤ c ∧ c.toNat ∈ l)
theorem SetIs.none : SetIs (.map []) [] := ⟨tidy_empty, fun c => by simp [Maps.has]⟩
theorem SetIs.put {D : DataW Unit} {l : List Nat} (h : SetIs D l) (i : Nat) : SetIs (D.put (kInt (i : Int)) (.agg [])) (l ++ [i]) := by
  refine ⟨h.tidy.put (kInt_key _) _, fun c => ?_⟩
  by_cases e : c = i
  · subst e
    rw [has_put_same h.tidy.isMap (kInt_key _)]
    simp
  · rw [has_put_other (kInt_ne e), h.has c, decide_eq_decide]
    constructor
    · rintro ⟨h1, h2⟩
      exact ⟨h1, List.mem_append_left _ h2⟩
    · rintro ⟨h1, h2⟩
      simp at h2
      rcases h2 with h2 | h2
      · exact ⟨h1, h2⟩
      · omega

structure NumIs (D : DataW Unit) (q : IntKind) (K : Nat → Option Nat) : Prop where
  tidy : Tidy D
  has : ∀ c : Int, Maps.has D (kInt c) = (decide (0 ≤ c) && (K c.toNat).isSome)
  at_ : ∀ (i v : Nat), K i = some v → D.atKey (kInt (i : Int)) (.lit (.int q 0)) = .lit (.int q (v : Int))
theorem NumIs.none (q : IntKind) : NumIs (.map []) q (fun _ => none) := ⟨tidy_empty, fun c => by simp [Maps.has], fun i v h => by cases h⟩
theorem NumIs.put {D : DataW Unit} {q : IntKind} {K : Nat → Option Nat} (h : NumIs D q K) (i v : Nat) : NumIs (D.put (kInt (i : Int)) (.lit (.int q (v : Int)))) q (updF K i (some v)) := by
  refine ⟨h.tidy.put (kInt_key _) _, fun c => ?_, fun j u hj => ?_⟩
  · by_cases e : c = i
    · subst e
      rw [has_put_same h.tidy.isMap (kInt_key _)]
      simp [updF_same]
    · rw [has_put_other (kInt_ne e), h.has c]
      by_cases h0 : 0 ≤ c
      · have : c.toNat ≠ i := by omega
        rw [updF_other _ _ this]
      · simp [h0]
  · by_cases e : j = i
    · subst e
      rw [updF_same] at hj
      injection hj with hj
      subst hj
      exact atKey_put_same h.tidy.isMap (kInt_key _) _ _
    · rw [updF_other _ _ e] at hj
      rw [atKey_put_other (kInt_ne (by omega))]
      exact h.at_ j u hj
theorem NumIs.congr {D : DataW Unit} {q : IntKind} {K K' : Nat → Option Nat} (h : NumIs D q K) (e : ∀ i, K i = K' i) : NumIs D q K' := by
  obtain rfl : K = K' := funext e
  exact h
end
end Go.Proofs.YtkbjckhbllmclaaGreatDoor

namespace Go.Proofs.YtkbjckhbllmclaaGreatDoor
open Go.ChangeShapes Go.WideShapes Go.ChangeAt Go.RowKit Go.Maps
set_option linter.unusedVariables false
set_option maxRecDepth 100000
set_option linter.unusedSimpArgs false
section
section
variable {H : Type} {w : World} {g b n m base size : Nat} {t e k : TypeId} {cs : Array Value} {v : Value} {xs : List Value} {P : Program} {R : Value → Option (DataW H × List MemPlace)} {D : DataW H}
theorem heldMap_ne (h : Held w g t cs) (hm : w.ownsMap P k R b n D) : g ≠ b := by
  rintro rfl
  obtain ⟨es, clock, hb, _⟩ := hm
  unfold Held at h
  rw [h] at hb
  cases hb
theorem ownMap_ne (h : w.ownsRow base e size v m xs) (hm : w.ownsMap P k R b n D) (hg : v.ownBlock = some g) : g ≠ b := by
  rintro rfl
  obtain ⟨es, clock, hb, _⟩ := hm
  rcases h.2 with ⟨rfl, _⟩ | ⟨g', cap, cur, rfl, _, hgg, _⟩
  · simp [Value.ownBlock] at hg
  · simp [Value.ownBlock] at hg
    subst hg
    rw [hgg] at hb
    cases hb
end
section
variable {w w' : World} {base b k : Nat} {e : Nat → TypeId} {sz : Nat → Nat} {v : Nat → Value} {n n' : Nat → Nat} {xs xs' : Nat → List Value}
theorem OwnAll.congr (h : OwnAll w base b k e sz v n xs) (h1 : ∀ i, i < k → n i = n' i) (h2 : ∀ i, i < k → xs i = xs' i) : OwnAll w base b k e sz v n' xs' :=
  ⟨fun i hi => by rw [← h1 i hi, ← h2 i hi]; exact h.own i hi, h.apart, h.notb⟩
end

structure VGeo where
  m1 : Nat
  m2 : Nat
  sb : Nat
  fv : Value
  v : Nat → Value
def VGeo.F (o : VGeo) (b : Nat) : Nat → Prop := fun i => OwnF b 2 o.v i ∨ i = o.m1 ∨ i = o.m2
def VGeo.A (o : VGeo) (b : Nat) : Nat → Prop := fun i => o.F b i ∨ i = o.sb
def vSz (i : Nat) : Nat := if i = 0 then 1 else 2
def ntVs (l : List Nat) : List Value := l.map fun (n : Nat) => Value.int .i64 (n : Int)
def prVs (l : List (Nat × Nat)) : List Value := l.flatMap fun p => [Value.int .i64 (p.1 : Int), .int .u32 (p.2 : Int)]
def vN (s : Vst) (i : Nat) : Nat := if i = 0 then s.rd.length else s.wr.length
def vX (s : Vst) (i : Nat) : List Value := if i = 0 then ntVs s.rd else prVs s.wr
def valF (f : Nat → Nat) : Nat → Value := fun i => .int .u32 ((f i : Nat) : Int)
section
variable {w w' : World} {base b n : Nat} {wh : Bool} {o : VGeo} {hd : Array Value} {nn : Nat → Nat} {xs : Nat → List Value} {k1 k2 : Nat} {D1 D2 : DataW Unit} {K : Nat → Option Nat}
end

def vHead (n : Nat) (o : VGeo) (s : Vst) : Array Value := #[.int .i64 (n : Int), o.fv, o.v 0, .map (some o.m1), o.v 1, .map (some o.m2), .bool s.lost, .int .i64 (s.miss : Int)]
section
variable {w w' : World} {base b n : Nat} {wh : Bool} {o : VGeo} {K : Nat → Option Nat} {s : Vst}
end
end
section
end
end Go.Proofs.YtkbjckhbllmclaaGreatDoor

namespace Go.Proofs.YtkbjckhbllmclaaGreatDoor
open Go.ChangeShapes Go.WideShapes Go.ChangeAt Go.RowKit
set_option linter.unusedVariables false
set_option maxRecDepth 100000
set_option linter.unusedSimpArgs false
section
structure PairV where
  cell : Int
  val : Nat
instance : Inhabited PairV := ⟨⟨0, 0⟩⟩
structure PairV.Ok (a : PairV) : Prop where
  cell : (Lit.int .i64 a.cell).wf = true
  val : a.val < 2 ^ 32
def PairV.cells (a : PairV) : List Value := [.int .i64 a.cell, .int .u32 (a.val : Int)]
def PairV.v (a : PairV) : Value := .agg #[.int .i64 a.cell, .int .u32 (a.val : Int)]
section
variable {H : Type} {enc : TypeId × Value → H} {w : World} {base : Nat} {sp : Nat → Bool} {held : Bool}
end
end
end Go.Proofs.YtkbjckhbllmclaaGreatDoor

namespace Go.Proofs.YtkbjckhbllmclaaGreatDoor
open Go.ChangeShapes Go.WideShapes Go.ChangeAt Go.RowKit Go.Maps
set_option linter.unusedVariables false
set_option maxRecDepth 100000
set_option linter.unusedSimpArgs false
section
def valVs (l : List Nat) : List Value := l.map fun (n : Nat) => Value.int .u32 (n : Int)
end
section
def rE (i : Nat) : TypeId := if i = 0 then 4 else if i = 1 then 77 else if i = 2 then 4 else if i = 3 then 77 else 3
def rSz (_ : Nat) : Nat := 1
def rowL (n : Nat) (f : Nat → Value) : List Value := (List.range n).map f
def bitF (f : Nat → Bool) : Nat → Value := fun i => .bool (f i)
def toV (wr : List (Nat × Nat)) (i : Nat) : Nat := match pos wr i with | some k => atW wr k | none => 0
def rN (n : Nat) (s : Vst) (i : Nat) : Nat := if i < 4 then n else if i = 4 then s.rd.length else s.wr.length
def rX (n : Nat) (K : Nat → Option Nat) (s : Vst) (i : Nat) : List Value :=
  if i = 0 then rowL n (bitF fun j => (K j).isSome) else if i = 1 then rowL n (valF fun j => (K j).getD 0) else if i = 2 then rowL n (bitF fun j => (pos s.wr j).isSome)
  else if i = 3 then rowL n (valF (toV s.wr)) else if i = 4 then ntVs s.rd else ntVs (s.wr.map (·.1))
def rHead (n : Nat) (v : Nat → Value) (s : Vst) (all : Bool) : Array Value := #[.int .i64 (n : Int), v 0, v 1, v 2, v 3, v 4, v 5, .int .i64 (missI s), .bool all]

section
variable {w w' : World} {base b : Nat} {v : Nat → Value} {hd : Array Value} {nn : Nat → Nat} {xs : Nat → List Value}
end

section
variable {w w' : World} {base b n : Nat} {all : Bool} {v : Nat → Value} {K : Nat → Option Nat} {s : Vst}
end
end
end Go.Proofs.YtkbjckhbllmclaaGreatDoor

namespace Go.Proofs.YtkbjckhbllmclaaGreatDoor
open Go.ChangeShapes Go.WideShapes Go.ChangeAt Go.RowKit
set_option linter.unusedVariables false
set_option maxRecDepth 100000
set_option linter.unusedSimpArgs false
section
theorem valVs_len (l : List Nat) : (valVs l).length = l.length := by unfold valVs; simp
end
end Go.Proofs.YtkbjckhbllmclaaGreatDoor

namespace Go.Proofs.YtkbjckhbllmclaaGreatDoor
open Go.ChangeShapes Go.WideShapes Go.ChangeAt Go.RowKit Go.Maps
set_option linter.unusedVariables false
set_option maxRecDepth 100000
section
structure Ob where
  I : World → Vst → (Nat → Prop) → Prop
  lt : ∀ {w : World} {s : Vst} {A : Nat → Prop}, I w s A → ∀ i, A i → i < w.heap.size
  turns : ∀ {w w' : World} {s : Vst} {A G : Nat → Prop}, I w s A → Turns G w w' → (∀ i, A i → ¬ G i) → I w' s A

def Ob.Left (O : Ob) (w : World) (A : Nat → Prop) (s : Vst) (w' : World) : Prop := ∃ A', O.I w' s A' ∧ (∀ g, A' g → A g ∨ w.heap.size ≤ g) ∧ Turns A w w'
def Ob.At (O : Ob) (w0 : World) (A G : Nat → Prop) (s : Vst) (w : World) : Prop :=
  ∃ A', O.I w s A' ∧ (∀ g, A' g → A g ∨ w0.heap.size ≤ g) ∧ Turns A w0 w ∧ ∀ g, G g → w0.heap.size ≤ g ∧ g < w.heap.size ∧ ¬ A' g
def Stay (G : Nat → Prop) (w w' : World) : Prop := w.heap.size ≤ w'.heap.size ∧ ∀ g, G g → g < w.heap.size → w'.heap[g]? = w.heap[g]?
section
variable {O : Ob} {w w' w0 : World} {A G : Nat → Prop} {s s' : Vst} {N : Nat}
theorem Ob.keep {A : Nat → Prop} (h : O.I w s A) (hb : Below w.heap.size w w') : O.I w' s A := O.turns h (Turns.of_below hb (fun _ => False)) (fun _ _ x => x)
theorem Ob.Left.same (h : O.I w s A) : O.Left w A s w := ⟨A, h, fun g hg => .inl hg, T0 _ _⟩
theorem Ob.Left.size (h : O.Left w A s w') : w.heap.size ≤ w'.heap.size := by obtain ⟨A', _, _, h⟩ := h; exact h.size
theorem Ob.At.start (h : O.I w s A) : O.At w A (fun _ => False) s w := ⟨A, h, fun g hg => .inl hg, T0 _ _, fun g hg => hg.elim⟩
theorem Ob.At.left (h : O.At w0 A G s w) : O.Left w0 A s w := by
  obtain ⟨A', h1, h2, h3, _⟩ := h
  exact ⟨A', h1, h2, h3⟩
theorem Ob.At.size (h : O.At w0 A G s w) : w0.heap.size ≤ w.heap.size := h.left.size
theorem Ob.At.keep (h : O.At w0 A G s w) (hb : Below w.heap.size w w') : O.At w0 A G s w' := by
  obtain ⟨A', h1, h2, h3, h4⟩ := h
  exact ⟨A', Ob.keep h1 hb, h2, h3.trans (Turns.of_below hb A), fun g hg => ⟨(h4 g hg).1, Nat.lt_of_lt_of_le (h4 g hg).2.1 hb.size, (h4 g hg).2.2⟩⟩
theorem Ob.At.alloc (h : O.At w0 A G s w) (o : Obj) : O.At w0 A G s (w.alloc o) := h.keep (Bnew (B0 w) o)
theorem Ob.At.drew (h : O.At w0 A G s w) : O.At w0 A G s w.drew := h.keep (Bdrew (B0 w))
theorem Ob.At.drewN (h : O.At w0 A G s w) (k : Nat) : O.At w0 A G s (w.drewN k) := h.keep (Bdraw (B0 w) k)
theorem Ob.At.put (h : O.At w0 A G s w) {p : Addr} (hp : G p.block) (u : Value) : O.At w0 A G s (w.setCell p u) := by
  obtain ⟨A', h1, h2, h3, h4⟩ := h
  have hq := h4 _ hp
  refine ⟨A', O.turns h1 ((T0 (fun i => i = p.block) w).put (p := p) rfl u) (fun i hi e => hq.2.2 (by rw [← e]; exact hi)), h2, h3.put_new hq.1 u, fun g hg => ⟨(h4 g hg).1, by simp; exact (h4 g hg).2.1, (h4 g hg).2.2⟩⟩
theorem Ob.At.call (h : O.At w0 A G s w) {P : Program} {f : FuncId} {args : Array Value} {R : Ending → Prop} (hc : ∀ B, O.I w s B → Calls P f args w fun e w' => R e ∧ O.Left w B s' w') :
    Calls P f args w fun e w' => R e ∧ O.At w0 A G s' w' ∧ Stay G w w' := by
  obtain ⟨A', h1, h2, h3, h4⟩ := h
  refine (hc A' h1).mono ?_
  rintro e w' ⟨hr, B, k1, k2, k3⟩
  have hs := h3.size
  refine ⟨hr, ⟨B, k1, fun g hg => ?_, k3.more_new hs h3 h2, fun g hg => ?_⟩, k3.size, fun g hg hl => k3.block g hl (h4 g hg).2.2⟩
  · rcases k2 g hg with h5 | h5
    · exact h2 g h5
    · exact .inr (by omega)
  · refine ⟨(h4 g hg).1, Nat.lt_of_lt_of_le (h4 g hg).2.1 k3.size, fun x => ?_⟩
    rcases k2 g x with h5 | h5
    · exact (h4 g hg).2.2 h5
    · have := (h4 g hg).2.1; omega
theorem Stay.of_below (hb : Below w.heap.size w w') (G : Nat → Prop) : Stay G w w' := ⟨hb.size, fun g _ hl => hb.block g hl⟩
theorem Stay.trans {w'' : World} (h : Stay G w w') (k : Stay G w' w'') : Stay G w w'' := ⟨Nat.le_trans h.1 k.1, fun g hg hl => (k.2 g hg (Nat.lt_of_lt_of_le hl h.1)).trans (h.2 g hg hl)⟩
theorem Stay.held {g : Nat} {t : TypeId} {cs : Array Value} (h : Stay G w w') (hg : G g) (hh : Held w g t cs) : Held w' g t cs := (h.2 g hg hh.lt).trans hh
theorem Stay.own {base n size : Nat} {e : TypeId} {v : Value} {xs : List Value} (h : Stay G w w') (hg : ∀ g, v.ownBlock = some g → G g) (ho : w.ownsRow base e size v n xs) : w'.ownsRow base e size v n xs :=
  own_kept ho (fun g e => h.2 g (hg g e) (ho.lt g e).2)
theorem Stay.of_grown {row : Option Nat} (hg : w.grownBy w' row) (hr : ∀ g, row = some g → ¬ G g) : Stay G w w' := ⟨hg.size, fun g hx hl => hg.block g hl (fun e => hr g e.symm hx)⟩
theorem Ob.At.grown {row : Option Nat} {G' : Nat → Prop} (h : O.At w0 A G s w) (hg : w.grownBy w' row) (hr : ∀ g, row = some g → G g) (hG : ∀ g, G' g → G g ∨ (w.heap.size ≤ g ∧ g < w'.heap.size)) : O.At w0 A G' s w' := by
  obtain ⟨A', h1, h2, h3, h4⟩ := h
  have hs := h3.size
  refine ⟨A', O.turns h1 (G := fun i => row = some i) ⟨hg.os, hg.tape, hg.output, hg.size, fun i hi hn => hg.block i hi (fun e => hn e.symm)⟩ (fun i hi e => (h4 i (hr i e)).2.2 hi), h2,
    ⟨hg.os.trans h3.os, hg.tape.trans h3.tape, hg.output.trans h3.output, Nat.le_trans hs hg.size, fun i hi hf => (hg.block i (by omega) (fun e => by have := (h4 i (hr i e.symm)).1; omega)).trans (h3.block i hi hf)⟩, fun g x => ?_⟩
  rcases hG g x with h5 | h5
  · exact ⟨(h4 g h5).1, Nat.lt_of_lt_of_le (h4 g h5).2.1 hg.size, (h4 g h5).2.2⟩
  · exact ⟨by omega, h5.2, fun y => by have := O.lt h1 _ y; omega⟩
theorem Ob.Left.more {W : World} (h : O.Left w A s w') (hs : W.heap.size ≤ w.heap.size) (hb : Below W.heap.size W w) : O.Left W A s w' := by
  obtain ⟨B, h1, h2, h3⟩ := h
  refine ⟨B, h1, fun g hg => ?_, ((Turns.of_below hb A).trans h3)⟩
  rcases h2 g hg with h4 | h4
  · exact .inl h4
  · exact .inr (by omega)
end

theorem nodup_few : ∀ (n : Nat) (l : List Nat), (∀ i ∈ l, i < n) → l.Nodup → l.length ≤ n
  | 0, l, h, _ => by
    cases l with
    | nil => simp
    | cons a r => have := h a (List.mem_cons_self ..); omega
  | n + 1, l, h, hd => by
    by_cases hn : n ∈ l
    · have h1 := nodup_few n (l.erase n) (fun i hi => by
        have h2 := (hd.mem_erase_iff).1 hi
        have h3 := h i h2.2
        have h4 := h2.1
        omega) (hd.erase n)
      rw [List.length_erase_of_mem hn] at h1
      omega
    · have h1 := nodup_few n l (fun i hi => by
        have h3 := h i hi
        have h4 : i ≠ n := fun e => hn (e ▸ hi)
        omega) hd
      omega
theorem VOk.few {n : Nat} {s : Vst} (h : VOk n s) : s.rd.length ≤ n ∧ s.wr.length ≤ n := by
  refine ⟨nodup_few _ _ h.rdLt h.rdNd, ?_⟩
  have : (s.wr.map (·.1)).length ≤ n := by
    refine nodup_few _ _ (fun i hi => ?_) ?_
    · obtain ⟨p, hp, rfl⟩ := List.mem_map.1 hi
      exact (h.wrLt p hp).1
    · unfold List.Nodup
      rw [List.pairwise_iff_getElem]
      intro i j hi hj hij e
      have hj' : j < s.wr.length := by simpa using hj
      have h1 := h.wrNd i (by omega)
      have h2 := h.wrNd j hj'
      have e1 : cellW s.wr i = cellW s.wr j := by
        unfold cellW
        simp [List.getD, List.getElem?_eq_getElem (show i < s.wr.length by omega), List.getElem?_eq_getElem hj'] at e ⊢
        exact e
      rw [e1, h2] at h1
      injection h1 with h1
      omega
  simpa using this

section
variable {base b n : Nat} {wh all : Bool} {K : Nat → Option Nat} {s : Vst} {w w0 : World} {A G : Nat → Prop}
end
end
section
section
variable (n : Nat) (K : Nat → Option Nat) (t q s hd : Int)
def pullN (k : Nat) (st : Vst) : Nat := getV n K st (pageI t q s (k : Int) 2)
def pullB (k : Nat) (st : Vst) : Nat := getV n K (getS n K st (pageI t q s (k : Int) 2)) (pageI t q s (k : Int) 3)
def pull0 (k : Nat) (st : Vst) : Vst := getS n K (getS n K st (pageI t q s (k : Int) 2)) (pageI t q s (k : Int) 3)
def pull1 (k : Nat) (st : Vst) : Vst := if pullB n K t q s k st = 0 then putS n (pull0 n K t q s k st) hd (pullN n K t q s k st) else putS n (pull0 n K t q s k st) (pageI t q s ((pullB n K t q s k st : Nat) - 1 : Int) 2) (pullN n K t q s k st)
def pull2 (k : Nat) (st : Vst) : Vst := if pullN n K t q s k st = 0 then pull1 n K t q s hd k st else putS n (pull1 n K t q s hd k st) (pageI t q s ((pullN n K t q s k st : Nat) - 1 : Int) 3) (pullB n K t q s k st)
def pullS (k : Nat) (st : Vst) : Vst := putS n (putS n (pull2 n K t q s hd k st) (pageI t q s (k : Int) 2) 0) (pageI t q s (k : Int) 3) 0
def walkF : Nat → Nat → Vst → List Nat × Vst
  | 0, _, st => ([], st)
  | m + 1, l, st => if 1 ≤ l ∧ (l : Int) ≤ q then
      let r := walkF m (getV n K st (pageI t q s ((l : Int) - 1) 2)) (getS n K st (pageI t q s ((l : Int) - 1) 2))
      ((l - 1) :: r.1, r.2)
    else ([], st)
def walkL (st : Vst) : List Nat := (walkF n K t q s q.toNat (getV n K st hd) (getS n K st hd)).1
def walkS (st : Vst) : Vst := (walkF n K t q s q.toNat (getV n K st hd) (getS n K st hd)).2
theorem walkF_step {m l : Nat} {st : Vst} (h : 1 ≤ l ∧ (l : Int) ≤ q) : walkF n K t q s (m + 1) l st = ((l - 1) :: (walkF n K t q s m (getV n K st (pageI t q s ((l : Int) - 1) 2)) (getS n K st (pageI t q s ((l : Int) - 1) 2))).1, (walkF n K t q s m (getV n K st (pageI t q s ((l : Int) - 1) 2)) (getS n K st (pageI t q s ((l : Int) - 1) 2))).2) := by
  rw [walkF, if_pos h]
theorem walkF_end {m l : Nat} {st : Vst} (h : ¬ (1 ≤ l ∧ (l : Int) ≤ q)) : walkF n K t q s m l st = ([], st) := by
  cases m with
  | zero => rfl
  | succ m => rw [walkF, if_neg h]
end
section
variable {n : Nat} {K : Nat → Option Nat} {t q s hd : Int} {m l0 l : Nat} {st0 st : Vst} {out : List Nat}
end

section
variable {base b n : Nat} {wh all : Bool} {K : Nat → Option Nat} {st s' : Vst} {w ws w0 w' : World} {A G : Nat → Prop} {N : Nat} {T : TypeId} {cs : Array Value} {O : Ob}
end
end
end Go.Proofs.YtkbjckhbllmclaaGreatDoor
