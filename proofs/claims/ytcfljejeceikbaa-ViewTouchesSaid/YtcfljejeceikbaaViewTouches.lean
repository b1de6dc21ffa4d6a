/-
  The law ViewTouches: the walk.
-/
import Derived.Test.YtcfljejeceikbaaViewSim
import Derived.Test.YtcfljejeceikbaaViewLive2
import Derived.Test.YtcfljejeceikbaaViewRef6
import Derived.Test.YtcfljejeceikbaaOpenVals
import Derived.Deep.RegionHeld3
namespace Go.Proofs.Ytcfljejeceikbaa
open Go.ChangeShapes Go.WideShapes Go.ChangeAt Go.RowKit Go.Maps
set_option linter.unusedVariables false
set_option linter.unusedSimpArgs false

/-- four sets of blocks, between two bounds, no two with a block in common -/
structure Four (P Q R S : Nat → Prop) (base N : Nat) : Prop where
  pq : ∀ i, P i → ¬ Q i
  pr : ∀ i, P i → ¬ R i
  ps : ∀ i, P i → ¬ S i
  qr : ∀ i, Q i → ¬ R i
  qs : ∀ i, Q i → ¬ S i
  rs : ∀ i, R i → ¬ S i
  lo : ∀ i, P i ∨ Q i ∨ R i ∨ S i → base ≤ i
  hi : ∀ i, P i ∨ Q i ∨ R i ∨ S i → i < N
  le : base ≤ N
section
variable {P Q R S P' : Nat → Prop} {base N N' : Nat}
theorem Four.grow1 (h : Four P Q R S base N) (hP : ∀ i, P' i → P i ∨ N ≤ i) (hlt : ∀ i, P' i → i < N') (hN : N ≤ N') : Four P' Q R S base N' where
  pq := fun i hi hq => by
    rcases hP i hi with h1 | h1
    · exact h.pq i h1 hq
    · have := h.hi i (.inr (.inl hq)); omega
  pr := fun i hi hq => by
    rcases hP i hi with h1 | h1
    · exact h.pr i h1 hq
    · have := h.hi i (.inr (.inr (.inl hq))); omega
  ps := fun i hi hq => by
    rcases hP i hi with h1 | h1
    · exact h.ps i h1 hq
    · have := h.hi i (.inr (.inr (.inr hq))); omega
  qr := h.qr
  qs := h.qs
  rs := h.rs
  lo := fun i hi => by
    rcases hi with hi | hi
    · rcases hP i hi with h1 | h1
      · exact h.lo i (.inl h1)
      · have := h.le; omega
    · exact h.lo i (.inr hi)
  hi := fun i hi => by
    rcases hi with hi | hi
    · exact hlt i hi
    · have := h.hi i (.inr hi); omega
  le := Nat.le_trans h.le hN
theorem Four.rot (h : Four P Q R S base N) : Four Q R S P base N where
  pq := h.qr
  pr := h.qs
  ps := fun i hi hp => h.pq i hp hi
  qr := h.rs
  qs := fun i hi hp => h.pr i hp hi
  rs := fun i hi hp => h.ps i hp hi
  lo := fun i hi => h.lo i (by rcases hi with h1 | h1 | h1 | h1 <;> simp [h1])
  hi := fun i hi => h.hi i (by rcases hi with h1 | h1 | h1 | h1 <;> simp [h1])
  le := h.le
theorem Four.more (h : Four P Q R S base N) (hN : N ≤ N') : Four P Q R S base N' := { h with hi := fun i hi => Nat.lt_of_lt_of_le (h.hi i hi) hN, le := Nat.le_trans h.le hN }
end

theorem LeftR.of_alloc {w : World} {base b n : Nat} {all : Bool} {v : Nat → Value} {K : Nat → Option Nat} {s : Vst} {w' : World} (ob : Obj) (h : LeftR (w.alloc ob) base b n all v K s w') : LeftR w base b n all v K s w' := by
  obtain ⟨v', h1, h2, h3⟩ := h
  refine ⟨v', h1, fun g hg => ?_, ((T0 _ _).alloc _).trans h3⟩
  rcases h2 g hg with h4 | h4
  · exact .inl h4
  · simp at h4; exact .inr (by omega)
theorem want_c {base b n : Nat} {all : Bool} {v : Nat → Value} {K : Nat → Option Nat} {s : Vst} (t : TouchV) (ht : t.Ok) (h1 : s.rd.length < 2 ^ 40) (h2 : s.wr.length < 2 ^ 40) (w : World) (h : IsRefV w base b n all v K s) :
    Calls Try.prog 12 #[.pointer (some ⟨b, 0, none⟩), t.v] w fun e w' => e = .returned (.int .u32 ((tchV n K s t : Nat) : Int)) ∧ LeftR w base b n all v K (tchS n K s t) w' := by
  obtain ⟨p, c, x⟩ := t
  have HV := hidp ht.val
  unfold TouchV.v tchV tchS
  simp only at HV ⊢
  have HH : Hid (IsRefV (w.alloc (.cells #[.bool p, .int .i64 c, .int .u32 (x : Int)] 35)) base b n all v K s) := hidp (h.keep (Bnew (B0 _) _))
  clear h ht
  cases p with
  | true =>
    go_enter Try.func12, Try.ntmps12
    go_wp2_with fail
    refine (RPut_c c x HV.out h2 _ HH.out).mono ?_
    rintro e w1 ⟨rfl, hL⟩
    have HL := hidp hL.of_alloc
    clear hL
    go_wp2
    go_ret
    exact ⟨rfl, HL.out⟩
  | false =>
    go_enter Try.func12, Try.ntmps12
    go_wp2_with fail
    refine (RGet_c c h1 _ HH.out).mono ?_
    rintro e w1 ⟨rfl, hL⟩
    have HL := hidp hL.of_alloc
    clear hL
    go_wp2
    go_ret
    exact ⟨rfl, HL.out⟩

theorem vVals_whole {base b n : Nat} {o : VGeo} {Kn : Nat → Option Nat} {s : Vst} (hlim : s.wr.length < 2 ^ 40) (w : World) (h : IsView w base b n true o Kn s) :
    Calls Try.prog 18 #[.pointer (some ⟨b, 0, none⟩)] w fun e w' => ∃ u, e = .returned u ∧ RowV w' u (valVs (nowL Kn s.wr n)) ∧ Below w.heap.size w w' := by
  rcases Nat.eq_zero_or_pos n with h0 | h0
  · subst h0
    refine (vVals_zero w h).mono ?_
    rintro e w1 ⟨u, rfl, ho, hb⟩
    exact ⟨u, rfl, RowV.of_own (base := w.heap.size) (e := 32) ho, hb⟩
  · refine (vVals_some h0 hlim w h).mono ?_
    rintro e w1 ⟨g, cp, rfl, _, hr, hb⟩
    refine ⟨_, rfl, ?_, hb⟩
    rw [nowL_F]
    exact RowV.of_rowF hr
theorem rowV_now {w : World} {base n : Nat} {u : Value} {Kn : Nat → Option Nat} {wr : List (Nat × Nat)} (h : w.ownsRow base 32 1 u n (valVs (nowL Kn wr n))) : RowV w u (valVs (nowL Kn wr n)) := by
  refine RowV.of_own (base := base) (e := 32) ?_
  have e : (valVs (nowL Kn wr n)).length = n := by rw [valVs_len]; unfold nowL; simp
  rw [e]
  exact h

theorem ViewTouches_few1 (A B C : Option Addr) (c d f n q m : Nat) (hn : 300 < n) (W : World) :
    Calls Try.prog 3 #[.slice A n c, .slice B q d, .slice C m f] W (Keeps W) := by
  have t0 : decide ((300 : Int) < n) = true := decide_eq_true (by omega)
  go_enter Try.func3, Try.ntmps3
  go_wp2_with fail
  refine (live_c _).mono ?_
  rintro e w1 ⟨rfl, hb⟩
  go_wp2
  go_ret
  exact ⟨rfl, hb⟩

theorem ViewTouches_few2 (A B C : Option Addr) (c d f n q m : Nat) (hn : n ≤ 300) (hq : 100 < q) (W : World) :
    Calls Try.prog 3 #[.slice A n c, .slice B q d, .slice C m f] W (Keeps W) := by
  have t0 : decide ((300 : Int) < n) = false := decide_eq_false (by omega)
  have t1 : decide ((100 : Int) < q) = true := decide_eq_true (by omega)
  go_enter Try.func3, Try.ntmps3
  go_wp2_with fail
  refine (live_c _).mono ?_
  rintro e w1 ⟨rfl, hb⟩
  go_wp2
  go_ret
  exact ⟨rfl, hb⟩

theorem ViewTouches_few3 (A B C : Option Addr) (c d f n q m : Nat) (hn : n ≤ 300) (hq : q ≤ 100) (hm : 100 < m) (W : World) :
    Calls Try.prog 3 #[.slice A n c, .slice B q d, .slice C m f] W (Keeps W) := by
  have t0 : decide ((300 : Int) < n) = false := decide_eq_false (by omega)
  have t1 : decide ((100 : Int) < q) = false := decide_eq_false (by omega)
  have t2 : decide ((100 : Int) < m) = true := decide_eq_true (by omega)
  go_enter Try.func3, Try.ntmps3
  go_wp2_with fail
  refine (live_c _).mono ?_
  rintro e w1 ⟨rfl, hb⟩
  go_wp2
  go_ret
  exact ⟨rfl, hb⟩

def wholeK11 (vals : List Nat) : Nat → Option Nat := fun i => vals[i]?
def sV (vals : List Nat) (n : Nat) (t : List TouchV) (k : Nat) : Vst := runS n (wholeK11 vals) (t.take k) freshS
def sL (l : List PairV) (n : Nat) (t : List TouchV) (k : Nat) : Vst := runS n (kOf n l) (t.take k) freshS
theorem run_len2 (n : Nat) (K : Nat → Option Nat) (t : List TouchV) (k m : Nat) (hk : k ≤ m) (hm : m ≤ 100) : (runS n K (t.take k) freshS).rd.length < 2 ^ 40 ∧ (runS n K (t.take k) freshS).wr.length < 2 ^ 40 := by
  have := run_len (n := n) (K := K) (t.take k) freshS
  have h2 : (t.take k).length ≤ k := List.length_take_le _ _
  simp [freshS] at this ⊢
  omega

set_option maxRecDepth 100000 in
set_option maxHeartbeats 6400000 in
theorem ViewTouches_main (A B C : Option Addr) (c d f n q m : Nat) (vals : List Nat) (l : List PairV) (t : List TouchV) (HNN : Hid (vals.length = n)) (HQQ : Hid (l.length = q)) (HMM : Hid (t.length = m)) (H32 : Hid (∀ x ∈ vals, x < 2 ^ 32)) (HLL : Hid (∀ x ∈ l, x.Ok)) (HTT : Hid (∀ x ∈ t, x.Ok))
    (hn : n ≤ 300) (hq : q ≤ 100) (hm : m ≤ 100) (hnc : n ≤ c) (hcm : c ≤ maxLen) (hqd : q ≤ d) (hdm : d ≤ maxLen) (hmf : m ≤ f) (hfm : f ≤ maxLen) (W : World) (HR : Hid (Reads W W.heap.size 1 A n (valVs vals))) (HPA : Hid (PairVs W B l)) (HA : Hid (TouchVs W C t)) :
    Calls Try.prog 3 #[.slice A n c, .slice B q d, .slice C m f] W (Keeps W) := by
  have t0 : decide ((300 : Int) < n) = false := decide_eq_false (by omega)
  have t1 : decide ((100 : Int) < q) = false := decide_eq_false (by omega)
  have t2 : decide ((100 : Int) < m) = false := decide_eq_false (by omega)
  have hcm2 : c ≤ 9223372036854775807 := hcm
  have hdm2 : d ≤ 9223372036854775807 := hdm
  have hfm2 : f ≤ 9223372036854775807 := hfm
  go_enter Try.func3, Try.ntmps3
  go_wp2_with fail
  refine (Whole_c A c vals n HNN.out (by omega) H32.out _ (by
    intro h0
    obtain ⟨ad, e, _, hc⟩ := HR.out.2 h0
    exact ⟨ad, e, hc⟩)).mono ?_
  rintro e w1 ⟨b1, o1, rfl, hI, hB⟩
  have HV1 : Hid (IsView w1 W.heap.size b1 n true o1 (wholeK11 vals) freshS) := hidp hI
  have HB1 := hidp hB
  have HP1 := hidp (HPA.out.below hB)
  clear hI hB
  go_wp2_with fail
  refine (Known_c B d q n l HQQ.out hqd hdm (by omega) (by omega) HLL.out _ HP1.out).mono ?_
  rintro e w2 ⟨b2, o2, rfl, hI, hB⟩
  have HV2 := hidp (HV1.out.keep hB)
  have HW2 := hidp hI
  have HB2 := hidp (Bgo HB1.out hB)
  have HR2 : Hid (Reads w2 w2.heap.size 1 A n (valVs vals)) := hidp ((HR.out.below (Bgo HB1.out hB)).more (by have := (Bgo HB1.out hB).size; exact this))
  have HP2 := hidp (HP1.out.below hB)
  have HLT1 : Hid (∀ i, o1.A b1 i → i < w1.heap.size) := hidp HV1.out.lt
  have HN12 : Hid (w1.heap.size ≤ w2.heap.size) := hidp hB.size
  clear hI hB HV1 HP1
  go_wp2_with fail
  refine (RWhole_c A c vals n HNN.out (by omega) hnc hcm H32.out _ HR2.out).mono ?_
  rintro e w3 ⟨b3, v3, rfl, hI, hB⟩
  have HV3 := hidp (HV2.out.keep hB)
  have HW3 := hidp (HW2.out.keep hB)
  have HA3 : Hid (IsRefV w3 w2.heap.size b3 n true v3 (wholeK11 vals) freshS) := hidp hI
  have HB3 := hidp (Bgo HB2.out hB)
  have HP3 := hidp (HP2.out.below hB)
  have HLT2 : Hid (∀ i, o2.A b2 i → i < w2.heap.size) := hidp HW2.out.lt
  have HN23 : Hid (w2.heap.size ≤ w3.heap.size) := hidp hB.size
  clear hI hB HV2 HW2 HP2 HR2
  go_wp2_with fail
  refine (RKnown_c B d q n l HQQ.out hqd hdm (by omega) (by omega) HLL.out _ HP3.out).mono ?_
  rintro e w4 ⟨b4, v4, rfl, hI, hB⟩
  have HV4 := hidp (HV3.out.keep hB)
  have HW4 := hidp (HW3.out.keep hB)
  have HA4 := hidp (HA3.out.keep hB)
  have HC4 := hidp hI
  have HB4 := hidp (Bgo HB3.out hB)
  have HF4 : Hid (Four (o1.A b1) (o2.A b2) (OwnF b3 6 v3) (OwnF b4 6 v4) W.heap.size w4.heap.size) := hidp (by
    have n1 := HB1.out.size
    have n2 := HN12.out
    have n3 := HN23.out
    have n4 := hB.size
    have a1 := HV3.out.ge
    have a2 := HW3.out.ge
    have a3 := HA3.out.parts.ge
    have a4 := hI.parts.ge
    have z1 := HLT1.out
    have z2 := HLT2.out
    have z3 := HA3.out.parts.lt
    have z4 := hI.parts.lt
    refine ⟨fun i h1 h2 => ?_, fun i h1 h2 => ?_, fun i h1 h2 => ?_, fun i h1 h2 => ?_, fun i h1 h2 => ?_, fun i h1 h2 => ?_, fun i h => ?_, fun i h => ?_, by omega⟩
    · have := z1 i h1; have := a2 i h2; omega
    · have := z1 i h1; have := a3 i h2; omega
    · have := z1 i h1; have := a4 i h2; omega
    · have := z2 i h1; have := a3 i h2; omega
    · have := z2 i h1; have := a4 i h2; omega
    · have := z3 i h1; have := a4 i h2; omega
    · rcases h with h | h | h | h
      · exact a1 i h
      · have := a2 i h; omega
      · have := a3 i h; omega
      · have := a4 i h; omega
    · rcases h with h | h | h | h
      · have := z1 i h; omega
      · have := z2 i h; omega
      · have := z3 i h; omega
      · exact z4 i h)
  clear hI hB HV3 HW3 HA3 HP3 HB1 HB2 HB3 HLT1 HLT2 HN12 HN23
  go_wp2_with fail
  go_loopw [11] (fun i wr => ∃ (k : Nat) (o1 o2 : VGeo) (v3 v4 : Nat → Value), k ≤ m ∧ i = .int .i64 k ∧ Hid (IsView wr W.heap.size b1 n true o1 (wholeK11 vals) (sV vals n t k)) ∧ Hid (IsView wr w1.heap.size b2 n false o2 (kOf n l) (sL l n t k)) ∧ Hid (IsRefV wr w2.heap.size b3 n true v3 (wholeK11 vals) (sV vals n t k)) ∧ Hid (IsRefV wr w3.heap.size b4 n false v4 (kOf n l) (sL l n t k)) ∧ Hid (Four (o1.A b1) (o2.A b2) (OwnF b3 6 v3) (OwnF b4 6 v4) W.heap.size wr.heap.size) ∧ Hid (Below W.heap.size W wr)) (fun i _ => m - (intOf i).toNat)
  case atStart => exact ⟨0, o1, o2, v3, v4, by omega, rfl, HV4, HW4, HA4, HC4, HF4, HB4⟩
  case round =>
    clear HV4 HW4 HA4 HC4 HF4 HB4
    obtain ⟨k, o1, o2, v3, v4, hk, rfl, HV, HW, HAA, HC, HF, HB⟩ := hrel
    by_cases hlt : k < m
    · obtain ⟨x, hx⟩ : ∃ x, t[k]? = some x := ⟨_, List.getElem?_eq_getElem (by rw [HMM.out]; exact hlt)⟩
      have HXO := hidp (HTT.out x (List.mem_of_getElem? hx))
      obtain ⟨ad, rfl, _, _⟩ := HA.out k x hx
      have HS8 : Hid (∀ w', Below W.heap.size W w' → w'.cell? (ad.add (k * 3)) = some (.bool x.put) ∧ w'.cell? ⟨(ad.add (k * 3)).block, (ad.add (k * 3)).off + 1, none⟩ = some (.int .i64 x.cell) ∧ w'.cell? ⟨(ad.add (k * 3)).block, (ad.add (k * 3)).off + 2, none⟩ = some (.int .u32 (x.val : Int))) := hidp (fun w' hb' => (HA.out.below hb').cells hx)
      obtain ⟨x0, x1, x2⟩ := HS8.out _ HB.out
      have HSV : Hid (sV vals n t (k + 1) = tchS n (wholeK11 vals) (sV vals n t k) x) := hidp (runS_take hx)
      have HSL : Hid (sL l n t (k + 1) = tchS n (kOf n l) (sL l n t k) x) := hidp (runS_take hx)
      have HLV : Hid ((sV vals n t k).rd.length < 2 ^ 40 ∧ (sV vals n t k).wr.length < 2 ^ 40) := hidp (run_len2 n (wholeK11 vals) t k m (by omega) hm)
      have HLW : Hid ((sL l n t k).rd.length < 2 ^ 40 ∧ (sL l n t k).wr.length < 2 ^ 40) := hidp (run_len2 n (kOf n l) t k m (by omega) hm)
      clear hx
      generalize sV vals n t k = s1 at *
      generalize sL l n t k = s2 at *
      go_wp2_with fail
      refine wp_region_held_drew (S := (fun w' => w'.cell? (ad.add (k * 3)) = some (.bool x.put) ∧ w'.cell? ⟨(ad.add (k * 3)).block, (ad.add (k * 3)).off + 1, none⟩ = some (.int .i64 x.cell) ∧ w'.cell? ⟨(ad.add (k * 3)).block, (ad.add (k * 3)).off + 2, none⟩ = some (.int .u32 (x.val : Int)))) (by kernel_rfl) ?_ (fun hHeld => ?_)
      · (try dsimp only)
        first | exact ⟨x0, x1, x2⟩ | exact HS8.out _ HBq.out | exact hHeld
      refine wpAnyH_take (i := 0) (oi := _) (v := ?_) rfl (by kernel_rfl) (by kernel_rfl) (by kernel_rfl) (fun _ _ _ h => h) (Or.inl ⟨by rfl, ?_⟩) (by assumption) ?_
      rotate_left
      · intro w hSw; (try dsimp only at hSw); go_simp; (try with_reducible rfl)
      (try simp only [Act.put, List.getElem_toArray, List.getElem_cons_zero, List.getElem_cons_succ, List.setIfInBounds_toArray, List.set_cons_zero, List.set_cons_succ])
      refine wpAnyH_take (i := 1) (oi := _) (v := ?_) rfl (by kernel_rfl) (by kernel_rfl) (by kernel_rfl) (fun _ _ _ h => h) (Or.inl ⟨by rfl, ?_⟩) (by assumption) ?_
      rotate_left
      · intro w hSw; (try dsimp only at hSw); go_simp; (try with_reducible rfl)
      (try simp only [Act.put, List.getElem_toArray, List.getElem_cons_zero, List.getElem_cons_succ, List.setIfInBounds_toArray, List.set_cons_zero, List.set_cons_succ])
      refine wpAnyH_take (i := 2) (oi := _) (v := ?_) rfl (by kernel_rfl) (by kernel_rfl) (by kernel_rfl) (fun _ _ _ h => h) (Or.inl ⟨by rfl, ?_⟩) (by assumption) ?_
      rotate_left
      · intro w hSw; (try dsimp only at hSw); go_simp; (try with_reducible rfl)
      (try simp only [Act.put, List.getElem_toArray, List.getElem_cons_zero, List.getElem_cons_succ, List.setIfInBounds_toArray, List.set_cons_zero, List.set_cons_succ])
      refine wpAnyH_take (i := 3) (oi := _) (v := ?_) rfl (by kernel_rfl) (by kernel_rfl) (by kernel_rfl) (fun _ _ _ h => h) (Or.inl ⟨by rfl, ?_⟩) (by assumption) ?_
      rotate_left
      · intro w hSw; (try dsimp only at hSw); go_simp; (try with_reducible rfl)
      (try simp only [Act.put, List.getElem_toArray, List.getElem_cons_zero, List.getElem_cons_succ, List.setIfInBounds_toArray, List.set_cons_zero, List.set_cons_succ])
      refine wpAnyH_take (i := 4) (oi := _) (v := ?_) rfl (by kernel_rfl) (by kernel_rfl) (by kernel_rfl) (fun _ _ _ h => h) (Or.inl ⟨by rfl, ?_⟩) (by assumption) ?_
      rotate_left
      · intro w hSw; (try dsimp only at hSw); go_simp; (try with_reducible rfl)
      (try simp only [Act.put, List.getElem_toArray, List.getElem_cons_zero, List.getElem_cons_succ, List.setIfInBounds_toArray, List.set_cons_zero, List.set_cons_succ])
      refine wpAnyH_take (i := 6) (oi := _) (v := ?_) rfl (by kernel_rfl) (by kernel_rfl) (by kernel_rfl) (fun _ _ _ h => h) (Or.inl ⟨by rfl, ?_⟩) (by assumption) ?_
      rotate_left
      · intro w hSw; (try dsimp only at hSw); go_simp; (try with_reducible rfl)
      (try simp only [Act.put, List.getElem_toArray, List.getElem_cons_zero, List.getElem_cons_succ, List.setIfInBounds_toArray, List.set_cons_zero, List.set_cons_succ])
      refine wpAnyH_take (i := 7) (oi := _) (v := ?_) rfl (by kernel_rfl) (by kernel_rfl) (by kernel_rfl) (fun _ _ _ h => h) (Or.inl ⟨by rfl, ?_⟩) (by assumption) ?_
      rotate_left
      · intro w hSw; (try dsimp only at hSw); go_simp; (try with_reducible rfl)
      (try simp only [Act.put, List.getElem_toArray, List.getElem_cons_zero, List.getElem_cons_succ, List.setIfInBounds_toArray, List.set_cons_zero, List.set_cons_succ])
      refine wpAnyH_take (i := 8) (oi := _) (v := ?_) rfl (by kernel_rfl) (by kernel_rfl) (by kernel_rfl) (fun _ _ _ h => h) (Or.inl ⟨by rfl, ?_⟩) (by assumption) ?_
      rotate_left
      · intro w hSw; (try dsimp only at hSw); go_simp; (try with_reducible rfl)
      (try simp only [Act.put, List.getElem_toArray, List.getElem_cons_zero, List.getElem_cons_succ, List.setIfInBounds_toArray, List.set_cons_zero, List.set_cons_succ])
      refine wpAnyH_take (i := 9) (oi := _) (v := ?_) rfl (by kernel_rfl) (by kernel_rfl) (by kernel_rfl) (fun _ _ _ h => h) (Or.inl ⟨by rfl, ?_⟩) (by assumption) ?_
      rotate_left
      · intro w hSw; (try dsimp only at hSw); go_simp; (try with_reducible rfl)
      (try simp only [Act.put, List.getElem_toArray, List.getElem_cons_zero, List.getElem_cons_succ, List.setIfInBounds_toArray, List.set_cons_zero, List.set_cons_succ])
      refine wpAnyH_take (i := 10) (oi := _) (v := ?_) rfl (by kernel_rfl) (by kernel_rfl) (by kernel_rfl) (fun _ _ _ h => h) (Or.inl ⟨by rfl, ?_⟩) (by assumption) ?_
      rotate_left
      · intro w hSw; (try dsimp only at hSw); go_simp; (try with_reducible rfl)
      (try simp only [Act.put, List.getElem_toArray, List.getElem_cons_zero, List.getElem_cons_succ, List.setIfInBounds_toArray, List.set_cons_zero, List.set_cons_succ])
      refine wpAnyH_ready (rs := [5]) (by kernel_rfl) (by simp) ?_
      refine AllReadyH.cons (o := _) rfl (fun K hK => ?_) AllReadyH.nil
      go_simp
      refine (touch_c x HXO.out HLV.out.1 HLV.out.2 _ (HV.out.keep (Bdrew (B0 _)))).mono ?_; rintro e w5 ⟨rfl, p1, hI, hA, hT⟩; have HV5 := hidp hI; have HW5 := hidp ((HW.out.keep (Bdrew (B0 _))).turns hT (fun i hi hf => HF.out.pq i (.inl hf) hi)); have HA5 := hidp ((HAA.out.keep (Bdrew (B0 _))).turns hT (fun i hi hf => HF.out.pr i (.inl hf) hi)); have HC5 := hidp ((HC.out.keep (Bdrew (B0 _))).turns hT (fun i hi hf => HF.out.ps i (.inl hf) hi)); have HBq := hidp (hT.below (Bgo HB.out (Bdrew (B0 _))) (fun i hi => HF.out.lo i (.inl (.inl hi)))); have HF5 := hidp (HF.out.grow1 hA hI.lt hT.size); clear hI hA hT HV HW HAA HC HF HB
      refine hK.out _ _ ?_ (fun hHeld => ?_)
      · (try dsimp only)
        first | exact ⟨x0, x1, x2⟩ | exact HS8.out _ HBq.out | exact hHeld
      clear hK K
      (try simp only [Act.put, List.getElem_toArray, List.getElem_cons_zero, List.getElem_cons_succ, List.setIfInBounds_toArray, List.set_cons_zero, List.set_cons_succ])
      refine wpAnyH_ready (rs := [11]) (by kernel_rfl) (by simp) ?_
      refine AllReadyH.cons (o := _) rfl (fun K hK => ?_) AllReadyH.nil
      go_simp
      refine (want_c x HXO.out HLV.out.1 HLV.out.2 _ HA5.out).mono ?_; rintro e w6 ⟨rfl, u3, hI, hA, hT⟩; have HA6 := hidp hI; have HV6 := hidp (HV5.out.turns hT (fun i hi hf => HF5.out.pr i hi hf)); have HW6 := hidp (HW5.out.turns hT (fun i hi hf => HF5.out.qr i hi hf)); have HC6 := hidp (HC5.out.turns hT (fun i hi hf => HF5.out.rs i hf hi)); have HB6 := hidp (hT.below HBq.out (fun i hi => HF5.out.lo i (.inr (.inr (.inl hi))))); have HF6 := hidp (HF5.out.rot.rot.grow1 hA hI.parts.lt hT.size).rot.rot; clear HBq; have HBq := HB6; clear hI hA hT HV5 HW5 HA5 HC5 HF5 HB6
      refine hK.out _ _ ?_ (fun hHeld => ?_)
      · (try dsimp only)
        first | exact ⟨x0, x1, x2⟩ | exact HS8.out _ HBq.out | exact hHeld
      clear hK K
      (try simp only [Act.put, List.getElem_toArray, List.getElem_cons_zero, List.getElem_cons_succ, List.setIfInBounds_toArray, List.set_cons_zero, List.set_cons_succ])
      refine wpAnyH_take (i := 12) (oi := _) (v := ?_) rfl (by kernel_rfl) (by kernel_rfl) (by kernel_rfl) (fun _ _ _ h => h) (Or.inl ⟨by rfl, ?_⟩) (by assumption) ?_
      rotate_left
      · intro w hSw; (try dsimp only at hSw); go_simp; (try with_reducible rfl)
      (try simp only [Act.put, List.getElem_toArray, List.getElem_cons_zero, List.getElem_cons_succ, List.setIfInBounds_toArray, List.set_cons_zero, List.set_cons_succ])
      refine wpAnyH_take (i := 13) (oi := _) (v := ?_) rfl (by kernel_rfl) (by kernel_rfl) (by kernel_rfl) (fun _ _ _ h => h) (Or.inl ⟨by rfl, ?_⟩) (by assumption) ?_
      rotate_left
      · intro w hSw; (try dsimp only at hSw); go_simp; (try with_reducible rfl)
      (try simp only [Act.put, List.getElem_toArray, List.getElem_cons_zero, List.getElem_cons_succ, List.setIfInBounds_toArray, List.set_cons_zero, List.set_cons_succ])
      refine wpAnyH_take (i := 14) (oi := _) (v := ?_) rfl (by kernel_rfl) (by kernel_rfl) (by kernel_rfl) (fun _ _ _ h => h) (Or.inl ⟨by rfl, ?_⟩) (by assumption) ?_
      rotate_left
      · intro w hSw; (try dsimp only at hSw); go_simp; (try with_reducible rfl)
      (try simp only [Act.put, List.getElem_toArray, List.getElem_cons_zero, List.getElem_cons_succ, List.setIfInBounds_toArray, List.set_cons_zero, List.set_cons_succ])
      refine wpAnyH_take (i := 15) (oi := _) (v := ?_) rfl (by kernel_rfl) (by kernel_rfl) (by kernel_rfl) (fun _ _ _ h => h) (Or.inl ⟨by rfl, ?_⟩) (by assumption) ?_
      rotate_left
      · intro w hSw; (try dsimp only at hSw); go_simp; (try with_reducible rfl)
      (try simp only [Act.put, List.getElem_toArray, List.getElem_cons_zero, List.getElem_cons_succ, List.setIfInBounds_toArray, List.set_cons_zero, List.set_cons_succ])
      refine wpAnyH_take (i := 16) (oi := _) (v := ?_) rfl (by kernel_rfl) (by kernel_rfl) (by kernel_rfl) (fun _ _ _ h => h) (Or.inl ⟨by rfl, ?_⟩) (by assumption) ?_
      rotate_left
      · intro w hSw; (try dsimp only at hSw); go_simp; (try with_reducible rfl)
      (try simp only [Act.put, List.getElem_toArray, List.getElem_cons_zero, List.getElem_cons_succ, List.setIfInBounds_toArray, List.set_cons_zero, List.set_cons_succ])
      refine wpAnyH_take (i := 17) (oi := _) (v := ?_) rfl (by kernel_rfl) (by kernel_rfl) (by kernel_rfl) (fun _ _ _ h => h) (Or.inl ⟨by rfl, ?_⟩) (by assumption) ?_
      rotate_left
      · intro w hSw; (try dsimp only at hSw); go_simp; (try with_reducible rfl)
      (try simp only [Act.put, List.getElem_toArray, List.getElem_cons_zero, List.getElem_cons_succ, List.setIfInBounds_toArray, List.set_cons_zero, List.set_cons_succ])
      refine wpAnyH_take (i := 18) (oi := _) (v := ?_) rfl (by kernel_rfl) (by kernel_rfl) (by kernel_rfl) (fun _ _ _ h => h) (Or.inl ⟨by rfl, ?_⟩) (by assumption) ?_
      rotate_left
      · intro w hSw; (try dsimp only at hSw); go_simp; (try with_reducible rfl)
      (try simp only [Act.put, List.getElem_toArray, List.getElem_cons_zero, List.getElem_cons_succ, List.setIfInBounds_toArray, List.set_cons_zero, List.set_cons_succ])
      refine wpAnyH_take (i := 20) (oi := _) (v := ?_) rfl (by kernel_rfl) (by kernel_rfl) (by kernel_rfl) (fun _ _ _ h => h) (Or.inl ⟨by rfl, ?_⟩) (by assumption) ?_
      rotate_left
      · intro w hSw; (try dsimp only at hSw); go_simp; (try with_reducible rfl)
      (try simp only [Act.put, List.getElem_toArray, List.getElem_cons_zero, List.getElem_cons_succ, List.setIfInBounds_toArray, List.set_cons_zero, List.set_cons_succ])
      refine wpAnyH_take (i := 21) (oi := _) (v := ?_) rfl (by kernel_rfl) (by kernel_rfl) (by kernel_rfl) (fun _ _ _ h => h) (Or.inl ⟨by rfl, ?_⟩) (by assumption) ?_
      rotate_left
      · intro w hSw; (try dsimp only at hSw); go_simp; (try with_reducible rfl)
      (try simp only [Act.put, List.getElem_toArray, List.getElem_cons_zero, List.getElem_cons_succ, List.setIfInBounds_toArray, List.set_cons_zero, List.set_cons_succ])
      refine wpAnyH_take (i := 22) (oi := _) (v := ?_) rfl (by kernel_rfl) (by kernel_rfl) (by kernel_rfl) (fun _ _ _ h => h) (Or.inl ⟨by rfl, ?_⟩) (by assumption) ?_
      rotate_left
      · intro w hSw; (try dsimp only at hSw); go_simp; (try with_reducible rfl)
      (try simp only [Act.put, List.getElem_toArray, List.getElem_cons_zero, List.getElem_cons_succ, List.setIfInBounds_toArray, List.set_cons_zero, List.set_cons_succ])
      refine wpAnyH_take (i := 23) (oi := _) (v := ?_) rfl (by kernel_rfl) (by kernel_rfl) (by kernel_rfl) (fun _ _ _ h => h) (Or.inl ⟨by rfl, ?_⟩) (by assumption) ?_
      rotate_left
      · intro w hSw; (try dsimp only at hSw); go_simp; (try with_reducible rfl)
      (try simp only [Act.put, List.getElem_toArray, List.getElem_cons_zero, List.getElem_cons_succ, List.setIfInBounds_toArray, List.set_cons_zero, List.set_cons_succ])
      refine wpAnyH_take (i := 24) (oi := _) (v := ?_) rfl (by kernel_rfl) (by kernel_rfl) (by kernel_rfl) (fun _ _ _ h => h) (Or.inl ⟨by rfl, ?_⟩) (by assumption) ?_
      rotate_left
      · intro w hSw; (try dsimp only at hSw); go_simp; (try with_reducible rfl)
      (try simp only [Act.put, List.getElem_toArray, List.getElem_cons_zero, List.getElem_cons_succ, List.setIfInBounds_toArray, List.set_cons_zero, List.set_cons_succ])
      refine wpAnyH_ready (rs := [19]) (by kernel_rfl) (by simp) ?_
      refine AllReadyH.cons (o := _) rfl (fun K hK => ?_) AllReadyH.nil
      go_simp
      refine (touch_c x HXO.out HLW.out.1 HLW.out.2 _ HW6.out).mono ?_; rintro e w7 ⟨rfl, p2, hI, hA, hT⟩; have HW7 := hidp hI; have HV7 := hidp (HV6.out.turns hT (fun i hi hf => HF6.out.pq i hi (.inl hf))); have HA7 := hidp (HA6.out.turns hT (fun i hi hf => HF6.out.qr i (.inl hf) hi)); have HC7 := hidp (HC6.out.turns hT (fun i hi hf => HF6.out.qs i (.inl hf) hi)); have HB7 := hidp (hT.below HBq.out (fun i hi => HF6.out.lo i (.inr (.inl (.inl hi))))); have HF7 := hidp (HF6.out.rot.grow1 hA hI.lt hT.size).rot.rot.rot; clear HBq; have HBq := HB7; clear hI hA hT HV6 HW6 HA6 HC6 HF6 HB7
      refine hK.out _ _ ?_ (fun hHeld => ?_)
      · (try dsimp only)
        first | exact ⟨x0, x1, x2⟩ | exact HS8.out _ HBq.out | exact hHeld
      clear hK K
      (try simp only [Act.put, List.getElem_toArray, List.getElem_cons_zero, List.getElem_cons_succ, List.setIfInBounds_toArray, List.set_cons_zero, List.set_cons_succ])
      refine wpAnyH_ready (rs := [25]) (by kernel_rfl) (by simp) ?_
      refine AllReadyH.cons (o := _) rfl (fun K hK => ?_) AllReadyH.nil
      go_simp
      refine (want_c x HXO.out HLW.out.1 HLW.out.2 _ HC7.out).mono ?_; rintro e w8 ⟨rfl, u4, hI, hA, hT⟩; have HC8 := hidp hI; have HV8 := hidp (HV7.out.turns hT (fun i hi hf => HF7.out.ps i hi hf)); have HW8 := hidp (HW7.out.turns hT (fun i hi hf => HF7.out.qs i hi hf)); have HA8 := hidp (HA7.out.turns hT (fun i hi hf => HF7.out.rs i hi hf)); have HB8 := hidp (hT.below HBq.out (fun i hi => HF7.out.lo i (.inr (.inr (.inr hi))))); have HF8 := hidp (HF7.out.rot.rot.rot.grow1 hA hI.parts.lt hT.size).rot; clear HBq; have HBq := HB8; clear hI hA hT HV7 HW7 HA7 HC7 HF7 HB8
      refine hK.out _ _ ?_ (fun hHeld => ?_)
      · (try dsimp only)
        first | exact ⟨x0, x1, x2⟩ | exact HS8.out _ HBq.out | exact hHeld
      clear hK K
      (try simp only [Act.put, List.getElem_toArray, List.getElem_cons_zero, List.getElem_cons_succ, List.setIfInBounds_toArray, List.set_cons_zero, List.set_cons_succ])
      refine wpAnyH_take (i := 26) (oi := _) (v := ?_) rfl (by kernel_rfl) (by kernel_rfl) (by kernel_rfl) (fun _ _ _ h => h) (Or.inl ⟨by rfl, ?_⟩) (by assumption) ?_
      rotate_left
      · intro w hSw; (try dsimp only at hSw); go_simp; (try with_reducible rfl)
      (try simp only [Act.put, List.getElem_toArray, List.getElem_cons_zero, List.getElem_cons_succ, List.setIfInBounds_toArray, List.set_cons_zero, List.set_cons_succ])
      refine wpAnyH_take (i := 27) (oi := _) (v := ?_) rfl (by kernel_rfl) (by kernel_rfl) (by kernel_rfl) (fun _ _ _ h => h) (Or.inl ⟨by rfl, ?_⟩) (by assumption) ?_
      rotate_left
      · intro w hSw; (try dsimp only at hSw); go_simp; (try with_reducible rfl)
      (try simp only [Act.put, List.getElem_toArray, List.getElem_cons_zero, List.getElem_cons_succ, List.setIfInBounds_toArray, List.set_cons_zero, List.set_cons_succ])
      refine wpAnyH_done (by kernel_rfl) ?_ _
      go_wp2
      go_roundw
      case rel => exact ⟨k + 1, p1, p2, u3, u4, by omega, by go_num, by rw [HSV.out]; exact HV8, by rw [HSL.out]; exact HW8, by rw [HSV.out]; exact HA8, by rw [HSL.out]; exact HC8, HF8, HBq⟩
      case measure => simp [intOf]; omega
    · obtain rfl : k = m := by omega
      rename World => w5
      have HLV : Hid ((sV vals n t k).rd.length < 2 ^ 40 ∧ (sV vals n t k).wr.length < 2 ^ 40) := hidp (run_len2 n (wholeK11 vals) t k k (by omega) hm)
      have HLW : Hid ((sL l n t k).rd.length < 2 ^ 40 ∧ (sL l n t k).wr.length < 2 ^ 40) := hidp (run_len2 n (kOf n l) t k k (by omega) hm)
      clear HF hlt hk
      generalize sV vals n t k = s1 at *
      generalize sL l n t k = s2 at *

      go_wp2_with fail
      refine (vReads_c HLV.out.1 _ HV.out).mono ?_
      rintro e w6 ⟨r6, rfl, ho, hb⟩
      have HV6 := hidp (HV.out.keep hb)
      have HW6 := hidp (HW.out.keep hb)
      have HAA6 := hidp (HAA.out.keep hb)
      have HC6 := hidp (HC.out.keep hb)
      have HB6 := hidp (Bgo HB.out hb)
      have HR6 := hidp (rowV_nat6 ho)
      clear hb HV HW HAA HC HB
      clear ho
      go_wp2_with fail
      refine (vWrites_c HLV.out.2 _ HV6.out).mono ?_
      rintro e w7 ⟨r7, rfl, ho, hb⟩
      have HV7 := hidp (HV6.out.keep hb)
      have HW7 := hidp (HW6.out.keep hb)
      have HAA7 := hidp (HAA6.out.keep hb)
      have HC7 := hidp (HC6.out.keep hb)
      have HB7 := hidp (Bgo HB6.out hb)
      have HP7 := hidp (RowP.of_own ho)
      have HR7 := hidp (HR6.out.below hb)
      clear hb HV6 HW6 HAA6 HC6 HB6
      clear ho HR6
      go_wp2_with fail
      refine (vMissing_c _ HV7.out).mono ?_
      rintro e w8 ⟨rfl, hw8⟩
      subst hw8
      go_wp2_with fail
      refine (Same_c HLV.out.1 HLV.out.2 r6 r7 _ HAA7.out HR7.out HP7.out).mono ?_
      rintro e w8 ⟨rfl, hb⟩
      have HV8 := hidp (HV7.out.keep hb)
      have HW8 := hidp (HW7.out.keep hb)
      have HAA8 := hidp (HAA7.out.keep hb)
      have HC8 := hidp (HC7.out.keep hb)
      have HB8 := hidp (Bgo HB7.out hb)
      clear hb HV7 HW7 HAA7 HC7 HB7
      clear HR7 HP7
      go_wp2_with fail
      refine (vReads_c HLW.out.1 _ HW8.out).mono ?_
      rintro e w9 ⟨r9, rfl, ho, hb⟩
      have HV9 := hidp (HV8.out.keep hb)
      have HW9 := hidp (HW8.out.keep hb)
      have HAA9 := hidp (HAA8.out.keep hb)
      have HC9 := hidp (HC8.out.keep hb)
      have HB9 := hidp (Bgo HB8.out hb)
      have HR9 := hidp (rowV_nat6 ho)
      clear hb HV8 HW8 HAA8 HC8 HB8
      clear ho
      go_wp2_with fail
      refine (vWrites_c HLW.out.2 _ HW9.out).mono ?_
      rintro e w10 ⟨r10, rfl, ho, hb⟩
      have HV10 := hidp (HV9.out.keep hb)
      have HW10 := hidp (HW9.out.keep hb)
      have HAA10 := hidp (HAA9.out.keep hb)
      have HC10 := hidp (HC9.out.keep hb)
      have HB10 := hidp (Bgo HB9.out hb)
      have HP10 := hidp (RowP.of_own ho)
      have HR10 := hidp (HR9.out.below hb)
      clear hb HV9 HW9 HAA9 HC9 HB9
      clear ho HR9
      go_wp2_with fail
      refine (vMissing_c _ HW10.out).mono ?_
      rintro e w11 ⟨rfl, hw11⟩
      subst hw11
      go_wp2_with fail
      refine (Same_c HLW.out.1 HLW.out.2 r9 r10 _ HC10.out HR10.out HP10.out).mono ?_
      rintro e w11 ⟨rfl, hb⟩
      have HV11 := hidp (HV10.out.keep hb)
      have HW11 := hidp (HW10.out.keep hb)
      have HAA11 := hidp (HAA10.out.keep hb)
      have HB11 := hidp (Bgo HB10.out hb)
      clear hb HV10 HW10 HAA10 HB10
      clear HR10 HP10 HC10
      go_wp2_with fail
      refine (vVals_whole HLV.out.2 _ HV11.out).mono ?_
      rintro e w12 ⟨r12, rfl, ho, hb⟩
      have HW12 := hidp (HW11.out.keep hb)
      have HAA12 := hidp (HAA11.out.keep hb)
      have HB12 := hidp (Bgo HB11.out hb)
      have HR12 := hidp ho
      clear hb HW11 HAA11 HB11
      clear ho
      go_wp2_with fail
      refine (RVals_c _ HAA12.out).mono ?_
      rintro e w13 ⟨r13, rfl, ho, hb⟩
      have HW13 := hidp (HW12.out.keep hb)
      have HB13 := hidp (Bgo HB12.out hb)
      have HR13 := hidp (rowV_now ho)
      have HR14 := hidp (HR12.out.below hb)
      clear hb HW12 HB12
      clear ho HR12
      go_wp2_with fail
      refine (Vals_same (nowL (wholeK11 vals) s1.wr n) _ _ _ HR14.out HR13.out).mono ?_
      rintro e w14 ⟨rfl, j14, rfl⟩
      have hb := Bdraw (B0 w13) j14
      have HW14 := hidp (HW13.out.keep hb)
      have HB14 := hidp (Bgo HB13.out hb)
      obtain ⟨w15, hw15⟩ : ∃ w15, w13.drewN j14 = w15 := ⟨_, rfl⟩
      rw [hw15] at HW14 HB14 ⊢
      clear hb hw15 HW13 HB13 HR13 HR14
      go_wp2_with fail
      refine (vVals_table _ HW14.out).mono ?_
      rintro e w16 ⟨rfl, hb⟩
      have HB16 := hidp (Bgo HB14.out hb)
      clear hb HW14 HB14
      go_wp2_with fail
      refine (live_c _).mono ?_
      rintro e w17 ⟨rfl, hb⟩
      have HB17 := hidp (Bgo HB16.out hb)
      clear hb HB16
      go_wp2
      go_ret
      exact ⟨rfl, HB17.out⟩

theorem ViewTouches_calls (A B C : Option Addr) (c d f : Nat) (vals : List Nat) (l : List PairV) (t : List TouchV) (hnc : vals.length ≤ c) (hcm : c ≤ maxLen) (hqd : l.length ≤ d) (hdm : d ≤ maxLen) (hmf : t.length ≤ f) (hfm : f ≤ maxLen) (h32 : ∀ x ∈ vals, x < 2 ^ 32) (hl : ∀ x ∈ l, x.Ok) (ht : ∀ x ∈ t, x.Ok)
    (W : World) (HR : Hid (Reads W W.heap.size 1 A vals.length (valVs vals))) (HPA : Hid (PairVs W B l)) (HA : Hid (TouchVs W C t)) :
    Calls Try.prog 3 #[.slice A vals.length c, .slice B l.length d, .slice C t.length f] W (Keeps W) := by
  by_cases hn : vals.length ≤ 300
  · by_cases hq : l.length ≤ 100
    · by_cases hm : t.length ≤ 100
      · exact ViewTouches_main A B C c d f _ _ _ vals l t (hidp rfl) (hidp rfl) (hidp rfl) (hidp h32) (hidp hl) (hidp ht) hn hq hm hnc hcm hqd hdm hmf hfm W HR HPA HA
      · exact ViewTouches_few3 A B C c d f _ _ _ hn hq (by omega) W
    · exact ViewTouches_few2 A B C c d f _ _ _ hn (by omega) W
  · exact ViewTouches_few1 A B C c d f _ _ _ (by omega) W
end Go.Proofs.Ytcfljejeceikbaa
