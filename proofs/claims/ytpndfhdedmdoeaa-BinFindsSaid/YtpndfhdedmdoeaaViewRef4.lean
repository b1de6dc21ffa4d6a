/-
  The document's answer for Views: has, Get.
-/
import Derived.Test.YtpndfhdedmdoeaaViewRef3
import Derived.Test.YtpndfhdedmdoeaaViewVals
namespace Go.Proofs.Ytpndfhdedmdoeaa
open Go.ChangeShapes Go.WideShapes Go.ChangeAt Go.RowKit Go.Maps
set_option linter.unusedVariables false
set_option maxRecDepth 100000
set_option linter.unusedSimpArgs false

theorem has11_c (A : Option Addr) (c q : Nat) (l : List Nat) (hl : l.length = q) (hqc : q ≤ c) (hc : c ≤ maxLen) (i : Nat) (w : World) (hR : Reads w w.heap.size 1 A q (ntVs l)) :
    Calls Try.prog 80 #[.slice A q c, .int .i64 (i : Int)] w fun e w' => e = .returned (.bool (decide (i ∈ l))) ∧ w' = w := by
  have HR := hidp hR
  have HL := hidp hl
  have hc2 : c ≤ 9223372036854775807 := hc
  clear hR hl
  go_enter Try.func80, Try.ntmps80
  go_wp2_with fail
  go_loopw [5] (fun j wr => ∃ k : Nat, k ≤ q ∧ j = .int .i64 k ∧ Hid (i ∉ l.take k) ∧ wr = w) (fun j _ => q - (intOf j).toNat)
  case atStart => exact ⟨0, by omega, rfl, hidp (by simp), rfl⟩
  case round =>
    obtain ⟨k, hk, rfl, HN, rfl⟩ := hrel
    by_cases hlt : k < q
    · obtain ⟨x, hx⟩ : ∃ x, l[k]? = some x := ⟨_, List.getElem?_eq_getElem (by rw [HL.out]; exact hlt)⟩
      obtain ⟨ad, rfl, _, hcl⟩ := HR.out.2 (by omega)
      have x0 : wr.cell? (ad.add k) = some (.int .i64 (x : Int)) := hcl k _ (by unfold ntVs; rw [List.getElem?_map, hx]; rfl)
      have HT : Hid (l.take (k + 1) = l.take k ++ [x]) := hidp (by rw [List.take_add_one, hx]; rfl)
      clear hcl
      by_cases he : x = i
      · subst he
        have HV : Hid (decide (x ∈ l) = true) := hidp (decide_eq_true (List.mem_of_getElem? hx))
        clear hx
        go_wp2
        go_ret
        exact ⟨by rw [HV.out]; rfl, rfl⟩
      · have t0 : ((x : Int) == i) = false := by simp; omega
        have t1 : (x == i) = false := by simpa using he
        have HN2 : Hid (i ∉ l.take (k + 1)) := hidp (by
          rw [HT.out, List.mem_append]
          rintro (h | h)
          · exact HN.out h
          · simp at h; exact he h.symm)
        clear hx he
        go_wp2
        go_roundw
        case rel => exact ⟨k + 1, by omega, by go_num, HN2, by trivial⟩
        case measure => simp [intOf]; omega
    · obtain rfl : k = q := by omega
      have HV : Hid (decide (i ∈ l) = false) := hidp (decide_eq_false (by
        have := HN.out
        rwa [List.take_of_length_le (by have := HL.out; omega)] at this))
      go_wp2
      go_ret
      exact ⟨by rw [HV.out]; rfl, rfl⟩

theorem RGet_no {base b n : Nat} {all : Bool} {v : Nat → Value} {K : Nat → Option Nat} {s : Vst} (a : Int) (ho : opn n s a = false) (w : World) (h : IsRefV w base b n all v K s) :
    Calls Try.prog 56 #[.pointer (some ⟨b, 0, none⟩), .int .i64 a] w fun e w' => e = .returned (.int .u32 0) ∧ w' = w := by
  obtain ⟨c0, _, _, _, _, _, _, c7, _⟩ := h.cells
  clear h
  rcases Int.lt_or_le a 0 with h1 | h1
  · have t0 : decide (a < 0) = true := decide_eq_true h1
    go_enter Try.func56, Try.ntmps56
    go_wp2
    go_ret
    exact ⟨rfl, rfl⟩
  · have t0 : decide (a < 0) = false := decide_eq_false (by omega)
    rcases Int.lt_or_le a n with h2 | h2
    · have t1 : decide ((n : Int) ≤ a) = false := decide_eq_false (by omega)
      have hl : s.lost = true := by
        unfold opn at ho
        cases hh : s.lost with
        | true => rfl
        | false =>
          rw [hh, decide_eq_true (p := 0 ≤ a ∧ a < n) ⟨h1, h2⟩] at ho
          cases ho
      have hm : missI s = (s.miss : Int) := by unfold missI; rw [hl]; rfl
      rw [hm] at c7
      have t2 : decide ((0 : Int) ≤ (s.miss : Int)) = true := decide_eq_true (by omega)
      clear hm hl ho
      go_enter Try.func56, Try.ntmps56
      go_wp2
      go_ret
      exact ⟨rfl, rfl⟩
    · have t1 : decide ((n : Int) ≤ a) = true := decide_eq_true (by omega)
      go_enter Try.func56, Try.ntmps56
      go_wp2
      go_ret
      exact ⟨rfl, rfl⟩

theorem missI_no {s : Vst} (h : s.lost = false) : missI s = -1 := by unfold missI; rw [h]; rfl

theorem RGet_put {base b n : Nat} {all : Bool} {v : Nat → Value} {K : Nat → Option Nat} {s : Vst} (i k : Nat) (hl : s.lost = false) (hk : pos s.wr i = some k) (hi : i < n) (w : World) (h : IsRefV w base b n all v K s) :
    Calls Try.prog 56 #[.pointer (some ⟨b, 0, none⟩), .int .i64 (i : Int)] w fun e w' => e = .returned (.int .u32 ((atW s.wr k : Nat) : Int)) ∧ w' = w := by
  have hn := h.nmax
  obtain ⟨c0, _, _, c3, c4, _, _, c7, _⟩ := h.cells
  obtain ⟨g2, p2, hv2, hp2, hm2, hg2, hl2, hr2⟩ := h.row (i := 2) (by omega) (by omega)
  obtain ⟨g3, p3, hv3, hp3, hm3, hg3, hl3, hr3⟩ := h.row (i := 3) (by omega) (by omega)
  have d2 := (hr2 i hi).1.trans (rX_2 n K s hi)
  have d3 := (hr3 i hi).1.trans (rX_3 n K s hi)
  have hto : toV s.wr i = atW s.wr k := by unfold toV; rw [hk]
  rw [hk] at d2
  rw [hto] at d3
  rw [hv2] at c3
  rw [hv3] at c4
  rw [missI_no hl] at c7
  have t0 : decide ((i : Int) < 0) = false := decide_eq_false (by omega)
  have t1 : decide ((n : Int) ≤ i) = false := decide_eq_false (by omega)
  have t2 : decide (n ≤ i) = false := decide_eq_false (by omega)
  clear h hr2 hr3 hv2 hv3 hto hk hl
  go_enter Try.func56, Try.ntmps56
  go_wp2
  go_ret
  exact ⟨rfl, rfl⟩

theorem rN_rd (n : Nat) (s : Vst) (i : Nat) : ∀ j, j < 6 → updF (rN n s) 4 (s.rd.length + 1) j = rN n { s with rd := s.rd ++ [i] } j := six rfl rfl rfl rfl (by simp [updF, rN]) rfl
theorem rX_rd (n : Nat) (K : Nat → Option Nat) (s : Vst) (i : Nat) : ∀ j, j < 6 → updF (rX n K s) 4 (ntVs s.rd ++ [.int .i64 (i : Int)]) j = rX n K { s with rd := s.rd ++ [i] } j := six rfl rfl rfl rfl (by simp [updF, rX, ntVs]) rfl
theorem OwnAll.rowAt {w : World} {base b k : Nat} {e : Nat → TypeId} {sz : Nat → Nat} {v : Nat → Value} {n : Nat → Nat} {xs : Nat → List Value} (h : OwnAll w base b k e sz v n xs) {i : Nat} (hi : i < k) {T : TypeId} {z m : Nat} {ys : List Value} (h1 : e i = T) (h2 : sz i = z) (h3 : n i = m) (h4 : xs i = ys) : w.ownsRow base T z (v i) m ys := by
  subst h1 h2 h3 h4
  exact h.own i hi

theorem RGet_known {base b n : Nat} {all : Bool} {v : Nat → Value} {K : Nat → Option Nat} {s : Vst} (i x : Nat) (hl : s.lost = false) (hk : pos s.wr i = none) (hi : i < n) (hx : K i = some x) (hlim : s.rd.length < 2 ^ 40) (w : World) (h : IsRefV w base b n all v K s) :
    Calls Try.prog 56 #[.pointer (some ⟨b, 0, none⟩), .int .i64 (i : Int)] w fun e w' => e = .returned (.int .u32 (x : Int)) ∧ LeftR w base b n all v K (noteS s i) w' := by
  have hn := h.nmax
  obtain ⟨c0, c1, c2, c3, _, c5, _, c7, _⟩ := h.cells
  obtain ⟨g0, p0, hv0, hp0, hm0, hg0, hl0, hr0⟩ := h.row (i := 0) (by omega) (by omega)
  obtain ⟨g1, p1, hv1, hp1, hm1, hg1, hl1, hr1⟩ := h.row (i := 1) (by omega) (by omega)
  obtain ⟨g2, p2, hv2, hp2, hm2, hg2, hl2, hr2⟩ := h.row (i := 2) (by omega) (by omega)
  have d0 := (hr0 i hi).1.trans (rX_0 n K s hi)
  have d1 := (hr1 i hi).1.trans (rX_1 n K s hi)
  have d2 := (hr2 i hi).1.trans (rX_2 n K s hi)
  rw [hx] at d0 d1
  rw [hk] at d2
  rw [hv0] at c1
  rw [hv1] at c2
  rw [hv2] at c3
  rw [missI_no hl] at c7
  have HO : Hid (w.ownsRow base 3 1 (v 4) s.rd.length (ntVs s.rd)) := hidp (h.parts.own.rowAt (by omega) rfl rfl rfl rfl)
  obtain ⟨A, cr, hv4⟩ := own_slice HO.out
  rw [hv4] at c5
  obtain ⟨hqc, hcr⟩ := vown_caps (by have := HO.out; rwa [hv4] at this)
  have HRD : Hid (Reads w w.heap.size 1 A s.rd.length (ntVs s.rd)) := hidp (Reads.of_own (by have := HO.out; rwa [hv4] at this))
  obtain ⟨q, hq⟩ : ∃ q, s.rd.length = q := ⟨_, rfl⟩
  have HQ := hidp hq
  have HV4 := hidp hv4
  have HH := hidp h
  have HV1 := hidp hv1
  have hbl := h.parts.head.lt
  have t0 : decide ((i : Int) < 0) = false := decide_eq_false (by omega)
  have t1 : decide ((n : Int) ≤ i) = false := decide_eq_false (by omega)
  have t2 : decide (n ≤ i) = false := decide_eq_false (by omega)
  rw [hq] at c5 hqc HRD hlim
  have H01 : Hid (∀ w' : World, (∀ g, g = g1 ∨ g = b → w'.heap[g]? = w.heap[g]?) → w'.cell? ⟨g1, i, none⟩ = some (.int .u32 (x : Int)) ∧ w'.cell? ⟨b, 2, none⟩ = some (.slice (some ⟨g1, 0, none⟩) n p1)) := hidp (fun w' hw => ⟨(World.cell?_of_block (a := ⟨g1, i, none⟩) (hw g1 (.inl rfl))).trans d1, (World.cell?_of_block (a := ⟨b, 2, none⟩) (hw b (.inr rfl))).trans c2⟩)
  by_cases hm : i ∈ s.rd
  · have HM : Hid (decide (i ∈ s.rd) = true) := hidp (decide_eq_true hm)
    have HN := hidp (noteS_in hm)
    clear h hr0 hr1 hr2 hv0 hv1 hv2 hv4 hk hl hx hq hm
    go_enter Try.func56, Try.ntmps56
    go_wp2_with fail
    refine (has11_c A cr q s.rd HQ.out hqc hcr i _ HRD.out).mono ?_
    rintro e w1 ⟨rfl, rfl⟩
    rw [HM.out]
    go_wp2
    go_ret
    exact ⟨rfl, by rw [HN.out]; exact LeftR.same HH.out⟩
  · have HM : Hid (decide (i ∈ s.rd) = false) := hidp (decide_eq_false hm)
    have HN := hidp (noteS_new hm)
    have HOK := hidp (h.ok.note (i := i) hi)
    have H14 : Hid (∀ g, (v 4).ownBlock = some g → g ≠ g1) := hidp (fun g hg e => by
      have := h.parts.own.apart 1 4 g1 (by omega) (by omega) (by rw [hv1]; rfl) (by rw [hg, e])
      omega)
    obtain ⟨i0, hin, hz0, hz1, hz2⟩ := info_parts intInfo
    clear h hr0 hr1 hr2 hv0 hv1 hv2 hv4 hk hl hx hq hm
    go_enter Try.func56, Try.ntmps56
    go_wp2_with fail
    refine (has11_c A cr q s.rd HQ.out hqc hcr i _ HRD.out).mono ?_
    rintro e w1 ⟨rfl, rfl⟩
    rw [HM.out]
    go_wp2_with (first
      | (at_builtin
         refine wpList_append_lies _ rfl _ _ 40 rfl base 3 i0 (.int .i64 0) 1 8 Try.underlying40 hin hz0 hz1 hz2 rfl (by decide) (.slice A q cr) q (ntVs s.rd) rfl ?c0 ⟨_, 0, none⟩ 1 1 [.int .i64 (i : Int)] rfl rfl ?c1 ?c2 (by omega) ?c3 ?c4 ?c5 _ rfl ?_
         case c0 =>
           have h9 := HO.out.alloc (.cells #[.int .i64 (i : Int)] 3)
           rw [HV4.out, HQ.out] at h9
           rw [← HQ.out] at h9 ⊢
           exact h9
         case c1 => intro j y hy; rcases j with _ | j; (· simp at hy; subst hy; simp [Addr.add]); (· simp at hy)
         case c2 => simp [Value.oneCell']
         case c3 => unfold maxLen; omega
         case c4 => omega
         case c5 => have := HH.out.parts.bb; have := HH.out.parts.head.lt; simp; omega
         intro g cap w4 hown4 hgrow4 hat4 hlt4
         obtain ⟨hp4, hA4, hT4⟩ := (HH.out.parts.keep (Bnew (B0 w1) (.cells #[.int .i64 (i : Int)] 3))).grow (i := 4) (by omega) hown4 (by rw [HV4.out, HQ.out]; exact hgrow4) (fun q' hq' => by
           have hq' : g = q' := by simpa [Value.ownBlock] using hq'
           subst hq'
           rcases hat4 with h1 | h1
           · left; rw [HV4.out, HQ.out]; exact h1
           · right; rw [h1]; exact Nat.le_refl _)
         have c5' : w4.cell? ⟨b, 5, none⟩ = some (.slice A q cr) := (hp4.head.cell 5).trans (by rw [← HQ.out, ← HV4.out]; rfl)
         have f5 := hp4.head.thawed 5
         have y9 := H01.out w4 (fun z hz => by
           have hz1 : z < w1.heap.size := by rcases hz with rfl | rfl; exact hl1; exact hbl
           refine (hgrow4.block z (by simp; omega) (fun e => ?_)).trans ((Bnew (B0 w1) (.cells #[.int .i64 (i : Int)] 3)).block z hz1)
           have e : (v 4).ownBlock = some z := by rw [HV4.out, HQ.out]; exact e.symm
           rcases hz with rfl | rfl
           · exact H14.out _ e rfl
           · exact HH.out.parts.own.notb 4 (by omega) e)
         obtain ⟨y1, y2⟩ := y9
         have HP4 := hidp hp4
         have HA4 := hidp hA4
         have HT4 := hidp (((T0 (OwnF b 6 v) w1).alloc (.cells #[.int .i64 (i : Int)] 3)).trans hT4)
         clear hp4 hA4 hT4 hown4 hgrow4 hat4)
      | go_in)
    go_ret
    obtain ⟨hp5, _⟩ := HP4.out.setHead 5 (.slice (some ⟨g, 0, none⟩) (q + 1) cap)
    refine ⟨rfl, updF v 4 (.slice (some ⟨g, 0, none⟩) (q + 1) cap), ?_, fun z hz => ?_, HT4.out.put (p := ⟨b, 5, none⟩) (.inl rfl) _⟩
    · rw [HN.out] at HOK ⊢
      refine { parts := hp5.congr rfl ?_ (rX_rd n K s i), ok := HOK.out, nmax := hn, k32 := HH.out.k32 }
      rw [← HQ.out]
      exact rN_rd n s i
    · rcases HA4.out z hz with h1 | h1
      · exact .inl h1
      · simp at h1
        exact .inr (by omega)

theorem RGet_lost {base b n : Nat} {all : Bool} {v : Nat → Value} {K : Nat → Option Nat} {s : Vst} (i : Nat) (hl : s.lost = false) (hk : pos s.wr i = none) (hi : i < n) (hx : K i = none) (w : World) (h : IsRefV w base b n all v K s) :
    Calls Try.prog 56 #[.pointer (some ⟨b, 0, none⟩), .int .i64 (i : Int)] w fun e w' => e = .returned (.int .u32 0) ∧ LeftR w base b n all v K { s with lost := true, miss := i } w' := by
  have hn := h.nmax
  obtain ⟨c0, c1, _, c3, _, _, _, c7, _⟩ := h.cells
  obtain ⟨g0, p0, hv0, hp0, hm0, hg0, hl0, hr0⟩ := h.row (i := 0) (by omega) (by omega)
  obtain ⟨g2, p2, hv2, hp2, hm2, hg2, hl2, hr2⟩ := h.row (i := 2) (by omega) (by omega)
  have d0 := (hr0 i hi).1.trans (rX_0 n K s hi)
  have d2 := (hr2 i hi).1.trans (rX_2 n K s hi)
  rw [hx] at d0
  rw [hk] at d2
  rw [hv0] at c1
  rw [hv2] at c3
  rw [missI_no hl] at c7
  have f7 := h.parts.head.thawed 7
  have HH := hidp h
  have t0 : decide ((i : Int) < 0) = false := decide_eq_false (by omega)
  have t1 : decide ((n : Int) ≤ i) = false := decide_eq_false (by omega)
  have t2 : decide (n ≤ i) = false := decide_eq_false (by omega)
  clear h hr0 hr2 hv0 hv2 hk hl hx
  go_enter Try.func56, Try.ntmps56
  go_wp2
  go_ret
  obtain ⟨hp, ht⟩ := HH.out.parts.setHead 7 (.int .i64 (i : Int))
  exact ⟨rfl, v, { parts := hp.congr rfl (fun _ _ => rfl) (fun _ _ => rfl), ok := { HH.out.ok with mLt := fun _ => hi }, nmax := hn, k32 := HH.out.k32 }, fun g hg => .inl hg, ht⟩

theorem VRGet_c {base b n : Nat} {all : Bool} {v : Nat → Value} {K : Nat → Option Nat} {s : Vst} (a : Int) (h1 : s.rd.length < 2 ^ 40) (w : World) (h : IsRefV w base b n all v K s) :
    Calls Try.prog 56 #[.pointer (some ⟨b, 0, none⟩), .int .i64 a] w fun e w' => e = .returned (.int .u32 ((getV n K s a : Nat) : Int)) ∧ LeftR w base b n all v K (getS n K s a) w' := by
  by_cases ho : opn n s a = true
  · obtain ⟨i, rfl, hi, hl⟩ := opn_at ho
    cases hp : pos s.wr i with
    | some k =>
      rw [getV_put ho hp, getS_put ho hp]
      refine (RGet_put i k hl hp hi w h).mono ?_
      rintro e w1 ⟨rfl, rfl⟩
      exact ⟨rfl, LeftR.same h⟩
    | none =>
      cases hk : K i with
      | some x =>
        rw [getV_known ho hp hk, getS_known ho hp hk]
        exact RGet_known i x hl hp hi hk h1 w h
      | none =>
        rw [getV_lost ho hp hk, getS_lost ho hp hk]
        exact RGet_lost i hl hp hi hk w h
  · have ho : opn n s a = false := by simpa using ho
    rw [getV_no ho, getS_no ho]
    refine (RGet_no a ho w h).mono ?_
    rintro e w1 ⟨rfl, rfl⟩
    exact ⟨rfl, LeftR.same h⟩
end Go.Proofs.Ytpndfhdedmdoeaa
