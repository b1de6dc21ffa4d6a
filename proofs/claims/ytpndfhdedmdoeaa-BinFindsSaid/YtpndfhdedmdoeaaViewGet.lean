/-
  Views: contracts of open, known, note, Get.
-/
import Derived.Test.YtpndfhdedmdoeaaView
import Derived.Test.YtpndfhdedmdoeaaRow
namespace Go.Proofs.Ytpndfhdedmdoeaa
open Go.ChangeShapes Go.WideShapes Go.ChangeAt Go.RowKit Go.Maps
set_option linter.unusedVariables false
set_option maxRecDepth 100000
set_option linter.unusedSimpArgs false

theorem vopen_c {base b n : Nat} {wh : Bool} {o : VGeo} {K : Nat → Option Nat} {s : Vst} (a : Int) (w : World) (h : IsView w base b n wh o K s) :
    Calls Try.prog 73 #[.pointer (some ⟨b, 0, none⟩), .int .i64 a] w fun e w' => e = .returned (.bool (opn n s a)) ∧ w' = w := by
  obtain ⟨c0, _, _, _, _, _, c6, _⟩ := h.cells
  have hn := h.nmax
  clear h
  cases hl : s.lost with
  | true =>
    have HV : Hid (opn n s a = false) := hidp (by unfold opn; simp [hl])
    rw [hl] at c6
    go_enter Try.func73, Try.ntmps73
    go_wp2
    go_ret
    exact ⟨by rw [HV.out]; rfl, rfl⟩
  | false =>
    rw [hl] at c6
    rcases Int.lt_or_le a 0 with h1 | h1
    · have HV : Hid (opn n s a = false) := hidp (by unfold opn; simp; omega)
      have t0 : decide ((0 : Int) ≤ a) = false := decide_eq_false (by omega)
      clear hl
      go_enter Try.func73, Try.ntmps73
      go_wp2
      go_ret
      exact ⟨by rw [HV.out]; rfl, rfl⟩
    · have t0 : decide ((0 : Int) ≤ a) = true := decide_eq_true h1
      rcases Int.lt_or_le a n with h2 | h2
      · have HV : Hid (opn n s a = true) := hidp (by unfold opn; simp [hl]; omega)
        have t1 : decide (a < (n : Int)) = true := decide_eq_true h2
        clear hl
        go_enter Try.func73, Try.ntmps73
        go_wp2
        go_ret
        exact ⟨by rw [HV.out]; rfl, rfl⟩
      · have HV : Hid (opn n s a = false) := hidp (by unfold opn; simp; omega)
        have t1 : decide (a < (n : Int)) = false := decide_eq_false (by omega)
        clear hl
        go_enter Try.func73, Try.ntmps73
        go_wp2
        go_ret
        exact ⟨by rw [HV.out]; rfl, rfl⟩

theorem listKnown_c (g n c i : Nat) (x : Int) (hi : i < n) (hn : n ≤ c) (hc : c ≤ maxLen) (w : World) (h : w.cell? ⟨g, i, none⟩ = some (.int .u32 x)) :
    Calls Try.prog 144 #[.slice (some ⟨g, 0, none⟩) n c, .int .i64 (i : Int)] w fun e w' => e = .returned (.tuple #[.int .u32 x, .bool true]) ∧ w' = w := by
  unfold maxLen at hc
  go_enter Try.func144, Try.ntmps144
  go_wp2
  go_ret2
  exact ⟨rfl, rfl⟩

theorem zeroU32 (w : World) : (zeroValue 62).run Try.prog w = .ok (.int .u32 0) w := by kernel_rfl
theorem zeroInt (w : World) : (zeroValue 3).run Try.prog w = .ok (.int .i64 0) w := by kernel_rfl
theorem zeroUnit (w : World) : (zeroValue 119).run Try.prog w = .ok (.agg #[]) w := by kernel_rfl

theorem vN_rd (s : Vst) (i : Nat) : ∀ j, j < 2 → updF (vN s) 0 (s.rd.length + 1) j = vN { s with rd := s.rd ++ [i] } j := fun j hj => by
  match j, hj with
  | 0, _ => simp [updF, vN]
  | 1, _ => simp [updF, vN]
theorem vX_rd (s : Vst) (i : Nat) : ∀ j, j < 2 → updF (vX s) 0 (ntVs s.rd ++ [Value.int .i64 (i : Int)]) j = vX { s with rd := s.rd ++ [i] } j := fun j hj => by
  match j, hj with
  | 0, _ => simp [updF, vX, ntVs]
  | 1, _ => simp [updF, vX]
theorem vHead_rd (n : Nat) (o : VGeo) (s : Vst) (u : Value) (i : Nat) : (vHead n o s).setIfInBounds 2 u = vHead n { o with v := updF o.v 0 u } { s with rd := s.rd ++ [i] } := rfl

theorem note_c {base b n : Nat} {wh : Bool} {o : VGeo} {K : Nat → Option Nat} {s : Vst} (i : Nat) (hi : i < n) (hlim : s.rd.length < 2 ^ 40) (w : World) (h : IsView w base b n wh o K s) :
    Calls Try.prog 79 #[.pointer (some ⟨b, 0, none⟩), .int .i64 (i : Int)] w fun e w' => e = .returned (.tuple #[]) ∧
      ∃ o' : VGeo, IsView w' base b n wh o' K (noteS s i) ∧ (∀ g, o'.A b g → o.A b g ∨ w.heap.size ≤ g) ∧ Turns (o.F b) w w' := by
  have hn := h.nmax
  have HH := hidp h
  obtain ⟨c0, c1, c2, c3, _, _, _, _⟩ := h.cells
  obtain ⟨k1, D1, k2, D2, e1, e2, e3, e4, hp⟩ := h.parts
  have hkey := kInt_of (c := (i : Int)) (wf_nat (by omega))
  have HP := hidp hp
  by_cases hm : i ∈ s.rd
  · have HM : Hid (Maps.has D1 (kInt (i : Int)) = true) := hidp (by rw [e3.has]; simp [hm])
    have HN := hidp (noteS_in hm)
    clear h hp hm e3 e4
    go_enter Try.func79, Try.ntmps79
    go_wp2_with (first
      | (at_lookup; refine wpList_lookup_own_unit _ rfl _ _ 80 rfl 3 119 intKey1 Try.underlying80 (zeroUnit _) o.m1 k1 D1 rfl HP.out.m1 _ _ rfl hkey ?_; rw [HM.out])
      | go_in)
    go_end0
    refine ⟨rfl, o, ?_, fun g hg => .inl hg, (T0 _ _).alloc _⟩
    rw [HN.out]
    exact HH.out.keep (Bnew (B0 _) _)
  · have HM : Hid (Maps.has D1 (kInt (i : Int)) = false) := hidp (by rw [e3.has]; simp [hm])
    have HN := hidp (noteS_new hm)
    have HS := hidp (e3.put i)
    have HE := hidp e4
    have HOK := hidp (h.ok.note (i := i) hi)
    have HP1 : Hid (VParts (w.alloc (.cells #[] 119)) base b n wh o (vHead n o s) (vN s) (vX s) k1 D1 k2 D2 K) := hidp (hp.keep (Bnew (B0 _) _))
    obtain ⟨i0, hin, hz0, hz1, hz2⟩ := info_parts intInfo
    have hbl := hp.head.lt
    clear h hp hm e3 e4
    go_enter Try.func79, Try.ntmps79
    go_wp2_with (first
      | (at_lookup; refine wpList_lookup_own_unit _ rfl _ _ 80 rfl 3 119 intKey1 Try.underlying80 (zeroUnit _) o.m1 k1 D1 rfl HP.out.m1 _ _ rfl hkey ?_; rw [HM.out])
      | (at_mapUpdate; refine wpList_mapUpdate_own _ rfl _ _ _ 80 rfl 3 119 intKey1 Try.underlying80 _ o.m1 k1 D1 rfl HP1.out.m1 (by unfold maxLen; omega) _ _ _ rfl rfl hkey _ [] unitElem_mk ?_
         intro w2 hown1 hgrow1
         obtain ⟨hp2, ht2⟩ := HP1.out.map1 hgrow1 hown1
         have c2' : w2.cell? ⟨b, 2, none⟩ = some (o.v 0) := hp2.head.cell 2
         have HP2 := hidp hp2
         have HT2 := hidp (((T0 (o.F b) w).alloc _).trans ht2)
         clear hp2 ht2 hown1 hgrow1)
      | (at_builtin
         refine wpList_append_lies _ rfl _ _ 40 rfl base 3 i0 (.int .i64 0) 1 8 Try.underlying40 hin hz0 hz1 hz2 rfl (by decide) (o.v 0) s.rd.length (ntVs s.rd) rfl ((HP2.out.own.own 0 (by omega)).alloc _) ⟨_, 0, none⟩ 1 1 [.int .i64 (i : Int)] rfl rfl ?c1 ?c2 (by omega) ?c3 ?c4 ?c5 _ rfl ?_
         case c1 => intro j y hy; rcases j with _ | j; (· simp at hy; subst hy; simp [Addr.add]); (· simp at hy)
         case c2 => simp [Value.oneCell']
         case c3 => unfold maxLen; omega
         case c4 => omega
         case c5 => have := HP2.out.bb; have := HP2.out.head.lt; simp; omega
         intro g cap w4 hown4 hgrow4 hat4 hlt4
         obtain ⟨hp4, hA4, hT4⟩ := (HP2.out.keep (Bnew (B0 _) _)).grow (i := 0) (by omega) hown4 hgrow4 (fun q hq => by
           have hq : g = q := by simpa [Value.ownBlock] using hq
           subst hq
           rcases hat4 with h1 | h1
           · exact .inl h1
           · right; rw [h1]; exact Nat.le_refl _)
         have c2'' : w4.cell? ⟨b, 2, none⟩ = some (o.v 0) := hp4.head.cell 2
         have f2 := hp4.head.thawed 2
         have HP4 := hidp hp4
         have HA4 := hidp hA4
         have HT4 := hidp (HT2.out.trans (((T0 (o.F b) w2).alloc _).trans hT4))
         clear hp4 hA4 hT4 hown4 hgrow4 hat4)
      | go_in)
    go_end0
    obtain ⟨hp5, ht5⟩ := HP4.out.setHead 2 (.slice (some ⟨g, 0, none⟩) (s.rd.length + 1) cap)
    refine ⟨rfl, { o with v := updF o.v 0 (.slice (some ⟨g, 0, none⟩) (s.rd.length + 1) cap) }, ?_, fun q hq => ?_, HT4.out.put (p := ⟨b, 2, none⟩) (.inl (.inl rfl)) _⟩
    · rw [HN.out] at HOK ⊢
      exact { parts := ⟨_, _, k2, D2, by simp; omega, e2, HS.out, HE.out, { hp5 with own := hp5.own.congr (vN_rd s i) (vX_rd s i) }⟩, ok := HOK.out, nmax := hn, k32 := HH.out.k32 }
    · rcases HA4.out q hq with h1 | h1
      · exact .inl h1
      · have h2 := HT2.out.size
        simp at h1
        exact .inr (by omega)

theorem IsView.wvm {w : World} {base b n : Nat} {wh : Bool} {o : VGeo} {K : Nat → Option Nat} {s : Vst} (h : IsView w base b n wh o K s) : ∃ k D, k ≤ s.wr.length ∧ w.ownsMap Try.prog 3 (plainElem Try.prog 3) o.m2 k D ∧ NumIs D .i64 (pos s.wr) := by
  obtain ⟨k1, D1, k2, D2, e1, e2, e3, e4, hp⟩ := h.parts
  exact ⟨k2, D2, e2, hp.m2, e4⟩
theorem IsView.wrow {w : World} {base b n : Nat} {wh : Bool} {o : VGeo} {K : Nat → Option Nat} {s : Vst} (h : IsView w base b n wh o K s) : w.ownsRow base 86 2 (o.v 1) s.wr.length (prVs s.wr) := by
  obtain ⟨k1, D1, k2, D2, e1, e2, e3, e4, hp⟩ := h.parts
  exact hp.own.own 1 (by omega)
theorem IsView.rrow {w : World} {base b n : Nat} {wh : Bool} {o : VGeo} {K : Nat → Option Nat} {s : Vst} (h : IsView w base b n wh o K s) : w.ownsRow base 3 1 (o.v 0) s.rd.length (ntVs s.rd) := by
  obtain ⟨k1, D1, k2, D2, e1, e2, e3, e4, hp⟩ := h.parts
  exact hp.own.own 0 (by omega)
theorem IsView.src {w : World} {base b n : Nat} {wh : Bool} {o : VGeo} {K : Nat → Option Nat} {s : Vst} (h : IsView w base b n wh o K s) : SrcIs w wh n o K := by
  obtain ⟨k1, D1, k2, D2, e1, e2, e3, e4, hp⟩ := h.parts
  exact hp.src
/-- what a call on a View leaves -/
def Left11 (w : World) (base b n : Nat) (wh : Bool) (o : VGeo) (K : Nat → Option Nat) (s : Vst) (w' : World) : Prop :=
  ∃ o' : VGeo, IsView w' base b n wh o' K s ∧ (∀ g, o'.A b g → o.A b g ∨ w.heap.size ≤ g) ∧ Turns (o.F b) w w'
theorem Left11.same {w : World} {base b n : Nat} {wh : Bool} {o : VGeo} {K : Nat → Option Nat} {s : Vst} (h : IsView w base b n wh o K s) : Left11 w base b n wh o K s w := ⟨o, h, fun g hg => .inl hg, T0 _ _⟩

theorem SrcIs.list {w : World} {n : Nat} {o : VGeo} {K : Nat → Option Nat} (h : SrcIs w true n o K) :
    ∃ A c, o.fv = .iface 60 (.slice A n c) ∧ n ≤ c ∧ c ≤ maxLen ∧ (∀ i, i < n → ∃ x, K i = some x ∧ x < 2 ^ 32) ∧ (0 < n → A = some ⟨o.sb, 0, none⟩ ∧ RowF w o.sb 62 n c (valF fun i => (K i).getD 0)) := h
theorem method_list (A : Option Addr) (n c : Nat) (w : World) : (method 269 60 (.slice A n c) "nacre/view.known").run Try.prog w = .ok (144, .slice A n c) w := by kernel_rfl
theorem Get_no {base b n : Nat} {wh : Bool} {o : VGeo} {K : Nat → Option Nat} {s : Vst} (a : Int) (ho : opn n s a = false) (w : World) (h : IsView w base b n wh o K s) :
    Calls Try.prog 53 #[.pointer (some ⟨b, 0, none⟩), .int .i64 a] w fun e w' => e = .returned (.int .u32 0) ∧ w' = w := by
  have HH := hidp h
  have HO := hidp ho
  clear h ho
  go_enter Try.func53, Try.ntmps53
  go_wp2_with fail
  refine (vopen_c a _ HH.out).mono ?_
  rintro e w1 ⟨rfl, rfl⟩
  rw [HO.out]
  go_wp2
  go_ret
  exact ⟨rfl, rfl⟩

theorem Get_put {base b n : Nat} {wh : Bool} {o : VGeo} {K : Nat → Option Nat} {s : Vst} (i k : Nat) (ho : opn n s (i : Int) = true) (hk : pos s.wr i = some k) (hi : i < n) (hlim : s.wr.length < 2 ^ 40) (w : World) (h : IsView w base b n wh o K s) :
    Calls Try.prog 53 #[.pointer (some ⟨b, 0, none⟩), .int .i64 (i : Int)] w fun e w' => e = .returned (.int .u32 ((atW s.wr k : Nat) : Int)) ∧ w' = w := by
  have hn := h.nmax
  have hkl := (pos_some hk).1
  obtain ⟨c0, c1, c2, c3, c4, c5, c6, c7⟩ := h.cells
  obtain ⟨kk, D, e1, hown, hD⟩ := h.wvm
  obtain ⟨g, cap, hv, _, _⟩ := h.wrow.form (by omega)
  have hr := h.wrow
  rw [hv] at hr c4
  have d0 : w.cell? ⟨g, k * 2 + 1, none⟩ = some (.int .u32 ((atW s.wr k : Nat) : Int)) := (hr.cellAt _ (by omega)).trans (prVs_at s.wr k hkl).2
  have hcap : s.wr.length ≤ cap ∧ cap ≤ maxLen := by
    rcases hr.2 with ⟨h1, _⟩ | ⟨g', cap', cur, h1, _, _, h2, h3, _⟩
    · cases h1
    · injection h1 with _ _ h1; subst h1; exact ⟨h2, h3⟩
  obtain ⟨hc1, hc2⟩ := hcap
  unfold maxLen at hc2
  have hkey := kInt_of (c := (i : Int)) (wf_nat (by omega))
  have HH := hidp h
  have HO := hidp ho
  have HM : Hid (Maps.has D (kInt (i : Int)) = true) := hidp (by rw [hD.has]; simp [hk])
  have HA : Hid (∀ c : Int, D.atKey (kInt (i : Int)) (.lit (.int .i64 0)) = .lit (.int .i64 c) → c = k) := hidp (fun c hc => by
    rw [hD.at_ i k hk] at hc
    injection hc with hc
    injection hc with _ hc
    exact hc.symm)
  have HW := hidp hown
  generalize atW s.wr k = x at *
  generalize s.wr.length = m at *
  clear h ho hk hr hv hD c1 c2 c3 hown
  go_enter Try.func53, Try.ntmps53
  go_wp2_with fail
  refine (vopen_c (i : Int) _ HH.out).mono ?_
  rintro e w1 ⟨rfl, rfl⟩
  rw [HO.out]
  go_wp2_with (first
    | (at_lookup; refine wpList_lookup_own_ok_int _ rfl _ _ 81 rfl 3 3 .i64 intKey1 Try.underlying81 Try.underlying3 (zeroInt _) o.m2 kk D rfl HW.out _ _ rfl hkey ?_
       intro c hat hwc
       obtain rfl : c = (k : Int) := HA.out c hat
       rw [HM.out]
       clear hat hwc)
    | go_in)
  go_ret
  exact ⟨rfl, rfl⟩

theorem Get_list {base b n : Nat} {o : VGeo} {K : Nat → Option Nat} {s : Vst} (i v : Nat) (ho : opn n s (i : Int) = true) (hk : pos s.wr i = none) (hi : i < n) (hv : K i = some v) (hlim : s.rd.length < 2 ^ 40) (w : World) (h : IsView w base b n true o K s) :
    Calls Try.prog 53 #[.pointer (some ⟨b, 0, none⟩), .int .i64 (i : Int)] w fun e w' => e = .returned (.int .u32 (v : Int)) ∧ Left11 w base b n true o K (noteS s i) w' := by
  have hn := h.nmax
  obtain ⟨c0, c1, c2, c3, c4, c5, c6, c7⟩ := h.cells
  obtain ⟨kk, D, e1, hown, hD⟩ := h.wvm
  obtain ⟨A, c, hf, hc1, hc2, _, hR⟩ := h.src.list
  obtain ⟨rfl, hR2⟩ := hR (by omega)
  have d0 : w.cell? ⟨o.sb, i, none⟩ = some (.int .u32 (v : Int)) := by
    rw [hR2.cell hi]
    show some (Value.int .u32 (((K i).getD 0 : Nat) : Int)) = _
    rw [hv]
    rfl
  rw [hf] at c1
  have hkey := kInt_of (c := (i : Int)) (wf_nat (by omega))
  have HH := hidp h
  have HO := hidp ho
  have HM : Hid (Maps.has D (kInt (i : Int)) = false) := hidp (by rw [hD.has]; simp [hk])
  have HW := hidp hown
  have HL := hidp hlim
  generalize o.sb = g at *
  clear h ho hk hv hD c2 c3 c4 hown hf hR hR2 hlim
  have hmt := method_list
  go_enter Try.func53, Try.ntmps53
  go_wp2_with fail
  refine (vopen_c (i : Int) _ HH.out).mono ?_
  rintro e w1 ⟨rfl, rfl⟩
  rw [HO.out]
  go_wp2_with (first
    | (at_lookup; refine wpList_lookup_own_ok_int _ rfl _ _ 81 rfl 3 3 .i64 intKey1 Try.underlying81 Try.underlying3 (zeroInt _) o.m2 kk D rfl HW.out _ _ rfl hkey ?_
       intro c hat hwc
       rw [HM.out]
       clear hat hwc)
    | fail)
  refine (listKnown_c g n _ i (v : Int) hi hc1 hc2 _ d0).mono ?_
  rintro e w2 ⟨rfl, rfl⟩
  go_wp2_with fail
  refine (note_c i hi HL.out _ HH.out).mono ?_
  rintro e w2 ⟨rfl, hL⟩
  go_wp2
  go_ret
  exact ⟨rfl, hL⟩

theorem VGet_c {base b n : Nat} {wh : Bool} {o : VGeo} {K : Nat → Option Nat} {s : Vst} (a : Int) (h1 : s.rd.length < 2 ^ 40) (h2 : s.wr.length < 2 ^ 40) (w : World) (h : IsView w base b n wh o K s) :
    Calls Try.prog 53 #[.pointer (some ⟨b, 0, none⟩), .int .i64 a] w fun e w' => e = .returned (.int .u32 ((getV n K s a : Nat) : Int)) ∧ Left11 w base b n wh o K (getS n K s a) w' := by
  by_cases ho : opn n s a = true
  · obtain ⟨i, rfl, hi, hl⟩ := opn_at ho
    cases hp : pos s.wr i with
    | some k =>
      rw [getV_put ho hp, getS_put ho hp]
      refine (Get_put i k ho hp hi h2 w h).mono ?_
      rintro e w1 ⟨rfl, rfl⟩
      exact ⟨rfl, Left11.same h⟩
    | none =>
      cases hk : K i with
      | some v =>
        rw [getV_known ho hp hk, getS_known ho hp hk]
        cases wh with
        | true => exact Get_list i v ho hp hi hk h1 w h
        | false => exact False.elim (h.src : SrcIs w false n o K)
      | none =>
        rw [getV_lost ho hp hk, getS_lost ho hp hk]
        cases wh with
        | true =>
          obtain ⟨A, c, _, _, _, h3, _⟩ := h.src.list
          obtain ⟨x, hx, _⟩ := h3 i hi
          rw [hx] at hk
          cases hk
        | false => exact False.elim (h.src : SrcIs w false n o K)
  · have ho : opn n s a = false := by simpa using ho
    rw [getV_no ho, getS_no ho]
    refine (Get_no a ho w h).mono ?_
    rintro e w1 ⟨rfl, rfl⟩
    exact ⟨rfl, Left11.same h⟩
end Go.Proofs.Ytpndfhdedmdoeaa
