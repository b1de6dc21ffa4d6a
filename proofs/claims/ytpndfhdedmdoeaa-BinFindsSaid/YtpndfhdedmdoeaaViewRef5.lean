/-
  The document's answer for Views: Put, Writes, Vals, Same. Written by view/gen_ref5.py.
-/
import Derived.Test.YtpndfhdedmdoeaaViewRef4
import Derived.Test.YtpndfhdedmdoeaaSame
import Derived.Deep.RegionHeld3
namespace Go.Proofs.Ytpndfhdedmdoeaa
open Go.ChangeShapes Go.WideShapes Go.ChangeAt Go.RowKit Go.Maps
set_option linter.unusedVariables false
set_option maxRecDepth 100000
set_option linter.unusedSimpArgs false

theorem RPut_no {base b n : Nat} {all : Bool} {v : Nat → Value} {K : Nat → Option Nat} {s : Vst} (a x : Int) (ho : opn n s a = false) (w : World) (h : IsRefV w base b n all v K s) :
    Calls Try.prog 41 #[.pointer (some ⟨b, 0, none⟩), .int .i64 a, .int .u32 x] w fun e w' => e = .returned (.tuple #[]) ∧ w' = w := by
  obtain ⟨c0, _, _, _, _, _, _, c7, _⟩ := h.cells
  clear h
  rcases Int.lt_or_le a 0 with h1 | h1
  · have t0 : decide (a < 0) = true := decide_eq_true h1
    go_enter Try.func41, Try.ntmps41
    go_wp2
    (try simp only [Exit.inBlock, Exit.then])
    refine bodyPost_ret (results_none rfl _ _ _) rfl ?_
    exact ⟨rfl, rfl⟩
  · have t0 : decide (a < 0) = false := decide_eq_false (by omega)
    rcases Int.lt_or_le a n with h2 | h2
    · have t1 : decide ((n : Int) ≤ a) = false := decide_eq_false (by omega)
      have hl : s.lost = true := by
        unfold opn at ho
        cases hh : s.lost with
        | true => rfl
        | false =>
          rw [hh, decide_eq_true (p := 0 ≤ a ∧ a < n) ⟨h1, h2⟩] at ho
          cases ho
      have hm : missI s = (s.miss : Int) := by unfold missI; rw [hl]; rfl
      rw [hm] at c7
      have t2 : decide ((0 : Int) ≤ (s.miss : Int)) = true := decide_eq_true (by omega)
      clear hm hl ho
      go_enter Try.func41, Try.ntmps41
      go_wp2
      (try simp only [Exit.inBlock, Exit.then])
      refine bodyPost_ret (results_none rfl _ _ _) rfl ?_
      exact ⟨rfl, rfl⟩
    · have t1 : decide ((n : Int) ≤ a) = true := decide_eq_true (by omega)
      go_enter Try.func41, Try.ntmps41
      go_wp2
      (try simp only [Exit.inBlock, Exit.then])
      refine bodyPost_ret (results_none rfl _ _ _) rfl ?_
      exact ⟨rfl, rfl⟩

theorem atW_set {l : List (Nat × Nat)} {k i v : Nat} (h : k < l.length) : atW (l.set k (i, v)) k = v := by unfold atW; simp [List.getD, h]
theorem atW_set_ne {l : List (Nat × Nat)} {k m : Nat} {p : Nat × Nat} (h : m ≠ k) : atW (l.set k p) m = atW l m := by unfold atW; simp [List.getD, List.getElem?_set_ne (Ne.symm h)]
theorem toV_putW (l : List (Nat × Nat)) (i v j : Nat) : toV (putW l i v) j = updF (toV l) i v j := by
  unfold toV updF
  rw [pos_putW]
  cases hp : pos l i with
  | some k =>
    rw [putW_some hp]
    simp only
    have hkl := (pos_some hp).1
    by_cases e : j = i
    · subst e
      rw [if_pos rfl, hp]
      exact atW_set hkl
    · rw [if_neg e]
      cases hj : pos l j with
      | none => rfl
      | some m =>
        have hne : m ≠ k := by
          rintro rfl
          exact e ((pos_some hj).2.symm.trans (pos_some hp).2)
        exact atW_set_ne hne
  | none =>
    rw [putW_none hp]
    simp only
    by_cases e : j = i
    · subst e
      rw [if_pos rfl, if_pos rfl]
      simp [atW, List.getD]
    · rw [if_neg e, if_neg e]
      cases hj : pos l j with
      | none => rfl
      | some m =>
        have := (pos_some hj).1
        simp [atW, List.getD, List.getElem?_append_left this]
theorem isPut_putW (l : List (Nat × Nat)) (i v j : Nat) : (pos (putW l i v) j).isSome = updF (fun j => (pos l j).isSome) i true j := by
  rw [pos_putW]
  unfold updF
  cases hp : pos l i with
  | some k =>
    simp only
    by_cases e : j = i
    · subst e; simp [hp]
    · simp [e]
  | none =>
    simp only
    by_cases e : j = i <;> simp [e]
theorem rX_put2 (n : Nat) (K : Nat → Option Nat) (s : Vst) (i v : Nat) : (rX n K s 2).set i (.bool true) = rX n K { s with wr := putW s.wr i v } 2 := by
  show (rowL n (bitF fun j => (pos s.wr j).isSome)).set i (.bool true) = rowL n (bitF fun j => (pos (putW s.wr i v) j).isSome)
  rw [rowL_set]
  refine rowL_congr (fun j _ => ?_)
  show updF (fun i => Value.bool (pos s.wr i).isSome) i (.bool true) j = Value.bool (pos (putW s.wr i v) j).isSome
  rw [isPut_putW]
  unfold updF
  by_cases e : j = i <;> simp [e]
theorem rX_put3 (n : Nat) (K : Nat → Option Nat) (s : Vst) (i v : Nat) : (rX n K s 3).set i (.int .u32 (v : Int)) = rX n K { s with wr := putW s.wr i v } 3 := by
  show (rowL n (valF (toV s.wr))).set i (.int .u32 (v : Int)) = rowL n (valF (toV (putW s.wr i v)))
  rw [rowL_set]
  refine rowL_congr (fun j _ => ?_)
  show updF (fun i => Value.int .u32 ((toV s.wr i : Nat) : Int)) i (.int .u32 (v : Int)) j = Value.int .u32 ((toV (putW s.wr i v) j : Nat) : Int)
  rw [toV_putW]
  unfold updF
  by_cases e : j = i <;> simp [e]
theorem put_cells {l : List (Nat × Nat)} {i v k : Nat} (h : pos l i = some k) : (putW l i v).map (·.1) = l.map (·.1) ∧ (putW l i v).length = l.length := by
  rw [putW_some h]
  refine ⟨?_, by simp⟩
  rw [List.map_set]
  have hk := pos_some h
  apply List.ext_getElem?
  intro j
  rw [List.getElem?_set]
  split
  · rename_i e
    subst e
    have h2 := hk.2
    unfold cellW at h2
    rw [if_pos (by simpa using hk.1), List.getElem?_map, List.getElem?_eq_getElem hk.1]
    rw [List.getD, List.getElem?_eq_getElem hk.1] at h2
    exact congrArg some h2.symm
  · rfl

theorem RPut_old {base b n : Nat} {all : Bool} {v : Nat → Value} {K : Nat → Option Nat} {s : Vst} (i k x : Nat) (hl : s.lost = false) (hk : pos s.wr i = some k) (hi : i < n) (hx : x < 2 ^ 32) (w : World) (h : IsRefV w base b n all v K s) :
    Calls Try.prog 41 #[.pointer (some ⟨b, 0, none⟩), .int .i64 (i : Int), .int .u32 (x : Int)] w fun e w' => e = .returned (.tuple #[]) ∧ LeftR w base b n all v K { s with wr := putW s.wr i x } w' := by
  have hn := h.nmax
  obtain ⟨c0, _, _, c3, c4, _, _, c7, _⟩ := h.cells
  obtain ⟨g2, p2, hv2, hp2, hm2, hg2, hl2, hr2⟩ := h.row (i := 2) (by omega) (by omega)
  obtain ⟨g3, p3, hv3, hp3, hm3, hg3, hl3, hr3⟩ := h.row (i := 3) (by omega) (by omega)
  have hg23 : g3 ≠ g2 := fun e => by
    have := h.parts.own.apart 2 3 g2 (by omega) (by omega) (by rw [hv2]; rfl) (by rw [hv3, e]; rfl)
    omega
  have d2 := (hr2 i hi).1.trans (rX_2 n K s hi)
  have d3 := (hr3 i hi).1.trans (rX_3 n K s hi)
  have f2 := (hr2 i hi).2
  have f3 := (hr3 i hi).2
  rw [hk] at d2
  rw [hv2] at c3
  rw [hv3] at c4
  rw [missI_no hl] at c7
  have HH := hidp h
  have HOK : Hid (VOk n { s with wr := putW s.wr i x }) := hidp (by
    have := h.ok.put (a := (i : Int)) hx
    rwa [putS_yes (opn_yes hi hl)] at this)
  have HV2 := hidp hv2
  have HV3 := hidp hv3
  have HPC := hidp (put_cells (v := x) hk)
  have t0 : decide ((i : Int) < 0) = false := decide_eq_false (by omega)
  have t1 : decide ((n : Int) ≤ i) = false := decide_eq_false (by omega)
  have t2 : decide (n ≤ i) = false := decide_eq_false (by omega)
  clear h hr2 hr3 hv2 hv3 hk hl
  generalize toV s.wr i = old at *
  go_enter Try.func41, Try.ntmps41
  go_wp2
  go_end0
  obtain ⟨hp5, ht5⟩ := HH.out.parts.store (i := 2) (g := g2) (cap := p2) (by omega) HV2.out i (.bool true)
  obtain ⟨hp6, ht6⟩ := hp5.store (i := 3) (g := g3) (cap := p3) (by omega) HV3.out i (.int .u32 (x : Int))
  refine ⟨rfl, v, { parts := hp6.congr rfl (six rfl rfl rfl rfl rfl HPC.out.2.symm) (six rfl rfl (rX_put2 n K s i x) (rX_put3 n K s i x) rfl ?_), ok := HOK.out, nmax := hn, k32 := HH.out.k32 }, fun g hg => .inl hg, ht5.trans ht6⟩
  show ntVs (s.wr.map (·.1)) = ntVs ((putW s.wr i x).map (·.1))
  rw [HPC.out.1]

theorem RPut_new {base b n : Nat} {all : Bool} {v : Nat → Value} {K : Nat → Option Nat} {s : Vst} (i x : Nat) (hl : s.lost = false) (hk : pos s.wr i = none) (hi : i < n) (hx : x < 2 ^ 32) (hlim : s.wr.length < 2 ^ 40) (w : World) (h : IsRefV w base b n all v K s) :
    Calls Try.prog 41 #[.pointer (some ⟨b, 0, none⟩), .int .i64 (i : Int), .int .u32 (x : Int)] w fun e w' => e = .returned (.tuple #[]) ∧ LeftR w base b n all v K { s with wr := putW s.wr i x } w' := by
  have hn := h.nmax
  obtain ⟨c0, _, _, c3, c4, _, c6, c7, _⟩ := h.cells
  obtain ⟨g2, p2, hv2, hp2, hm2, hg2, hl2, hr2⟩ := h.row (i := 2) (by omega) (by omega)
  obtain ⟨g3, p3, hv3, hp3, hm3, hg3, hl3, hr3⟩ := h.row (i := 3) (by omega) (by omega)
  have hg23 : g3 ≠ g2 := fun e => by
    have := h.parts.own.apart 2 3 g2 (by omega) (by omega) (by rw [hv2]; rfl) (by rw [hv3, e]; rfl)
    omega
  have d2 := (hr2 i hi).1.trans (rX_2 n K s hi)
  rw [hk] at d2
  rw [hv2] at c3
  rw [hv3] at c4
  rw [missI_no hl] at c7
  have HO : Hid (w.ownsRow base 3 1 (v 5) s.wr.length (ntVs (s.wr.map (·.1)))) := hidp (h.parts.own.rowAt (by omega) rfl rfl rfl rfl)
  obtain ⟨A, cr, hv5⟩ := own_slice HO.out
  rw [hv5] at c6
  obtain ⟨q, hq⟩ : ∃ q, s.wr.length = q := ⟨_, rfl⟩
  have HQ := hidp hq
  have HV5 := hidp hv5
  have HH := hidp h
  have HV2 := hidp hv2
  have HV3 := hidp hv3
  have hbl := h.parts.head.lt
  have HOK : Hid (VOk n { s with wr := putW s.wr i x }) := hidp (by
    have := h.ok.put (a := (i : Int)) hx
    rwa [putS_yes (opn_yes hi hl)] at this)
  have HPW := hidp (putW_none (v := x) hk)
  have t0 : decide ((i : Int) < 0) = false := decide_eq_false (by omega)
  have t1 : decide ((n : Int) ≤ i) = false := decide_eq_false (by omega)
  have t2 : decide (n ≤ i) = false := decide_eq_false (by omega)
  obtain ⟨i0, hin, hz0, hz1, hz2⟩ := info_parts intInfo
  rw [hq] at c6 hlim
  clear h hr2 hr3 hv2 hv3 hk hl hv5 hq
  go_enter Try.func41, Try.ntmps41
  go_wp2_with (first
    | (at_builtin
       refine wpList_append_lies _ rfl _ _ 40 rfl base 3 i0 (.int .i64 0) 1 8 Try.underlying40 hin hz0 hz1 hz2 rfl (by decide) (.slice A q cr) q (ntVs (s.wr.map (·.1))) rfl ?c0 ⟨_, 0, none⟩ 1 1 [.int .i64 (i : Int)] rfl rfl ?c1 ?c2 (by omega) ?c3 ?c4 ?c5 _ rfl ?_
       case c0 =>
         have h9 := HO.out.alloc (.cells #[.int .i64 (i : Int)] 3)
         rw [HV5.out, HQ.out] at h9
         rw [← HQ.out] at h9 ⊢
         exact h9
       case c1 => intro j y hy; rcases j with _ | j; (· simp at hy; subst hy; simp [Addr.add]); (· simp at hy)
       case c2 => simp [Value.oneCell']
       case c3 => unfold maxLen; omega
       case c4 => omega
       case c5 => have := HH.out.parts.bb; have := HH.out.parts.head.lt; simp; omega
       intro g cap w4 hown4 hgrow4 hat4 hlt4
       obtain ⟨hp4, hA4, hT4⟩ := (HH.out.parts.keep (Bnew (B0 w) (.cells #[.int .i64 (i : Int)] 3))).grow (i := 5) (by omega) hown4 (by rw [HV5.out, HQ.out]; exact hgrow4) (fun q' hq' => by
         have hq' : g = q' := by simpa [Value.ownBlock] using hq'
         subst hq'
         rcases hat4 with h1 | h1
         · left; rw [HV5.out, HQ.out]; exact h1
         · right; rw [h1]; exact Nat.le_refl _)
       have e3 : w4.cell? ⟨b, 3, none⟩ = some (.slice (some ⟨g2, 0, none⟩) n p2) := (hp4.head.cell 3).trans (by rw [← HV2.out]; rfl)
       have e4 : w4.cell? ⟨b, 4, none⟩ = some (.slice (some ⟨g3, 0, none⟩) n p3) := (hp4.head.cell 4).trans (by rw [← HV3.out]; rfl)
       have e6 : w4.cell? ⟨b, 6, none⟩ = some (.slice A q cr) := (hp4.head.cell 6).trans (by rw [← HQ.out, ← HV5.out]; rfl)
       have f6 := hp4.head.thawed 6
       obtain ⟨d5, f5⟩ := hp4.at_ (i := 2) (g := g2) (cap := p2) (by omega) HV2.out (show i < n from hi)
       obtain ⟨d7, f7⟩ := hp4.at_ (i := 3) (g := g3) (cap := p3) (by omega) HV3.out (show i < n from hi)
       have d5' : w4.cell? ⟨g2, i, none⟩ = some (.bool (pos s.wr i).isSome) := d5.trans (rX_2 n K s hi)
       have d7' : w4.cell? ⟨g3, i, none⟩ = some (.int .u32 ((toV s.wr i : Nat) : Int)) := d7.trans (rX_3 n K s hi)
       have HP4 := hidp hp4
       have HA4 := hidp hA4
       have HT4 := hidp (((T0 (OwnF b 6 v) w).alloc (.cells #[.int .i64 (i : Int)] 3)).trans hT4)
       clear hp4 hA4 hT4 hown4 hgrow4 hat4 d5 d7)
    | go_in)
  go_end0
  obtain ⟨hp5, _⟩ := HP4.out.setHead 6 (.slice (some ⟨g, 0, none⟩) (q + 1) cap)
  obtain ⟨hp6, _⟩ := hp5.store (i := 2) (g := g2) (cap := p2) (by omega) HV2.out i (.bool true)
  obtain ⟨hp7, _⟩ := hp6.store (i := 3) (g := g3) (cap := p3) (by omega) HV3.out i (.int .u32 (x : Int))
  refine ⟨rfl, updF v 5 (.slice (some ⟨g, 0, none⟩) (q + 1) cap), { parts := hp7.congr rfl (six rfl rfl rfl rfl rfl ?_) (six rfl rfl (rX_put2 n K s i x) (rX_put3 n K s i x) rfl ?_), ok := HOK.out, nmax := hn, k32 := HH.out.k32 }, fun z hz => ?_,
    ((HT4.out.put (p := ⟨b, 6, none⟩) (.inl rfl) _).put (p := ⟨g2, i, none⟩) (.inr ⟨2, by omega, by rw [HV2.out]; rfl⟩) _).put (p := ⟨g3, i, none⟩) (.inr ⟨3, by omega, by rw [HV3.out]; rfl⟩) _⟩
  · show q + 1 = (putW s.wr i x).length
    rw [HPW.out, ← HQ.out]
    simp
  · show ntVs (s.wr.map (·.1)) ++ [.int .i64 (i : Int)] = ntVs ((putW s.wr i x).map (·.1))
    rw [HPW.out]
    simp [ntVs]
  · rcases HA4.out z hz with h1 | h1
    · exact .inl h1
    · simp at h1
      exact .inr (by omega)

theorem VRPut_c {base b n : Nat} {all : Bool} {v : Nat → Value} {K : Nat → Option Nat} {s : Vst} (a : Int) (x : Nat) (hx : x < 2 ^ 32) (h1 : s.wr.length < 2 ^ 40) (w : World) (h : IsRefV w base b n all v K s) :
    Calls Try.prog 41 #[.pointer (some ⟨b, 0, none⟩), .int .i64 a, .int .u32 (x : Int)] w fun e w' => e = .returned (.tuple #[]) ∧ LeftR w base b n all v K (putS n s a x) w' := by
  by_cases ho : opn n s a = true
  · obtain ⟨i, rfl, hi, hl⟩ := opn_at ho
    rw [putS_yes ho]
    cases hp : pos s.wr i with
    | some k => exact RPut_old i k x hl hp hi hx w h
    | none => exact RPut_new i x hl hp hi hx h1 w h
  · have ho : opn n s a = false := by simpa using ho
    rw [putS_no ho]
    refine (RPut_no a _ ho w h).mono ?_
    rintro e w1 ⟨rfl, rfl⟩
    exact ⟨rfl, LeftR.same h⟩
end Go.Proofs.Ytpndfhdedmdoeaa
