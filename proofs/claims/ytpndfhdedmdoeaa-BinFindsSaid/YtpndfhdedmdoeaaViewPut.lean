/-
  Views: contract of Put.
-/
import Derived.Test.YtpndfhdedmdoeaaViewGet
import Derived.Test.YtpndfhdedmdoeaaClones
namespace Go.Proofs.Ytpndfhdedmdoeaa
open Go.ChangeShapes Go.WideShapes Go.ChangeAt Go.RowKit Go.Maps
set_option linter.unusedVariables false
set_option maxRecDepth 100000
set_option linter.unusedSimpArgs false


theorem Put_no {base b n : Nat} {wh : Bool} {o : VGeo} {K : Nat → Option Nat} {s : Vst} (a : Int) (v : Int) (ho : opn n s a = false) (w : World) (h : IsView w base b n wh o K s) :
    Calls Try.prog 37 #[.pointer (some ⟨b, 0, none⟩), .int .i64 a, .int .u32 v] w fun e w' => e = .returned (.tuple #[]) ∧ w' = w := by
  have HH := hidp h
  have HO := hidp ho
  clear h ho
  go_enter Try.func37, Try.ntmps37
  go_wp2_with fail
  refine (vopen_c a _ HH.out).mono ?_
  rintro e w1 ⟨rfl, rfl⟩
  rw [HO.out]
  go_wp2
  (try simp only [Exit.inBlock, Exit.then])
  refine bodyPost_ret (results_none rfl _ _ _) rfl ?_
  exact ⟨rfl, rfl⟩

theorem vX_set {s : Vst} {k v i : Nat} (hk : k < s.wr.length) (hc : cellW s.wr k = i) : ∀ j, j < 2 → updF (vX s) 1 ((vX s 1).set (k * 2 + 1) (.int .u32 (v : Int))) j = vX { s with wr := s.wr.set k (i, v) } j := fun j hj => by
  match j, hj with
  | 0, _ => simp [updF, vX]
  | 1, _ =>
    rw [updF_same]
    show (prVs s.wr).set (k * 2 + 1) (.int .u32 (v : Int)) = prVs (s.wr.set k (i, v))
    rw [prVs_set _ _ _ hk, hc]
theorem vN_set {s : Vst} {k v i : Nat} : ∀ j, j < 2 → vN s j = vN { s with wr := s.wr.set k (i, v) } j := fun j hj => by
  match j, hj with
  | 0, _ => simp [vN]
  | 1, _ => simp [vN]

theorem Put_old {base b n : Nat} {wh : Bool} {o : VGeo} {K : Nat → Option Nat} {s : Vst} (i k v : Nat) (ho : opn n s (i : Int) = true) (hk : pos s.wr i = some k) (hi : i < n) (hv32 : v < 2 ^ 32) (hlim : s.wr.length < 2 ^ 40) (w : World) (h : IsView w base b n wh o K s) :
    Calls Try.prog 37 #[.pointer (some ⟨b, 0, none⟩), .int .i64 (i : Int), .int .u32 (v : Int)] w fun e w' => e = .returned (.tuple #[]) ∧ Left11 w base b n wh o K (putS n s (i : Int) v) w' := by
  have hn := h.nmax
  have hkl := (pos_some hk).1
  obtain ⟨c0, c1, c2, c3, c4, c5, c6, c7⟩ := h.cells
  obtain ⟨kk, D, e1, hown, hD⟩ := h.wvm
  obtain ⟨g, cap, hv, _, _⟩ := h.wrow.form (by omega)
  have hr := h.wrow
  rw [hv] at hr c4
  have d0 : w.cell? ⟨g, k * 2 + 1, none⟩ = some (.int .u32 ((atW s.wr k : Nat) : Int)) := (hr.cellAt _ (by omega)).trans (prVs_at s.wr k hkl).2
  have f0 := hr.frozenAt (k * 2 + 1)
  have hcap : s.wr.length ≤ cap ∧ cap ≤ maxLen := by
    rcases hr.2 with ⟨h1, _⟩ | ⟨g', cap', cur, h1, _, _, h2, h3, _⟩
    · cases h1
    · injection h1 with _ _ h1; subst h1; exact ⟨h2, h3⟩
  obtain ⟨hc1, hc2⟩ := hcap
  unfold maxLen at hc2
  have hkey := kInt_of (c := (i : Int)) (wf_nat (by omega))
  have HH := hidp h
  have HO := hidp ho
  have HK := hidp hk
  have HV := hidp hv
  have HV32 := hidp hv32
  have HM : Hid (Maps.has D (kInt (i : Int)) = true) := hidp (by rw [hD.has]; simp [hk])
  have HA : Hid (∀ c : Int, D.atKey (kInt (i : Int)) (.lit (.int .i64 0)) = .lit (.int .i64 c) → c = k) := hidp (fun c hc => by
    rw [hD.at_ i k hk] at hc
    injection hc with hc
    injection hc with _ hc
    exact hc.symm)
  have HW := hidp hown
  generalize atW s.wr k = x at *
  obtain ⟨m, hm⟩ : ∃ m, s.wr.length = m := ⟨_, rfl⟩
  have HMM := hidp hm
  rw [hm] at c4 hkl hlim hc1
  clear h ho hk hr hv hD c1 c2 c3 hown hm hv32 e1
  go_enter Try.func37, Try.ntmps37
  go_wp2_with fail
  refine (vopen_c (i : Int) _ HH.out).mono ?_
  rintro e w1 ⟨rfl, rfl⟩
  rw [HO.out]
  go_wp2_with (first
    | (at_lookup; refine wpList_lookup_own_ok_int _ rfl _ _ 81 rfl 3 3 .i64 intKey1 Try.underlying81 Try.underlying3 (zeroInt _) o.m2 kk D rfl HW.out _ _ rfl hkey ?_
       intro c hat hwc
       obtain rfl : c = (k : Int) := HA.out c hat
       rw [HM.out]
       clear hat hwc)
    | go_in)
  go_end0
  obtain ⟨k1, D1, k2, D2, e1, e2, e3, e4, hp⟩ := HH.out.parts
  have hkl' : k < s.wr.length := by rw [HMM.out]; exact hkl
  obtain ⟨hp1, ht1⟩ := hp.store (i := 1) (g := g) (cap := cap) (by omega) HV.out (k * 2 + 1) (.int .u32 (v : Int))
  have hok := HH.out.ok.put (a := (i : Int)) HV32.out
  rw [putS_yes HO.out, putW_some HK.out] at hok ⊢
  exact ⟨rfl, o, { parts := ⟨k1, D1, k2, D2, e1, by simp; omega, e3, e4.congr (fun j => by
                     have := pos_set s.wr k v j
                     rw [(pos_some HK.out).2] at this
                     exact this.symm), { hp1 with own := hp1.own.congr vN_set (vX_set hkl' (pos_some HK.out).2) }⟩, ok := hok, nmax := hn, k32 := HH.out.k32 }, fun g hg => .inl hg, ht1⟩

theorem vN_new (s : Vst) (i v : Nat) : ∀ j, j < 2 → updF (vN s) 1 (s.wr.length + 1) j = vN { s with wr := s.wr ++ [(i, v)] } j := fun j hj => by
  match j, hj with
  | 0, _ => simp [updF, vN]
  | 1, _ => simp [updF, vN]
theorem vX_new (s : Vst) (i v : Nat) : ∀ j, j < 2 → updF (updF (vX s) 1 (prVs s.wr ++ [Value.int .i64 (i : Int), Value.int .u32 0])) 1 ((updF (vX s) 1 (prVs s.wr ++ [Value.int .i64 (i : Int), Value.int .u32 0]) 1).set (s.wr.length * 2 + 1) (.int .u32 (v : Int))) j = vX { s with wr := s.wr ++ [(i, v)] } j := fun j hj => by
  match j, hj with
  | 0, _ => simp [updF, vX]
  | 1, _ =>
    rw [updF_same, updF_same]
    show (prVs s.wr ++ [Value.int .i64 (i : Int), Value.int .u32 0]).set (s.wr.length * 2 + 1) (.int .u32 (v : Int)) = prVs (s.wr ++ [(i, v)])
    have hl := prVs_len s.wr
    rw [prVs_snoc, List.set_append_right _ _ (by omega), hl]
    simp

theorem Put_new {base b n : Nat} {wh : Bool} {o : VGeo} {K : Nat → Option Nat} {s : Vst} (i v : Nat) (ho : opn n s (i : Int) = true) (hk : pos s.wr i = none) (hi : i < n) (hv32 : v < 2 ^ 32) (hlim : s.wr.length < 2 ^ 40) (w : World) (h : IsView w base b n wh o K s) :
    Calls Try.prog 37 #[.pointer (some ⟨b, 0, none⟩), .int .i64 (i : Int), .int .u32 (v : Int)] w fun e w' => e = .returned (.tuple #[]) ∧ Left11 w base b n wh o K (putS n s (i : Int) v) w' := by
  have hn := h.nmax
  obtain ⟨c0, c1, c2, c3, c4, c5, c6, c7⟩ := h.cells
  obtain ⟨k1, D1, kk, D, e1, e2, e3, hD, hp⟩ := h.parts
  obtain ⟨A, cap, hv⟩ := own_slice h.wrow
  rw [hv] at c4
  obtain ⟨i0, hin, hz0, hz1, hz2⟩ := info_parts pairInfo
  have hkey := kInt_of (c := (i : Int)) (wf_nat (by omega))
  have HH := hidp h
  have HO := hidp ho
  have HK := hidp hk
  have HV := hidp hv
  have HV32 := hidp hv32
  have HM : Hid (Maps.has D (kInt (i : Int)) = false) := hidp (by rw [hD.has]; simp [hk])
  have HP := hidp hp
  have HD := hidp (hD.put i s.wr.length)
  have HS := hidp e3
  have HE1 := hidp e1
  have hbl := hp.head.lt
  obtain ⟨m, hm⟩ : ∃ m, s.wr.length = m := ⟨_, rfl⟩
  have HMM := hidp hm
  rw [hm] at c4 hlim HD e2
  clear h ho hk hv hD c1 c2 c3 hp hm hv32 e1 e3
  go_enter Try.func37, Try.ntmps37
  go_wp2_with fail
  refine (vopen_c (i : Int) _ HH.out).mono ?_
  rintro e w1 ⟨rfl, rfl⟩
  rw [HO.out]
  go_wp2_with (first
    | (at_lookup; refine wpList_lookup_own_ok_int _ rfl _ _ 81 rfl 3 3 .i64 intKey1 Try.underlying81 Try.underlying3 (zeroInt _) o.m2 kk D rfl HP.out.m2 _ _ rfl hkey ?_
       intro c hat hwc
       rw [HM.out]
       clear hat hwc)
    | (at_mapUpdate; refine wpList_mapUpdate_own _ rfl _ _ _ 81 rfl 3 3 intKey1 Try.underlying81 _ o.m2 kk D rfl HP.out.m2 (by unfold maxLen; omega) _ _ _ rfl rfl hkey _ [] (plainElem_int Try.underlying3 (wf_nat (by omega))) ?_
       intro w2 hown1 hgrow1
       obtain ⟨hp2, ht2⟩ := HP.out.map2 hgrow1 hown1
       have c4' : w2.cell? ⟨b, 4, none⟩ = some (.slice A m cap) := (hp2.head.cell 4).trans (by rw [← HMM.out, ← HV.out]; rfl)
       have HP2 := hidp hp2
       have HT2 := hidp ht2
       have hbl2 := hp2.head.lt
       clear hp2 ht2 hown1 hgrow1)
    | (at_builtin
       refine wpList_append_lies _ rfl _ _ 42 rfl base 86 i0 (.agg #[.int .i64 0, .int .u32 0]) 2 16 Try.underlying42 hin hz0 hz1 hz2 rfl (by decide) (.slice A m cap) m (prVs s.wr) rfl ?c0 ⟨_, 0, none⟩ 1 1 [.int .i64 (i : Int), .int .u32 0] rfl rfl ?c1 ?c2 (by omega) ?c3 ?c4 ?c5 _ rfl ?_
       case c0 =>
         have := HP2.out.own.own 1 (by omega)
         rw [HV.out] at this
         have := this.alloc (.cells #[.int .i64 (i : Int), .int .u32 0] 86)
         rw [← HMM.out]
         exact this
       case c1 => intro j y hy; rcases j with _ | _ | j; (· simp at hy; subst hy; simp [Addr.add]); (· simp at hy; subst hy; simp [Addr.add]); (· simp at hy)
       case c2 => simp [Value.oneCell']
       case c3 => unfold maxLen; omega
       case c4 => omega
       case c5 => have := HP2.out.bb; have := HP2.out.head.lt; simp; omega
       intro g cap w4 hown4 hgrow4 hat4 hlt4
       obtain ⟨hp4, hA4, hT4⟩ := (HP2.out.keep (Bnew (B0 _) (.cells #[.int .i64 (i : Int), .int .u32 0] 86))).grow (i := 1) (by omega) hown4 (by rw [HV.out, HMM.out]; exact hgrow4) (fun q hq => by
         have hq : g = q := by simpa [Value.ownBlock] using hq
         subst hq
         rcases hat4 with h1 | h1
         · left; rw [HV.out, HMM.out]; exact h1
         · right; rw [h1]; exact Nat.le_refl _)
       have c4'' : w4.cell? ⟨b, 4, none⟩ = some (.slice A m _) := (hp4.head.cell 4).trans (by rw [← HMM.out, ← HV.out]; rfl)
       have f4 := hp4.head.thawed 4
       have d4 : w4.cell? ⟨g, m * 2 + 1, none⟩ = some (.int .u32 0) := (hown4.cellAt _ (by omega)).trans (by
         rw [List.getElem?_append_right (by rw [prVs_len, HMM.out]; omega), prVs_len, HMM.out]
         simp)
       have f5 := hown4.frozenAt (m * 2 + 1)
       have hgb : ¬ g = b := fun e => hp4.own.notb 1 (by omega) (by rw [e]; rfl)
       have hbg : ¬ b = g := fun e => hgb e.symm
       have HG : Hid (o.F b g ∨ w1.heap.size ≤ g) := hidp (by
         rcases hat4 with h1 | h1
         · left; exact .inl (.inr ⟨1, by omega, by rw [HV.out, HMM.out]; exact h1⟩)
         · right; have := HT2.out.size; simp at h1; omega)
       have HP4 := hidp hp4
       have HA4 := hidp hA4
       have HT4 := hidp (HT2.out.trans (((T0 (o.F b) w2).alloc (.cells #[.int .i64 (i : Int), .int .u32 0] 86)).trans hT4))
       clear hp4 hA4 hT4 hown4 hgrow4 hat4)
    | go_in)
  go_end0
  obtain ⟨hp5, ht5⟩ := HP4.out.setHead 4 (.slice (some ⟨g, 0, none⟩) (m + 1) cap)
  obtain ⟨hp6, ht6⟩ := hp5.store (i := 1) (g := g) (cap := cap) (by omega) rfl (m * 2 + 1) (.int .u32 (v : Int))
  have hok := HH.out.ok.put (a := (i : Int)) HV32.out
  rw [putS_yes HO.out, putW_none HK.out] at hok ⊢
  have hT5 := HT4.out.put (p := ⟨b, 4, none⟩) (.inl (.inl rfl)) (.slice (some ⟨g, 0, none⟩) (m + 1) cap)
  refine ⟨rfl, { o with v := updF o.v 1 (.slice (some ⟨g, 0, none⟩) (m + 1) cap) }, { parts := ⟨k1, D1, kk + 1, _, HE1.out, by simp; have := HMM.out; omega, HS.out, HD.out.congr (fun j => ?_), { hp6 with own := hp6.own.congr ?_ ?_ }⟩, ok := hok, nmax := hn, k32 := HH.out.k32 }, fun q hq => ?_, ?_⟩
  · have := pos_snoc v HK.out j
    rw [HMM.out] at this
    rw [this]
    unfold updF
    split <;> rfl
  · rw [← HMM.out]
    exact vN_new s i v
  · rw [← HMM.out]
    exact vX_new s i v
  · rcases HA4.out q hq with h1 | h1
    · exact .inl h1
    · have h2 := HT2.out.size
      simp at h1
      exact .inr (by omega)
  · rcases HG.out with h1 | h1
    · exact hT5.put (p := ⟨g, m * 2 + 1, none⟩) h1 _
    · exact hT5.put_new (p := ⟨g, m * 2 + 1, none⟩) h1 _

theorem VPut_c {base b n : Nat} {wh : Bool} {o : VGeo} {K : Nat → Option Nat} {s : Vst} (a : Int) (v : Nat) (hv32 : v < 2 ^ 32) (h2 : s.wr.length < 2 ^ 40) (w : World) (h : IsView w base b n wh o K s) :
    Calls Try.prog 37 #[.pointer (some ⟨b, 0, none⟩), .int .i64 a, .int .u32 (v : Int)] w fun e w' => e = .returned (.tuple #[]) ∧ Left11 w base b n wh o K (putS n s a v) w' := by
  by_cases ho : opn n s a = true
  · obtain ⟨i, rfl, hi, hl⟩ := opn_at ho
    cases hp : pos s.wr i with
    | some k => exact Put_old i k v ho hp hi hv32 h2 w h
    | none => exact Put_new i v ho hp hi hv32 h2 w h
  · have ho : opn n s a = false := by simpa using ho
    rw [putS_no ho]
    refine (Put_no a _ ho w h).mono ?_
    rintro e w1 ⟨rfl, rfl⟩
    exact ⟨rfl, Left11.same h⟩
end Go.Proofs.Ytpndfhdedmdoeaa
