/-
  slices.Clone: a row of the call's own, of the same cells. Written by view/gen_clones.py.
-/
import Derived.Test.YtnmhdlpnimdffaaGreatDoorA01
import Derived.Lib.SliceRun
import Derived.Deep.Slices
import Derived.Lib.SmallJoins
import Derived.Deep.RegionHeld3
namespace Go.Proofs.YtnmhdlpnimdffaaGreatDoor
open Go.ChangeShapes Go.WideShapes Go.ChangeAt Go.RowKit Go.Maps
set_option linter.unusedVariables false
set_option maxRecDepth 100000
set_option linter.unusedSimpArgs false
section
theorem valInfo : (Tryz.prog.info? 53).map (fun i => (i.zero, i.size, i.bytes)) = some (some (.int .u32 0), 1, 4) := by kernel_rfl
theorem pairInfo : (Tryz.prog.info? 89).map (fun i => (i.zero, i.size, i.bytes)) = some (some (.agg #[.int .i64 0, .int .u32 0]), 2, 16) := by kernel_rfl

theorem CloneVals_c (A : Option Addr) (n c : Nat) (xs : List Value) (hl : xs.length = n * 1) (hmx : n * 4 <= 140737488355328) (h1 : ∀ u ∈ xs, u.oneCell' = true) (w : World)
    (hA : 0 < n -> ∃ ad, A = some ad /\ ∀ j u, xs[j]? = some u -> w.cell? (ad.add j) = some u) :
    Calls Tryz.prog 27 #[.slice A n c] w fun e w' => ∃ v, e = .returned v /\ w'.ownsRow w.heap.size 53 1 v n xs /\ (A = none -> v = .slice none 0 0) /\ Below w.heap.size w w' := by
  have q22 : ∀ (w : World) (a : Option Addr) (n c n' c' : Nat), (binOp .eql 24 (.slice a n c) (.slice none n' c')).run Tryz.prog w = .ok (.bool a.isNone) w := fun w a n c n' c' => Lib.run_eql_slice_nil w _ _ a n c n' c' Tryz.underlying24
  cases A with
  | none =>
    have hn : n = 0 := by
      rcases Nat.eq_zero_or_pos n with h | h
      · exact h
      · obtain ⟨ad, h2, _⟩ := hA h
        cases h2
    subst hn
    have hx : xs = [] := List.eq_nil_of_length_eq_zero (by omega)
    subst hx
    go_enter Tryz.func27, Tryz.ntmps27
    go_wp2
    go_ret
    exact ⟨_, rfl, World.ownsRow_nil _ _ _ _, fun _ => rfl, B0 _⟩
  | some ad =>
    obtain ⟨i0, hi, hz0, hz1, hz2⟩ := info_parts valInfo
    have HC : Hid (∀ j u, xs[j]? = some u -> w.cell? (ad.add j) = some u) := hidp (fun j u hu => by
      rcases Nat.eq_zero_or_pos n with h | h
      · have hx : xs = [] := List.eq_nil_of_length_eq_zero (by simp [hl, h])
        subst hx
        cases hu
      · obtain ⟨ad', h2, h3⟩ := hA h
        injection h2 with h2
        subst h2
        exact h3 j u hu)
    clear hA
    go_enter Tryz.func27, Tryz.ntmps27
    go_wp2_with (at_builtin
                 refine wpList_append_own _ rfl _ _ 24 rfl w.heap.size 53 i0 (.int .u32 0) 1 4 Tryz.underlying24 hi hz0 hz1 hz2 rfl (by decide) _ 0 [] rfl (World.ownsRow_made w #[] 0 (Nat.le_refl _) (Nat.zero_le _) (by simp)) ad n c xs rfl ?c1 ?c2 ?c3 ?c4 ?c5 ?c6 ?_)
    case c1 => exact hl
    case c2 => exact fun j u hj => Lib.cell?_alloc_some _ (HC.out j u hj)
    case c3 => exact h1
    case c4 => rw [Nat.zero_add]; unfold maxLen; omega
    case c5 => rw [Nat.zero_add]; exact hmx
    case c6 => simp
    intro v' w1 hown hgrow hnil
    have HB := hidp (((Below.refl _ w).alloc (Nat.le_refl _) (.cells #[] 53)).grown hgrow (by simp) (by intro k hk; simp [Value.ownBlock] at hk; omega))
    have HO := hidp hown
    clear hgrow hown hnil
    go_wp2
    go_ret
    exact ⟨_, rfl, by simpa using HO.out, fun h => (by cases h), HB.out⟩

theorem CloneList_c (A : Option Addr) (n c : Nat) (xs : List Value) (hl : xs.length = n * 1) (hmx : n * 4 <= 140737488355328) (h1 : ∀ u ∈ xs, u.oneCell' = true) (w : World)
    (hA : 0 < n -> ∃ ad, A = some ad /\ ∀ j u, xs[j]? = some u -> w.cell? (ad.add j) = some u) :
    Calls Tryz.prog 170 #[.slice A n c] w fun e w' => ∃ v, e = .returned v /\ w'.ownsRow w.heap.size 53 1 v n xs /\ (A = none -> v = .slice none 0 0) /\ Below w.heap.size w w' := by
  have q22 : ∀ (w : World) (a : Option Addr) (n c n' c' : Nat), (binOp .eql 61 (.slice a n c) (.slice none n' c')).run Tryz.prog w = .ok (.bool a.isNone) w := fun w a n c n' c' => Lib.run_eql_slice_nil w _ _ a n c n' c' Tryz.underlying61
  cases A with
  | none =>
    have hn : n = 0 := by
      rcases Nat.eq_zero_or_pos n with h | h
      · exact h
      · obtain ⟨ad, h2, _⟩ := hA h
        cases h2
    subst hn
    have hx : xs = [] := List.eq_nil_of_length_eq_zero (by omega)
    subst hx
    go_enter Tryz.func170, Tryz.ntmps170
    go_wp2
    go_ret
    exact ⟨_, rfl, World.ownsRow_nil _ _ _ _, fun _ => rfl, B0 _⟩
  | some ad =>
    obtain ⟨i0, hi, hz0, hz1, hz2⟩ := info_parts valInfo
    have HC : Hid (∀ j u, xs[j]? = some u -> w.cell? (ad.add j) = some u) := hidp (fun j u hu => by
      rcases Nat.eq_zero_or_pos n with h | h
      · have hx : xs = [] := List.eq_nil_of_length_eq_zero (by simp [hl, h])
        subst hx
        cases hu
      · obtain ⟨ad', h2, h3⟩ := hA h
        injection h2 with h2
        subst h2
        exact h3 j u hu)
    clear hA
    go_enter Tryz.func170, Tryz.ntmps170
    go_wp2_with (at_builtin
                 refine wpList_append_own _ rfl _ _ 61 rfl w.heap.size 53 i0 (.int .u32 0) 1 4 Tryz.underlying61 hi hz0 hz1 hz2 rfl (by decide) _ 0 [] rfl (World.ownsRow_made w #[] 0 (Nat.le_refl _) (Nat.zero_le _) (by simp)) ad n c xs rfl ?c1 ?c2 ?c3 ?c4 ?c5 ?c6 ?_)
    case c1 => exact hl
    case c2 => exact fun j u hj => Lib.cell?_alloc_some _ (HC.out j u hj)
    case c3 => exact h1
    case c4 => rw [Nat.zero_add]; unfold maxLen; omega
    case c5 => rw [Nat.zero_add]; exact hmx
    case c6 => simp
    intro v' w1 hown hgrow hnil
    have HB := hidp (((Below.refl _ w).alloc (Nat.le_refl _) (.cells #[] 53)).grown hgrow (by simp) (by intro k hk; simp [Value.ownBlock] at hk; omega))
    have HO := hidp hown
    clear hgrow hown hnil
    go_wp2
    go_ret
    exact ⟨_, rfl, by simpa using HO.out, fun h => (by cases h), HB.out⟩

theorem CloneInts_c (A : Option Addr) (n c : Nat) (xs : List Value) (hl : xs.length = n * 1) (hmx : n * 8 <= 140737488355328) (h1 : ∀ u ∈ xs, u.oneCell' = true) (w : World)
    (hA : 0 < n -> ∃ ad, A = some ad /\ ∀ j u, xs[j]? = some u -> w.cell? (ad.add j) = some u) :
    Calls Tryz.prog 52 #[.slice A n c] w fun e w' => ∃ v, e = .returned v /\ w'.ownsRow w.heap.size 3 1 v n xs /\ (A = none -> v = .slice none 0 0) /\ Below w.heap.size w w' := by
  have q22 : ∀ (w : World) (a : Option Addr) (n c n' c' : Nat), (binOp .eql 35 (.slice a n c) (.slice none n' c')).run Tryz.prog w = .ok (.bool a.isNone) w := fun w a n c n' c' => Lib.run_eql_slice_nil w _ _ a n c n' c' Tryz.underlying35
  cases A with
  | none =>
    have hn : n = 0 := by
      rcases Nat.eq_zero_or_pos n with h | h
      · exact h
      · obtain ⟨ad, h2, _⟩ := hA h
        cases h2
    subst hn
    have hx : xs = [] := List.eq_nil_of_length_eq_zero (by omega)
    subst hx
    go_enter Tryz.func52, Tryz.ntmps52
    go_wp2
    go_ret
    exact ⟨_, rfl, World.ownsRow_nil _ _ _ _, fun _ => rfl, B0 _⟩
  | some ad =>
    obtain ⟨i0, hi, hz0, hz1, hz2⟩ := info_parts intInfo
    have HC : Hid (∀ j u, xs[j]? = some u -> w.cell? (ad.add j) = some u) := hidp (fun j u hu => by
      rcases Nat.eq_zero_or_pos n with h | h
      · have hx : xs = [] := List.eq_nil_of_length_eq_zero (by simp [hl, h])
        subst hx
        cases hu
      · obtain ⟨ad', h2, h3⟩ := hA h
        injection h2 with h2
        subst h2
        exact h3 j u hu)
    clear hA
    go_enter Tryz.func52, Tryz.ntmps52
    go_wp2_with (at_builtin
                 refine wpList_append_own _ rfl _ _ 35 rfl w.heap.size 3 i0 (.int .i64 0) 1 8 Tryz.underlying35 hi hz0 hz1 hz2 rfl (by decide) _ 0 [] rfl (World.ownsRow_made w #[] 0 (Nat.le_refl _) (Nat.zero_le _) (by simp)) ad n c xs rfl ?c1 ?c2 ?c3 ?c4 ?c5 ?c6 ?_)
    case c1 => exact hl
    case c2 => exact fun j u hj => Lib.cell?_alloc_some _ (HC.out j u hj)
    case c3 => exact h1
    case c4 => rw [Nat.zero_add]; unfold maxLen; omega
    case c5 => rw [Nat.zero_add]; exact hmx
    case c6 => simp
    intro v' w1 hown hgrow hnil
    have HB := hidp (((Below.refl _ w).alloc (Nat.le_refl _) (.cells #[] 3)).grown hgrow (by simp) (by intro k hk; simp [Value.ownBlock] at hk; omega))
    have HO := hidp hown
    clear hgrow hown hnil
    go_wp2
    go_ret
    exact ⟨_, rfl, by simpa using HO.out, fun h => (by cases h), HB.out⟩

theorem ClonePairs_c (A : Option Addr) (n c : Nat) (xs : List Value) (hl : xs.length = n * 2) (hmx : n * 16 <= 140737488355328) (h1 : ∀ u ∈ xs, u.oneCell' = true) (w : World)
    (hA : 0 < n -> ∃ ad, A = some ad /\ ∀ j u, xs[j]? = some u -> w.cell? (ad.add j) = some u) :
    Calls Tryz.prog 53 #[.slice A n c] w fun e w' => ∃ v, e = .returned v /\ w'.ownsRow w.heap.size 89 2 v n xs /\ (A = none -> v = .slice none 0 0) /\ Below w.heap.size w w' := by
  have q22 : ∀ (w : World) (a : Option Addr) (n c n' c' : Nat), (binOp .eql 37 (.slice a n c) (.slice none n' c')).run Tryz.prog w = .ok (.bool a.isNone) w := fun w a n c n' c' => Lib.run_eql_slice_nil w _ _ a n c n' c' Tryz.underlying37
  cases A with
  | none =>
    have hn : n = 0 := by
      rcases Nat.eq_zero_or_pos n with h | h
      · exact h
      · obtain ⟨ad, h2, _⟩ := hA h
        cases h2
    subst hn
    have hx : xs = [] := List.eq_nil_of_length_eq_zero (by omega)
    subst hx
    go_enter Tryz.func53, Tryz.ntmps53
    go_wp2
    go_ret
    exact ⟨_, rfl, World.ownsRow_nil _ _ _ _, fun _ => rfl, B0 _⟩
  | some ad =>
    obtain ⟨i0, hi, hz0, hz1, hz2⟩ := info_parts pairInfo
    have HC : Hid (∀ j u, xs[j]? = some u -> w.cell? (ad.add j) = some u) := hidp (fun j u hu => by
      rcases Nat.eq_zero_or_pos n with h | h
      · have hx : xs = [] := List.eq_nil_of_length_eq_zero (by simp [hl, h])
        subst hx
        cases hu
      · obtain ⟨ad', h2, h3⟩ := hA h
        injection h2 with h2
        subst h2
        exact h3 j u hu)
    clear hA
    go_enter Tryz.func53, Tryz.ntmps53
    go_wp2_with (at_builtin
                 refine wpList_append_own _ rfl _ _ 37 rfl w.heap.size 89 i0 (.agg #[.int .i64 0, .int .u32 0]) 2 16 Tryz.underlying37 hi hz0 hz1 hz2 rfl (by decide) _ 0 [] rfl (World.ownsRow_made w #[] 0 (Nat.le_refl _) (Nat.zero_le _) (by simp)) ad n c xs rfl ?c1 ?c2 ?c3 ?c4 ?c5 ?c6 ?_)
    case c1 => exact hl
    case c2 => exact fun j u hj => Lib.cell?_alloc_some _ (HC.out j u hj)
    case c3 => exact h1
    case c4 => rw [Nat.zero_add]; unfold maxLen; omega
    case c5 => rw [Nat.zero_add]; exact hmx
    case c6 => simp
    intro v' w1 hown hgrow hnil
    have HB := hidp (((Below.refl _ w).alloc (Nat.le_refl _) (.cells #[] 89)).grown hgrow (by simp) (by intro k hk; simp [Value.ownBlock] at hk; omega))
    have HO := hidp hown
    clear hgrow hown hnil
    go_wp2
    go_ret
    exact ⟨_, rfl, by simpa using HO.out, fun h => (by cases h), HB.out⟩
end
section
theorem Put_no {base b n : Nat} {wh : Bool} {o : VGeo} {K : Nat -> Option Nat} {s : Vst} (a : Int) (v : Int) (ho : opn n s a = false) (w : World) (h : IsView w base b n wh o K s) :
  Calls Tryz.prog 33 #[.pointer (some ⟨b, 0, none⟩), .int .i64 a, .int .u32 v] w fun e w' => e = .returned (.tuple #[]) /\ w' = w := by
 have HH := hidp h
 have HO := hidp ho
 clear h ho
 go_enter Tryz.func33, Tryz.ntmps33
 go_wp2_with fail
 refine (vopen_c a _ HH.out).mono ?_
 rintro e w1 ⟨rfl, rfl⟩
 rw [HO.out]
 go_wp2
 (try simp only [Exit.inBlock, Exit.then])
 refine bodyPost_ret (results_none rfl _ _ _) rfl ?_
 exact ⟨rfl, rfl⟩

theorem vX_set {s : Vst} {k v i : Nat} (hk : k < s.wr.length) (hc : cellW s.wr k = i) : ∀ j, j < 2 -> updF (vX s) 1 ((vX s 1).set (k * 2 + 1) (.int .u32 (v : Int))) j = vX { s with wr := s.wr.set k (i, v) } j := fun j hj => by
 match j, hj with
 | 0, _ => simp [updF, vX]
 | 1, _ =>
  rw [updF_same]
  show (prVs s.wr).set (k * 2 + 1) (.int .u32 (v : Int)) = prVs (s.wr.set k (i, v))
  rw [prVs_set _ _ _ hk, hc]
theorem vN_set {s : Vst} {k v i : Nat} : ∀ j, j < 2 -> vN s j = vN { s with wr := s.wr.set k (i, v) } j := fun j hj => by
 match j, hj with
 | 0, _ => simp [vN]
 | 1, _ => simp [vN]

theorem Put_old {base b n : Nat} {wh : Bool} {o : VGeo} {K : Nat -> Option Nat} {s : Vst} (i k v : Nat) (ho : opn n s (i : Int) = true) (hk : pos s.wr i = some k) (hi : i < n) (hv32 : v < 2 ^ 32) (hlim : s.wr.length < 2 ^ 40) (w : World) (h : IsView w base b n wh o K s) :
    Calls Tryz.prog 33 #[.pointer (some ⟨b, 0, none⟩), .int .i64 (i : Int), .int .u32 (v : Int)] w fun e w' => e = .returned (.tuple #[]) /\ Left11 w base b n wh o K (putS n s (i : Int) v) w' := by
  have hn := h.nmax
  have hkl := (pos_some hk).1
  obtain ⟨c0, c1, c2, c3, c4, c5, c6, c7⟩ := h.cells
  obtain ⟨kk, D, e1, hown, hD⟩ := h.wvm
  obtain ⟨g, cap, hv, _, _⟩ := h.wrow.form (by omega)
  have hr := h.wrow
  rw [hv] at hr c4
  have d0 : w.cell? ⟨g, k * 2 + 1, none⟩ = some (.int .u32 ((atW s.wr k : Nat) : Int)) := (hr.cellAt _ (by omega)).trans (prVs_at s.wr k hkl).2
  have f0 := hr.frozenAt (k * 2 + 1)
  have hcap : s.wr.length <= cap /\ cap <= maxLen := by
    rcases hr.2 with ⟨h1, _⟩ | ⟨g', cap', cur, h1, _, _, h2, h3, _⟩
    · cases h1
    · injection h1 with _ _ h1; subst h1; exact ⟨h2, h3⟩
  obtain ⟨hc1, hc2⟩ := hcap
  unfold maxLen at hc2
  have hkey := kInt_of (c := (i : Int)) (wf_nat (by omega))
  have HH := hidp h
  have HO := hidp ho
  have HK := hidp hk
  have HV := hidp hv
  have HV32 := hidp hv32
  have HM : Hid (Maps.has D (kInt (i : Int)) = true) := hidp (by rw [hD.has]; simp [hk])
  have HA : Hid (∀ c : Int, D.atKey (kInt (i : Int)) (.lit (.int .i64 0)) = .lit (.int .i64 c) -> c = k) := hidp (fun c hc => by
    rw [hD.at_ i k hk] at hc
    injection hc with hc
    injection hc with _ hc
    exact hc.symm)
  have HW := hidp hown
  generalize atW s.wr k = x at *
  obtain ⟨m, hm⟩ : ∃ m, s.wr.length = m := ⟨_, rfl⟩
  have HMM := hidp hm
  rw [hm] at c4 hkl hlim hc1
  clear h ho hk hr hv hD c1 c2 c3 hown hm hv32 e1
  go_enter Tryz.func33, Tryz.ntmps33
  go_wp2_with fail
  refine (vopen_c (i : Int) _ HH.out).mono ?_
  rintro e w1 ⟨rfl, rfl⟩
  rw [HO.out]
  go_wp2_with (first
    | (at_lookup; refine wpList_lookup_own_ok_int _ rfl _ _ 84 rfl 3 3 .i64 intKey1 Tryz.underlying84 Tryz.underlying3 (zeroInt _) o.m2 kk D rfl HW.out _ _ rfl hkey ?_
       intro c hat hwc
       obtain rfl : c = (k : Int) := HA.out c hat
       rw [HM.out]
       clear hat hwc)
    | go_in)
  go_end0
  obtain ⟨k1, D1, k2, D2, e1, e2, e3, e4, hp⟩ := HH.out.parts
  have hkl' : k < s.wr.length := by rw [HMM.out]; exact hkl
  obtain ⟨hp1, ht1⟩ := hp.store (i := 1) (g := g) (cap := cap) (by omega) HV.out (k * 2 + 1) (.int .u32 (v : Int))
  have hok := HH.out.ok.put (a := (i : Int)) HV32.out
  rw [putS_yes HO.out, putW_some HK.out] at hok ⊢
  exact ⟨rfl, o, { parts := ⟨k1, D1, k2, D2, e1, by simp; omega, e3, e4.congr (fun j => by
                     have := pos_set s.wr k v j
                     rw [(pos_some HK.out).2] at this
                     exact this.symm), { hp1 with own := hp1.own.congr vN_set (vX_set hkl' (pos_some HK.out).2) }⟩, ok := hok, nmax := hn, k32 := HH.out.k32 }, fun g hg => .inl hg, ht1⟩

theorem vN_new (s : Vst) (i v : Nat) : ∀ j, j < 2 -> updF (vN s) 1 (s.wr.length + 1) j = vN { s with wr := s.wr ++ [(i, v)] } j := fun j hj => by
 match j, hj with
 | 0, _ => simp [updF, vN]
 | 1, _ => simp [updF, vN]
theorem vX_new (s : Vst) (i v : Nat) : ∀ j, j < 2 -> updF (updF (vX s) 1 (prVs s.wr ++ [Value.int .i64 (i : Int), Value.int .u32 0])) 1 ((updF (vX s) 1 (prVs s.wr ++ [Value.int .i64 (i : Int), Value.int .u32 0]) 1).set (s.wr.length * 2 + 1) (.int .u32 (v : Int))) j = vX { s with wr := s.wr ++ [(i, v)] } j := fun j hj => by
 match j, hj with
 | 0, _ => simp [updF, vX]
 | 1, _ =>
  rw [updF_same, updF_same]
  show (prVs s.wr ++ [Value.int .i64 (i : Int), Value.int .u32 0]).set (s.wr.length * 2 + 1) (.int .u32 (v : Int)) = prVs (s.wr ++ [(i, v)])
  have hl := prVs_len s.wr
  rw [prVs_snoc, List.set_append_right _ _ (by omega), hl]
  simp

theorem Put_new {base b n : Nat} {wh : Bool} {o : VGeo} {K : Nat -> Option Nat} {s : Vst} (i v : Nat) (ho : opn n s (i : Int) = true) (hk : pos s.wr i = none) (hi : i < n) (hv32 : v < 2 ^ 32) (hlim : s.wr.length < 2 ^ 40) (w : World) (h : IsView w base b n wh o K s) :
    Calls Tryz.prog 33 #[.pointer (some ⟨b, 0, none⟩), .int .i64 (i : Int), .int .u32 (v : Int)] w fun e w' => e = .returned (.tuple #[]) /\ Left11 w base b n wh o K (putS n s (i : Int) v) w' := by
  have hn := h.nmax
  obtain ⟨c0, c1, c2, c3, c4, c5, c6, c7⟩ := h.cells
  obtain ⟨k1, D1, kk, D, e1, e2, e3, hD, hp⟩ := h.parts
  obtain ⟨A, cap, hv⟩ := own_slice h.wrow
  rw [hv] at c4
  obtain ⟨i0, hin, hz0, hz1, hz2⟩ := info_parts pairInfo
  have hkey := kInt_of (c := (i : Int)) (wf_nat (by omega))
  have HH := hidp h
  have HO := hidp ho
  have HK := hidp hk
  have HV := hidp hv
  have HV32 := hidp hv32
  have HM : Hid (Maps.has D (kInt (i : Int)) = false) := hidp (by rw [hD.has]; simp [hk])
  have HP := hidp hp
  have HD := hidp (hD.put i s.wr.length)
  have HS := hidp e3
  have HE1 := hidp e1
  have hbl := hp.head.lt
  obtain ⟨m, hm⟩ : ∃ m, s.wr.length = m := ⟨_, rfl⟩
  have HMM := hidp hm
  rw [hm] at c4 hlim HD e2
  clear h ho hk hv hD c1 c2 c3 hp hm hv32 e1 e3
  go_enter Tryz.func33, Tryz.ntmps33
  go_wp2_with fail
  refine (vopen_c (i : Int) _ HH.out).mono ?_
  rintro e w1 ⟨rfl, rfl⟩
  rw [HO.out]
  go_wp2_with (first
    | (at_lookup; refine wpList_lookup_own_ok_int _ rfl _ _ 84 rfl 3 3 .i64 intKey1 Tryz.underlying84 Tryz.underlying3 (zeroInt _) o.m2 kk D rfl HP.out.m2 _ _ rfl hkey ?_
       intro c hat hwc
       rw [HM.out]
       clear hat hwc)
    | (at_mapUpdate; refine wpList_mapUpdate_own _ rfl _ _ _ 84 rfl 3 3 intKey1 Tryz.underlying84 _ o.m2 kk D rfl HP.out.m2 (by unfold maxLen; omega) _ _ _ rfl rfl hkey _ [] (plainElem_int Tryz.underlying3 (wf_nat (by omega))) ?_
       intro w2 hown1 hgrow1
       obtain ⟨hp2, ht2⟩ := HP.out.map2 hgrow1 hown1
       have c4' : w2.cell? ⟨b, 4, none⟩ = some (.slice A m cap) := (hp2.head.cell 4).trans (by rw [<- HMM.out, <- HV.out]; rfl)
       have HP2 := hidp hp2
       have HT2 := hidp ht2
       have hbl2 := hp2.head.lt
       clear hp2 ht2 hown1 hgrow1)
    | (at_builtin
       refine wpList_append_lies _ rfl _ _ 37 rfl base 89 i0 (.agg #[.int .i64 0, .int .u32 0]) 2 16 Tryz.underlying37 hin hz0 hz1 hz2 rfl (by decide) (.slice A m cap) m (prVs s.wr) rfl ?c0 ⟨_, 0, none⟩ 1 1 [.int .i64 (i : Int), .int .u32 0] rfl rfl ?c1 ?c2 (by omega) ?c3 ?c4 ?c5 _ rfl ?_
       case c0 =>
         have := HP2.out.own.own 1 (by omega)
         rw [HV.out] at this
         have := this.alloc (.cells #[.int .i64 (i : Int), .int .u32 0] 89)
         rw [<- HMM.out]
         exact this
       case c1 => intro j y hy; rcases j with _ | _ | j; (· simp at hy; subst hy; simp [Addr.add]); (· simp at hy; subst hy; simp [Addr.add]); (· simp at hy)
       case c2 => simp [Value.oneCell']
       case c3 => unfold maxLen; omega
       case c4 => omega
       case c5 => have := HP2.out.bb; have := HP2.out.head.lt; simp; omega
       intro g cap w4 hown4 hgrow4 hat4 hlt4
       obtain ⟨hp4, hA4, hT4⟩ := (HP2.out.keep (Bnew (B0 _) (.cells #[.int .i64 (i : Int), .int .u32 0] 89))).grow (i := 1) (by omega) hown4 (by rw [HV.out, HMM.out]; exact hgrow4) (fun q hq => by
         have hq : g = q := by simpa [Value.ownBlock] using hq
         subst hq
         rcases hat4 with h1 | h1
         · left; rw [HV.out, HMM.out]; exact h1
         · right; rw [h1]; exact Nat.le_refl _)
       have c4'' : w4.cell? ⟨b, 4, none⟩ = some (.slice A m _) := (hp4.head.cell 4).trans (by rw [<- HMM.out, <- HV.out]; rfl)
       have f4 := hp4.head.thawed 4
       have d4 : w4.cell? ⟨g, m * 2 + 1, none⟩ = some (.int .u32 0) := (hown4.cellAt _ (by omega)).trans (by
         rw [List.getElem?_append_right (by rw [prVs_len, HMM.out]; omega), prVs_len, HMM.out]
         simp)
       have f5 := hown4.frozenAt (m * 2 + 1)
       have hgb : ¬ g = b := fun e => hp4.own.notb 1 (by omega) (by rw [e]; rfl)
       have hbg : ¬ b = g := fun e => hgb e.symm
       have HG : Hid (o.F b g \/ w1.heap.size <= g) := hidp (by
         rcases hat4 with h1 | h1
         · left; exact .inl (.inr ⟨1, by omega, by rw [HV.out, HMM.out]; exact h1⟩)
         · right; have := HT2.out.size; simp at h1; omega)
       have HP4 := hidp hp4
       have HA4 := hidp hA4
       have HT4 := hidp (HT2.out.trans (((T0 (o.F b) w2).alloc (.cells #[.int .i64 (i : Int), .int .u32 0] 89)).trans hT4))
       clear hp4 hA4 hT4 hown4 hgrow4 hat4)
    | go_in)
  go_end0
  obtain ⟨hp5, ht5⟩ := HP4.out.setHead 4 (.slice (some ⟨g, 0, none⟩) (m + 1) cap)
  obtain ⟨hp6, ht6⟩ := hp5.store (i := 1) (g := g) (cap := cap) (by omega) rfl (m * 2 + 1) (.int .u32 (v : Int))
  have hok := HH.out.ok.put (a := (i : Int)) HV32.out
  rw [putS_yes HO.out, putW_none HK.out] at hok ⊢
  have hT5 := HT4.out.put (p := ⟨b, 4, none⟩) (.inl (.inl rfl)) (.slice (some ⟨g, 0, none⟩) (m + 1) cap)
  refine ⟨rfl, { o with v := updF o.v 1 (.slice (some ⟨g, 0, none⟩) (m + 1) cap) }, { parts := ⟨k1, D1, kk + 1, _, HE1.out, by simp; have := HMM.out; omega, HS.out, HD.out.congr (fun j => ?_), { hp6 with own := hp6.own.congr ?_ ?_ }⟩, ok := hok, nmax := hn, k32 := HH.out.k32 }, fun q hq => ?_, ?_⟩
  · have := pos_snoc v HK.out j
    rw [HMM.out] at this
    rw [this]
    unfold updF
    split <;> rfl
  · rw [<- HMM.out]
    exact vN_new s i v
  · rw [<- HMM.out]
    exact vX_new s i v
  · rcases HA4.out q hq with h1 | h1
    · exact .inl h1
    · have h2 := HT2.out.size
      simp at h1
      exact .inr (by omega)
  · rcases HG.out with h1 | h1
    · exact hT5.put (p := ⟨g, m * 2 + 1, none⟩) h1 _
    · exact hT5.put_new (p := ⟨g, m * 2 + 1, none⟩) h1 _

theorem VPut_c {base b n : Nat} {wh : Bool} {o : VGeo} {K : Nat -> Option Nat} {s : Vst} (a : Int) (v : Nat) (hv32 : v < 2 ^ 32) (h2 : s.wr.length < 2 ^ 40) (w : World) (h : IsView w base b n wh o K s) :
  Calls Tryz.prog 33 #[.pointer (some ⟨b, 0, none⟩), .int .i64 a, .int .u32 (v : Int)] w fun e w' => e = .returned (.tuple #[]) /\ Left11 w base b n wh o K (putS n s a v) w' := by
 by_cases ho : opn n s a = true
 ·obtain ⟨i, rfl, hi, hl⟩ := opn_at ho
  cases hp : pos s.wr i with
  | some k => exact Put_old i k v ho hp hi hv32 h2 w h
  | none => exact Put_new i v ho hp hi hv32 h2 w h
 ·have ho : opn n s a = false := by simpa using ho
  rw [putS_no ho]
  refine (Put_no a _ ho w h).mono ?_
  rintro e w1 ⟨rfl, rfl⟩
  exact ⟨rfl, Left11.same h⟩
end
end Go.Proofs.YtnmhdlpnimdffaaGreatDoor

namespace Go.Proofs.YtnmhdlpnimdffaaGreatDoor
open Go.ChangeShapes Go.WideShapes Go.ChangeAt Go.RowKit
set_option linter.unusedVariables false
set_option maxRecDepth 100000
set_option linter.unusedSimpArgs false
section
structure PairV where
 cell : Int
 val : Nat
instance : Inhabited PairV := ⟨⟨0, 0⟩⟩
def PairV.cells (a : PairV) : List Value := [.int .i64 a.cell, .int .u32 (a.val : Int)]
def PairVs (w : World) (A : Option Addr) (l : List PairV) : Prop :=
 ∀ i a, l[i]? = some a -> ∃ ad, A = some ad /\ ad.block < w.heap.size /\ ∀ j u, a.cells[j]? = some u -> w.cell? (ad.add (i * 2 + j)) = some u
theorem PairVs.below {w w' : World} {A : Option Addr} {l : List PairV} (h : PairVs w A l) (hb : Below w.heap.size w w') : PairVs w' A l := fun i a ha => by
 obtain ⟨ad, e, h1, h2⟩ := h i a ha
 exact ⟨ad, e, Nat.lt_of_lt_of_le h1 hb.size, fun j u hu => (hb.cell (p := ad.add (i * 2 + j)) (by rw [block_of_add]; exact h1)).trans (h2 j u hu)⟩
def PairVAt (w : World) (p : Addr) (a : PairV) : Prop :=
 w.cell? p = some (.int .i64 a.cell) /\ w.cell? ⟨p.block, p.off + 1, none⟩ = some (.int .u32 (a.val : Int))
theorem pairV_off (p : Addr) (j : Nat) (h : j ≠ 0) : p.add j = ⟨p.block, p.off + j, none⟩ := by unfold Addr.add; rw [if_neg h]
theorem PairVs.cells {w : World} {ad : Addr} {l : List PairV} (h : PairVs w (some ad) l) {i : Nat} {a : PairV} (ha : l[i]? = some a) : PairVAt w (ad.add (i * 2)) a := by
 obtain ⟨ad', e, _, h2⟩ := h i a ha
 injection e with e
 subst e
 have h10 := h2 0 _ rfl
 have h11 := h2 1 _ rfl
 rw [<- add_of_add] at h10 h11
 rw [pairV_off _ _ (by omega)] at h11
 exact ⟨h10, h11⟩

section
variable {H : Type} {enc : TypeId × Value -> H} {w : World} {base : Nat} {sp : Nat -> Bool} {held : Bool}
end
end
end Go.Proofs.YtnmhdlpnimdffaaGreatDoor

namespace Go.Proofs.YtnmhdlpnimdffaaGreatDoor
open Go.ChangeShapes Go.WideShapes Go.ChangeAt Go.RowKit Go.Maps
set_option linter.unusedVariables false
set_option maxRecDepth 100000
set_option linter.unusedSimpArgs false
section
theorem vMissing_c {base b n : Nat} {wh : Bool} {o : VGeo} {K : Nat -> Option Nat} {s : Vst} (w : World) (h : IsView w base b n wh o K s) :
  Calls Tryz.prog 16 #[.pointer (some ⟨b, 0, none⟩)] w fun e w' => e = .returned (.int .i64 (missI s)) /\ w' = w := by
 obtain ⟨_, _, _, _, _, _, c6, c7⟩ := h.cells
 clear h
 cases hl : s.lost with
 | true =>
  have HV : Hid (missI s = (s.miss : Int)) := hidp (by unfold missI; simp [hl])
  rw [hl] at c6
  clear hl
  go_enter Tryz.func16, Tryz.ntmps16
  go_wp2
  go_ret
  exact ⟨by rw [HV.out]; rfl, rfl⟩
 | false =>
  have HV : Hid (missI s = -1) := hidp (by unfold missI; simp [hl])
  rw [hl] at c6
  clear hl
  go_enter Tryz.func16, Tryz.ntmps16
  go_wp2
  go_ret
  exact ⟨by rw [HV.out]; rfl, rfl⟩

theorem own_reads {w : World} {base size n c : Nat} {e : TypeId} {A : Option Addr} {xs : List Value} (h : w.ownsRow base e size (.slice A n c) n xs) :
  0 < n -> ∃ ad, A = some ad /\ ∀ j u, xs[j]? = some u -> w.cell? (ad.add j) = some u := fun hn => by
 obtain ⟨ad, e1, _, h2⟩ := (Reads.of_own h).2 hn
 exact ⟨ad, e1, h2⟩
theorem natVs_one (l : List Nat) : ∀ u ∈ ntVs l, u.oneCell' = true := fun u hu => by
 obtain ⟨x, _, rfl⟩ := List.mem_map.1 hu
 rfl
theorem prVs_one (l : List (Nat × Nat)) : ∀ u ∈ prVs l, u.oneCell' = true := fun u hu => by
 obtain ⟨x, _, hx⟩ := List.mem_flatMap.1 hu
 simp at hx
 rcases hx with rfl | rfl <;> rfl

theorem vReads_c {base b n : Nat} {wh : Bool} {o : VGeo} {K : Nat -> Option Nat} {s : Vst} (hlim : s.rd.length < 2 ^ 40) (w : World) (h : IsView w base b n wh o K s) :
  Calls Tryz.prog 14 #[.pointer (some ⟨b, 0, none⟩)] w fun e w' => ∃ v, e = .returned v /\ w'.ownsRow w.heap.size 3 1 v s.rd.length (ntVs s.rd) /\ Below w.heap.size w w' := by
 obtain ⟨A, cap, hv⟩ := own_slice h.rrow
 have hr := h.rrow
 have c2 := h.cells.2.2.1
 rw [hv] at hr c2
 have HR := hidp hr
 clear h hr hv
 go_enter Tryz.func14, Tryz.ntmps14
 go_wp2_with fail
 refine (CloneInts_c A s.rd.length cap (ntVs s.rd) (by simp [ntVs]) (by omega) (natVs_one _) _ (own_reads HR.out)).mono ?_
 rintro e w1 ⟨v, rfl, ho, _, hb⟩
 have HO := hidp ho
 have HB := hidp hb
 clear ho hb
 go_wp2
 go_ret
 exact ⟨v, rfl, HO.out, HB.out⟩
theorem vWrites_c {base b n : Nat} {wh : Bool} {o : VGeo} {K : Nat -> Option Nat} {s : Vst} (hlim : s.wr.length < 2 ^ 40) (w : World) (h : IsView w base b n wh o K s) :
  Calls Tryz.prog 15 #[.pointer (some ⟨b, 0, none⟩)] w fun e w' => ∃ v, e = .returned v /\ w'.ownsRow w.heap.size 89 2 v s.wr.length (prVs s.wr) /\ Below w.heap.size w w' := by
 obtain ⟨A, cap, hv⟩ := own_slice h.wrow
 have hr := h.wrow
 have c4 := h.cells.2.2.2.2.1
 rw [hv] at hr c4
 have HR := hidp hr
 clear h hr hv
 go_enter Tryz.func15, Tryz.ntmps15
 go_wp2_with fail
 refine (ClonePairs_c A s.wr.length cap (prVs s.wr) (prVs_len _) (by omega) (prVs_one _) _ (own_reads HR.out)).mono ?_
 rintro e w1 ⟨v, rfl, ho, _, hb⟩
 have HO := hidp ho
 have HB := hidp hb
 clear ho hb
 go_wp2
 go_ret
 exact ⟨v, rfl, HO.out, HB.out⟩

theorem of_c (base n sb : Nat) (wh : Bool) (T : TypeId) (u : Value) (K : Nat -> Option Nat) (hn : n <= 2 ^ 40) (h32 : ∀ i x, K i = some x -> x < 2 ^ 32) (w : World)
  (hsb : base <= w.heap.size /\ base <= sb /\ (sb < w.heap.size \/ (wh = true /\ n = 0 /\ sb = w.heap.size + 2))) (hs : ∀ m1 m2 v, SrcIs w wh n ⟨m1, m2, sb, .iface T u, v⟩ K) :
  Calls Tryz.prog 26 #[.int .i64 (n : Int), .iface T u] w fun e w' => ∃ (b : Nat) (o : VGeo), e = .returned (.pointer (some ⟨b, 0, none⟩)) /\ IsView w' base b n wh o K freshS /\ w.heap.size <= b /\ (∀ g, o.A b g -> w.heap.size <= g \/ g = sb) /\ Below w.heap.size w w' := by
 have hmm := @run_makeMap Tryz.prog
 have HS := hidp hs
 have HSB := hidp hsb
 have H32 := hidp h32
 clear hs hsb h32
 go_enter Tryz.func26, Tryz.ntmps26
 go_wp2
 go_ret
 have hB1 := Bnew (B0 w) (.map #[] 0)
 have hB2 := Bnew hB1 (.map #[] 0)
 have hB3 := Bnew hB2 (.cells #[.int .i64 (n : Int), .iface T u, .slice none 0 0, .map (some w.heap.size), .slice none 0 0, .map (some (w.heap.size + 1)), .bool false, .int .i64 0] 86)
 have hz1 : (w.alloc (.map #[] 0)).heap.size = w.heap.size + 1 := by simp
 have hz2 : ((w.alloc (.map #[] 0)).alloc (.map #[] 0)).heap.size = w.heap.size + 2 := by simp
 have hm1 := (((World.ownsMap_made w Tryz.prog 3 (unitElem (H := Unit))).alloc (.map #[] 0)).alloc (.cells #[.int .i64 (n : Int), .iface T u, .slice none 0 0, .map (some w.heap.size), .slice none 0 0, .map (some (w.heap.size + 1)), .bool false, .int .i64 0] 86))
 have hm2 := (World.ownsMap_made (w.alloc (.map #[] 0)) Tryz.prog 3 (plainElem (H := Unit) Tryz.prog 3)).alloc (.cells #[.int .i64 (n : Int), .iface T u, .slice none 0 0, .map (some w.heap.size), .slice none 0 0, .map (some (w.heap.size + 1)), .bool false, .int .i64 0] 86)
 have hh := Held.new ((w.alloc (.map #[] 0)).alloc (.map #[] 0)) 86 #[.int .i64 (n : Int), .iface T u, .slice none 0 0, .map (some w.heap.size), .slice none 0 0, .map (some (w.heap.size + 1)), .bool false, .int .i64 0]
 rw [hz1] at hm2
 rw [hz2] at hh
 obtain ⟨q1, q2, q3⟩ := HSB.out
 have hF : ¬ ∃ i, i < 2 /\ (Value.slice none 0 0).ownBlock = some sb := by
  rintro ⟨i, _, h⟩
  simp [Value.ownBlock] at h
 have hsz := hh.lt
 refine ⟨w.heap.size + 2, ⟨w.heap.size, w.heap.size + 1, sb, .iface T u, fun _ => .slice none 0 0⟩, rfl, { parts := ⟨0, _, 0, _, Nat.zero_le _, Nat.zero_le _, SetIs.none, NumIs.none _, ?_⟩, ok := VOk.fresh n, nmax := hn, k32 := H32.out }, by omega, ?_, hB3⟩
 ·refine { head := hh, own := (OwnAll.nil _ base _ 2 vE vSz).congr (fun i hi => ?_) (fun i hi => ?_), m1 := hm1, m2 := hm2, src := ?_, bb := by omega, b1 := q1, b2 := Nat.le_succ_of_le q1, bs := q2, slt := by show sb < _; rcases q3 with h | ⟨_, _, h⟩ <;> (simp; omega), mm := by simp, s1 := by show sb ≠ w.heap.size; rcases q3 with h | ⟨_, _, h⟩ <;> omega, s2 := by show sb ≠ w.heap.size + 1; rcases q3 with h | ⟨_, _, h⟩ <;> omega, sF := ?_ }
  ·unfold vN freshS; split <;> rfl
  ·unfold vX freshS; split <;> rfl
  ·rcases q3 with h | ⟨rfl, rfl, h⟩
   ·exact (HS.out w.heap.size (w.heap.size + 1) (fun _ => .slice none 0 0)).same (hB3.block _ h) rfl rfl
   ·obtain ⟨A, c, e1, e2, e3, e4, e5⟩ := (HS.out 0 0 (fun _ => .slice none 0 0)).list
    exact ⟨A, c, e1, e2, e3, e4, fun hn => by omega⟩
  ·rcases q3 with h | ⟨h1, h2, h⟩
   ·refine .inr ?_
    rintro (h1 | h1)
    ·have h1 : sb = w.heap.size + 2 := h1
     omega
    ·exact hF h1
   ·exact .inl ⟨h1, h2⟩
 ·rintro g (((h | ⟨i, hi, h⟩) | h | h) | h)
  ·left; have h : g = w.heap.size + 2 := h; omega
  ·simp [Value.ownBlock] at h
  ·left; have h : g = w.heap.size := h; omega
  ·left; have h : g = w.heap.size + 1 := h; omega
  ·right; exact h

def valVs (l : List Nat) : List Value := l.map fun (n : Nat) => Value.int .u32 (n : Int)
theorem valVs_F (l : List Nat) : valVs l = (List.range l.length).map (valF fun i => (l[i]?).getD 0) := by
 apply List.ext_getElem?
 intro i
 unfold valVs valF
 rw [List.getElem?_map, List.getElem?_map]
 rcases Nat.lt_or_ge i l.length with h | h
 ·rw [List.getElem?_range h, List.getElem?_eq_getElem h]
  simp [h]
 ·rw [List.getElem?_eq_none h, List.getElem?_eq_none (by simpa using h)]
  rfl
theorem valVs_one (l : List Nat) : ∀ u ∈ valVs l, u.oneCell' = true := fun u hu => by
 obtain ⟨x, _, rfl⟩ := List.mem_map.1 hu
 rfl
def Made11 (n : Nat) (wh : Bool) (K : Nat -> Option Nat) (w : World) (e : Ending) (w' : World) : Prop :=
 ∃ (b : Nat) (o : VGeo), e = .returned (.pointer (some ⟨b, 0, none⟩)) /\ IsView w' w.heap.size b n wh o K freshS /\ Below w.heap.size w w'

theorem Whole_c (A : Option Addr) (c : Nat) (vals : List Nat) (n : Nat) (hl : vals.length = n) (hmx : n <= 2 ^ 40) (h32 : ∀ x ∈ vals, x < 2 ^ 32) (w : World)
  (hA : 0 < n -> ∃ ad, A = some ad /\ ∀ j u, (valVs vals)[j]? = some u -> w.cell? (ad.add j) = some u) :
  Calls Tryz.prog 9 #[.slice A n c] w (Made11 n true (fun i => vals[i]?) w) := by
 have HA := hidp hA
 have HL := hidp hl
 have H32 : Hid (∀ i x, vals[i]? = some x -> x < 2 ^ 32) := hidp (fun i x h => h32 x (List.mem_of_getElem? h))
 have HS : Hid (∀ i, i < n -> ∃ x, vals[i]? = some x /\ x < 2 ^ 32) := hidp (fun i hi => ⟨vals[i], List.getElem?_eq_getElem (by omega), h32 _ (List.getElem_mem _)⟩)
 clear hA hl h32
 go_enter Tryz.func9, Tryz.ntmps9
 go_wp2_with fail
 refine (CloneVals_c A n c (valVs vals) (by have := HL.out; simp [valVs]; omega) (by omega) (valVs_one _) _ HA.out).mono ?_
 rintro e w1 ⟨v, rfl, ho, _, hb⟩
 have HB := hidp hb
 rcases ho.2 with ⟨rfl, hz⟩ | ⟨g, cap, cur, rfl, hbg, hg, hnc, hcm, hcs, htake⟩
 ·subst hz
  clear ho hb
  go_wp2_with fail
  refine (of_c w.heap.size 0 (w1.heap.size + 2) true 61 (.slice none 0 0) (fun i => vals[i]?) (by omega) H32.out _ ⟨HB.out.size, by have := HB.out.size; omega, .inr ⟨rfl, rfl, rfl⟩⟩ (fun m1 m2 v => ⟨none, 0, rfl, Nat.le_refl _, Nat.zero_le _, HS.out, fun h => by omega⟩)).mono ?_
  rintro e w2 ⟨b, o, rfl, hI, _, hA, hb2⟩
  have HI := hidp hI
  have HB2 := hidp hb2
  clear hI hb2
  go_wp2
  go_ret
  exact ⟨b, o, rfl, HI.out, Bgo HB.out HB2.out⟩
 ·have hgl := (ho.lt g rfl).2
  have hr : RowF w1 g 53 n cap (valF fun i => (vals[i]?).getD 0) := by
   rw [valVs_F, HL.out] at ho
   exact (RowF.of_own ho).2
  have HR := hidp hr
  clear ho hb hg hcs htake hr
  go_wp2_with fail
  refine (of_c w.heap.size n g true 61 (.slice (some ⟨g, 0, none⟩) n cap) (fun i => vals[i]?) hmx H32.out _ ⟨HB.out.size, hbg, .inl hgl⟩ (fun m1 m2 v => ⟨_, cap, rfl, hnc, hcm, HS.out, fun h => ⟨rfl, HR.out⟩⟩)).mono ?_
  rintro e w2 ⟨b, o, rfl, hI, _, hA, hb2⟩
  have HI := hidp hI
  have HB2 := hidp hb2
  clear hI hb2
  go_wp2
  go_ret
  exact ⟨b, o, rfl, HI.out, Bgo HB.out HB2.out⟩
end
section
def toPV (l : List (Nat × Nat)) : List PairV := l.map fun p => ⟨(p.1 : Int), p.2⟩
theorem toPV_at {l : List (Nat × Nat)} {k : Nat} (h : k < l.length) : (toPV l)[k]? = some ⟨(cellW l k : Int), atW l k⟩ := by
 unfold toPV
 rw [List.getElem?_map, List.getElem?_eq_getElem h]
 simp [cellW, atW, List.getD, List.getElem?_eq_getElem h]
theorem pairs_of_own {w : World} {base m cap : Nat} {B : Option Addr} {l : List (Nat × Nat)} (h : w.ownsRow base 89 2 (.slice B m cap) m (prVs l)) (hl : l.length = m) : PairVs w B (toPV l) := fun i a ha => by
 have hi : i < l.length := by
  rcases Nat.lt_or_ge i l.length with h1 | h1
  ·exact h1
  ·rw [List.getElem?_eq_none (by simpa [toPV] using h1)] at ha; cases ha
 rw [toPV_at hi] at ha
 injection ha with ha
 subst ha
 obtain ⟨ad, e1, e2, e3⟩ := (Reads.of_own h).2 (by omega)
 obtain ⟨p1, p2⟩ := prVs_at l i hi
 refine ⟨ad, e1, e2, fun j u hu => ?_⟩
 unfold PairV.cells at hu
 rcases j with _ | _ | j
 ·simp at hu; subst hu; exact e3 _ _ p1
 ·simp at hu; subst hu; exact e3 _ _ p2
 ·simp at hu

theorem valF_upd (f : Nat -> Nat) (i v j : Nat) : updF (valF f) i (.int .u32 (v : Int)) j = valF (updF f i v) j := by
 by_cases e : j = i
 ·subst e; simp [valF, updF_same]
 ·simp [valF, updF_other _ _ e]
theorem vown_caps {w : World} {base size n c m : Nat} {e : TypeId} {A : Option Addr} {xs : List Value} (h : w.ownsRow base e size (.slice A n c) m xs) : m <= c /\ c <= maxLen := by
 rcases h.2 with ⟨h1, h2⟩ | ⟨g', cap', cur, h1, _, _, h2, h3, _⟩
 ·injection h1 with _ _ h1; subst h1; omega
 ·injection h1 with _ _ h1; subst h1; exact ⟨h2, h3⟩

theorem listBehind_c (A B : Option Addr) (n c m cap : Nat) (f : Nat -> Nat) (wl : List (Nat × Nat)) (hn : 0 < n) (hmx : n <= 2 ^ 40) (hl : wl.length = m) (hmc : m <= cap) (hcap : cap <= maxLen) (hlt : ∀ p ∈ wl, p.1 < n) (w : World)
  (hA : 0 < n -> ∃ ad, A = some ad /\ ∀ j u, ((List.range n).map (valF f))[j]? = some u -> w.cell? (ad.add j) = some u) (hB : PairVs w B (toPV wl)) :
  Calls Tryz.prog 168 #[.slice A n c, .slice B m cap] w fun e w' => ∃ g cp, e = .returned (.slice (some ⟨g, 0, none⟩) n cp) /\ w.heap.size <= g /\ RowF w' g 53 n cp (valF (foldW f wl)) /\ Below w.heap.size w w' := by
 have HB := hidp hB
 have HL := hidp hl
 have HLT := hidp hlt
 unfold maxLen at hcap
 have hone : ∀ u ∈ (List.range n).map (valF f), u.oneCell' = true := fun u hu => by
  obtain ⟨j, _, rfl⟩ := List.mem_map.1 hu
  rfl
 have HCL := hidp (CloneList_c A n c ((List.range n).map (valF f)) (by simp) (by omega) hone w hA)
 clear hA hB hl hlt hone
 go_enter Tryz.func168, Tryz.ntmps168
 go_wp2_with fail
 refine HCL.out.mono ?_
 rintro e w1 ⟨v, rfl, ho, _, hb⟩
 obtain ⟨g, cp, rfl, hg, _⟩ := ho.form hn
 have HR := hidp (RowF.of_own ho).2
 have HB1 := hidp hb
 have hcp := (RowF.of_own ho).2.max
 have hncp := (RowF.of_own ho).2.le
 unfold maxLen at hcp
 clear ho hb HCL
 go_wp2_with fail
 go_loopw [7, 12] (fun _ i wr => ∃ k : Nat, k <= m /\ i = .int .i64 k /\ Hid (RowF wr g 53 n cp (valF (foldW f (wl.take k)))) /\ Hid (Below w.heap.size w wr)) (fun _ i _ => m - (intOf i).toNat)
 case atStart => exact ⟨0, by omega, rfl, HR, HB1⟩
 case round =>
  clear HR HB1
  obtain ⟨k, hk, rfl, HR, HB1⟩ := hrel
  by_cases hlt : k < m
  ·have hkl : k < wl.length := by rw [HL.out]; exact hlt
   have hp := toPV_at hkl
   obtain ⟨ad, rfl, hadb, _⟩ := HB.out k _ hp
   obtain ⟨x0, x1⟩ := (HB.out.below HB1.out).cells hp
   simp only at x0 x1
   have hcn : cellW wl k < n := by
    have := HLT.out wl[k] (List.getElem_mem _)
    simpa [cellW, List.getD, List.getElem?_eq_getElem hkl] using this
   have HF := hidp (foldW_take (f := f) hkl)
   have d0 := HR.out.cell hcn
   have f0 := HR.out.thawed (cellW wl k)
   have hgl := HR.out.lt
   have hab : (ad.add (k * 2)).block < wr.heap.size := by rw [block_of_add]; have := HB1.out.size; omega
   unfold valF at d0
   clear hp hkl
   generalize cellW wl k = i at *
   generalize atW wl k = x at *
   generalize foldW f (wl.take k) i = y at *
   go_wp2
   go_roundw
   case rel => exact ⟨k + 1, by omega, by go_num, hidp (by
     rw [HF.out]
     refine ((HR.out.put hcn _).congr (fun j _ => ?_)).keep (Bnew (B0 _) _)
     exact valF_upd _ _ _ j), hidp (Bnew (Bput HB1.out (p := ⟨g, i, none⟩) hg _) _)⟩
   case measure => simp [intOf]; omega
  ·obtain rfl : k = m := by omega
   have HKL : Hid (wl.take k = wl) := hidp (List.take_of_length_le (by have := HL.out; omega))
   go_wp2
   go_ret
   exact ⟨g, cp, rfl, hg, by have := HR.out; rwa [HKL.out] at this, HB1.out⟩

theorem behind_list (A : Option Addr) (n c : Nat) (w : World) : (method 289 61 (.slice A n c) "nacre/view.behind").run Tryz.prog w = .ok (168, .slice A n c) w := by kernel_rfl
theorem vVals_some {base b n : Nat} {o : VGeo} {Kn : Nat -> Option Nat} {s : Vst} (hn : 0 < n) (hlim : s.wr.length < 2 ^ 40) (w : World) (h : IsView w base b n true o Kn s) :
  Calls Tryz.prog 20 #[.pointer (some ⟨b, 0, none⟩)] w fun e w' => ∃ g cp, e = .returned (.slice (some ⟨g, 0, none⟩) n cp) /\ w.heap.size <= g /\ RowF w' g 53 n cp (valF (nowV Kn s.wr)) /\ Below w.heap.size w w' := by
 obtain ⟨B, cap, hv⟩ := own_slice h.wrow
 obtain ⟨_, c1, _, _, c4, _, _, _⟩ := h.cells
 have hr := h.wrow
 rw [hv] at hr c4
 obtain ⟨A, c, hf, _, _, _, hR⟩ := h.src.list
 rw [hf] at c1
 have hnmx := h.nmax
 have HA : Hid (∀ w', Below w.heap.size w w' -> (0 < n -> ∃ ad, A = some ad /\ ∀ j u, ((List.range n).map (valF fun i => (Kn i).getD 0))[j]? = some u -> w'.cell? (ad.add j) = some u)) := hidp (fun w' hb hn => by
  obtain ⟨e1, e2⟩ := hR hn
  obtain ⟨ad, e3, _, e4⟩ := ((e2.keep hb).reads (B := w'.heap.size) (e2.keep hb).lt).2 hn
  exact ⟨ad, e1.trans e3, e4⟩)
 have HP : Hid (∀ w', Below w.heap.size w w' -> PairVs w' B (toPV s.wr)) := hidp (fun w' hb => (pairs_of_own hr rfl).below hb)
 have HLT : Hid (∀ p ∈ s.wr, p.1 < n) := hidp (fun p hp => (h.ok.wrLt p hp).1)
 have HF : Hid (foldW (fun i => (Kn i).getD 0) s.wr = nowV Kn s.wr) := hidp (by funext i; exact foldW_now h.ok i)
 obtain ⟨hmc, hcm⟩ := vown_caps hr
 obtain ⟨m, hm2⟩ : ∃ m, s.wr.length = m := ⟨_, rfl⟩
 have HM := hidp hm2
 rw [hm2] at c4 hmc
 clear h hr hv hf hm2 hR
 have hmt := behind_list
 go_enter Tryz.func20, Tryz.ntmps20
 go_wp2_with fail
 refine wp_region_held_drew (S := (fun w' => w'.cell? ⟨b, 1, none⟩ = some (.iface 61 (.slice A n c)) /\ w'.cell? ⟨b, 4, none⟩ = some (.slice B m cap))) (by kernel_rfl) ?_ (fun hHeld => ?_)
 ·(try dsimp only)
  first | exact ⟨c1, c4⟩ | exact ⟨hst _ _ hHeld.1, hst _ _ hHeld.2⟩ | exact hHeld
 refine tkz 0 ?_
 refine tkz 1 ?_
 refine tkz 2 ?_
 refine tkz 3 ?_
 refine tkz 4 ?_
 refine tkz 5 ?_
 refine tkz 6 ?_
 refine tkz 7 ?_
 refine tkz 8 ?_
 refine tkz 9 ?_
 refine rdz 10 fun K hK => ?_
 go_simp
 refine (listBehind_c A B n c m cap (fun i => (Kn i).getD 0) s.wr hn hnmx HM.out hmc hcm HLT.out _ (HA.out _ (Bdrew (B0 _))) (HP.out _ (Bdrew (B0 _)))).mono ?_; rintro e w2 ⟨g, cp, rfl, hg, hr2, hb⟩; have HR := hidp hr2; have HG := hidp hg; have HB := hidp (Bgo (Bdrew (B0 w)) hb); have hst := cells_stay hb; clear hr2 hb hg
 refine hK.out _ _ ?_ (fun hHeld => ?_)
 ·(try dsimp only)
  first | exact ⟨c1, c4⟩ | exact ⟨hst _ _ hHeld.1, hst _ _ hHeld.2⟩ | exact hHeld
 clear hK K
 (try simp only [Act.put, gA, gB, gC, sA, sB, sC])
 refine tkz 11 ?_
 refine dnz ?_
 go_wp2
 go_ret
 refine ⟨g, cp, rfl, HG.out, ?_, HB.out⟩
 have := HR.out
 rwa [HF.out] at this
end
section
def rE (i : Nat) : TypeId := if i = 0 then 4 else if i = 1 then 53 else if i = 2 then 4 else if i = 3 then 53 else 3
def rSz (_ : Nat) : Nat := 1
def rowL (n : Nat) (f : Nat -> Value) : List Value := (List.range n).map f
def bitF (f : Nat -> Bool) : Nat -> Value := fun i => .bool (f i)
def toV (wr : List (Nat × Nat)) (i : Nat) : Nat := match pos wr i with | some k => atW wr k | none => 0
def rN (n : Nat) (s : Vst) (i : Nat) : Nat := if i < 4 then n else if i = 4 then s.rd.length else s.wr.length
def rX (n : Nat) (K : Nat -> Option Nat) (s : Vst) (i : Nat) : List Value :=
 if i = 0 then rowL n (bitF fun j => (K j).isSome) else if i = 1 then rowL n (valF fun j => (K j).getD 0) else if i = 2 then rowL n (bitF fun j => (pos s.wr j).isSome)
 else if i = 3 then rowL n (valF (toV s.wr)) else if i = 4 then ntVs s.rd else ntVs (s.wr.map (·.1))
def rHead (n : Nat) (v : Nat -> Value) (s : Vst) (all : Bool) : Array Value := #[.int .i64 (n : Int), v 0, v 1, v 2, v 3, v 4, v 5, .int .i64 (missI s), .bool all]

theorem rowL_at {n : Nat} (f : Nat -> Value) {j : Nat} (h : j < n) : (rowL n f)[j]? = some (f j) := by
 unfold rowL
 rw [List.getElem?_map, List.getElem?_range h]
 rfl
theorem rowL_set {n : Nat} (f : Nat -> Value) (j : Nat) (u : Value) : (rowL n f).set j u = rowL n (updF f j u) := by
 apply List.ext_getElem?
 intro i
 rw [List.getElem?_set]
 unfold rowL
 rw [List.getElem?_map, List.getElem?_map]
 rcases Nat.lt_or_ge i n with h | h
 ·rw [List.getElem?_range h]
  by_cases e : j = i
  ·subst e
   simp [h, updF_same]
  ·simp [e, updF_other _ _ (fun x => e x.symm)]
 ·rw [List.getElem?_eq_none (by simpa using h)]
  by_cases e : j = i
  ·subst e
   simp; omega
  ·simp [e]
theorem rowL_snoc (n : Nat) (f : Nat -> Value) : rowL (n + 1) f = rowL n f ++ [f n] := by
 unfold rowL
 rw [List.range_succ, List.map_append]
 rfl
theorem rowL_congr {n : Nat} {f g : Nat -> Value} (h : ∀ i, i < n -> f i = g i) : rowL n f = rowL n g := by
 unfold rowL
 exact List.map_congr_left (fun i hi => h i (List.mem_range.1 hi))

structure RParts (w : World) (base b : Nat) (v : Nat -> Value) (hd : Array Value) (nn : Nat -> Nat) (xs : Nat -> List Value) : Prop where
 head : Held w b 66 hd
 own : OwnAll w base b 6 rE rSz v nn xs
 bb : base <= b
section
variable {w w' : World} {base b : Nat} {v : Nat -> Value} {hd : Array Value} {nn : Nat -> Nat} {xs : Nat -> List Value}
theorem RParts.ge (h : RParts w base b v hd nn xs) : ∀ i, OwnF b 6 v i -> base <= i := h.own.F_new h.bb
theorem RParts.lt (h : RParts w base b v hd nn xs) : ∀ i, OwnF b 6 v i -> i < w.heap.size := h.own.F_lt h.head.lt
theorem RParts.turns {G : Nat -> Prop} (h : RParts w base b v hd nn xs) (ht : Turns G w w') (hf : ∀ i, OwnF b 6 v i -> ¬ G i) : RParts w' base b v hd nn xs :=
 ⟨ht.held h.head (hf _ (.inl rfl)), h.own.turns ht (fun i g hi hg => hf _ (.inr ⟨i, hi, hg⟩)), h.bb⟩
theorem RParts.keep (h : RParts w base b v hd nn xs) (hb : Below w.heap.size w w') : RParts w' base b v hd nn xs := h.turns (G := fun _ => False) (Turns.of_below hb _) (fun _ _ x => x)
theorem RParts.setHead (h : RParts w base b v hd nn xs) (j : Nat) (u : Value) : RParts (w.setCell ⟨b, j, none⟩ u) base b v (hd.setIfInBounds j u) nn xs /\ Turns (OwnF b 6 v) w (w.setCell ⟨b, j, none⟩ u) :=
 ⟨⟨h.head.put j u, h.own.setB j u, h.bb⟩, (T0 (OwnF b 6 v) w).put (p := ⟨b, j, none⟩) (.inl rfl) u⟩
theorem RParts.store (h : RParts w base b v hd nn xs) {i g cap : Nat} (hi : i < 6) (hv : v i = .slice (some ⟨g, 0, none⟩) (nn i) cap) (j : Nat) (u : Value) :
  RParts (w.setCell ⟨g, j, none⟩ u) base b v hd nn (updF xs i ((xs i).set j u)) /\ Turns (OwnF b 6 v) w (w.setCell ⟨g, j, none⟩ u) := by
 obtain ⟨h1, ht⟩ := h.own.put hi hv j u
 refine ⟨⟨ht.held h.head (fun e => h.own.notb i hi (by rw [hv, e]; rfl)), h1, h.bb⟩, ht.more (fun x e => by subst e; exact .inr ⟨i, hi, by rw [hv]; rfl⟩)⟩
theorem RParts.grow (h : RParts w base b v hd nn xs) {i : Nat} (hi : i < 6) {v' : Value} {n' : Nat} {xs' : List Value} (hown : w'.ownsRow base (rE i) (rSz i) v' n' xs') (hg : w.grownBy w' (v i).ownBlock)
  (hloc : ∀ g, v'.ownBlock = some g -> (v i).ownBlock = some g \/ w.heap.size <= g) :
  RParts w' base b (updF v i v') hd (updF nn i n') (updF xs i xs') /\ (∀ g, OwnF b 6 (updF v i v') g -> OwnF b 6 v g \/ w.heap.size <= g) /\ Turns (OwnF b 6 v) w w' := by
 have hF := OwnF_grown (b := b) (w := w) hi hloc
 have hbq : w'.heap[b]? = w.heap[b]? := hg.block b h.head.lt (fun e => h.own.notb i hi e.symm)
 exact ⟨⟨hbq.trans h.head, h.own.grown h.head.lt hi hown hg hloc, h.bb⟩, hF, ⟨hg.os, hg.tape, hg.output, hg.size, fun q hq hf => hg.block q hq (fun e => hf (.inr ⟨i, hi, e.symm⟩))⟩⟩
theorem RParts.congr {hd' : Array Value} {nn' : Nat -> Nat} {xs' : Nat -> List Value} (h : RParts w base b v hd nn xs) (e : hd = hd') (h1 : ∀ i, i < 6 -> nn i = nn' i) (h2 : ∀ i, i < 6 -> xs i = xs' i) : RParts w base b v hd' nn' xs' := by
 subst e
 exact ⟨h.head, h.own.congr h1 h2, h.bb⟩
theorem RParts.form (h : RParts w base b v hd nn xs) {i : Nat} (hi : i < 6) (hn : 0 < nn i) : ∃ g cap, v i = .slice (some ⟨g, 0, none⟩) (nn i) cap /\ nn i <= cap /\ cap <= 9223372036854775807 /\ g ≠ b /\ g < w.heap.size := by
 obtain ⟨g, cap, hv, _, hg⟩ := h.own.form hi hn
 refine ⟨g, cap, hv, ?_, ?_, fun e => h.own.notb i hi (by rw [hv, e]; rfl), hg⟩
 ·have h1 := h.own.own i hi
  rw [hv] at h1
  rcases h1.2 with ⟨h2, _⟩ | ⟨g', cap', cur, h2, _, _, h3, h4, _⟩
  ·cases h2
  ·injection h2 with _ _ h2; subst h2; exact h3
 ·have h1 := h.own.own i hi
  rw [hv] at h1
  rcases h1.2 with ⟨h2, _⟩ | ⟨g', cap', cur, h2, _, _, h3, h4, _⟩
  ·cases h2
  ·injection h2 with _ _ h2; subst h2; exact h4
theorem RParts.at_ (h : RParts w base b v hd nn xs) {i g cap : Nat} (hi : i < 6) (hv : v i = .slice (some ⟨g, 0, none⟩) (nn i) cap) {j : Nat} (hj : j < nn i) : w.cell? ⟨g, j, none⟩ = (xs i)[j]? /\ w.frozen? ⟨g, j, none⟩ = false :=
 h.own.cell hi hv (by show j < nn i * 1; omega)
end

structure IsRefV (w : World) (base b n : Nat) (all : Bool) (v : Nat -> Value) (K : Nat -> Option Nat) (s : Vst) : Prop where
 parts : RParts w base b v (rHead n v s all) (rN n s) (rX n K s)
 ok : VOk n s
 nmax : n <= 2 ^ 40
 k32 : ∀ i x, K i = some x -> x < 2 ^ 32
section
variable {w w' : World} {base b n : Nat} {all : Bool} {v : Nat -> Value} {K : Nat -> Option Nat} {s : Vst}
theorem IsRefV.turns {G : Nat -> Prop} (h : IsRefV w base b n all v K s) (ht : Turns G w w') (hf : ∀ i, OwnF b 6 v i -> ¬ G i) : IsRefV w' base b n all v K s := { h with parts := h.parts.turns ht hf }
theorem IsRefV.keep (h : IsRefV w base b n all v K s) (hb : Below w.heap.size w w') : IsRefV w' base b n all v K s := { h with parts := h.parts.keep hb }
theorem IsRefV.cells (h : IsRefV w base b n all v K s) : w.cell? ⟨b, 0, none⟩ = some (.int .i64 (n : Int)) /\ w.cell? ⟨b, 1, none⟩ = some (v 0) /\ w.cell? ⟨b, 2, none⟩ = some (v 1) /\ w.cell? ⟨b, 3, none⟩ = some (v 2) /\
  w.cell? ⟨b, 4, none⟩ = some (v 3) /\ w.cell? ⟨b, 5, none⟩ = some (v 4) /\ w.cell? ⟨b, 6, none⟩ = some (v 5) /\ w.cell? ⟨b, 7, none⟩ = some (.int .i64 (missI s)) /\ w.cell? ⟨b, 8, none⟩ = some (.bool all) :=
 ⟨h.parts.head.cell 0, h.parts.head.cell 1, h.parts.head.cell 2, h.parts.head.cell 3, h.parts.head.cell 4, h.parts.head.cell 5, h.parts.head.cell 6, h.parts.head.cell 7, h.parts.head.cell 8⟩
theorem IsRefV.row (h : IsRefV w base b n all v K s) {i : Nat} (hi : i < 4) (hn : 0 < n) : ∃ g cap, v i = .slice (some ⟨g, 0, none⟩) n cap /\ n <= cap /\ cap <= 9223372036854775807 /\ g ≠ b /\ g < w.heap.size /\ ∀ j, j < n -> w.cell? ⟨g, j, none⟩ = (rX n K s i)[j]? /\ w.frozen? ⟨g, j, none⟩ = false := by
 have hnn : rN n s i = n := if_pos hi
 obtain ⟨g, cap, hv, h1, h2, h3, h4⟩ := h.parts.form (i := i) (by omega) (by rw [hnn]; exact hn)
 refine ⟨g, cap, by rw [hv, hnn], by omega, h2, h3, h4, fun j hj => h.parts.at_ (by omega) hv (by rw [hnn]; exact hj)⟩
theorem rX_0 (n : Nat) (K : Nat -> Option Nat) (s : Vst) {j : Nat} (h : j < n) : (rX n K s 0)[j]? = some (.bool (K j).isSome) := rowL_at _ h
theorem rX_1 (n : Nat) (K : Nat -> Option Nat) (s : Vst) {j : Nat} (h : j < n) : (rX n K s 1)[j]? = some (.int .u32 (((K j).getD 0 : Nat) : Int)) := rowL_at _ h
theorem rX_2 (n : Nat) (K : Nat -> Option Nat) (s : Vst) {j : Nat} (h : j < n) : (rX n K s 2)[j]? = some (.bool (pos s.wr j).isSome) := rowL_at _ h
theorem rX_3 (n : Nat) (K : Nat -> Option Nat) (s : Vst) {j : Nat} (h : j < n) : (rX n K s 3)[j]? = some (.int .u32 ((toV s.wr j : Nat) : Int)) := rowL_at _ h
end
def LeftR (w : World) (base b n : Nat) (all : Bool) (v : Nat -> Value) (K : Nat -> Option Nat) (s : Vst) (w' : World) : Prop :=
 ∃ v', IsRefV w' base b n all v' K s /\ (∀ g, OwnF b 6 v' g -> OwnF b 6 v g \/ w.heap.size <= g) /\ Turns (OwnF b 6 v) w w'
theorem LeftR.same {w : World} {base b n : Nat} {all : Bool} {v : Nat -> Value} {K : Nat -> Option Nat} {s : Vst} (h : IsRefV w base b n all v K s) : LeftR w base b n all v K s w := ⟨v, h, fun g hg => .inl hg, T0 _ _⟩
theorem six {p : Nat -> Prop} (h0 : p 0) (h1 : p 1) (h2 : p 2) (h3 : p 3) (h4 : p 4) (h5 : p 5) : ∀ i, i < 6 -> p i := fun i hi => by
 rcases (by omega : i = 0 \/ i = 1 \/ i = 2 \/ i = 3 \/ i = 4 \/ i = 5) with rfl | rfl | rfl | rfl | rfl | rfl <;> assumption
end
section
def bN (k i : Nat) : Nat := if i < 4 then k else 0
def bX (k i : Nat) : List Value := if i = 0 then rowL k (bitF fun _ => false) else if i = 1 then rowL k (valF fun _ => 0) else if i = 2 then rowL k (bitF fun _ => false) else if i = 3 then rowL k (valF fun _ => 0) else []
theorem bN_rN (n : Nat) : ∀ i, i < 6 -> bN n i = rN n freshS i := six rfl rfl rfl rfl rfl rfl
theorem bX_rX (n : Nat) : ∀ i, i < 6 -> bX n i = rX n (fun _ => none) freshS i := six rfl rfl rfl rfl rfl rfl
def bN1 (k i : Nat) : Nat := updF (updF (updF (updF (bN k) 0 (k + 1)) 1 (k + 1)) 2 (k + 1)) 3 (k + 1) i
def bX1 (k i : Nat) : List Value := updF (updF (updF (updF (bX k) 0 (bX k 0 ++ [.bool false])) 1 (bX k 1 ++ [.int .u32 0])) 2 (bX k 2 ++ [.bool false])) 3 (bX k 3 ++ [.int .u32 0]) i
theorem bN_step (k : Nat) : ∀ i, i < 6 -> bN1 k i = bN (k + 1) i := six rfl rfl rfl rfl rfl rfl
theorem bX_step (k : Nat) : ∀ i, i < 6 -> bX1 k i = bX (k + 1) i := six (rowL_snoc _ _).symm (rowL_snoc _ _).symm (rowL_snoc _ _).symm (rowL_snoc _ _).symm rfl rfl
theorem boolInfo11 : (Tryz.prog.info? 4).map (fun i => (i.zero, i.size, i.bytes)) = some (some (.bool false), 1, 1) := by kernel_rfl

set_option maxHeartbeats 1600000 in
theorem blank_c (n : Nat) (hn : n <= 2 ^ 40) (w : World) :
    Calls Tryz.prog 28 #[.int .i64 (n : Int)] w fun e w' => ∃ (b : Nat) (v : Nat -> Value), e = .returned (.pointer (some ⟨b, 0, none⟩)) /\ IsRefV w' w.heap.size b n false v (fun _ => none) freshS /\ Below w.heap.size w w' := by
  obtain ⟨i0, hi0, hi1, hi2, hi3⟩ := info_parts boolInfo11
  obtain ⟨j0, hj0, hj1, hj2, hj3⟩ := info_parts valInfo
  have HP0 : Hid (RParts (w.alloc (.cells #[.int .i64 (n : Int), .slice none 0 0, .slice none 0 0, .slice none 0 0, .slice none 0 0, .slice none 0 0, .slice none 0 0, .int .i64 (-1), .bool false] 66)) w.heap.size w.heap.size (fun _ => .slice none 0 0) (rHead n (fun _ => .slice none 0 0) freshS false) (bN 0) (bX 0)) :=
    hidp ⟨Held.new _ _ _, (OwnAll.nil _ _ _ _ _ _).congr (six rfl rfl rfl rfl rfl rfl) (six rfl rfl rfl rfl rfl rfl), Nat.le_refl _⟩
  have HB0 : Hid (Below w.heap.size w (w.alloc (.cells #[.int .i64 (n : Int), .slice none 0 0, .slice none 0 0, .slice none 0 0, .slice none 0 0, .slice none 0 0, .slice none 0 0, .int .i64 (-1), .bool false] 66))) := hidp (Bnew (B0 _) _)
  go_enter Tryz.func28, Tryz.ntmps28
  go_wp2_with fail
  go_loopw [4] (fun i wr => ∃ (k : Nat) (v : Nat -> Value), k <= n /\ i = .int .i64 k /\ Hid (RParts wr w.heap.size w.heap.size v (rHead n v freshS false) (bN k) (bX k)) /\ Hid (Below w.heap.size w wr)) (fun i _ => n - (intOf i).toNat)
  case atStart => exact ⟨0, _, by omega, rfl, HP0, HB0⟩
  case round =>
    clear HP0 HB0
    obtain ⟨k, v, hk, rfl, HP, HB⟩ := hrel
    by_cases hlt : k < n
    · have hbl := HP.out.head.lt
      have c1 : wr.cell? ⟨w.heap.size, 1, none⟩ = some (v 0) := HP.out.head.cell 1
      have O0 : Hid (wr.ownsRow w.heap.size 4 1 (v 0) k (bX k 0)) := hidp (HP.out.own.own 0 (by omega))
      go_wp2_with (first
        | (at_builtin
           refine wpList_append_lies _ rfl _ _ 64 rfl w.heap.size 4 i0 (.bool false) 1 1 Tryz.underlying64 hi0 hi1 hi2 hi3 rfl (by decide) (v 0) k (bX k 0) rfl (O0.out.alloc _) ⟨_, 0, none⟩ 1 1 [.bool false] rfl rfl ?c1 ?c2 (by omega) ?c3 ?c4 ?c5 _ rfl ?_
           case c1 => intro j y hy; have h9 := World.news_of_block (heap_alloc_new wr (.cells #[.bool false] 4)) j y (by simpa using hy); simpa using h9
           case c2 => simp [Value.oneCell']
           case c3 => unfold maxLen; omega
           case c4 => omega
           case c5 => have := HB.out.size; simp at this ⊢; omega
           intro g1 cap1 w1 hown hgrow hat hlt'
           obtain ⟨hp, _, hT⟩ := (HP.out.keep (Bnew (B0 _) (.cells #[.bool false] 4))).grow (i := 0) (by omega) hown hgrow (fun q hq => by
             have hq : g1 = q := by simpa [Value.ownBlock] using hq
             subst hq
             rcases hat with h1 | h1
             · exact .inl h1
             · right; rw [h1]; exact Nat.le_refl _)
           have d0 : w1.cell? ⟨w.heap.size, 1, none⟩ = some (v 0) := hp.head.cell 1
           have e0 : w1.cell? ⟨w.heap.size, 2, none⟩ = some (v 1) := hp.head.cell 2
           have f0 := hp.head.thawed 1
           have hl0 := hp.head.lt
           have P1 := hidp (hp.setHead 1 (.slice (some ⟨g1, 0, none⟩) (k + 1) cap1)).1
           have B1 := hidp (Bput (hT.below (Bgo HB.out (Bnew (B0 _) (.cells #[.bool false] 4))) (fun q hq => HP.out.ge q hq)) (p := ⟨w.heap.size, 1, none⟩) (Nat.le_refl _) (.slice (some ⟨g1, 0, none⟩) (k + 1) cap1))
           have O1 : Hid ((w1.setCell ⟨w.heap.size, 1, none⟩ (.slice (some ⟨g1, 0, none⟩) (k + 1) cap1)).ownsRow w.heap.size 53 1 (v 1) k (bX k 1)) := hidp (P1.out.own.own 1 (by omega))
           clear hp hT hown hgrow hat hlt')
        | (at_builtin
           refine wpList_append_lies _ rfl _ _ 24 rfl w.heap.size 53 j0 (.int .u32 0) 1 4 Tryz.underlying24 hj0 hj1 hj2 hj3 rfl (by decide) (v 1) k (bX k 1) rfl (O1.out.alloc _) ⟨_, 0, none⟩ 1 1 [.int .u32 0] rfl rfl ?c1 ?c2 (by omega) ?c3 ?c4 ?c5 _ rfl ?_
           case c1 => intro j y hy; have h9 := World.news_of_block (heap_alloc_new (w1.setCell ⟨w.heap.size, 1, none⟩ (.slice (some ⟨g1, 0, none⟩) (k + 1) cap1)) (.cells #[.int .u32 0] 53)) j y (by simpa using hy); simpa using h9
           case c2 => simp [Value.oneCell']
           case c3 => unfold maxLen; omega
           case c4 => omega
           case c5 => have := B1.out.size; simp at this ⊢; omega
           intro g2 cap2 w2 hown hgrow hat hlt'
           obtain ⟨hp, _, hT⟩ := (P1.out.keep (Bnew (B0 _) (.cells #[.int .u32 0] 53))).grow (i := 1) (by omega) hown hgrow (fun q hq => by
             have hq : g2 = q := by simpa [Value.ownBlock] using hq
             subst hq
             rcases hat with h1 | h1
             · exact .inl h1
             · right; rw [h1]; exact Nat.le_refl _)
           have d1 : w2.cell? ⟨w.heap.size, 2, none⟩ = some (v 1) := hp.head.cell 2
           have e1 : w2.cell? ⟨w.heap.size, 3, none⟩ = some (v 2) := hp.head.cell 3
           have f1 := hp.head.thawed 2
           have hl1 := hp.head.lt
           have P2 := hidp (hp.setHead 2 (.slice (some ⟨g2, 0, none⟩) (k + 1) cap2)).1
           have B2 := hidp (Bput (hT.below (Bgo B1.out (Bnew (B0 _) (.cells #[.int .u32 0] 53))) (fun q hq => P1.out.ge q hq)) (p := ⟨w.heap.size, 2, none⟩) (Nat.le_refl _) (.slice (some ⟨g2, 0, none⟩) (k + 1) cap2))
           have O2 : Hid ((w2.setCell ⟨w.heap.size, 2, none⟩ (.slice (some ⟨g2, 0, none⟩) (k + 1) cap2)).ownsRow w.heap.size 4 1 (v 2) k (bX k 2)) := hidp (P2.out.own.own 2 (by omega))
           clear hp hT hown hgrow hat hlt')
        | (at_builtin
           refine wpList_append_lies _ rfl _ _ 64 rfl w.heap.size 4 i0 (.bool false) 1 1 Tryz.underlying64 hi0 hi1 hi2 hi3 rfl (by decide) (v 2) k (bX k 2) rfl (O2.out.alloc _) ⟨_, 0, none⟩ 1 1 [.bool false] rfl rfl ?c1 ?c2 (by omega) ?c3 ?c4 ?c5 _ rfl ?_
           case c1 => intro j y hy; have h9 := World.news_of_block (heap_alloc_new (w2.setCell ⟨w.heap.size, 2, none⟩ (.slice (some ⟨g2, 0, none⟩) (k + 1) cap2)) (.cells #[.bool false] 4)) j y (by simpa using hy); simpa using h9
           case c2 => simp [Value.oneCell']
           case c3 => unfold maxLen; omega
           case c4 => omega
           case c5 => have := B2.out.size; simp at this ⊢; omega
           intro g3 cap3 w3 hown hgrow hat hlt'
           obtain ⟨hp, _, hT⟩ := (P2.out.keep (Bnew (B0 _) (.cells #[.bool false] 4))).grow (i := 2) (by omega) hown hgrow (fun q hq => by
             have hq : g3 = q := by simpa [Value.ownBlock] using hq
             subst hq
             rcases hat with h1 | h1
             · exact .inl h1
             · right; rw [h1]; exact Nat.le_refl _)
           have d2 : w3.cell? ⟨w.heap.size, 3, none⟩ = some (v 2) := hp.head.cell 3
           have e2 : w3.cell? ⟨w.heap.size, 4, none⟩ = some (v 3) := hp.head.cell 4
           have f2 := hp.head.thawed 3
           have hl2 := hp.head.lt
           have P3 := hidp (hp.setHead 3 (.slice (some ⟨g3, 0, none⟩) (k + 1) cap3)).1
           have B3 := hidp (Bput (hT.below (Bgo B2.out (Bnew (B0 _) (.cells #[.bool false] 4))) (fun q hq => P2.out.ge q hq)) (p := ⟨w.heap.size, 3, none⟩) (Nat.le_refl _) (.slice (some ⟨g3, 0, none⟩) (k + 1) cap3))
           have O3 : Hid ((w3.setCell ⟨w.heap.size, 3, none⟩ (.slice (some ⟨g3, 0, none⟩) (k + 1) cap3)).ownsRow w.heap.size 53 1 (v 3) k (bX k 3)) := hidp (P3.out.own.own 3 (by omega))
           clear hp hT hown hgrow hat hlt')
        | (at_builtin
           refine wpList_append_lies _ rfl _ _ 24 rfl w.heap.size 53 j0 (.int .u32 0) 1 4 Tryz.underlying24 hj0 hj1 hj2 hj3 rfl (by decide) (v 3) k (bX k 3) rfl (O3.out.alloc _) ⟨_, 0, none⟩ 1 1 [.int .u32 0] rfl rfl ?c1 ?c2 (by omega) ?c3 ?c4 ?c5 _ rfl ?_
           case c1 => intro j y hy; have h9 := World.news_of_block (heap_alloc_new (w3.setCell ⟨w.heap.size, 3, none⟩ (.slice (some ⟨g3, 0, none⟩) (k + 1) cap3)) (.cells #[.int .u32 0] 53)) j y (by simpa using hy); simpa using h9
           case c2 => simp [Value.oneCell']
           case c3 => unfold maxLen; omega
           case c4 => omega
           case c5 => have := B3.out.size; simp at this ⊢; omega
           intro g4 cap4 w4 hown hgrow hat hlt'
           obtain ⟨hp, _, hT⟩ := (P3.out.keep (Bnew (B0 _) (.cells #[.int .u32 0] 53))).grow (i := 3) (by omega) hown hgrow (fun q hq => by
             have hq : g4 = q := by simpa [Value.ownBlock] using hq
             subst hq
             rcases hat with h1 | h1
             · exact .inl h1
             · right; rw [h1]; exact Nat.le_refl _)
           have d3 : w4.cell? ⟨w.heap.size, 4, none⟩ = some (v 3) := hp.head.cell 4
           have e3 : w4.cell? ⟨w.heap.size, 5, none⟩ = some (v 4) := hp.head.cell 5
           have f3 := hp.head.thawed 4
           have hl3 := hp.head.lt
           have P4 := hidp (hp.setHead 4 (.slice (some ⟨g4, 0, none⟩) (k + 1) cap4)).1
           have B4 := hidp (Bput (hT.below (Bgo B3.out (Bnew (B0 _) (.cells #[.int .u32 0] 53))) (fun q hq => P3.out.ge q hq)) (p := ⟨w.heap.size, 4, none⟩) (Nat.le_refl _) (.slice (some ⟨g4, 0, none⟩) (k + 1) cap4))
           have O4 : Hid ((w4.setCell ⟨w.heap.size, 4, none⟩ (.slice (some ⟨g4, 0, none⟩) (k + 1) cap4)).ownsRow w.heap.size 3 1 (v 4) 0 []) := hidp (P4.out.own.own 4 (by omega))
           clear hp hT hown hgrow hat hlt')
        | fail)
      go_roundw
      case rel => exact ⟨k + 1, _, by omega, by go_num, hidp (P4.out.congr rfl (bN_step k) (bX_step k)), B4⟩
      case measure => simp [intOf]; omega
    · obtain rfl : k = n := by omega
      go_wp2
      go_ret
      exact ⟨w.heap.size, v, rfl, { parts := HP.out.congr rfl (bN_rN k) (bX_rX k), ok := VOk.fresh k, nmax := hn, k32 := fun i x h => by cases h }, HB.out⟩


def firstK (vals : List Nat) (k : Nat) : Nat -> Option Nat := fun i => if i < k then vals[i]? else none
theorem firstK_step {vals : List Nat} {k : Nat} (h : k < vals.length) : firstK vals (k + 1) = updF (firstK vals k) k (some (vals.getD k 0)) := by
 funext i
 unfold firstK updF
 by_cases e : i = k
 ·subst e
  simp [List.getD, List.getElem?_eq_getElem h]
 ·have : (i < k + 1) ↔ (i < k) := by omega
  simp only [this, if_neg e]
theorem firstK_all (vals : List Nat) : firstK vals vals.length = fun i => vals[i]? := by
 funext i
 unfold firstK
 split
 ·rfl
 ·rename_i h
  rw [List.getElem?_eq_none (by omega)]
theorem rX_know (n : Nat) (K : Nat -> Option Nat) (s : Vst) (j x : Nat) : ∀ i, i < 6 -> updF (updF (rX n K s) 0 ((rX n K s 0).set j (.bool true))) 1 ((updF (rX n K s) 0 ((rX n K s 0).set j (.bool true)) 1).set j (.int .u32 (x : Int))) i = rX n (updF K j (some x)) s i := by
 refine six ?_ ?_ rfl rfl rfl rfl
 ·show (rowL n (bitF fun j => (K j).isSome)).set j (.bool true) = rowL n (bitF fun i => (updF K j (some x) i).isSome)
  rw [rowL_set]
  refine rowL_congr (fun i _ => ?_)
  unfold bitF updF
  by_cases e : i = j <;> simp [e]
 ·show (rowL n (valF fun j => (K j).getD 0)).set j (.int .u32 (x : Int)) = rowL n (valF fun i => (updF K j (some x) i).getD 0)
  rw [rowL_set]
  refine rowL_congr (fun i _ => ?_)
  unfold valF updF
  by_cases e : i = j <;> simp [e]

set_option maxHeartbeats 1600000 in
theorem RWhole_c (A : Option Addr) (c : Nat) (vals : List Nat) (n : Nat) (hl : vals.length = n) (hmx : n <= 2 ^ 40) (hnc : n <= c) (hc : c <= maxLen) (h32 : ∀ x ∈ vals, x < 2 ^ 32) (w : World)
  (HR : Reads w w.heap.size 1 A n (valVs vals)) :
  Calls Tryz.prog 10 #[.slice A n c] w fun e w' => ∃ (b : Nat) (v : Nat -> Value), e = .returned (.pointer (some ⟨b, 0, none⟩)) /\ IsRefV w' w.heap.size b n true v (fun i => vals[i]?) freshS /\ Below w.heap.size w w' := by
 have HL := hidp hl
 have HRR := hidp HR
 have H32 : Hid (∀ i x, vals[i]? = some x -> x < 2 ^ 32) := hidp (fun i x h => h32 x (List.mem_of_getElem? h))
 have hc2 : c <= 9223372036854775807 := hc
 clear hl HR h32
 go_enter Tryz.func10, Tryz.ntmps10
 go_wp2_with fail
 refine (blank_c n hmx _).mono ?_
 rintro e w1 ⟨b, v, rfl, hI, hB⟩
 have HP1 : Hid (RParts w1 w.heap.size b v (rHead n v freshS false) (rN n freshS) (rX n (firstK vals 0) freshS)) := hidp (hI.parts.congr rfl (fun _ _ => rfl) (fun i hi => by
  have : firstK vals 0 = fun _ => none := by funext i; simp [firstK]
  rw [this]))
 have HB1 := hidp hB
 clear hI hB
 go_wp2_with fail
 go_loopw [4] (fun i wr => ∃ k : Nat, k <= n /\ i = .int .i64 k /\ Hid (RParts wr w.heap.size b v (rHead n v freshS false) (rN n freshS) (rX n (firstK vals k) freshS)) /\ Hid (Below w.heap.size w wr)) (fun i _ => n - (intOf i).toNat)
 case atStart => exact ⟨0, by omega, rfl, HP1, HB1⟩
 case round =>
  clear HP1 HB1
  obtain ⟨k, hk, rfl, HP, HB⟩ := hrel
  by_cases hlt : k < n
  ·obtain ⟨ad, rfl, hadb, hcl⟩ := HRR.out.2 (by omega)
   obtain ⟨x, hx⟩ : ∃ x, vals.getD k 0 = x := ⟨_, rfl⟩
   have hvx : (valVs vals)[k]? = some (.int .u32 (x : Int)) := by
    unfold valVs
    rw [List.getElem?_map, List.getElem?_eq_getElem (by have := HL.out; omega), <- hx]
    simp [List.getD, List.getElem?_eq_getElem (show k < vals.length by have := HL.out; omega)]
   have x0 := (HB.out.cell (p := ad.add k) (by rw [block_of_add]; exact hadb)).trans (hcl k _ hvx)
   have c1 : wr.cell? ⟨b, 1, none⟩ = some (v 0) := HP.out.head.cell 1
   have c2 : wr.cell? ⟨b, 2, none⟩ = some (v 1) := HP.out.head.cell 2
   obtain ⟨g0, p0, hv0, hp0, hm0, hg0, hl0⟩ := HP.out.form (i := 0) (by omega) (show 0 < n by omega)
   obtain ⟨g1, p1, hv1, hp1, hm1, hg1, hl1⟩ := HP.out.form (i := 1) (by omega) (show 0 < n by omega)
   have hg01 : g1 ≠ g0 := fun e => by
    have := HP.out.own.apart 0 1 g0 (by omega) (by omega) (by rw [hv0]; rfl) (by rw [hv1, e]; rfl)
    omega
   have hn0 : rN n freshS 0 = n := rfl
   have hn1 : rN n freshS 1 = n := rfl
   rw [hv0, hn0] at c1
   rw [hv1, hn1] at c2
   rw [hn0] at hp0
   rw [hn1] at hp1
   obtain ⟨d0, f0⟩ := HP.out.at_ (i := 0) (by omega) hv0 (show k < n from hlt)
   rw [rX_0 n _ _ hlt] at d0
   obtain ⟨d1, f1⟩ := HP.out.at_ (i := 1) (by omega) hv1 (show k < n from hlt)
   rw [rX_1 n _ _ hlt] at d1
   have hag : w.heap.size <= g0 := HP.out.ge g0 (.inr ⟨0, by omega, by rw [hv0]; rfl⟩)
   have hag1 : w.heap.size <= g1 := HP.out.ge g1 (.inr ⟨1, by omega, by rw [hv1]; rfl⟩)
   have HST := hidp (firstK_step (vals := vals) (k := k) (by have := HL.out; omega))
   rw [hx] at HST
   have HP5 := hidp (HP.out.store (i := 0) (by omega) hv0 k (.bool true)).1
   have HT5 := hidp (HP.out.store (i := 0) (by omega) hv0 k (.bool true)).2
   have HB5 := hidp (Bput HB.out (p := ⟨g0, k, none⟩) hag (.bool true))
   have y0 : (wr.setCell ⟨g0, k, none⟩ (.bool true)).cell? ⟨b, 2, none⟩ = some (.slice (some ⟨g1, 0, none⟩) n p1) := by
    have h1 : (wr.setCell ⟨g0, k, none⟩ (.bool true)).cell? ⟨b, 2, none⟩ = some (v 1) := HP5.out.head.cell 2
    rw [h1, hv1, hn1]
   have y1 : (wr.setCell ⟨g0, k, none⟩ (.bool true)).cell? (ad.add k) = some (.int .u32 (x : Int)) := (HB5.out.cell (p := ad.add k) (by rw [block_of_add]; exact hadb)).trans (hcl k _ hvx)
   obtain ⟨z1, z2⟩ := HP5.out.at_ (i := 1) (by omega) hv1 (show k < n from hlt)
   have z3 : (wr.setCell ⟨g0, k, none⟩ (.bool true)).cell? ⟨g1, k, none⟩ = some (.int .u32 (((firstK vals k k).getD 0 : Nat) : Int)) := z1.trans (rX_1 n (firstK vals k) freshS hlt)
   have HP6 := hidp (HP5.out.store (i := 1) (by omega) hv1 k (.int .u32 (x : Int))).1
   have HB6 := hidp (Bput HB5.out (p := ⟨g1, k, none⟩) hag1 (.int .u32 (x : Int)))
   have y2 : ((wr.setCell ⟨g0, k, none⟩ (.bool true)).setCell ⟨g1, k, none⟩ (.int .u32 (x : Int))).cell? ⟨b, 2, none⟩ = some (.slice (some ⟨g1, 0, none⟩) n p1) := by
    have h1 : ((wr.setCell ⟨g0, k, none⟩ (.bool true)).setCell ⟨g1, k, none⟩ (.int .u32 (x : Int))).cell? ⟨b, 2, none⟩ = some (v 1) := HP6.out.head.cell 2
    rw [h1, hv1, hn1]
   have y3 : ((wr.setCell ⟨g0, k, none⟩ (.bool true)).setCell ⟨g1, k, none⟩ (.int .u32 (x : Int))).cell? (ad.add k) = some (.int .u32 (x : Int)) := (HB6.out.cell (p := ad.add k) (by rw [block_of_add]; exact hadb)).trans (hcl k _ hvx)
   clear hcl hvx z1 hx
   generalize (firstK vals k k).getD 0 = old at *
   generalize (firstK vals k k).isSome = old0 at *
   go_wp2_with fail
   refine wp_region_held_drew (S := (fun w' => w'.cell? ⟨b, 2, none⟩ = some (.slice (some ⟨g1, 0, none⟩) n p1) /\ w'.cell? (ad.add k) = some (.int .u32 (x : Int)))) (by kernel_rfl) ?_ (fun hHeld => ?_)
   ·(try dsimp only)
    first | exact ⟨y0, y1⟩ | exact ⟨y2, y3⟩ | exact hHeld
   refine tkz 0 ?_
   refine tkz 1 ?_
   refine tkz 2 ?_
   refine tkz 3 ?_
   refine tkz 4 ?_
   refine tkz 5 ?_
   refine tkz 6 ?_
   refine tkz 7 ?_
   refine tkz 8 ?_
   refine tkz 9 ?_
   refine rdz 10 fun K hK => ?_
   go_simp
   skip
   refine hK.out _ _ ?_ (fun hHeld => ?_)
   ·(try dsimp only)
    first | exact ⟨y0, y1⟩ | exact ⟨y2, y3⟩ | exact hHeld
   clear hK K
   (try simp only [Act.put, gA, gB, gC, sA, sB, sC])
   refine dnz ?_
   go_wp2
   go_roundw
   case rel => exact ⟨k + 1, by omega, by go_num, hidp ((HP6.out.keep (Bdrew (B0 _))).congr rfl (fun _ _ => rfl) (by rw [HST.out]; exact rX_know n (firstK vals k) freshS k x)), hidp (Bdrew HB6.out)⟩
   case measure => simp [intOf]; omega
  ·obtain rfl : k = n := by omega
   have f8 := HP.out.head.thawed 8
   have c8 : wr.cell? ⟨b, 8, none⟩ = some (.bool false) := HP.out.head.cell 8
   have hbg : w.heap.size <= b := HP.out.bb
   have HKA : Hid (firstK vals k = fun i => vals[i]?) := hidp (by rw [<- HL.out]; exact firstK_all vals)
   go_wp2
   go_ret
   refine ⟨b, v, rfl, { parts := ?_, ok := VOk.fresh k, nmax := hmx, k32 := H32.out }, Bput HB.out (p := ⟨b, 8, none⟩) hbg _⟩
   have := (HP.out.setHead 8 (.bool true)).1
   rw [HKA.out] at this
   exact this
end
end Go.Proofs.YtnmhdlpnimdffaaGreatDoor
