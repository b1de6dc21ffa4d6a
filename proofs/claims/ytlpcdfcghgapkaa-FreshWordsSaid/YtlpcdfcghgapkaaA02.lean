/-
  Views: contract of Put.
-/
import Derived.Test.YtlpcdfcghgapkaaA01
import Derived.Deep.Slices
import Derived.Lib.SmallJoins
import Derived.Deep.RegionHeld3
import Derived.Below
import Derived.Test.YtlpcdfcghgapkaaAKit
import Derived.WalkKit
import Derived.ProofKit
import Derived.BigQuiet
import Derived.Outline
import Derived.Deep.QuietTactic
namespace Go.Proofs.Ytlpcdfcghgapkaa
open Go.ChangeShapes Go.WideShapes Go.ChangeAt Go.RowKit Go.Maps
set_option linter.unusedVariables false
set_option maxRecDepth 100000
set_option linter.unusedSimpArgs false
section
theorem Put_no {base b n : Nat} {wh : Bool} {o : VGeo} {K : Nat -> Option Nat} {s : Vst} (a : Int) (v : Int) (ho : opn n s a = false) (w : World) (h : IsView w base b n wh o K s) :
  Calls Try.prog 15 #[.pointer (some ⟨b, 0, none⟩), .int .i64 a, .int .u32 v] w fun e w' => e = .returned (.tuple #[]) /\ w' = w := by
 have HH := hidp h
 have HO := hidp ho
 clear h ho
 go_enter Try.func15, Try.ntmps15
 go_wp2_with fail
 refine (vopen_c a _ HH.out).mono ?_
 rintro e w1 ⟨rfl, rfl⟩
 rw [HO.out]
 go_wp2
 (try simp only [Exit.inBlock, Exit.then])
 refine bodyPost_ret (results_none rfl _ _ _) rfl ?_
 exact ⟨rfl, rfl⟩

theorem vX_set {s : Vst} {k v i : Nat} (hk : k < s.wr.length) (hc : cellW s.wr k = i) : ∀ j, j < 2 -> updF (vX s) 1 ((vX s 1).set (k * 2 + 1) (.int .u32 (v : Int))) j = vX { s with wr := s.wr.set k (i, v) } j := fun j hj => by
 match j, hj with
 | 0, _ => simp [updF, vX]
 | 1, _ =>
  rw [updF_same]
  show (prVs s.wr).set (k * 2 + 1) (.int .u32 (v : Int)) = prVs (s.wr.set k (i, v))
  rw [prVs_set _ _ _ hk, hc]
theorem vN_set {s : Vst} {k v i : Nat} : ∀ j, j < 2 -> vN s j = vN { s with wr := s.wr.set k (i, v) } j := fun j hj => by
 match j, hj with
 | 0, _ => simp [vN]
 | 1, _ => simp [vN]

theorem Put_old {base b n : Nat} {wh : Bool} {o : VGeo} {K : Nat -> Option Nat} {s : Vst} (i k v : Nat) (ho : opn n s (i : Int) = true) (hk : pos s.wr i = some k) (hi : i < n) (hv32 : v < 2 ^ 32) (hlim : s.wr.length < 2 ^ 40) (w : World) (h : IsView w base b n wh o K s) :
    Calls Try.prog 15 #[.pointer (some ⟨b, 0, none⟩), .int .i64 (i : Int), .int .u32 (v : Int)] w fun e w' => e = .returned (.tuple #[]) /\ Left11 w base b n wh o K (putS n s (i : Int) v) w' := by
  have hn := h.nmax
  have hkl := (pos_some hk).1
  obtain ⟨c0, c1, c2, c3, c4, c5, c6, c7⟩ := h.cells
  obtain ⟨kk, D, e1, hown, hD⟩ := h.wvm
  obtain ⟨g, cap, hv, _, _⟩ := h.wrow.form (by omega)
  have hr := h.wrow
  rw [hv] at hr c4
  have d0 : w.cell? ⟨g, k * 2 + 1, none⟩ = some (.int .u32 ((atW s.wr k : Nat) : Int)) := (hr.cellAt _ (by omega)).trans (prVs_at s.wr k hkl).2
  have f0 := hr.frozenAt (k * 2 + 1)
  have hcap : s.wr.length <= cap /\ cap <= maxLen := by
    rcases hr.2 with ⟨h1, _⟩ | ⟨g', cap', cur, h1, _, _, h2, h3, _⟩
    · cases h1
    · injection h1 with _ _ h1; subst h1; exact ⟨h2, h3⟩
  obtain ⟨hc1, hc2⟩ := hcap
  unfold maxLen at hc2
  have hkey := kInt_of (c := (i : Int)) (wf_nat (by omega))
  have HH := hidp h
  have HO := hidp ho
  have HK := hidp hk
  have HV := hidp hv
  have HV32 := hidp hv32
  have HM : Hid (Maps.has D (kInt (i : Int)) = true) := hidp (by rw [hD.has]; simp [hk])
  have HA : Hid (∀ c : Int, D.atKey (kInt (i : Int)) (.lit (.int .i64 0)) = .lit (.int .i64 c) -> c = k) := hidp (fun c hc => by
    rw [hD.at_ i k hk] at hc
    injection hc with hc
    injection hc with _ hc
    exact hc.symm)
  have HW := hidp hown
  generalize atW s.wr k = x at *
  obtain ⟨m, hm⟩ : ∃ m, s.wr.length = m := ⟨_, rfl⟩
  have HMM := hidp hm
  rw [hm] at c4 hkl hlim hc1
  clear h ho hk hr hv hD c1 c2 c3 hown hm hv32 e1
  go_enter Try.func15, Try.ntmps15
  go_wp2_with fail
  refine (vopen_c (i : Int) _ HH.out).mono ?_
  rintro e w1 ⟨rfl, rfl⟩
  rw [HO.out]
  go_wp2_with (first
    | (at_lookup; refine wpList_lookup_own_ok_int _ rfl _ _ 64 rfl 3 3 .i64 intKey1 Try.underlying64 Try.underlying3 (zeroInt _) o.m2 kk D rfl HW.out _ _ rfl hkey ?_
       intro c hat hwc
       obtain rfl : c = (k : Int) := HA.out c hat
       rw [HM.out]
       clear hat hwc)
    | go_in)
  go_end0
  obtain ⟨k1, D1, k2, D2, e1, e2, e3, e4, hp⟩ := HH.out.parts
  have hkl' : k < s.wr.length := by rw [HMM.out]; exact hkl
  obtain ⟨hp1, ht1⟩ := hp.store (i := 1) (g := g) (cap := cap) (by omega) HV.out (k * 2 + 1) (.int .u32 (v : Int))
  have hok := HH.out.ok.put (a := (i : Int)) HV32.out
  rw [putS_yes HO.out, putW_some HK.out] at hok ⊢
  exact ⟨rfl, o, { parts := ⟨k1, D1, k2, D2, e1, by simp; omega, e3, e4.congr (fun j => by
                     have := pos_set s.wr k v j
                     rw [(pos_some HK.out).2] at this
                     exact this.symm), { hp1 with own := hp1.own.congr vN_set (vX_set hkl' (pos_some HK.out).2) }⟩, ok := hok, nmax := hn, k32 := HH.out.k32 }, fun g hg => .inl hg, ht1⟩

theorem vN_new (s : Vst) (i v : Nat) : ∀ j, j < 2 -> updF (vN s) 1 (s.wr.length + 1) j = vN { s with wr := s.wr ++ [(i, v)] } j := fun j hj => by
 match j, hj with
 | 0, _ => simp [updF, vN]
 | 1, _ => simp [updF, vN]
theorem vX_new (s : Vst) (i v : Nat) : ∀ j, j < 2 -> updF (updF (vX s) 1 (prVs s.wr ++ [Value.int .i64 (i : Int), Value.int .u32 0])) 1 ((updF (vX s) 1 (prVs s.wr ++ [Value.int .i64 (i : Int), Value.int .u32 0]) 1).set (s.wr.length * 2 + 1) (.int .u32 (v : Int))) j = vX { s with wr := s.wr ++ [(i, v)] } j := fun j hj => by
 match j, hj with
 | 0, _ => simp [updF, vX]
 | 1, _ =>
  rw [updF_same, updF_same]
  show (prVs s.wr ++ [Value.int .i64 (i : Int), Value.int .u32 0]).set (s.wr.length * 2 + 1) (.int .u32 (v : Int)) = prVs (s.wr ++ [(i, v)])
  have hl := prVs_len s.wr
  rw [prVs_snoc, List.set_append_right _ _ (by omega), hl]
  simp

theorem Put_new {base b n : Nat} {wh : Bool} {o : VGeo} {K : Nat -> Option Nat} {s : Vst} (i v : Nat) (ho : opn n s (i : Int) = true) (hk : pos s.wr i = none) (hi : i < n) (hv32 : v < 2 ^ 32) (hlim : s.wr.length < 2 ^ 40) (w : World) (h : IsView w base b n wh o K s) :
    Calls Try.prog 15 #[.pointer (some ⟨b, 0, none⟩), .int .i64 (i : Int), .int .u32 (v : Int)] w fun e w' => e = .returned (.tuple #[]) /\ Left11 w base b n wh o K (putS n s (i : Int) v) w' := by
  have hn := h.nmax
  obtain ⟨c0, c1, c2, c3, c4, c5, c6, c7⟩ := h.cells
  obtain ⟨k1, D1, kk, D, e1, e2, e3, hD, hp⟩ := h.parts
  obtain ⟨A, cap, hv⟩ := own_slice h.wrow
  rw [hv] at c4
  obtain ⟨i0, hin, hz0, hz1, hz2⟩ := info_parts pairInfo
  have hkey := kInt_of (c := (i : Int)) (wf_nat (by omega))
  have HH := hidp h
  have HO := hidp ho
  have HK := hidp hk
  have HV := hidp hv
  have HV32 := hidp hv32
  have HM : Hid (Maps.has D (kInt (i : Int)) = false) := hidp (by rw [hD.has]; simp [hk])
  have HP := hidp hp
  have HD := hidp (hD.put i s.wr.length)
  have HS := hidp e3
  have HE1 := hidp e1
  have hbl := hp.head.lt
  obtain ⟨m, hm⟩ : ∃ m, s.wr.length = m := ⟨_, rfl⟩
  have HMM := hidp hm
  rw [hm] at c4 hlim HD e2
  clear h ho hk hv hD c1 c2 c3 hp hm hv32 e1 e3
  go_enter Try.func15, Try.ntmps15
  go_wp2_with fail
  refine (vopen_c (i : Int) _ HH.out).mono ?_
  rintro e w1 ⟨rfl, rfl⟩
  rw [HO.out]
  go_wp2_with (first
    | (at_lookup; refine wpList_lookup_own_ok_int _ rfl _ _ 64 rfl 3 3 .i64 intKey1 Try.underlying64 Try.underlying3 (zeroInt _) o.m2 kk D rfl HP.out.m2 _ _ rfl hkey ?_
       intro c hat hwc
       rw [HM.out]
       clear hat hwc)
    | (at_mapUpdate; refine wpList_mapUpdate_own _ rfl _ _ _ 64 rfl 3 3 intKey1 Try.underlying64 _ o.m2 kk D rfl HP.out.m2 (by unfold maxLen; omega) _ _ _ rfl rfl hkey _ [] (plainElem_int Try.underlying3 (wf_nat (by omega))) ?_
       intro w2 hown1 hgrow1
       obtain ⟨hp2, ht2⟩ := HP.out.map2 hgrow1 hown1
       have c4' : w2.cell? ⟨b, 4, none⟩ = some (.slice A m cap) := (hp2.head.cell 4).trans (by rw [<- HMM.out, <- HV.out]; rfl)
       have HP2 := hidp hp2
       have HT2 := hidp ht2
       have hbl2 := hp2.head.lt
       clear hp2 ht2 hown1 hgrow1)
    | (at_builtin
       refine wpList_append_lies _ rfl _ _ 63 rfl base 68 i0 (.agg #[.int .i64 0, .int .u32 0]) 2 16 Try.underlying63 hin hz0 hz1 hz2 rfl (by decide) (.slice A m cap) m (prVs s.wr) rfl ?c0 ⟨_, 0, none⟩ 1 1 [.int .i64 (i : Int), .int .u32 0] rfl rfl ?c1 ?c2 (by omega) ?c3 ?c4 ?c5 _ rfl ?_
       case c0 =>
         have := HP2.out.own.own 1 (by omega)
         rw [HV.out] at this
         have := this.alloc (.cells #[.int .i64 (i : Int), .int .u32 0] 68)
         rw [<- HMM.out]
         exact this
       case c1 => intro j y hy; rcases j with _ | _ | j; (· simp at hy; subst hy; simp [Addr.add]); (· simp at hy; subst hy; simp [Addr.add]); (· simp at hy)
       case c2 => simp [Value.oneCell']
       case c3 => unfold maxLen; omega
       case c4 => omega
       case c5 => have := HP2.out.bb; have := HP2.out.head.lt; simp; omega
       intro g cap w4 hown4 hgrow4 hat4 hlt4
       obtain ⟨hp4, hA4, hT4⟩ := (HP2.out.keep (Bnew (B0 _) (.cells #[.int .i64 (i : Int), .int .u32 0] 68))).grow (i := 1) (by omega) hown4 (by rw [HV.out, HMM.out]; exact hgrow4) (fun q hq => by
         have hq : g = q := by simpa [Value.ownBlock] using hq
         subst hq
         rcases hat4 with h1 | h1
         · left; rw [HV.out, HMM.out]; exact h1
         · right; rw [h1]; exact Nat.le_refl _)
       have c4'' : w4.cell? ⟨b, 4, none⟩ = some (.slice A m _) := (hp4.head.cell 4).trans (by rw [<- HMM.out, <- HV.out]; rfl)
       have f4 := hp4.head.thawed 4
       have d4 : w4.cell? ⟨g, m * 2 + 1, none⟩ = some (.int .u32 0) := (hown4.cellAt _ (by omega)).trans (by
         rw [List.getElem?_append_right (by rw [prVs_len, HMM.out]; omega), prVs_len, HMM.out]
         simp)
       have f5 := hown4.frozenAt (m * 2 + 1)
       have hgb : ¬ g = b := fun e => hp4.own.notb 1 (by omega) (by rw [e]; rfl)
       have hbg : ¬ b = g := fun e => hgb e.symm
       have HG : Hid (o.F b g \/ w1.heap.size <= g) := hidp (by
         rcases hat4 with h1 | h1
         · left; exact .inl (.inr ⟨1, by omega, by rw [HV.out, HMM.out]; exact h1⟩)
         · right; have := HT2.out.size; simp at h1; omega)
       have HP4 := hidp hp4
       have HA4 := hidp hA4
       have HT4 := hidp (HT2.out.trans (((T0 (o.F b) w2).alloc (.cells #[.int .i64 (i : Int), .int .u32 0] 68)).trans hT4))
       clear hp4 hA4 hT4 hown4 hgrow4 hat4)
    | go_in)
  go_end0
  obtain ⟨hp5, ht5⟩ := HP4.out.setHead 4 (.slice (some ⟨g, 0, none⟩) (m + 1) cap)
  obtain ⟨hp6, ht6⟩ := hp5.store (i := 1) (g := g) (cap := cap) (by omega) rfl (m * 2 + 1) (.int .u32 (v : Int))
  have hok := HH.out.ok.put (a := (i : Int)) HV32.out
  rw [putS_yes HO.out, putW_none HK.out] at hok ⊢
  have hT5 := HT4.out.put (p := ⟨b, 4, none⟩) (.inl (.inl rfl)) (.slice (some ⟨g, 0, none⟩) (m + 1) cap)
  refine ⟨rfl, { o with v := updF o.v 1 (.slice (some ⟨g, 0, none⟩) (m + 1) cap) }, { parts := ⟨k1, D1, kk + 1, _, HE1.out, by simp; have := HMM.out; omega, HS.out, HD.out.congr (fun j => ?_), { hp6 with own := hp6.own.congr ?_ ?_ }⟩, ok := hok, nmax := hn, k32 := HH.out.k32 }, fun q hq => ?_, ?_⟩
  · have := pos_snoc v HK.out j
    rw [HMM.out] at this
    rw [this]
    unfold updF
    split <;> rfl
  · rw [<- HMM.out]
    exact vN_new s i v
  · rw [<- HMM.out]
    exact vX_new s i v
  · rcases HA4.out q hq with h1 | h1
    · exact .inl h1
    · have h2 := HT2.out.size
      simp at h1
      exact .inr (by omega)
  · rcases HG.out with h1 | h1
    · exact hT5.put (p := ⟨g, m * 2 + 1, none⟩) h1 _
    · exact hT5.put_new (p := ⟨g, m * 2 + 1, none⟩) h1 _

theorem VPut_c {base b n : Nat} {wh : Bool} {o : VGeo} {K : Nat -> Option Nat} {s : Vst} (a : Int) (v : Nat) (hv32 : v < 2 ^ 32) (h2 : s.wr.length < 2 ^ 40) (w : World) (h : IsView w base b n wh o K s) :
  Calls Try.prog 15 #[.pointer (some ⟨b, 0, none⟩), .int .i64 a, .int .u32 (v : Int)] w fun e w' => e = .returned (.tuple #[]) /\ Left11 w base b n wh o K (putS n s a v) w' := by
 by_cases ho : opn n s a = true
 ·obtain ⟨i, rfl, hi, hl⟩ := opn_at ho
  cases hp : pos s.wr i with
  | some k => exact Put_old i k v ho hp hi hv32 h2 w h
  | none => exact Put_new i v ho hp hi hv32 h2 w h
 ·have ho : opn n s a = false := by simpa using ho
  rw [putS_no ho]
  refine (Put_no a _ ho w h).mono ?_
  rintro e w1 ⟨rfl, rfl⟩
  exact ⟨rfl, Left11.same h⟩
end
end Go.Proofs.Ytlpcdfcghgapkaa

namespace Go.Proofs.Ytlpcdfcghgapkaa
open Go.ChangeShapes Go.WideShapes Go.ChangeAt Go.RowKit
set_option linter.unusedVariables false
set_option maxRecDepth 100000
set_option linter.unusedSimpArgs false
section
structure PairV where
 cell : Int
 val : Nat
instance : Inhabited PairV := ⟨⟨0, 0⟩⟩
def PairV.cells (a : PairV) : List Value := [.int .i64 a.cell, .int .u32 (a.val : Int)]
def PairVs (w : World) (A : Option Addr) (l : List PairV) : Prop :=
 ∀ i a, l[i]? = some a -> ∃ ad, A = some ad /\ ad.block < w.heap.size /\ ∀ j u, a.cells[j]? = some u -> w.cell? (ad.add (i * 2 + j)) = some u
theorem PairVs.below {w w' : World} {A : Option Addr} {l : List PairV} (h : PairVs w A l) (hb : Below w.heap.size w w') : PairVs w' A l := fun i a ha => by
 obtain ⟨ad, e, h1, h2⟩ := h i a ha
 exact ⟨ad, e, Nat.lt_of_lt_of_le h1 hb.size, fun j u hu => (hb.cell (p := ad.add (i * 2 + j)) (by rw [block_of_add]; exact h1)).trans (h2 j u hu)⟩
def PairVAt (w : World) (p : Addr) (a : PairV) : Prop :=
 w.cell? p = some (.int .i64 a.cell) /\ w.cell? ⟨p.block, p.off + 1, none⟩ = some (.int .u32 (a.val : Int))
theorem pairV_off (p : Addr) (j : Nat) (h : j ≠ 0) : p.add j = ⟨p.block, p.off + j, none⟩ := by unfold Addr.add; rw [if_neg h]
theorem PairVs.cells {w : World} {ad : Addr} {l : List PairV} (h : PairVs w (some ad) l) {i : Nat} {a : PairV} (ha : l[i]? = some a) : PairVAt w (ad.add (i * 2)) a := by
 obtain ⟨ad', e, _, h2⟩ := h i a ha
 injection e with e
 subst e
 have h10 := h2 0 _ rfl
 have h11 := h2 1 _ rfl
 rw [<- add_of_add] at h10 h11
 rw [pairV_off _ _ (by omega)] at h11
 exact ⟨h10, h11⟩

section
variable {H : Type} {enc : TypeId × Value -> H} {w : World} {base : Nat} {sp : Nat -> Bool} {held : Bool}
end
end
end Go.Proofs.Ytlpcdfcghgapkaa

namespace Go.Proofs.Ytlpcdfcghgapkaa
open Go.ChangeShapes Go.WideShapes Go.ChangeAt Go.RowKit Go.Maps
set_option linter.unusedVariables false
set_option maxRecDepth 100000
set_option linter.unusedSimpArgs false
section
theorem of_c (base n sb : Nat) (wh : Bool) (T : TypeId) (u : Value) (K : Nat -> Option Nat) (hn : n <= 2 ^ 40) (h32 : ∀ i x, K i = some x -> x < 2 ^ 32) (w : World)
  (hsb : base <= w.heap.size /\ base <= sb /\ (sb < w.heap.size \/ (wh = true /\ n = 0 /\ sb = w.heap.size + 2))) (hs : ∀ m1 m2 v, SrcIs w wh n ⟨m1, m2, sb, .iface T u, v⟩ K) :
  Calls Try.prog 32 #[.int .i64 (n : Int), .iface T u] w fun e w' => ∃ (b : Nat) (o : VGeo), e = .returned (.pointer (some ⟨b, 0, none⟩)) /\ IsView w' base b n wh o K freshS /\ w.heap.size <= b /\ (∀ g, o.A b g -> w.heap.size <= g \/ g = sb) /\ Below w.heap.size w w' := by
 have hmm := @run_makeMap Try.prog
 have HS := hidp hs
 have HSB := hidp hsb
 have H32 := hidp h32
 clear hs hsb h32
 go_enter Try.func32, Try.ntmps32
 go_wp2
 go_ret
 have hB1 := Bnew (B0 w) (.map #[] 0)
 have hB2 := Bnew hB1 (.map #[] 0)
 have hB3 := Bnew hB2 (.cells #[.int .i64 (n : Int), .iface T u, .slice none 0 0, .map (some w.heap.size), .slice none 0 0, .map (some (w.heap.size + 1)), .bool false, .int .i64 0] 66)
 have hz1 : (w.alloc (.map #[] 0)).heap.size = w.heap.size + 1 := by simp
 have hz2 : ((w.alloc (.map #[] 0)).alloc (.map #[] 0)).heap.size = w.heap.size + 2 := by simp
 have hm1 := (((World.ownsMap_made w Try.prog 3 (unitElem (H := Unit))).alloc (.map #[] 0)).alloc (.cells #[.int .i64 (n : Int), .iface T u, .slice none 0 0, .map (some w.heap.size), .slice none 0 0, .map (some (w.heap.size + 1)), .bool false, .int .i64 0] 66))
 have hm2 := (World.ownsMap_made (w.alloc (.map #[] 0)) Try.prog 3 (plainElem (H := Unit) Try.prog 3)).alloc (.cells #[.int .i64 (n : Int), .iface T u, .slice none 0 0, .map (some w.heap.size), .slice none 0 0, .map (some (w.heap.size + 1)), .bool false, .int .i64 0] 66)
 have hh := Held.new ((w.alloc (.map #[] 0)).alloc (.map #[] 0)) 66 #[.int .i64 (n : Int), .iface T u, .slice none 0 0, .map (some w.heap.size), .slice none 0 0, .map (some (w.heap.size + 1)), .bool false, .int .i64 0]
 rw [hz1] at hm2
 rw [hz2] at hh
 obtain ⟨q1, q2, q3⟩ := HSB.out
 have hF : ¬ ∃ i, i < 2 /\ (Value.slice none 0 0).ownBlock = some sb := by
  rintro ⟨i, _, h⟩
  simp [Value.ownBlock] at h
 have hsz := hh.lt
 refine ⟨w.heap.size + 2, ⟨w.heap.size, w.heap.size + 1, sb, .iface T u, fun _ => .slice none 0 0⟩, rfl, { parts := ⟨0, _, 0, _, Nat.zero_le _, Nat.zero_le _, SetIs.none, NumIs.none _, ?_⟩, ok := VOk.fresh n, nmax := hn, k32 := H32.out }, by omega, ?_, hB3⟩
 ·refine { head := hh, own := (OwnAll.nil _ base _ 2 vE vSz).congr (fun i hi => ?_) (fun i hi => ?_), m1 := hm1, m2 := hm2, src := ?_, bb := by omega, b1 := q1, b2 := Nat.le_succ_of_le q1, bs := q2, slt := by show sb < _; rcases q3 with h | ⟨_, _, h⟩ <;> (simp; omega), mm := by simp, s1 := by show sb ≠ w.heap.size; rcases q3 with h | ⟨_, _, h⟩ <;> omega, s2 := by show sb ≠ w.heap.size + 1; rcases q3 with h | ⟨_, _, h⟩ <;> omega, sF := ?_ }
  ·unfold vN freshS; split <;> rfl
  ·unfold vX freshS; split <;> rfl
  ·rcases q3 with h | ⟨rfl, rfl, h⟩
   ·exact (HS.out w.heap.size (w.heap.size + 1) (fun _ => .slice none 0 0)).same (hB3.block _ h) rfl rfl
   ·obtain ⟨A, c, e1, e2, e3, e4, e5⟩ := (HS.out 0 0 (fun _ => .slice none 0 0)).list
    exact ⟨A, c, e1, e2, e3, e4, fun hn => by omega⟩
  ·rcases q3 with h | ⟨h1, h2, h⟩
   ·refine .inr ?_
    rintro (h1 | h1)
    ·have h1 : sb = w.heap.size + 2 := h1
     omega
    ·exact hF h1
   ·exact .inl ⟨h1, h2⟩
 ·rintro g (((h | ⟨i, hi, h⟩) | h | h) | h)
  ·left; have h : g = w.heap.size + 2 := h; omega
  ·simp [Value.ownBlock] at h
  ·left; have h : g = w.heap.size := h; omega
  ·left; have h : g = w.heap.size + 1 := h; omega
  ·right; exact h

def valVs (l : List Nat) : List Value := l.map fun (n : Nat) => Value.int .u32 (n : Int)
theorem valVs_F (l : List Nat) : valVs l = (List.range l.length).map (valF fun i => (l[i]?).getD 0) := by
 apply List.ext_getElem?
 intro i
 unfold valVs valF
 rw [List.getElem?_map, List.getElem?_map]
 rcases Nat.lt_or_ge i l.length with h | h
 ·rw [List.getElem?_range h, List.getElem?_eq_getElem h]
  simp [h]
 ·rw [List.getElem?_eq_none h, List.getElem?_eq_none (by simpa using h)]
  rfl
theorem valVs_one (l : List Nat) : ∀ u ∈ valVs l, u.oneCell' = true := fun u hu => by
 obtain ⟨x, _, rfl⟩ := List.mem_map.1 hu
 rfl
def Made11 (n : Nat) (wh : Bool) (K : Nat -> Option Nat) (w : World) (e : Ending) (w' : World) : Prop :=
 ∃ (b : Nat) (o : VGeo), e = .returned (.pointer (some ⟨b, 0, none⟩)) /\ IsView w' w.heap.size b n wh o K freshS /\ Below w.heap.size w w'

theorem Whole_c (A : Option Addr) (c : Nat) (vals : List Nat) (n : Nat) (hl : vals.length = n) (hmx : n <= 2 ^ 40) (h32 : ∀ x ∈ vals, x < 2 ^ 32) (w : World)
  (hA : 0 < n -> ∃ ad, A = some ad /\ ∀ j u, (valVs vals)[j]? = some u -> w.cell? (ad.add j) = some u) :
  Calls Try.prog 13 #[.slice A n c] w (Made11 n true (fun i => vals[i]?) w) := by
 have HA := hidp hA
 have HL := hidp hl
 have H32 : Hid (∀ i x, vals[i]? = some x -> x < 2 ^ 32) := hidp (fun i x h => h32 x (List.mem_of_getElem? h))
 have HS : Hid (∀ i, i < n -> ∃ x, vals[i]? = some x /\ x < 2 ^ 32) := hidp (fun i hi => ⟨vals[i], List.getElem?_eq_getElem (by omega), h32 _ (List.getElem_mem _)⟩)
 clear hA hl h32
 go_enter Try.func13, Try.ntmps13
 go_wp2_with fail
 refine (CloneVals_c A n c (valVs vals) (by have := HL.out; simp [valVs]; omega) (by omega) (valVs_one _) _ HA.out).mono ?_
 rintro e w1 ⟨v, rfl, ho, _, hb⟩
 have HB := hidp hb
 rcases ho.2 with ⟨rfl, hz⟩ | ⟨g, cap, cur, rfl, hbg, hg, hnc, hcm, hcs, htake⟩
 ·subst hz
  clear ho hb
  go_wp2_with fail
  refine (of_c w.heap.size 0 (w1.heap.size + 2) true 50 (.slice none 0 0) (fun i => vals[i]?) (by omega) H32.out _ ⟨HB.out.size, by have := HB.out.size; omega, .inr ⟨rfl, rfl, rfl⟩⟩ (fun m1 m2 v => ⟨none, 0, rfl, Nat.le_refl _, Nat.zero_le _, HS.out, fun h => by omega⟩)).mono ?_
  rintro e w2 ⟨b, o, rfl, hI, _, hA, hb2⟩
  have HI := hidp hI
  have HB2 := hidp hb2
  clear hI hb2
  go_wp2
  go_ret
  exact ⟨b, o, rfl, HI.out, Bgo HB.out HB2.out⟩
 ·have hgl := (ho.lt g rfl).2
  have hr : RowF w1 g 32 n cap (valF fun i => (vals[i]?).getD 0) := by
   rw [valVs_F, HL.out] at ho
   exact (RowF.of_own ho).2
  have HR := hidp hr
  clear ho hb hg hcs htake hr
  go_wp2_with fail
  refine (of_c w.heap.size n g true 50 (.slice (some ⟨g, 0, none⟩) n cap) (fun i => vals[i]?) hmx H32.out _ ⟨HB.out.size, hbg, .inl hgl⟩ (fun m1 m2 v => ⟨_, cap, rfl, hnc, hcm, HS.out, fun h => ⟨rfl, HR.out⟩⟩)).mono ?_
  rintro e w2 ⟨b, o, rfl, hI, _, hA, hb2⟩
  have HI := hidp hI
  have HB2 := hidp hb2
  clear hI hb2
  go_wp2
  go_ret
  exact ⟨b, o, rfl, HI.out, Bgo HB.out HB2.out⟩
end
section
def toPV (l : List (Nat × Nat)) : List PairV := l.map fun p => ⟨(p.1 : Int), p.2⟩
theorem toPV_at {l : List (Nat × Nat)} {k : Nat} (h : k < l.length) : (toPV l)[k]? = some ⟨(cellW l k : Int), atW l k⟩ := by
 unfold toPV
 rw [List.getElem?_map, List.getElem?_eq_getElem h]
 simp [cellW, atW, List.getD, List.getElem?_eq_getElem h]
theorem pairs_of_own {w : World} {base m cap : Nat} {B : Option Addr} {l : List (Nat × Nat)} (h : w.ownsRow base 68 2 (.slice B m cap) m (prVs l)) (hl : l.length = m) : PairVs w B (toPV l) := fun i a ha => by
 have hi : i < l.length := by
  rcases Nat.lt_or_ge i l.length with h1 | h1
  ·exact h1
  ·rw [List.getElem?_eq_none (by simpa [toPV] using h1)] at ha; cases ha
 rw [toPV_at hi] at ha
 injection ha with ha
 subst ha
 obtain ⟨ad, e1, e2, e3⟩ := (Reads.of_own h).2 (by omega)
 obtain ⟨p1, p2⟩ := prVs_at l i hi
 refine ⟨ad, e1, e2, fun j u hu => ?_⟩
 unfold PairV.cells at hu
 rcases j with _ | _ | j
 ·simp at hu; subst hu; exact e3 _ _ p1
 ·simp at hu; subst hu; exact e3 _ _ p2
 ·simp at hu

theorem valF_upd (f : Nat -> Nat) (i v j : Nat) : updF (valF f) i (.int .u32 (v : Int)) j = valF (updF f i v) j := by
 by_cases e : j = i
 ·subst e; simp [valF, updF_same]
 ·simp [valF, updF_other _ _ e]
theorem vown_caps {w : World} {base size n c m : Nat} {e : TypeId} {A : Option Addr} {xs : List Value} (h : w.ownsRow base e size (.slice A n c) m xs) : m <= c /\ c <= maxLen := by
 rcases h.2 with ⟨h1, h2⟩ | ⟨g', cap', cur, h1, _, _, h2, h3, _⟩
 ·injection h1 with _ _ h1; subst h1; omega
 ·injection h1 with _ _ h1; subst h1; exact ⟨h2, h3⟩

theorem listBehind_c (A B : Option Addr) (n c m cap : Nat) (f : Nat -> Nat) (wl : List (Nat × Nat)) (hn : 0 < n) (hmx : n <= 2 ^ 40) (hl : wl.length = m) (hmc : m <= cap) (hcap : cap <= maxLen) (hlt : ∀ p ∈ wl, p.1 < n) (w : World)
  (hA : 0 < n -> ∃ ad, A = some ad /\ ∀ j u, ((List.range n).map (valF f))[j]? = some u -> w.cell? (ad.add j) = some u) (hB : PairVs w B (toPV wl)) :
  Calls Try.prog 104 #[.slice A n c, .slice B m cap] w fun e w' => ∃ g cp, e = .returned (.slice (some ⟨g, 0, none⟩) n cp) /\ w.heap.size <= g /\ RowF w' g 32 n cp (valF (foldW f wl)) /\ Below w.heap.size w w' := by
 have HB := hidp hB
 have HL := hidp hl
 have HLT := hidp hlt
 unfold maxLen at hcap
 have hone : ∀ u ∈ (List.range n).map (valF f), u.oneCell' = true := fun u hu => by
  obtain ⟨j, _, rfl⟩ := List.mem_map.1 hu
  rfl
 have HCL := hidp (CloneList_c A n c ((List.range n).map (valF f)) (by simp) (by omega) hone w hA)
 clear hA hB hl hlt hone
 go_enter Try.func104, Try.ntmps104
 go_wp2_with fail
 refine HCL.out.mono ?_
 rintro e w1 ⟨v, rfl, ho, _, hb⟩
 obtain ⟨g, cp, rfl, hg, _⟩ := ho.form hn
 have HR := hidp (RowF.of_own ho).2
 have HB1 := hidp hb
 have hcp := (RowF.of_own ho).2.max
 have hncp := (RowF.of_own ho).2.le
 unfold maxLen at hcp
 clear ho hb HCL
 go_wp2_with fail
 go_loopw [7, 12] (fun _ i wr => ∃ k : Nat, k <= m /\ i = .int .i64 k /\ Hid (RowF wr g 32 n cp (valF (foldW f (wl.take k)))) /\ Hid (Below w.heap.size w wr)) (fun _ i _ => m - (intOf i).toNat)
 case atStart => exact ⟨0, by omega, rfl, HR, HB1⟩
 case round =>
  clear HR HB1
  obtain ⟨k, hk, rfl, HR, HB1⟩ := hrel
  by_cases hlt : k < m
  ·have hkl : k < wl.length := by rw [HL.out]; exact hlt
   have hp := toPV_at hkl
   obtain ⟨ad, rfl, hadb, _⟩ := HB.out k _ hp
   obtain ⟨x0, x1⟩ := (HB.out.below HB1.out).cells hp
   simp only at x0 x1
   have hcn : cellW wl k < n := by
    have := HLT.out wl[k] (List.getElem_mem _)
    simpa [cellW, List.getD, List.getElem?_eq_getElem hkl] using this
   have HF := hidp (foldW_take (f := f) hkl)
   have d0 := HR.out.cell hcn
   have f0 := HR.out.thawed (cellW wl k)
   have hgl := HR.out.lt
   have hab : (ad.add (k * 2)).block < wr.heap.size := by rw [block_of_add]; have := HB1.out.size; omega
   unfold valF at d0
   clear hp hkl
   generalize cellW wl k = i at *
   generalize atW wl k = x at *
   generalize foldW f (wl.take k) i = y at *
   go_wp2
   go_roundw
   case rel => exact ⟨k + 1, by omega, by go_num, hidp (by
     rw [HF.out]
     refine ((HR.out.put hcn _).congr (fun j _ => ?_)).keep (Bnew (B0 _) _)
     exact valF_upd _ _ _ j), hidp (Bnew (Bput HB1.out (p := ⟨g, i, none⟩) hg _) _)⟩
   case measure => simp [intOf]; omega
  ·obtain rfl : k = m := by omega
   have HKL : Hid (wl.take k = wl) := hidp (List.take_of_length_le (by have := HL.out; omega))
   go_wp2
   go_ret
   exact ⟨g, cp, rfl, hg, by have := HR.out; rwa [HKL.out] at this, HB1.out⟩

theorem behind_list (A : Option Addr) (n c : Nat) (w : World) : (method 224 50 (.slice A n c) "nacre/view.behind").run Try.prog w = .ok (104, .slice A n c) w := by kernel_rfl
theorem vVals_some {base b n : Nat} {o : VGeo} {Kn : Nat -> Option Nat} {s : Vst} (hn : 0 < n) (hlim : s.wr.length < 2 ^ 40) (w : World) (h : IsView w base b n true o Kn s) :
  Calls Try.prog 16 #[.pointer (some ⟨b, 0, none⟩)] w fun e w' => ∃ g cp, e = .returned (.slice (some ⟨g, 0, none⟩) n cp) /\ w.heap.size <= g /\ RowF w' g 32 n cp (valF (nowV Kn s.wr)) /\ Below w.heap.size w w' := by
 obtain ⟨B, cap, hv⟩ := own_slice h.wrow
 obtain ⟨_, c1, _, _, c4, _, _, _⟩ := h.cells
 have hr := h.wrow
 rw [hv] at hr c4
 obtain ⟨A, c, hf, _, _, _, hR⟩ := h.src.list
 rw [hf] at c1
 have hnmx := h.nmax
 have HA : Hid (∀ w', Below w.heap.size w w' -> (0 < n -> ∃ ad, A = some ad /\ ∀ j u, ((List.range n).map (valF fun i => (Kn i).getD 0))[j]? = some u -> w'.cell? (ad.add j) = some u)) := hidp (fun w' hb hn => by
  obtain ⟨e1, e2⟩ := hR hn
  obtain ⟨ad, e3, _, e4⟩ := ((e2.keep hb).reads (B := w'.heap.size) (e2.keep hb).lt).2 hn
  exact ⟨ad, e1.trans e3, e4⟩)
 have HP : Hid (∀ w', Below w.heap.size w w' -> PairVs w' B (toPV s.wr)) := hidp (fun w' hb => (pairs_of_own hr rfl).below hb)
 have HLT : Hid (∀ p ∈ s.wr, p.1 < n) := hidp (fun p hp => (h.ok.wrLt p hp).1)
 have HF : Hid (foldW (fun i => (Kn i).getD 0) s.wr = nowV Kn s.wr) := hidp (by funext i; exact foldW_now h.ok i)
 obtain ⟨hmc, hcm⟩ := vown_caps hr
 obtain ⟨m, hm2⟩ : ∃ m, s.wr.length = m := ⟨_, rfl⟩
 have HM := hidp hm2
 rw [hm2] at c4 hmc
 clear h hr hv hf hm2 hR
 have hmt := behind_list
 go_enter Try.func16, Try.ntmps16
 go_wp2_with fail
 refine wp_region_held_drew (S := (fun w' => w'.cell? ⟨b, 1, none⟩ = some (.iface 50 (.slice A n c)) /\ w'.cell? ⟨b, 4, none⟩ = some (.slice B m cap))) (by kernel_rfl) ?_ (fun hHeld => ?_)
 ·(try dsimp only)
  first | exact ⟨c1, c4⟩ | exact ⟨hst _ _ hHeld.1, hst _ _ hHeld.2⟩ | exact hHeld
 refine tkz 0 ?_
 refine tkz 1 ?_
 refine tkz 2 ?_
 refine tkz 3 ?_
 refine tkz 4 ?_
 refine tkz 5 ?_
 refine tkz 6 ?_
 refine tkz 7 ?_
 refine tkz 8 ?_
 refine tkz 9 ?_
 refine rdz 10 fun K hK => ?_
 go_simp
 refine (listBehind_c A B n c m cap (fun i => (Kn i).getD 0) s.wr hn hnmx HM.out hmc hcm HLT.out _ (HA.out _ (Bdrew (B0 _))) (HP.out _ (Bdrew (B0 _)))).mono ?_; rintro e w2 ⟨g, cp, rfl, hg, hr2, hb⟩; have HR := hidp hr2; have HG := hidp hg; have HB := hidp (Bgo (Bdrew (B0 w)) hb); have hst := cells_stay hb; clear hr2 hb hg
 refine hK.out _ _ ?_ (fun hHeld => ?_)
 ·(try dsimp only)
  first | exact ⟨c1, c4⟩ | exact ⟨hst _ _ hHeld.1, hst _ _ hHeld.2⟩ | exact hHeld
 clear hK K
 (try simp only [Act.put, gA, gB, gC, sA, sB, sC])
 refine tkz 11 ?_
 refine dnz ?_
 go_wp2
 go_ret
 refine ⟨g, cp, rfl, HG.out, ?_, HB.out⟩
 have := HR.out
 rwa [HF.out] at this
end
end Go.Proofs.Ytlpcdfcghgapkaa

namespace Go.Proofs.Ytlpcdfcghgapkaa
open Go.ChangeShapes Go.WideShapes Go.ChangeAt Go.RowKit
set_option linter.unusedVariables false
set_option maxRecDepth 100000
set_option linter.unusedSimpArgs false
section
theorem valVs_len (l : List Nat) : (valVs l).length = l.length := by unfold valVs; simp
theorem valVs_at (l : List Nat) (k : Nat) (h : k < l.length) : (valVs l)[k]? = some (.int .u32 ((l.getD k 0 : Nat) : Int)) := by
 unfold valVs
 simp [List.getD, List.getElem?_eq_getElem h]
theorem Vals_same (xs : List Nat) (v u : Value) (w : World) (h1 : RowV w v (valVs xs)) (h2 : RowV w u (valVs xs)) :
  Calls Try.prog 5 #[v, u] w fun e w' => e = .returned (.bool true) /\ ∃ n, w' = w.drewN n := by
 have hm := h1.1
 unfold maxLen at hm
 rw [valVs_len] at hm
 by_cases hx : xs = []
 ·subst hx
  have hv : ∃ A c, v = .slice A 0 c := by
   rcases h1.2 with ⟨rfl, _⟩ | ⟨g, o, c, rfl, _⟩
   ·exact ⟨_, _, rfl⟩
   ·exact ⟨_, _, rfl⟩
  have hu : ∃ A c, u = .slice A 0 c := by
   rcases h2.2 with ⟨rfl, _⟩ | ⟨g, o, c, rfl, _⟩
   ·exact ⟨_, _, rfl⟩
   ·exact ⟨_, _, rfl⟩
  obtain ⟨A, c, rfl⟩ := hv
  obtain ⟨B, d, rfl⟩ := hu
  clear h1 h2
  go_enter Try.func5, Try.ntmps5
  go_wp2
  refine wp_loop_rounds 1 ?_
  rw [rounds_succ]
  go_wp2
  go_ret
  exact ⟨rfl, 0, rfl⟩
 ·rcases h1.2 with ⟨_, h⟩ | ⟨g, o, c, rfl, _, hc⟩
  ·exact absurd (by simpa [valVs] using h) hx
  rcases h2.2 with ⟨_, h⟩ | ⟨g2, o2, c2, rfl, _, hc2⟩
  ·exact absurd (by simpa [valVs] using h) hx
  have HC : Hid (∀ k, k < xs.length -> w.cell? ⟨g, o + k, none⟩ = some (.int .u32 ((xs.getD k 0 : Nat) : Int))) := hidp (fun k hk => hc k _ (valVs_at xs k hk))
  have HC2 : Hid (∀ k, k < xs.length -> w.cell? ⟨g2, o2 + k, none⟩ = some (.int .u32 ((xs.getD k 0 : Nat) : Int))) := hidp (fun k hk => hc2 k _ (valVs_at xs k hk))
  clear hc hc2 h1 h2 hx
  rw [valVs_len]
  generalize hn : xs.length = n at *
  clear hn
  go_enter Try.func5, Try.ntmps5
  go_wp2
  go_loopw [5] (fun i wr => ∃ k m : Nat, k <= n /\ i = .int .i64 k /\ wr = w.drewN m) (fun i _ => n - (intOf i).toNat)
  case atStart => exact ⟨0, 0, by omega, rfl, rfl⟩
  case round =>
   obtain ⟨k, m, hk, rfl, rfl⟩ := hrel
   by_cases hlt : k < n
   ·have c1 := HC.out k hlt
    have c2 := HC2.out k hlt
    generalize xs.getD k 0 = x at *
    go_wp2
    go_quiet (fail)
    go_wp2
    go_roundw
    case rel => exact ⟨k + 1, _, by omega, by go_num, rfl⟩
    case measure => simp [intOf]; omega
   ·go_wp2
    go_ret
    exact ⟨rfl, m, rfl⟩
end
end Go.Proofs.Ytlpcdfcghgapkaa

namespace Go.Proofs.Ytlpcdfcghgapkaa
open Go.ChangeShapes Go.WideShapes Go.ChangeAt Go.RowKit Go.Maps
set_option linter.unusedVariables false
set_option maxRecDepth 100000
section
structure Ob where
 I : World -> Vst -> (Nat -> Prop) -> Prop
 lt : ∀ {w : World} {s : Vst} {A : Nat -> Prop}, I w s A -> ∀ i, A i -> i < w.heap.size
 turns : ∀ {w w' : World} {s : Vst} {A G : Nat -> Prop}, I w s A -> Turns G w w' -> (∀ i, A i -> ¬ G i) -> I w' s A

def vOb (base b n : Nat) (wh : Bool) (K : Nat -> Option Nat) : Ob where
 I w s A := ∃ o, IsView w base b n wh o K s /\ A = o.A b
 lt := by
  rintro w s A ⟨o, h, rfl⟩
  exact h.lt
 turns := by
  rintro w w' s A G ⟨o, h, rfl⟩ ht hf
  exact ⟨o, h.turns ht hf, rfl⟩
def Ob.Left (O : Ob) (w : World) (A : Nat -> Prop) (s : Vst) (w' : World) : Prop := ∃ A', O.I w' s A' /\ (∀ g, A' g -> A g \/ w.heap.size <= g) /\ Turns A w w'
def Ob.At (O : Ob) (w0 : World) (A G : Nat -> Prop) (s : Vst) (w : World) : Prop :=
 ∃ A', O.I w s A' /\ (∀ g, A' g -> A g \/ w0.heap.size <= g) /\ Turns A w0 w /\ ∀ g, G g -> w0.heap.size <= g /\ g < w.heap.size /\ ¬ A' g
def Stay (G : Nat -> Prop) (w w' : World) : Prop := w.heap.size <= w'.heap.size /\ ∀ g, G g -> g < w.heap.size -> w'.heap[g]? = w.heap[g]?
def And1 (G : Nat -> Prop) (N : Nat) : Nat -> Prop := fun g => G g \/ g = N
section
variable {O : Ob} {w w' w0 : World} {A G : Nat -> Prop} {s s' : Vst} {N : Nat}
theorem Ob.keep {A : Nat -> Prop} (h : O.I w s A) (hb : Below w.heap.size w w') : O.I w' s A := O.turns h (Turns.of_below hb (fun _ => False)) (fun _ _ x => x)
theorem Ob.At.start (h : O.I w s A) : O.At w A (fun _ => False) s w := ⟨A, h, fun g hg => .inl hg, T0 _ _, fun g hg => hg.elim⟩
theorem Ob.At.keep (h : O.At w0 A G s w) (hb : Below w.heap.size w w') : O.At w0 A G s w' := by
 obtain ⟨A', h1, h2, h3, h4⟩ := h
 exact ⟨A', Ob.keep h1 hb, h2, h3.trans (Turns.of_below hb A), fun g hg => ⟨(h4 g hg).1, Nat.lt_of_lt_of_le (h4 g hg).2.1 hb.size, (h4 g hg).2.2⟩⟩
theorem Ob.At.alloc (h : O.At w0 A G s w) (o : Obj) : O.At w0 A G s (w.alloc o) := h.keep (Bnew (B0 w) o)
theorem Ob.At.drew (h : O.At w0 A G s w) : O.At w0 A G s w.drew := h.keep (Bdrew (B0 w))
theorem Ob.At.box (h : O.At w0 A G s w) (o : Obj) : O.At w0 A (And1 G w.heap.size) s (w.alloc o) := by
 obtain ⟨A', h1, h2, h3, h4⟩ := h
 have hs := h3.size
 refine ⟨A', Ob.keep h1 (Bnew (B0 w) o), h2, h3.alloc o, ?_⟩
 rintro g (hg | rfl)
 ·exact ⟨(h4 g hg).1, Nat.lt_of_lt_of_le (h4 g hg).2.1 (Bnew (B0 w) o).size, (h4 g hg).2.2⟩
 ·exact ⟨hs, by simp, fun x => by have := O.lt h1 _ x; omega⟩
theorem Ob.At.less {G' : Nat -> Prop} (h : O.At w0 A G s w) (hg : ∀ g, G' g -> G g) : O.At w0 A G' s w := by
 obtain ⟨A', h1, h2, h3, h4⟩ := h
 exact ⟨A', h1, h2, h3, fun g x => h4 g (hg g x)⟩
theorem Ob.At.call (h : O.At w0 A G s w) {P : Program} {f : FuncId} {args : Array Value} {R : Ending -> Prop} (hc : ∀ B, O.I w s B -> Calls P f args w fun e w' => R e /\ O.Left w B s' w') :
  Calls P f args w fun e w' => R e /\ O.At w0 A G s' w' /\ Stay G w w' := by
 obtain ⟨A', h1, h2, h3, h4⟩ := h
 refine (hc A' h1).mono ?_
 rintro e w' ⟨hr, B, k1, k2, k3⟩
 have hs := h3.size
 refine ⟨hr, ⟨B, k1, fun g hg => ?_, k3.more_new hs h3 h2, fun g hg => ?_⟩, k3.size, fun g hg hl => k3.block g hl (h4 g hg).2.2⟩
 ·rcases k2 g hg with h5 | h5
  ·exact h2 g h5
  ·exact .inr (by omega)
 ·refine ⟨(h4 g hg).1, Nat.lt_of_lt_of_le (h4 g hg).2.1 k3.size, fun x => ?_⟩
  rcases k2 g x with h5 | h5
  ·exact (h4 g hg).2.2 h5
  ·have := (h4 g hg).2.1; omega
theorem Stay.of_below (hb : Below w.heap.size w w') (G : Nat -> Prop) : Stay G w w' := ⟨hb.size, fun g _ hl => hb.block g hl⟩
theorem Stay.trans {w'' : World} (h : Stay G w w') (k : Stay G w' w'') : Stay G w w'' := ⟨Nat.le_trans h.1 k.1, fun g hg hl => (k.2 g hg (Nat.lt_of_lt_of_le hl h.1)).trans (h.2 g hg hl)⟩
theorem Stay.less {G' : Nat -> Prop} (h : Stay G w w') (hg : ∀ g, G' g -> G g) : Stay G' w w' := ⟨h.1, fun g x hl => h.2 g (hg g x) hl⟩
theorem Stay.held {g : Nat} {t : TypeId} {cs : Array Value} (h : Stay G w w') (hg : G g) (hh : Held w g t cs) : Held w' g t cs := (h.2 g hg hh.lt).trans hh
end

theorem nodup_few : ∀ (n : Nat) (l : List Nat), (∀ i ∈ l, i < n) -> l.Nodup -> l.length <= n
 | 0, l, h, _ => by
  cases l with
  | nil => simp
  | cons a r => have := h a (List.mem_cons_self ..); omega
 | n + 1, l, h, hd => by
  by_cases hn : n ∈ l
  ·have h1 := nodup_few n (l.erase n) (fun i hi => by
    have h2 := (hd.mem_erase_iff).1 hi
    have h3 := h i h2.2
    have h4 := h2.1
    omega) (hd.erase n)
   rw [List.length_erase_of_mem hn] at h1
   omega
  ·have h1 := nodup_few n l (fun i hi => by
    have h3 := h i hi
    have h4 : i ≠ n := fun e => hn (e ▸ hi)
    omega) hd
   omega
theorem VOk.few {n : Nat} {s : Vst} (h : VOk n s) : s.rd.length <= n /\ s.wr.length <= n := by
 refine ⟨nodup_few _ _ h.rdLt h.rdNd, ?_⟩
 have : (s.wr.map (·.1)).length <= n := by
  refine nodup_few _ _ (fun i hi => ?_) ?_
  ·obtain ⟨p, hp, rfl⟩ := List.mem_map.1 hi
   exact (h.wrLt p hp).1
  ·unfold List.Nodup
   rw [List.pairwise_iff_getElem]
   intro i j hi hj hij e
   have hj' : j < s.wr.length := by simpa using hj
   have h1 := h.wrNd i (by omega)
   have h2 := h.wrNd j hj'
   have e1 : cellW s.wr i = cellW s.wr j := by
    unfold cellW
    simp [List.getD, List.getElem?_eq_getElem (show i < s.wr.length by omega), List.getElem?_eq_getElem hj'] at e ⊢
    exact e
   rw [e1, h2] at h1
   injection h1 with h1
   omega
 simpa using this

section
variable {base b n : Nat} {wh all : Bool} {K : Nat -> Option Nat} {s : Vst} {w w0 : World} {A G : Nat -> Prop}
theorem vGetA (hn : n < 2 ^ 40) (a : Int) (h : (vOb base b n wh K).At w0 A G s w) :
  Calls Try.prog 78 #[.pointer (some ⟨b, 0, none⟩), .int .i64 a] w fun e w' => e = .returned (.int .u32 ((getV n K s a : Nat) : Int)) /\ (vOb base b n wh K).At w0 A G (getS n K s a) w' /\ Stay G w w' := by
 refine h.call ?_
 rintro B ⟨o, hI, rfl⟩
 refine (VGet_c a (by have := hI.ok.few; omega) (by have := hI.ok.few; omega) w hI).mono ?_
 rintro e w' ⟨rfl, o', h1, h2, h3⟩
 exact ⟨rfl, _, ⟨o', h1, rfl⟩, h2, h3.more (fun i hi => .inl hi)⟩
theorem vPutA (hn : n < 2 ^ 40) (a : Int) (v : Nat) (hv : v < 2 ^ 32) (h : (vOb base b n wh K).At w0 A G s w) :
  Calls Try.prog 15 #[.pointer (some ⟨b, 0, none⟩), .int .i64 a, .int .u32 (v : Int)] w fun e w' => e = .returned (.tuple #[]) /\ (vOb base b n wh K).At w0 A G (putS n s a v) w' /\ Stay G w w' := by
 refine h.call ?_
 rintro B ⟨o, hI, rfl⟩
 refine (VPut_c a v hv (by have := hI.ok.few; omega) w hI).mono ?_
 rintro e w' ⟨rfl, o', h1, h2, h3⟩
 exact ⟨rfl, _, ⟨o', h1, rfl⟩, h2, h3.more (fun i hi => .inl hi)⟩
end
end
end Go.Proofs.Ytlpcdfcghgapkaa

namespace Go.Proofs.Ytlpcdfcghgapkaa.HM

theorem bit_eq (x k : Nat) : x / 2 ^ k % 2 = (x.testBit k).toNat := by
 rw [Nat.testBit_eq_decide_div_mod_eq]
 rcases Nat.mod_two_eq_zero_or_one (x / 2 ^ k) with h | h <;> simp [h]

def putN (w a k v : Nat) : Nat := (w &&& (2 ^ 64 - 1 - (2 ^ k - 1) * 2 ^ a)) ||| v * 2 ^ a

theorem mask_lt (a k : Nat) (h : a + k <= 64) : (2 ^ k - 1) * 2 ^ a < 2 ^ 64 := by
 have h1 : (2 ^ k - 1) * 2 ^ a < 2 ^ k * 2 ^ a := (Nat.mul_lt_mul_right (Nat.two_pow_pos a)).2 (by have := Nat.two_pow_pos k; omega)
 rw [<- Nat.pow_add] at h1
 exact Nat.lt_of_lt_of_le h1 (Nat.pow_le_pow_right (by omega) (by omega))

theorem bit_putN (w a k v i : Nat) (h : a + k <= 64) (hv : v < 2 ^ k) (hi : i < 64) : (putN w a k v).testBit i = if a <= i /\ i < a + k then v.testBit (i - a) else w.testBit i := by
 unfold putN
 rw [Nat.testBit_or, Nat.testBit_and, Nat.sub_sub, Nat.add_comm 1, Nat.testBit_two_pow_sub_succ (mask_lt a k h), Nat.testBit_mul_two_pow, Nat.testBit_mul_two_pow, Nat.testBit_two_pow_sub_one]
 by_cases h1 : a <= i
 ·by_cases h2 : i < a + k
  ·have h3 : i - a < k := by omega
   simp [h1, h2, h3, hi]
  ·have h3 : ¬ i - a < k := by omega
   have h4 : v.testBit (i - a) = false := Nat.testBit_lt_two_pow (Nat.lt_of_lt_of_le hv (Nat.pow_le_pow_right (by omega) (by omega)))
   simp [h1, h2, h3, h4, hi]
 ·simp [h1, hi]

theorem putN_lt (w a k v : Nat) (h : a + k <= 64) (hv : v < 2 ^ k) : putN w a k v < 2 ^ 64 := by
 have h1 : v * 2 ^ a < 2 ^ 64 := by
  have h2 : v * 2 ^ a < 2 ^ k * 2 ^ a := (Nat.mul_lt_mul_right (Nat.two_pow_pos a)).2 hv
  rw [<- Nat.pow_add] at h2
  exact Nat.lt_of_lt_of_le h2 (Nat.pow_le_pow_right (by omega) (by omega))
 unfold putN
 refine Nat.or_lt_two_pow (Nat.lt_of_le_of_lt Nat.and_le_right ?_) h1
 have := Nat.two_pow_pos 64
 omega

theorem bit_high {x i : Nat} (h : x < 2 ^ 64) (hi : 64 <= i) : x.testBit i = false :=
 Nat.testBit_lt_two_pow (Nat.lt_of_lt_of_le h (Nat.pow_le_pow_right (by omega) hi))

def logI (n : Int) : Int := if n < 1 then -1 else (Nat.log2 n.toNat : Int)
theorem logI_at (n : Int) (k : Nat) (h1 : 1 <= n / 2 ^ k) (h2 : n / 2 ^ (k + 1) < 1) : logI n = k := by
 have hp : (0 : Int) < 2 ^ k := Int.pow_pos (by omega)
 have hn : 1 <= n := by
  have h3 := (Int.le_ediv_iff_mul_le hp).1 h1
  omega
 obtain ⟨m, rfl⟩ := Int.eq_ofNat_of_zero_le (show 0 <= n by omega)
 unfold logI
 rw [if_neg (by omega), Int.toNat_natCast]
 have h4 : 2 ^ k <= m := by
  have h3 := (Int.le_ediv_iff_mul_le hp).1 h1
  rw [Int.one_mul] at h3
  exact_mod_cast h3
 have h5 : m < 2 ^ (k + 1) := by
  have h3 := (Int.ediv_lt_iff_lt_mul (Int.pow_pos (by omega))).1 h2
  rw [Int.one_mul] at h3
  exact_mod_cast h3
 have : m ≠ 0 := by have := Nat.two_pow_pos k; omega
 have e : Nat.log2 m = k := by
  rw [Nat.log2_eq_iff this]
  exact ⟨h4, h5⟩
 rw [e]
theorem logI_no (n : Int) (h : n < 1) : logI n = -1 := by unfold logI; rw [if_pos h]

end Go.Proofs.Ytlpcdfcghgapkaa.HM

namespace Go.Proofs.Ytlpcdfcghgapkaa
open Go.ChangeShapes Go.WideShapes Go.ChangeAt Go.RowKit
set_option linter.unusedVariables false
section
def fieldB (a k : Int) : Bool := decide (0 <= a /\ 1 <= k /\ a <= 64 - k)
theorem fieldB_yes {a k : Int} (h0 : 0 <= a) (h1 : 1 <= k) (h2 : a <= 64 - k) : fieldB a k = true := by unfold fieldB; simp [h0, h1, h2]
theorem fieldB_no {a k : Int} (h : ¬ (0 <= a /\ 1 <= k /\ a <= 64 - k)) : fieldB a k = false := by unfold fieldB; exact decide_eq_false h
theorem isField_c (a k : Int) (ha : -9223372036854775808 <= a) (ha' : a <= 9223372036854775807) (hk : -9223372036854775808 <= k) (hk' : k <= 9223372036854775807) (w : World) :
  Calls Try.prog 76 #[.int .i64 a, .int .i64 k] w fun e w' => e = .returned (.bool (fieldB a k)) /\ w = w' := by
 by_cases h0 : 0 <= a
 ·by_cases h1 : 1 <= k
  ·by_cases h2 : a <= 64 - k
   ·have H := hidp (fieldB_yes (a := a) (k := k) (by omega) (by omega) (by omega))
    go_enter Try.func76, Try.ntmps76
    go_wp2
    go_ret
    exact ⟨by rw [H.out]; rfl, rfl⟩
   ·have H := hidp (fieldB_no (a := a) (k := k) (by omega))
    go_enter Try.func76, Try.ntmps76
    go_wp2
    go_ret
    exact ⟨by rw [H.out]; rfl, rfl⟩
  ·have H := hidp (fieldB_no (a := a) (k := k) (by omega))
   go_enter Try.func76, Try.ntmps76
   go_wp2
   go_ret
   exact ⟨by rw [H.out]; rfl, rfl⟩
 ·have H := hidp (fieldB_no (a := a) (k := k) (by omega))
  go_enter Try.func76, Try.ntmps76
  go_wp2
  go_ret
  exact ⟨by rw [H.out]; rfl, rfl⟩
theorem low_wrap : ∀ k : Fin 65, 1 <= k.val -> IntKind.u64.wrap (IntKind.u64.wrap (2 ^ k.val) - 1) = ((2 ^ k.val - 1 : Nat) : Int) := by decide +kernel
theorem lowBits_c (k : Int) (h0 : 1 <= k) (h1 : k <= 64) (w : World) :
  Calls Try.prog 77 #[.int .i64 k] w fun e w' => e = .returned (.int .u64 ((2 ^ k.toNat - 1 : Nat) : Int)) /\ w = w' := by
 have H := hidp (low_wrap ⟨k.toNat, by omega⟩ (by simp; omega))
 go_enter Try.func77, Try.ntmps77
 go_wp2
 go_ret
 exact ⟨ret_int H.out, rfl⟩
theorem odd_bit (v k : Nat) : ((((v / 2 ^ k % 2 : Nat) : Int)) == 1) = v.testBit k := by
 rw [HM.bit_eq]
 cases v.testBit k <;> rfl
theorem Bit_c (v : Nat) (i : Int) (b : Bool) (hv : v < 2 ^ 32) (h0 : 0 <= i) (h1 : i < 32) (hb : v.testBit i.toNat = b) (w : World) :
  Calls Try.prog 83 #[.int .u32 (v : Int), .int .i64 i] w fun e w' => e = .returned (.bool b) /\ w = w' := by
 have H := hidp hb
 clear hb
 go_enter Try.func83, Try.ntmps83
 go_wp2
 go_ret
 exact ⟨ret_bool (by rw [shr_cast, tmod_two, odd_bit, H.out]), rfl⟩
theorem Log_c (n : Int) (h0 : -9223372036854775808 <= n) (h1 : n <= 9223372036854775807) (w : World) :
  Calls Try.prog 67 #[.int .i64 n] w fun e w' => e = .returned (.int .i64 (HM.logI n)) /\ w = w' := by
 go_enter Try.func67, Try.ntmps67
 go_wp2
 go_loop [3, 5] (fun l i => ∃ k : Nat, k <= 63 /\ i = .int .i64 k /\ l = .int .i64 ((k : Int) - 1) /\ Hid (0 < k -> 1 <= n / 2 ^ (k - 1))) (fun _ i => 63 - (intOf i).toNat)
 case atStart => exact ⟨0, by omega, rfl, rfl, hidp (fun h => absurd h (by omega))⟩
 case round =>
  obtain ⟨k, hk, rfl, rfl, HF⟩ := hrel
  by_cases hlt : n / 2 ^ k < 1
  ·have HL : Hid (HM.logI n = (k : Int) - 1) := by
    by_cases hk0 : k = 0
    ·subst hk0
     exact hidp (HM.logI_no n (by simpa using hlt))
    ·have hs : k - 1 + 1 = k := by omega
     refine hidp ((HM.logI_at n (k - 1) (HF.out (by omega)) (by rw [hs]; exact hlt)).trans (by omega))
   go_wp2
   go_ret
   exact ⟨ret_int HL.out.symm, rfl⟩
  ·have hk2 : k < 63 := by
    rcases Nat.lt_or_ge k 63 with h | h
    ·exact h
    ·obtain rfl : k = 63 := by omega
     exact absurd (show n / 2 ^ 63 < 1 from by omega) hlt
   have HN := hidp hlt
   go_wp2
   go_round
   case rel => exact ⟨k + 1, by omega, by go_num, by go_num, hidp (fun _ => by have := HN.out; simp only [Nat.add_sub_cancel]; omega)⟩
   case measure => simp [intOf]; omega
theorem RLog_c (n : Int) (h0 : -9223372036854775808 <= n) (h1 : n <= 9223372036854775807) (w : World) :
  Calls Try.prog 43 #[.int .i64 n] w fun e w' => e = .returned (.int .i64 (HM.logI n)) /\ w = w' := by
 go_enter Try.func43, Try.ntmps43
 go_wp2
 go_loop [0, 3] (fun m l => ∃ (q : Int) (k : Nat), k <= 63 /\ m = .int .i64 q /\ -9223372036854775808 <= q /\ q <= 9223372036854775807 /\ Hid (q = n / 2 ^ k) /\ l = .int .i64 ((k : Int) - 1) /\ Hid (0 < k -> 1 <= n / 2 ^ (k - 1))) (fun m _ => (intOf m).toNat)
 case atStart => exact ⟨n, 0, by omega, rfl, h0, h1, hidp (by simp), rfl, hidp (fun h => absurd h (by omega))⟩
 case round =>
  obtain ⟨q, k, hk, rfl, hq0, hq1, HQ, rfl, HF⟩ := hrel
  by_cases hlt : q < 1
  ·have HL : Hid (HM.logI n = (k : Int) - 1) := by
    have hq := HQ.out
    by_cases hk0 : k = 0
    ·subst hk0
     exact hidp (HM.logI_no n (by rw [hq] at hlt; simpa using hlt))
    ·have hs : k - 1 + 1 = k := by omega
     refine hidp ((HM.logI_at n (k - 1) (HF.out (by omega)) (by rw [hs, <- hq]; exact hlt)).trans (by omega))
   go_wp2
   go_ret
   exact ⟨ret_int HL.out.symm, rfl⟩
  ·have hk2 : k < 63 := by
    rcases Nat.lt_or_ge k 63 with h | h
    ·exact h
    ·obtain rfl : k = 63 := by omega
     have hq := HQ.out
     omega
   have HS : Hid (q / 2 = n / 2 ^ (k + 1)) := hidp (by rw [HQ.out, Int.pow_succ, Int.ediv_ediv_of_nonneg (Int.le_of_lt (Int.pow_pos (by omega)))])
   have hp : 1 <= q := by omega
   clear hlt
   go_wp2
   go_round
   case rel => exact ⟨q / 2, k + 1, by omega, rfl, by omega, by omega, HS, by go_num, hidp (fun _ => by have := HQ.out; simp only [Nat.add_sub_cancel]; omega)⟩
   case measure => simp [intOf]; omega
theorem join_or (h l : Nat) (hh : h < 2 ^ 32) (hl : l < 2 ^ 32) : bits .or .u64 ((h : Int) * 4294967296) (l : Int) = ((h * 4294967296 + l : Nat) : Int) := by
 have e : (h : Int) * 4294967296 = ((h * 4294967296 : Nat) : Int) := by omega
 rw [e, u64_or_nat _ _ (by omega) (by omega), nat_join 32 _ _ (by omega) hl]
theorem join_sum (h l : Nat) (hh : h < 2 ^ 32) (hl : l < 2 ^ 32) : (h : Int) * 4294967296 + (l : Int) = ((h * 4294967296 + l : Nat) : Int) := by omega
theorem Join_c (h l : Nat) (hh : h < 2 ^ 32) (hl : l < 2 ^ 32) (w : World) :
  Calls Try.prog 49 #[.int .u32 (h : Int), .int .u32 (l : Int)] w fun e w' => e = .returned (.int .u64 ((h * 4294967296 + l : Nat) : Int)) /\ w = w' := by
 go_enter Try.func49, Try.ntmps49
 go_wp2
 go_ret
 exact ⟨ret_int (join_or h l hh hl), rfl⟩
theorem RJoin_c (h l : Nat) (hh : h < 2 ^ 32) (hl : l < 2 ^ 32) (w : World) :
  Calls Try.prog 30 #[.int .u32 (h : Int), .int .u32 (l : Int)] w fun e w' => e = .returned (.int .u64 ((h * 4294967296 + l : Nat) : Int)) /\ w = w' := by
 go_enter Try.func30, Try.ntmps30
 go_wp2
 go_ret
 exact ⟨ret_int (join_sum h l hh hl), rfl⟩
theorem RHi_c (x : Nat) (hx : x < 2 ^ 64) (w : World) :
  Calls Try.prog 85 #[.int .u64 (x : Int)] w fun e w' => e = .returned (.int .u32 ((x / 4294967296 : Nat) : Int)) /\ w = w' := by
 go_enter Try.func85, Try.ntmps85
 go_wp2
 go_ret
 exact ⟨ret_int (by first | omega | (rw [Int.tmod_eq_emod_of_nonneg (by omega)]; omega) | (rw [IntKind.wrap_u32]; omega)), rfl⟩
theorem Lo_c (x : Nat) (hx : x < 2 ^ 64) (w : World) :
  Calls Try.prog 58 #[.int .u64 (x : Int)] w fun e w' => e = .returned (.int .u32 ((x % 4294967296 : Nat) : Int)) /\ w = w' := by
 go_enter Try.func58, Try.ntmps58
 go_wp2
 go_ret
 exact ⟨ret_int (by first | omega | (rw [Int.tmod_eq_emod_of_nonneg (by omega)]; omega) | (rw [IntKind.wrap_u32]; omega)), rfl⟩
theorem RLo_c (x : Nat) (hx : x < 2 ^ 64) (w : World) :
  Calls Try.prog 84 #[.int .u64 (x : Int)] w fun e w' => e = .returned (.int .u32 ((x % 4294967296 : Nat) : Int)) /\ w = w' := by
 go_enter Try.func84, Try.ntmps84
 go_wp2
 go_ret
 exact ⟨ret_int (by first | omega | (rw [Int.tmod_eq_emod_of_nonneg (by omega)]; omega) | (rw [IntKind.wrap_u32]; omega)), rfl⟩
theorem field_nat {a k : Int} (h : fieldB a k = true) : ∃ a' k' : Nat, a = a' /\ k = k' /\ 1 <= k' /\ a' + k' <= 64 := by
 unfold fieldB at h
 have := of_decide_eq_true h
 exact ⟨a.toNat, k.toNat, by omega, by omega, by omega, by omega⟩
def putOk (a k : Int) (v : Nat) : Bool := fieldB a k && decide (v < 2 ^ k.toNat)
def putI (x : Nat) (a k : Int) (v : Nat) : Nat := if putOk a k v then HM.putN x a.toNat k.toNat v else 0
theorem wrap_nat (n : Nat) (h : n < 2 ^ 64) : IntKind.u64.wrap (n : Int) = (n : Int) := by
 simp only [IntKind.wrap, IntKind.bits, IntKind.signed]; simp; omega
theorem put_bits (x a k v : Nat) (hx : x < 2 ^ 64) (h : a + k <= 64) (hv : v < 2 ^ k) :
  bits .or .u64 (bits .andNot .u64 (x : Int) (IntKind.u64.wrap (((2 ^ k - 1 : Nat) : Int) * 2 ^ a))) (IntKind.u64.wrap ((v : Int) * 2 ^ a)) = ((HM.putN x a k v : Nat) : Int) := by
 have h1 := HM.mask_lt a k h
 have h2 : v * 2 ^ a < 2 ^ 64 := Nat.lt_of_le_of_lt (Nat.mul_le_mul_right _ (by omega)) h1
 have e1 : ((2 ^ k - 1 : Nat) : Int) * 2 ^ a = (((2 ^ k - 1) * 2 ^ a : Nat) : Int) := by rw [Int.natCast_mul, Int.natCast_pow]; rfl
 have e2 : (v : Int) * 2 ^ a = ((v * 2 ^ a : Nat) : Int) := by rw [Int.natCast_mul, Int.natCast_pow]; rfl
 rw [e1, e2, wrap_nat _ h1, wrap_nat _ h2, u64_andNot_nat _ _ hx h1, u64_or_nat _ _ (Nat.lt_of_le_of_lt Nat.and_le_left hx) h2]
 rfl
theorem Put_c (x v : Nat) (a k : Int) (hx : x < 2 ^ 64) (hv : v < 2 ^ 64) (ha : -9223372036854775808 <= a) (ha' : a <= 9223372036854775807) (hk : -9223372036854775808 <= k) (hk' : k <= 9223372036854775807) (w : World) :
  Calls Try.prog 57 #[.int .u64 (x : Int), .int .i64 a, .int .i64 k, .int .u64 (v : Int)] w fun e w' => e = .returned (.tuple #[.int .u64 ((putI x a k v : Nat) : Int), .bool (putOk a k v)]) /\ ∃ n, w' = w.drewN n := by
 cases hf : fieldB a k
 ·have H := hidp hf
  clear hf
  go_enter Try.func57, Try.ntmps57
  go_wp2_with (go_at_call 76; refine (isField_c a k ha ha' hk hk' _).mono ?_; rintro e w' ⟨rfl, rfl⟩; rw [H.out])
  go_ret2
  exact ⟨by unfold putI putOk; rw [H.out]; rfl, 0, rfl⟩
 ·have H := hidp hf
  obtain ⟨a', k', rfl, rfl, h1, h2⟩ := field_nat hf
  clear hf
  by_cases hlt : v < 2 ^ k'
  ·have HO : Hid (putOk a' k' v = true) := hidp (by unfold putOk; rw [H.out, Int.toNat_natCast]; simp [hlt])
   have HP : Hid (putI x a' k' v = HM.putN x a' k' v) := hidp (by unfold putI; rw [HO.out, if_pos rfl, Int.toNat_natCast, Int.toNat_natCast])
   have HB := hidp (put_bits x a' k' v hx h2 hlt)
   have hng : ¬ (((2 ^ k' - 1 : Nat) : Int) < (v : Int)) := by omega
   go_enter Try.func57, Try.ntmps57
   go_wp2_with (first | (go_at_call 76; refine (isField_c a' k' ha ha' hk hk' _).mono ?_; rintro e w' ⟨rfl, rfl⟩; rw [H.out]) | (go_at_call 77; refine (lowBits_c k' (by omega) (by omega) _).mono ?_; rintro e w' ⟨rfl, rfl⟩; rw [Int.toNat_natCast]))
   go_quiet ((go_at_call 77; exact quiet_same (lowBits_c k' (by omega) (by omega) _)))
   go_wp2
   go_ret2
   exact ⟨by rw [HO.out, HP.out, <- HB.out]; rfl, nq, rfl⟩
  ·have HO : Hid (putOk a' k' v = false) := hidp (by unfold putOk; rw [H.out, Int.toNat_natCast]; simp [hlt])
   have HP : Hid (putI x a' k' v = 0) := hidp (by unfold putI; rw [HO.out]; rfl)
   have hg : (((2 ^ k' - 1 : Nat) : Int) < (v : Int)) := by have := Nat.two_pow_pos k'; omega
   go_enter Try.func57, Try.ntmps57
   go_wp2_with (first | (go_at_call 76; refine (isField_c a' k' ha ha' hk hk' _).mono ?_; rintro e w' ⟨rfl, rfl⟩; rw [H.out]) | (go_at_call 77; refine (lowBits_c k' (by omega) (by omega) _).mono ?_; rintro e w' ⟨rfl, rfl⟩; rw [Int.toNat_natCast]))
   go_ret2
   exact ⟨by rw [HO.out, HP.out]; rfl, 0, rfl⟩
end
section
def outB (v l m : Int) : Bool := decide (v < l \/ m < v)
theorem outB_lt {v l m : Int} (h : v < l) : outB v l m = true := by unfold outB; simp [h]
theorem outB_gt {v l m : Int} (h : m < v) : outB v l m = true := by unfold outB; simp [h]
theorem outB_no {v l m : Int} (h : l <= v) (h' : v <= m) : outB v l m = false := by unfold outB; exact decide_eq_false (by omega)
def rightB (t p s : Int) : Bool := !(outB t 1 16) && (!(outB p 4 1024) && !(outB s 10 20))
theorem rightB_iff (t p s : Int) : rightB t p s = true ↔ (1 <= t /\ t <= 16) /\ (4 <= p /\ p <= 1024) /\ 10 <= s /\ s <= 20 := by
 unfold rightB outB
 simp only [Bool.and_eq_true, Bool.not_eq_true', decide_eq_false_iff_not]
 omega

theorem cfWrong_c (a v l m : Int) (w : World) :
  Calls Try.prog 74 #[.agg #[.int .i64 a, .int .i64 v, .int .i64 l, .int .i64 m]] w fun e w' => e = .returned (.bool (outB v l m)) /\ Below w.heap.size w w' := by
 by_cases h0 : v < l
 ·have H := hidp (outB_lt (m := m) h0)
  go_enter Try.func74, Try.ntmps74
  go_wp2
  go_ret
  exact ⟨by rw [H.out]; rfl, Bnew (B0 _) _⟩
 ·by_cases h1 : m < v
  ·have H := hidp (outB_gt (l := l) h1)
   go_enter Try.func74, Try.ntmps74
   go_wp2
   go_ret
   exact ⟨by rw [H.out]; rfl, Bnew (B0 _) _⟩
  ·have H := hidp (outB_no (v := v) (l := l) (m := m) (by omega) (by omega))
   go_enter Try.func74, Try.ntmps74
   go_wp2
   go_ret
   exact ⟨by rw [H.out]; rfl, Bnew (B0 _) _⟩

def numV (t p s : Int) : Array Value := #[.int .i64 0, .int .i64 t, .int .i64 1, .int .i64 16, .int .i64 16, .int .i64 p, .int .i64 4, .int .i64 1024, .int .i64 32, .int .i64 s, .int .i64 10, .int .i64 20]
theorem cfNumbers_c (t p s : Int) (w : World) :
  Calls Try.prog 69 #[.agg #[.int .i64 t, .int .i64 p, .int .i64 s]] w fun e w' => e = .returned (.agg #[.int .i64 0, .int .i64 t, .int .i64 1, .int .i64 16, .int .i64 16, .int .i64 p, .int .i64 4, .int .i64 1024, .int .i64 32, .int .i64 s, .int .i64 10, .int .i64 20]) /\ Below w.heap.size w w' := by
 go_enter Try.func69, Try.ntmps69
 go_wp2
 exact bodyPost_ret (v := .agg #[.int .i64 0, .int .i64 t, .int .i64 1, .int .i64 16, .int .i64 16, .int .i64 p, .int .i64 4, .int .i64 1024, .int .i64 32, .int .i64 s, .int .i64 10, .int .i64 20]) (by simp [results, Try.results69, go_sem]) rfl ⟨rfl, Bnew (Bnew (B0 _) _) _⟩

theorem num_cells {t p s : Int} {g : Nat} {T : TypeId} {w : World} (h : Held w g T (numV t p s)) : w.cell? ⟨g, 0, none⟩ = some (.int .i64 0) /\ w.cell? ⟨g, 1, none⟩ = some (.int .i64 t) /\ w.cell? ⟨g, 2, none⟩ = some (.int .i64 1) /\ w.cell? ⟨g, 3, none⟩ = some (.int .i64 16) /\ w.cell? ⟨g, 4, none⟩ = some (.int .i64 16) /\ w.cell? ⟨g, 5, none⟩ = some (.int .i64 p) /\ w.cell? ⟨g, 6, none⟩ = some (.int .i64 4) /\ w.cell? ⟨g, 7, none⟩ = some (.int .i64 1024) /\ w.cell? ⟨g, 8, none⟩ = some (.int .i64 32) /\ w.cell? ⟨g, 9, none⟩ = some (.int .i64 s) /\ w.cell? ⟨g, 10, none⟩ = some (.int .i64 10) /\ w.cell? ⟨g, 11, none⟩ = some (.int .i64 20) :=
 ⟨h.cell 0, h.cell 1, h.cell 2, h.cell 3, h.cell 4, h.cell 5, h.cell 6, h.cell 7, h.cell 8, h.cell 9, h.cell 10, h.cell 11⟩
def idxI (t p s : Int) : Int := if outB t 1 16 then 0 else if outB p 4 1024 then 1 else if outB s 10 20 then 2 else -1
set_option maxHeartbeats 1600000 in
theorem cfIndex_c (t p s : Int) (g : Nat) (w : World) (hc : Held w g 90 (numV t p s)) :
  Calls Try.prog 86 #[.slice (some ⟨g, 0, none⟩) 3 3, .func (.func 74) #[] #[]] w fun e w' => e = .returned (.int .i64 (idxI t p s)) /\ Below w.heap.size w w' := by
 obtain ⟨c0, c1, c2, c3, c4, c5, c6, c7, c8, c9, c10, c11⟩ := num_cells hc
 cases h0 : outB t 1 16
 ·cases h1 : outB p 4 1024
  ·cases h2 : outB s 10 20
   ·have HX0 := hidp h0
    have HX1 := hidp h1
    have HX2 := hidp h2
    have HI : Hid (idxI t p s = -1) := hidp (by unfold idxI; simp [h0, h1, h2])
    clear h0 h1 h2
    go_enter Try.func86, Try.ntmps86
    go_wp2
    refine wp_loop_rounds 4 ?_
    rw [rounds_succ]
    go_wp2_with fail
    refine (cfWrong_c 0 t 1 16 _).mono ?_
    rintro e w1 ⟨rfl, hb0⟩
    rw [HX0.out]
    have hc1 := hc.keep hb0
    clear c0 c1 c2 c3 c4 c5 c6 c7 c8 c9 c10 c11
    obtain ⟨d0, d1, d2, d3, d4, d5, d6, d7, d8, d9, d10, d11⟩ := num_cells hc1
    go_wp2_with fail
    rw [rounds_succ]
    go_wp2_with fail
    refine (cfWrong_c 16 p 4 1024 _).mono ?_
    rintro e w2 ⟨rfl, hb1⟩
    rw [HX1.out]
    have hc2 := hc1.keep hb1
    clear d0 d1 d2 d3 d4 d5 d6 d7 d8 d9 d10 d11
    obtain ⟨d0, d1, d2, d3, d4, d5, d6, d7, d8, d9, d10, d11⟩ := num_cells hc2
    go_wp2_with fail
    rw [rounds_succ]
    go_wp2_with fail
    refine (cfWrong_c 32 s 10 20 _).mono ?_
    rintro e w3 ⟨rfl, hb2⟩
    rw [HX2.out]
    have hc3 := hc2.keep hb2
    clear d0 d1 d2 d3 d4 d5 d6 d7 d8 d9 d10 d11
    obtain ⟨d0, d1, d2, d3, d4, d5, d6, d7, d8, d9, d10, d11⟩ := num_cells hc3
    go_wp2_with fail
    rw [rounds_succ]
    go_wp2
    go_ret
    exact ⟨by rw [HI.out]; rfl, Bgo (Bgo (Bgo (B0 _) hb0) hb1) hb2⟩
   ·have HX0 := hidp h0
    have HX1 := hidp h1
    have HX2 := hidp h2
    have HI : Hid (idxI t p s = 2) := hidp (by unfold idxI; simp [h0, h1, h2])
    clear h0 h1 h2
    go_enter Try.func86, Try.ntmps86
    go_wp2
    refine wp_loop_rounds 3 ?_
    rw [rounds_succ]
    go_wp2_with fail
    refine (cfWrong_c 0 t 1 16 _).mono ?_
    rintro e w1 ⟨rfl, hb0⟩
    rw [HX0.out]
    have hc1 := hc.keep hb0
    clear c0 c1 c2 c3 c4 c5 c6 c7 c8 c9 c10 c11
    obtain ⟨d0, d1, d2, d3, d4, d5, d6, d7, d8, d9, d10, d11⟩ := num_cells hc1
    go_wp2_with fail
    rw [rounds_succ]
    go_wp2_with fail
    refine (cfWrong_c 16 p 4 1024 _).mono ?_
    rintro e w2 ⟨rfl, hb1⟩
    rw [HX1.out]
    have hc2 := hc1.keep hb1
    clear d0 d1 d2 d3 d4 d5 d6 d7 d8 d9 d10 d11
    obtain ⟨d0, d1, d2, d3, d4, d5, d6, d7, d8, d9, d10, d11⟩ := num_cells hc2
    go_wp2_with fail
    rw [rounds_succ]
    go_wp2_with fail
    refine (cfWrong_c 32 s 10 20 _).mono ?_
    rintro e w3 ⟨rfl, hb2⟩
    rw [HX2.out]
    have hc3 := hc2.keep hb2
    clear d0 d1 d2 d3 d4 d5 d6 d7 d8 d9 d10 d11
    obtain ⟨d0, d1, d2, d3, d4, d5, d6, d7, d8, d9, d10, d11⟩ := num_cells hc3
    go_wp2
    go_ret
    exact ⟨by rw [HI.out]; rfl, Bgo (Bgo (Bgo (B0 _) hb0) hb1) hb2⟩
  ·have HX0 := hidp h0
   have HX1 := hidp h1
   have HI : Hid (idxI t p s = 1) := hidp (by unfold idxI; simp [h0, h1])
   clear h0 h1
   go_enter Try.func86, Try.ntmps86
   go_wp2
   refine wp_loop_rounds 2 ?_
   rw [rounds_succ]
   go_wp2_with fail
   refine (cfWrong_c 0 t 1 16 _).mono ?_
   rintro e w1 ⟨rfl, hb0⟩
   rw [HX0.out]
   have hc1 := hc.keep hb0
   clear c0 c1 c2 c3 c4 c5 c6 c7 c8 c9 c10 c11
   obtain ⟨d0, d1, d2, d3, d4, d5, d6, d7, d8, d9, d10, d11⟩ := num_cells hc1
   go_wp2_with fail
   rw [rounds_succ]
   go_wp2_with fail
   refine (cfWrong_c 16 p 4 1024 _).mono ?_
   rintro e w2 ⟨rfl, hb1⟩
   rw [HX1.out]
   have hc2 := hc1.keep hb1
   clear d0 d1 d2 d3 d4 d5 d6 d7 d8 d9 d10 d11
   obtain ⟨d0, d1, d2, d3, d4, d5, d6, d7, d8, d9, d10, d11⟩ := num_cells hc2
   go_wp2
   go_ret
   exact ⟨by rw [HI.out]; rfl, Bgo (Bgo (B0 _) hb0) hb1⟩
 ·have HX0 := hidp h0
  have HI : Hid (idxI t p s = 0) := hidp (by unfold idxI; simp [h0])
  clear h0
  go_enter Try.func86, Try.ntmps86
  go_wp2
  refine wp_loop_rounds 1 ?_
  rw [rounds_succ]
  go_wp2_with fail
  refine (cfWrong_c 0 t 1 16 _).mono ?_
  rintro e w1 ⟨rfl, hb0⟩
  rw [HX0.out]
  have hc1 := hc.keep hb0
  clear c0 c1 c2 c3 c4 c5 c6 c7 c8 c9 c10 c11
  obtain ⟨d0, d1, d2, d3, d4, d5, d6, d7, d8, d9, d10, d11⟩ := num_cells hc1
  go_wp2
  go_ret
  exact ⟨by rw [HI.out]; rfl, Bgo (B0 _) hb0⟩

theorem idx_right {t p s : Int} (h : rightB t p s = true) : idxI t p s = -1 := by
 unfold rightB at h
 unfold idxI
 cases h0 : outB t 1 16 <;> cases h1 : outB p 4 1024 <;> cases h2 : outB s 10 20 <;> simp_all
theorem idx_wrong {t p s : Int} (h : rightB t p s = false) : ∃ k : Int, idxI t p s = k /\ 0 <= k /\ k <= 2 := by
 unfold rightB at h
 unfold idxI
 cases h0 : outB t 1 16 <;> cases h1 : outB p 4 1024 <;> cases h2 : outB s 10 20 <;> simp_all

theorem cfContains_c (t p s : Int) (g : Nat) (w : World) (hc : Held w g 90 (numV t p s)) :
  Calls Try.prog 75 #[.slice (some ⟨g, 0, none⟩) 3 3, .func (.func 74) #[] #[]] w fun e w' => e = .returned (.bool (!rightB t p s)) /\ Below w.heap.size w w' := by
 cases hr : rightB t p s
 ·obtain ⟨k, hk, h0, h2⟩ := idx_wrong hr
  have HK := hidp hk
  clear hk
  go_enter Try.func75, Try.ntmps75
  go_wp2_with fail
  refine (cfIndex_c t p s g _ hc).mono ?_
  rintro e w1 ⟨rfl, hb⟩
  rw [HK.out]
  go_wp2
  go_ret
  exact ⟨by first | rfl | trivial, hb⟩
 ·have HK := hidp (idx_right hr)
  go_enter Try.func75, Try.ntmps75
  go_wp2_with fail
  refine (cfIndex_c t p s g _ hc).mono ?_
  rintro e w1 ⟨rfl, hb⟩
  rw [HK.out]
  go_wp2
  go_ret
  exact ⟨by first | rfl | trivial, hb⟩

def checkI (t p s : Int) : Int := if rightB t p s then 0 else 1
theorem check_yes {t p s : Int} (h : rightB t p s = true) : checkI t p s = 0 := by unfold checkI; rw [h]; rfl
theorem check_no {t p s : Int} (h : rightB t p s = false) : checkI t p s = 1 := by unfold checkI; rw [h]; rfl
theorem cfCheck_c (t p s : Int) (w : World) :
  Calls Try.prog 54 #[.agg #[.int .i64 t, .int .i64 p, .int .i64 s]] w fun e w' => e = .returned (.int .i64 (checkI t p s)) /\ Below w.heap.size w w' := by
 cases hr : rightB t p s
 ·have HK := hidp (check_no hr)
  have HR := hidp hr
  clear hr
  go_enter Try.func54, Try.ntmps54
  go_wp2_with fail
  refine (cfNumbers_c t p s _).mono ?_
  rintro e w1 ⟨rfl, hb1⟩
  go_wp2_with fail
  refine (cfContains_c t p s _ _ (Held.new w1 _ _)).mono ?_
  rintro e w2 ⟨rfl, hb2⟩
  rw [HR.out]
  go_wp2
  go_ret
  exact ⟨by rw [HK.out]; rfl, Bgo (Bnew (Bgo (Bnew (B0 _) _) hb1) _) hb2⟩
 ·have HK := hidp (check_yes hr)
  have HR := hidp hr
  clear hr
  go_enter Try.func54, Try.ntmps54
  go_wp2_with fail
  refine (cfNumbers_c t p s _).mono ?_
  rintro e w1 ⟨rfl, hb1⟩
  go_wp2_with fail
  refine (cfContains_c t p s _ _ (Held.new w1 _ _)).mono ?_
  rintro e w2 ⟨rfl, hb2⟩
  rw [HR.out]
  go_wp2
  go_ret
  exact ⟨by rw [HK.out]; rfl, Bgo (Bnew (Bgo (Bnew (B0 _) _) hb1) _) hb2⟩
end
section
theorem rightB_mk {t p s : Int} (h : (1 <= t /\ t <= 16) /\ (4 <= p /\ p <= 1024) /\ 10 <= s /\ s <= 20) : rightB t p s = true := (rightB_iff t p s).2 h
theorem rightB_not {t p s : Int} (h : ¬ ((1 <= t /\ t <= 16) /\ (4 <= p /\ p <= 1024) /\ 10 <= s /\ s <= 20)) : rightB t p s = false := by
 cases hr : rightB t p s
 ·rfl
 ·exact absurd ((rightB_iff t p s).1 hr) h

theorem r4Right_c (t p s : Int) (w : World) :
  Calls Try.prog 42 #[.agg #[.int .i64 t, .int .i64 p, .int .i64 s]] w fun e w' => e = .returned (.bool (rightB t p s)) /\ Below w.heap.size w w' := by
 by_cases a1 : 1 <= t
 ·by_cases a2 : t <= 16
  ·by_cases a3 : 4 <= p
   ·by_cases a4 : p <= 1024
    ·by_cases a5 : 10 <= s
     ·by_cases a6 : s <= 20
      ·have H := hidp (rightB_mk (t := t) (p := p) (s := s) (by omega))
       go_enter Try.func42, Try.ntmps42
       go_wp2
       go_ret
       exact ⟨by rw [H.out]; rfl, Bnew (B0 _) _⟩
      ·have H := hidp (rightB_not (t := t) (p := p) (s := s) (by omega))
       go_enter Try.func42, Try.ntmps42
       go_wp2
       go_ret
       exact ⟨by rw [H.out]; rfl, Bnew (B0 _) _⟩
     ·have H := hidp (rightB_not (t := t) (p := p) (s := s) (by omega))
      go_enter Try.func42, Try.ntmps42
      go_wp2
      go_ret
      exact ⟨by rw [H.out]; rfl, Bnew (B0 _) _⟩
    ·have H := hidp (rightB_not (t := t) (p := p) (s := s) (by omega))
     go_enter Try.func42, Try.ntmps42
     go_wp2
     go_ret
     exact ⟨by rw [H.out]; rfl, Bnew (B0 _) _⟩
   ·have H := hidp (rightB_not (t := t) (p := p) (s := s) (by omega))
    go_enter Try.func42, Try.ntmps42
    go_wp2
    go_ret
    exact ⟨by rw [H.out]; rfl, Bnew (B0 _) _⟩
  ·have H := hidp (rightB_not (t := t) (p := p) (s := s) (by omega))
   go_enter Try.func42, Try.ntmps42
   go_wp2
   go_ret
   exact ⟨by rw [H.out]; rfl, Bnew (B0 _) _⟩
 ·have H := hidp (rightB_not (t := t) (p := p) (s := s) (by omega))
  go_enter Try.func42, Try.ntmps42
  go_wp2
  go_ret
  exact ⟨by rw [H.out]; rfl, Bnew (B0 _) _⟩
end
end Go.Proofs.Ytlpcdfcghgapkaa

namespace Go.Proofs.Ytlpcdfcghgapkaa
set_option linter.unusedVariables false
section
def lT (t p s : Int) : Int := if rightB t p s then t else 0
def lP (t p s : Int) : Int := if rightB t p s then p else 0
def lS (t p s : Int) : Int := if rightB t p s then s else 0
def lA (t p s : Int) : Int := if rightB t p s then 30 + 4 * t else 0
def lC (t p s : Int) : Int := if rightB t p s then 30 + 4 * t + 6 * p else 0
def lM (t p s : Int) : Int := if rightB t p s then (16 + (30 + 4 * t + 6 * p) + 7) / 8 * 8 else 0
def lK (t p s : Int) : Int := if rightB t p s then t + 1 else 0
def lW (t p s : Int) : Int := lM t p s + lK t p s * 120

structure Laid7 (t p s T P S A C M K : Int) : Prop where
 hT : lT t p s = T
 hP : lP t p s = P
 hS : lS t p s = S
 hA : lA t p s = A
 hC : lC t p s = C
 hM : lM t p s = M
 hK : lK t p s = K
theorem lay_yes {t p s : Int} (h : rightB t p s = true) : Laid7 t p s t p s (30 + 4 * t) (30 + 4 * t + 6 * p) ((16 + (30 + 4 * t + 6 * p) + 7) / 8 * 8) (t + 1) := by
 constructor <;> simp [lT, lP, lS, lA, lC, lM, lK, h]
theorem lay_no {t p s : Int} (h : rightB t p s = false) : Laid7 t p s 0 0 0 0 0 0 0 := by
 constructor <;> simp [lT, lP, lS, lA, lC, lM, lK, h]
theorem lay_bounds (t p s : Int) : (0 <= lT t p s /\ lT t p s <= 16) /\ (0 <= lP t p s /\ lP t p s <= 1024) /\ (0 <= lA t p s /\ lA t p s <= 94) /\ (0 <= lC t p s /\ lC t p s <= 6238) /\ (0 <= lM t p s /\ lM t p s <= 6256) /\ (0 <= lK t p s /\ lK t p s <= 17) /\ lM t p s % 8 = 0 := by
 cases hr : rightB t p s
 ·obtain ⟨h1, h2, h3, h4, h5, h6, h7⟩ := lay_no hr
  omega
 ·obtain ⟨h1, h2, h3, h4, h5, h6, h7⟩ := lay_yes hr
  have := (rightB_iff t p s).1 hr
  omega
theorem words_bounds (t p s : Int) : 0 <= lW t p s /\ lW t p s <= 8296 /\ lW t p s % 8 = 0 := by
 have := lay_bounds t p s
 unfold lW
 omega

def nthI (f n e i : Int) : Int := if f = -1 \/ i < 0 \/ n <= i then -1 else f + i * e
theorem nth_off {f n e i : Int} (h : f = -1 \/ i < 0 \/ n <= i) : nthI f n e i = -1 := by unfold nthI; rw [if_pos h]
theorem nth_on {f n e i : Int} (h : ¬ f = -1) (h0 : 0 <= i) (h1 : i < n) : nthI f n e i = f + i * e := by unfold nthI; rw [if_neg (by omega)]
theorem nth_bounds {f n e i B : Int} (hf : -1 <= f) (hB : f <= B) (he : 0 <= e) (hn : 0 <= n) : -1 <= nthI f n e i /\ nthI f n e i <= B + n * e := by
 have h2 := Int.mul_nonneg hn he
 by_cases h : f = -1 \/ i < 0 \/ n <= i
 ·rw [nth_off h]; omega
 ·rw [nth_on (by omega) (by omega) (by omega)]
  have h1 := Int.mul_nonneg (show 0 <= i by omega) he
  have h3 := Int.mul_le_mul_of_nonneg_right (show i <= n by omega) he
  omega

def pageI (t p s q b : Int) : Int := nthI (nthI (lA t p s) (lP t p s) 6 q) 6 1 b
def makerI (t p s m b : Int) : Int := nthI (nthI (lM t p s) (lK t p s) 120 m) 120 1 b
def wordI (t p s i : Int) : Int := nthI 16 (lC t p s) 1 i
def logI (t p s m i : Int) : Int := nthI (makerI t p s m 24) 96 1 i

theorem pcell_no {t p s q b : Int} (h : ¬ (rightB t p s = true /\ 0 <= q /\ q < p)) : pageI t p s q b = -1 := by
 have h1 : nthI (lA t p s) (lP t p s) 6 q = -1 := by
  apply nth_off
  cases hr : rightB t p s
  ·have := lay_no hr; have := this.hP; omega
  ·have := (lay_yes hr).hP; rw [hr] at h; simp at h; omega
 unfold pageI
 exact nth_off (.inl h1)
theorem pcell_yes {t p s q b : Int} (hr : rightB t p s = true) (h0 : 0 <= q) (h1 : q < p) (h2 : 0 <= b) (h3 : b < 6) : pageI t p s q b = 30 + 4 * t + 6 * q + b := by
 obtain ⟨e1, e2, e3, e4, e5, e6, e7⟩ := lay_yes hr
 have := (rightB_iff t p s).1 hr
 unfold pageI
 rw [nth_on (f := lA t p s) (by omega) h0 (by omega), nth_on (by omega) h2 h3, e4]
 omega
section
variable {t p s w : Int}
theorem first_far (hr : rightB t p s = true) : 64 <= lM t p s /\ 16 + lC t p s <= lM t p s /\ lM t p s < 24 + lC t p s /\ 58 <= lC t p s /\ lM t p s % 8 = 0 /\ lW t p s = lM t p s + (t + 1) * 120 := by
 obtain ⟨e1, e2, e3, e4, e5, e6, e7⟩ := lay_yes hr
 have := (rightB_iff t p s).1 hr
 unfold lW
 rw [e7]
 omega
end
end
end Go.Proofs.Ytlpcdfcghgapkaa

namespace Go.Proofs.Ytlpcdfcghgapkaa
open Go.ChangeShapes Go.WideShapes Go.ChangeAt Go.RowKit Go.Maps
set_option linter.unusedVariables false
set_option maxRecDepth 100000
section
def pgB (P p : Int) : Bool := decide (0 <= p) && decide (p < P)
theorem pgB_iff (P p : Int) : pgB P p = true ↔ 0 <= p /\ p < P := by unfold pgB; simp
section
variable (n : Nat) (K : Nat -> Option Nat) (t q s hd : Int)
def push1 (k : Nat) (st : Vst) : Vst := putS n (putS n (getS n K st hd) (pageI t q s (k : Int) 2) (getV n K st hd)) (pageI t q s (k : Int) 3) 0
def push2 (k : Nat) (st : Vst) : Vst := if getV n K st hd = 0 then push1 n K t q s hd k st else putS n (push1 n K t q s hd k st) (pageI t q s ((getV n K st hd : Nat) - 1 : Int) 3) (k + 1)
def pushS (k : Nat) (st : Vst) : Vst := putS n (push2 n K t q s hd k st) hd (k + 1)
def pushI (p : Int) (st : Vst) : Vst := if pgB q p then pushS n K t q s hd p.toNat st else st

def pullN (k : Nat) (st : Vst) : Nat := getV n K st (pageI t q s (k : Int) 2)
def pullB (k : Nat) (st : Vst) : Nat := getV n K (getS n K st (pageI t q s (k : Int) 2)) (pageI t q s (k : Int) 3)
def pull0 (k : Nat) (st : Vst) : Vst := getS n K (getS n K st (pageI t q s (k : Int) 2)) (pageI t q s (k : Int) 3)
def pull1 (k : Nat) (st : Vst) : Vst := if pullB n K t q s k st = 0 then putS n (pull0 n K t q s k st) hd (pullN n K t q s k st) else putS n (pull0 n K t q s k st) (pageI t q s ((pullB n K t q s k st : Nat) - 1 : Int) 2) (pullN n K t q s k st)
def pull2 (k : Nat) (st : Vst) : Vst := if pullN n K t q s k st = 0 then pull1 n K t q s hd k st else putS n (pull1 n K t q s hd k st) (pageI t q s ((pullN n K t q s k st : Nat) - 1 : Int) 3) (pullB n K t q s k st)
def pullS (k : Nat) (st : Vst) : Vst := putS n (putS n (pull2 n K t q s hd k st) (pageI t q s (k : Int) 2) 0) (pageI t q s (k : Int) 3) 0
def pullI (p : Int) (st : Vst) : Vst := if pgB q p then pullS n K t q s hd p.toNat st else st

end
section
variable {n : Nat} {K : Nat -> Option Nat} {t q s hd : Int} {m l0 l : Nat} {st0 st : Vst} {out : List Nat}
theorem pgB_nat {k : Nat} {st : Vst} (h : pgB q (k : Int) = true) : pushI n K t q s hd (k : Int) st = pushS n K t q s hd k st /\ pullI n K t q s hd (k : Int) st = pullS n K t q s hd k st := by
 unfold pushI pullI
 rw [if_pos h, if_pos h]
 exact ⟨rfl, rfl⟩
theorem pgB_none {p : Int} {st : Vst} (h : pgB q p = false) : pushI n K t q s hd p st = st /\ pullI n K t q s hd p st = st := by
 unfold pushI pullI
 rw [if_neg (by simp [h]), if_neg (by simp [h])]
 exact ⟨rfl, rfl⟩
theorem getV_lt {a : Int} (hk : VOk n st) (h32 : ∀ i x, K i = some x -> x < 2 ^ 32) : getV n K st a < 2 ^ 32 := by
 by_cases ho : opn n st a = true
 ·obtain ⟨i, rfl, hi, hl⟩ := opn_at ho
  cases hp : pos st.wr i with
  | some k =>
   rw [getV_put ho hp]
   have h1 := (pos_some hp).1
   have h2 : (st.wr[k]'h1) ∈ st.wr := List.getElem_mem h1
   have h3 := (hk.wrLt _ h2).2
   unfold atW
   simp only [List.getD, List.getElem?_eq_getElem h1, Option.getD_some]
   exact h3
  | none =>
   cases hK : K i with
   | some v => rw [getV_known ho hp hK]; exact h32 i v hK
   | none => rw [getV_lost ho hp hK]; omega
 ·rw [getV_no (by simpa using ho)]; omega
end

section
variable {base b n : Nat} {wh all : Bool} {K : Nat -> Option Nat} {st s' : Vst} {w ws w0 w' : World} {A G : Nat -> Prop} {N : Nat} {T : TypeId} {cs : Array Value} {O : Ob}
theorem vAt_lt (h : (vOb base b n wh K).At w0 A G st w) (a : Int) : getV n K st a < 2 ^ 32 := by
 obtain ⟨B, ⟨o, h1, _⟩, _⟩ := h
 exact getV_lt h1.ok h1.k32
structure WK (O : Ob) (w0 : World) (A G : Nat -> Prop) (ws : World) (N : Nat) (T : TypeId) (cs : Array Value) (st : Vst) (w : World) : Prop where
 at_ : O.At w0 A (And1 G N) st w
 held : Held w N T cs
 stay : Stay G ws w
theorem WK.two (h : O.At w0 A G st ws) (o : Obj) (T : TypeId) (cs : Array Value) : WK O w0 A G ws (ws.heap.size + 1) T cs st ((ws.alloc o).alloc (.cells cs T)) :=
 ⟨by have := (h.alloc o).box (.cells cs T); simpa using this, Held.new2 _ _ _ _, Stay.of_below (Bnew (Bnew (B0 _) _) _) G⟩
theorem WK.keep (h : WK O w0 A G ws N T cs st w) (hb : Below w.heap.size w w') : WK O w0 A G ws N T cs st w' := ⟨h.at_.keep hb, h.held.keep hb, h.stay.trans (Stay.of_below hb G)⟩
theorem WK.drew (h : WK O w0 A G ws N T cs st w) : WK O w0 A G ws N T cs st w.drew := h.keep (Bdrew (B0 w))
theorem WK.call (h : WK O w0 A G ws N T cs st w) (h1 : O.At w0 A (And1 G N) s' w') (h2 : Stay (And1 G N) w w') : WK O w0 A G ws N T cs s' w' :=
 ⟨h1, h2.held (.inr rfl) h.held, h.stay.trans (h2.less fun g x => .inl x)⟩
theorem WK.fin (h : WK O w0 A G ws N T cs st w) : O.At w0 A G st w /\ Stay G ws w := ⟨h.at_.less fun g x => .inl x, h.stay⟩
end
end
end Go.Proofs.Ytlpcdfcghgapkaa
