/-
  Views: contract of Put.
-/
import Derived.Test.YtlkaejjpibebkaaB01
import Derived.Deep.Slices
import Derived.Lib.SmallJoins
import Derived.Deep.RegionHeld3
import Derived.Below
import Derived.Test.YtlkaejjpibebkaaBKit
import Derived.WalkKit
import Derived.ProofKit
import Derived.BigQuiet
import Derived.Outline
import Derived.Deep.QuietTactic
import Derived.IntWalk
import Derived.KernelRfl
import Derived.RangeFuncNested
import Derived.RangeFuncBound
import Derived.RangeFuncLeaves
import Derived.Shelf.Abstract
import Derived.Shelf.RegionOpen
import Derived.OwnWalkIn
import Derived.TacticsInMore
import Derived.LoopNIn
import Derived.LoopIn
import Derived.RegionTactic
import Derived.ChangeAlike
import Derived.Laws.BitsAllLaws
import Derived.Laws.CopyOwn
import Derived.Laws.MakeOwn
import Derived.Deep.RegionLaw
namespace Go.Proofs.Ytlkaejjpibebkaa
open Go.ChangeShapes Go.WideShapes Go.ChangeAt Go.RowKit Go.Maps
set_option linter.unusedVariables false
set_option maxRecDepth 100000
set_option linter.unusedSimpArgs false
section
theorem Put_no {base b n : Nat} {wh : Bool} {o : VGeo} {K : Nat -> Option Nat} {s : Vst} (a : Int) (v : Int) (ho : opn n s a = false) (w : World) (h : IsView w base b n wh o K s) :
  Calls Try.prog 29 #[.pointer (some ⟨b, 0, none⟩), .int .i64 a, .int .u32 v] w fun e w' => e = .returned (.tuple #[]) /\ w' = w := by
 have HH := hidp h
 have HO := hidp ho
 clear h ho
 go_enter Try.func29, Try.ntmps29
 go_wp2_with fail
 refine (vopen_c a _ HH.out).mono ?_
 rintro e w1 ⟨rfl, rfl⟩
 rw [HO.out]
 go_wp2
 (try simp only [Exit.inBlock, Exit.then])
 refine bodyPost_ret (results_none rfl _ _ _) rfl ?_
 exact ⟨rfl, rfl⟩

theorem vX_set {s : Vst} {k v i : Nat} (hk : k < s.wr.length) (hc : cellW s.wr k = i) : ∀ j, j < 2 -> updF (vX s) 1 ((vX s 1).set (k * 2 + 1) (.int .u32 (v : Int))) j = vX { s with wr := s.wr.set k (i, v) } j := fun j hj => by
 match j, hj with
 | 0, _ => simp [updF, vX]
 | 1, _ =>
  rw [updF_same]
  show (prVs s.wr).set (k * 2 + 1) (.int .u32 (v : Int)) = prVs (s.wr.set k (i, v))
  rw [prVs_set _ _ _ hk, hc]
theorem vN_set {s : Vst} {k v i : Nat} : ∀ j, j < 2 -> vN s j = vN { s with wr := s.wr.set k (i, v) } j := fun j hj => by
 match j, hj with
 | 0, _ => simp [vN]
 | 1, _ => simp [vN]

theorem Put_old {base b n : Nat} {wh : Bool} {o : VGeo} {K : Nat -> Option Nat} {s : Vst} (i k v : Nat) (ho : opn n s (i : Int) = true) (hk : pos s.wr i = some k) (hi : i < n) (hv32 : v < 2 ^ 32) (hlim : s.wr.length < 2 ^ 40) (w : World) (h : IsView w base b n wh o K s) :
    Calls Try.prog 29 #[.pointer (some ⟨b, 0, none⟩), .int .i64 (i : Int), .int .u32 (v : Int)] w fun e w' => e = .returned (.tuple #[]) /\ Left11 w base b n wh o K (putS n s (i : Int) v) w' := by
  have hn := h.nmax
  have hkl := (pos_some hk).1
  obtain ⟨c0, c1, c2, c3, c4, c5, c6, c7⟩ := h.cells
  obtain ⟨kk, D, e1, hown, hD⟩ := h.wvm
  obtain ⟨g, cap, hv, _, _⟩ := h.wrow.form (by omega)
  have hr := h.wrow
  rw [hv] at hr c4
  have d0 : w.cell? ⟨g, k * 2 + 1, none⟩ = some (.int .u32 ((atW s.wr k : Nat) : Int)) := (hr.cellAt _ (by omega)).trans (prVs_at s.wr k hkl).2
  have f0 := hr.frozenAt (k * 2 + 1)
  have hcap : s.wr.length <= cap /\ cap <= maxLen := by
    rcases hr.2 with ⟨h1, _⟩ | ⟨g', cap', cur, h1, _, _, h2, h3, _⟩
    · cases h1
    · injection h1 with _ _ h1; subst h1; exact ⟨h2, h3⟩
  obtain ⟨hc1, hc2⟩ := hcap
  unfold maxLen at hc2
  have hkey := kInt_of (c := (i : Int)) (wf_nat (by omega))
  have HH := hidp h
  have HO := hidp ho
  have HK := hidp hk
  have HV := hidp hv
  have HV32 := hidp hv32
  have HM : Hid (Maps.has D (kInt (i : Int)) = true) := hidp (by rw [hD.has]; simp [hk])
  have HA : Hid (∀ c : Int, D.atKey (kInt (i : Int)) (.lit (.int .i64 0)) = .lit (.int .i64 c) -> c = k) := hidp (fun c hc => by
    rw [hD.at_ i k hk] at hc
    injection hc with hc
    injection hc with _ hc
    exact hc.symm)
  have HW := hidp hown
  generalize atW s.wr k = x at *
  obtain ⟨m, hm⟩ : ∃ m, s.wr.length = m := ⟨_, rfl⟩
  have HMM := hidp hm
  rw [hm] at c4 hkl hlim hc1
  clear h ho hk hr hv hD c1 c2 c3 hown hm hv32 e1
  go_enter Try.func29, Try.ntmps29
  go_wp2_with fail
  refine (vopen_c (i : Int) _ HH.out).mono ?_
  rintro e w1 ⟨rfl, rfl⟩
  rw [HO.out]
  go_wp2_with (first
    | (at_lookup; refine wpList_lookup_own_ok_int _ rfl _ _ 72 rfl 3 3 .i64 intKey1 Try.underlying72 Try.underlying3 (zeroInt _) o.m2 kk D rfl HW.out _ _ rfl hkey ?_
       intro c hat hwc
       obtain rfl : c = (k : Int) := HA.out c hat
       rw [HM.out]
       clear hat hwc)
    | go_in)
  go_end0
  obtain ⟨k1, D1, k2, D2, e1, e2, e3, e4, hp⟩ := HH.out.parts
  have hkl' : k < s.wr.length := by rw [HMM.out]; exact hkl
  obtain ⟨hp1, ht1⟩ := hp.store (i := 1) (g := g) (cap := cap) (by omega) HV.out (k * 2 + 1) (.int .u32 (v : Int))
  have hok := HH.out.ok.put (a := (i : Int)) HV32.out
  rw [putS_yes HO.out, putW_some HK.out] at hok ⊢
  exact ⟨rfl, o, { parts := ⟨k1, D1, k2, D2, e1, by simp; omega, e3, e4.congr (fun j => by
                     have := pos_set s.wr k v j
                     rw [(pos_some HK.out).2] at this
                     exact this.symm), { hp1 with own := hp1.own.congr vN_set (vX_set hkl' (pos_some HK.out).2) }⟩, ok := hok, nmax := hn, k32 := HH.out.k32 }, fun g hg => .inl hg, ht1⟩

theorem vN_new (s : Vst) (i v : Nat) : ∀ j, j < 2 -> updF (vN s) 1 (s.wr.length + 1) j = vN { s with wr := s.wr ++ [(i, v)] } j := fun j hj => by
 match j, hj with
 | 0, _ => simp [updF, vN]
 | 1, _ => simp [updF, vN]
theorem vX_new (s : Vst) (i v : Nat) : ∀ j, j < 2 -> updF (updF (vX s) 1 (prVs s.wr ++ [Value.int .i64 (i : Int), Value.int .u32 0])) 1 ((updF (vX s) 1 (prVs s.wr ++ [Value.int .i64 (i : Int), Value.int .u32 0]) 1).set (s.wr.length * 2 + 1) (.int .u32 (v : Int))) j = vX { s with wr := s.wr ++ [(i, v)] } j := fun j hj => by
 match j, hj with
 | 0, _ => simp [updF, vX]
 | 1, _ =>
  rw [updF_same, updF_same]
  show (prVs s.wr ++ [Value.int .i64 (i : Int), Value.int .u32 0]).set (s.wr.length * 2 + 1) (.int .u32 (v : Int)) = prVs (s.wr ++ [(i, v)])
  have hl := prVs_len s.wr
  rw [prVs_snoc, List.set_append_right _ _ (by omega), hl]
  simp

theorem Put_new {base b n : Nat} {wh : Bool} {o : VGeo} {K : Nat -> Option Nat} {s : Vst} (i v : Nat) (ho : opn n s (i : Int) = true) (hk : pos s.wr i = none) (hi : i < n) (hv32 : v < 2 ^ 32) (hlim : s.wr.length < 2 ^ 40) (w : World) (h : IsView w base b n wh o K s) :
    Calls Try.prog 29 #[.pointer (some ⟨b, 0, none⟩), .int .i64 (i : Int), .int .u32 (v : Int)] w fun e w' => e = .returned (.tuple #[]) /\ Left11 w base b n wh o K (putS n s (i : Int) v) w' := by
  have hn := h.nmax
  obtain ⟨c0, c1, c2, c3, c4, c5, c6, c7⟩ := h.cells
  obtain ⟨k1, D1, kk, D, e1, e2, e3, hD, hp⟩ := h.parts
  obtain ⟨A, cap, hv⟩ := own_slice h.wrow
  rw [hv] at c4
  obtain ⟨i0, hin, hz0, hz1, hz2⟩ := info_parts pairInfo
  have hkey := kInt_of (c := (i : Int)) (wf_nat (by omega))
  have HH := hidp h
  have HO := hidp ho
  have HK := hidp hk
  have HV := hidp hv
  have HV32 := hidp hv32
  have HM : Hid (Maps.has D (kInt (i : Int)) = false) := hidp (by rw [hD.has]; simp [hk])
  have HP := hidp hp
  have HD := hidp (hD.put i s.wr.length)
  have HS := hidp e3
  have HE1 := hidp e1
  have hbl := hp.head.lt
  obtain ⟨m, hm⟩ : ∃ m, s.wr.length = m := ⟨_, rfl⟩
  have HMM := hidp hm
  rw [hm] at c4 hlim HD e2
  clear h ho hk hv hD c1 c2 c3 hp hm hv32 e1 e3
  go_enter Try.func29, Try.ntmps29
  go_wp2_with fail
  refine (vopen_c (i : Int) _ HH.out).mono ?_
  rintro e w1 ⟨rfl, rfl⟩
  rw [HO.out]
  go_wp2_with (first
    | (at_lookup; refine wpList_lookup_own_ok_int _ rfl _ _ 72 rfl 3 3 .i64 intKey1 Try.underlying72 Try.underlying3 (zeroInt _) o.m2 kk D rfl HP.out.m2 _ _ rfl hkey ?_
       intro c hat hwc
       rw [HM.out]
       clear hat hwc)
    | (at_mapUpdate; refine wpList_mapUpdate_own _ rfl _ _ _ 72 rfl 3 3 intKey1 Try.underlying72 _ o.m2 kk D rfl HP.out.m2 (by unfold maxLen; omega) _ _ _ rfl rfl hkey _ [] (plainElem_int Try.underlying3 (wf_nat (by omega))) ?_
       intro w2 hown1 hgrow1
       obtain ⟨hp2, ht2⟩ := HP.out.map2 hgrow1 hown1
       have c4' : w2.cell? ⟨b, 4, none⟩ = some (.slice A m cap) := (hp2.head.cell 4).trans (by rw [<- HMM.out, <- HV.out]; rfl)
       have HP2 := hidp hp2
       have HT2 := hidp ht2
       have hbl2 := hp2.head.lt
       clear hp2 ht2 hown1 hgrow1)
    | (at_builtin
       refine wpList_append_lies _ rfl _ _ 44 rfl base 77 i0 (.agg #[.int .i64 0, .int .u32 0]) 2 16 Try.underlying44 hin hz0 hz1 hz2 rfl (by decide) (.slice A m cap) m (prVs s.wr) rfl ?c0 ⟨_, 0, none⟩ 1 1 [.int .i64 (i : Int), .int .u32 0] rfl rfl ?c1 ?c2 (by omega) ?c3 ?c4 ?c5 _ rfl ?_
       case c0 =>
         have := HP2.out.own.own 1 (by omega)
         rw [HV.out] at this
         have := this.alloc (.cells #[.int .i64 (i : Int), .int .u32 0] 77)
         rw [<- HMM.out]
         exact this
       case c1 => intro j y hy; rcases j with _ | _ | j; (· simp at hy; subst hy; simp [Addr.add]); (· simp at hy; subst hy; simp [Addr.add]); (· simp at hy)
       case c2 => simp [Value.oneCell']
       case c3 => unfold maxLen; omega
       case c4 => omega
       case c5 => have := HP2.out.bb; have := HP2.out.head.lt; simp; omega
       intro g cap w4 hown4 hgrow4 hat4 hlt4
       obtain ⟨hp4, hA4, hT4⟩ := (HP2.out.keep (Bnew (B0 _) (.cells #[.int .i64 (i : Int), .int .u32 0] 77))).grow (i := 1) (by omega) hown4 (by rw [HV.out, HMM.out]; exact hgrow4) (fun q hq => by
         have hq : g = q := by simpa [Value.ownBlock] using hq
         subst hq
         rcases hat4 with h1 | h1
         · left; rw [HV.out, HMM.out]; exact h1
         · right; rw [h1]; exact Nat.le_refl _)
       have c4'' : w4.cell? ⟨b, 4, none⟩ = some (.slice A m _) := (hp4.head.cell 4).trans (by rw [<- HMM.out, <- HV.out]; rfl)
       have f4 := hp4.head.thawed 4
       have d4 : w4.cell? ⟨g, m * 2 + 1, none⟩ = some (.int .u32 0) := (hown4.cellAt _ (by omega)).trans (by
         rw [List.getElem?_append_right (by rw [prVs_len, HMM.out]; omega), prVs_len, HMM.out]
         simp)
       have f5 := hown4.frozenAt (m * 2 + 1)
       have hgb : ¬ g = b := fun e => hp4.own.notb 1 (by omega) (by rw [e]; rfl)
       have hbg : ¬ b = g := fun e => hgb e.symm
       have HG : Hid (o.F b g \/ w1.heap.size <= g) := hidp (by
         rcases hat4 with h1 | h1
         · left; exact .inl (.inr ⟨1, by omega, by rw [HV.out, HMM.out]; exact h1⟩)
         · right; have := HT2.out.size; simp at h1; omega)
       have HP4 := hidp hp4
       have HA4 := hidp hA4
       have HT4 := hidp (HT2.out.trans (((T0 (o.F b) w2).alloc (.cells #[.int .i64 (i : Int), .int .u32 0] 77)).trans hT4))
       clear hp4 hA4 hT4 hown4 hgrow4 hat4)
    | go_in)
  go_end0
  obtain ⟨hp5, ht5⟩ := HP4.out.setHead 4 (.slice (some ⟨g, 0, none⟩) (m + 1) cap)
  obtain ⟨hp6, ht6⟩ := hp5.store (i := 1) (g := g) (cap := cap) (by omega) rfl (m * 2 + 1) (.int .u32 (v : Int))
  have hok := HH.out.ok.put (a := (i : Int)) HV32.out
  rw [putS_yes HO.out, putW_none HK.out] at hok ⊢
  have hT5 := HT4.out.put (p := ⟨b, 4, none⟩) (.inl (.inl rfl)) (.slice (some ⟨g, 0, none⟩) (m + 1) cap)
  refine ⟨rfl, { o with v := updF o.v 1 (.slice (some ⟨g, 0, none⟩) (m + 1) cap) }, { parts := ⟨k1, D1, kk + 1, _, HE1.out, by simp; have := HMM.out; omega, HS.out, HD.out.congr (fun j => ?_), { hp6 with own := hp6.own.congr ?_ ?_ }⟩, ok := hok, nmax := hn, k32 := HH.out.k32 }, fun q hq => ?_, ?_⟩
  · have := pos_snoc v HK.out j
    rw [HMM.out] at this
    rw [this]
    unfold updF
    split <;> rfl
  · rw [<- HMM.out]
    exact vN_new s i v
  · rw [<- HMM.out]
    exact vX_new s i v
  · rcases HA4.out q hq with h1 | h1
    · exact .inl h1
    · have h2 := HT2.out.size
      simp at h1
      exact .inr (by omega)
  · rcases HG.out with h1 | h1
    · exact hT5.put (p := ⟨g, m * 2 + 1, none⟩) h1 _
    · exact hT5.put_new (p := ⟨g, m * 2 + 1, none⟩) h1 _

theorem VPut_c {base b n : Nat} {wh : Bool} {o : VGeo} {K : Nat -> Option Nat} {s : Vst} (a : Int) (v : Nat) (hv32 : v < 2 ^ 32) (h2 : s.wr.length < 2 ^ 40) (w : World) (h : IsView w base b n wh o K s) :
  Calls Try.prog 29 #[.pointer (some ⟨b, 0, none⟩), .int .i64 a, .int .u32 (v : Int)] w fun e w' => e = .returned (.tuple #[]) /\ Left11 w base b n wh o K (putS n s a v) w' := by
 by_cases ho : opn n s a = true
 ·obtain ⟨i, rfl, hi, hl⟩ := opn_at ho
  cases hp : pos s.wr i with
  | some k => exact Put_old i k v ho hp hi hv32 h2 w h
  | none => exact Put_new i v ho hp hi hv32 h2 w h
 ·have ho : opn n s a = false := by simpa using ho
  rw [putS_no ho]
  refine (Put_no a _ ho w h).mono ?_
  rintro e w1 ⟨rfl, rfl⟩
  exact ⟨rfl, Left11.same h⟩
end
end Go.Proofs.Ytlkaejjpibebkaa

namespace Go.Proofs.Ytlkaejjpibebkaa
open Go.ChangeShapes Go.WideShapes Go.ChangeAt Go.RowKit
set_option linter.unusedVariables false
set_option maxRecDepth 100000
set_option linter.unusedSimpArgs false
section
structure PairV where
 cell : Int
 val : Nat
instance : Inhabited PairV := ⟨⟨0, 0⟩⟩
section
variable {H : Type} {enc : TypeId × Value -> H} {w : World} {base : Nat} {sp : Nat -> Bool} {held : Bool}
end
end
end Go.Proofs.Ytlkaejjpibebkaa

namespace Go.Proofs.Ytlkaejjpibebkaa
open Go.ChangeShapes Go.WideShapes Go.ChangeAt Go.RowKit Go.Maps
set_option linter.unusedVariables false
set_option maxRecDepth 100000
set_option linter.unusedSimpArgs false
section
theorem own_reads {w : World} {base size n c : Nat} {e : TypeId} {A : Option Addr} {xs : List Value} (h : w.ownsRow base e size (.slice A n c) n xs) :
  0 < n -> ∃ ad, A = some ad /\ ∀ j u, xs[j]? = some u -> w.cell? (ad.add j) = some u := fun hn => by
 obtain ⟨ad, e1, _, h2⟩ := (Reads.of_own h).2 hn
 exact ⟨ad, e1, h2⟩
theorem natVs_one (l : List Nat) : ∀ u ∈ ntVs l, u.oneCell' = true := fun u hu => by
 obtain ⟨x, _, rfl⟩ := List.mem_map.1 hu
 rfl
theorem vReads_c {base b n : Nat} {wh : Bool} {o : VGeo} {K : Nat -> Option Nat} {s : Vst} (hlim : s.rd.length < 2 ^ 40) (w : World) (h : IsView w base b n wh o K s) :
  Calls Try.prog 17 #[.pointer (some ⟨b, 0, none⟩)] w fun e w' => ∃ v, e = .returned v /\ w'.ownsRow w.heap.size 3 1 v s.rd.length (ntVs s.rd) /\ Below w.heap.size w w' := by
 obtain ⟨A, cap, hv⟩ := own_slice h.rrow
 have hr := h.rrow
 have c2 := h.cells.2.2.1
 rw [hv] at hr c2
 have HR := hidp hr
 clear h hr hv
 go_enter Try.func17, Try.ntmps17
 go_wp2_with fail
 refine (CloneInts_c A s.rd.length cap (ntVs s.rd) (by simp [ntVs]) (by omega) (natVs_one _) _ (own_reads HR.out)).mono ?_
 rintro e w1 ⟨v, rfl, ho, _, hb⟩
 have HO := hidp ho
 have HB := hidp hb
 clear ho hb
 go_wp2
 go_ret
 exact ⟨v, rfl, HO.out, HB.out⟩
theorem of_c (base n sb : Nat) (wh : Bool) (T : TypeId) (u : Value) (K : Nat -> Option Nat) (hn : n <= 2 ^ 40) (h32 : ∀ i x, K i = some x -> x < 2 ^ 32) (w : World)
  (hsb : base <= w.heap.size /\ base <= sb /\ (sb < w.heap.size \/ (wh = true /\ n = 0 /\ sb = w.heap.size + 2))) (hs : ∀ m1 m2 v, SrcIs w wh n ⟨m1, m2, sb, .iface T u, v⟩ K) :
  Calls Try.prog 22 #[.int .i64 (n : Int), .iface T u] w fun e w' => ∃ (b : Nat) (o : VGeo), e = .returned (.pointer (some ⟨b, 0, none⟩)) /\ IsView w' base b n wh o K freshS /\ w.heap.size <= b /\ (∀ g, o.A b g -> w.heap.size <= g \/ g = sb) /\ Below w.heap.size w w' := by
 have hmm := @run_makeMap Try.prog
 have HS := hidp hs
 have HSB := hidp hsb
 have H32 := hidp h32
 clear hs hsb h32
 go_enter Try.func22, Try.ntmps22
 go_wp2
 go_ret
 have hB1 := Bnew (B0 w) (.map #[] 0)
 have hB2 := Bnew hB1 (.map #[] 0)
 have hB3 := Bnew hB2 (.cells #[.int .i64 (n : Int), .iface T u, .slice none 0 0, .map (some w.heap.size), .slice none 0 0, .map (some (w.heap.size + 1)), .bool false, .int .i64 0] 74)
 have hz1 : (w.alloc (.map #[] 0)).heap.size = w.heap.size + 1 := by simp
 have hz2 : ((w.alloc (.map #[] 0)).alloc (.map #[] 0)).heap.size = w.heap.size + 2 := by simp
 have hm1 := (((World.ownsMap_made w Try.prog 3 (unitElem (H := Unit))).alloc (.map #[] 0)).alloc (.cells #[.int .i64 (n : Int), .iface T u, .slice none 0 0, .map (some w.heap.size), .slice none 0 0, .map (some (w.heap.size + 1)), .bool false, .int .i64 0] 74))
 have hm2 := (World.ownsMap_made (w.alloc (.map #[] 0)) Try.prog 3 (plainElem (H := Unit) Try.prog 3)).alloc (.cells #[.int .i64 (n : Int), .iface T u, .slice none 0 0, .map (some w.heap.size), .slice none 0 0, .map (some (w.heap.size + 1)), .bool false, .int .i64 0] 74)
 have hh := Held.new ((w.alloc (.map #[] 0)).alloc (.map #[] 0)) 74 #[.int .i64 (n : Int), .iface T u, .slice none 0 0, .map (some w.heap.size), .slice none 0 0, .map (some (w.heap.size + 1)), .bool false, .int .i64 0]
 rw [hz1] at hm2
 rw [hz2] at hh
 obtain ⟨q1, q2, q3⟩ := HSB.out
 have hF : ¬ ∃ i, i < 2 /\ (Value.slice none 0 0).ownBlock = some sb := by
  rintro ⟨i, _, h⟩
  simp [Value.ownBlock] at h
 have hsz := hh.lt
 refine ⟨w.heap.size + 2, ⟨w.heap.size, w.heap.size + 1, sb, .iface T u, fun _ => .slice none 0 0⟩, rfl, { parts := ⟨0, _, 0, _, Nat.zero_le _, Nat.zero_le _, SetIs.none, NumIs.none _, ?_⟩, ok := VOk.fresh n, nmax := hn, k32 := H32.out }, by omega, ?_, hB3⟩
 ·refine { head := hh, own := (OwnAll.nil _ base _ 2 vE vSz).congr (fun i hi => ?_) (fun i hi => ?_), m1 := hm1, m2 := hm2, src := ?_, bb := by omega, b1 := q1, b2 := Nat.le_succ_of_le q1, bs := q2, slt := by show sb < _; rcases q3 with h | ⟨_, _, h⟩ <;> (simp; omega), mm := by simp, s1 := by show sb ≠ w.heap.size; rcases q3 with h | ⟨_, _, h⟩ <;> omega, s2 := by show sb ≠ w.heap.size + 1; rcases q3 with h | ⟨_, _, h⟩ <;> omega, sF := ?_ }
  ·unfold vN freshS; split <;> rfl
  ·unfold vX freshS; split <;> rfl
  ·rcases q3 with h | ⟨rfl, rfl, h⟩
   ·exact (HS.out w.heap.size (w.heap.size + 1) (fun _ => .slice none 0 0)).same (hB3.block _ h) rfl rfl
   ·obtain ⟨A, c, e1, e2, e3, e4, e5⟩ := (HS.out 0 0 (fun _ => .slice none 0 0)).list
    exact ⟨A, c, e1, e2, e3, e4, fun hn => by omega⟩
  ·rcases q3 with h | ⟨h1, h2, h⟩
   ·refine .inr ?_
    rintro (h1 | h1)
    ·have h1 : sb = w.heap.size + 2 := h1
     omega
    ·exact hF h1
   ·exact .inl ⟨h1, h2⟩
 ·rintro g (((h | ⟨i, hi, h⟩) | h | h) | h)
  ·left; have h : g = w.heap.size + 2 := h; omega
  ·simp [Value.ownBlock] at h
  ·left; have h : g = w.heap.size := h; omega
  ·left; have h : g = w.heap.size + 1 := h; omega
  ·right; exact h

def valVs (l : List Nat) : List Value := l.map fun (n : Nat) => Value.int .u32 (n : Int)
theorem valVs_F (l : List Nat) : valVs l = (List.range l.length).map (valF fun i => (l[i]?).getD 0) := by
 apply List.ext_getElem?
 intro i
 unfold valVs valF
 rw [List.getElem?_map, List.getElem?_map]
 rcases Nat.lt_or_ge i l.length with h | h
 ·rw [List.getElem?_range h, List.getElem?_eq_getElem h]
  simp [h]
 ·rw [List.getElem?_eq_none h, List.getElem?_eq_none (by simpa using h)]
  rfl
theorem valVs_one (l : List Nat) : ∀ u ∈ valVs l, u.oneCell' = true := fun u hu => by
 obtain ⟨x, _, rfl⟩ := List.mem_map.1 hu
 rfl
def Made11 (n : Nat) (wh : Bool) (K : Nat -> Option Nat) (w : World) (e : Ending) (w' : World) : Prop :=
 ∃ (b : Nat) (o : VGeo), e = .returned (.pointer (some ⟨b, 0, none⟩)) /\ IsView w' w.heap.size b n wh o K freshS /\ Below w.heap.size w w'

theorem Whole_c (A : Option Addr) (c : Nat) (vals : List Nat) (n : Nat) (hl : vals.length = n) (hmx : n <= 2 ^ 40) (h32 : ∀ x ∈ vals, x < 2 ^ 32) (w : World)
  (hA : 0 < n -> ∃ ad, A = some ad /\ ∀ j u, (valVs vals)[j]? = some u -> w.cell? (ad.add j) = some u) :
  Calls Try.prog 6 #[.slice A n c] w (Made11 n true (fun i => vals[i]?) w) := by
 have HA := hidp hA
 have HL := hidp hl
 have H32 : Hid (∀ i x, vals[i]? = some x -> x < 2 ^ 32) := hidp (fun i x h => h32 x (List.mem_of_getElem? h))
 have HS : Hid (∀ i, i < n -> ∃ x, vals[i]? = some x /\ x < 2 ^ 32) := hidp (fun i hi => ⟨vals[i], List.getElem?_eq_getElem (by omega), h32 _ (List.getElem_mem _)⟩)
 clear hA hl h32
 go_enter Try.func6, Try.ntmps6
 go_wp2_with fail
 refine (CloneVals_c A n c (valVs vals) (by have := HL.out; simp [valVs]; omega) (by omega) (valVs_one _) _ HA.out).mono ?_
 rintro e w1 ⟨v, rfl, ho, _, hb⟩
 have HB := hidp hb
 rcases ho.2 with ⟨rfl, hz⟩ | ⟨g, cap, cur, rfl, hbg, hg, hnc, hcm, hcs, htake⟩
 ·subst hz
  clear ho hb
  go_wp2_with fail
  refine (of_c w.heap.size 0 (w1.heap.size + 2) true 54 (.slice none 0 0) (fun i => vals[i]?) (by omega) H32.out _ ⟨HB.out.size, by have := HB.out.size; omega, .inr ⟨rfl, rfl, rfl⟩⟩ (fun m1 m2 v => ⟨none, 0, rfl, Nat.le_refl _, Nat.zero_le _, HS.out, fun h => by omega⟩)).mono ?_
  rintro e w2 ⟨b, o, rfl, hI, _, hA, hb2⟩
  have HI := hidp hI
  have HB2 := hidp hb2
  clear hI hb2
  go_wp2
  go_ret
  exact ⟨b, o, rfl, HI.out, Bgo HB.out HB2.out⟩
 ·have hgl := (ho.lt g rfl).2
  have hr : RowF w1 g 49 n cap (valF fun i => (vals[i]?).getD 0) := by
   rw [valVs_F, HL.out] at ho
   exact (RowF.of_own ho).2
  have HR := hidp hr
  clear ho hb hg hcs htake hr
  go_wp2_with fail
  refine (of_c w.heap.size n g true 54 (.slice (some ⟨g, 0, none⟩) n cap) (fun i => vals[i]?) hmx H32.out _ ⟨HB.out.size, hbg, .inl hgl⟩ (fun m1 m2 v => ⟨_, cap, rfl, hnc, hcm, HS.out, fun h => ⟨rfl, HR.out⟩⟩)).mono ?_
  rintro e w2 ⟨b, o, rfl, hI, _, hA, hb2⟩
  have HI := hidp hI
  have HB2 := hidp hb2
  clear hI hb2
  go_wp2
  go_ret
  exact ⟨b, o, rfl, HI.out, Bgo HB.out HB2.out⟩
end
end Go.Proofs.Ytlkaejjpibebkaa

namespace Go.Proofs.Ytlkaejjpibebkaa
open Go.ChangeShapes Go.WideShapes Go.ChangeAt Go.RowKit
set_option linter.unusedVariables false
set_option maxRecDepth 100000
set_option linter.unusedSimpArgs false
section
theorem valVs_len (l : List Nat) : (valVs l).length = l.length := by unfold valVs; simp
end
end Go.Proofs.Ytlkaejjpibebkaa

namespace Go.Proofs.Ytlkaejjpibebkaa
open Go.ChangeShapes Go.WideShapes Go.ChangeAt Go.RowKit Go.Maps
set_option linter.unusedVariables false
set_option maxRecDepth 100000
section
structure Ob where
 I : World -> Vst -> (Nat -> Prop) -> Prop
 lt : ∀ {w : World} {s : Vst} {A : Nat -> Prop}, I w s A -> ∀ i, A i -> i < w.heap.size
 turns : ∀ {w w' : World} {s : Vst} {A G : Nat -> Prop}, I w s A -> Turns G w w' -> (∀ i, A i -> ¬ G i) -> I w' s A

def vOb (base b n : Nat) (wh : Bool) (K : Nat -> Option Nat) : Ob where
 I w s A := ∃ o, IsView w base b n wh o K s /\ A = o.A b
 lt := by
  rintro w s A ⟨o, h, rfl⟩
  exact h.lt
 turns := by
  rintro w w' s A G ⟨o, h, rfl⟩ ht hf
  exact ⟨o, h.turns ht hf, rfl⟩
def Ob.Left (O : Ob) (w : World) (A : Nat -> Prop) (s : Vst) (w' : World) : Prop := ∃ A', O.I w' s A' /\ (∀ g, A' g -> A g \/ w.heap.size <= g) /\ Turns A w w'
def Ob.At (O : Ob) (w0 : World) (A G : Nat -> Prop) (s : Vst) (w : World) : Prop :=
 ∃ A', O.I w s A' /\ (∀ g, A' g -> A g \/ w0.heap.size <= g) /\ Turns A w0 w /\ ∀ g, G g -> w0.heap.size <= g /\ g < w.heap.size /\ ¬ A' g
def Stay (G : Nat -> Prop) (w w' : World) : Prop := w.heap.size <= w'.heap.size /\ ∀ g, G g -> g < w.heap.size -> w'.heap[g]? = w.heap[g]?
def And1 (G : Nat -> Prop) (N : Nat) : Nat -> Prop := fun g => G g \/ g = N
section
variable {O : Ob} {w w' w0 : World} {A G : Nat -> Prop} {s s' : Vst} {N : Nat}
theorem Ob.keep {A : Nat -> Prop} (h : O.I w s A) (hb : Below w.heap.size w w') : O.I w' s A := O.turns h (Turns.of_below hb (fun _ => False)) (fun _ _ x => x)
theorem Ob.Left.size (h : O.Left w A s w') : w.heap.size <= w'.heap.size := by obtain ⟨A', _, _, h⟩ := h; exact h.size
theorem Ob.At.start (h : O.I w s A) : O.At w A (fun _ => False) s w := ⟨A, h, fun g hg => .inl hg, T0 _ _, fun g hg => hg.elim⟩
theorem Ob.At.left (h : O.At w0 A G s w) : O.Left w0 A s w := by
 obtain ⟨A', h1, h2, h3, _⟩ := h
 exact ⟨A', h1, h2, h3⟩
theorem Ob.At.size (h : O.At w0 A G s w) : w0.heap.size <= w.heap.size := h.left.size
theorem Ob.At.keep (h : O.At w0 A G s w) (hb : Below w.heap.size w w') : O.At w0 A G s w' := by
 obtain ⟨A', h1, h2, h3, h4⟩ := h
 exact ⟨A', Ob.keep h1 hb, h2, h3.trans (Turns.of_below hb A), fun g hg => ⟨(h4 g hg).1, Nat.lt_of_lt_of_le (h4 g hg).2.1 hb.size, (h4 g hg).2.2⟩⟩
theorem Ob.At.box (h : O.At w0 A G s w) (o : Obj) : O.At w0 A (And1 G w.heap.size) s (w.alloc o) := by
 obtain ⟨A', h1, h2, h3, h4⟩ := h
 have hs := h3.size
 refine ⟨A', Ob.keep h1 (Bnew (B0 w) o), h2, h3.alloc o, ?_⟩
 rintro g (hg | rfl)
 ·exact ⟨(h4 g hg).1, Nat.lt_of_lt_of_le (h4 g hg).2.1 (Bnew (B0 w) o).size, (h4 g hg).2.2⟩
 ·exact ⟨hs, by simp, fun x => by have := O.lt h1 _ x; omega⟩
theorem Ob.At.put (h : O.At w0 A G s w) {p : Addr} (hp : G p.block) (u : Value) : O.At w0 A G s (w.setCell p u) := by
 obtain ⟨A', h1, h2, h3, h4⟩ := h
 have hq := h4 _ hp
 refine ⟨A', O.turns h1 ((T0 (fun i => i = p.block) w).put (p := p) rfl u) (fun i hi e => hq.2.2 (by rw [<- e]; exact hi)), h2, h3.put_new hq.1 u, fun g hg => ⟨(h4 g hg).1, by simp; exact (h4 g hg).2.1, (h4 g hg).2.2⟩⟩
theorem Ob.At.less {G' : Nat -> Prop} (h : O.At w0 A G s w) (hg : ∀ g, G' g -> G g) : O.At w0 A G' s w := by
 obtain ⟨A', h1, h2, h3, h4⟩ := h
 exact ⟨A', h1, h2, h3, fun g x => h4 g (hg g x)⟩
theorem Ob.At.call (h : O.At w0 A G s w) {P : Program} {f : FuncId} {args : Array Value} {R : Ending -> Prop} (hc : ∀ B, O.I w s B -> Calls P f args w fun e w' => R e /\ O.Left w B s' w') :
  Calls P f args w fun e w' => R e /\ O.At w0 A G s' w' /\ Stay G w w' := by
 obtain ⟨A', h1, h2, h3, h4⟩ := h
 refine (hc A' h1).mono ?_
 rintro e w' ⟨hr, B, k1, k2, k3⟩
 have hs := h3.size
 refine ⟨hr, ⟨B, k1, fun g hg => ?_, k3.more_new hs h3 h2, fun g hg => ?_⟩, k3.size, fun g hg hl => k3.block g hl (h4 g hg).2.2⟩
 ·rcases k2 g hg with h5 | h5
  ·exact h2 g h5
  ·exact .inr (by omega)
 ·refine ⟨(h4 g hg).1, Nat.lt_of_lt_of_le (h4 g hg).2.1 k3.size, fun x => ?_⟩
  rcases k2 g x with h5 | h5
  ·exact (h4 g hg).2.2 h5
  ·have := (h4 g hg).2.1; omega
theorem Stay.of_below (hb : Below w.heap.size w w') (G : Nat -> Prop) : Stay G w w' := ⟨hb.size, fun g _ hl => hb.block g hl⟩
theorem Stay.trans {w'' : World} (h : Stay G w w') (k : Stay G w' w'') : Stay G w w'' := ⟨Nat.le_trans h.1 k.1, fun g hg hl => (k.2 g hg (Nat.lt_of_lt_of_le hl h.1)).trans (h.2 g hg hl)⟩
theorem Stay.less {G' : Nat -> Prop} (h : Stay G w w') (hg : ∀ g, G' g -> G g) : Stay G' w w' := ⟨h.1, fun g x hl => h.2 g (hg g x) hl⟩
theorem Stay.held {g : Nat} {t : TypeId} {cs : Array Value} (h : Stay G w w') (hg : G g) (hh : Held w g t cs) : Held w' g t cs := (h.2 g hg hh.lt).trans hh
end

theorem nodup_few : ∀ (n : Nat) (l : List Nat), (∀ i ∈ l, i < n) -> l.Nodup -> l.length <= n
 | 0, l, h, _ => by
  cases l with
  | nil => simp
  | cons a r => have := h a (List.mem_cons_self ..); omega
 | n + 1, l, h, hd => by
  by_cases hn : n ∈ l
  ·have h1 := nodup_few n (l.erase n) (fun i hi => by
    have h2 := (hd.mem_erase_iff).1 hi
    have h3 := h i h2.2
    have h4 := h2.1
    omega) (hd.erase n)
   rw [List.length_erase_of_mem hn] at h1
   omega
  ·have h1 := nodup_few n l (fun i hi => by
    have h3 := h i hi
    have h4 : i ≠ n := fun e => hn (e ▸ hi)
    omega) hd
   omega
theorem VOk.few {n : Nat} {s : Vst} (h : VOk n s) : s.rd.length <= n /\ s.wr.length <= n := by
 refine ⟨nodup_few _ _ h.rdLt h.rdNd, ?_⟩
 have : (s.wr.map (·.1)).length <= n := by
  refine nodup_few _ _ (fun i hi => ?_) ?_
  ·obtain ⟨p, hp, rfl⟩ := List.mem_map.1 hi
   exact (h.wrLt p hp).1
  ·unfold List.Nodup
   rw [List.pairwise_iff_getElem]
   intro i j hi hj hij e
   have hj' : j < s.wr.length := by simpa using hj
   have h1 := h.wrNd i (by omega)
   have h2 := h.wrNd j hj'
   have e1 : cellW s.wr i = cellW s.wr j := by
    unfold cellW
    simp [List.getD, List.getElem?_eq_getElem (show i < s.wr.length by omega), List.getElem?_eq_getElem hj'] at e ⊢
    exact e
   rw [e1, h2] at h1
   injection h1 with h1
   omega
 simpa using this

section
variable {base b n : Nat} {wh all : Bool} {K : Nat -> Option Nat} {s : Vst} {w w0 : World} {A G : Nat -> Prop}
theorem vGetA (hn : n < 2 ^ 40) (a : Int) (h : (vOb base b n wh K).At w0 A G s w) :
  Calls Try.prog 21 #[.pointer (some ⟨b, 0, none⟩), .int .i64 a] w fun e w' => e = .returned (.int .u32 ((getV n K s a : Nat) : Int)) /\ (vOb base b n wh K).At w0 A G (getS n K s a) w' /\ Stay G w w' := by
 refine h.call ?_
 rintro B ⟨o, hI, rfl⟩
 refine (VGet_c a (by have := hI.ok.few; omega) (by have := hI.ok.few; omega) w hI).mono ?_
 rintro e w' ⟨rfl, o', h1, h2, h3⟩
 exact ⟨rfl, _, ⟨o', h1, rfl⟩, h2, h3.more (fun i hi => .inl hi)⟩
theorem vPutA (hn : n < 2 ^ 40) (a : Int) (v : Nat) (hv : v < 2 ^ 32) (h : (vOb base b n wh K).At w0 A G s w) :
  Calls Try.prog 29 #[.pointer (some ⟨b, 0, none⟩), .int .i64 a, .int .u32 (v : Int)] w fun e w' => e = .returned (.tuple #[]) /\ (vOb base b n wh K).At w0 A G (putS n s a v) w' /\ Stay G w w' := by
 refine h.call ?_
 rintro B ⟨o, hI, rfl⟩
 refine (VPut_c a v hv (by have := hI.ok.few; omega) w hI).mono ?_
 rintro e w' ⟨rfl, o', h1, h2, h3⟩
 exact ⟨rfl, _, ⟨o', h1, rfl⟩, h2, h3.more (fun i hi => .inl hi)⟩
end
end
end Go.Proofs.Ytlkaejjpibebkaa

namespace Go.Proofs.Ytlkaejjpibebkaa.HM

def putN (w a k v : Nat) : Nat := (w &&& (2 ^ 64 - 1 - (2 ^ k - 1) * 2 ^ a)) ||| v * 2 ^ a

theorem mask_lt (a k : Nat) (h : a + k <= 64) : (2 ^ k - 1) * 2 ^ a < 2 ^ 64 := by
 have h1 : (2 ^ k - 1) * 2 ^ a < 2 ^ k * 2 ^ a := (Nat.mul_lt_mul_right (Nat.two_pow_pos a)).2 (by have := Nat.two_pow_pos k; omega)
 rw [<- Nat.pow_add] at h1
 exact Nat.lt_of_lt_of_le h1 (Nat.pow_le_pow_right (by omega) (by omega))

theorem bit_putN (w a k v i : Nat) (h : a + k <= 64) (hv : v < 2 ^ k) (hi : i < 64) : (putN w a k v).testBit i = if a <= i /\ i < a + k then v.testBit (i - a) else w.testBit i := by
 unfold putN
 rw [Nat.testBit_or, Nat.testBit_and, Nat.sub_sub, Nat.add_comm 1, Nat.testBit_two_pow_sub_succ (mask_lt a k h), Nat.testBit_mul_two_pow, Nat.testBit_mul_two_pow, Nat.testBit_two_pow_sub_one]
 by_cases h1 : a <= i
 ·by_cases h2 : i < a + k
  ·have h3 : i - a < k := by omega
   simp [h1, h2, h3, hi]
  ·have h3 : ¬ i - a < k := by omega
   have h4 : v.testBit (i - a) = false := Nat.testBit_lt_two_pow (Nat.lt_of_lt_of_le hv (Nat.pow_le_pow_right (by omega) (by omega)))
   simp [h1, h2, h3, h4, hi]
 ·simp [h1, hi]

theorem putN_lt (w a k v : Nat) (h : a + k <= 64) (hv : v < 2 ^ k) : putN w a k v < 2 ^ 64 := by
 have h1 : v * 2 ^ a < 2 ^ 64 := by
  have h2 : v * 2 ^ a < 2 ^ k * 2 ^ a := (Nat.mul_lt_mul_right (Nat.two_pow_pos a)).2 hv
  rw [<- Nat.pow_add] at h2
  exact Nat.lt_of_lt_of_le h2 (Nat.pow_le_pow_right (by omega) (by omega))
 unfold putN
 refine Nat.or_lt_two_pow (Nat.lt_of_le_of_lt Nat.and_le_right ?_) h1
 have := Nat.two_pow_pos 64
 omega

theorem bit_high {x i : Nat} (h : x < 2 ^ 64) (hi : 64 <= i) : x.testBit i = false :=
 Nat.testBit_lt_two_pow (Nat.lt_of_lt_of_le h (Nat.pow_le_pow_right (by omega) hi))

end Go.Proofs.Ytlkaejjpibebkaa.HM

namespace Go.Proofs.Ytlkaejjpibebkaa
set_option linter.unusedVariables false
section
def nthI (f n e i : Int) : Int := if f = -1 \/ i < 0 \/ n <= i then -1 else f + i * e
theorem nth_off {f n e i : Int} (h : f = -1 \/ i < 0 \/ n <= i) : nthI f n e i = -1 := by unfold nthI; rw [if_pos h]
theorem nth_on {f n e i : Int} (h : ¬ f = -1) (h0 : 0 <= i) (h1 : i < n) : nthI f n e i = f + i * e := by unfold nthI; rw [if_neg (by omega)]
section
variable {t p s w : Int}
end
end
end Go.Proofs.Ytlkaejjpibebkaa

namespace Go.Proofs.Ytlkaejjpibebkaa
open Go.ChangeShapes Go.WideShapes Go.ChangeAt Go.RowKit Go.Maps
set_option linter.unusedVariables false
set_option maxRecDepth 100000
section
section
variable (n : Nat) (K : Nat -> Option Nat) (t q s hd : Int)
end
section
variable {n : Nat} {K : Nat -> Option Nat} {t q s hd : Int} {m l0 l : Nat} {st0 st : Vst} {out : List Nat}
theorem getV_lt {a : Int} (hk : VOk n st) (h32 : ∀ i x, K i = some x -> x < 2 ^ 32) : getV n K st a < 2 ^ 32 := by
 by_cases ho : opn n st a = true
 ·obtain ⟨i, rfl, hi, hl⟩ := opn_at ho
  cases hp : pos st.wr i with
  | some k =>
   rw [getV_put ho hp]
   have h1 := (pos_some hp).1
   have h2 : (st.wr[k]'h1) ∈ st.wr := List.getElem_mem h1
   have h3 := (hk.wrLt _ h2).2
   unfold atW
   simp only [List.getD, List.getElem?_eq_getElem h1, Option.getD_some]
   exact h3
  | none =>
   cases hK : K i with
   | some v => rw [getV_known ho hp hK]; exact h32 i v hK
   | none => rw [getV_lost ho hp hK]; omega
 ·rw [getV_no (by simpa using ho)]; omega
end

section
variable {base b n : Nat} {wh all : Bool} {K : Nat -> Option Nat} {st s' : Vst} {w ws w0 w' : World} {A G : Nat -> Prop} {N : Nat} {T : TypeId} {cs : Array Value} {O : Ob}
theorem vAt_lt (h : (vOb base b n wh K).At w0 A G st w) (a : Int) : getV n K st a < 2 ^ 32 := by
 obtain ⟨B, ⟨o, h1, _⟩, _⟩ := h
 exact getV_lt h1.ok h1.k32
end
end
end Go.Proofs.Ytlkaejjpibebkaa

namespace Go.Proofs.Ytlkaejjpibebkaa
open Go.ChangeShapes Go.WideShapes Go.ChangeAt Go.RowKit
set_option linter.unusedVariables false
set_option linter.unusedSimpArgs false
section
def infoP (k l c : Int) : Prop := (k = 0 /\ l = 0 /\ c = 0) \/ ((k = 1 \/ k = 2) /\ 1 <= l /\ l <= 1024 /\ c = 0) \/ (k = 3 /\ l = 1 /\ 0 <= c /\ c <= 8)
instance (k l c : Int) : Decidable (infoP k l c) := by unfold infoP; infer_instance
end
end Go.Proofs.Ytlkaejjpibebkaa

namespace Go.Proofs.Ytlkaejjpibebkaa
set_option linter.unusedVariables false
section
theorem i64_same {x : Int} (h : -9223372036854775808 <= x) (h' : x <= 9223372036854775807) : IntKind.i64.wrap x = x := by
 simp only [IntKind.wrap, IntKind.bits, IntKind.signed]; simp; omega
end
end Go.Proofs.Ytlkaejjpibebkaa

namespace Go.Proofs.Ytlkaejjpibebkaa
open Go.ChangeShapes Go.WideShapes Go.ChangeAt Go.RowKit
set_option linter.unusedVariables false
section
structure AuH where
 t : Nat
 p : Nat
 s : Nat
 V : Nat -> Nat

namespace AuH
variable (H : AuH)
variable {H}
variable (H)
variable {H}
end AuH
end
end Go.Proofs.Ytlkaejjpibebkaa

namespace Go.Proofs.Ytlkaejjpibebkaa
open Go.ChangeShapes Go.WideShapes Go.ChangeAt Go.RowKit
set_option linter.unusedVariables false
set_option linter.unusedSimpArgs false
section
theorem plNth_c (f n e i : Int) (f0 : -1 <= f) (f1 : f <= 20000) (n0 : 0 <= n) (n1 : n <= 10000) (e0 : 0 <= e) (e1 : e <= 120) (w : World) :
  Calls Try.prog 40 #[.int .i64 f, .int .i64 n, .int .i64 e, .int .i64 i] w fun z w' => z = .returned (.int .i64 (nthI f n e i)) /\ w = w' := by
 by_cases c0 : f = -1
 ·subst c0
  have HN := hidp (nth_off (f := -1) (n := n) (e := e) (i := i) (.inl rfl))
  go_enter Try.func40, Try.ntmps40
  go_wp2
  go_ret
  exact ⟨by rw [HN.out]; rfl, rfl⟩
 ·have q0 : (f == -1) = false := by simpa using c0
  by_cases c1 : i < 0
  ·have HN := hidp (nth_off (f := f) (n := n) (e := e) (i := i) (.inr (.inl c1)))
   go_enter Try.func40, Try.ntmps40
   go_wp2
   go_ret
   exact ⟨by rw [HN.out]; rfl, rfl⟩
  ·by_cases c2 : n <= i
   ·have HN := hidp (nth_off (f := f) (n := n) (e := e) (i := i) (.inr (.inr c2)))
    go_enter Try.func40, Try.ntmps40
    go_wp2
    go_ret
    exact ⟨by rw [HN.out]; rfl, rfl⟩
   ·have HN := hidp (nth_on (f := f) (n := n) (e := e) (i := i) c0 (by omega) (by omega))
    have p0 : 0 <= i * e := Int.mul_nonneg (by omega) e0
    have p1 : i * e <= 10000 * 120 := Int.mul_le_mul (by omega) e1 e0 (by omega)
    obtain ⟨y, hy⟩ : ∃ y, i * e = y := ⟨_, rfl⟩
    have HY := hidp hy
    rw [hy] at p0 p1
    go_enter Try.func40, Try.ntmps40
    go_wp2
    go_ret
    exact ⟨by rw [HN.out, HY.out]; rfl, rfl⟩

theorem plRoot_c (k : Int) (w : World) :
  Calls Try.prog 25 #[.int .i64 k] w fun z w' => z = .returned (.int .i64 (nthI 22 8 1 k)) /\ w = w' := by
 go_enter Try.func25, Try.ntmps25
 go_wp2_with fail
 refine (plNth_c 22 8 1 k (by omega) (by omega) (by omega) (by omega) (by omega) (by omega) _).mono ?_
 rintro e w1 ⟨rfl, rfl⟩
 go_wp2
 go_ret
 exact ⟨by first | rfl | trivial, by first | rfl | trivial⟩
end
end Go.Proofs.Ytlkaejjpibebkaa

namespace Go.Proofs.Ytlkaejjpibebkaa
open Go.ChangeShapes Go.WideShapes Go.ChangeAt Go.RowKit
set_option linter.unusedVariables false
section
theorem put_new (x a v : Nat) (ha : a + 16 <= 64) (hx : x < 2 ^ a) (hv : v < 65536) : HM.putN x a 16 v = x + v * 2 ^ a := by
 have hx64 : x < 2 ^ 64 := Nat.lt_of_lt_of_le hx (Nat.pow_le_pow_right (by omega) (by omega))
 have h1 : x + v * 2 ^ a = 2 ^ a * v + x := by rw [Nat.mul_comm, Nat.add_comm]
 have hlt : 2 ^ a * v + x < 2 ^ 64 := by
  have e : (2 : Nat) ^ 64 = 2 ^ a * 2 ^ (64 - a) := by rw [<- Nat.pow_add]; congr 1; omega
  have e2 : (2 : Nat) ^ 16 <= 2 ^ (64 - a) := Nat.pow_le_pow_right (by omega) (by omega)
  have e3 : 2 ^ a * (v + 1) <= 2 ^ a * 2 ^ (64 - a) := Nat.mul_le_mul_left _ (by omega)
  rw [Nat.mul_succ] at e3
  rw [e]
  omega
 rw [h1]
 apply Nat.eq_of_testBit_eq
 intro i
 by_cases hi : i < 64
 ·rw [HM.bit_putN x a 16 v i ha hv hi, Nat.testBit_two_pow_mul_add _ hx]
  by_cases h2 : i < a
  ·rw [if_neg (by omega), if_pos h2]
  ·rw [if_neg h2]
   by_cases h3 : i < a + 16
   ·rw [if_pos ⟨by omega, h3⟩]
   ·rw [if_neg (by omega), Nat.testBit_lt_two_pow (Nat.lt_of_lt_of_le hx (Nat.pow_le_pow_right (by omega) (by omega))), Nat.testBit_lt_two_pow (Nat.lt_of_lt_of_le hv (show 65536 <= 2 ^ (i - a) from Nat.pow_le_pow_right (n := 2) (by omega) (show 16 <= i - a by omega)))]
 ·rw [HM.bit_high (HM.putN_lt x a 16 v ha hv) (by omega), HM.bit_high hlt (by omega)]
end
end Go.Proofs.Ytlkaejjpibebkaa

namespace Go.Proofs.Ytlkaejjpibebkaa
open Go.ChangeShapes Go.WideShapes Go.ChangeAt Go.RowKit Go.Maps
set_option linter.unusedVariables false
section
abbrev inR (l : Nat) : Fence := Fence.wide.inRound l
section
variable {P : Program} {ops : Array Oper} {Q : Exit -> Act -> World -> Prop} {md : Region.Mode} {l n : Nat}
theorem calls_in {f : FuncId} {args : Array Value} {w : World} {R : Ending -> World -> Prop} (h : Calls P f args w R) : CallsIn (inR l) n P f args w R := CallsIn.inRound l (callsIn_wide.2 h)
theorem calls_out {f : FuncId} {args : Array Value} {w : World} {R : Ending -> World -> Prop} (h : Calls P f args w R) : CallsIn Fence.wide n P f args w R := callsIn_wide.2 h

end

section
variable {D : Nat} {w w' w'' : World}
end

def seqPost (I : Nat -> (Nat -> Prop) -> World -> Prop) (Ix : Code -> World -> Prop) (pos : Nat) (F : Nat -> Prop) (N : Nat) (A : World) : Exit -> Act -> World -> Prop
 | .normal, _, B => Turns F A B /\ ∃ F', I pos F' B /\ ∀ i, F' i -> F i \/ N <= i
 | .ret, _, B => Turns F A B /\ Ix .ret B
 | .exit id, _, B => Turns F A B /\ Ix (.exit id) B
 | .goto t, _, B => Turns F A B /\ Ix (.goto t) B
 | .panic _, _, _ => False
 | .outgrown, _, _ => False

def mark (D : Nat) : Deferred := { target := .collected D, args := #[] }

def noPanic (Q : Exit -> Act -> World -> Prop) : Exit -> Act -> World -> Prop
 | .panic _, _, _ => False
 | .outgrown, _, _ => False
 | .normal, a, w => Q .normal a w
 | .ret, a, w => Q .ret a w
 | .exit id, a, w => Q (.exit id) a w
 | .goto t, a, w => Q (.goto t) a w
theorem calls_of_wp_mark {P : Program} {f : FuncId} {fn : Func} {c : Code} {args : Array Value} {w : World} {R : Ending -> World -> Prop} (hf : P.funcs[f]? = some fn) (hb : fn.body = some c)
  (h : c.wp P (noPanic (bodyPostM Fence.wide 0 P fn R)) { tmps := args ++ Array.replicate (fn.ntmps - args.size) undef, defers := [] } w) : Calls P f args w R :=
 callsIn_wide.1 (callsIn_of_wp_marks hf hb trivial (wpIn_wide.2 (wp_mono h (fun e a w hq => by cases e <;> first | exact hq | exact hq.elim))) rfl)
theorem mark_end {P : Program} {fn : Func} {R : Ending -> World -> Prop} {a : Act} {w : World} {D : Nat} (hd : a.defers = [mark D]) (hk : w.heap[D]? = some (.deferred (some [])))
  (h : bodyPost P fn R .ret { a with defers := [] } (w.putObj D (.deferred none))) : bodyPostM Fence.wide 0 P fn R .ret a w := by
 show LeavesInM Fence.wide 0 P fn a.tmps R a.defers .returning w
 rw [hd]
 refine ⟨by simp, .inl ⟨_, _, rfl, run_takeDeferred hk, ?_⟩⟩
 exact h.2
theorem mark_end_n {P : Program} {fn : Func} {R : Ending -> World -> Prop} {a : Act} {w : World} {D : Nat} (hd : a.defers = [mark D]) (hk : w.heap[D]? = some (.deferred (some [])))
  (h : bodyPost P fn R .ret { a with defers := [] } (w.putObj D (.deferred none))) : bodyPostM Fence.wide 0 P fn R .normal a w := mark_end hd hk h
end
end Go.Proofs.Ytlkaejjpibebkaa

namespace Go.Proofs.Ytlkaejjpibebkaa
open Go.ChangeShapes Go.WideShapes Go.ChangeAt Go.RowKit Go.Shelf
set_option linter.unusedVariables false
set_option linter.unusedSimpArgs false
section
theorem Held.one {w : World} {g : Nat} {t : TypeId} {c0 : Value} (h : Held w g t #[c0]) : w.cell? ⟨g, 0, none⟩ = some c0 /\ w.frozen? ⟨g, 0, none⟩ = false := ⟨h.cell 0, h.thawed 0⟩
section
attribute [local go_sem] Oper.semAt_some
end
end
end Go.Proofs.Ytlkaejjpibebkaa

namespace Go.Proofs.Ytlkaejjpibebkaa
open Go.ChangeShapes Go.WideShapes Go.ChangeAt Go.RowKit Go.Maps
set_option linter.unusedVariables false
set_option linter.unusedSimpArgs false
section
def upd (g : Int -> Nat) (c : Int) (v : Nat) : Int -> Nat := fun a => if a = c then v else g a
theorem upd_same (g : Int -> Nat) (c : Int) (v : Nat) : upd g c v c = v := if_pos rfl
theorem upd_other (g : Int -> Nat) {c a : Int} (v : Nat) (h : a ≠ c) : upd g c v a = g a := if_neg h

section
variable {P : Nat} {nx pv : Nat -> Int} {hd : Int} {g g' : Int -> Nat} {l l1 l2 : List Nat} {a x a' x' p : Nat}
end
end
section
structure VW (n : Nat) (K : Nat -> Option Nat) (s : Vst) : Prop where
 all : ∀ i, i < n -> ∃ v, K i = some v
 lost : s.lost = false
section
variable {n : Nat} {K : Nat -> Option Nat} {s : Vst} {c : Int} {v : Nat}
theorem VW.at_ (h : VW n K s) {i : Nat} (hi : i < n) : getV n K s (i : Int) = (match pos s.wr i with | some k => atW s.wr k | none => (K i).getD 0) := by
 have ho := opn_yes hi h.lost
 unfold getV
 rw [if_pos ho, Int.toNat_natCast]
 cases pos s.wr i <;> rfl
theorem getV_far (n : Nat) (K : Nat -> Option Nat) (s : Vst) {a : Int} (h : ¬ (0 <= a /\ a < n)) : getV n K s a = 0 := getV_no (by unfold opn; simp; intro _ h1; omega)
theorem VW.get (h : VW n K s) (c : Int) : VW n K (getS n K s c) /\ getV n K (getS n K s c) = getV n K s := by
 by_cases ho : opn n s c = true
 ·obtain ⟨i, rfl, hi, hl⟩ := opn_at ho
  cases hp : pos s.wr i with
  | some k => rw [getS_put ho hp]; exact ⟨h, rfl⟩
  | none =>
   obtain ⟨v, hv⟩ := h.all i hi
   rw [getS_known ho hp hv]
   have e1 : (noteS s i).wr = s.wr /\ (noteS s i).lost = s.lost := by unfold noteS; split <;> exact ⟨rfl, rfl⟩
   refine ⟨⟨h.all, e1.2.trans h.lost⟩, ?_⟩
   funext a
   unfold getV opn
   rw [e1.1, e1.2]
 ·rw [getS_no (by simpa using ho)]; exact ⟨h, rfl⟩
theorem VW.put (h : VW n K s) {i : Nat} (hi : i < n) (v : Nat) : VW n K (putS n s (i : Int) v) /\ getV n K (putS n s (i : Int) v) = upd (getV n K s) (i : Int) v := by
 have ho := opn_yes hi h.lost
 have hV : VW n K (putS n s (i : Int) v) := ⟨h.all, by rw [putS_yes ho]; exact h.lost⟩
 refine ⟨hV, ?_⟩
 funext a
 by_cases ha : 0 <= a /\ a < n
 ·obtain ⟨j, rfl⟩ := Int.eq_ofNat_of_zero_le ha.1
  have hj : j < n := by omega
  rw [hV.at_ hj]
  have hw : (putS n s (i : Int) v).wr = putW s.wr i v := by rw [putS_yes ho]
  rw [hw, pos_putW]
  unfold upd
  cases hp : pos s.wr i with
  | some k =>
   obtain ⟨hk, hc⟩ := pos_some hp
   rw [putW_some hp]
   simp only
   by_cases e : j = i
   ·subst e
    rw [if_pos rfl, hp]
    simp [atW, List.getD, hk]
   ·rw [if_neg (by omega), h.at_ hj]
    cases hq : pos s.wr j with
    | none => rfl
    | some m =>
     have hm := pos_some hq
     have : m ≠ k := fun e2 => by subst e2; exact e (hm.2.symm.trans hc)
     simp [atW, List.getD, List.getElem?_set_ne (Ne.symm this)]
  | none =>
   rw [putW_none hp]
   simp only
   by_cases e : j = i
   ·subst e
    rw [if_pos rfl, if_pos rfl]
    simp [atW, List.getD]
   ·rw [if_neg e, if_neg (by omega), h.at_ hj]
    cases hq : pos s.wr j with
    | none => rfl
    | some m =>
     have hm := pos_some hq
     simp [atW, List.getD, List.getElem?_append_left hm.1]
 ·rw [getV_far n K _ ha]
  unfold upd
  rw [if_neg (by omega), getV_far n K _ ha]
end

section
variable {t P s n hd : Nat} {K : Nat -> Option Nat} {st : Vst} {l l1 l2 : List Nat} {p : Nat}
end

namespace AuH
variable {H : AuH}
end AuH
section
variable {H : AuH} {n c hd : Nat} {K : Nat -> Option Nat} {l : List Nat}
end
end
section
section
variable (n : Nat) (K : Nat -> Option Nat)
def rtC (i : Nat) : Int := ((22 + i : Nat) : Int)
def heldI (a : Int) : Nat -> Nat -> Vst -> Bool × Vst
 | 0, _, st => (false, st)
 | j + 1, i, st => if (getV n K st (rtC i) : Int) = a then (true, getS n K st (rtC i)) else heldI a j (i + 1) (getS n K st (rtC i))
def heldR (a : Int) (st : Vst) : Bool × Vst := if 1 <= a then heldI n K a 8 0 st else (false, st)
def folI (x y : Nat) : Nat -> Nat -> Vst -> Vst
 | 0, _, st => st
 | j + 1, i, st => folI x y j (i + 1) (if getV n K st (rtC i) = x then putS n (getS n K st (rtC i)) (rtC i) y else getS n K st (rtC i))
def folR (x y : Int) (st : Vst) : Vst := if 1 <= x /\ x <= 4294967295 /\ 1 <= y /\ y <= 4294967295 then folI n K x.toNat y.toNat 8 0 st else st
def rtB (i : Int) : Bool := decide (0 <= i /\ i <= 7)
def gtV (i : Int) (st : Vst) : Int := if rtB i = true then (getV n K st (22 + i) : Int) else 0
def gtS (i : Int) (st : Vst) : Vst := if rtB i = true then getS n K st (22 + i) else st
def stB (i a : Int) : Bool := rtB i && decide (0 <= a /\ a <= 4294967295)
def stS (i a : Int) (st : Vst) : Vst := if stB i a = true then putS n st (22 + i) a.toNat else st
end
section
variable {n : Nat} {K : Nat -> Option Nat} {st : Vst}
theorem heldI_vw (a : Int) : ∀ (j i : Nat) (st : Vst), VW n K st -> VW n K (heldI n K a j i st).2 /\ getV n K (heldI n K a j i st).2 = getV n K st /\ (heldI n K a j i st).2.wr = st.wr /\ ((heldI n K a j i st).1 = true ↔ ∃ k, i <= k /\ k < i + j /\ (getV n K st (rtC k) : Int) = a)
 | 0, i, st, h => ⟨h, rfl, rfl, ⟨fun h => (by cases h), fun ⟨k, h1, h2, _⟩ => by omega⟩⟩
 | j + 1, i, st, h => by
  have hg := h.get (rtC i)
  have hw : (getS n K st (rtC i)).wr = st.wr := (get_len n K st _).2
  unfold heldI
  by_cases h1 : (getV n K st (rtC i) : Int) = a
  ·rw [if_pos h1]
   exact ⟨hg.1, hg.2, hw, ⟨fun _ => ⟨i, by omega, by omega, h1⟩, fun _ => rfl⟩⟩
  ·rw [if_neg h1]
   obtain ⟨h2, h3, h4, h5⟩ := heldI_vw a j (i + 1) _ hg.1
   refine ⟨h2, h3.trans hg.2, h4.trans hw, ⟨fun h6 => ?_, fun ⟨k, h6, h7, h8⟩ => ?_⟩⟩
   ·obtain ⟨k, k1, k2, k3⟩ := h5.1 h6
    rw [hg.2] at k3
    exact ⟨k, by omega, by omega, k3⟩
   ·have : k ≠ i := fun e => h1 (by rw [<- e]; exact h8)
    exact h5.2 ⟨k, by omega, by omega, by rw [hg.2]; exact h8⟩
theorem folI_vw (x y : Nat) (hn : 30 <= n) : ∀ (j i : Nat) (st : Vst), i + j <= 8 -> VW n K st -> VW n K (folI n K x y j i st) /\ ∀ a : Int, getV n K (folI n K x y j i st) a = if rtC i <= a /\ a < rtC i + (j : Int) /\ getV n K st a = x then y else getV n K st a
 | 0, i, st, _, h => ⟨h, fun a => by rw [if_neg (by omega)]; rfl⟩
 | j + 1, i, st, hi, h => by
  have hg := h.get (rtC i)
  have e1 : rtC (i + 1) = rtC i + 1 := by unfold rtC; omega
  unfold folI
  by_cases h1 : getV n K st (rtC i) = x
  ·rw [if_pos h1]
   have hp : VW n K (putS n (getS n K st (rtC i)) (rtC i) y) /\ getV n K (putS n (getS n K st (rtC i)) (rtC i) y) = upd (getV n K (getS n K st (rtC i))) (rtC i) y := hg.1.put (i := 22 + i) (by omega) y
   obtain ⟨h2, h3⟩ := folI_vw x y hn j (i + 1) _ (by omega) hp.1
   refine ⟨h2, fun a => ?_⟩
   rw [h3 a, hp.2, hg.2, e1]
   by_cases ha : a = rtC i
   ·subst ha
    rw [upd_same, if_neg (by omega), if_pos ⟨by omega, by omega, h1⟩]
   ·rw [upd_other _ _ ha]
    by_cases hk : rtC i + 1 <= a /\ a < rtC i + 1 + (j : Int) /\ getV n K st a = x
    ·rw [if_pos hk, if_pos ⟨by omega, by omega, hk.2.2⟩]
    ·rw [if_neg hk, if_neg (fun h => hk ⟨by omega, by omega, h.2.2⟩)]
  ·rw [if_neg h1]
   obtain ⟨h2, h3⟩ := folI_vw x y hn j (i + 1) _ (by omega) hg.1
   refine ⟨h2, fun a => ?_⟩
   rw [h3 a, hg.2, e1]
   by_cases hk : rtC i + 1 <= a /\ a < rtC i + 1 + (j : Int) /\ getV n K st a = x
   ·rw [if_pos hk, if_pos ⟨by omega, by omega, hk.2.2⟩]
   ·rw [if_neg hk, if_neg (fun h => hk ⟨by
     rcases Int.lt_or_le (rtC i) a with e | e
     ·omega
     ·exact absurd (by rw [show rtC i = a by omega]; exact h.2.2) h1, by omega, h.2.2⟩)]
end
end
end Go.Proofs.Ytlkaejjpibebkaa

namespace Go.Proofs.Ytlkaejjpibebkaa
open Go.ChangeShapes Go.WideShapes Go.ChangeAt Go.RowKit Go.Maps
set_option linter.unusedVariables false
set_option linter.unusedSimpArgs false
set_option maxRecDepth 100000
section
structure Blk where
 n : Nat
 t : TypeId
 cs : Array Value
def GB (G : Nat -> Prop) (L : List Blk) : Nat -> Prop := fun g => G g \/ ∃ x, x ∈ L /\ x.n = g

structure WL (O : Ob) (w0 : World) (A G : Nat -> Prop) (ws : World) (L : List Blk) (st : Vst) (w : World) : Prop where
 at_ : O.At w0 A (GB G L) st w
 held : ∀ x ∈ L, Held w x.n x.t x.cs
 stay : Stay G ws w
 lo : ∀ x ∈ L, ws.heap.size <= x.n
 nd : (L.map (·.n)).Nodup

section
variable {O : Ob} {w0 ws w w' : World} {A G : Nat -> Prop} {L : List Blk} {x y z : Blk} {st s' : Vst}
theorem WL.start (h : O.At w0 A G st ws) : WL O w0 A G ws [] st ws :=
 ⟨h.less (fun g hg => by
  rcases hg with hg | ⟨x, hx, _⟩
  ·exact hg
  ·exact absurd hx (List.not_mem_nil)), fun x hx => absurd hx (List.not_mem_nil), Stay.of_below (B0 _) G, fun x hx => absurd hx (List.not_mem_nil), List.nodup_nil⟩
theorem WL.keep (h : WL O w0 A G ws L st w) (hb : Below w.heap.size w w') : WL O w0 A G ws L st w' :=
 ⟨h.at_.keep hb, fun x hx => (h.held x hx).keep hb, h.stay.trans (Stay.of_below hb G), h.lo, h.nd⟩
theorem WL.alloc (h : WL O w0 A G ws L st w) (o : Obj) : WL O w0 A G ws L st (w.alloc o) := h.keep (Bnew (B0 w) o)
theorem WL.call (h : WL O w0 A G ws L st w) (h1 : O.At w0 A (GB G L) s' w') (h2 : Stay (GB G L) w w') : WL O w0 A G ws L s' w' :=
 ⟨h1, fun x hx => h2.held (.inr ⟨x, hx, rfl⟩) (h.held x hx), h.stay.trans (h2.less fun g x => .inl x), h.lo, h.nd⟩
theorem WL.fin (h : WL O w0 A G ws L st w) : O.At w0 A G st w /\ Stay G ws w := ⟨h.at_.less fun g x => .inl x, h.stay⟩
theorem WL.new (h : WL O w0 A G ws L st w) (t : TypeId) (cs : Array Value) : WL O w0 A G ws (⟨w.heap.size, t, cs⟩ :: L) st (w.alloc (.cells cs t)) := by
 have hk := h.alloc (.cells cs t)
 refine ⟨(h.at_.box (.cells cs t)).less (fun g hg => ?_), fun x hx => ?_, hk.stay, fun x hx => ?_, ?_⟩
 ·rcases hg with hg | ⟨x, hx, rfl⟩
  ·exact .inl (.inl hg)
  ·rcases List.mem_cons.1 hx with rfl | hx
   ·exact .inr rfl
   ·exact .inl (.inr ⟨x, hx, rfl⟩)
 ·rcases List.mem_cons.1 hx with rfl | hx
  ·exact Held.new w t cs
  ·exact hk.held x hx
 ·rcases List.mem_cons.1 hx with rfl | hx
  ·exact h.stay.1
  ·exact h.lo x hx
 ·rw [List.map_cons]
  refine List.nodup_cons.2 ⟨fun hm => ?_, h.nd⟩
  obtain ⟨x, hx, e⟩ := List.mem_map.1 hm
  have h1 := (h.held x hx).lt
  have e : x.n = w.heap.size := e
  omega
theorem WL.put (h : WL O w0 A G ws (x :: L) st w) (i : Nat) (v : Value) : WL O w0 A G ws (⟨x.n, x.t, x.cs.setIfInBounds i v⟩ :: L) st (w.setCell ⟨x.n, i, none⟩ v) := by
 have hnd := List.nodup_cons.1 h.nd
 have hlo := h.lo x (List.mem_cons_self ..)
 refine ⟨(h.at_.put (p := ⟨x.n, i, none⟩) (.inr ⟨x, List.mem_cons_self .., rfl⟩) v).less (fun g hg => ?_), fun y hy => ?_, ⟨by simp; exact h.stay.1, fun g hg hl => (Below.heap_setCell w ⟨x.n, i, none⟩ v g (fun e => by have e : g = x.n := e; omega)).trans (h.stay.2 g hg hl)⟩, fun y hy => ?_, h.nd⟩
 ·rcases hg with hg | ⟨y, hy, rfl⟩
  ·exact .inl hg
  ·rcases List.mem_cons.1 hy with rfl | hy
   ·exact .inr ⟨x, List.mem_cons_self .., rfl⟩
   ·exact .inr ⟨y, List.mem_cons_of_mem _ hy, rfl⟩
 ·rcases List.mem_cons.1 hy with rfl | hy
  ·exact (h.held x (List.mem_cons_self ..)).put i v
  ·refine (h.held y (List.mem_cons_of_mem _ hy)).far (p := ⟨x.n, i, none⟩) (fun e => hnd.1 ?_) v
   have e : y.n = x.n := e
   exact List.mem_map.2 ⟨y, hy, e⟩
 ·rcases List.mem_cons.1 hy with rfl | hy
  ·exact hlo
  ·exact h.lo y (List.mem_cons_of_mem _ hy)
theorem WL.swap (h : WL O w0 A G ws (x :: y :: L) st w) : WL O w0 A G ws (y :: x :: L) st w := by
 refine ⟨h.at_.less (fun g hg => ?_), fun z hz => h.held z (by simp at hz ⊢; rcases hz with e | e | e <;> simp [e]), h.stay, fun z hz => h.lo z (by simp at hz ⊢; rcases hz with e | e | e <;> simp [e]), ?_⟩
 ·rcases hg with hg | ⟨z, hz, e⟩
  ·exact .inl hg
  ·exact .inr ⟨z, by simp at hz ⊢; rcases hz with e | e | e <;> simp [e], e⟩
 ·have := h.nd
  simp only [List.map_cons, List.nodup_cons, List.mem_cons, not_or] at this ⊢
  exact ⟨⟨fun e => this.1.1 e.symm, this.2.1⟩, this.1.2, this.2.2⟩
theorem WL.h0 (h : WL O w0 A G ws (x :: L) st w) : Held w x.n x.t x.cs := h.held x (List.mem_cons_self ..)
theorem WL.h1 (h : WL O w0 A G ws (x :: y :: L) st w) : Held w y.n y.t y.cs := h.held y (List.mem_cons_of_mem _ (List.mem_cons_self ..))
theorem WL.h2 (h : WL O w0 A G ws (x :: y :: z :: L) st w) : Held w z.n z.t z.cs := h.held z (List.mem_cons_of_mem _ (List.mem_cons_of_mem _ (List.mem_cons_self ..)))
end
end
end Go.Proofs.Ytlkaejjpibebkaa

namespace Go.Proofs.Ytlkaejjpibebkaa
open Go.ChangeShapes Go.WideShapes Go.ChangeAt Go.RowKit Go.Maps
set_option linter.unusedVariables false
section
structure WLF (O : Ob) (w0 : World) (A G : Nat -> Prop) (ws : World) (L : List Blk) (st : Vst) (F : Nat -> Prop) (w : World) : Prop where
 I : O.I w st F
 sub : ∀ g, F g -> A g \/ w0.heap.size <= g
 turns : Turns A w0 w
 own : ∀ g, GB G L g -> w0.heap.size <= g /\ g < w.heap.size /\ ¬ F g
 held : ∀ x ∈ L, Held w x.n x.t x.cs
 stay : Stay G ws w
 lo : ∀ x ∈ L, ws.heap.size <= x.n
 nd : (L.map (·.n)).Nodup
theorem Turns.putObj {k : Nat} (w : World) (o : Obj) : Turns (fun i => i = k) w (w.putObj k o) := ⟨rfl, rfl, rfl, by simp, fun i _ hf => World.putObj_heap_other hf⟩
section
variable {O : Ob} {w0 ws w w' : World} {A G F : Nat -> Prop} {L : List Blk} {st s' : Vst}
theorem Stay.aside {k : Nat} (h : Stay G ws w) (ht : Turns (fun i => i = k) w w') (hs : ws.heap.size <= k) : Stay G ws w' :=
 ⟨Nat.le_trans h.1 ht.size, fun g hg hl => (ht.block g (Nat.lt_of_lt_of_le hl h.1) (fun e => by omega)).trans (h.2 g hg hl)⟩
theorem WL.open_ (h : WL O w0 A G ws L st w) : ∃ F, WLF O w0 A G ws L st F w := by
 obtain ⟨F, h1, h2, h3, h4⟩ := h.at_
 exact ⟨F, h1, h2, h3, h4, h.held, h.stay, h.lo, h.nd⟩
theorem WLF.wl (h : WLF O w0 A G ws L st F w) : WL O w0 A G ws L st w := ⟨⟨F, h.I, h.sub, h.turns, h.own⟩, h.held, h.stay, h.lo, h.nd⟩
theorem WLF.lt (h : WLF O w0 A G ws L st F w) : ∀ g, F g -> g < w.heap.size := fun g hg => O.lt h.I g hg
theorem WLF.aside {k : Nat} (h : WLF O w0 A G ws L st F w) (ht : Turns (fun i => i = k) w w') (hF : ¬ F k) (h0 : w0.heap.size <= k) (hs : ws.heap.size <= k) (hL : ∀ x ∈ L, x.n ≠ k) : WLF O w0 A G ws L st F w' :=
 ⟨O.turns h.I ht (fun i hi e => hF (e ▸ hi)), h.sub, ht.more_new h.turns.size h.turns (fun i e => .inr (by omega)), fun g hg => ⟨(h.own g hg).1, Nat.lt_of_lt_of_le (h.own g hg).2.1 ht.size, (h.own g hg).2.2⟩,
  fun x hx => ht.held (h.held x hx) (hL x hx), h.stay.aside ht hs, h.lo, h.nd⟩
theorem WLF.turn {F' : Nat -> Prop} (h : WLF O w0 A G ws L st F w) (hI : O.I w' s' F') (ht : Turns F w w') (hs : ∀ g, F' g -> F g \/ w.heap.size <= g) : WLF O w0 A G ws L s' F' w' := by
 have h0 := h.turns.size
 refine ⟨hI, fun g hg => ?_, ht.more_new h0 h.turns h.sub, fun g hg => ?_, fun x hx => ht.held (h.held x hx) (h.own _ (.inr ⟨x, hx, rfl⟩)).2.2, ⟨Nat.le_trans h.stay.1 ht.size, fun g hg hl => (ht.block g (Nat.lt_of_lt_of_le hl h.stay.1) (h.own g (.inl hg)).2.2).trans (h.stay.2 g hg hl)⟩, h.lo, h.nd⟩
 ·rcases hs g hg with h1 | h1
  ·exact h.sub g h1
  ·exact .inr (by omega)
 ·obtain ⟨h1, h2, h3⟩ := h.own g hg
  refine ⟨h1, Nat.lt_of_lt_of_le h2 ht.size, fun x => ?_⟩
  rcases hs g x with h4 | h4
  ·exact h3 h4
  ·omega
theorem WLF.call {P : Program} {f : FuncId} {args : Array Value} {R : Ending -> Prop} (h : WLF O w0 A G ws L st F w) (hc : O.At w F (fun _ => False) st w -> Calls P f args w fun e w' => R e /\ O.At w F (fun _ => False) s' w' /\ Stay (fun _ => False) w w') :
  Calls P f args w fun e w' => R e /\ ∃ F', WLF O w0 A G ws L s' F' w' /\ Turns F w w' /\ ∀ g, F' g -> F g \/ w.heap.size <= g := by
 refine (hc (Ob.At.start h.I)).mono ?_
 rintro e w' ⟨hr, ⟨F', h1, h2, h3, _⟩, _⟩
 exact ⟨hr, F', h.turn h1 h3 h2, h3, h2⟩
theorem WLF.put {x : Blk} (h : WLF O w0 A G ws (x :: L) st F w) (i : Nat) (v : Value) : WLF O w0 A G ws (⟨x.n, x.t, x.cs.setIfInBounds i v⟩ :: L) st F (w.setCell ⟨x.n, i, none⟩ v) := by
 have h2 := h.wl.put i v
 have hx := h.own x.n (.inr ⟨x, List.mem_cons_self .., rfl⟩)
 refine ⟨O.turns h.I ((T0 (fun k => k = x.n) w).put (p := ⟨x.n, i, none⟩) rfl v) (fun k hk e => hx.2.2 (by rw [<- e]; exact hk)), h.sub, h.turns.put_new (p := ⟨x.n, i, none⟩) hx.1 v, fun g hg => ?_, h2.held, h2.stay, h2.lo, h2.nd⟩
 obtain ⟨h3, h4, h5⟩ := h.own g (by
  rcases hg with hg | ⟨y, hy, rfl⟩
  ·exact .inl hg
  ·rcases List.mem_cons.1 hy with rfl | hy
   ·exact .inr ⟨x, List.mem_cons_self .., rfl⟩
   ·exact .inr ⟨y, List.mem_cons_of_mem _ hy, rfl⟩)
 exact ⟨h3, by simpa using h4, h5⟩
end

def SeqGet (P : Program) (gf : Nat) (cap : Array Value) (get : FuncId) (gargs : Nat -> Array Value) (m : Nat) (R : World -> Prop) : Prop :=
 ∀ (l : Nat) (J : Nat -> (Nat -> Prop) -> World -> Prop) (J1 : Nat -> Int -> (Nat -> Prop) -> World -> Prop) (Jx : World -> Prop) (W : World) (F0 : Nat -> Prop), R W ->
  (∀ pos F A B, J pos F A -> Below A.heap.size A B -> J pos F B) -> (∀ pos a F A B, J1 pos a F A -> Below A.heap.size A B -> J1 pos a F B) -> (∀ A B, Jx A -> Below A.heap.size A B -> Jx B) ->
  (∀ pos F A, J pos F A -> R A) ->
  (∀ pos F A, J pos F A -> W.heap.size <= A.heap.size -> pos < m -> Calls P get (gargs pos) A fun e B => ∃ (a : Int) (ok : Bool), e = .returned (.tuple #[.int .i64 a, .bool ok]) /\ W.heap.size <= B.heap.size /\ ∃ F', J1 pos a F' B) ->
  (∀ pos a F A, J1 pos a F A -> W.heap.size <= A.heap.size -> pos < m -> YieldAt Fence.wide 0 P l #[.int .i64 (pos : Int), .int .i64 a] A fun e B =>
   (e = .returned (.bool true) /\ W.heap.size <= B.heap.size /\ ∃ F', J (pos + 1) F' B) \/ (e = .returned (.bool false) /\ Jx B)) ->
  J 0 F0 W ->
  CallsIn Fence.wide 0 P gf (#[.func (.yield l) #[] #[]] ++ cap) W fun e B => (∃ v, e = .returned v) /\ ((∃ F, J m F B) \/ Jx B)

def RoundGoT (k : Nat) (P : Program) (l : Nat) (body : Code) (Q : World -> Exit -> Act -> World -> Prop) (A : World) (a₁ : Act) (A₁ : World) : Prop :=
 Below A.heap.size A A₁ /\ ∀ A₂, Turns (fun i => i = k) A₁ A₂ -> A₂.heap.size = A₁.heap.size -> body.wpIn (inR l) 0 P (Q A₂) a₁ A₂

theorem wp_seq_get {P : Program} {g : Operand} {ps : Array Tmp} {assign body : Code} {Q : Exit -> Act -> World -> Prop} {a : Act} {w : World} {gf : Nat} {cap : Array Value}
  (hg : a.eval g = .func (.func gf) #[] cap) (eg : ∀ args w, (callFunc gf args).run P w = .ok (.enter gf args) w)
  {get : FuncId} {gargs : Nat -> Array Value} {m : Nat} {R : World -> Prop} (hseq : SeqGet P gf cap get gargs m R) (hb0 : R w) (hRB : ∀ A B, R A -> Below A.heap.size A B -> R B) (hps : ps.size = 2)
  (I : Nat -> (Nat -> Prop) -> World -> Prop) (I1 : Nat -> Int -> (Nat -> Prop) -> World -> Prop) (Ix : Code -> World -> Prop)
  (hI : ∀ pos F A B, I pos F A -> ¬ F (w.heap.size + 1) -> Turns (fun i => i = w.heap.size + 1) A B -> I pos F B)
  (hI1 : ∀ pos v F A B, I1 pos v F A -> ¬ F (w.heap.size + 1) -> Turns (fun i => i = w.heap.size + 1) A B -> I1 pos v F B)
  (hIx : ∀ c A B, Ix c A -> Turns (fun i => i = w.heap.size + 1) A B -> Ix c B)
  (hIR : ∀ pos F A, I pos F A -> R A)
  {F0 : Nat -> Prop} (h0 : I 0 F0 w) (hF0 : ∀ i, F0 i -> i < w.heap.size)
  (hget : ∀ pos F A, I pos F A -> pos < m -> Calls P get (gargs pos) A fun e B => ∃ (v : Int) (ok : Bool), e = .returned (.tuple #[.int .i64 v, .bool ok]) /\ ∃ F', I1 pos v F' B /\ Turns F A B /\ ∀ i, F' i -> F i \/ A.heap.size <= i)
  (hround : ∀ (l pos : Nat) (v : Int) (F : Nat -> Prop) (A : World), pos < m -> I1 pos v F A -> w.heap.size + 2 <= A.heap.size -> (¬ F w.heap.size /\ ¬ F (w.heap.size + 1)) ->
   assign.wpIn (inR l) 0 P (Exit.then (RoundGoT (w.heap.size + 1) P l body (seqPost I Ix (pos + 1) F A.heap.size) A) (fun _ _ _ => False))
    { tmps := (ps.zip #[.int .i64 (pos : Int), .int .i64 v]).foldl (fun t (p, v) => t.setIfInBounds p v) a.tmps, defers := [] } A)
  (hdone : ∀ (F : Nat -> Prop) (A : World), I m F A -> ¬ F w.heap.size -> A.heap[w.heap.size]? = some (.deferred (some [])) -> Q .normal { a with defers := mark w.heap.size :: a.defers } A)
  (hstop : ∀ (c : Code) (A : World), Ix c A -> A.heap[w.heap.size]? = some (.deferred (some [])) -> c.wp P Q { a with defers := mark w.heap.size :: a.defers } A) :
  (Code.rangeFunc g ps assign body).wp P Q a w := by
 refine (wpIn_wide (n := 1)).1 (wpIn_rangeFunc ?_)
 intro fn hfn
 obtain ⟨rec, hrec⟩ : ∃ rec : LoopState -> Option Code -> Loop, rec = fun st pe => { state := st, pending := pe, fn, tmps := a.tmps, params := ps, assign, body, defers := w.heap.size } := ⟨_, rfl⟩
 obtain ⟨W1, hW1⟩ : ∃ W1, (w.alloc (.deferred (some []))).alloc (.loop (rec .ready none)) = W1 := ⟨_, rfl⟩
 have hbw : Below w.heap.size w W1 := by rw [<- hW1]; exact Bnew (Bnew (B0 w) _) _
 have hs1 : W1.heap.size = w.heap.size + 2 := by rw [<- hW1]; simp
 have hL1 : W1.heap[w.heap.size + 1]? = some (.loop (rec .ready none)) := by
  have := heap_alloc_new (w.alloc (.deferred (some []))) (.loop (rec .ready none))
  rw [hW1] at this; simpa using this
 have hK1 : W1.heap[w.heap.size]? = some (.deferred (some [])) := by
  rw [<- hW1]; exact (Below.heap_alloc _ _ _ (by simp)).trans (heap_alloc_new w _)
 refine ⟨w.heap.size + 1, [mark w.heap.size], W1, { target := .fn (.func gf) cap, args := #[.func (.yield (w.heap.size + 1)) #[] #[]] }, W1, gf, #[.func (.yield (w.heap.size + 1)) #[] #[]] ++ cap, W1, ?_, ?_, ?_, ?_, fun _ => Nat.le_refl _, ?_⟩
 ·rw [<- hW1, hrec]; exact run_enterLoop_outer _ _ _ _ _
 ·simp only [resolve, hg]
  simp [go_sem]
 ·intro f' hf'; exact trivial
 ·simp [invoke, go_sem, eg]
 ·have keepRow : ∀ {A B : World} {k : Nat} {o : Obj}, Below A.heap.size A B -> A.heap[k]? = some o -> B.heap[k]? = some o := fun hb hk => (hb.block _ (Array.getElem?_eq_some_iff.1 hk).1).trans hk
  have turnRow : ∀ {A B : World} {F : Nat -> Prop} {k : Nat} {o : Obj}, Turns F A B -> ¬ F k -> A.heap[k]? = some o -> B.heap[k]? = some o := fun hb hf hk => (hb.block _ (Array.getElem?_eq_some_iff.1 hk).1 hf).trans hk
  refine (hseq (w.heap.size + 1)
   (fun pos F A => I pos F A /\ (¬ F w.heap.size /\ ¬ F (w.heap.size + 1)) /\ A.heap[w.heap.size + 1]? = some (.loop (rec .ready none)) /\ A.heap[w.heap.size]? = some (.deferred (some [])))
   (fun pos v F A => I1 pos v F A /\ (¬ F w.heap.size /\ ¬ F (w.heap.size + 1)) /\ A.heap[w.heap.size + 1]? = some (.loop (rec .ready none)) /\ A.heap[w.heap.size]? = some (.deferred (some [])))
   (fun A => ∃ c, Ix c A /\ A.heap[w.heap.size + 1]? = some (.loop (rec .done (some c))) /\ A.heap[w.heap.size]? = some (.deferred (some [])))
   W1 F0 (hRB _ _ hb0 hbw)
   (fun pos F A B h hb => ⟨hI pos F A B h.1 h.2.1.2 (Turns.of_below hb _), h.2.1, keepRow hb h.2.2.1, keepRow hb h.2.2.2⟩)
   (fun pos v F A B h hb => ⟨hI1 pos v F A B h.1 h.2.1.2 (Turns.of_below hb _), h.2.1, keepRow hb h.2.2.1, keepRow hb h.2.2.2⟩)
   (fun A B h hb => by obtain ⟨c, h1, h3, h4⟩ := h; exact ⟨c, hIx c A B h1 (Turns.of_below hb _), keepRow hb h3, keepRow hb h4⟩)
   (fun pos F A h => hIR pos F A h.1)
   ?_ ?_ ⟨hI 0 F0 w W1 h0 (fun hf => by have := hF0 _ hf; omega) (Turns.of_below hbw _), ⟨fun hf => by have := hF0 _ hf; omega, fun hf => by have := hF0 _ hf; omega⟩, hL1, hK1⟩).mono ?_
  ·rintro pos F A ⟨hi, ⟨hF0', hF1⟩, hl, hk⟩ hsA hc
   refine (hget pos F A hi hc).mono ?_
   rintro e B ⟨v, ok, rfl, F', h1, h2, h3⟩
   have hlt : w.heap.size + 1 < A.heap.size := (Array.getElem?_eq_some_iff.1 hl).1
   refine ⟨v, ok, rfl, Nat.le_trans hsA h2.size, F', h1, ⟨fun hf => ?_, fun hf => ?_⟩, turnRow h2 hF1 hl, turnRow h2 hF0' hk⟩
   ·rcases h3 _ hf with h | h
    ·exact hF0' h
    ·omega
   ·rcases h3 _ hf with h | h
    ·exact hF1 h
    ·omega
  ·rintro pos v F A ⟨hi, ⟨hF0', hF1⟩, hl, hk⟩ hsA hc
   have hlt : w.heap.size + 1 < A.heap.size := (Array.getElem?_eq_some_iff.1 hl).1
   have hy := run_yield (P := P) (args := #[.int .i64 (pos : Int), .int .i64 v]) hl (by rw [hrec]; exact hps.symm)
   rw [hrec] at hy
   refine ⟨fn, _, assign, body, hy, roundIn_of_wpIn hfn (wpIn_mono (hround _ pos v F A hc hi (by omega) ⟨hF0', hF1⟩) ?_)⟩
   rintro e a₁ A₁ hg1
   cases e with
   | normal =>
    obtain ⟨hbA, hgo⟩ := hg1
    have hl1 := keepRow hbA hl
    have hk1 := keepRow hbA hk
    have hlt1 : w.heap.size + 1 < A₁.heap.size := (Array.getElem?_eq_some_iff.1 hl1).1
    refine ⟨_, run_beginRound hl1 (by rw [hrec]), ?_⟩
    obtain ⟨A₂, hA₂⟩ : ∃ A₂, A₁.putObj (w.heap.size + 1) (.loop { rec .ready none with state := .busy }) = A₂ := ⟨_, rfl⟩
    have hl2 : A₂.heap[w.heap.size + 1]? = some (.loop { rec .ready none with state := .busy }) := by rw [<- hA₂]; exact World.putObj_heap_same hlt1
    have hk2 : A₂.heap[w.heap.size]? = some (.deferred (some [])) := by rw [<- hA₂]; exact (World.putObj_heap_other (by omega)).trans hk1
    have hM2 : Turns (fun i => i = w.heap.size + 1) A₁ A₂ := by rw [<- hA₂]; exact Turns.putObj _ _
    have hs2 : A₂.heap.size = A₁.heap.size := by rw [<- hA₂]; simp
    rw [hA₂]
    refine wpIn_mono (hgo A₂ hM2 hs2) ?_
    have fin : ∀ (jump : Option Code) (B : World), Turns F A₂ B -> (Instr.endRound (w.heap.size + 1) jump).run P B = .ok (.bool jump.isNone) (B.putObj (w.heap.size + 1) (.loop (rec (if jump.isNone then .ready else .done) jump))) /\
      Turns (fun i => i = w.heap.size + 1) B (B.putObj (w.heap.size + 1) (.loop (rec (if jump.isNone then .ready else .done) jump))) /\
      (B.putObj (w.heap.size + 1) (.loop (rec (if jump.isNone then .ready else .done) jump))).heap[w.heap.size + 1]? = some (.loop (rec (if jump.isNone then .ready else .done) jump)) /\
      (B.putObj (w.heap.size + 1) (.loop (rec (if jump.isNone then .ready else .done) jump))).heap[w.heap.size]? = some (.deferred (some [])) := fun jump B hT => by
     have hl3 := turnRow hT hF1 hl2
     have hk3 := turnRow hT hF0' hk2
     have := run_endRound (P := P) jump hl3
     rw [hrec] at this ⊢
     exact ⟨this, Turns.putObj _ _, World.putObj_heap_same (Array.getElem?_eq_some_iff.1 hl3).1, (World.putObj_heap_other (by omega)).trans hk3⟩
    rintro e a3 B hp
    cases e with
    | normal =>
     obtain ⟨hT, F', hi3, hF'⟩ := hp
     obtain ⟨hr, hm, hl4, hk4⟩ := fin none B hT
     have hsB : A.heap.size <= B.heap.size := by have := hT.size; have := hbA.size; omega
     have hn0 : ¬ F' w.heap.size := fun hf => by
      rcases hF' _ hf with h | h
      ·exact hF0' h
      ·omega
     have hn1 : ¬ F' (w.heap.size + 1) := fun hf => by
      rcases hF' _ hf with h | h
      ·exact hF1 h
      ·omega
     exact ⟨_, _, hr, .inl ⟨rfl, Nat.le_trans hsA (Nat.le_trans hsB hm.size), F', hI _ _ _ _ hi3 hn1 hm, ⟨hn0, hn1⟩, hl4, hk4⟩⟩
    | ret =>
     obtain ⟨hT, hx⟩ := hp
     obtain ⟨hr, hm, hl4, hk4⟩ := fin (some .ret) B hT
     exact ⟨_, _, hr, .inr ⟨rfl, .ret, hIx _ _ _ hx hm, hl4, hk4⟩⟩
    | exit id =>
     obtain ⟨hT, hx⟩ := hp
     obtain ⟨hr, hm, hl4, hk4⟩ := fin (some (.exit id)) B hT
     exact ⟨_, _, hr, .inr ⟨rfl, .exit id, hIx _ _ _ hx hm, hl4, hk4⟩⟩
    | goto t =>
     obtain ⟨hT, hx⟩ := hp
     obtain ⟨hr, hm, hl4, hk4⟩ := fin (some (.goto t)) B hT
     exact ⟨_, _, hr, .inr ⟨rfl, .goto t, hIx _ _ _ hx hm, hl4, hk4⟩⟩
    | panic ch => exact hp.elim
    | outgrown => exact hp.elim
   | exit id => exact hg1.elim
   | goto t => exact hg1.elim
   | ret => exact hg1.elim
   | panic ch => exact hg1.elim
   | outgrown => exact hg1.elim
  ·rintro e B ⟨⟨v, rfl⟩, (⟨F, hi, ⟨hF0', hF1⟩, hl, hk⟩ | ⟨c, hx, hl, hk⟩)⟩
   ·exact ⟨none, _, by have := run_endLoop (P := P) hl (by rw [hrec]; simp); rw [hrec] at this; exact this, hdone F _ (hI _ _ _ _ hi hF1 (Turns.putObj _ _)) hF0' ((World.putObj_heap_other (by omega)).trans hk)⟩
   ·exact ⟨some c, _, by have := run_endLoop (P := P) hl (by rw [hrec]; simp); rw [hrec] at this; exact this, wpIn_wide.2 (hstop c _ (hIx _ _ _ hx (Turns.putObj _ _)) ((World.putObj_heap_other (by omega)).trans hk))⟩
end
end Go.Proofs.Ytlkaejjpibebkaa
