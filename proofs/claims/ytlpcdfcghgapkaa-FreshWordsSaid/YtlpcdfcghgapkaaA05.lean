/-
  Contracts of the functions of package mark and of the document's answers to it.
-/
import Derived.Test.YtlpcdfcghgapkaaA02
import Derived.Test.YtlpcdfcghgapkaaA04
import Derived.Test.YtlpcdfcghgapkaaA03
import Derived.Test.YtlpcdfcghgapkaaA01
import Derived.Deep.RegionHeld3
import Derived.Test.YtlpcdfcghgapkaaAKit
import Derived.Deep.DeepFit
import Derived.RegionTactic
import Derived.ChangeAlike
import Derived.BigQuiet
import Derived.Laws.BitsAllLaws
import Derived.Deep.AppendLies
import Derived.Deep.RegionWith
import Derived.Deep.CutRange
import Derived.Deep.Slices
import Derived.Lib.SmallJoins
import Derived.OpenShut
import Derived.Laws.MakeOwn
namespace Go.Proofs.Ytlpcdfcghgapkaa
open Go.ChangeShapes Go.WideShapes Go.ChangeAt Go.RowKit
set_option linter.unusedVariables false
section
def tipB (m : Int) : Bool := decide (0 <= m /\ m <= 16)
def tipN (s : Nat) (m : Int) : Nat := if tipB m then s * 4294967296 + m.toNat else 0
theorem tip_yes (s m : Nat) (h : m <= 16) : tipB m = true /\ tipN s m = s * 4294967296 + m := by
 have : tipB m = true := by unfold tipB; simp; omega
 exact ⟨this, by unfold tipN; rw [this, if_pos rfl, Int.toNat_natCast]⟩
theorem tip_no (s : Nat) (m : Int) (h : m < 0 \/ 16 < m) : tipB m = false /\ tipN s m = 0 := by
 have : tipB m = false := by unfold tipB; simp; omega
 exact ⟨this, by unfold tipN; rw [this]; rfl⟩
theorem mkTip_c (s : Nat) (m : Int) (hs : s < 2 ^ 32) (h0 : -9223372036854775808 <= m) (h1 : m <= 9223372036854775807) (w : World) :
  Calls Try.prog 25 #[.int .u32 (s : Int), .int .i64 m] w fun e w' => e = .returned (.tuple #[.int .u64 ((tipN s m : Nat) : Int), .bool (tipB m)]) /\ w = w' := by
 by_cases hm : m < 0
 ·have T := hidp (tip_no s m (by omega))
  go_enter Try.func25, Try.ntmps25
  go_wp2
  go_ret2
  exact ⟨by rw [T.out.1, T.out.2]; rfl, rfl⟩
 ·by_cases hm2 : 16 < m
  ·have T := hidp (tip_no s m (by omega))
   go_enter Try.func25, Try.ntmps25
   go_wp2
   go_ret2
   exact ⟨by rw [T.out.1, T.out.2]; rfl, rfl⟩
  ·obtain ⟨k, rfl⟩ : ∃ k : Nat, m = k := ⟨m.toNat, by omega⟩
   have T := hidp (tip_yes s k (by omega))
   have hk : k < 2 ^ 32 := by omega
   go_enter Try.func25, Try.ntmps25
   go_wp2_with (go_at_call 49; refine (Join_c s k hs hk _).mono ?_; rintro e w' ⟨rfl, rfl⟩)
   go_ret2
   exact ⟨by rw [T.out.1, T.out.2]; rfl, rfl⟩

theorem mkCell_c (h l : Nat) (hh : h < 2 ^ 32) (hl : l < 2 ^ 32) (w : World) :
  Calls Try.prog 26 #[.int .u32 (h : Int), .int .u32 (l : Int)] w fun e w' => e = .returned (.int .u64 ((h * 4294967296 + l : Nat) : Int)) /\ w = w' := by
 go_enter Try.func26, Try.ntmps26
 go_wp2_with (go_at_call 49; refine (Join_c h l hh hl _).mono ?_; rintro e w' ⟨rfl, rfl⟩)
 go_ret
 exact ⟨rfl, rfl⟩
end
end Go.Proofs.Ytlpcdfcghgapkaa

namespace Go.Proofs.Ytlpcdfcghgapkaa
open Go.ChangeShapes Go.WideShapes Go.ChangeAt Go.RowKit Go.Maps
set_option linter.unusedVariables false
set_option linter.unusedSimpArgs false
set_option maxRecDepth 100000
section
theorem at_held25 {O : Ob} {w0 w : World} {A G : Nat -> Prop} {s : Vst} (h : O.At w0 A G s w) {g : Nat} {t : TypeId} {cs : Array Value} (hh : Held w0 g t cs) (hA : ¬ A g) : Held w g t cs := by
 obtain ⟨_, _, _, h3, _⟩ := h
 exact h3.held hh hA
theorem at_below25 {O : Ob} {W w0 w : World} {A G : Nat -> Prop} {s : Vst} (h : O.At w0 A G s w) (hb : Below W.heap.size W w0) (hA : ∀ i, A i -> W.heap.size <= i) : Below W.heap.size W w := by
 obtain ⟨_, _, _, h3, _⟩ := h
 exact h3.below hb hA

set_option maxHeartbeats 1600000 in
theorem frVals_no (t p s : Int) (hr : rightB t p s = false) (w : World) :
  Calls Try.prog 6 #[.agg #[.int .i64 t, .int .i64 p, .int .i64 s]] w fun e w' => ∃ u, e = .returned u /\ RowV w' u [] /\ Below w.heap.size w w' := by
 have HC := hidp (Held.new w 23 #[.int .i64 t, .int .i64 p, .int .i64 s])
 have HB := hidp (Bnew (B0 w) (.cells #[.int .i64 t, .int .i64 p, .int .i64 s] 23))
 have E0 : Hid (lC t p s = 0) := hidp (by unfold lC; rw [hr]; rfl)
 obtain ⟨x0, x1, x2⟩ := HC.out.three
 go_enter Try.func6, Try.ntmps6
 go_wp2_with fail
 refine (plCells_c t p s _).mono ?_; rintro e w1 ⟨rfl, hb⟩; rw [E0.out]
 replace HB := hidp (Bgo HB.out hb)
 clear hb
 go_wp2
 go_ret
 exact ⟨_, rfl, ⟨Nat.zero_le _, .inl ⟨rfl, rfl⟩⟩, HB.out⟩

set_option maxHeartbeats 3200000 in
theorem frVals_yes (t p s n : Nat) (hr : rightB t p s = true) (hn : n = 30 + 4 * t + 6 * p) (w : World) :
  Calls Try.prog 6 #[.agg #[.int .i64 (t : Int), .int .i64 (p : Int), .int .i64 (s : Int)]] w fun e w' => ∃ g c, e = .returned (.slice (some ⟨g, 0, none⟩) n c) /\ RowF w' g 32 n c (valF (frV t p)) /\ w.heap.size <= g /\ Below w.heap.size w w' := by
 have hri := (rightB_iff t p s).1 hr
 have HC := hidp (Held.new w 23 #[.int .i64 (t : Int), .int .i64 (p : Int), .int .i64 (s : Int)])
 have HB := hidp (Bnew (B0 w) (.cells #[.int .i64 (t : Int), .int .i64 (p : Int), .int .i64 (s : Int)] 23))
 have E0 : Hid (lC t p s = (n : Int)) := hidp (by unfold lC; rw [hr, hn]; simp)
 have hn2 : n <= 1000000 := by omega
 have hmk := make_u32 n hn2
 have q0 : ((n : Int) == 0) = false := by simp; omega
 have HFV := hidp (fr_view hr hn)
 have hnu : n <= 6238 := by omega
 have h0n : 30 <= n := by omega
 have hp1 : 1 <= (p : Int) := by omega
 have hp2 : (p : Int) <= 1024 := by omega
 have hpg : pgB (p : Int) ((0 : Nat) : Int) = true := (pgB_iff _ _).2 (by omega)
 have cp : IntKind.u32.wrap (p : Int) = (p : Int) := wrap_nat32 p (by omega)
 clear hn hn2 hri hr
 obtain ⟨x0, x1, x2⟩ := HC.out.three
 go_enter Try.func6, Try.ntmps6
 go_wp2_with fail
 refine (plCells_c t p s _).mono ?_; rintro e w1 ⟨rfl, hb⟩; rw [E0.out]
 replace HC := hidp (HC.out.keep hb)
 replace HB := hidp (Bgo HB.out hb)
 clear hb x0 x1 x2
 have HM := hidp (row_made (w := w1) (t := 32) (z := .int .u32 0) (n := n) (by unfold maxLen; omega))
 replace HC := hidp (HC.out.alloc (.cells (madeCells #[.int .u32 0] n) 32))
 replace HB := hidp (Bnew HB.out (.cells (madeCells #[.int .u32 0] n) 32))
 obtain ⟨x0, x1, x2⟩ := HC.out.three
 go_wp2_with fail
 clear hmk
 generalize hg : w1.heap.size = g at *
 generalize hw2 : w1.alloc (.cells (madeCells #[.int .u32 0] n) 32) = w2 at *
 clear hg hw2
 have HL : Hid (w.heap.size < w2.heap.size) := hidp HC.out.lt
 refine (Whole_c (some ⟨g, 0, none⟩) n (List.replicate n 0) n (by simp) (by omega) (fun x hx => by rw [(List.mem_replicate.1 hx).2]; decide) _ (fun _ => ⟨_, rfl, fun j u hu => ?_⟩)).mono ?_
 ·have hj : j < n := by
   rcases Nat.lt_or_ge j n with h1 | h1
   ·exact h1
   ·unfold valVs at hu; rw [List.getElem?_eq_none (by simpa using h1)] at hu; cases hu
  unfold valVs at hu
  rw [List.getElem?_map, List.getElem?_replicate, if_pos hj] at hu
  injection hu with hu
  rw [addr_add, HM.out.cell hj, <- hu]
  rfl
 rintro e w3 ⟨b, o, rfl, hI, hb⟩
 have HA : Hid (∀ i, o.A b i -> w.heap.size < i) := hidp (fun i hi => Nat.lt_of_lt_of_le HL.out (hI.ge i hi))
 replace HC := hidp (HC.out.keep hb)
 replace HB := hidp (Bgo HB.out hb)
 have HT := hidp (Ob.At.start (O := vOb w2.heap.size b n true (frK n)) ⟨o, hI, rfl⟩)
 have HC3 := HC
 clear hb hI HM x0 x1 x2
 obtain ⟨x0, x1, x2⟩ := HC.out.three
 go_wp2_with fail
 refine (bnAdd_yes (K := frK n) (by omega) 0 p (by omega) hpg hp1 (by omega) HT.out).mono ?_
 rintro e w4 ⟨rfl, h1, _⟩
 replace HT := hidp h1
 replace HC := hidp (at_held25 h1 HC3.out (fun hx => by have := HA.out _ hx; omega))
 clear h1 x0 x1 x2
 obtain ⟨x0, x1, x2⟩ := HC.out.three
 go_wp2_with fail
 refine (vPutA (K := frK n) (by omega) 0 p (by omega) HT.out).mono ?_
 rintro e w5 ⟨rfl, h1, _⟩
 have HB5 := hidp (at_below25 h1 HB.out (fun i hi => Nat.le_of_lt (HA.out i hi)))
 obtain ⟨A5, ⟨o5, hI, rfl⟩, _, _, _⟩ := h1
 have HI := hidp hI
 clear hI x0 x1 x2 HC HT HC3
 go_wp2_with fail
 refine (vVals_some (by omega) (by have := HI.out.ok.few; omega) _ HI.out).mono ?_
 rintro e w6 ⟨g6, c6, rfl, hg6, hrow, hb⟩
 have HR := hidp hrow
 have HG6 := hidp hg6
 have HBB := hidp hb
 clear hrow hb hg6
 go_wp2
 go_ret
 exact ⟨g6, c6, rfl, HR.out.congr (fun i hi => by unfold valF; rw [<- HFV.out.2 i hi]; rfl), by have := HG6.out; have := HB5.out.size; omega, Bgo HB5.out HBB.out⟩

theorem wpList_copy_head {w : World} {ops : Array Oper} {rest : List Oper} {o : Oper} {a : Act} {Q : Exit -> Act -> World -> Prop} (hgd : o.guard = none) (d s : Operand)
  (ho : o.op = .call { callee := .builtin .copy, args := #[d, s], argTypes := #[30, 30] }) (g m c cc k c8 : Nat) (ad : Addr) (f : Nat -> Value) (xs : List Value)
  (hd : a.eval d = .slice (some ⟨g, 0, none⟩) m cc) (hs : a.eval s = .slice (some ad) k c8) (hk : xs.length = k) (hkm : k <= m) (hr : RowF w g 42 m c f)
  (hsrc : ∀ j v, xs[j]? = some v -> w.cell? (ad.add j) = some v) (h1 : ∀ v ∈ xs, v.oneCell' = true)
  (h : ∀ w', Hid (RowF w' g 42 m c (fun i => (xs[i]?).getD (f i))) -> Hid (Turns (fun i => i = g) w w') -> wpList Try.prog ops Q rest (a.put o.dst (goInt xs.length)) w') :
  wpList Try.prog ops Q (o :: rest) a w := by
 obtain ⟨cs, hh, hsz, hmc, hcm, hcl⟩ := hr
 have hl : cs.toList.length = c := by simpa using hsz
 refine wpList_copy_at hgd d s 30 30 ho 42 Try.underlying30 (by kernel_rfl) g 0 m cc ad k c8 hd hs cs _ hh xs (by rw [hk]; exact (Nat.min_eq_left hkm).symm) hsrc (by omega) h1 (fun w' hw ht => h w' (hidp ⟨_, hw, ?_, hmc, hcm, fun i hi => ?_⟩) (hidp ht))
 ·simp; omega
 ·rw [List.getElem?_toArray, List.take_zero, List.nil_append, Nat.zero_add]
  rcases Nat.lt_or_ge i k with h2 | h2
  ·show _ = some ((xs[i]?).getD (f i))
   rw [List.getElem?_append_left (by omega), List.getElem?_eq_getElem (l := xs) (by omega)]
   rfl
  ·show _ = some ((xs[i]?).getD (f i))
   have e0 : xs[i]? = none := List.getElem?_eq_none (by omega)
   rw [List.getElem?_append_right (by omega), List.getElem?_drop, show xs.length + (i - xs.length) = i by omega, e0]
   have := hcl i hi
   simpa using this

set_option maxHeartbeats 1600000 in
theorem frWords_no (t p s : Int) (hr : rightB t p s = false) (w : World) :
  Calls Try.prog 10 #[.agg #[.int .i64 t, .int .i64 p, .int .i64 s]] w fun e w' => ∃ u, e = .returned u /\ RowV w' u [] /\ Below w.heap.size w w' := by
 have HC := hidp (Held.new w 23 #[.int .i64 t, .int .i64 p, .int .i64 s])
 have HB := hidp (Bnew (B0 w) (.cells #[.int .i64 t, .int .i64 p, .int .i64 s] 23))
 have HEN := hidp (fun w => hdEncode_no t p s hr w)
 obtain ⟨x0, x1, x2⟩ := HC.out.three
 go_enter Try.func10, Try.ntmps10
 go_wp2_with fail
 refine (HEN.out _).mono ?_; rintro e w1 ⟨rfl, hb⟩
 replace HB := hidp (Bgo HB.out hb)
 clear hb
 go_wp2
 go_ret
 exact ⟨_, rfl, ⟨Nat.zero_le _, .inl ⟨rfl, rfl⟩⟩, HB.out⟩

set_option maxHeartbeats 6400000 in
theorem frWords_yes (t p s m : Nat) (hr : rightB t p s = true) (hm : m = fwN t p) (w : World) :
    Calls Try.prog 10 #[.agg #[.int .i64 (t : Int), .int .i64 (p : Int), .int .i64 (s : Int)]] w fun e w' => ∃ g c, e = .returned (.slice (some ⟨g, 0, none⟩) m c) /\ RowF w' g 42 m c (wrdF (fwI t p s)) /\ w.heap.size <= g /\ Below w.heap.size w w' := by
  have hri := (rightB_iff t p s).1 hr
  have HC := hidp (Held.new w 23 #[.int .i64 (t : Int), .int .i64 (p : Int), .int .i64 (s : Int)])
  have HB := hidp (Bnew (B0 w) (.cells #[.int .i64 (t : Int), .int .i64 (p : Int), .int .i64 (s : Int)] 23))
  have E0 : Hid (lW t p s = (m : Int)) := hidp (by rw [fwN_eq hr, hm])
  obtain ⟨n, hn⟩ : ∃ n, n = 30 + 4 * t + 6 * p := ⟨_, rfl⟩
  have hmn : 16 + n <= m := by rw [hm, hn]; unfold fwN; omega
  have hmu : m <= 100000 := by rw [hm]; unfold fwN; omega
  have hmk := make_u64 m (by omega)
  have HN := hidp hn
  have HVA := hidp (fun w => frVals_yes t p s n hr hn w)
  have HEN := hidp (fun w => hdEncode_yes t p s hr w)
  have HHL : Hid ((headL (t : Int) (p : Int) (s : Int)).length = 8) := hidp (headL_len _ _ _)
  have HWL : Hid ((wordVs (headL (t : Int) (p : Int) (s : Int))).length = 8) := hidp (by unfold wordVs; simp [headL_len])
  have HM8 : Hid (8 <= m) := hidp (by omega)
  have HLC : Hid (lC t p s = (n : Int)) := hidp (by unfold lC; rw [hr, hn]; simp)
  have hn0 : 30 <= n := by omega
  have hnu : n <= 6238 := by omega
  clear hm hn
  obtain ⟨x0, x1, x2⟩ := HC.out.three
  go_enter Try.func10, Try.ntmps10
  go_wp2_with fail
  refine (HEN.out _).mono ?_
  rintro e w1 ⟨u, rfl, ho, hb⟩
  obtain ⟨g8, c8, rfl, hg1, hg2⟩ := ho.form (by omega)
  have HRD := hidp (Reads.of_own ho)
  have HB1 := hidp (B0 w1)
  replace HC := hidp (HC.out.keep hb)
  replace HB := hidp (Bgo HB.out hb)
  clear ho hb hg1 hg2 x0 x1 x2
  obtain ⟨x0, x1, x2⟩ := HC.out.three
  go_wp2_with fail
  refine (plWords_c t p s _).mono ?_; rintro e w2 ⟨rfl, hb⟩; rw [E0.out]
  replace HC := hidp (HC.out.keep hb)
  replace HB := hidp (Bgo HB.out hb)
  replace HB1 := hidp (Bgo HB1.out hb)
  clear hb x0 x1 x2
  have HRW := hidp (row_made (w := w2) (t := 42) (z := .int .u64 0) (n := m) (by unfold maxLen; omega))
  have HG : Hid (w.heap.size < w2.heap.size) := hidp HC.out.lt
  replace HC := hidp (HC.out.alloc (.cells (madeCells #[.int .u64 0] m) 42))
  replace HB := hidp (Bnew HB.out (.cells (madeCells #[.int .u64 0] m) 42))
  replace HB1 := hidp (Bnew HB1.out (.cells (madeCells #[.int .u64 0] m) 42))
  obtain ⟨x0, x1, x2⟩ := HC.out.three
  go_wp2_with (first
    | (refine wpList_copy_head rfl (.tmp 15) (.tmp 16) rfl w2.heap.size m m m 8 c8 ⟨g8, 0, none⟩ _ (wordVs (headL (t : Int) (p : Int) (s : Int))) rfl rfl HWL.out HM8.out HRW.out ?_ ?_ ?_
       · intro j v hv
         obtain ⟨ad, e1, _, e2⟩ := (HRD.out.below HB1.out).2 (by omega)
         injection e1 with e1
         subst e1
         exact e2 j v hv
       · intro v hv
         unfold wordVs at hv
         obtain ⟨x, _, rfl⟩ := List.mem_map.1 hv
         rfl
       intro w4 HRW4 HT4
       generalize hg : w2.heap.size = g at *
       generalize hw2 : w2.alloc (.cells (madeCells #[.int .u64 0] m) 42) = w3 at *
       clear hg hw2 hmk x0 x1 x2
       replace HB := hidp (HT4.out.below HB.out (fun i hi => by have := HG.out; show w.heap.size <= i; omega))
       replace HC := hidp (HT4.out.held HC.out (fun hx => by have := HG.out; omega))
       replace HRW := HRW4
       clear HRW4 HT4 HB1 HRD HEN
       obtain ⟨x0, x1, x2⟩ := HC.out.three)
    | fail)
  refine (mkTip_c 1 0 (by decide) (by decide) (by decide) _).mono ?_
  rintro e w9 ⟨rfl, rfl⟩
  rw [show ((tipN 1 0 : Nat) : Int) = 4294967296 from rfl]
  have y := HRW.out.cell (i := 8) (by omega)
  have f := HRW.out.thawed 8
  have i1 : (8 : Int) < (m : Int) := by omega
  go_wp2_with fail
  replace HB := hidp (Bput HB.out (p := ⟨g, 8, none⟩) (by have := HG.out; show w.heap.size <= g; omega) (.int .u64 4294967296))
  replace HC := hidp (HC.out.far (p := ⟨g, 8, none⟩) (by have := HG.out; show w.heap.size ≠ g; omega) (.int .u64 4294967296))
  replace HRW := hidp (HRW.out.put (i := 8) (by omega) (.int .u64 4294967296))
  refine (HVA.out _).mono ?_
  rintro e w5 ⟨g2, c2, rfl, hv, hg2, hb⟩
  have hgl := HRW.out.lt
  have HG2 : Hid (g < g2) := hidp (by omega)
  replace HC := hidp (HC.out.keep hb)
  replace HRW := hidp (HRW.out.keep hb)
  replace HB := hidp (Bgo HB.out hb)
  clear hb
  have HV := hidp hv
  clear hv hg2 hgl y f i1 x0 x1 x2
  obtain ⟨x0, x1, x2⟩ := HC.out.three
  go_wp2_with fail
  go_loopw [28] (fun u28 wr => ∃ j : Nat, j <= n /\ u28 = .int .i64 (j : Int) /\ Hid (RowF wr g 42 m m (wrdF (fwT t p s j))) /\ Hid (Held wr w.heap.size 23 #[.int .i64 (t : Int), .int .i64 (p : Int), .int .i64 (s : Int)]) /\ Hid (RowF wr g2 32 n c2 (valF (frV t p))) /\ Hid (Below w.heap.size w wr)) (fun u28 _ => n - (intOf u28).toNat)
  case atStart => exact ⟨0, by omega, rfl, hidp (HRW.out.congr fun i hi => by
      dsimp only [wrdF, updF, fwT]
      have hlen : (wordVs (headL (t : Int) (p : Int) (s : Int))).length = 8 := HWL.out
      by_cases e : i = 8
      · subst e; rw [if_pos rfl, if_neg (by omega), if_pos rfl]; rfl
      · rw [if_neg e]
        by_cases e2 : i < 8
        · rw [if_pos e2]
          unfold wordVs
          rw [List.getElem?_map, List.getElem?_eq_getElem (by rw [HHL.out]; exact e2)]
          simp [List.getD, List.getElem?_eq_getElem (show i < (headL (t : Int) (p : Int) (s : Int)).length by rw [HHL.out]; exact e2)]
        · rw [if_neg e2, if_neg e, if_neg (by omega), List.getElem?_eq_none (by omega)]
          rfl), HC, HV, HB⟩
  case round =>
    clear HRW HC HV HB x0 x1 x2
    obtain ⟨j, hj, rfl, HRW, HC, HV, HB⟩ := hrel
    obtain ⟨x0, x1, x2⟩ := HC.out.three
    by_cases hlt : j < n
    · have t1 : decide ((j : Int) < (n : Int)) = true := decide_eq_true (by omega)
      have t1n : decide (j < n) = true := decide_eq_true hlt
      obtain ⟨h, hh⟩ : ∃ h, frV t p j = h := ⟨_, rfl⟩
      have HCH : Hid (∀ w', RowF w' g2 32 n c2 (valF (frV t p)) -> w'.cell? ⟨g2, j, none⟩ = some (.int .u32 (h : Int))) := hidp (fun w' hv => by
        have := hv.cell (i := j) hlt
        unfold valF at this
        rw [hh] at this
        exact this)
      have h32 : h < 2 ^ 32 := by rw [<- hh]; unfold frV; split; omega; split; omega; split; omega; split <;> omega
      have HH := hidp hh
      clear hh
      obtain ⟨q, hq⟩ : ∃ q, 16 + j = q := ⟨_, rfl⟩
      have HQ := hidp hq
      have HWI : Hid (wordI (t : Int) (p : Int) (s : Int) (j : Int) = (q : Int)) := hidp (by unfold wordI; rw [HLC.out, nth_on (by omega) (by omega) (by omega)]; omega)
      have hqm : q < m := by omega
      have i1 : (q : Int) < (m : Int) := by omega
      have i2 : (j : Int) < (n : Int) := by omega
      clear hq
      go_wp2_with fail
      replace HC := hidp HC.out.drw
      replace HRW := hidp (HRW.out.keep (Bdrew (B0 _)))
      replace HV := hidp (HV.out.keep (Bdrew (B0 _)))
      replace HB := hidp (Bdrew HB.out)
      refine wp_region_held_drew (S := (fun w' => (w'.cell? ⟨w.heap.size, 0, none⟩ = some (.int .i64 (t : Int)) /\ w'.cell? ⟨w.heap.size, 1, none⟩ = some (.int .i64 (p : Int)) /\ w'.cell? ⟨w.heap.size, 2, none⟩ = some (.int .i64 (s : Int))) /\ w'.cell? ⟨g2, j, none⟩ = some (.int .u32 (h : Int)))) (by kernel_rfl) ?_ (fun hHeld => ?_)
      · (try dsimp only)
        first | exact ⟨HC.out.three, HCH.out _ HV.out⟩ | exact hHeld
      refine tkz 0 ?_
      refine tkz 1 ?_
      refine tkz 2 ?_
      refine tkz 4 ?_
      refine tkz 5 ?_
      refine tkz 6 ?_
      refine tkz 7 ?_
      refine rdz 3 fun K hK => ?_
      go_simp
      refine (plWord_c t p s (j : Int) _).mono ?_
      rintro e w6 ⟨rfl, hb⟩
      rw [HWI.out]
      replace HC := hidp (HC.out.keep hb)
      replace HRW := hidp (HRW.out.keep hb)
      replace HV := hidp (HV.out.keep hb)
      replace HB := hidp (Bgo HB.out hb)
      clear hb
      refine hK.out _ _ ?_ (fun hHeld => ?_)
      · (try dsimp only)
        first | exact ⟨HC.out.three, HCH.out _ HV.out⟩ | exact hHeld
      clear hK K
      (try simp only [Act.put, gA, gB, gC, sA, sB, sC])
      refine rdz 8 fun K hK => ?_
      go_simp
      refine (mkCell_c 0 h (by omega) h32 _).mono ?_
      rintro e w7 ⟨rfl, rfl⟩
      rw [show ((0 * 4294967296 + h : Nat) : Int) = (h : Int) by omega]
      have y := HRW.out.cell (i := q) hqm
      have f := HRW.out.thawed q
      refine hK.out _ _ ?_ (fun hHeld => ?_)
      · (try dsimp only)
        first | exact ⟨HC.out.three, HCH.out _ HV.out⟩ | exact hHeld
      clear hK K
      (try simp only [Act.put, gA, gB, gC, sA, sB, sC])
      refine tkz 9 ?_
      refine rdz 10 fun K hK => ?_
      go_simp
      replace HB := hidp (Bput HB.out (p := ⟨g, q, none⟩) (by have := HG.out; show w.heap.size <= g; omega) (.int .u64 (h : Int)))
      replace HC := hidp (HC.out.far (p := ⟨g, q, none⟩) (by have := HG.out; show w.heap.size ≠ g; omega) (.int .u64 (h : Int)))
      replace HRW := hidp (HRW.out.put (i := q) hqm (.int .u64 (h : Int)))
      replace HV := hidp (HV.out.far (p := ⟨g, q, none⟩) (by have := HG2.out; show g2 ≠ g; omega) (.int .u64 (h : Int)))
      refine hK.out _ _ ?_ (fun hHeld => ?_)
      · (try dsimp only)
        first | exact ⟨HC.out.three, HCH.out _ HV.out⟩ | exact hHeld
      clear hK K
      (try simp only [Act.put, gA, gB, gC, sA, sB, sC])
      refine dnz ?_
      go_wp2_with fail
      go_roundw
      case rel => exact ⟨j + 1, by omega, by go_num, hidp (HRW.out.congr fun i hi => by
          dsimp only [wrdF, updF, fwT]
          have := HH.out
          have hq := HQ.out
          by_cases e : i = q
          · subst e; rw [if_pos rfl, if_neg (by omega), if_neg (by omega), if_pos (by omega), show i - 16 = j by omega, this]
          · rw [if_neg e]
            by_cases e2 : i < 8
            · rw [if_pos e2, if_pos e2]
            · rw [if_neg e2, if_neg e2]
              by_cases e3 : i = 8
              · rw [if_pos e3, if_pos e3]
              · rw [if_neg e3, if_neg e3]
                by_cases e4 : 16 <= i /\ i < 16 + j
                · rw [if_pos e4, if_pos (by omega)]
                · rw [if_neg e4, if_neg (by omega)]), HC, HV, HB⟩
      case measure => simp [intOf]; omega
    · have t1 : decide ((j : Int) < (n : Int)) = false := decide_eq_false (by omega)
      have t1n : decide (j < n) = false := decide_eq_false hlt
      obtain rfl : j = n := by omega
      go_wp2
      go_ret
      exact ⟨g, m, rfl, HRW.out.congr (fun i hi => by unfold fwI; rw [<- HN.out]), by have := HG.out; omega, HB.out⟩
end
end Go.Proofs.Ytlpcdfcghgapkaa

namespace Go.Proofs.Ytlpcdfcghgapkaa
open Go.ChangeShapes Go.WideShapes Go.ChangeAt Go.RowKit Go.Maps
set_option linter.unusedVariables false
set_option linter.unusedSimpArgs false
section
theorem rowV_of {w : World} {g n c : Nat} {t : TypeId} {f : Nat -> Value} (h : RowF w g t n c f) : RowV w (.slice (some ⟨g, 0, none⟩) n c) ((List.range n).map f) := by
 have hl : ((List.range n).map f).length = n := by simp
 refine ⟨by rw [hl]; exact Nat.le_trans h.le h.max, .inr ⟨g, 0, c, by rw [hl], h.lt, fun i u hu => ?_⟩⟩
 rw [List.getElem?_map] at hu
 have hi : i < n := by
  rcases Nat.lt_or_ge i n with h1 | h1
  ·exact h1
  ·rw [List.getElem?_eq_none (by simpa using h1)] at hu; cases hu
 rw [List.getElem?_range hi] at hu
 injection hu with hu
 rw [Nat.zero_add, h.cell hi, hu]
theorem reads_of {w : World} {g n c : Nat} {t : TypeId} {f : Nat -> Value} (h : RowF w g t n c f) : Reads w w.heap.size 1 (some ⟨g, 0, none⟩) n ((List.range n).map f) := by
 refine ⟨by simp, fun hn => ⟨_, rfl, h.lt, fun i u hu => ?_⟩⟩
 rw [List.getElem?_map] at hu
 have hi : i < n := by
  rcases Nat.lt_or_ge i n with h1 | h1
  ·exact h1
  ·rw [List.getElem?_eq_none (by simpa using h1)] at hu; cases hu
 rw [List.getElem?_range hi] at hu
 injection hu with hu
 have e : (⟨g, 0, none⟩ : Addr).add i = ⟨g, i, none⟩ := by
  unfold Addr.add
  by_cases hz : i = 0
  ·rw [if_pos hz, hz]
  ·rw [if_neg hz]; simp
 rw [e, h.cell hi, hu]
theorem fr_valVs (n : Nat) (f : Nat -> Nat) : (List.range n).map (valF f) = valVs ((List.range n).map f) := by unfold valVs; rw [List.map_map]; rfl
theorem fr_wordVs (n : Nat) (f : Nat -> Nat) : (List.range n).map (wrdF f) = wordVs ((List.range n).map f) := by unfold wordVs; rw [List.map_map]; rfl
theorem rowV_vals {w : World} {g n c : Nat} {t : TypeId} {f : Nat -> Nat} (h : RowF w g t n c (valF f)) : RowV w (.slice (some ⟨g, 0, none⟩) n c) (valVs ((List.range n).map f)) := by
 have := rowV_of h
 rw [fr_valVs] at this
 exact this
theorem reads_words {w : World} {g n c : Nat} {t : TypeId} {f : Nat -> Nat} (h : RowF w g t n c (wrdF f)) : Reads w w.heap.size 1 (some ⟨g, 0, none⟩) n (wordVs ((List.range n).map f)) := by
 have := reads_of h
 rw [fr_wordVs] at this
 exact this
end
end Go.Proofs.Ytlpcdfcghgapkaa

namespace Go.Proofs.Ytlpcdfcghgapkaa
open Go.ChangeShapes Go.WideShapes Go.ChangeAt Go.RowKit Go.Maps
set_option linter.unusedVariables false
set_option linter.unusedSimpArgs false
set_option maxRecDepth 100000
section
structure Duo (W : World) (O1 O2 : Ob) (A B G : Nat -> Prop) (s1 s2 : Vst) (w : World) : Prop where
 i1 : O1.I w s1 A
 i2 : O2.I w s2 B
 ab : ∀ i, A i -> ¬ B i
 aG : ∀ g, G g -> g < w.heap.size /\ ¬ A g /\ ¬ B g
 lo : ∀ i, A i \/ B i -> W.heap.size <= i
 bel : Below W.heap.size W w
section
variable {W w w' : World} {O1 O2 : Ob} {A B G : Nat -> Prop} {s1 s2 s' : Vst}
end
end
end Go.Proofs.Ytlpcdfcghgapkaa

namespace Go.Proofs.Ytlpcdfcghgapkaa
open Go.ChangeShapes Go.WideShapes Go.ChangeAt Go.RowKit
set_option linter.unusedVariables false
section
theorem words_at {xs : List Nat} {k : Nat} {w : World} {B : Nat} {A : Option Addr} {n : Nat} (hn : xs.length = n) (h : Reads w B 1 A n (wordVs xs)) (hk : k < n) :
  ∃ ad, A = some ad /\ ad.block < B /\ w.cell? (ad.add k) = some (.int .u64 ((xs.getD k 0 : Nat) : Int)) := by
 obtain ⟨ad, u, rfl, hb, hx, hc⟩ := h.at_ hk
 rw [wordVs_at xs k (by omega)] at hx
 injection hx with hx
 subst hx
 exact ⟨ad, rfl, hb, hc⟩
theorem take_eq {xs ys : List Nat} {n : Nat} (hx : xs.length = n) (hy : ys.length = n) (h : ∀ i, i < n -> xs.getD i 0 = ys.getD i 0) : xs = ys := by
 refine List.ext_getElem (by omega) fun i h1 h3 => ?_
 have := h i (by omega)
 simpa [List.getD, List.getElem?_eq_getElem h1, List.getElem?_eq_getElem h3] using this

theorem Words_c (xs ys : List Nat) (n m : Nat) (HN : Hid (xs.length = n)) (HM : Hid (ys.length = m)) (A A' : Option Addr) (c c' : Nat) (hm : n <= maxLen) (hm' : m <= maxLen) (w : World) (B B' : Nat) (HR : Hid (Reads w B 1 A n (wordVs xs))) (HS : Hid (Reads w B' 1 A' m (wordVs ys))) :
  Calls Try.prog 9 #[.slice A n c, .slice A' m c'] w fun e w' => e = .returned (.bool (decide (xs = ys))) /\ ∃ n, w' = w.drewN n := by
 unfold maxLen at hm hm'
 by_cases hl : n = m
 ·subst hl
  go_enter Try.func9, Try.ntmps9
  go_wp2
  go_loopw [5] (fun i wr => ∃ k j : Nat, k <= n /\ Hid (∀ i, i < k -> xs.getD i 0 = ys.getD i 0) /\ i = .int .i64 k /\ wr = w.drewN j) (fun i _ => n - (intOf i).toNat)
  case atStart => exact ⟨0, 0, by omega, hidp (fun i hi => by omega), rfl, rfl⟩
  case round =>
   obtain ⟨k, j, hk, HE, rfl, rfl⟩ := hrel
   by_cases hlt : k < n
   ·obtain ⟨ad, rfl, _, c1⟩ := words_at HN.out HR.out hlt
    obtain ⟨ad', rfl, _, c2⟩ := words_at HM.out HS.out hlt
    by_cases he : xs.getD k 0 = ys.getD k 0
    ·have HE2 : Hid (∀ i, i < k + 1 -> xs.getD i 0 = ys.getD i 0) := hidp (fun i hi => by
      rcases Nat.lt_or_ge i k with h | h
      ·exact HE.out i h
      ·obtain rfl : i = k := by omega
       exact he)
     rw [<- he] at c2
     clear he
     generalize xs.getD k 0 = x at *
     go_wp2
     go_quiet (fail)
     go_wp2
     go_roundw
     case rel => exact ⟨k + 1, _, by omega, HE2, by go_num, rfl⟩
     case measure => simp [intOf]; omega
    ·have HD : Hid (decide (xs = ys) = false) := hidp (decide_eq_false (fun h => he (by rw [h])))
     generalize xs.getD k 0 = x at *
     generalize ys.getD k 0 = y at *
     have t0 : ((x : Int) != y) = true := by simp; omega
     have t1 : ((x : Int) == y) = false := by simp; omega
     have t2 : (x == y) = false := by simp; omega
     clear he
     go_wp2
     go_quiet (fail)
     go_wp2
     go_ret
     exact ⟨by rw [HD.out]; rfl, by first | exact ⟨_, rfl⟩ | exact ⟨_, World.drewN_drewN _ _ _⟩⟩
   ·have HD : Hid (decide (xs = ys) = true) := hidp (decide_eq_true (take_eq HN.out HM.out (fun i hi => HE.out i (by omega))))
    go_wp2
    go_ret
    exact ⟨by rw [HD.out]; rfl, j, rfl⟩
 ·have HD : Hid (decide (xs = ys) = false) := hidp (decide_eq_false (fun h => by have := HN.out; have := HM.out; subst h; omega))
  have t0 : ((n : Int) != m) = true := by simp; omega
  have t1 : ((n : Int) == m) = false := by simp; omega
  have t2 : (n == m) = false := by simp; omega
  go_enter Try.func9, Try.ntmps9
  go_wp2
  go_ret
  exact ⟨by rw [HD.out]; rfl, 0, rfl⟩
theorem Words_same (xs : List Nat) (n : Nat) (HN : Hid (xs.length = n)) (A A' : Option Addr) (c c' : Nat) (hm : n <= maxLen) (w : World) (B B' : Nat) (HR : Hid (Reads w B 1 A n (wordVs xs))) (HS : Hid (Reads w B' 1 A' n (wordVs xs))) :
  Calls Try.prog 9 #[.slice A n c, .slice A' n c'] w fun e w' => e = .returned (.bool true) /\ ∃ n, w' = w.drewN n := by
 have h := Words_c xs xs n n HN HN A A' c c' hm hm w B B' HR HS
 rwa [decide_eq_true (rfl : xs = xs)] at h
end
end Go.Proofs.Ytlpcdfcghgapkaa

namespace Go.Proofs.Ytlpcdfcghgapkaa
open Go.ChangeShapes Go.WideShapes Go.ChangeAt Go.RowKit Go.Maps
set_option linter.unusedVariables false
set_option linter.unusedSimpArgs false
set_option maxRecDepth 100000
section
theorem rowV_nil {w : World} {u : Value} (h : RowV w u []) : ∃ A c, u = .slice A 0 c := by
 rcases h.2 with ⟨h, _⟩ | ⟨g, o, c, h, _, _⟩
 ·exact ⟨none, 0, h⟩
 ·exact ⟨_, c, h⟩
set_option maxHeartbeats 1600000 in
theorem live25_c (w : World) : Calls Try.prog 8 #[] w fun e w' => e = .returned (.bool true) /\ Below w.heap.size w w' := by
 have HB := hidp (B0 w)
 have hl8 : frB 8 = 5 := by decide
 go_enter Try.func8, Try.ntmps8
 go_wp2_with fail
 refine (frVals_yes 1 8 10 82 (by decide) rfl _).mono ?_
 rintro e w1 ⟨g, c, rfl, hr, hg, hb⟩
 replace HB := hidp (Bgo HB.out hb)
 have c0 := hr.cell (i := 0) (by omega)
 have c5 := hr.cell (i := 5) (by omega)
 have c34 := hr.cell (i := 34) (by omega)
 have c77 := hr.cell (i := 77) (by omega)
 have hcl := hr.le
 have hcm : c <= 9223372036854775807 := hr.max
 simp only [valF, frV, hl8] at c0 c5 c34 c77
 simp at c0 c5 c34 c77
 clear hr hg hb hl8
 go_wp2
 go_ret
 exact ⟨rfl, HB.out⟩
end
section
set_option maxHeartbeats 3200000 in
theorem FreshVals_no (t p s : Int) (hr : rightB t p s = false) (W : World) : Calls Try.prog 3 #[.agg #[.int .i64 t, .int .i64 p, .int .i64 s]] W (Keeps W) := by
 have HC := hidp (Held.new W 23 #[.int .i64 t, .int .i64 p, .int .i64 s])
 have HB := hidp (Bnew (B0 W) (.cells #[.int .i64 t, .int .i64 p, .int .i64 s] 23))
 have HA1 := hidp (fun w => frVals_no t p s hr w)
 have HA2 := hidp (fun w => r25Vals_no t p s hr w)
 clear hr
 go_enter Try.func3, Try.ntmps3
 go_wp2_with fail
 replace HC := hidp HC.out.drw
 replace HB := hidp (Bdrew HB.out)
 refine wp_region_held_drew (S := (fun w' => w'.cell? ⟨W.heap.size, 0, none⟩ = some (.int .i64 t) /\ w'.cell? ⟨W.heap.size, 1, none⟩ = some (.int .i64 p) /\ w'.cell? ⟨W.heap.size, 2, none⟩ = some (.int .i64 s))) (by kernel_rfl) ?_ (fun hHeld => ?_)
 ·(try dsimp only)
  first | exact HC.out.three | exact hHeld
 refine tkz 0 ?_
 refine tkz 2 ?_
 refine rdz 1 fun K hK => ?_
 go_simp
 refine (HA1.out _).mono ?_
 rintro e w1 ⟨u, rfl, hv, hb⟩
 have HV1 := hidp hv
 clear hv
 replace HC := hidp (HC.out.keep hb)
 replace HB := hidp (Bgo HB.out hb)
 clear hb
 refine hK.out _ _ ?_ (fun hHeld => ?_)
 ·(try dsimp only)
  first | exact HC.out.three | exact hHeld
 clear hK K
 (try simp only [Act.put, gA, gB, gC, sA, sB, sC])
 refine rdz 3 fun K hK => ?_
 go_simp
 refine (HA2.out _).mono ?_
 rintro e w2 ⟨rfl, hb⟩
 replace HC := hidp (HC.out.keep hb)
 replace HB := hidp (Bgo HB.out hb)
 replace HV1 := hidp (HV1.out.below hb)
 clear hb
 refine hK.out _ _ ?_ (fun hHeld => ?_)
 ·(try dsimp only)
  first | exact HC.out.three | exact hHeld
 clear hK K
 (try simp only [Act.put, gA, gB, gC, sA, sB, sC])
 refine rdz 4 fun K hK => ?_
 go_simp
 refine (Vals_same [] _ _ _ HV1.out ⟨Nat.zero_le _, .inl ⟨rfl, rfl⟩⟩).mono ?_
 rintro e w3 ⟨rfl, k3, rfl⟩
 replace HC := hidp (HC.out.keep (Bdraw (B0 _) k3))
 replace HB := hidp (Bdraw HB.out k3)
 refine hK.out _ _ ?_ (fun hHeld => ?_)
 ·(try dsimp only)
  first | exact HC.out.three | exact hHeld
 clear hK K
 (try simp only [Act.put, gA, gB, gC, sA, sB, sC])
 refine tkz 5 ?_
 refine rdz 6 fun K hK => ?_
 go_simp
 refine (live25_c _).mono ?_
 rintro e w4 ⟨rfl, hb⟩
 replace HC := hidp (HC.out.keep hb)
 replace HB := hidp (Bgo HB.out hb)
 clear hb
 refine hK.out _ _ ?_ (fun hHeld => ?_)
 ·(try dsimp only)
  first | exact HC.out.three | exact hHeld
 clear hK K
 (try simp only [Act.put, gA, gB, gC, sA, sB, sC])
 refine tkz 7 ?_
 refine tkz 8 ?_
 refine dnz ?_
 go_wp2
 go_ret
 exact ⟨rfl, HB.out⟩

set_option maxHeartbeats 3200000 in
theorem FreshVals_yes (t p s n : Nat) (hr : rightB t p s = true) (hn : n = 30 + 4 * t + 6 * p) (W : World) : Calls Try.prog 3 #[.agg #[.int .i64 (t : Int), .int .i64 (p : Int), .int .i64 (s : Int)]] W (Keeps W) := by
 have HC := hidp (Held.new W 23 #[.int .i64 (t : Int), .int .i64 (p : Int), .int .i64 (s : Int)])
 have HB := hidp (Bnew (B0 W) (.cells #[.int .i64 (t : Int), .int .i64 (p : Int), .int .i64 (s : Int)] 23))
 have HA1 := hidp (fun w => frVals_yes t p s n hr hn w)
 have HA2 := hidp (fun w => r25Vals_yes t p s n hr hn w)
 clear hr hn
 go_enter Try.func3, Try.ntmps3
 go_wp2_with fail
 replace HC := hidp HC.out.drw
 replace HB := hidp (Bdrew HB.out)
 refine wp_region_held_drew (S := (fun w' => w'.cell? ⟨W.heap.size, 0, none⟩ = some (.int .i64 (t : Int)) /\ w'.cell? ⟨W.heap.size, 1, none⟩ = some (.int .i64 (p : Int)) /\ w'.cell? ⟨W.heap.size, 2, none⟩ = some (.int .i64 (s : Int)))) (by kernel_rfl) ?_ (fun hHeld => ?_)
 ·(try dsimp only)
  first | exact HC.out.three | exact hHeld
 refine tkz 0 ?_
 refine tkz 2 ?_
 refine rdz 1 fun K hK => ?_
 go_simp
 refine (HA1.out _).mono ?_
 rintro e w1 ⟨g1, c1, rfl, hv, _, hb⟩
 have HV1 := hidp hv
 clear hv
 replace HC := hidp (HC.out.keep hb)
 replace HB := hidp (Bgo HB.out hb)
 clear hb
 refine hK.out _ _ ?_ (fun hHeld => ?_)
 ·(try dsimp only)
  first | exact HC.out.three | exact hHeld
 clear hK K
 (try simp only [Act.put, gA, gB, gC, sA, sB, sC])
 refine rdz 3 fun K hK => ?_
 go_simp
 refine (HA2.out _).mono ?_
 rintro e w2 ⟨g2, rfl, hv, _, hb⟩
 have HV2 := hidp hv
 clear hv
 replace HC := hidp (HC.out.keep hb)
 replace HB := hidp (Bgo HB.out hb)
 replace HV1 := hidp (HV1.out.keep hb)
 clear hb
 refine hK.out _ _ ?_ (fun hHeld => ?_)
 ·(try dsimp only)
  first | exact HC.out.three | exact hHeld
 clear hK K
 (try simp only [Act.put, gA, gB, gC, sA, sB, sC])
 refine rdz 4 fun K hK => ?_
 go_simp
 refine (Vals_same ((List.range n).map (frV t p)) _ _ _ (rowV_vals HV1.out) (rowV_vals HV2.out)).mono ?_
 rintro e w3 ⟨rfl, k3, rfl⟩
 replace HC := hidp (HC.out.keep (Bdraw (B0 _) k3))
 replace HB := hidp (Bdraw HB.out k3)
 refine hK.out _ _ ?_ (fun hHeld => ?_)
 ·(try dsimp only)
  first | exact HC.out.three | exact hHeld
 clear hK K
 (try simp only [Act.put, gA, gB, gC, sA, sB, sC])
 refine tkz 5 ?_
 refine rdz 6 fun K hK => ?_
 go_simp
 refine (live25_c _).mono ?_
 rintro e w4 ⟨rfl, hb⟩
 replace HC := hidp (HC.out.keep hb)
 replace HB := hidp (Bgo HB.out hb)
 clear hb
 refine hK.out _ _ ?_ (fun hHeld => ?_)
 ·(try dsimp only)
  first | exact HC.out.three | exact hHeld
 clear hK K
 (try simp only [Act.put, gA, gB, gC, sA, sB, sC])
 refine tkz 7 ?_
 refine tkz 8 ?_
 refine dnz ?_
 go_wp2
 go_ret
 exact ⟨rfl, HB.out⟩

theorem FreshVals_calls (t p s : Int) (W : World) : Calls Try.prog 3 #[.agg #[.int .i64 t, .int .i64 p, .int .i64 s]] W (Keeps W) := by
 cases hr : rightB t p s
 ·exact FreshVals_no t p s hr W
 ·have hri := (rightB_iff t p s).1 hr
  have e1 : ((t.toNat : Nat) : Int) = t := by omega
  have e2 : ((p.toNat : Nat) : Int) = p := by omega
  have e3 : ((s.toNat : Nat) : Int) = s := by omega
  have h : rightB (t.toNat : Int) (p.toNat : Int) (s.toNat : Int) = true := by rw [e1, e2, e3]; exact hr
  have := FreshVals_yes t.toNat p.toNat s.toNat _ h rfl W
  rw [e1, e2, e3] at this
  exact this

set_option maxHeartbeats 3200000 in
theorem FreshWords_no (t p s : Int) (hr : rightB t p s = false) (W : World) : Calls Try.prog 4 #[.agg #[.int .i64 t, .int .i64 p, .int .i64 s]] W (Keeps W) := by
 have HC := hidp (Held.new W 23 #[.int .i64 t, .int .i64 p, .int .i64 s])
 have HB := hidp (Bnew (B0 W) (.cells #[.int .i64 t, .int .i64 p, .int .i64 s] 23))
 have HA1 := hidp (fun w => frWords_no t p s hr w)
 have HA2 := hidp (fun w => r25Words_no t p s hr w)
 clear hr
 go_enter Try.func4, Try.ntmps4
 go_wp2_with fail
 replace HC := hidp HC.out.drw
 replace HB := hidp (Bdrew HB.out)
 refine wp_region_held_drew (S := (fun w' => w'.cell? ⟨W.heap.size, 0, none⟩ = some (.int .i64 t) /\ w'.cell? ⟨W.heap.size, 1, none⟩ = some (.int .i64 p) /\ w'.cell? ⟨W.heap.size, 2, none⟩ = some (.int .i64 s))) (by kernel_rfl) ?_ (fun hHeld => ?_)
 ·(try dsimp only)
  first | exact HC.out.three | exact hHeld
 refine tkz 0 ?_
 refine tkz 2 ?_
 refine rdz 1 fun K hK => ?_
 go_simp
 refine (HA1.out _).mono ?_
 rintro e w1 ⟨u, rfl, hv, hb⟩
 have HV1 := hidp hv
 clear hv
 replace HC := hidp (HC.out.keep hb)
 replace HB := hidp (Bgo HB.out hb)
 clear hb
 obtain ⟨A1, c1, rfl⟩ := rowV_nil HV1.out
 refine hK.out _ _ ?_ (fun hHeld => ?_)
 ·(try dsimp only)
  first | exact HC.out.three | exact hHeld
 clear hK K
 (try simp only [Act.put, gA, gB, gC, sA, sB, sC])
 refine rdz 3 fun K hK => ?_
 go_simp
 refine (HA2.out _).mono ?_
 rintro e w2 ⟨rfl, hb⟩
 replace HC := hidp (HC.out.keep hb)
 replace HB := hidp (Bgo HB.out hb)
 replace HV1 := hidp (HV1.out.below hb)
 clear hb
 refine hK.out _ _ ?_ (fun hHeld => ?_)
 ·(try dsimp only)
  first | exact HC.out.three | exact hHeld
 clear hK K
 (try simp only [Act.put, gA, gB, gC, sA, sB, sC])
 refine rdz 4 fun K hK => ?_
 go_simp
 refine (Words_same [] 0 (hidp rfl) _ _ _ _ (Nat.zero_le _) _ 0 0 (hidp Reads.none_) (hidp Reads.none_)).mono ?_
 rintro e w3 ⟨rfl, k3, rfl⟩
 replace HC := hidp (HC.out.keep (Bdraw (B0 _) k3))
 replace HB := hidp (Bdraw HB.out k3)
 refine hK.out _ _ ?_ (fun hHeld => ?_)
 ·(try dsimp only)
  first | exact HC.out.three | exact hHeld
 clear hK K
 (try simp only [Act.put, gA, gB, gC, sA, sB, sC])
 refine tkz 5 ?_
 refine rdz 6 fun K hK => ?_
 go_simp
 refine (live25_c _).mono ?_
 rintro e w4 ⟨rfl, hb⟩
 replace HC := hidp (HC.out.keep hb)
 replace HB := hidp (Bgo HB.out hb)
 clear hb
 refine hK.out _ _ ?_ (fun hHeld => ?_)
 ·(try dsimp only)
  first | exact HC.out.three | exact hHeld
 clear hK K
 (try simp only [Act.put, gA, gB, gC, sA, sB, sC])
 refine tkz 7 ?_
 refine tkz 8 ?_
 refine dnz ?_
 go_wp2
 go_ret
 exact ⟨rfl, HB.out⟩

set_option maxHeartbeats 3200000 in
theorem FreshWords_yes (t p s m : Nat) (hr : rightB t p s = true) (hm : m = fwN t p) (W : World) : Calls Try.prog 4 #[.agg #[.int .i64 (t : Int), .int .i64 (p : Int), .int .i64 (s : Int)]] W (Keeps W) := by
 have HC := hidp (Held.new W 23 #[.int .i64 (t : Int), .int .i64 (p : Int), .int .i64 (s : Int)])
 have HB := hidp (Bnew (B0 W) (.cells #[.int .i64 (t : Int), .int .i64 (p : Int), .int .i64 (s : Int)] 23))
 have HA1 := hidp (fun w => frWords_yes t p s m hr hm w)
 have HA2 := hidp (fun w => r25Words_yes t p s m hr hm w)
 clear hr hm
 go_enter Try.func4, Try.ntmps4
 go_wp2_with fail
 replace HC := hidp HC.out.drw
 replace HB := hidp (Bdrew HB.out)
 refine wp_region_held_drew (S := (fun w' => w'.cell? ⟨W.heap.size, 0, none⟩ = some (.int .i64 (t : Int)) /\ w'.cell? ⟨W.heap.size, 1, none⟩ = some (.int .i64 (p : Int)) /\ w'.cell? ⟨W.heap.size, 2, none⟩ = some (.int .i64 (s : Int)))) (by kernel_rfl) ?_ (fun hHeld => ?_)
 ·(try dsimp only)
  first | exact HC.out.three | exact hHeld
 refine tkz 0 ?_
 refine tkz 2 ?_
 refine rdz 1 fun K hK => ?_
 go_simp
 refine (HA1.out _).mono ?_
 rintro e w1 ⟨g1, c1, rfl, hv, _, hb⟩
 have HV1 := hidp hv
 clear hv
 replace HC := hidp (HC.out.keep hb)
 replace HB := hidp (Bgo HB.out hb)
 clear hb
 refine hK.out _ _ ?_ (fun hHeld => ?_)
 ·(try dsimp only)
  first | exact HC.out.three | exact hHeld
 clear hK K
 (try simp only [Act.put, gA, gB, gC, sA, sB, sC])
 refine rdz 3 fun K hK => ?_
 go_simp
 refine (HA2.out _).mono ?_
 rintro e w2 ⟨g2, rfl, hv, _, hb⟩
 have HV2 := hidp hv
 clear hv
 replace HC := hidp (HC.out.keep hb)
 replace HB := hidp (Bgo HB.out hb)
 replace HV1 := hidp (HV1.out.keep hb)
 clear hb
 refine hK.out _ _ ?_ (fun hHeld => ?_)
 ·(try dsimp only)
  first | exact HC.out.three | exact hHeld
 clear hK K
 (try simp only [Act.put, gA, gB, gC, sA, sB, sC])
 refine rdz 4 fun K hK => ?_
 go_simp
 refine (Words_same ((List.range m).map (fwI t p s)) m (hidp (by simp)) _ _ _ _ (Nat.le_trans HV1.out.le HV1.out.max) _ _ _ (hidp (reads_words HV1.out)) (hidp (reads_words HV2.out))).mono ?_
 rintro e w3 ⟨rfl, k3, rfl⟩
 replace HC := hidp (HC.out.keep (Bdraw (B0 _) k3))
 replace HB := hidp (Bdraw HB.out k3)
 refine hK.out _ _ ?_ (fun hHeld => ?_)
 ·(try dsimp only)
  first | exact HC.out.three | exact hHeld
 clear hK K
 (try simp only [Act.put, gA, gB, gC, sA, sB, sC])
 refine tkz 5 ?_
 refine rdz 6 fun K hK => ?_
 go_simp
 refine (live25_c _).mono ?_
 rintro e w4 ⟨rfl, hb⟩
 replace HC := hidp (HC.out.keep hb)
 replace HB := hidp (Bgo HB.out hb)
 clear hb
 refine hK.out _ _ ?_ (fun hHeld => ?_)
 ·(try dsimp only)
  first | exact HC.out.three | exact hHeld
 clear hK K
 (try simp only [Act.put, gA, gB, gC, sA, sB, sC])
 refine tkz 7 ?_
 refine tkz 8 ?_
 refine dnz ?_
 go_wp2
 go_ret
 exact ⟨rfl, HB.out⟩

theorem FreshWords_calls (t p s : Int) (W : World) : Calls Try.prog 4 #[.agg #[.int .i64 t, .int .i64 p, .int .i64 s]] W (Keeps W) := by
 cases hr : rightB t p s
 ·exact FreshWords_no t p s hr W
 ·have hri := (rightB_iff t p s).1 hr
  have e1 : ((t.toNat : Nat) : Int) = t := by omega
  have e2 : ((p.toNat : Nat) : Int) = p := by omega
  have e3 : ((s.toNat : Nat) : Int) = s := by omega
  have h : rightB (t.toNat : Int) (p.toNat : Int) (s.toNat : Int) = true := by rw [e1, e2, e3]; exact hr
  have := FreshWords_yes t.toNat p.toNat s.toNat _ h rfl W
  rw [e1, e2, e3] at this
  exact this
end
end Go.Proofs.Ytlpcdfcghgapkaa

namespace Go.Proofs.Ytlpcdfcghgapkaa
open Go.ChangeShapes Go.WideShapes Go.ChangeAt Go.RowKit
set_option linter.unusedVariables false
set_option linter.unusedSimpArgs false
section
set_option maxRecDepth 100000 in
theorem open_conf {H : Type} {enc : TypeId × Value -> H} {W : World} {b base : Nat} {sp : Nat -> Bool} {held : Bool} {v : Value} {d : DataW H} {p : List MemPlace}
  (hv : Value.okWide Try.prog W .any b 23 v) (h : DataW.Trod enc Try.prog W base sp held 23 v d p) :
  ∃ (t q s : Int), v = .agg #[.int .i64 t, .int .i64 q, .int .i64 s] := by
 obtain ⟨v0, v1, v2, y0, y1, y2, m, rfl, rfl, rfl, h0, h1, h2⟩ := Joins.open_agg3 Try.underlying23 (by kernel_rfl) (by kernel_rfl) hv h
 obtain ⟨a, e0, _, w0⟩ := DataW.trod_int Try.underlying3 h0
 obtain ⟨c, e1, _, w1⟩ := DataW.trod_int Try.underlying3 h1
 obtain ⟨k, e2, _, w2⟩ := DataW.trod_int Try.underlying3 h2
 simp at e0 e1 e2
 subst e0 e1 e2
 exact ⟨a, c, k, rfl⟩
end
end Go.Proofs.Ytlpcdfcghgapkaa
