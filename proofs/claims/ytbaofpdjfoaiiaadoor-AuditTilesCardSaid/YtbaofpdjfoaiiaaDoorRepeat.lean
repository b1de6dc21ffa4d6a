/-
  slices.Repeat at a list of one int.
-/
import Derived.Test.YtbaofpdjfoaiiaaDoorTurns
import Derived.Test.YtbaofpdjfoaiiaaDoorRow
import Derived.Laws.CopyOwn
import Derived.Laws.MakeOwn
import Derived.Laws.BitsAllLaws
import Derived.Deep.RegionLaw
namespace Go.Proofs.YtbaofpdjfoaiiaaDoor
open Go.ChangeShapes Go.WideShapes Go.ChangeAt Go.RowKit Go.Maps
set_option linter.unusedVariables false
set_option linter.unusedSimpArgs false

theorem step_copy_at {P : Program} {ops : Array Oper} {o : Oper} {a : Act} {w : World} {K : Act → World → Prop} {Q : Exit → Act → World → Prop} {E : Prop} (hgd : o.guard = none) (d s : Operand) (dT sT : TypeId)
    (ho : o.op = .call { callee := .builtin .copy, args := #[d, s], argTypes := #[dT, sT] }) (elem : TypeId) (hu : P.underlying dT = some (.slice elem)) (hsz : (P.info? elem).map (·.size) = some 1)
    (g off dLen dCap : Nat) (ad : Addr) (sLen sCap : Nat) (hd : a.eval d = .slice (some ⟨g, off, none⟩) dLen dCap) (hs : a.eval s = .slice (some ad) sLen sCap) (cur : Array Value) (t : TypeId) (hg : Held w g t cur) (cs : List Value) (hn : cs.length = Nat.min sLen dLen)
    (hsrc : ∀ j v, cs[j]? = some v → w.cell? (ad.add j) = some v) (hfit : off + cs.length ≤ cur.size) (h1 : ∀ v ∈ cs, v.oneCell' = true)
    (hK : ∀ w', Held w' g t (cur.toList.take off ++ (cs ++ cur.toList.drop (off + cs.length))).toArray → Turns (fun i => i = g) w w' → K (a.put o.dst (goInt cs.length)) w') :
    if Region.wanted o (yielded ops a.tmps) = true then Oper.wp P o a w K Q else E := by
  have hw : Region.wanted o (yielded ops a.tmps) = true := by simp [Region.wanted, hgd]
  rw [if_pos hw]
  have hrun := run_copy_row (P := P) w dT sT o.type elem g off dLen dCap ad sLen sCap cur t cs hu hsz hg hn hsrc hfit h1
  unfold Oper.wp
  simp only [execOp, ho, resolve, invoke, builtin, hd, hs]
  simp [hd, hs, hrun, Result.andThen]
  exact hK _ (setRow_heap w g cur _ t _ hg) ⟨rfl, rfl, rfl, by simp [World.setRow], fun i hi hf => setRow_other w g i _ (by omega)⟩

theorem wpList_copy_at {P : Program} {w : World} {ops : Array Oper} {rest : List Oper} {o : Oper} {a : Act} {Q : Exit → Act → World → Prop} (hgd : o.guard = none) (d s : Operand) (dT sT : TypeId)
    (ho : o.op = .call { callee := .builtin .copy, args := #[d, s], argTypes := #[dT, sT] }) (elem : TypeId) (hu : P.underlying dT = some (.slice elem)) (hsz : (P.info? elem).map (·.size) = some 1)
    (g off dLen dCap : Nat) (ad : Addr) (sLen sCap : Nat) (hd : a.eval d = .slice (some ⟨g, off, none⟩) dLen dCap) (hs : a.eval s = .slice (some ad) sLen sCap)
    (cur : Array Value) (t : TypeId) (hg : Held w g t cur) (cs : List Value) (hn : cs.length = Nat.min sLen dLen)
    (hsrc : ∀ j v, cs[j]? = some v → w.cell? (ad.add j) = some v) (hfit : off + cs.length ≤ cur.size) (h1 : ∀ v ∈ cs, v.oneCell' = true)
    (h : ∀ w', Held w' g t (cur.toList.take off ++ (cs ++ cur.toList.drop (off + cs.length))).toArray → Turns (fun i => i = g) w w' → wpList P ops Q rest (a.put o.dst (goInt cs.length)) w') : wpList P ops Q (o :: rest) a w :=
  wpList_copy_own hgd d s dT sT ho elem hu hsz g off dLen dCap ad sLen sCap hd hs cur t hg cs hn hsrc hfit h1
    (h _ (setRow_heap w g cur _ t _ hg) ⟨rfl, rfl, rfl, by simp [World.setRow], fun i hi hf => setRow_other w g i _ (by omega)⟩)
/-- behind a copy of the same number into a row whose head is full of it -/
theorem copied_at {cur : Array Value} {k m p : Nat} {u : Value} (hs : cur.size = p) (hk : ∀ i, i < k → cur[i]? = some u) (hm : k + m ≤ p) :
    (cur.toList.take k ++ (List.replicate m u ++ cur.toList.drop (k + m))).toArray.size = p ∧ ∀ i, i < k + m → (cur.toList.take k ++ (List.replicate m u ++ cur.toList.drop (k + m))).toArray[i]? = some u := by
  have hl : cur.toList.length = p := by simpa using hs
  refine ⟨by simp; omega, fun i hi => ?_⟩
  rw [List.getElem?_toArray]
  rcases Nat.lt_or_ge i k with h1 | h1
  · rw [List.getElem?_append_left (by simp; omega), List.getElem?_take_of_lt h1]
    have := hk i h1
    simpa using this
  · rw [List.getElem?_append_right (by simp; omega), List.length_take, Nat.min_eq_left (by omega), List.getElem?_append_left (by simp; omega), List.getElem?_replicate]
    rw [if_pos (by omega)]

theorem mul64_c (p : Nat) (hp : p < 2 ^ 32) (w : World) :
    Calls Tryd.prog 84 #[.int .u64 1, .int .u64 (p : Int)] w fun e w' => e = .returned (.tuple #[.int .u64 0, .int .u64 (p : Int)]) ∧ w = w' := by
  have a1 : bits .and .u64 (p : Int) 4294967295 = (p : Int) := by
    have h := u64_and_nat p 4294967295 (by omega) (by omega)
    have e : p &&& 4294967295 = p := by
      have := Nat.and_two_pow_sub_one_eq_mod p 32
      simp at this
      rw [this]
      exact Nat.mod_eq_of_lt hp
    rw [e] at h
    exact h
  have a2 : bits .and .u64 0 4294967295 = 0 := by decide
  have a3 : bits .and .u64 1 4294967295 = 1 := by decide
  have d1 : (p : Int) / 4294967296 = 0 := by omega
  have w1 : IntKind.u64.wrap (p : Int) = (p : Int) := wrap_nat64 p (by omega)
  go_enter Tryd.func84, Tryd.ntmps84
  go_wp2
  go_ret2
  refine ⟨?_, rfl⟩
  simp [w1, d1]
theorem mul_c (p : Nat) (hp : p < 2 ^ 32) (w : World) :
    Calls Tryd.prog 78 #[.int .u64 1, .int .u64 (p : Int)] w fun e w' => e = .returned (.tuple #[.int .u64 0, .int .u64 (p : Int)]) ∧ w = w' := by
  go_enter Tryd.func78, Tryd.ntmps78
  go_wp2_with (first
    | (go_at_call 84; refine (mul64_c p hp _).mono ?_; rintro e w1 ⟨rfl, rfl⟩)
    | fail)
  go_ret2
  exact ⟨rfl, rfl⟩

set_option maxRecDepth 100000 in
set_option maxHeartbeats 1600000 in
theorem repeat_c (v : Int) (g0 p : Nat) (hp : 1 ≤ p) (hp2 : p ≤ 1024) (w : World) (hc : Held w g0 3 #[.int .i64 v]) :
    Calls Tryd.prog 61 #[.slice (some ⟨g0, 0, none⟩) 1 1, .int .i64 (p : Int)] w fun e w' => ∃ g cs, e = .returned (.slice (some ⟨g, 0, none⟩) p p) ∧ Held w' g 3 cs ∧ cs.size = p ∧ (∀ i, i < p → cs[i]? = some (.int .i64 v)) ∧ w.heap.size ≤ g ∧ Below w.heap.size w w' := by
  obtain ⟨i0, hin, hz0, hz1, hz2⟩ := info_parts intInfo
  have w1 : IntKind.u64.wrap (p : Int) = (p : Int) := wrap_nat64 p (by omega)
  have w2 : IntKind.i64.wrap (p : Int) = (p : Int) := (by simp only [IntKind.wrap, IntKind.bits, IntKind.signed]; simp; omega)
  obtain ⟨cur, hcur, hcs⟩ : ∃ cur, madeCells (Value.int .i64 0).cells (p * i0.size) = cur ∧ cur.size = p := ⟨_, rfl, by rw [hz1]; simp [size_madeCells]⟩
  have hmk : ∀ w : World, (Instr.makeSlice 66 (.int .i64 (p : Int)) (.int .i64 (p : Int))).run Tryd.prog w = .ok (.slice (some ⟨w.heap.size, 0, none⟩) p p) (w.alloc (.cells cur 3)) := fun w => by
    have := run_makeSlice (w := w) 66 3 i0 _ Tryd.underlying66 hin hz0 .i64 .i64 (p : Int) (p : Int) (by omega) (by omega) (by rw [hz1]; simp; omega) (by rw [hz2]; omega) (by omega)
    simp only [Int.toNat_natCast] at this
    rw [hcur] at this
    exact this
  clear hcur hin hz0 hz1 hz2
  have hc0 := hc.cell 0
  simp only [List.getElem?_toArray, List.getElem?_cons_zero] at hc0
  go_enter Tryd.func61, Tryd.ntmps61
  have hcb := hc.lt
  have q0 : decide ((p : Int) < 0) = false := decide_eq_false (by omega)
  have q1 : decide ((9223372036854775807 : Int) < p) = false := decide_eq_false (by omega)
  have hsrc : ∀ (j : Nat) (y : Value), (List.replicate 1 (Value.int .i64 v))[j]? = some y → (w.alloc (.cells cur 3)).cell? ((⟨g0, 0, none⟩ : Addr).add j) = some y := by
    intro j y hy
    rcases j with _ | j
    · simp at hy; subst hy; exact (Below.cell (w := w) (Bnew (B0 w) (.cells cur 3)) (p := ⟨g0, 0, none⟩) hcb).trans hc0
    · simp at hy
  have hn1 : (List.replicate 1 (Value.int .i64 v)).length = Nat.min 1 p := by rw [List.length_replicate]; exact (Nat.min_eq_left hp).symm
  have hf1 : 0 + (List.replicate 1 (Value.int .i64 v)).length ≤ cur.size := by rw [List.length_replicate, hcs]; omega
  have ho1 : ∀ u ∈ List.replicate 1 (Value.int .i64 v), u.oneCell' = true := by intro u hu; rw [List.eq_of_mem_replicate hu]; rfl
  have hrun := run_copy_row (P := Tryd.prog) (w.alloc (.cells cur 3)) 66 66 3 3 w.heap.size 0 p p ⟨g0, 0, none⟩ 1 1 cur 3 (List.replicate 1 (.int .i64 v)) Tryd.underlying66 (by kernel_rfl) (Held.new w _ _) hn1 hsrc hf1 ho1
  have hh4 := setRow_heap (w.alloc (.cells cur 3)) w.heap.size cur (cur.toList.take 0 ++ List.replicate 1 (Value.int .i64 v) ++ cur.toList.drop (0 + (List.replicate 1 (Value.int .i64 v)).length)).toArray 3 (0, 0) (Held.new w _ _)
  have ht4 : Turns (fun i => i = w.heap.size) (w.alloc (.cells cur 3)) ((w.alloc (.cells cur 3)).setRow w.heap.size (cur.toList.take 0 ++ List.replicate 1 (Value.int .i64 v) ++ cur.toList.drop (0 + (List.replicate 1 (Value.int .i64 v)).length)).toArray) := ⟨rfl, rfl, rfl, by simp [World.setRow], fun i hi hf => setRow_other _ _ i _ (by omega)⟩
  have h4 := copied_at (k := 0) (m := 1) (u := .int .i64 v) hcs (fun i hi => absurd hi (by omega)) (by omega)
  generalize (w.alloc (.cells cur 3)).setRow w.heap.size (cur.toList.take 0 ++ List.replicate 1 (Value.int .i64 v) ++ cur.toList.drop (0 + (List.replicate 1 (Value.int .i64 v)).length)).toArray = w4 at hrun hh4 ht4
  rw [List.append_assoc] at hh4
  simp only [List.length_replicate] at hh4 hrun
  generalize (cur.toList.take 0 ++ (List.replicate 1 (Value.int .i64 v) ++ cur.toList.drop (0 + 1))).toArray = cs4 at hh4 h4
  go_wp2_with (first
    | (go_at_call 78; refine (mul_c p (by omega) _).mono ?_; rintro e w1 ⟨rfl, rfl⟩)
    | fail)
  have HH4 := hidp hh4
  have HB4 : Hid (Below w.heap.size w w4) := hidp (ht4.below (Bnew (B0 w) _) (fun i hi => by omega))
  have HS4 := hidp h4
  clear hh4 ht4 h4 hc0 hmk hrun
  go_loopw [8] (fun u wr => ∃ (k : Nat) (cs : Array Value), 1 ≤ k ∧ k ≤ p ∧ u = .int .i64 (k : Int) ∧ Hid (Held wr w.heap.size 3 cs) ∧ Hid (cs.size = p ∧ ∀ i, i < k → cs[i]? = some (.int .i64 v)) ∧ Hid (Below w.heap.size w wr)) (fun u _ => p - (intOf u).toNat)
  case atStart => exact ⟨1, cs4, by omega, by omega, rfl, HH4, HS4, HB4⟩
  case round =>
    clear HH4 HS4 HB4
    obtain ⟨k, cs, hk1, hk2, rfl, HH, HS, HB⟩ := hrel
    by_cases hl : k < p
    · obtain ⟨m, hm⟩ : ∃ m, min k (p - k) = m := ⟨_, rfl⟩
      have hmp : 1 ≤ m ∧ k + m ≤ p ∧ m ≤ k := by omega
      have HC := hidp (copied_at (m := m) HS.out.1 HS.out.2 (by omega))
      have HM : Hid (Nat.min k (p - k) = m) := hidp hm
      have hpk : ¬ p = k := by omega
      have sw : IntKind.i64.wrap ((k : Int) + m) = (k : Int) + m := by simp only [IntKind.wrap, IntKind.bits, IntKind.signed]; simp; omega
      have hle : decide ((k : Int) < p) = true := decide_eq_true (by omega)
      have HSRC : Hid (∀ (j : Nat) (y : Value), (List.replicate m (Value.int .i64 v))[j]? = some y → wr.drew.cell? ((⟨w.heap.size, 0, none⟩ : Addr).add j) = some y) := hidp (fun j y hy => by
        have hj : j < m := by
          rcases Nat.lt_or_ge j m with h | h
          · exact h
          · rw [List.getElem?_eq_none (by simpa using h)] at hy; cases hy
        rw [List.getElem?_replicate, if_pos hj] at hy
        have e : ((⟨w.heap.size, 0, none⟩ : Addr).add j) = ⟨w.heap.size, j, none⟩ := by
          unfold Addr.add
          by_cases hz : j = 0
          · rw [if_pos hz, hz]
          · rw [if_neg hz]; simp
        rw [e, ← hy]
        exact (HH.out.cell j).trans (HS.out.2 j (by omega)))
      clear hm
      go_wp2_with fail
      go_region_law (refine step_copy_at rfl (.tmp 41) (.tmp 44) 66 66 rfl 3 Tryd.underlying66 (by kernel_rfl) w.heap.size k (p - k) (p - k) ⟨w.heap.size, 0, none⟩ k p (by simp [Act.eval, Act.put, hpk]) (by simp [Act.eval, Act.put]) cs 3 HH.out (List.replicate m (.int .i64 v)) (by rw [List.length_replicate, HM.out]) HSRC.out (by rw [List.length_replicate, HS.out.1]; omega) (by intro v hv; rw [List.eq_of_mem_replicate hv]; rfl) ?_; intro w5 hh5 ht5)
      have HT5 := hidp ht5
      have hl5 : Held w5 w.heap.size 3 (cs.toList.take k ++ (List.replicate m (Value.int .i64 v) ++ cs.toList.drop (k + m))).toArray := by simpa using hh5
      have HH5 := hidp hl5
      clear ht5 hh5 hl5
      simp only [Act.put, List.getElem_toArray, List.getElem_cons_zero, List.getElem_cons_succ, List.setIfInBounds_toArray, List.set_cons_zero, List.set_cons_succ]
      go_wp2_with fail
      go_roundw
      case rel => exact ⟨k + m, _, by omega, by omega, by go_num, HH5, HC, hidp (HT5.out.below (Bdrew HB.out) (fun i hi => by omega))⟩
      case measure => simp [intOf]; omega
    · have hle : decide ((k : Int) < p) = false := decide_eq_false (by omega)
      have hkp : k = p := by omega
      subst hkp
      go_wp2_with fail
      go_ret
      exact ⟨_, cs, rfl, HH.out, HS.out.1, HS.out.2, Nat.le_refl _, HB.out⟩
end Go.Proofs.YtbaofpdjfoaiiaaDoor
