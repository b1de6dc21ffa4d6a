/-
  Rule 9: how many pages are free, and how many blocks live. Written by audit/gen_r9.py.
-/
import Derived.Test.YtpndfhdedmdoeaaF13
import Derived.Test.YtpndfhdedmdoeaaF01
import Derived.Laws.CopyOwn
import Derived.Laws.MakeOwn
import Derived.Laws.BitsAllLaws
import Derived.Deep.RegionLaw
namespace Go.Proofs.Ytpndfhdedmdoeaa
open Go.ChangeShapes Go.WideShapes Go.ChangeAt Go.RowKit Go.Shelf
set_option linter.unusedVariables false
set_option linter.unusedSimpArgs false

namespace AuH
variable (H : AuH)
def freeF (q : Nat) : Nat := if H.K q = 1 then H.ln q else 0
def liveF (q : Nat) : Nat := if H.K q = 2 then 1 else if H.K q = 3 then HM.onesTo (H.cel q 4) 32 else 0
/-- rule 9 -/
def R9 : Prop := H.V 0 = sumTo H.freeF H.p % 4294967296 ∧ H.V 1 = sumTo H.liveF H.p % 4294967296
variable {H}
theorem freeF_no {q : Nat} (h : H.K q = 0) : H.freeF q = 0 := by unfold freeF; rw [if_neg (by omega)]
theorem liveF_no {q : Nat} (h : H.K q = 0) : H.liveF q = 0 := by unfold liveF; rw [if_neg (by omega), if_neg (by omega)]
theorem freeF_le (q : Nat) : H.freeF q ≤ 1024 := by
  unfold freeF
  split
  · exact (H.ln_pos q (by omega)).2
  · omega
theorem liveF_le (q : Nat) : H.liveF q ≤ 32 := by
  unfold liveF
  split
  · omega
  · split
    · exact HM.onesTo_le _ _
    · omega
theorem sums_le (x : Nat) (hx : x ≤ 1024) : sumTo H.freeF x ≤ 1048576 ∧ sumTo H.liveF x ≤ 32768 := by
  have h1 := sumTo_le H.freeF 1024 x (fun q _ => freeF_le q)
  have h2 := sumTo_le H.liveF 32 x (fun q _ => liveF_le q)
  have h3 : x * 1024 ≤ 1024 * 1024 := Nat.mul_le_mul_right _ hx
  have h4 : x * 32 ≤ 1024 * 32 := Nat.mul_le_mul_right _ hx
  omega
end AuH
section
attribute [local go_sem] Oper.semAt_some

end
end Go.Proofs.Ytpndfhdedmdoeaa

/-
  slices.Repeat at a list of one int.
-/
namespace Go.Proofs.Ytpndfhdedmdoeaa
open Go.ChangeShapes Go.WideShapes Go.ChangeAt Go.RowKit Go.Maps
set_option linter.unusedVariables false
set_option linter.unusedSimpArgs false

theorem step_copy_at {P : Program} {ops : Array Oper} {o : Oper} {a : Act} {w : World} {K : Act → World → Prop} {Q : Exit → Act → World → Prop} {E : Prop} (hgd : o.guard = none) (d s : Operand) (dT sT : TypeId)
    (ho : o.op = .call { callee := .builtin .copy, args := #[d, s], argTypes := #[dT, sT] }) (elem : TypeId) (hu : P.underlying dT = some (.slice elem)) (hsz : (P.info? elem).map (·.size) = some 1)
    (g off dLen dCap : Nat) (ad : Addr) (sLen sCap : Nat) (hd : a.eval d = .slice (some ⟨g, off, none⟩) dLen dCap) (hs : a.eval s = .slice (some ad) sLen sCap) (cur : Array Value) (t : TypeId) (hg : Held w g t cur) (cs : List Value) (hn : cs.length = Nat.min sLen dLen)
    (hsrc : ∀ j v, cs[j]? = some v → w.cell? (ad.add j) = some v) (hfit : off + cs.length ≤ cur.size) (h1 : ∀ v ∈ cs, v.oneCell' = true)
    (hK : ∀ w', Held w' g t (cur.toList.take off ++ (cs ++ cur.toList.drop (off + cs.length))).toArray → Turns (fun i => i = g) w w' → K (a.put o.dst (goInt cs.length)) w') :
    if Region.wanted o (yielded ops a.tmps) = true then Oper.wp P o a w K Q else E := by
  have hw : Region.wanted o (yielded ops a.tmps) = true := by simp [Region.wanted, hgd]
  rw [if_pos hw]
  have hrun := run_copy_row (P := P) w dT sT o.type elem g off dLen dCap ad sLen sCap cur t cs hu hsz hg hn hsrc hfit h1
  unfold Oper.wp
  simp only [execOp, ho, resolve, invoke, builtin, hd, hs]
  simp [hd, hs, hrun, Result.andThen]
  exact hK _ (setRow_heap w g cur _ t _ hg) ⟨rfl, rfl, rfl, by simp [World.setRow], fun i hi hf => setRow_other w g i _ (by omega)⟩

theorem wpList_copy_at {P : Program} {w : World} {ops : Array Oper} {rest : List Oper} {o : Oper} {a : Act} {Q : Exit → Act → World → Prop} (hgd : o.guard = none) (d s : Operand) (dT sT : TypeId)
    (ho : o.op = .call { callee := .builtin .copy, args := #[d, s], argTypes := #[dT, sT] }) (elem : TypeId) (hu : P.underlying dT = some (.slice elem)) (hsz : (P.info? elem).map (·.size) = some 1)
    (g off dLen dCap : Nat) (ad : Addr) (sLen sCap : Nat) (hd : a.eval d = .slice (some ⟨g, off, none⟩) dLen dCap) (hs : a.eval s = .slice (some ad) sLen sCap)
    (cur : Array Value) (t : TypeId) (hg : Held w g t cur) (cs : List Value) (hn : cs.length = Nat.min sLen dLen)
    (hsrc : ∀ j v, cs[j]? = some v → w.cell? (ad.add j) = some v) (hfit : off + cs.length ≤ cur.size) (h1 : ∀ v ∈ cs, v.oneCell' = true)
    (h : ∀ w', Held w' g t (cur.toList.take off ++ (cs ++ cur.toList.drop (off + cs.length))).toArray → Turns (fun i => i = g) w w' → wpList P ops Q rest (a.put o.dst (goInt cs.length)) w') : wpList P ops Q (o :: rest) a w :=
  wpList_copy_own hgd d s dT sT ho elem hu hsz g off dLen dCap ad sLen sCap hd hs cur t hg cs hn hsrc hfit h1
    (h _ (setRow_heap w g cur _ t _ hg) ⟨rfl, rfl, rfl, by simp [World.setRow], fun i hi hf => setRow_other w g i _ (by omega)⟩)
/-- behind a copy of the same number into a row whose head is full of it -/
theorem copied_at {cur : Array Value} {k m p : Nat} {u : Value} (hs : cur.size = p) (hk : ∀ i, i < k → cur[i]? = some u) (hm : k + m ≤ p) :
    (cur.toList.take k ++ (List.replicate m u ++ cur.toList.drop (k + m))).toArray.size = p ∧ ∀ i, i < k + m → (cur.toList.take k ++ (List.replicate m u ++ cur.toList.drop (k + m))).toArray[i]? = some u := by
  have hl : cur.toList.length = p := by simpa using hs
  refine ⟨by simp; omega, fun i hi => ?_⟩
  rw [List.getElem?_toArray]
  rcases Nat.lt_or_ge i k with h1 | h1
  · rw [List.getElem?_append_left (by simp; omega), List.getElem?_take_of_lt h1]
    have := hk i h1
    simpa using this
  · rw [List.getElem?_append_right (by simp; omega), List.length_take, Nat.min_eq_left (by omega), List.getElem?_append_left (by simp; omega), List.getElem?_replicate]
    rw [if_pos (by omega)]

end Go.Proofs.Ytpndfhdedmdoeaa
