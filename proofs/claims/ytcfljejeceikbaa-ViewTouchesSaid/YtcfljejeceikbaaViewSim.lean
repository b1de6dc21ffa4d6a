/-
  What is done on a View that knows just what is read, or less. No walk.
-/
import Derived.Test.YtcfljejeceikbaaViewLive
namespace Go.Proofs.Ytcfljejeceikbaa
open Go.ChangeShapes Go.WideShapes Go.ChangeAt Go.RowKit
set_option linter.unusedVariables false

def runS (n : Nat) (K : Nat → Option Nat) (t : List TouchV) (s : Vst) : Vst := t.foldl (tchS n K) s
theorem runS_take {n : Nat} {K : Nat → Option Nat} {t : List TouchV} {s : Vst} {k : Nat} {x : TouchV} (h : t[k]? = some x) : runS n K (t.take (k + 1)) s = tchS n K (runS n K (t.take k) s) x := by
  have e : t.take (k + 1) = t.take k ++ [x] := by rw [List.take_add_one, h]; rfl
  rw [e]
  unfold runS
  rw [List.foldl_append]
  rfl
theorem VOk.tch {n : Nat} {K : Nat → Option Nat} {s : Vst} {x : TouchV} (h : VOk n s) (hx : x.Ok) : VOk n (tchS n K s x) := by
  unfold tchS
  split
  · exact h.put hx.val
  · exact h.get
theorem tch_rd {n : Nat} {K : Nat → Option Nat} {s : Vst} {x : TouchV} : s.rd <+: (tchS n K s x).rd := by
  unfold tchS
  split
  · rw [(put_len n s x.cell x.val).2]; exact List.prefix_refl _
  · by_cases ho : opn n s x.cell = true
    · obtain ⟨i, hi, hn, hl⟩ := opn_at ho
      rw [hi] at ho ⊢
      cases hp : pos s.wr i with
      | some k => rw [getS_put ho hp]; exact List.prefix_refl _
      | none =>
        cases hk : K i with
        | some v =>
          rw [getS_known ho hp hk]
          unfold noteS
          split
          · exact List.prefix_refl _
          · exact List.prefix_append _ _
        | none => rw [getS_lost ho hp hk]; exact List.prefix_refl _
    · rw [getS_no (by simpa using ho)]; exact List.prefix_refl _
theorem run_rd {n : Nat} {K : Nat → Option Nat} : ∀ (t : List TouchV) (s : Vst), s.rd <+: (runS n K t s).rd
  | [], s => List.prefix_refl _
  | x :: r, s => (tch_rd (n := n) (K := K) (x := x)).trans (run_rd r _)
theorem run_prefix {n : Nat} {K : Nat → Option Nat} (t : List TouchV) (s : Vst) (k : Nat) : (runS n K (t.take k) s).rd <+: (runS n K t s).rd := by
  have e : runS n K t s = runS n K (t.drop k) (runS n K (t.take k) s) := by
    unfold runS
    rw [← List.foldl_append, List.take_append_drop]
  rw [e]
  exact run_rd _ _
theorem run_ok {n : Nat} {K : Nat → Option Nat} : ∀ (t : List TouchV) (s : Vst), (∀ x ∈ t, x.Ok) → VOk n s → VOk n (runS n K t s)
  | [], s, _, h => h
  | x :: r, s, ht, h => run_ok r _ (fun y hy => ht y (List.mem_cons_of_mem _ hy)) (h.tch (ht x (List.mem_cons_self ..)))
theorem run_len {n : Nat} {K : Nat → Option Nat} : ∀ (t : List TouchV) (s : Vst), (runS n K t s).rd.length ≤ s.rd.length + t.length ∧ (runS n K t s).wr.length ≤ s.wr.length + t.length
  | [], s => ⟨Nat.le_refl _, Nat.le_refl _⟩
  | x :: r, s => by
    have h1 := tch_len n K s x
    have h2 := run_len (n := n) (K := K) r (tchS n K s x)
    have e : runS n K (x :: r) s = runS n K r (tchS n K s x) := rfl
    rw [e]
    simp only [List.length_cons]
    omega
/-- where all cells are known none is missing -/
theorem tch_found {n : Nat} {K : Nat → Option Nat} {s : Vst} {x : TouchV} (hK : ∀ i, i < n → ∃ v, K i = some v) (h : s.lost = false) : (tchS n K s x).lost = false := by
  unfold tchS
  split
  · unfold putS; split <;> exact h
  · by_cases ho : opn n s x.cell = true
    · obtain ⟨i, hi, hn, hl⟩ := opn_at ho
      rw [hi] at ho ⊢
      obtain ⟨v, hv⟩ := hK i hn
      cases hp : pos s.wr i with
      | some k => rw [getS_put ho hp]; exact h
      | none =>
        rw [getS_known ho hp hv]
        unfold noteS
        split <;> exact h
    · rw [getS_no (by simpa using ho)]; exact h
theorem run_found {n : Nat} {K : Nat → Option Nat} (hK : ∀ i, i < n → ∃ v, K i = some v) : ∀ (t : List TouchV) (s : Vst), s.lost = false → (runS n K t s).lost = false
  | [], s, h => h
  | x :: r, s, h => run_found hK r _ (tch_found hK h)
/-- one that knows what the step reads does the same -/
theorem tch_same {n : Nat} {K K' : Nat → Option Nat} {s : Vst} {x : TouchV} (hK : ∀ i, i < n → ∃ v, K i = some v) (hs : ∀ i, i < n → i ∈ (tchS n K s x).rd → K' i = K i) : tchS n K' s x = tchS n K s x ∧ tchV n K' s x = tchV n K s x := by
  unfold tchS tchV at *
  split
  · exact ⟨rfl, rfl⟩
  · rename_i hp'
    rw [if_neg hp'] at hs
    by_cases ho : opn n s x.cell = true
    · obtain ⟨i, hi, hn, hl⟩ := opn_at ho
      rw [hi] at ho hs ⊢
      cases hp : pos s.wr i with
      | some k => exact ⟨by rw [getS_put ho hp, getS_put ho hp], by rw [getV_put ho hp, getV_put ho hp]⟩
      | none =>
        obtain ⟨v, hv⟩ := hK i hn
        rw [getS_known ho hp hv] at hs
        have hm : i ∈ (noteS s i).rd := by
          unfold noteS
          split
          · assumption
          · simp
        have h1 := hs i hn hm
        rw [hv] at h1
        exact ⟨by rw [getS_known ho hp hv, getS_known ho hp h1], by rw [getV_known ho hp hv, getV_known ho hp h1]⟩
    · have ho : opn n s x.cell = false := by simpa using ho
      exact ⟨by rw [getS_no ho, getS_no ho], by rw [getV_no ho, getV_no ho]⟩
/-- one that is missing a cell does nothing -/
theorem tch_lost {n : Nat} {K : Nat → Option Nat} {s : Vst} {x : TouchV} (h : s.lost = true) : tchS n K s x = s := by
  have ho : opn n s x.cell = false := by unfold opn; rw [h]; rfl
  unfold tchS
  rw [putS_no ho, getS_no ho]
  split <;> rfl

/-- what is behind a View that knows fewer -/
def LessIs (R : List Nat) (q : Nat) (s s' : Vst) : Prop := (s' = s ∧ s.rd.length ≤ q) ∨ (s'.lost = true ∧ R[q]? = some s'.miss ∧ s'.rd = R.take q)
theorem less_step {n q : Nat} {K K' : Nat → Option Nat} {s s' : Vst} {x : TouchV} {R : List Nat} (hK : ∀ i, i < n → ∃ v, K i = some v) (hR : R.Nodup) (hq : q < R.length)
    (hK' : ∀ i, i < n → K' i = if i ∈ R.take q then K i else none) (hp : (tchS n K s x).rd <+: R) (h : LessIs R q s s') : LessIs R q (tchS n K s x) (tchS n K' s' x) := by
  rcases h with ⟨rfl, hl⟩ | ⟨h1, h2, h3⟩
  · rcases Nat.lt_or_ge q (tchS n K s' x).rd.length with hlen | hlen
    · right
      have hpre := (tch_rd (n := n) (K := K) (s := s') (x := x))
      have e1 : s'.rd = R.take s'.rd.length := List.prefix_iff_eq_take.1 (hpre.trans hp)
      unfold tchS at hlen hp ⊢
      by_cases hput : x.put = true
      · rw [if_pos hput, (put_len n s' x.cell x.val).2] at hlen
        omega
      · rw [if_neg hput] at hlen hp ⊢
        by_cases ho : opn n s' x.cell = true
        · obtain ⟨i, hi, hn, hl'⟩ := opn_at ho
          rw [hi] at ho hlen hp ⊢
          cases hpos : pos s'.wr i with
          | some k => rw [getS_put ho hpos] at hlen; omega
          | none =>
            obtain ⟨v, hv⟩ := hK i hn
            rw [getS_known ho hpos hv] at hlen hp
            by_cases hin : i ∈ s'.rd
            · rw [noteS_in hin] at hlen; omega
            · rw [noteS_new hin] at hlen hp
              simp at hlen
              have hq2 : s'.rd.length = q := by omega
              have hp2 : s'.rd ++ [i] <+: R := hp
              have e2 : R[q]? = some i := by
                obtain ⟨z, hz⟩ := hp2
                rw [← hz, List.append_assoc, List.getElem?_append_right (by omega), hq2]
                simp
              rw [hq2] at e1
              have hnone : K' i = none := by
                rw [hK' i hn, ← e1, if_neg hin]
              rw [getS_lost ho hpos hnone]
              exact ⟨rfl, e2, e1⟩
        · rw [getS_no (by simpa using ho)] at hlen
          omega
    · left
      refine ⟨(tch_same hK (fun i hn hi => ?_)).1, hlen⟩
      rw [hK' i hn, if_pos]
      have e1 := List.prefix_iff_eq_take.1 hp
      rw [e1] at hi
      exact (List.take_prefix_take_left hlen).subset hi
  · right
    rw [tch_lost h1]
    exact ⟨h1, h2, h3⟩
theorem less_end {q : Nat} {s s' : Vst} {R : List Nat} (hR : s.rd = R) (hq : q < R.length) (h : LessIs R q s s') : missI s' = ((R.getD q 0 : Nat) : Int) ∧ s'.rd = R.take q := by
  rcases h with ⟨rfl, hl⟩ | ⟨h1, h2, h3⟩
  · rw [hR] at hl; omega
  · refine ⟨?_, h3⟩
    unfold missI
    rw [h1, if_pos rfl]
    simp [List.getD, h2]

/-- the pairs of some cells, of a list of values -/
def pairsOf (vals : List Nat) (R : List Nat) : List PairV := R.map fun (i : Nat) => (⟨(i : Int), vals.getD i 0⟩ : PairV)
theorem pairsOf_take (vals R : List Nat) (k : Nat) : (pairsOf vals R).take k = pairsOf vals (R.take k) := by unfold pairsOf; rw [List.map_take]
theorem kOf_pairs {n : Nat} {vals : List Nat} : ∀ (R : List Nat), (∀ i ∈ R, i < n) → ∀ j, kOf n (pairsOf vals R) j = if j ∈ R then some (vals.getD j 0) else none := by
  have key : ∀ (R : List Nat) (K : Nat → Option Nat) (S : List Nat), (∀ i ∈ R, i < n) → (∀ j, K j = if j ∈ S then some (vals.getD j 0) else none) →
      ∀ j, (pairsOf vals R).foldl (fun K p => kAdd n K p.cell p.val) K j = if j ∈ S ∨ j ∈ R then some (vals.getD j 0) else none := by
    intro R
    induction R with
    | nil => intro K S _ hK j; simp [pairsOf, hK j]
    | cons i r ih =>
      intro K S hR hK j
      have hi := hR i (List.mem_cons_self ..)
      have e : (pairsOf vals (i :: r)).foldl (fun K p => kAdd n K p.cell p.val) K j = (pairsOf vals r).foldl (fun K p => kAdd n K p.cell p.val) (kAdd n K (i : Int) (vals.getD i 0)) j := rfl
      rw [e, ih _ (i :: S) (fun q hq => hR q (List.mem_cons_of_mem _ hq)) (fun q => ?_) j]
      · have : (j ∈ i :: S ∨ j ∈ r) ↔ (j ∈ S ∨ j ∈ i :: r) := by
          simp only [List.mem_cons]
          exact ⟨fun h => by rcases h with (h | h) | h <;> simp [h], fun h => by rcases h with h | h | h <;> simp [h]⟩
        simp only [this]
      · by_cases hk : K i = none
        · rw [kAdd_yes hi hk]
          unfold updF
          by_cases hq : q = i
          · subst hq; simp
          · rw [if_neg hq, hK q]; simp [hq]
        · rw [kAdd_no (by rintro ⟨_, _, h⟩; exact hk (by simpa using h)), hK q]
          by_cases hq : q = i
          · subst hq
            have : q ∈ S := by
              rcases Classical.em (q ∈ S) with h | h
              · exact h
              · rw [hK q, if_neg h] at hk; exact absurd rfl hk
            simp [this]
          · simp [hq]
  intro R hR j
  have := key R (fun _ => none) [] hR (fun j => by simp) j
  simpa [kOf] using this
end Go.Proofs.Ytcfljejeceikbaa
