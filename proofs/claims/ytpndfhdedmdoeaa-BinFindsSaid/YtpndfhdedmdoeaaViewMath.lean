/-
  What a View does, as functions: what was read, what was put, which cell is missing. No program is named here.
-/
import Derived.Test.YtpndfhdedmdoeaaOwn
namespace Go.Proofs.Ytpndfhdedmdoeaa
open Go.ChangeShapes Go.WideShapes Go.ChangeAt Go.RowKit
set_option linter.unusedVariables false
set_option maxRecDepth 100000

/-- what was read, in order; what was put, in order, with its value; whether a cell is missing, and which -/
structure Vst where
  rd : List Nat
  wr : List (Nat × Nat)
  lost : Bool
  miss : Nat
def freshS : Vst := ⟨[], [], false, 0⟩

/-- where in a list of pairs a number stands -/
def pos : List (Nat × Nat) → Nat → Option Nat
  | [], _ => none
  | p :: r, i => if p.1 = i then some 0 else (pos r i).map (· + 1)
/-- the cell, and the value, of the pair k -/
def cellW (l : List (Nat × Nat)) (k : Nat) : Nat := (l.getD k (0, 0)).1
def atW (l : List (Nat × Nat)) (k : Nat) : Nat := (l.getD k (0, 0)).2

theorem pos_some : ∀ {l : List (Nat × Nat)} {i k : Nat}, pos l i = some k → k < l.length ∧ cellW l k = i
  | [], i, k, h => by cases h
  | p :: r, i, k, h => by
    unfold pos at h
    split at h
    · rename_i e
      injection h with h
      subst h
      exact ⟨by simp, by simpa [cellW] using e⟩
    · cases hp : pos r i with
      | none => rw [hp] at h; cases h
      | some m =>
        rw [hp] at h
        injection h with h
        subst h
        have := pos_some hp
        exact ⟨by simp; omega, by simpa [cellW] using this.2⟩
theorem pos_snoc : ∀ {l : List (Nat × Nat)} {i : Nat} (v : Nat), pos l i = none → ∀ j, pos (l ++ [(i, v)]) j = if j = i then some l.length else pos l j
  | [], i, v, h, j => by
    by_cases e : j = i
    · subst e; simp [pos]
    · have : ¬ i = j := fun x => e x.symm
      simp [pos, e, this]
  | p :: r, i, v, h, j => by
    have hp : ¬ p.1 = i := by
      intro e
      simp [pos, e] at h
    have hr : pos r i = none := by
      simp [pos, hp] at h
      exact h
    have ih := pos_snoc v hr j
    by_cases e : j = i
    · subst e
      simp [pos, hp, ih]
    · by_cases e2 : p.1 = j
      · simp [pos, e, e2]
      · simp [pos, e, e2, ih]
theorem pos_none_mem : ∀ {l : List (Nat × Nat)} {i : Nat}, pos l i = none ↔ ∀ p ∈ l, p.1 ≠ i
  | [], i => by simp [pos]
  | p :: r, i => by
    have ih := pos_none_mem (l := r) (i := i)
    by_cases e : p.1 = i
    · simp [pos, e]
    · simp [pos, e, ih]
theorem pos_set : ∀ (l : List (Nat × Nat)) (k v j : Nat), pos (l.set k (cellW l k, v)) j = pos l j
  | [], k, v, j => by simp [pos]
  | p :: r, 0, v, j => by simp [pos, cellW]
  | p :: r, k + 1, v, j => by
    have ih := pos_set r k v j
    simp [pos, cellW] at ih ⊢
    rw [ih]

def putW (l : List (Nat × Nat)) (i v : Nat) : List (Nat × Nat) :=
  match pos l i with
  | some k => l.set k (i, v)
  | none => l ++ [(i, v)]
theorem putW_some {l : List (Nat × Nat)} {i v k : Nat} (h : pos l i = some k) : putW l i v = l.set k (i, v) := by unfold putW; rw [h]
theorem putW_none {l : List (Nat × Nat)} {i v : Nat} (h : pos l i = none) : putW l i v = l ++ [(i, v)] := by unfold putW; rw [h]
theorem putW_len (l : List (Nat × Nat)) (i v : Nat) : (putW l i v).length ≤ l.length + 1 := by
  unfold putW
  split <;> simp
theorem pos_putW (l : List (Nat × Nat)) (i v j : Nat) : pos (putW l i v) j = match pos l i with | some _ => pos l j | none => if j = i then some l.length else pos l j := by
  cases h : pos l i with
  | some k =>
    rw [putW_some h]
    have := pos_set l k v j
    rw [(pos_some h).2] at this
    exact this
  | none =>
    rw [putW_none h]
    exact pos_snoc v h j

/-- whether the cell may be got and put -/
def opn (n : Nat) (s : Vst) (a : Int) : Bool := !s.lost && decide (0 ≤ a ∧ a < n)
def noteS (s : Vst) (i : Nat) : Vst := if i ∈ s.rd then s else { s with rd := s.rd ++ [i] }
def getV (n : Nat) (K : Nat → Option Nat) (s : Vst) (a : Int) : Nat :=
  if opn n s a then (match pos s.wr a.toNat with | some k => atW s.wr k | none => (K a.toNat).getD 0) else 0
def getS (n : Nat) (K : Nat → Option Nat) (s : Vst) (a : Int) : Vst :=
  if opn n s a then (match pos s.wr a.toNat with | some _ => s | none => match K a.toNat with | some _ => noteS s a.toNat | none => { s with lost := true, miss := a.toNat }) else s
def putS (n : Nat) (s : Vst) (a : Int) (v : Nat) : Vst := if opn n s a then { s with wr := putW s.wr a.toNat v } else s
def missI (s : Vst) : Int := if s.lost then s.miss else -1

section
variable {n : Nat} {K : Nat → Option Nat} {s : Vst} {i v k : Nat} {a : Int}
theorem opn_at (h : opn n s a = true) : ∃ i : Nat, a = i ∧ i < n ∧ s.lost = false := by
  unfold opn at h
  simp at h
  exact ⟨a.toNat, by omega, by omega, h.1⟩
theorem opn_yes (h : i < n) (hl : s.lost = false) : opn n s (i : Int) = true := by unfold opn; simp [hl]; omega
theorem getV_no (h : opn n s a = false) : getV n K s a = 0 := by unfold getV; rw [h]; rfl
theorem getS_no (h : opn n s a = false) : getS n K s a = s := by unfold getS; rw [h]; rfl
theorem putS_no (h : opn n s a = false) : putS n s a v = s := by unfold putS; rw [h]; rfl
theorem putS_yes (h : opn n s (i : Int) = true) : putS n s (i : Int) v = { s with wr := putW s.wr i v } := by unfold putS; rw [if_pos h]; rfl
theorem getV_put (h : opn n s (i : Int) = true) (hp : pos s.wr i = some k) : getV n K s (i : Int) = atW s.wr k := by
  unfold getV; rw [if_pos h, Int.toNat_natCast, hp]
theorem getS_put (h : opn n s (i : Int) = true) (hp : pos s.wr i = some k) : getS n K s (i : Int) = s := by
  unfold getS; rw [if_pos h, Int.toNat_natCast, hp]
theorem getV_known (h : opn n s (i : Int) = true) (hp : pos s.wr i = none) (hk : K i = some v) : getV n K s (i : Int) = v := by
  unfold getV; rw [if_pos h, Int.toNat_natCast, hp, hk]; rfl
theorem getS_known (h : opn n s (i : Int) = true) (hp : pos s.wr i = none) (hk : K i = some v) : getS n K s (i : Int) = noteS s i := by
  unfold getS; rw [if_pos h, Int.toNat_natCast, hp, hk]
theorem getV_lost (h : opn n s (i : Int) = true) (hp : pos s.wr i = none) (hk : K i = none) : getV n K s (i : Int) = 0 := by
  unfold getV; rw [if_pos h, Int.toNat_natCast, hp, hk]; rfl
theorem getS_lost (h : opn n s (i : Int) = true) (hp : pos s.wr i = none) (hk : K i = none) : getS n K s (i : Int) = { s with lost := true, miss := i } := by
  unfold getS; rw [if_pos h, Int.toNat_natCast, hp, hk]
theorem noteS_in (h : i ∈ s.rd) : noteS s i = s := if_pos h
theorem noteS_new (h : i ∉ s.rd) : noteS s i = { s with rd := s.rd ++ [i] } := if_neg h
end

/-- what holds of each state -/
structure VOk (n : Nat) (s : Vst) : Prop where
  rdLt : ∀ i ∈ s.rd, i < n
  rdNd : s.rd.Nodup
  wrLt : ∀ p ∈ s.wr, p.1 < n ∧ p.2 < 2 ^ 32
  wrNd : ∀ k, k < s.wr.length → pos s.wr (cellW s.wr k) = some k
  mLt : s.lost = true → s.miss < n
theorem VOk.fresh (n : Nat) : VOk n freshS := ⟨by simp [freshS], by simp [freshS], by simp [freshS], by simp [freshS], by simp [freshS]⟩
section
variable {n : Nat} {K : Nat → Option Nat} {s : Vst} {i v k : Nat} {a : Int}
theorem VOk.note (h : VOk n s) (hi : i < n) : VOk n (noteS s i) := by
  unfold noteS
  split
  · exact h
  · rename_i hn
    refine { h with rdLt := fun j hj => ?_, rdNd := ?_ }
    · simp at hj
      rcases hj with hj | rfl
      · exact h.rdLt j hj
      · exact hi
    · show (s.rd ++ [i]).Nodup
      rw [List.nodup_append]
      refine ⟨h.rdNd, by simp, ?_⟩
      intro x hx y hy
      simp at hy
      subst hy
      rintro rfl
      exact hn hx
theorem VOk.get (h : VOk n s) : VOk n (getS n K s a) := by
  by_cases ho : opn n s a = true
  · obtain ⟨i, rfl, hi, hl⟩ := opn_at ho
    cases hp : pos s.wr i with
    | some k => rw [getS_put ho hp]; exact h
    | none =>
      cases hk : K i with
      | some v => rw [getS_known ho hp hk]; exact h.note hi
      | none => rw [getS_lost ho hp hk]; exact { h with mLt := fun _ => hi }
  · rw [getS_no (by simpa using ho)]; exact h
theorem VOk.put (h : VOk n s) (hv : v < 2 ^ 32) : VOk n (putS n s a v) := by
  by_cases ho : opn n s a = true
  · obtain ⟨i, rfl, hi, hl⟩ := opn_at ho
    rw [putS_yes ho]
    refine { h with wrLt := fun p hp => ?_, wrNd := fun k hk => ?_ }
    · have hp : p ∈ putW s.wr i v := hp
      unfold putW at hp
      split at hp
      · rcases List.mem_or_eq_of_mem_set hp with h1 | h1
        · exact h.wrLt p h1
        · subst h1; exact ⟨hi, hv⟩
      · simp at hp
        rcases hp with hp | rfl
        · exact h.wrLt p hp
        · exact ⟨hi, hv⟩
    · show pos (putW s.wr i v) (cellW (putW s.wr i v) k) = some k
      have hk : k < (putW s.wr i v).length := hk
      rw [pos_putW]
      cases hp : pos s.wr i with
      | some m =>
        rw [putW_some hp] at hk ⊢
        simp only
        have hk' : k < s.wr.length := by simpa using hk
        have : cellW (s.wr.set m (i, v)) k = cellW s.wr k := by
          unfold cellW
          by_cases e : k = m
          · subst e
            have h2 := (pos_some hp).2
            unfold cellW at h2
            simp [List.getD, hk']
            simpa [List.getD, hk'] using h2.symm
          · simp [List.getD, List.getElem?_set_ne (Ne.symm e)]
        rw [this]
        exact h.wrNd k hk'
      | none =>
        rw [putW_none hp] at hk ⊢
        simp only
        rcases Nat.lt_or_ge k s.wr.length with h1 | h1
        · have e1 : cellW (s.wr ++ [(i, v)]) k = cellW s.wr k := by
            unfold cellW
            simp [List.getD, List.getElem?_append_left h1]
          have e2 := h.wrNd k h1
          rw [e1, if_neg, e2]
          intro e3
          rw [e3, hp] at e2
          cases e2
        · obtain rfl : k = s.wr.length := by simp at hk; omega
          have e1 : cellW (s.wr ++ [(i, v)]) s.wr.length = i := by simp [cellW, List.getD]
          rw [e1, if_pos rfl]
  · rw [putS_no (by simpa using ho)]; exact h
theorem get_len (n : Nat) (K : Nat → Option Nat) (s : Vst) (a : Int) : (getS n K s a).rd.length ≤ s.rd.length + 1 ∧ (getS n K s a).wr = s.wr := by
  by_cases ho : opn n s a = true
  · obtain ⟨i, rfl, hi, hl⟩ := opn_at ho
    cases hp : pos s.wr i with
    | some k => rw [getS_put ho hp]; exact ⟨by omega, rfl⟩
    | none =>
      cases hk : K i with
      | some v =>
        rw [getS_known ho hp hk]
        unfold noteS
        split
        · exact ⟨by omega, rfl⟩
        · exact ⟨by simp, rfl⟩
      | none => rw [getS_lost ho hp hk]; exact ⟨by simp, rfl⟩
  · rw [getS_no (by simpa using ho)]; exact ⟨by omega, rfl⟩
theorem put_len (n : Nat) (s : Vst) (a : Int) (v : Nat) : (putS n s a v).wr.length ≤ s.wr.length + 1 ∧ (putS n s a v).rd = s.rd := by
  unfold putS
  split
  · exact ⟨putW_len _ _ _, rfl⟩
  · exact ⟨by omega, rfl⟩
end

/-! what is known -/
def kAdd (n : Nat) (K : Nat → Option Nat) (c : Int) (v : Nat) : Nat → Option Nat := if 0 ≤ c ∧ c < n ∧ K c.toNat = none then updF K c.toNat (some v) else K
theorem kAdd_yes {n : Nat} {K : Nat → Option Nat} {i : Nat} {v : Nat} (h : i < n) (hk : K i = none) : kAdd n K (i : Int) v = updF K i (some v) := by
  unfold kAdd
  rw [if_pos ⟨by omega, by omega, by simpa using hk⟩]
  rfl
theorem kAdd_no {n : Nat} {K : Nat → Option Nat} {c : Int} {v : Nat} (h : ¬ (0 ≤ c ∧ c < n ∧ K c.toNat = none)) : kAdd n K c v = K := if_neg h

/-- the values of all cells, behind what was put -/
def nowV (K : Nat → Option Nat) (wr : List (Nat × Nat)) (i : Nat) : Nat := match pos wr i with | some k => atW wr k | none => (K i).getD 0
def foldW (f : Nat → Nat) (l : List (Nat × Nat)) : Nat → Nat := l.foldl (fun f p => updF f p.1 p.2) f
theorem foldW_snoc (f : Nat → Nat) (l : List (Nat × Nat)) (p : Nat × Nat) : foldW f (l ++ [p]) = updF (foldW f l) p.1 p.2 := by unfold foldW; rw [List.foldl_append]; rfl
theorem foldW_take {f : Nat → Nat} {l : List (Nat × Nat)} {k : Nat} (h : k < l.length) : foldW f (l.take (k + 1)) = updF (foldW f (l.take k)) (cellW l k) (atW l k) := by
  have : l.take (k + 1) = l.take k ++ [(cellW l k, atW l k)] := by
    have e : (cellW l k, atW l k) = l[k] := by simp [cellW, atW, List.getD, List.getElem?_eq_getElem h]
    rw [List.take_add_one, List.getElem?_eq_getElem h, e]
    rfl
  rw [this, foldW_snoc]
theorem pos_take : ∀ {l : List (Nat × Nat)} {i k : Nat}, pos l i = some k → ∀ m, pos (l.take m) i = if k < m then some k else none
  | [], i, k, h, m => by cases h
  | p :: r, i, k, h, 0 => by simp [pos]
  | p :: r, i, k, h, m + 1 => by
    rw [List.take_succ_cons]
    unfold pos at h ⊢
    split at h
    · rename_i e
      injection h with h
      subst h
      rw [if_pos e, if_pos (by omega)]
    · rename_i e
      rw [if_neg e]
      cases hp : pos r i with
      | none => rw [hp] at h; cases h
      | some q =>
        rw [hp] at h
        injection h with h
        have h : q + 1 = k := h
        subst h
        rw [pos_take hp m]
        by_cases hq : q < m
        · rw [if_pos hq, if_pos (by omega)]; rfl
        · rw [if_neg hq, if_neg (by omega)]; rfl
theorem foldW_at {f : Nat → Nat} {l : List (Nat × Nat)} (hd : ∀ k, k < l.length → pos l (cellW l k) = some k) (i : Nat) :
    ∀ m, m ≤ l.length → foldW f (l.take m) i = match pos l i with | some k => if k < m then atW l k else f i | none => f i
  | 0, _ => by
    simp [foldW]
    split <;> rfl
  | m + 1, hm => by
    rw [foldW_take (by omega)]
    have ih := foldW_at (f := f) hd i m (by omega)
    by_cases e : i = cellW l m
    · have h1 := hd m (by omega)
      rw [← e] at h1
      rw [h1]
      simp [← e, updF_same]
    · rw [updF_other _ _ e, ih]
      cases hp : pos l i with
      | none => rfl
      | some k =>
        simp only
        have : k ≠ m := by
          rintro rfl
          exact e (pos_some hp).2.symm
        by_cases hk : k < m
        · rw [if_pos hk, if_pos (by omega)]
        · rw [if_neg hk, if_neg (by omega)]
theorem foldW_now {K : Nat → Option Nat} {n : Nat} {s : Vst} (h : VOk n s) (i : Nat) : foldW (fun i => (K i).getD 0) s.wr i = nowV K s.wr i := by
  have := foldW_at (f := fun i => (K i).getD 0) h.wrNd i s.wr.length (Nat.le_refl _)
  rw [List.take_length] at this
  rw [this]
  unfold nowV
  cases hp : pos s.wr i with
  | none => rfl
  | some k => simp [(pos_some hp).1]
end Go.Proofs.Ytpndfhdedmdoeaa
