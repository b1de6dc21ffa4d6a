/-
  What words come to when a change was cut off: functions of the words, and what follows of them. No program is named here.
-/
import Derived.Test.YtmjkljdnioochaaA01
import Derived.Deep.RegionHeld3
import Derived.IntWalk
import Derived.KernelRfl
import Derived.Test.YtmjkljdnioochaaAKit
import Derived.Laws.MakeOwn
import Derived.Deep.DeepFit
import Derived.Deep.Slices
import Derived.Lib.SmallJoins
import Derived.Lib.SliceRun
namespace Go.Proofs.Ytmjkljdnioochaa
open Go.ChangeShapes Go.WideShapes Go.ChangeAt Go.RowKit
set_option linter.unusedVariables false
set_option linter.unusedSimpArgs false
section
section
variable (t p : Nat)
def rdN : Nat := 30 + 4 * t + 6 * p
def rdM : Nat := (16 + rdN t p + 7) / 8 * 8
def rdW : Nat := rdM t p + (t + 1) * 120
def rdT (u : Nat) : Nat := rdM t p + u * 120 + 16
def rdL (u i : Nat) : Nat := rdM t p + u * 120 + 24 + i
theorem rdM_lt : 16 + rdN t p <= rdM t p := by unfold rdM; omega
variable {t p}
theorem rdM_eq {s : Nat} (hr : rightB t p s = true) : lM (t : Int) (p : Int) (s : Int) = (rdM t p : Int) := by
 unfold lM rdM rdN
 rw [hr]
 simp
theorem rdN_eq {s : Nat} (hr : rightB t p s = true) : lC (t : Int) (p : Int) (s : Int) = (rdN t p : Int) := by
 unfold lC rdN
 rw [hr]
 simp
theorem rdW_eq {s : Nat} (hr : rightB t p s = true) : lW (t : Int) (p : Int) (s : Int) = (rdW t p : Int) := by
 have h1 := rdM_eq hr
 unfold lW rdW
 rw [h1]
 unfold lK
 rw [hr]
 simp
theorem rdT_eq {s u : Nat} (hr : rightB t p s = true) (hu : u <= t) : noteI (t : Int) (p : Int) (s : Int) (u : Int) = (rdT t p u : Int) := by
 have h1 := rdM_eq hr
 unfold noteI rdT
 rw [makerI_yes hr (by omega) (by omega) (by omega) (by omega), h1]
 omega
theorem rdL_eq {s u i : Nat} (hr : rightB t p s = true) (hu : u <= t) (hi : i < 96) : logI (t : Int) (p : Int) (s : Int) (u : Int) (i : Int) = (rdL t p u i : Int) := by
 have h1 := rdM_eq hr
 unfold rdL
 rw [log_yes hr (by omega) (by omega) (by omega) (by omega), h1]
 omega
theorem rdT_lt {u : Nat} (hu : u <= t) : rdT t p u < rdW t p := by
 unfold rdT rdW
 have := Nat.mul_le_mul_right 120 hu
 omega
theorem rdL_lt {u i : Nat} (hu : u <= t) (hi : i < 96) : rdL t p u i < rdW t p := by
 unfold rdL rdW
 have := Nat.mul_le_mul_right 120 hu
 omega
end

def entI (n x : Nat) : Option (Nat × Nat) := if x / 4294967296 < 65536 /\ x / 4294967296 < n then some (x / 4294967296, x % 4294967296) else none
def entsI (n : Nat) (g : Nat -> Nat) : Nat -> Option (List (Nat × Nat))
 | 0 => some []
 | k + 1 => match entsI n g k, entI n (g k) with
  | some l, some e => some (l ++ [e])
  | _, _ => none
def logR (t p : Nat) (f : Nat -> Nat) (u : Nat) : Option ((Nat × Bool × Nat) × List (Nat × Nat)) :=
 if (noteOf (f (rdT t p u))).2.2.2 = true then
  (match entsI (rdN t p) (fun i => f (rdL t p u i)) (noteOf (f (rdT t p u))).2.2.1 with
  | some l => some (((noteOf (f (rdT t p u))).1, (noteOf (f (rdT t p u))).2.1, (noteOf (f (rdT t p u))).2.2.1), l)
  | none => none)
 else none
theorem entsI_cell {n : Nat} {g : Nat -> Nat} : ∀ {k : Nat} {l : List (Nat × Nat)}, entsI n g k = some l -> l.length = k /\ ∀ e ∈ l, e.1 < n /\ e.2 < 4294967296
 | 0, l, h => by
  injection h with h
  subst h
  exact ⟨rfl, by simp⟩
 | k + 1, l, h => by
  unfold entsI at h
  split at h
  ·rename_i l' e h1 h2
   injection h with h
   subst h
   obtain ⟨h3, h4⟩ := entsI_cell h1
   refine ⟨by simp [h3], fun x hx => ?_⟩
   rcases List.mem_append.1 hx with hx | hx
   ·exact h4 x hx
   ·obtain rfl := List.mem_singleton.1 hx
    unfold entI at h2
    split at h2
    ·rename_i h5
     injection h2 with h2
     subst h2
     exact ⟨h5.2, Nat.mod_lt _ (by omega)⟩
    ·cases h2
  ·cases h
theorem entsI_same {n : Nat} {g g' : Nat -> Nat} : ∀ {k : Nat}, (∀ i, i < k -> g i = g' i) -> entsI n g k = entsI n g' k
 | 0, _ => rfl
 | k + 1, h => by
  unfold entsI
  rw [entsI_same (fun i hi => h i (by omega)), h k (by omega)]

def stI (x : Nat) : Nat := x / 4294967296
def doneTo (s : Nat) : List (Nat × Nat) -> (Nat -> Nat) -> Nat -> Nat
 | [], f => f
 | e :: l, f => doneTo s l (if stI (f (16 + e.1)) < s then updF f (16 + e.1) (s * 4294967296 + e.2) else f)
def lowB (s : Nat) (f : Nat -> Nat) (n : Nat) : Prop := ∀ i, i < n -> stI (f (16 + i)) <= s
instance (s : Nat) (f : Nat -> Nat) (n : Nat) : Decidable (lowB s f n) := by unfold lowB; infer_instance
def lastR (t p : Nat) (f : Nat -> Nat) : Option (Nat × Nat × List (Nat × Nat)) :=
  if f 8 % 4294967296 <= 16 /\ f 8 % 4294967296 <= t /\ lowB (stI (f 8)) f (rdN t p) then
    (if openB (f (rdT t p (f 8 % 4294967296))) (stI (f 8)) = true then (logR t p f (f 8 % 4294967296)).map fun x => (stI (f 8), f 8 % 4294967296, x.2)
     else some (stI (f 8), f 8 % 4294967296, []))
  else none
def closeR (t p : Nat) (s u : Nat) (f0 f : Nat -> Nat) : Nat -> Nat :=
 if openB (f0 (rdT t p u)) s = true then updF f (rdT t p u) (s * 4294967296 + (noteOf (f0 (rdT t p u))).2.2.1) else f
def tidyR (t p : Nat) (f : Nat -> Nat) : Option (Nat -> Nat) := (lastR t p f).map fun x => closeR t p x.1 x.2.1 f (doneTo x.1 x.2.2 f)
def valR (f : Nat -> Nat) (i : Nat) : Nat := f (16 + i) % 4294967296

section
variable {t p s u : Nat} {f f' g : Nat -> Nat} {l : List (Nat × Nat)}
def firstE (l : List (Nat × Nat)) (j : Nat) : Option Nat := (l.find? fun e => decide (16 + e.1 = j)).map fun e => e.2
theorem st_put {s v : Nat} (hv : v < 4294967296) : stI (s * 4294967296 + v) = s := by unfold stI; omega
theorem doneTo_at : ∀ (l : List (Nat × Nat)) (f : Nat -> Nat), (∀ e ∈ l, e.2 < 4294967296) -> ∀ j, doneTo s l f j = if stI (f j) < s then (match firstE l j with | some v => s * 4294967296 + v | none => f j) else f j
 | [], f, _, j => by
  show f j = _
  split
  ·rfl
  ·rfl
 | e :: l, f, h, j => by
  have he := h e (List.mem_cons_self ..)
  have ih := doneTo_at l (if stI (f (16 + e.1)) < s then updF f (16 + e.1) (s * 4294967296 + e.2) else f) (fun x hx => h x (List.mem_cons_of_mem _ hx)) j
  show doneTo s l _ j = _
  rw [ih]
  by_cases hj : 16 + e.1 = j
  ·subst hj
   have hf : firstE (e :: l) (16 + e.1) = some e.2 := by unfold firstE; simp
   rw [hf]
   by_cases hs : stI (f (16 + e.1)) < s
   ·rw [if_pos hs, if_pos hs, updF_same, st_put he, if_neg (Nat.lt_irrefl _)]
   ·rw [if_neg hs, if_neg hs, if_neg hs]
  ·have hf : firstE (e :: l) j = firstE l j := by unfold firstE; rw [List.find?_cons_of_neg (by simpa using hj)]
   have hg : (if stI (f (16 + e.1)) < s then updF f (16 + e.1) (s * 4294967296 + e.2) else f) j = f j := by
    split
    ·exact updF_other _ _ (fun x => hj x.symm)
    ·rfl
   rw [hf, hg]
theorem firstE_cell {n j v : Nat} (hl : ∀ e ∈ l, e.1 < n /\ e.2 < 4294967296) (h : firstE l j = some v) : ∃ i, i < n /\ j = 16 + i /\ v < 4294967296 := by
 unfold firstE at h
 cases hx : l.find? fun e => decide (16 + e.1 = j) with
 | none => rw [hx] at h; cases h
 | some e =>
  rw [hx] at h
  injection h with h
  have h1 := hl e (List.mem_of_find?_eq_some hx)
  have h2 := List.find?_some hx
  exact ⟨e.1, h1.1, (of_decide_eq_true h2).symm, by rw [<- h]; exact h1.2⟩
theorem doneTo_out {n j : Nat} (hl : ∀ e ∈ l, e.1 < n /\ e.2 < 4294967296) (hj : j < 16 \/ 16 + n <= j) : doneTo s l f j = f j := by
 rw [doneTo_at l f (fun e he => (hl e he).2)]
 split
 ·cases h : firstE l j with
  | none => rfl
  | some v =>
   obtain ⟨i, hi, e, _⟩ := firstE_cell hl h
   omega
 ·rfl
theorem doneTo_low {n : Nat} (hl : ∀ e ∈ l, e.1 < n /\ e.2 < 4294967296) (h : lowB s f n) : lowB s (doneTo s l f) n := by
 intro i hi
 rw [doneTo_at l f (fun e he => (hl e he).2)]
 split
 ·cases h2 : firstE l (16 + i) with
  | none => exact h i hi
  | some v =>
   obtain ⟨_, _, _, hv⟩ := firstE_cell hl h2
   show stI (s * 4294967296 + v) <= s
   rw [st_put hv]
   exact Nat.le_refl _
 ·exact h i hi
theorem doneTo_part (hl : ∀ e ∈ l, e.2 < 4294967296) {j : Nat} (h : f' j = f j \/ f' j = doneTo s l f j) : doneTo s l f' j = doneTo s l f j := by
 rcases h with h | h
 ·rw [doneTo_at l f' hl, doneTo_at l f hl, h]
 ·rw [doneTo_at l f' hl, h, doneTo_at l f hl]
  by_cases h1 : stI (f j) < s
  ·rw [if_pos h1]
   cases h2 : firstE l j with
   | none =>
    show (if stI (f j) < s then f j else f j) = f j
    split <;> rfl
   | some v =>
    show (if stI (s * 4294967296 + v) < s then s * 4294967296 + v else s * 4294967296 + v) = _
    split <;> rfl
  ·rw [if_neg h1, if_neg h1]
theorem openB_note {x : Nat} (h : openB x s = true) : (noteOf x).2.2.2 = true /\ (noteOf x).2.1 = true /\ (noteOf x).1 = s /\ (noteOf x).2.2.1 <= 96 := by
 unfold openB at h
 simp only [Bool.and_eq_true, beq_iff_eq] at h
 refine ⟨h.1.1, h.1.2, h.2, ?_⟩
 unfold noteOf at h ⊢
 split
 ·rename_i h1; exact h1
 ·exact Nat.zero_le _
theorem openB_shut {c : Nat} (hc : c <= 96) : openB (s * 4294967296 + c) s = false := by
 have e : (s * 4294967296 + c) % 2147483648 = c := by omega
 have e2 : (s * 4294967296 + c) % 4294967296 = c := by omega
 unfold openB noteOf
 rw [e, e2, if_pos hc]
 have : decide (2147483648 <= c) = false := decide_eq_false (by omega)
 rw [this]
 simp
theorem lastR_some {x : Nat × Nat × List (Nat × Nat)} (h : lastR t p f = some x) : x.1 = stI (f 8) /\ x.2.1 = f 8 % 4294967296 /\ x.2.1 <= 16 /\ x.2.1 <= t /\ lowB x.1 f (rdN t p) /\ (∀ e ∈ x.2.2, e.1 < rdN t p /\ e.2 < 4294967296) /\ (openB (f (rdT t p x.2.1)) x.1 = false -> x.2.2 = []) := by
 unfold lastR at h
 split at h
 ·rename_i h1
  split at h
  ·rename_i h2
   unfold logR at h
   split at h
   ·split at h
    ·rename_i l hl
     injection h with h
     subst h
     refine ⟨rfl, rfl, h1.1, h1.2.1, h1.2.2, (entsI_cell hl).2, fun h3 => ?_⟩
     dsimp only at h3
     rw [h2] at h3
     cases h3
    ·cases h
   ·cases h
  ·injection h with h
   subst h
   exact ⟨rfl, rfl, h1.1, h1.2.1, h1.2.2, by simp, fun _ => rfl⟩
 ·cases h
theorem lastR_same {x : Nat × Nat × List (Nat × Nat)} (h : lastR t p f = some x) (h8 : f' 8 = f 8) (hm : ∀ j, 16 + rdN t p <= j -> f' j = f j) (hl : lowB x.1 f' (rdN t p)) : lastR t p f' = some x := by
 have hM := rdM_lt t p
 obtain ⟨e1, e2, _⟩ := lastR_some h
 rw [e1] at hl
 have hT : ∀ u, f' (rdT t p u) = f (rdT t p u) := fun u => hm _ (by unfold rdT; omega)
 have hL : ∀ u i, f' (rdL t p u i) = f (rdL t p u i) := fun u i => hm _ (by unfold rdL; omega)
 have hlog : ∀ u, logR t p f' u = logR t p f u := fun u => by
  unfold logR
  rw [hT u, entsI_same (g := fun i => f' (rdL t p u i)) (g' := fun i => f (rdL t p u i)) (fun i _ => hL u i)]
 unfold lastR at h ⊢
 rw [h8, hT, hlog]
 split at h
 ·rename_i h1
  rw [if_pos ⟨h1.1, h1.2.1, hl⟩]
  exact h
 ·cases h
theorem closeR_out {j : Nat} (h : j ≠ rdT t p u) : closeR t p s u f g j = g j := by
 unfold closeR
 split
 ·exact updF_other _ _ h
 ·rfl
theorem closeR_same (h : f (rdT t p u) = f' (rdT t p u)) : closeR t p s u f g = closeR t p s u f' g := by unfold closeR; rw [h]
theorem tidyR_part {x : Nat -> Nat} (h : tidyR t p f = some x) (hc : ∀ j, f' j = f j \/ (16 <= j /\ j < 16 + rdN t p /\ f' j = x j)) : tidyR t p f' = some x := by
 have hM := rdM_lt t p
 unfold tidyR at h
 cases hL : lastR t p f with
 | none => rw [hL] at h; cases h
 | some y =>
  rw [hL] at h
  injection h with h
  dsimp only at h
  obtain ⟨e1, e2, e3, e4, e5, e6, e7⟩ := lastR_some hL
  have hx : ∀ j, j < 16 + rdN t p -> x j = doneTo y.1 y.2.2 f j := fun j hj => by
   rw [<- h]
   exact closeR_out (by unfold rdT; omega)
  have hm : ∀ j, j < 16 \/ 16 + rdN t p <= j -> f' j = f j := fun j hj => by
   rcases hc j with h1 | h1
   ·exact h1
   ·omega
  have hd : ∀ j, f' j = f j \/ f' j = doneTo y.1 y.2.2 f j := fun j => by
   rcases hc j with h1 | ⟨h1, h2, h3⟩
   ·exact .inl h1
   ·exact .inr (h3.trans (hx j h2))
  have hlow : lowB y.1 f' (rdN t p) := fun i hi => by
   rcases hd (16 + i) with h1 | h1
   ·rw [h1]; exact e5 i hi
   ·rw [h1]; exact doneTo_low e6 e5 i hi
  unfold tidyR
  rw [lastR_same hL (hm 8 (by omega)) (fun j hj => hm j (.inr hj)) hlow]
  show some _ = _
  congr 1
  dsimp only
  rw [<- h]
  have e : doneTo y.1 y.2.2 f' = doneTo y.1 y.2.2 f := by
   funext j
   exact doneTo_part (fun e he => (e6 e he).2) (hd j)
  rw [e]
  exact closeR_same (hm _ (.inr (by unfold rdT; omega)))
theorem tidyR_once {x : Nat -> Nat} (h : tidyR t p f = some x) : tidyR t p x = some x := by
 have hM := rdM_lt t p
 unfold tidyR at h
 cases hL : lastR t p f with
 | none => rw [hL] at h; cases h
 | some y =>
  rw [hL] at h
  injection h with h
  dsimp only at h
  obtain ⟨e1, e2, e3, e4, e5, e6, e7⟩ := lastR_some hL
  have hx : ∀ j, j ≠ rdT t p y.2.1 -> x j = doneTo y.1 y.2.2 f j := fun j hj => by rw [<- h]; exact closeR_out hj
  have hT : ∀ j, j < 16 + rdN t p -> j ≠ rdT t p y.2.1 := fun j hj => by unfold rdT; omega
  have hlow : lowB y.1 x (rdN t p) := fun i hi => by
   rw [hx _ (hT _ (by omega))]
   exact doneTo_low e6 e5 i hi
  have h8 : x 8 = f 8 := (hx 8 (hT 8 (by omega))).trans (doneTo_out e6 (.inl (by omega)))
  have hshut : openB (x (rdT t p y.2.1)) y.1 = false := by
   rw [<- h]
   unfold closeR
   by_cases ho : openB (f (rdT t p y.2.1)) y.1 = true
   ·rw [if_pos ho, updF_same]
    exact openB_shut (openB_note ho).2.2.2
   ·rw [if_neg ho, doneTo_out e6 (.inr (by unfold rdT; omega))]
    simpa using ho
  have hl : lastR t p x = some (y.1, y.2.1, []) := by
   unfold lastR
   rw [h8, <- e1, <- e2, if_pos ⟨e3, e4, hlow⟩, if_neg (by rw [hshut]; decide)]
  unfold tidyR
  rw [hl]
  show some _ = _
  congr 1
  dsimp only
  unfold closeR
  rw [hshut, if_neg (by decide)]
  rfl
theorem tidyR_out {x : Nat -> Nat} (h : tidyR t p f = some x) {j : Nat} (hj : j < 16 \/ 16 + rdN t p <= j) (hn : ∀ u, u <= t -> j ≠ rdT t p u) : x j = f j := by
 unfold tidyR at h
 cases hL : lastR t p f with
 | none => rw [hL] at h; cases h
 | some y =>
  rw [hL] at h
  injection h with h
  dsimp only at h
  obtain ⟨e1, e2, e3, e4, e5, e6, e7⟩ := lastR_some hL
  rw [<- h, closeR_out (hn _ e4)]
  exact doneTo_out e6 hj
theorem tidyR_lt {x : Nat -> Nat} (h : tidyR t p f = some x) (h64 : ∀ j, f j < 2 ^ 64) (j : Nat) : x j < 2 ^ 64 := by
 unfold tidyR at h
 cases hL : lastR t p f with
 | none => rw [hL] at h; cases h
 | some y =>
  rw [hL] at h
  injection h with h
  dsimp only at h
  obtain ⟨e1, e2, e3, e4, e5, e6, e7⟩ := lastR_some hL
  have hs : y.1 < 2 ^ 32 := by rw [e1]; have := h64 8; unfold stI; omega
  rw [<- h]
  have hd : ∀ j, doneTo y.1 y.2.2 f j < 2 ^ 64 := fun j => by
   rw [doneTo_at _ _ (fun e he => (e6 e he).2)]
   split
   ·cases h2 : firstE y.2.2 j with
    | none => exact h64 j
    | some v =>
     obtain ⟨_, _, _, hv⟩ := firstE_cell e6 h2
     show y.1 * 4294967296 + v < _
     omega
   ·exact h64 j
  unfold closeR
  split
  ·rename_i ho
   by_cases e : j = rdT t p y.2.1
   ·subst e
    rw [updF_same]
    have := (openB_note ho).2.2.2
    omega
   ·rw [updF_other _ _ e]; exact hd j
  ·exact hd j
end
end
section
def infoP (k l c : Int) : Prop := (k = 0 /\ l = 0 /\ c = 0) \/ ((k = 1 \/ k = 2) /\ 1 <= l /\ l <= 1024 /\ c = 0) \/ (k = 3 /\ l = 1 /\ 0 <= c /\ c <= 8)
instance (k l c : Int) : Decidable (infoP k l c) := by unfold infoP; infer_instance
def infoB (k l c : Int) : Bool := decide (infoP k l c)
theorem infoB_yes {k l c : Int} (h : infoP k l c) : infoB k l c = true := decide_eq_true h
theorem infoB_iff {k l c : Int} (h : infoB k l c = true) : infoP k l c := of_decide_eq_true h
def infoV (k l c : Int) : Nat := if infoB k l c then k.toNat + 16 * l.toNat + 65536 * c.toNat else 0
theorem infoV_yes {k l c : Int} (h : infoB k l c = true) : infoV k l c = k.toNat + 16 * l.toNat + 65536 * c.toNat := by unfold infoV; rw [if_pos h]
theorem infoV_no {k l c : Int} (h : infoB k l c = false) : infoV k l c = 0 := by unfold infoV; rw [h]; rfl

set_option maxHeartbeats 1600000 in
theorem r9Right_c (k l c : Int) (w : World) :
  Calls Try.prog 81 #[.agg #[.int .i64 k, .int .i64 l, .int .i64 c]] w fun e w' => e = .returned (.bool (infoB k l c)) /\ Below w.heap.size w w' := by
 have hC : ∃ b, infoB k l c = b := ⟨_, rfl⟩
 obtain ⟨b, hb⟩ := hC
 rw [hb]
 have hcase : (k = 3 /\ l ≠ 1 /\ b = false) \/ (k = 3 /\ l = 1 /\ c < 0 /\ b = false) \/ (k = 3 /\ l = 1 /\ 0 <= c /\ 8 < c /\ b = false) \/ (k = 3 /\ l = 1 /\ 0 <= c /\ c <= 8 /\ b = true) \/
   ((k = 1 \/ k = 2) /\ l < 1 /\ b = false) \/ ((k = 1 \/ k = 2) /\ 1 <= l /\ 1024 < l /\ b = false) \/ ((k = 1 \/ k = 2) /\ 1 <= l /\ l <= 1024 /\ c ≠ 0 /\ b = false) \/ ((k = 1 \/ k = 2) /\ 1 <= l /\ l <= 1024 /\ c = 0 /\ b = true) \/
   (k = 0 /\ l ≠ 0 /\ b = false) \/ (k = 0 /\ l = 0 /\ c ≠ 0 /\ b = false) \/ (k = 0 /\ l = 0 /\ c = 0 /\ b = true) \/ (k ≠ 0 /\ k ≠ 1 /\ k ≠ 2 /\ k ≠ 3 /\ b = false) := by
  cases b
  ·have h : ¬ infoP k l c := of_decide_eq_false hb
   unfold infoP at h
   simp only [and_true, reduceCtorEq, and_false, or_false, false_or]
   omega
  ·have h : infoP k l c := infoB_iff hb
   unfold infoP at h
   simp only [and_true, reduceCtorEq, and_false, or_false, false_or]
   omega
 clear hb
 rcases hcase with ⟨rfl, h1, rfl⟩ | ⟨rfl, rfl, h1, rfl⟩ | ⟨rfl, rfl, h1, h2, rfl⟩ | ⟨rfl, rfl, h1, h2, rfl⟩ | ⟨rfl | rfl, h1, rfl⟩ | ⟨rfl | rfl, h1, h2, rfl⟩ | ⟨rfl | rfl, h1, h2, h3, rfl⟩ | ⟨rfl | rfl, h1, h2, rfl, rfl⟩ | ⟨rfl, h1, rfl⟩ | ⟨rfl, rfl, h1, rfl⟩ | ⟨rfl, rfl, rfl, rfl⟩ | ⟨h0, h1, h2, h3, rfl⟩
 all_goals
  go_enter Try.func81, Try.ntmps81
  go_wp2
  go_ret
  refine ⟨by first | rfl | (refine ret_bool ?_; simp; done) | (refine ret_bool ?_; simp; omega), ?_⟩
  repeat (first | exact B0 _ | (with_reducible refine Bdrew ?_) | (with_reducible refine Bdraw ?_ _) | (with_reducible refine Bnew ?_ _) | (refine Bput ?_ (Nat.le_refl _) _))
end
section
theorem ret_half {k : IntKind} {a b : Int} {c : Bool} (h : a = b) : Ending.returned (.tuple #[.int k a, .bool c]) = .returned (.tuple #[.int k b, .bool c]) := by rw [h]

theorem r9Put_c (k l c : Int) (w : World) :
  Calls Try.prog 72 #[.agg #[.int .i64 k, .int .i64 l, .int .i64 c]] w fun e w' => e = .returned (.tuple #[.int .u32 ((infoV k l c : Nat) : Int), .bool (infoB k l c)]) /\ Below w.heap.size w w' := by
 cases hr : infoB k l c
 ·have HP := hidp (infoV_no hr)
  have HR := hidp hr
  clear hr
  go_enter Try.func72, Try.ntmps72
  go_wp2_with fail
  refine (r9Right_c k l c _).mono ?_
  rintro e w1 ⟨rfl, hb1⟩
  rw [HR.out]
  go_wp2
  go_ret2
  exact ⟨by rw [HP.out]; rfl, Bgo (Bnew (B0 _) _) hb1⟩
 ·have HP := hidp (infoV_yes hr)
  have HR := hidp hr
  have hi := infoB_iff hr
  clear hr
  have hb : 0 <= k /\ k <= 3 /\ 0 <= l /\ l <= 1024 /\ 0 <= c /\ c <= 8 := by unfold infoP at hi; omega
  obtain ⟨k0, k3, l0, l1, c0, c8⟩ := hb
  clear hi
  go_enter Try.func72, Try.ntmps72
  go_wp2_with fail
  have hc := Held.new w 90 #[.int .i64 k, .int .i64 l, .int .i64 c]
  refine (r9Right_c k l c _).mono ?_
  rintro e w1 ⟨rfl, hb1⟩
  rw [HR.out]
  obtain ⟨d0, d1, d2⟩ := (hc.keep hb1).three
  go_wp2
  go_ret2
  refine ⟨ret_half (by rw [HP.out]; first | omega | (simp; omega)), ?_⟩
  repeat (first | exact B0 _ | (with_reducible refine Bdrew ?_) | (with_reducible refine Bdraw ?_ _) | (with_reducible refine Bgo ?_ hb1) | (with_reducible refine Bnew ?_ _))
end
end Go.Proofs.Ytmjkljdnioochaa

namespace Go.Proofs.Ytmjkljdnioochaa
set_option linter.unusedVariables false
section
theorem i64_same {x : Int} (h : -9223372036854775808 <= x) (h' : x <= 9223372036854775807) : IntKind.i64.wrap x = x := by
 simp only [IntKind.wrap, IntKind.bits, IntKind.signed]; simp; omega
end
end Go.Proofs.Ytmjkljdnioochaa

namespace Go.Proofs.Ytmjkljdnioochaa
open Go.ChangeShapes Go.WideShapes Go.ChangeAt Go.RowKit
set_option linter.unusedVariables false
section
structure AuH where
 t : Nat
 p : Nat
 s : Nat
 V : Nat -> Nat

namespace AuH
variable (H : AuH)
variable {H}
variable (H)
variable {H}
end AuH
end
end Go.Proofs.Ytmjkljdnioochaa

namespace Go.Proofs.Ytmjkljdnioochaa
open Go.ChangeShapes Go.WideShapes Go.ChangeAt Go.RowKit Go.Maps
set_option linter.unusedVariables false
set_option linter.unusedSimpArgs false
set_option maxRecDepth 100000
section
def wrdF (f : Nat -> Nat) : Nat -> Value := fun i => .int .u64 ((f i : Nat) : Int)
theorem wrd_info : (Try.prog.info? 46).map (fun i => (i.zero, i.size, i.bytes)) = some (some (.int .u64 0), 1, 8) := by kernel_rfl
theorem make_u64 (n : Nat) (hn : n <= 1000000) (w : World) : (Instr.makeSlice 24 (.int .i64 (n : Int)) (.int .i64 (n : Int))).run Try.prog w = .ok (.slice (some ⟨w.heap.size, 0, none⟩) n n) (w.alloc (.cells (madeCells #[.int .u64 0] n) 46)) := by
 obtain ⟨i, hi⟩ : ∃ i, Try.prog.info? 46 = some i := Option.isSome_iff_exists.1 (by kernel_rfl)
 have h := wrd_info
 rw [hi] at h
 simp only [Option.map_some, Option.some.injEq, Prod.mk.injEq] at h
 obtain ⟨hz, hs, hb⟩ := h
 have := run_makeSlice (w := w) 24 46 i _ Try.underlying24 hi hz .i64 .i64 (n : Int) (n : Int) (by omega) (by omega) (by rw [hs]; omega) (by rw [hb]; omega) (by omega)
 rw [Int.toNat_natCast, hs, Nat.mul_one] at this
 exact this
theorem addr_add (g k : Nat) : (⟨g, 0, none⟩ : Addr).add k = ⟨g, k, none⟩ := by
 unfold Addr.add
 by_cases h : k = 0
 ·rw [if_pos h, h]
 ·rw [if_neg h]; simp
theorem own_some27 {w : World} {base : Nat} {e : TypeId} {size n c : Nat} {A : Option Addr} {xs : List Value} (h : w.ownsRow base e size (.slice A n c) n xs) (hn : 0 < n) : ∃ al, A = some al := by
 rcases h.2 with ⟨_, h2⟩ | ⟨g, cap, cur, e, _⟩
 ·omega
 ·injection e with e; exact ⟨_, e⟩
theorem own_caps27 {w : World} {base : Nat} {e : TypeId} {size n c : Nat} {A : Option Addr} {xs : List Value} (h : w.ownsRow base e size (.slice A n c) n xs) : n <= c /\ c <= 9223372036854775807 := by
 rcases h.2 with ⟨e, h2⟩ | ⟨g, cap, cur, e, _, _, h3, h4, _⟩
 ·injection e with _ e1 e2; omega
 ·injection e with _ _ e2; subst e2; exact ⟨h3, h4⟩
structure WV (w : World) (A : Option Addr) (m c : Nat) (f : Nat -> Nat) : Prop where
 le : m <= c
 max : c <= maxLen
 lt : ∀ i, i < m -> f i < 2 ^ 64
 cell : ∀ i, i < m -> ∃ ad, A = some ad /\ ad.block < w.heap.size /\ w.cell? (ad.add i) = some (.int .u64 ((f i : Nat) : Int))
section
variable {w w' : World} {A : Option Addr} {m c g : Nat} {f f' : Nat -> Nat}
theorem WV.below (h : WV w A m c f) (hb : Below w.heap.size w w') : WV w' A m c f := ⟨h.le, h.max, h.lt, fun i hi => by
 obtain ⟨ad, e, h1, h2⟩ := h.cell i hi
 exact ⟨ad, e, Nat.lt_of_lt_of_le h1 hb.size, (hb.cell (by rw [block_of_add]; exact h1)).trans h2⟩⟩
theorem WV.ad (h : WV w A m c f) (hm : 0 < m) : ∃ ad, A = some ad /\ ad.block < w.heap.size /\ ∀ i, i < m -> w.cell? (ad.add i) = some (.int .u64 ((f i : Nat) : Int)) := by
 obtain ⟨ad, e, h1, h2⟩ := h.cell 0 hm
 refine ⟨ad, e, h1, fun i hi => ?_⟩
 obtain ⟨ad', e', _, h4⟩ := h.cell i hi
 rw [e] at e'
 injection e' with e'
 rw [e']
 exact h4
theorem WV.of_row (h : RowF w g 46 m c (wrdF f)) (hf : ∀ i, i < m -> f i < 2 ^ 64) : WV w (some ⟨g, 0, none⟩) m c f :=
 ⟨h.le, h.max, hf, fun i hi => ⟨_, rfl, h.lt, by rw [addr_add]; exact h.cell hi⟩⟩
theorem WV.of_reads {ws : List Nat} {B : Nat} (h : Reads w B 1 A ws.length (wordVs ws)) (hB : B <= w.heap.size) (h64 : ∀ x ∈ ws, x < 2 ^ 64) (hc : ws.length <= c) (hm : c <= maxLen) : WV w A ws.length c (fun i => ws.getD i 0) :=
 ⟨hc, hm, fun i hi => by rw [List.getD_eq_getElem?_getD, List.getElem?_eq_getElem hi]; exact h64 _ (List.getElem_mem _), fun i hi => by
  obtain ⟨ad, e, h1, h2⟩ := h.2 (by omega)
  refine ⟨ad, e, Nat.lt_of_lt_of_le h1 hB, h2 i _ ?_⟩
  unfold wordVs
  rw [List.getElem?_map, List.getElem?_eq_getElem hi]
  simp [List.getD, List.getElem?_eq_getElem hi]⟩
theorem WV.reads (h : WV w A m c f) : Reads w w.heap.size 1 A m (wordVs ((List.range m).map f)) := by
 refine ⟨by simp [wordVs], fun hm => ?_⟩
 obtain ⟨ad, e, h1, h2⟩ := h.ad hm
 refine ⟨ad, e, h1, fun j u hu => ?_⟩
 unfold wordVs at hu
 have hj : j < m := by
  rcases Nat.lt_or_ge j m with h3 | h3
  ·exact h3
  ·rw [List.getElem?_eq_none (by simpa using h3)] at hu; cases hu
 rw [List.getElem?_map, List.getElem?_map, List.getElem?_range hj] at hu
 injection hu with hu
 rw [h2 j hj, <- hu]
end
theorem wpList_copy_words {w : World} {ops : Array Oper} {rest : List Oper} {o : Oper} {a : Act} {Q : Exit -> Act -> World -> Prop} (hgd : o.guard = none) (s x : Operand)
  (ho : o.op = .call { callee := .builtin .append, args := #[s, x], argTypes := #[24, 24] })
  (hs : a.eval s = .slice (some ⟨w.heap.size, 0, none⟩) 0 0) (A : Option Addr) (n c : Nat) (f : Nat -> Nat) (hn : 0 < n) (hmx : n <= 1000000) (hx : a.eval x = .slice A n c) (hc : WV w A n c f)
  (h : ∀ g cap w', w.heap.size <= g -> Hid (RowF w' g 46 n cap (wrdF f)) -> Hid (Below w.heap.size w w') -> wpList Try.prog ops Q rest (a.put o.dst (.slice (some ⟨g, 0, none⟩) n cap)) w') :
  wpList Try.prog ops Q (o :: rest) a (w.alloc (.cells #[] 46)) := by
 obtain ⟨i0, hi⟩ : ∃ i, Try.prog.info? 46 = some i := Option.isSome_iff_exists.1 (by kernel_rfl)
 have h0 := wrd_info
 rw [hi] at h0
 simp only [Option.map_some, Option.some.injEq, Prod.mk.injEq] at h0
 obtain ⟨hz0, hz1, hz2⟩ := h0
 obtain ⟨ad, rfl, hab, hcc⟩ := hc.ad hn
 refine wpList_append_own _ hgd _ _ 24 ho w.heap.size 46 i0 (.int .u64 0) 1 8 Try.underlying24 hi hz0 hz1 hz2 rfl (by decide) _ 0 [] hs (World.ownsRow_made w #[] 0 (Nat.le_refl _) (Nat.zero_le _) (by simp)) ad n c ((List.range n).map (wrdF f)) hx (by simp) ?_ ?_ (by rw [Nat.zero_add]; unfold maxLen; omega) (by rw [Nat.zero_add]; omega) (by simp) ?_
 ·intro j u hj
  have hj' : j < n := by
   rcases Nat.lt_or_ge j n with h1 | h1
   ·exact h1
   ·rw [List.getElem?_eq_none (by simp; omega)] at hj; cases hj
  rw [List.getElem?_map, List.getElem?_range hj'] at hj
  exact (((Bnew (B0 w) (.cells #[] 46)).cell (p := ad.add j) (by rw [block_of_add]; exact hab)).trans (hcc j hj')).trans hj
 ·intro u hu
  obtain ⟨j, _, rfl⟩ := List.mem_map.1 hu
  rfl
 ·intro v' w1 hown hgrow hnil
  rw [Nat.zero_add, List.nil_append] at hown
  obtain ⟨g, cap, rfl, hg1, hg2⟩ := hown.form hn
  exact h g cap w1 hg1 (hidp (RowF.of_own hown).2) (hidp (((Below.refl _ w).alloc (Nat.le_refl _) (.cells #[] 46)).grown hgrow (by simp) (by intro k hk; simp [Value.ownBlock] at hk; omega)))
end
end Go.Proofs.Ytmjkljdnioochaa

namespace Go.Proofs.Ytmjkljdnioochaa
open Go.ChangeShapes Go.WideShapes Go.ChangeAt Go.RowKit
set_option linter.unusedVariables false
set_option linter.unusedSimpArgs false
section
theorem Held.seven {w : World} {g : Nat} {t : TypeId} {c0 c1 c2 c3 c4 c5 c6 : Value} (h : Held w g t #[c0, c1, c2, c3, c4, c5, c6]) : w.cell? ⟨g, 0, none⟩ = some c0 /\ w.cell? ⟨g, 1, none⟩ = some c1 /\ w.cell? ⟨g, 2, none⟩ = some c2 /\ w.cell? ⟨g, 3, none⟩ = some c3 /\ w.cell? ⟨g, 4, none⟩ = some c4 /\ w.cell? ⟨g, 5, none⟩ = some c5 /\ w.cell? ⟨g, 6, none⟩ = some c6 :=
 ⟨h.cell 0, h.cell 1, h.cell 2, h.cell 3, h.cell 4, h.cell 5, h.cell 6⟩
theorem Held.thawed7 {w : World} {g : Nat} {t : TypeId} {cs : Array Value} (h : Held w g t cs) : w.frozen? ⟨g, 0, none⟩ = false /\ w.frozen? ⟨g, 1, none⟩ = false /\ w.frozen? ⟨g, 2, none⟩ = false /\ w.frozen? ⟨g, 3, none⟩ = false /\ w.frozen? ⟨g, 4, none⟩ = false /\ w.frozen? ⟨g, 5, none⟩ = false /\ w.frozen? ⟨g, 6, none⟩ = false :=
 ⟨h.thawed 0, h.thawed 1, h.thawed 2, h.thawed 3, h.thawed 4, h.thawed 5, h.thawed 6⟩

theorem plNth_c (f n e i : Int) (f0 : -1 <= f) (f1 : f <= 20000) (n0 : 0 <= n) (n1 : n <= 10000) (e0 : 0 <= e) (e1 : e <= 120) (w : World) :
  Calls Try.prog 78 #[.int .i64 f, .int .i64 n, .int .i64 e, .int .i64 i] w fun z w' => z = .returned (.int .i64 (nthI f n e i)) /\ w = w' := by
 by_cases c0 : f = -1
 ·subst c0
  have HN := hidp (nth_off (f := -1) (n := n) (e := e) (i := i) (.inl rfl))
  go_enter Try.func78, Try.ntmps78
  go_wp2
  go_ret
  exact ⟨by rw [HN.out]; rfl, rfl⟩
 ·have q0 : (f == -1) = false := by simpa using c0
  by_cases c1 : i < 0
  ·have HN := hidp (nth_off (f := f) (n := n) (e := e) (i := i) (.inr (.inl c1)))
   go_enter Try.func78, Try.ntmps78
   go_wp2
   go_ret
   exact ⟨by rw [HN.out]; rfl, rfl⟩
  ·by_cases c2 : n <= i
   ·have HN := hidp (nth_off (f := f) (n := n) (e := e) (i := i) (.inr (.inr c2)))
    go_enter Try.func78, Try.ntmps78
    go_wp2
    go_ret
    exact ⟨by rw [HN.out]; rfl, rfl⟩
   ·have HN := hidp (nth_on (f := f) (n := n) (e := e) (i := i) c0 (by omega) (by omega))
    have p0 : 0 <= i * e := Int.mul_nonneg (by omega) e0
    have p1 : i * e <= 10000 * 120 := Int.mul_le_mul (by omega) e1 e0 (by omega)
    obtain ⟨y, hy⟩ : ∃ y, i * e = y := ⟨_, rfl⟩
    have HY := hidp hy
    rw [hy] at p0 p1
    go_enter Try.func78, Try.ntmps78
    go_wp2
    go_ret
    exact ⟨by rw [HN.out, HY.out]; rfl, rfl⟩

theorem plLine_c (i : Nat) (h : i <= 10000) (w : World) :
  Calls Try.prog 83 #[.int .i64 (i : Int)] w fun z w' => z = .returned (.int .i64 (((i + 7) / 8 * 8 : Nat) : Int)) /\ w = w' := by
 go_enter Try.func83, Try.ntmps83
 go_wp2
 go_ret
 refine ⟨ret_int ?_, rfl⟩
 simp
 omega
theorem plLineI_c (i y : Int) (h0 : 0 <= i) (h : i <= 10000) (hy : (i + 7) / 8 * 8 = y) (w : World) :
  Calls Try.prog 83 #[.int .i64 i] w fun z w' => z = .returned (.int .i64 y) /\ w = w' := by
 obtain ⟨n, rfl⟩ : ∃ n : Nat, i = n := ⟨i.toNat, by omega⟩
 have e : y = (((n + 7) / 8 * 8 : Nat) : Int) := by omega
 rw [e]
 exact plLine_c n (by omega) w

set_option maxHeartbeats 1600000 in
theorem plLayout_no (t p s : Int) (hr : rightB t p s = false) (w : World) :
  Calls Try.prog 74 #[.agg #[.int .i64 t, .int .i64 p, .int .i64 s]] w fun z w' => z = .returned (.agg #[.int .i64 0, .int .i64 0, .int .i64 0, .int .i64 0, .int .i64 0, .int .i64 0, .int .i64 0]) /\ Below w.heap.size w w' := by
 have HK := hidp (check_no hr)
 have hl := Held.new2 w (.cells #[.int .i64 t, .int .i64 p, .int .i64 s] 23) 92 #[.int .i64 0, .int .i64 0, .int .i64 0, .int .i64 0, .int .i64 0, .int .i64 0, .int .i64 0]
 clear hr
 go_enter Try.func74, Try.ntmps74
 go_wp2_with fail
 refine (cfCheck_c t p s _).mono ?_
 rintro e w1 ⟨rfl, hb1⟩
 rw [HK.out]
 have hz := hb1.size
 have hl1 := hl.keep hb1
 obtain ⟨z0, z1, z2, z3, z4, z5, z6⟩ := hl1.seven
 obtain ⟨f0, f1, f2, f3, f4, f5, f6⟩ := hl1.thawed7
 go_wp2
 refine bodyPost_ret (v := .agg #[.int .i64 0, .int .i64 0, .int .i64 0, .int .i64 0, .int .i64 0, .int .i64 0, .int .i64 0]) (by simp [results, Try.results74, go_sem, z0, z1, z2, z3, z4, z5, z6]) rfl ⟨rfl, ?_⟩
 exact Bput (Bput (Bput (Bput (Bput (Bput (Bput (Bgo (Bnew (Bnew (B0 _) _) _) hb1) (Nat.le_succ _) _) (Nat.le_succ _) _) (Nat.le_succ _) _) (Nat.le_succ _) _) (Nat.le_succ _) _) (Nat.le_succ _) _) (Nat.le_succ _) _

set_option maxHeartbeats 1600000 in
theorem plLayout_yes (a b : Nat) (s : Int) (hr : rightB a b s = true) (w : World) :
  Calls Try.prog 74 #[.agg #[.int .i64 (a : Int), .int .i64 (b : Int), .int .i64 s]] w fun z w' => z = .returned (.agg #[.int .i64 (a : Int), .int .i64 (b : Int), .int .i64 s, .int .i64 (30 + 4 * a : Int), .int .i64 (30 + 4 * a + 6 * b : Int), .int .i64 ((16 + (30 + 4 * a + 6 * b) + 7) / 8 * 8 : Int), .int .i64 (a + 1 : Int)]) /\ Below w.heap.size w w' := by
 have HK := hidp (check_yes hr)
 have hn := (rightB_iff a b s).1 hr
 have a1 : a <= 16 := by omega
 have b1 : b <= 1024 := by omega
 obtain ⟨y, hy⟩ : ∃ y : Int, ((16 + (30 + 4 * (a : Int) + 6 * (b : Int)) + 7) / 8 * 8 : Int) = y := ⟨_, rfl⟩
 have HY := hidp hy
 rw [hy]
 have hd := (Held.new w 23 #[.int .i64 a, .int .i64 b, .int .i64 s]).alloc (.cells #[.int .i64 0, .int .i64 0, .int .i64 0, .int .i64 0, .int .i64 0, .int .i64 0, .int .i64 0] 92)
 have hl := Held.new2 w (.cells #[.int .i64 a, .int .i64 b, .int .i64 s] 23) 92 #[.int .i64 0, .int .i64 0, .int .i64 0, .int .i64 0, .int .i64 0, .int .i64 0, .int .i64 0]
 clear hr hn hy
 go_enter Try.func74, Try.ntmps74
 go_wp2_with fail
 refine (cfCheck_c a b s _).mono ?_
 rintro e w1 ⟨rfl, hb1⟩
 rw [HK.out]
 have hz := hb1.size
 have hd1 := hd.keep hb1
 have hl1 := hl.keep hb1
 obtain ⟨x0, x1, x2⟩ := hd1.three
 obtain ⟨z0, z1, z2, z3, z4, z5, z6⟩ := hl1.seven
 obtain ⟨f0, f1, f2, f3, f4, f5, f6⟩ := hl1.thawed7
 have hlt := hl1.lt
 clear hd hl
 go_wp2_with fail
 refine (plLineI_c _ y (by omega) (by omega) HY.out _).mono ?_
 rintro e w2 ⟨rfl, rfl⟩
 go_wp2
 have hfin := (((((((hl1.put 0 (.int .i64 (a : Int))).put 1 (.int .i64 (b : Int))).put 2 (.int .i64 s)).put 3 (.int .i64 (30 + 4 * a : Int))).put 4 (.int .i64 (30 + 4 * a + 6 * b : Int))).put 5 (.int .i64 y)).put 6 (.int .i64 (a + 1 : Int))).alloc
  (.cells #[.int .i64 (a : Int), .int .i64 (b : Int), .int .i64 s, .int .i64 (30 + 4 * a : Int), .int .i64 (30 + 4 * a + 6 * b : Int), .int .i64 y, .int .i64 (a + 1 : Int)] 92)
 obtain ⟨r0, r1, r2, r3, r4, r5, r6⟩ := hfin.seven
 refine bodyPost_ret (v := .agg #[.int .i64 (a : Int), .int .i64 (b : Int), .int .i64 s, .int .i64 (30 + 4 * a : Int), .int .i64 (30 + 4 * a + 6 * b : Int), .int .i64 y, .int .i64 (a + 1 : Int)]) (by simp [results, Try.results74, go_sem, r0, r1, r2, r3, r4, r5, r6]) rfl ⟨rfl, ?_⟩
 exact Bnew (Bput (Bput (Bput (Bput (Bput (Bput (Bput (Bgo (Bnew (Bnew (B0 _) _) _) hb1) (Nat.le_succ _) _) (Nat.le_succ _) _) (Nat.le_succ _) _) (Nat.le_succ _) _) (Nat.le_succ _) _) (Nat.le_succ _) _) (Nat.le_succ _) _) _

theorem plLayout_c (t p s T P S A C M K : Int) (h : Laid7 t p s T P S A C M K) (w : World) :
  Calls Try.prog 74 #[.agg #[.int .i64 t, .int .i64 p, .int .i64 s]] w fun z w' => z = .returned (.agg #[.int .i64 T, .int .i64 P, .int .i64 S, .int .i64 A, .int .i64 C, .int .i64 M, .int .i64 K]) /\ Below w.heap.size w w' := by
 obtain ⟨rfl, rfl, rfl, rfl, rfl, rfl, rfl⟩ := h
 cases hr : rightB t p s
 ·obtain ⟨e1, e2, e3, e4, e5, e6, e7⟩ := lay_no hr
  rw [e1, e2, e3, e4, e5, e6, e7]
  exact plLayout_no t p s hr w
 ·obtain ⟨e1, e2, e3, e4, e5, e6, e7⟩ := lay_yes hr
  rw [e1, e2, e3, e4, e5, e6, e7]
  have hn := (rightB_iff t p s).1 hr
  obtain ⟨a, rfl⟩ : ∃ a : Nat, t = a := ⟨t.toNat, by omega⟩
  obtain ⟨b, rfl⟩ : ∃ b : Nat, p = b := ⟨p.toNat, by omega⟩
  exact plLayout_yes a b s hr w
theorem lay_is (t p s : Int) : ∃ T P S A C M K : Int, Laid7 t p s T P S A C M K /\ (0 <= T /\ T <= 16) /\ (0 <= P /\ P <= 1024) /\ (0 <= A /\ A <= 94) /\ (0 <= C /\ C <= 6238) /\ (0 <= M /\ M <= 6256) /\ (0 <= K /\ K <= 17) /\ M % 8 = 0 :=
 ⟨_, _, _, _, _, _, _, ⟨rfl, rfl, rfl, rfl, rfl, rfl, rfl⟩, lay_bounds t p s⟩

theorem plWordsOf_c (T P S A C M K : Int) (m0 : 0 <= M) (m1 : M <= 10000) (k0 : 0 <= K) (k1 : K <= 17) (w : World) :
  Calls Try.prog 75 #[.agg #[.int .i64 T, .int .i64 P, .int .i64 S, .int .i64 A, .int .i64 C, .int .i64 M, .int .i64 K]] w fun z w' => z = .returned (.int .i64 (M + K * 120)) /\ Below w.heap.size w w' := by
 have _ : 53 = 53 := rfl
 go_enter Try.func75, Try.ntmps75
 go_wp2
 go_ret
 exact ⟨ret_int rfl, Bnew (B0 _) _⟩

theorem plCells_c (t p s : Int) (w : World) :
  Calls Try.prog 62 #[.agg #[.int .i64 t, .int .i64 p, .int .i64 s]] w fun z w' => z = .returned (.int .i64 (lC t p s)) /\ Below w.heap.size w w' := by
 obtain ⟨T, P, S, A, C, M, K, HL, ⟨t0, t1⟩, ⟨p0, p1⟩, ⟨a0, a1⟩, ⟨c0, c1⟩, ⟨m0, m1⟩, ⟨k0, k1⟩, -⟩ := lay_is t p s
 have HC := hidp HL.hC
 have hfd : ∀ w : World, (Instr.field 92 (.agg #[.int .i64 T, .int .i64 P, .int .i64 S, .int .i64 A, .int .i64 C, .int .i64 M, .int .i64 K]) 2).run Try.prog w = .ok (.int .i64 C) w := fun _ => by kernel_rfl
 go_enter Try.func62, Try.ntmps62
 go_wp2_with fail
 refine (plLayout_c t p s T P S A C M K HL _).mono ?_
 rintro e w1 ⟨rfl, hb1⟩
 go_wp2
 go_ret
 exact ⟨by rw [HC.out]; rfl, Bgo (Bnew (B0 _) _) hb1⟩
theorem plWords_c (t p s : Int) (w : World) :
  Calls Try.prog 53 #[.agg #[.int .i64 t, .int .i64 p, .int .i64 s]] w fun z w' => z = .returned (.int .i64 (lW t p s)) /\ Below w.heap.size w w' := by
 obtain ⟨T, P, S, A, C, M, K, HL, ⟨t0, t1⟩, ⟨p0, p1⟩, ⟨a0, a1⟩, ⟨c0, c1⟩, ⟨m0, m1⟩, ⟨k0, k1⟩, -⟩ := lay_is t p s
 have HC := hidp (show lW t p s = M + K * 120 by unfold lW; rw [HL.hM, HL.hK])
 go_enter Try.func53, Try.ntmps53
 go_wp2_with fail
 refine (plLayout_c t p s T P S A C M K HL _).mono ?_
 rintro e w1 ⟨rfl, hb1⟩
 go_wp2_with fail
 refine (plWordsOf_c T P S A C M K m0 (by omega) k0 k1 _).mono ?_
 rintro e w2 ⟨rfl, hb2⟩
 go_wp2
 go_ret
 exact ⟨by rw [HC.out]; rfl, Bgo (Bgo (Bnew (B0 _) _) hb1) hb2⟩

theorem plMaker_c (t p s m b : Int) (w : World) :
  Calls Try.prog 56 #[.agg #[.int .i64 t, .int .i64 p, .int .i64 s], .int .i64 m, .int .i64 b] w fun z w' => z = .returned (.int .i64 (makerI t p s m b)) /\ Below w.heap.size w w' := by
 obtain ⟨T, P, S, A, C, M, K, HL, ⟨t0, t1⟩, ⟨p0, p1⟩, ⟨a0, a1⟩, ⟨c0, c1⟩, ⟨m0, m1⟩, ⟨k0, k1⟩, -⟩ := lay_is t p s
 have HR := hidp (show makerI t p s m b = nthI (nthI M K 120 m) 120 1 b by unfold makerI; rw [HL.hM, HL.hK])
 have hB := nth_bounds (f := M) (n := K) (e := 120) (i := m) (B := 6256) (by omega) (by omega) (by omega) (by omega)
 obtain ⟨y, hy⟩ : ∃ y, nthI M K 120 m = y := ⟨_, rfl⟩
 rw [hy] at hB HR
 have HY := hidp hy
 clear hy
 have hfd : ∀ w : World, (Instr.field 92 (.agg #[.int .i64 T, .int .i64 P, .int .i64 S, .int .i64 A, .int .i64 C, .int .i64 M, .int .i64 K]) 0).run Try.prog w = .ok (.agg #[.int .i64 T, .int .i64 P, .int .i64 S]) w := fun _ => by kernel_rfl
 have hfd2 : ∀ w : World, (Instr.field 23 (.agg #[.int .i64 T, .int .i64 P, .int .i64 S]) 0).run Try.prog w = .ok (.int .i64 T) w := fun _ => by kernel_rfl
 go_enter Try.func56, Try.ntmps56
 go_wp2_with fail
 refine (plLayout_c t p s T P S A C M K HL _).mono ?_
 rintro e w1 ⟨rfl, hb1⟩
 go_wp2_with fail
 refine (plNth_c M K 120 m (by omega) (by omega) (by omega) (by omega) (by omega) (by omega) _).mono ?_
 rintro e w2 ⟨rfl, rfl⟩
 rw [HY.out]
 go_wp2_with fail
 refine (plNth_c y 120 1 b (by omega) (by omega) (by omega) (by omega) (by omega) (by omega) _).mono ?_
 rintro e w3 ⟨rfl, rfl⟩
 go_wp2
 go_ret
 refine ⟨by rw [HR.out]; rfl, ?_⟩
 all_goals exact blz

theorem plWord_c (t p s i : Int) (w : World) :
  Calls Try.prog 59 #[.agg #[.int .i64 t, .int .i64 p, .int .i64 s], .int .i64 i] w fun z w' => z = .returned (.int .i64 (wordI t p s i)) /\ Below w.heap.size w w' := by
 obtain ⟨T, P, S, A, C, M, K, HL, ⟨t0, t1⟩, ⟨p0, p1⟩, ⟨a0, a1⟩, ⟨c0, c1⟩, ⟨m0, m1⟩, ⟨k0, k1⟩, -⟩ := lay_is t p s
 have HR := hidp (show wordI t p s i = nthI 16 C 1 i by unfold wordI; rw [HL.hC])
 have hfd : ∀ w : World, (Instr.field 92 (.agg #[.int .i64 T, .int .i64 P, .int .i64 S, .int .i64 A, .int .i64 C, .int .i64 M, .int .i64 K]) 2).run Try.prog w = .ok (.int .i64 C) w := fun _ => by kernel_rfl
 go_enter Try.func59, Try.ntmps59
 go_wp2_with fail
 refine (plLayout_c t p s T P S A C M K HL _).mono ?_
 rintro e w1 ⟨rfl, hb1⟩
 go_wp2_with fail
 refine (plNth_c 16 C 1 i (by omega) (by omega) (by omega) (by omega) (by omega) (by omega) _).mono ?_
 rintro e w2 ⟨rfl, rfl⟩
 go_wp2
 go_ret
 exact ⟨by rw [HR.out]; rfl, Bgo (Bnew (B0 _) _) hb1⟩
theorem makerI_bounds (t p s m b : Int) : -1 <= makerI t p s m b /\ makerI t p s m b <= 8416 := by
 have h := lay_bounds t p s
 have h1 := nth_bounds (f := lM t p s) (n := lK t p s) (e := 120) (i := m) (B := 6256) (by omega) (by omega) (by omega) (by omega)
 have h2 := nth_bounds (f := nthI (lM t p s) (lK t p s) 120 m) (n := 120) (e := 1) (i := b) (B := 8296) (by omega) (by omega) (by omega) (by omega)
 unfold makerI
 omega
theorem plNote_c (t p s m : Int) (w : World) :
  Calls Try.prog 25 #[.agg #[.int .i64 t, .int .i64 p, .int .i64 s], .int .i64 m] w fun z w' => z = .returned (.int .i64 (noteI t p s m)) /\ Below w.heap.size w w' := by
 have HR := hidp (show noteI t p s m = makerI t p s m 16 from rfl)
 go_enter Try.func25, Try.ntmps25
 go_wp2_with fail
 refine (plMaker_c t p s m 16 _).mono ?_
 rintro e w1 ⟨rfl, hb1⟩
 go_wp2
 go_ret
 exact ⟨by rw [HR.out]; rfl, Bgo (Bnew (B0 _) _) hb1⟩

theorem plLog_c (t p s m i : Int) (w : World) :
  Calls Try.prog 57 #[.agg #[.int .i64 t, .int .i64 p, .int .i64 s], .int .i64 m, .int .i64 i] w fun z w' => z = .returned (.int .i64 (logI t p s m i)) /\ Below w.heap.size w w' := by
 obtain ⟨y, hy⟩ : ∃ y, makerI t p s m 24 = y := ⟨_, rfl⟩
 have hB := makerI_bounds t p s m 24
 have HR := hidp (show logI t p s m i = nthI y 96 1 i by unfold logI; rw [hy])
 rw [hy] at hB
 have HY := hidp hy
 clear hy
 go_enter Try.func57, Try.ntmps57
 go_wp2_with fail
 refine (plMaker_c t p s m 24 _).mono ?_
 rintro e w1 ⟨rfl, hb1⟩
 rw [HY.out]
 go_wp2_with fail
 refine (plNth_c y 96 1 i (by omega) (by omega) (by omega) (by omega) (by omega) (by omega) _).mono ?_
 rintro e w2 ⟨rfl, rfl⟩
 go_wp2
 go_ret
 exact ⟨by rw [HR.out]; rfl, Bgo (Bnew (B0 _) _) hb1⟩
end
section
theorem part_call {q r : Int} (h : r < 16) : partT q r = (4, q, r) := by unfold partT; rw [if_pos h]
theorem part_note {q : Int} : partT q 16 = (5, q, 0) := by unfold partT; rw [if_neg (by omega), if_pos rfl]
theorem part_log {q r : Int} (h : 24 <= r) : partT q r = (6, q, r - 24) := by unfold partT; rw [if_neg (by omega), if_neg (by omega), if_pos h]
end
section
theorem w64 {x : Int} (h : -9223372036854775808 <= x) (h' : x <= 9223372036854775807) : IntKind.i64.wrap x = x := by
 simp only [IntKind.wrap, IntKind.bits, IntKind.signed]; simp; omega

theorem r7Bin_c (k : Int) (w : World) :
  Calls Try.prog 48 #[.int .i64 k] w fun z w' => z = .returned (.int .i64 (nthI 2 11 1 k)) /\ w = w' := by
 by_cases c0 : k < 0
 ·have HN := hidp (nth_off (f := 2) (n := 11) (e := 1) (.inr (.inl c0)))
  go_enter Try.func48, Try.ntmps48
  go_wp2
  go_ret
  exact ⟨by rw [HN.out]; rfl, rfl⟩
 ·by_cases c1 : 11 <= k
  ·have HN := hidp (nth_off (f := 2) (n := 11) (e := 1) (.inr (.inr c1)))
   go_enter Try.func48, Try.ntmps48
   go_wp2
   go_ret
   exact ⟨by rw [HN.out]; rfl, rfl⟩
  ·have HN := hidp (show nthI 2 11 1 k = 2 + k by rw [nth_on (by omega) (by omega) (by omega)]; omega)
   go_enter Try.func48, Try.ntmps48
   go_wp2
   go_ret
   exact ⟨by rw [HN.out]; rfl, rfl⟩

theorem r7Cells_c (t p s : Int) (w : World) :
  Calls Try.prog 16 #[.agg #[.int .i64 t, .int .i64 p, .int .i64 s]] w fun z w' => z = .returned (.int .i64 (lC t p s)) /\ Below w.heap.size w w' := by
 have hc := Held.new w 23 #[.int .i64 t, .int .i64 p, .int .i64 s]
 cases hr : rightB t p s
 ·have HR := hidp hr
  have HN := hidp (lay_no hr).hC
  clear hr
  go_enter Try.func16, Try.ntmps16
  go_wp2_with fail
  refine (r4Right_c t p s _).mono ?_
  rintro e w1 ⟨rfl, hb1⟩
  rw [HR.out]
  have hc1 := hc.keep hb1
  obtain ⟨x0, x1, x2⟩ := hc1.three
  go_wp2
  go_ret
  exact ⟨by rw [HN.out]; rfl, Bgo (Bnew (B0 _) _) hb1⟩
 ·have HR := hidp hr
  have HN := hidp (lay_yes hr).hC
  have hn := (rightB_iff t p s).1 hr
  have t0 : 1 <= t := by omega
  have t1 : t <= 16 := by omega
  have p0 : 4 <= p := by omega
  have p1 : p <= 1024 := by omega
  clear hn
  clear hr
  go_enter Try.func16, Try.ntmps16
  go_wp2_with fail
  refine (r4Right_c t p s _).mono ?_
  rintro e w1 ⟨rfl, hb1⟩
  rw [HR.out]
  have hc1 := hc.keep hb1
  obtain ⟨x0, x1, x2⟩ := hc1.three
  go_wp2
  go_ret
  exact ⟨by rw [HN.out]; rfl, Bgo (Bnew (B0 _) _) hb1⟩

theorem r7First_c (t p s m : Int) (hr : rightB t p s = true) (hm : lM t p s = m) (w : World) :
  Calls Try.prog 68 #[.agg #[.int .i64 t, .int .i64 p, .int .i64 s]] w fun z w' => z = .returned (.int .i64 m) /\ Below w.heap.size w w' := by
 obtain ⟨f1, f2, f3, f4, f5, f6⟩ := first_far hr
 have hb := lay_bounds t p s
 rw [hm] at f1 f2 f3 f5 hb
 obtain ⟨y, hy⟩ : ∃ y, lC t p s = y := ⟨_, rfl⟩
 rw [hy] at f2 f3 f4 hb
 have y1 : y <= 6238 := by omega
 have HY := hidp hy
 clear hb hm hy hr f6
 go_enter Try.func68, Try.ntmps68
 go_wp2_with fail
 refine (r7Cells_c t p s _).mono ?_
 rintro e w1 ⟨rfl, hb1⟩
 rw [HY.out]
 have HB := hidp hb1
 clear hb1
 go_wp2
 go_loopw [3] (fun i wr => ∃ n : Int, i = .int .i64 n /\ 16 + y <= n /\ n <= m /\ wr = w1) (fun i _ => (m - intOf i).toNat)
 case atStart => exact ⟨16 + y, rfl, by omega, by omega, rfl⟩
 case round =>
  obtain ⟨n, rfl, n0, n1, rfl⟩ := hrel
  by_cases he : n % 8 = 0
  ·obtain rfl : n = m := by omega
   have g : n.tmod 8 = 0 := by rw [Int.tmod_eq_emod_of_nonneg (by omega)]; exact he
   go_wp2
   go_ret
   exact ⟨by first | rfl | trivial, Bgo (Bnew (B0 _) _) HB.out⟩
  ·have g : (n % 8 == 0) = false := by simpa using he
   go_wp2
   refine ⟨⟨n + 1, rfl, by omega, by omega, trivial⟩, ?_⟩
   simp [intOf]
   omega

set_option maxHeartbeats 1600000 in
theorem r7Words_c (t p s : Int) (w : World) :
  Calls Try.prog 45 #[.agg #[.int .i64 t, .int .i64 p, .int .i64 s]] w fun z w' => z = .returned (.int .i64 (lW t p s)) /\ Below w.heap.size w w' := by
 have hc := Held.new w 23 #[.int .i64 t, .int .i64 p, .int .i64 s]
 cases hr : rightB t p s
 ·have HR := hidp hr
  have HN := hidp (show lW t p s = 0 by unfold lW; rw [(lay_no hr).hM, (lay_no hr).hK]; rfl)
  clear hr
  go_enter Try.func45, Try.ntmps45
  go_wp2_with fail
  refine (r4Right_c t p s _).mono ?_
  rintro e w1 ⟨rfl, hb1⟩
  rw [HR.out]
  have hc1 := hc.keep hb1
  obtain ⟨x0, x1, x2⟩ := hc1.three
  go_wp2
  go_ret
  exact ⟨by rw [HN.out]; rfl, Bgo (Bnew (B0 _) _) hb1⟩
 ·have HR := hidp hr
  obtain ⟨m, hm⟩ : ∃ m, lM t p s = m := ⟨_, rfl⟩
  have hb := (lay_bounds t p s)
  rw [hm] at hb
  have m0 : 0 <= m := by omega
  have m1 : m <= 6256 := by omega
  have HN := hidp (show lW t p s = m + 120 * (t + 1) by unfold lW; rw [hm, (lay_yes hr).hK]; omega)
  have HM := hidp hm
  have hn := (rightB_iff t p s).1 hr
  have t0 : 1 <= t := by omega
  have t1 : t <= 16 := by omega
  have p0 : 4 <= p := by omega
  have p1 : p <= 1024 := by omega
  clear hn
  clear hr hb hm
  go_enter Try.func45, Try.ntmps45
  go_wp2_with fail
  refine (r4Right_c t p s _).mono ?_
  rintro e w1 ⟨rfl, hb1⟩
  rw [HR.out]
  have hc1 := hc.keep hb1
  obtain ⟨x0, x1, x2⟩ := hc1.three
  go_wp2_with fail
  go_region_held3 (fun w' => w'.cell? ⟨w.heap.size, 0, none⟩ = some (.int .i64 t) /\ w'.cell? ⟨w.heap.size, 1, none⟩ = some (.int .i64 p) /\ w'.cell? ⟨w.heap.size, 2, none⟩ = some (.int .i64 s))
   (first | exact ⟨x0, x1, x2⟩ | go_keep | exact ⟨hst _ _ (by assumption), hst _ _ (by assumption), hst _ _ (by assumption)⟩)
   (first
    | (go_at_call 68; refine (r7First_c t p s m HR.out HM.out _).mono ?_; rintro e w' ⟨rfl, hbl⟩; have hst := cells_stay hbl))
  go_wp2
  go_ret
  have W1 := w64 (x := t + 1) (by omega) (by omega)
  have W2 := w64 (x := 120 * (t + 1)) (by omega) (by omega)
  have W3 := w64 (x := m + 120 * (t + 1)) (by omega) (by omega)
  refine ⟨by rw [HN.out]; exact ret_int (by rw [W1, W2, W3]), ?_⟩
  all_goals exact blz

set_option maxHeartbeats 1600000 in
theorem r7Page_c (t p s q b : Int) (b0 : 0 <= b) (b1 : b < 6) (w : World) :
  Calls Try.prog 73 #[.agg #[.int .i64 t, .int .i64 p, .int .i64 s], .int .i64 q, .int .i64 b] w fun z w' => z = .returned (.int .i64 (pageI t p s q b)) /\ Below w.heap.size w w' := by
 have hc := Held.new w 23 #[.int .i64 t, .int .i64 p, .int .i64 s]
 cases hr : rightB t p s
 ·have HR := hidp hr
  have HN := hidp (show pageI t p s q b = -1 from pcell_no (by intro h; rw [h.1] at hr; cases hr))
  clear hr
  go_enter Try.func73, Try.ntmps73
  go_wp2_with fail
  refine (r4Right_c t p s _).mono ?_
  rintro e w1 ⟨rfl, hb1⟩
  rw [HR.out]
  have hc1 := hc.keep hb1
  obtain ⟨x0, x1, x2⟩ := hc1.three
  go_wp2
  go_ret
  refine ⟨by rw [HN.out]; rfl, ?_⟩
  all_goals exact blz
 ·have HR := hidp hr
  have hn := (rightB_iff t p s).1 hr
  have t0 : 1 <= t := by omega
  have t1 : t <= 16 := by omega
  have p0 : 4 <= p := by omega
  have p1 : p <= 1024 := by omega
  clear hn
  by_cases c0 : q < 0
  ·clear hr
   have HN := hidp (show pageI t p s q b = -1 from pcell_no (by intro h; omega))
   go_enter Try.func73, Try.ntmps73
   go_wp2_with fail
   refine (r4Right_c t p s _).mono ?_
   rintro e w1 ⟨rfl, hb1⟩
   rw [HR.out]
   have hc1 := hc.keep hb1
   obtain ⟨x0, x1, x2⟩ := hc1.three
   go_wp2
   go_ret
   refine ⟨by rw [HN.out]; rfl, ?_⟩
   all_goals exact blz
  ·skip
   by_cases c1 : p <= q
   ·clear hr
    have HN := hidp (show pageI t p s q b = -1 from pcell_no (by intro h; omega))
    go_enter Try.func73, Try.ntmps73
    go_wp2_with fail
    refine (r4Right_c t p s _).mono ?_
    rintro e w1 ⟨rfl, hb1⟩
    rw [HR.out]
    have hc1 := hc.keep hb1
    obtain ⟨x0, x1, x2⟩ := hc1.three
    go_wp2
    go_ret
    refine ⟨by rw [HN.out]; rfl, ?_⟩
    all_goals exact blz
   ·skip
    have HN := hidp (show pageI t p s q b = 30 + 4 * t + 6 * q + b from pcell_yes hr (by omega) (by omega) b0 b1)
    clear hr
    go_enter Try.func73, Try.ntmps73
    go_wp2_with fail
    refine (r4Right_c t p s _).mono ?_
    rintro e w1 ⟨rfl, hb1⟩
    rw [HR.out]
    have hc1 := hc.keep hb1
    obtain ⟨x0, x1, x2⟩ := hc1.three
    go_wp2
    go_ret
    refine ⟨by rw [HN.out]; rfl, ?_⟩
    all_goals exact blz

theorem r7Info_c (t p s q : Int) (w : World) :
  Calls Try.prog 51 #[.agg #[.int .i64 t, .int .i64 p, .int .i64 s], .int .i64 q] w fun z w' => z = .returned (.int .i64 (pageI t p s q 0)) /\ Below w.heap.size w w' := by
 go_enter Try.func51, Try.ntmps51
 go_wp2_with fail
 refine (r7Page_c t p s q 0 (by omega) (by omega) _).mono ?_
 rintro e w1 ⟨rfl, hb1⟩
 go_wp2
 go_ret
 exact ⟨by first | rfl | trivial, Bgo (Bnew (B0 _) _) hb1⟩

theorem r7Foot_c (t p s q : Int) (w : World) :
  Calls Try.prog 52 #[.agg #[.int .i64 t, .int .i64 p, .int .i64 s], .int .i64 q] w fun z w' => z = .returned (.int .i64 (pageI t p s q 1)) /\ Below w.heap.size w w' := by
 go_enter Try.func52, Try.ntmps52
 go_wp2_with fail
 refine (r7Page_c t p s q 1 (by omega) (by omega) _).mono ?_
 rintro e w1 ⟨rfl, hb1⟩
 go_wp2
 go_ret
 exact ⟨by first | rfl | trivial, Bgo (Bnew (B0 _) _) hb1⟩

set_option maxHeartbeats 1600000 in
theorem r7Maker_c (t p s i : Int) (w : World) :
  Calls Try.prog 46 #[.agg #[.int .i64 t, .int .i64 p, .int .i64 s], .int .i64 i] w fun z w' => z = .returned (.int .i64 (nthI (lM t p s) (lK t p s) 120 i)) /\ Below w.heap.size w w' := by
 have hc := Held.new w 23 #[.int .i64 t, .int .i64 p, .int .i64 s]
 cases hr : rightB t p s
 ·have HR := hidp hr
  have HN := hidp (show nthI (lM t p s) (lK t p s) 120 i = -1 from maker_no (by intro h; rw [h.1] at hr; cases hr))
  clear hr
  go_enter Try.func46, Try.ntmps46
  go_wp2_with fail
  refine (r4Right_c t p s _).mono ?_
  rintro e w1 ⟨rfl, hb1⟩
  rw [HR.out]
  have hc1 := hc.keep hb1
  obtain ⟨x0, x1, x2⟩ := hc1.three
  go_wp2
  go_ret
  refine ⟨by rw [HN.out]; rfl, ?_⟩
  all_goals exact blz
 ·have HR := hidp hr
  have hn := (rightB_iff t p s).1 hr
  have t0 : 1 <= t := by omega
  have t1 : t <= 16 := by omega
  have p0 : 4 <= p := by omega
  have p1 : p <= 1024 := by omega
  clear hn
  by_cases c0 : i < 0
  ·clear hr
   have HN := hidp (show nthI (lM t p s) (lK t p s) 120 i = -1 from maker_no (by intro h; omega))
   go_enter Try.func46, Try.ntmps46
   go_wp2_with fail
   refine (r4Right_c t p s _).mono ?_
   rintro e w1 ⟨rfl, hb1⟩
   rw [HR.out]
   have hc1 := hc.keep hb1
   obtain ⟨x0, x1, x2⟩ := hc1.three
   go_wp2
   go_ret
   refine ⟨by rw [HN.out]; rfl, ?_⟩
   all_goals exact blz
  ·skip
   by_cases c1 : t < i
   ·clear hr
    have HN := hidp (show nthI (lM t p s) (lK t p s) 120 i = -1 from maker_no (by intro h; omega))
    go_enter Try.func46, Try.ntmps46
    go_wp2_with fail
    refine (r4Right_c t p s _).mono ?_
    rintro e w1 ⟨rfl, hb1⟩
    rw [HR.out]
    have hc1 := hc.keep hb1
    obtain ⟨x0, x1, x2⟩ := hc1.three
    go_wp2
    go_ret
    refine ⟨by rw [HN.out]; rfl, ?_⟩
    all_goals exact blz
   ·skip
    obtain ⟨m, hm⟩ : ∃ m, lM t p s = m := ⟨_, rfl⟩
    have HM := hidp hm
    have hb := (lay_bounds t p s)
    rw [hm] at hb
    have m0 : 0 <= m := by omega
    have m1 : m <= 6256 := by omega
    clear hb
    have HN := hidp (show nthI (lM t p s) (lK t p s) 120 i = m + 120 * i from (maker_yes hr (by omega) (by omega)).trans (by rw [hm]; omega))
    clear hr
    go_enter Try.func46, Try.ntmps46
    go_wp2_with fail
    refine (r4Right_c t p s _).mono ?_
    rintro e w1 ⟨rfl, hb1⟩
    rw [HR.out]
    have hc1 := hc.keep hb1
    obtain ⟨x0, x1, x2⟩ := hc1.three
    go_wp2_with fail
    refine (r7First_c t p s m HR.out HM.out _).mono ?_
    rintro e w2 ⟨rfl, hb2⟩
    go_wp2
    go_ret
    refine ⟨by rw [HN.out]; rfl, ?_⟩
    all_goals exact blz

theorem r7Note_c (t p s i : Int) (w : World) :
  Calls Try.prog 31 #[.agg #[.int .i64 t, .int .i64 p, .int .i64 s], .int .i64 i] w fun z w' => z = .returned (.int .i64 (noteI t p s i)) /\ Below w.heap.size w w' := by
 obtain ⟨y, hy⟩ : ∃ y, nthI (lM t p s) (lK t p s) 120 i = y := ⟨_, rfl⟩
 have HY := hidp hy
 by_cases h : rightB t p s = true /\ 0 <= i /\ i <= t
 ·obtain ⟨hr, i0, i1⟩ := h
  have h1 := maker_yes hr i0 i1
  have hb := lay_bounds t p s
  have hn := (rightB_iff t p s).1 hr
  rw [hy] at h1
  have y0 : 0 <= y := by omega
  have y1 : y <= 20000 := by omega
  have HN := hidp (show noteI t p s i = y + 16 by unfold noteI; rw [makerI_yes hr i0 i1 (by omega) (by omega)]; omega)
  clear hy hb hn hr h1
  go_enter Try.func31, Try.ntmps31
  go_wp2_with fail
  refine (r7Maker_c t p s i _).mono ?_
  rintro e w1 ⟨rfl, hb1⟩
  rw [HY.out]
  go_wp2
  go_ret
  exact ⟨by rw [HN.out]; rfl, Bgo (Bnew (B0 _) _) hb1⟩
 ·have hn := maker_no h
  rw [hy] at hn
  subst hn
  have HN := hidp (show noteI t p s i = -1 from makerI_no h)
  clear hy h
  go_enter Try.func31, Try.ntmps31
  go_wp2_with fail
  refine (r7Maker_c t p s i _).mono ?_
  rintro e w1 ⟨rfl, hb1⟩
  rw [HY.out]
  go_wp2
  go_ret
  exact ⟨by rw [HN.out]; rfl, Bgo (Bnew (B0 _) _) hb1⟩
theorem r7Log_c (t p s i j : Int) (w : World) :
  Calls Try.prog 33 #[.agg #[.int .i64 t, .int .i64 p, .int .i64 s], .int .i64 i, .int .i64 j] w fun z w' => z = .returned (.int .i64 (logI t p s i j)) /\ Below w.heap.size w w' := by
 obtain ⟨y, hy⟩ : ∃ y, nthI (lM t p s) (lK t p s) 120 i = y := ⟨_, rfl⟩
 have HY := hidp hy
 by_cases h : rightB t p s = true /\ 0 <= i /\ i <= t
 ·obtain ⟨hr, i0, i1⟩ := h
  have h1 := maker_yes hr i0 i1
  have hb := lay_bounds t p s
  have hn := (rightB_iff t p s).1 hr
  rw [hy] at h1
  have y0 : 0 <= y := by omega
  have y1 : y <= 20000 := by omega
  by_cases c0 : j < 0
  ·have HN := hidp (show logI t p s i j = -1 from log_no (by omega))
   clear hy hb hn hr h1
   go_enter Try.func33, Try.ntmps33
   go_wp2_with fail
   refine (r7Maker_c t p s i _).mono ?_
   rintro e w1 ⟨rfl, hb1⟩
   rw [HY.out]
   go_wp2
   go_ret
   exact ⟨by rw [HN.out]; rfl, Bgo (Bnew (B0 _) _) hb1⟩
  ·by_cases c1 : 95 < j
   ·have HN := hidp (show logI t p s i j = -1 from log_no (by omega))
    clear hy hb hn hr h1
    go_enter Try.func33, Try.ntmps33
    go_wp2_with fail
    refine (r7Maker_c t p s i _).mono ?_
    rintro e w1 ⟨rfl, hb1⟩
    rw [HY.out]
    go_wp2
    go_ret
    exact ⟨by rw [HN.out]; rfl, Bgo (Bnew (B0 _) _) hb1⟩
   ·have HN := hidp (show logI t p s i j = y + 24 + j by rw [log_yes hr i0 i1 (by omega) (by omega)]; omega)
    clear hy hb hn hr h1
    go_enter Try.func33, Try.ntmps33
    go_wp2_with fail
    refine (r7Maker_c t p s i _).mono ?_
    rintro e w1 ⟨rfl, hb1⟩
    rw [HY.out]
    go_wp2
    go_ret
    exact ⟨by rw [HN.out]; rfl, Bgo (Bnew (B0 _) _) hb1⟩
 ·have hn := maker_no h
  rw [hy] at hn
  subst hn
  have HN := hidp (show logI t p s i j = -1 from log_no (fun h' => h ⟨h'.1, h'.2.1, h'.2.2.1⟩))
  clear hy h
  go_enter Try.func33, Try.ntmps33
  go_wp2_with fail
  refine (r7Maker_c t p s i _).mono ?_
  rintro e w1 ⟨rfl, hb1⟩
  rw [HY.out]
  go_wp2
  go_ret
  exact ⟨by rw [HN.out]; rfl, Bgo (Bnew (B0 _) _) hb1⟩
end
end Go.Proofs.Ytmjkljdnioochaa

namespace Go.Proofs.Ytmjkljdnioochaa
open Go.ChangeShapes Go.WideShapes Go.ChangeAt Go.RowKit
set_option linter.unusedVariables false
section
def RowV (w : World) (v : Value) (xs : List Value) : Prop :=
 xs.length <= maxLen /\ ((v = .slice none 0 0 /\ xs = []) \/ ∃ g o c, v = .slice (some ⟨g, o, none⟩) xs.length c /\ g < w.heap.size /\ ∀ i u, xs[i]? = some u -> w.cell? ⟨g, o + i, none⟩ = some u)

theorem RowV.below {w w' : World} {v : Value} {xs : List Value} (h : RowV w v xs) (hb : Below w.heap.size w w') : RowV w' v xs := by
 refine ⟨h.1, ?_⟩
 rcases h.2 with h | ⟨g, o, c, hv, hg, hc⟩
 ·exact .inl h
 ·exact .inr ⟨g, o, c, hv, Nat.lt_of_lt_of_le hg hb.size, fun i u hu => (hb.cell (p := ⟨g, o + i, none⟩) hg).trans (hc i u hu)⟩
end
end Go.Proofs.Ytmjkljdnioochaa

namespace Go.Proofs.Ytmjkljdnioochaa
open Go.ChangeShapes Go.WideShapes Go.ChangeAt Go.RowKit Go.Maps
set_option linter.unusedVariables false
section
structure OwnAll (w : World) (base b k : Nat) (e : Nat -> TypeId) (sz : Nat -> Nat) (v : Nat -> Value) (n : Nat -> Nat) (xs : Nat -> List Value) : Prop where
 own : ∀ i, i < k -> w.ownsRow base (e i) (sz i) (v i) (n i) (xs i)
 apart : ∀ i j g, i < k -> j < k -> (v i).ownBlock = some g -> (v j).ownBlock = some g -> i = j
 notb : ∀ i, i < k -> (v i).ownBlock ≠ some b
def OwnF (b k : Nat) (v : Nat -> Value) : Nat -> Prop := fun g => g = b \/ ∃ i, i < k /\ (v i).ownBlock = some g

section
variable {w w' : World} {base b k : Nat} {e : Nat -> TypeId} {sz : Nat -> Nat} {v : Nat -> Value} {n : Nat -> Nat} {xs : Nat -> List Value}
theorem own_kept {e : TypeId} {size n : Nat} {v : Value} {xs : List Value} (h : w.ownsRow base e size v n xs) (hb : ∀ g, v.ownBlock = some g -> w'.heap[g]? = w.heap[g]?) : w'.ownsRow base e size v n xs := by
 refine ⟨h.1, ?_⟩
 rcases h.2 with h2 | ⟨g, cap, cur, rfl, hbg, hg, hr⟩
 ·exact .inl h2
 ·exact .inr ⟨g, cap, cur, rfl, hbg, (hb g rfl).trans hg, hr⟩
end
end
end Go.Proofs.Ytmjkljdnioochaa

namespace Go.Proofs.Ytmjkljdnioochaa
open Go.ChangeShapes Go.WideShapes Go.ChangeAt Go.RowKit
set_option linter.unusedVariables false
set_option maxRecDepth 100000
section
structure Vst where
 rd : List Nat
 wr : List (Nat × Nat)
 lost : Bool
 miss : Nat
def pos : List (Nat × Nat) -> Nat -> Option Nat
 | [], _ => none
 | p :: r, i => if p.1 = i then some 0 else (pos r i).map (· + 1)
def cellW (l : List (Nat × Nat)) (k : Nat) : Nat := (l.getD k (0, 0)).1
def atW (l : List (Nat × Nat)) (k : Nat) : Nat := (l.getD k (0, 0)).2


structure VOk (n : Nat) (s : Vst) : Prop where
 rdLt : ∀ i ∈ s.rd, i < n
 rdNd : s.rd.Nodup
 wrLt : ∀ p ∈ s.wr, p.1 < n /\ p.2 < 2 ^ 32
 wrNd : ∀ k, k < s.wr.length -> pos s.wr (cellW s.wr k) = some k
 mLt : s.lost = true -> s.miss < n
end
end Go.Proofs.Ytmjkljdnioochaa

namespace Go.Proofs.Ytmjkljdnioochaa
open Go.ChangeShapes Go.WideShapes Go.ChangeAt Go.RowKit Go.Maps
set_option linter.unusedVariables false
set_option maxRecDepth 100000
section
def kInt (c : Int) : Lit := .int .i64 c
structure SetIs (D : DataW Unit) (l : List Nat) : Prop where
 tidy : Tidy D
 has : ∀ c : Int, Maps.has D (kInt c) = decide (0 <= c /\ c.toNat ∈ l)
structure NumIs (D : DataW Unit) (q : IntKind) (K : Nat -> Option Nat) : Prop where
 tidy : Tidy D
 has : ∀ c : Int, Maps.has D (kInt c) = (decide (0 <= c) && (K c.toNat).isSome)
 at_ : ∀ (i v : Nat), K i = some v -> D.atKey (kInt (i : Int)) (.lit (.int q 0)) = .lit (.int q (v : Int))
end
end Go.Proofs.Ytmjkljdnioochaa

namespace Go.Proofs.Ytmjkljdnioochaa
open Go.ChangeShapes Go.WideShapes Go.ChangeAt Go.RowKit Go.Maps
set_option linter.unusedVariables false
set_option maxRecDepth 100000
set_option linter.unusedSimpArgs false
section
structure VGeo where
 m1 : Nat
 m2 : Nat
 sb : Nat
 fv : Value
 v : Nat -> Value
def vSz (i : Nat) : Nat := if i = 0 then 1 else 2
def prVs (l : List (Nat × Nat)) : List Value := l.flatMap fun p => [Value.int .i64 (p.1 : Int), .int .u32 (p.2 : Int)]
def valF (f : Nat -> Nat) : Nat -> Value := fun i => .int .u32 ((f i : Nat) : Int)
theorem prVs_len (l : List (Nat × Nat)) : (prVs l).length = l.length * 2 := by
 induction l with
 | nil => rfl
 | cons p r ih => unfold prVs at ih ⊢; simp [ih]; omega
theorem prVs_snoc (l : List (Nat × Nat)) (p : Nat × Nat) : prVs (l ++ [p]) = prVs l ++ [.int .i64 (p.1 : Int), .int .u32 (p.2 : Int)] := by unfold prVs; simp
theorem prVs_at : ∀ (l : List (Nat × Nat)) (k : Nat), k < l.length -> (prVs l)[k * 2]? = some (.int .i64 (cellW l k : Int)) /\ (prVs l)[k * 2 + 1]? = some (.int .u32 (atW l k : Int))
 | [], k, h => by simp at h
 | p :: r, 0, h => by simp [prVs, cellW, atW]
 | p :: r, k + 1, h => by
  have ih := prVs_at r k (by simpa using h)
  have e : prVs (p :: r) = .int .i64 (p.1 : Int) :: .int .u32 (p.2 : Int) :: prVs r := by simp [prVs]
  rw [e]
  have e1 : (k + 1) * 2 = k * 2 + 1 + 1 := by omega
  have e2 : (k + 1) * 2 + 1 = k * 2 + 1 + 1 + 1 := by omega
  rw [e2, e1, List.getElem?_cons_succ, List.getElem?_cons_succ, List.getElem?_cons_succ, List.getElem?_cons_succ]
  simpa [cellW, atW] using ih
def vHead (n : Nat) (o : VGeo) (s : Vst) : Array Value := #[.int .i64 (n : Int), o.fv, o.v 0, .map (some o.m1), o.v 1, .map (some o.m2), .bool s.lost, .int .i64 (s.miss : Int)]
end
end Go.Proofs.Ytmjkljdnioochaa

namespace Go.Proofs.Ytmjkljdnioochaa
open Go.ChangeShapes Go.WideShapes Go.ChangeAt Go.RowKit
set_option linter.unusedVariables false
set_option maxRecDepth 100000
set_option linter.unusedSimpArgs false
section
structure PairV where
 cell : Int
 val : Nat
instance : Inhabited PairV := ⟨⟨0, 0⟩⟩
structure PairV.Ok (a : PairV) : Prop where
 cell : (Lit.int .i64 a.cell).wf = true
 val : a.val < 2 ^ 32
def PairV.cells (a : PairV) : List Value := [.int .i64 a.cell, .int .u32 (a.val : Int)]
def PairVs (w : World) (A : Option Addr) (l : List PairV) : Prop :=
 ∀ i a, l[i]? = some a -> ∃ ad, A = some ad /\ ad.block < w.heap.size /\ ∀ j u, a.cells[j]? = some u -> w.cell? (ad.add (i * 2 + j)) = some u
theorem PairVs.below {w w' : World} {A : Option Addr} {l : List PairV} (h : PairVs w A l) (hb : Below w.heap.size w w') : PairVs w' A l := fun i a ha => by
 obtain ⟨ad, e, h1, h2⟩ := h i a ha
 exact ⟨ad, e, Nat.lt_of_lt_of_le h1 hb.size, fun j u hu => (hb.cell (p := ad.add (i * 2 + j)) (by rw [block_of_add]; exact h1)).trans (h2 j u hu)⟩
def PairVAt (w : World) (p : Addr) (a : PairV) : Prop :=
 w.cell? p = some (.int .i64 a.cell) /\ w.cell? ⟨p.block, p.off + 1, none⟩ = some (.int .u32 (a.val : Int))
theorem pairV_off (p : Addr) (j : Nat) (h : j ≠ 0) : p.add j = ⟨p.block, p.off + j, none⟩ := by unfold Addr.add; rw [if_neg h]
theorem PairVs.cells {w : World} {ad : Addr} {l : List PairV} (h : PairVs w (some ad) l) {i : Nat} {a : PairV} (ha : l[i]? = some a) : PairVAt w (ad.add (i * 2)) a := by
 obtain ⟨ad', e, _, h2⟩ := h i a ha
 injection e with e
 subst e
 have h10 := h2 0 _ rfl
 have h11 := h2 1 _ rfl
 rw [<- add_of_add] at h10 h11
 rw [pairV_off _ _ (by omega)] at h11
 exact ⟨h10, h11⟩

section
variable {H : Type} {enc : TypeId × Value -> H} {w : World} {base : Nat} {sp : Nat -> Bool} {held : Bool}
theorem pairV_cells {fuel : Nat} {cs : List Value} {x : DataW H × List MemPlace} (h : DataW.trod enc Try.prog w base sp held fuel 56 cs = some x) : ∃ a : PairV, a.Ok /\ cs = a.cells := by
 obtain ⟨xs, n, _, _, hl, hxl, hf⟩ := DataW.trod_struct Try.underlying56 h
 have hc : Try.prog.cellsOf 56 = 2 := by kernel_rfl
 have s_int : Try.prog.cellsOf 3 = 1 := by kernel_rfl
 have s_uint32 : Try.prog.cellsOf 25 = 1 := by kernel_rfl
 rw [hc] at hl
 match cs, hl, xs, hxl with
 | [v0, v1], _, [y0, y1], _ =>
  have g0 := hf 0 _ rfl
  have g1 := hf 1 _ rfl
  simp [s_int, s_uint32] at g0 g1
  obtain ⟨a0, e0, _, w0⟩ := DataW.trod_int Try.underlying3 g0
  obtain ⟨a1, e1, _, w1⟩ := DataW.trod_int Try.underlying25 g1
  simp at e0 e1
  subst e0 e1
  obtain ⟨n1, rfl, h1⟩ := u32_nat w1
  exact ⟨⟨a0, n1⟩, ⟨w0, h1⟩, rfl⟩
end
end
end Go.Proofs.Ytmjkljdnioochaa

namespace Go.Proofs.Ytmjkljdnioochaa
open Go.ChangeShapes Go.WideShapes Go.ChangeAt Go.RowKit Go.Maps
set_option linter.unusedVariables false
set_option maxRecDepth 100000
set_option linter.unusedSimpArgs false
section
def valVs (l : List Nat) : List Value := l.map fun (n : Nat) => Value.int .u32 (n : Int)
end
end Go.Proofs.Ytmjkljdnioochaa

namespace Go.Proofs.Ytmjkljdnioochaa
open Go.ChangeShapes Go.WideShapes Go.ChangeAt Go.RowKit
set_option linter.unusedVariables false
set_option maxRecDepth 100000
set_option linter.unusedSimpArgs false
section
theorem valVs_len (l : List Nat) : (valVs l).length = l.length := by unfold valVs; simp
theorem valVs_at (l : List Nat) (k : Nat) (h : k < l.length) : (valVs l)[k]? = some (.int .u32 ((l.getD k 0 : Nat) : Int)) := by
 unfold valVs
 simp [List.getD, List.getElem?_eq_getElem h]
theorem Vals_same (xs : List Nat) (v u : Value) (w : World) (h1 : RowV w v (valVs xs)) (h2 : RowV w u (valVs xs)) :
  Calls Try.prog 17 #[v, u] w fun e w' => e = .returned (.bool true) /\ ∃ n, w' = w.drewN n := by
 have hm := h1.1
 unfold maxLen at hm
 rw [valVs_len] at hm
 by_cases hx : xs = []
 ·subst hx
  have hv : ∃ A c, v = .slice A 0 c := by
   rcases h1.2 with ⟨rfl, _⟩ | ⟨g, o, c, rfl, _⟩
   ·exact ⟨_, _, rfl⟩
   ·exact ⟨_, _, rfl⟩
  have hu : ∃ A c, u = .slice A 0 c := by
   rcases h2.2 with ⟨rfl, _⟩ | ⟨g, o, c, rfl, _⟩
   ·exact ⟨_, _, rfl⟩
   ·exact ⟨_, _, rfl⟩
  obtain ⟨A, c, rfl⟩ := hv
  obtain ⟨B, d, rfl⟩ := hu
  clear h1 h2
  go_enter Try.func17, Try.ntmps17
  go_wp2
  refine wp_loop_rounds 1 ?_
  rw [rounds_succ]
  go_wp2
  go_ret
  exact ⟨rfl, 0, rfl⟩
 ·rcases h1.2 with ⟨_, h⟩ | ⟨g, o, c, rfl, _, hc⟩
  ·exact absurd (by simpa [valVs] using h) hx
  rcases h2.2 with ⟨_, h⟩ | ⟨g2, o2, c2, rfl, _, hc2⟩
  ·exact absurd (by simpa [valVs] using h) hx
  have HC : Hid (∀ k, k < xs.length -> w.cell? ⟨g, o + k, none⟩ = some (.int .u32 ((xs.getD k 0 : Nat) : Int))) := hidp (fun k hk => hc k _ (valVs_at xs k hk))
  have HC2 : Hid (∀ k, k < xs.length -> w.cell? ⟨g2, o2 + k, none⟩ = some (.int .u32 ((xs.getD k 0 : Nat) : Int))) := hidp (fun k hk => hc2 k _ (valVs_at xs k hk))
  clear hc hc2 h1 h2 hx
  rw [valVs_len]
  generalize hn : xs.length = n at *
  clear hn
  go_enter Try.func17, Try.ntmps17
  go_wp2
  go_loopw [5] (fun i wr => ∃ k m : Nat, k <= n /\ i = .int .i64 k /\ wr = w.drewN m) (fun i _ => n - (intOf i).toNat)
  case atStart => exact ⟨0, 0, by omega, rfl, rfl⟩
  case round =>
   obtain ⟨k, m, hk, rfl, rfl⟩ := hrel
   by_cases hlt : k < n
   ·have c1 := HC.out k hlt
    have c2 := HC2.out k hlt
    generalize xs.getD k 0 = x at *
    go_wp2
    go_quiet (fail)
    go_wp2
    go_roundw
    case rel => exact ⟨k + 1, _, by omega, by go_num, rfl⟩
    case measure => simp [intOf]; omega
   ·go_wp2
    go_ret
    exact ⟨rfl, m, rfl⟩

def RowP (w : World) (v : Value) (l : List (Nat × Nat)) : Prop :=
 l.length <= maxLen /\ ((v = .slice none 0 0 /\ l = []) \/ ∃ g c, v = .slice (some ⟨g, 0, none⟩) l.length c /\ g < w.heap.size /\ ∀ i u, (prVs l)[i]? = some u -> w.cell? ⟨g, i, none⟩ = some u)
theorem RowP.below {w w' : World} {v : Value} {l : List (Nat × Nat)} (h : RowP w v l) (hb : Below w.heap.size w w') : RowP w' v l := by
 refine ⟨h.1, ?_⟩
 rcases h.2 with h | ⟨g, c, hv, hg, hc⟩
 ·exact .inl h
 ·exact .inr ⟨g, c, hv, Nat.lt_of_lt_of_le hg hb.size, fun i u hu => (hb.cell (p := ⟨g, i, none⟩) hg).trans (hc i u hu)⟩
theorem RowP.of_own {w : World} {base : Nat} {e : TypeId} {v : Value} {l : List (Nat × Nat)} (h : w.ownsRow base e 2 v l.length (prVs l)) : RowP w v l := by
 rcases h.2 with ⟨rfl, hn⟩ | ⟨g, cap, cur, rfl, hb, hg, hnc, hcm, hcs, htake⟩
 ·exact ⟨by omega, .inl ⟨rfl, List.eq_nil_of_length_eq_zero hn⟩⟩
 ·have hl := h.lt g rfl
  refine ⟨by omega, .inr ⟨g, cap, rfl, hl.2, fun i u hu => ?_⟩⟩
  have hi : i < (prVs l).length := by
   rcases Nat.lt_or_ge i (prVs l).length with h3 | h3
   ·exact h3
   ·rw [List.getElem?_eq_none h3] at hu; cases hu
  rw [prVs_len] at hi
  rw [h.cellAt i hi, hu]

theorem Pairs_same (l : List (Nat × Nat)) (v u : Value) (w : World) (h1 : RowP w v l) (h2 : RowP w u l) :
  Calls Try.prog 12 #[v, u] w fun e w' => e = .returned (.bool true) /\ ∃ n, w' = w.drewN n := by
 have hm := h1.1
 unfold maxLen at hm
 by_cases hx : l = []
 ·subst hx
  have hv : ∃ A c, v = .slice A 0 c := by
   rcases h1.2 with ⟨rfl, _⟩ | ⟨g, c, rfl, _⟩
   ·exact ⟨_, _, rfl⟩
   ·exact ⟨_, _, rfl⟩
  have hu : ∃ A c, u = .slice A 0 c := by
   rcases h2.2 with ⟨rfl, _⟩ | ⟨g, c, rfl, _⟩
   ·exact ⟨_, _, rfl⟩
   ·exact ⟨_, _, rfl⟩
  obtain ⟨A, c, rfl⟩ := hv
  obtain ⟨B, d, rfl⟩ := hu
  clear h1 h2
  go_enter Try.func12, Try.ntmps12
  go_wp2
  refine wp_loop_rounds 1 ?_
  rw [rounds_succ]
  go_wp2
  go_ret
  exact ⟨rfl, 0, rfl⟩
 ·rcases h1.2 with ⟨_, h⟩ | ⟨g, c, rfl, _, hc⟩
  ·exact absurd h hx
  rcases h2.2 with ⟨_, h⟩ | ⟨g2, c2, rfl, _, hc2⟩
  ·exact absurd h hx
  have HC : Hid (∀ k, k < l.length -> w.cell? ⟨g, k * 2, none⟩ = some (.int .i64 (cellW l k : Int)) /\ w.cell? ⟨g, k * 2 + 1, none⟩ = some (.int .u32 (atW l k : Int))) := hidp (fun k hk => ⟨hc _ _ (prVs_at l k hk).1, hc _ _ (prVs_at l k hk).2⟩)
  have HC2 : Hid (∀ k, k < l.length -> w.cell? ⟨g2, k * 2, none⟩ = some (.int .i64 (cellW l k : Int)) /\ w.cell? ⟨g2, k * 2 + 1, none⟩ = some (.int .u32 (atW l k : Int))) := hidp (fun k hk => ⟨hc2 _ _ (prVs_at l k hk).1, hc2 _ _ (prVs_at l k hk).2⟩)
  clear hc hc2 h1 h2 hx
  generalize hn : l.length = n at *
  clear hn
  go_enter Try.func12, Try.ntmps12
  go_wp2
  go_loopw [5] (fun i wr => ∃ k m : Nat, k <= n /\ i = .int .i64 k /\ wr = w.drewN m) (fun i _ => n - (intOf i).toNat)
  case atStart => exact ⟨0, 0, by omega, rfl, rfl⟩
  case round =>
   obtain ⟨k, m, hk, rfl, rfl⟩ := hrel
   by_cases hlt : k < n
   ·obtain ⟨c1, d1⟩ := HC.out k hlt
    obtain ⟨c2, d2⟩ := HC2.out k hlt
    generalize cellW l k = x at *
    generalize atW l k = y at *
    go_wp2
    go_quiet (fail)
    go_wp2
    go_roundw
    case rel => exact ⟨k + 1, _, by omega, by go_num, rfl⟩
    case measure => simp [intOf]; omega
   ·go_wp2
    go_ret
    exact ⟨rfl, m, rfl⟩
end
end Go.Proofs.Ytmjkljdnioochaa
