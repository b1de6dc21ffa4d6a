/-
  The automaton as functions: which answers may be (allowM), what is held then (appL, appR). No program is named here.
-/
import Derived.Test.YtedakmhffjhfnaaDoorA01
import Derived.Deep.DeepFit
import Derived.Deep.Slices
import Derived.Lib.SmallJoins
namespace Go.Proofs.YtedakmhffjhfnaaDoor
open Go.ChangeShapes Go.WideShapes Go.ChangeAt Go.RowKit Go.Maps
set_option linter.unusedVariables false
set_option linter.unusedSimpArgs false
section
def rdI (t p s z : Int) : Int := if needB t p s z = true then (if classB s z = true then (sizeN s (classK s z) : Int) else needI t p s z * (pageN t p s : Int)) else 0
def endI (t p s : Int) : Int := (pageN t p s : Int) * (p + 1)
def justB (n err out aux : Int) : Bool := decide (err = n /\ out = 0 /\ aux = 0)
def givesB (err out aux o a : Int) : Bool := decide (err = 0 /\ out = o /\ aux = a)
def auxB (err aux n : Int) : Bool := decide (err ≠ 0 \/ aux = n)
def insB (g e a z : Int) : Bool := decide (1 <= z /\ g <= a /\ a <= e /\ z <= e - a)
def mAt (L : List (Int × Int)) (a : Int) : Int := match L.findIdx? (fun x => decide (x.1 = a)) with | some i => (i : Int) | none => -1
def hitB (x : Int × Int) (a z : Int) : Bool := decide (x.1 < a + z) && decide (a < x.1 + x.2)
def freeM (g e : Int) (L : List (Int × Int)) (a z own : Int) : Bool := insB g e a z && (List.range L.length).all fun i => decide ((i : Int) = own) || !(hitB (L.getD i (0, 0)) a z)
def madeM (t p s : Int) (L : List (Int × Int)) (size err out aux own : Int) : Bool :=
 if needB t p s size = true then justB 3 err out aux || (decide (err = 0) && freeM (pageN t p s : Int) (endI t p s) L out (rdI t p s size) own) else justB 2 err out aux
def heldM (R : Nat -> Int) (a : Int) : Bool := (List.range 8).any fun k => decide (R k = a)
def rootM (t p s : Int) (L : List (Int × Int)) (R : Nat -> Int) (k a b err out aux : Int) : Bool :=
 if a < 0 \/ 7 < a then justB 5 err out aux
 else if k = 4 then madeM t p s L b err out aux (-1) && auxB err aux (R a.toNat)
 else if k = 5 then (if b ≠ 0 /\ mAt L b < 0 then justB 4 err out aux else givesB err out aux b (R a.toNat))
 else givesB err out aux (R a.toNat) 0
def sizeAt (L : List (Int × Int)) (i : Int) : Int := (L.getD i.toNat (0, 0)).2
def allowM (t p s : Int) (L : List (Int × Int)) (R : Nat -> Int) (k a b err out aux : Int) : Bool :=
 if opB k a b = false then justB 1 err out aux
 else if (k = 2 \/ k = 3 \/ k = 7) /\ mAt L a < 0 then justB 4 err out aux
 else if k = 1 then madeM t p s L a err out aux (-1) && auxB err aux (rdI t p s a)
 else if k = 2 then (if heldM R a = true then justB 6 err out aux else givesB err out aux (sizeAt L (mAt L a)) 0)
 else if k = 3 then madeM t p s L b err out aux (if out = a then mAt L a else -1) && auxB err aux (rdI t p s b)
 else if k = 7 then givesB err out aux (sizeAt L (mAt L a)) 0
 else if k = 8 then decide (err = 0 /\ 0 <= out /\ out <= p /\ aux = (L.length : Int))
 else if k = 9 then (if a < 0 \/ 8 < a then justB 7 err out aux else decide (err = 0 /\ 0 <= out /\ out <= 4 /\ aux = 0))
 else rootM t p s L R k a b err out aux
def appL (t p s : Int) (L : List (Int × Int)) (k a b err out aux : Int) : List (Int × Int) :=
 if err ≠ 0 then L
 else if k = 1 then addB L (out, aux)
 else if k = 2 then L.eraseIdx (mAt L a).toNat
 else if k = 3 then addB (L.eraseIdx (mAt L a).toNat) (out, aux)
 else if k = 4 then addB L (out, rdI t p s b)
 else L
def appR (R : Nat -> Int) (k a b err out : Int) : Nat -> Int :=
 if err ≠ 0 then R
 else if k = 3 then fun j => if R j = a then out else R j
 else if k = 4 then updF R a.toNat out
 else if k = 5 then updF R a.toNat b
 else R

theorem classK_lim (s z : Int) : 0 <= classK s z /\ classK s z <= 8 := by
 unfold classK
 cases h : classOf s z with
 | none => simp
 | some k => have := (class_some h).2.1; simp; omega
theorem mAt_hit {L : List (Int × Int)} {a z : Int} {i : Nat} (hx : L[i]? = some (a, z)) (h : ∀ j, j < i -> ∀ y, L[j]? = some y -> y.1 ≠ a) : mAt L a = (i : Int) := by
 unfold mAt
 have hi : i < L.length := (List.getElem?_eq_some_iff.1 hx).1
 have e : L.findIdx? (fun x => decide (x.1 = a)) = some i := by
  rw [List.findIdx?_eq_some_iff_getElem]
  refine ⟨hi, ?_, fun j hj => ?_⟩
  ·have := (List.getElem?_eq_some_iff.1 hx).2
   rw [this]
   simp
  ·have h1 := h j hj _ (List.getElem?_eq_getElem (by omega))
   simpa using h1
 rw [e]
theorem mAt_none {L : List (Int × Int)} {a : Int} (h : ∀ j, j < L.length -> ∀ y, L[j]? = some y -> y.1 ≠ a) : mAt L a = -1 := by
 unfold mAt
 have e : L.findIdx? (fun x => decide (x.1 = a)) = none := by
  rw [List.findIdx?_eq_none_iff]
  intro x hx
  obtain ⟨j, hj, rfl⟩ := List.getElem_of_mem hx
  have h1 := h j hj _ (List.getElem?_eq_getElem hj)
  simpa using h1
 rw [e]
theorem mAt_cases (L : List (Int × Int)) (a : Int) : (mAt L a = -1 /\ ∀ x ∈ L, x.1 ≠ a) \/ ∃ (i : Nat) (z : Int), mAt L a = (i : Int) /\ L[i]? = some (a, z) /\ i < L.length := by
 cases h : L.findIdx? (fun x => decide (x.1 = a)) with
 | none =>
  refine .inl ⟨by unfold mAt; rw [h], fun x hx => ?_⟩
  have := List.findIdx?_eq_none_iff.1 h x hx
  simpa using this
 | some i =>
  obtain ⟨hi, h1, _⟩ := List.findIdx?_eq_some_iff_getElem.1 h
  refine .inr ⟨i, L[i].2, by unfold mAt; rw [h], ?_, hi⟩
  rw [List.getElem?_eq_getElem hi]
  have h1 : L[i].1 = a := by simpa using h1
  rw [<- h1]
theorem freeM_ins {g e : Int} {L : List (Int × Int)} {a z own : Int} (h : freeM g e L a z own = true) : insB g e a z = true := by
 unfold freeM at h
 simp only [Bool.and_eq_true] at h
 exact h.1
theorem freeM_no {g e : Int} {L : List (Int × Int)} {a z own : Int} (h : insB g e a z = false) : freeM g e L a z own = false := by unfold freeM; rw [h, Bool.false_and]
theorem freeM_all {g e : Int} {L : List (Int × Int)} {a z own : Int} (h : insB g e a z = true) (hj : ∀ (j : Nat) (x : Int × Int), L[j]? = some x -> (j : Int) = own \/ hitB x a z = false) : freeM g e L a z own = true := by
 unfold freeM
 rw [h, Bool.true_and, List.all_eq_true]
 intro j hm
 have hl := List.mem_range.1 hm
 have e : L.getD j (0, 0) = L[j] := by simp [List.getD, List.getElem?_eq_getElem hl]
 rw [e]
 rcases hj j _ (List.getElem?_eq_getElem hl) with h1 | h1
 ·simp [h1]
 ·simp [h1]
theorem freeM_hit {g e : Int} {L : List (Int × Int)} {a z own : Int} {j : Nat} {x : Int × Int} (hx : L[j]? = some x) (h1 : (j : Int) ≠ own) (h2 : hitB x a z = true) : freeM g e L a z own = false := by
 have hl : j < L.length := (List.getElem?_eq_some_iff.1 hx).1
 cases h : freeM g e L a z own with
 | false => rfl
 | true =>
  exfalso
  unfold freeM at h
  simp only [Bool.and_eq_true, List.all_eq_true] at h
  have h3 := h.2 j (List.mem_range.2 hl)
  have e : L.getD j (0, 0) = x := by simp [List.getD, hx]
  rw [e, h2] at h3
  simp [h1] at h3
theorem heldM_yes {R : Nat -> Int} {a : Int} {k : Nat} (hk : k < 8) (h : R k = a) : heldM R a = true := by
 unfold heldM
 rw [List.any_eq_true]
 exact ⟨k, List.mem_range.2 hk, by simpa using h⟩
theorem heldM_no {R : Nat -> Int} {a : Int} (h : ∀ k, k < 8 -> R k ≠ a) : heldM R a = false := by
 cases e : heldM R a with
 | false => rfl
 | true =>
  exfalso
  unfold heldM at e
  obtain ⟨k, hk, h1⟩ := List.any_eq_true.1 e
  exact h k (List.mem_range.1 hk) (by simpa using h1)
def ofStep (g e : Int) (s : Option (List (Int × Int))) (b : Int × Int) : Option (List (Int × Int)) := match s with | none => none | some L => if freeM g e L b.1 b.2 (-1) = true then some (addB L b) else none
def ofL (g e : Int) (l : List (Int × Int)) : Option (List (Int × Int)) := l.foldl (ofStep g e) (some [])
theorem ofL_snoc (g e : Int) (l : List (Int × Int)) (b : Int × Int) : ofL g e (l ++ [b]) = ofStep g e (ofL g e l) b := by
 unfold ofL
 rw [List.foldl_append]
 rfl
theorem ofStep_none (g e : Int) : ∀ l : List (Int × Int), l.foldl (ofStep g e) none = none
 | [] => rfl
 | b :: l => by rw [List.foldl_cons]; exact ofStep_none g e l
theorem ofL_fail {g e : Int} {l : List (Int × Int)} {i : Nat} (h : ofL g e (l.take i) = none) : ofL g e l = none := by
 have e1 : l = l.take i ++ l.drop i := (List.take_append_drop i l).symm
 rw [e1]
 unfold ofL at h ⊢
 rw [List.foldl_append, h]
 exact ofStep_none g e _
def namedM (L : List (Int × Int)) (R : Nat -> Int) : Bool := (List.range 8).all fun k => decide (R k = 0) || !(decide (mAt L (R k) < 0))
theorem namedM_yes {L : List (Int × Int)} {R : Nat -> Int} (h : ∀ k, k < 8 -> R k = 0 \/ 0 <= mAt L (R k)) : namedM L R = true := by
 unfold namedM
 rw [List.all_eq_true]
 intro k hk
 rcases h k (List.mem_range.1 hk) with h1 | h1
 ·simp [h1]
 ·simp; omega
theorem namedM_no {L : List (Int × Int)} {R : Nat -> Int} {k : Nat} (hk : k < 8) (h0 : R k ≠ 0) (h : mAt L (R k) < 0) : namedM L R = false := by
 cases e : namedM L R with
 | false => rfl
 | true =>
  exfalso
  unfold namedM at e
  have h1 := List.all_eq_true.1 e k (List.mem_range.2 hk)
  simp [h0] at h1
  omega
def InsM (g e : Int) (L : List (Int × Int)) : Prop := ∀ x ∈ L, insB g e x.1 x.2 = true
theorem mem_addTo {b x : Int × Int} : ∀ (L : List (Int × Int)) (s : List (Int × Int) × Bool), x ∈ (L.foldl (addStep b) s).1 -> x ∈ s.1 \/ x ∈ L \/ x = b
 | [], s, h => .inl h
 | y :: L, s, h => by
  rw [List.foldl_cons] at h
  rcases mem_addTo L _ h with h1 | h1 | h1
  ·unfold addStep at h1
   split at h1
   ·simp at h1
    rcases h1 with h1 | h1 | h1
    ·exact .inl h1
    ·exact .inr (.inr h1)
    ·exact .inr (.inl (by rw [h1]; exact List.mem_cons_self ..))
   ·simp at h1
    rcases h1 with h1 | h1
    ·exact .inl h1
    ·exact .inr (.inl (by rw [h1]; exact List.mem_cons_self ..))
  ·exact .inr (.inl (List.mem_cons_of_mem _ h1))
  ·exact .inr (.inr h1)
theorem mem_addB {b x : Int × Int} {L : List (Int × Int)} (h : x ∈ addB L b) : x ∈ L \/ x = b := by
 unfold addB at h
 split at h
 ·rcases mem_addTo L ([], false) h with h1 | h1 | h1
  ·cases h1
  ·exact .inl h1
  ·exact .inr h1
 ·rcases List.mem_append.1 h with h | h
  ·rcases mem_addTo L ([], false) h with h1 | h1 | h1
   ·cases h1
   ·exact .inl h1
   ·exact .inr h1
  ·exact .inr (by simpa using h)
theorem InsM.add {g e : Int} {L : List (Int × Int)} {b : Int × Int} (h : InsM g e L) (hb : insB g e b.1 b.2 = true) : InsM g e (addB L b) := fun x hx => by
 rcases mem_addB hx with h1 | rfl
 ·exact h x h1
 ·exact hb
theorem addB_len (L : List (Int × Int)) (b : Int × Int) : (addB L b).length <= L.length + 1 := by
 have := addTo_len b L ([], false)
 unfold addB addTo
 split
 ·simp at this ⊢; exact this
 ·rename_i h
  rw [List.length_append]
  have h0 : ∀ (L a : List (Int × Int)), (L.foldl (addStep b) (a, true)).2 = true := by
   intro L
   induction L with
   | nil => intro a; rfl
   | cons x L ih2 =>
    intro a
    rw [List.foldl_cons, show addStep b (a, true) x = (a ++ [x], true) from by unfold addStep; rw [if_neg (by simp)]]
    exact ih2 _
  have h1 : ∀ (L : List (Int × Int)) (s : List (Int × Int) × Bool), (L.foldl (addStep b) s).2 = false -> (L.foldl (addStep b) s).1.length = s.1.length + L.length := by
   intro L
   induction L with
   | nil => intro s _; simp
   | cons x L ih =>
    intro s hs
    rw [List.foldl_cons] at hs ⊢
    by_cases hc : s.2 = false /\ b.1 < x.1
    ·exfalso
     rw [show addStep b s x = (s.1 ++ [b] ++ [x], true) from by unfold addStep; rw [if_pos hc], h0] at hs
     cases hs
    ·rw [show addStep b s x = (s.1 ++ [x], s.2) from by unfold addStep; rw [if_neg hc]] at hs ⊢
     rw [ih _ hs]
     simp
     omega
  have h2 := h1 L ([], false) (by simpa [addTo] using h)
  rw [h2]
  simp
end
end Go.Proofs.YtedakmhffjhfnaaDoor

namespace Go.Proofs.YtedakmhffjhfnaaDoor
open Go.ChangeShapes Go.WideShapes Go.ChangeAt Go.RowKit
set_option maxRecDepth 100000
set_option linter.unusedVariables false
set_option linter.unusedSimpArgs false
section
def sizesTo (s : Int) (k : Nat) : List Int := (List.range k).map fun (j : Nat) => ((sizeN s (j : Int) : Nat) : Int)
theorem sizesTo_succ (s : Int) (k : Nat) : sizesTo s (k + 1) = sizesTo s k ++ [((sizeN s (k : Int) : Nat) : Int)] := by unfold sizesTo; rw [List.range_succ, List.map_append]; rfl
theorem sizesTo_at (s : Int) {j k : Nat} (h : j < k) : (sizesTo s k)[j]? = some ((sizeN s (j : Int) : Nat) : Int) := by unfold sizesTo; simp [h]
theorem r5Table_no (s : Int) (hp : pageS s = 0) (w : World) :
  Calls Tryd.prog 75 #[.int .i64 s] w fun e w' => ∃ g, e = .returned (.slice (some ⟨g, 0, none⟩) 0 0) /\ g < w'.heap.size /\ Below w.heap.size w w' := by
 have HE := hidp (show sizeN s ((0 : Nat) : Int) = 0 from sizeN_noshift (pageS_zero.1 hp))
 clear hp
 go_enter Tryd.func75, Tryd.ntmps75
 go_wp2
 refine wp_loop_rounds 1 ?_
 rw [rounds_succ]
 go_wp2_with fail
 refine (r5Size_c s (0 : Nat) (by omega) (by omega) _).mono ?_
 rintro e w1 ⟨rfl, hb1⟩
 rw [HE.out]
 have hz := hb1.size
 go_wp2
 go_ret
 exact ⟨_, rfl, by simp at hz; omega, Bgo (Bnew (B0 _) _) hb1⟩

def sizesV (s : Int) (k : Nat) : List Value := (sizesTo s k).map (Value.int .i64)
theorem sizesV_succ (s : Int) (k : Nat) : sizesV s (k + 1) = sizesV s k ++ [.int .i64 ((sizeN s (k : Int) : Nat) : Int)] := by unfold sizesV; rw [sizesTo_succ, List.map_append]; rfl
set_option maxHeartbeats 1600000 in
theorem r5Table_yes (s : Int) (hp : ¬ pageS s = 0) (w : World) :
    Calls Tryd.prog 75 #[.int .i64 s] w fun e w' => ∃ u, e = .returned u /\ w'.ownsRow w.heap.size 2 1 u 9 (sizesV s 9) /\ Below w.heap.size w w' := by
  obtain ⟨i0, hi, hz0, hz1, hz2⟩ := info_parts longInfo
  have hs : 10 <= s /\ s <= 20 := by
    have := mt pageS_zero.2 hp
    omega
  have HPos := hidp (fun (k : Nat) (hk : k < 9) => size_pos hs hk)
  clear hp hs
  go_enter Tryd.func75, Tryd.ntmps75
  go_wp2
  go_loopw [3, 4] (fun u i wr => ∃ k : Nat, k <= 9 /\ i = .int .i64 k /\ wr.ownsRow w.heap.size 2 1 u k (sizesV s k) /\ Below w.heap.size w wr) (fun _ i _ => 9 - (intOf i).toNat)
  case atStart => exact ⟨0, by omega, rfl, World.ownsRow_lit (base := w.heap.size) (e := 2) (size := 1) w #[] 0 (Nat.le_refl _) (by unfold maxLen; omega) rfl, (Below.refl _ _).alloc (Nat.le_refl _) _⟩
  case round =>
    obtain ⟨k, hk, rfl, hown, hb⟩ := hrel
    by_cases hlt : k < 9
    · have hpos := HPos.out k hlt
      obtain ⟨z, hz⟩ : ∃ z, sizeN s (k : Int) = z := ⟨_, rfl⟩
      rw [hz] at hpos
      have HZ := hidp hz
      clear hz
      have HZ2 := hidp (sizesV_succ s k)
      rw [HZ.out] at HZ2
      go_wp2_with fail
      refine (r5Size_c s k (by omega) (by omega) _).mono ?_
      rintro e w1 ⟨rfl, hb1⟩
      rw [HZ.out]
      go_wp2_with fail
      refine (r5Size_c s k (by omega) (by omega) _).mono ?_
      rintro e w2 ⟨rfl, hb2⟩
      rw [HZ.out]
      have hown2 := own_below (own_below hown hb1) hb2
      have hbb := Bgo (Bgo hb hb1) hb2
      clear hown hb hb1 hb2
      go_wp2_with (first
        | (at_builtin
           refine wpList_append_own _ rfl _ _ 101 rfl w.heap.size 2 i0 (.int .i64 0) 1 8 Tryd.underlying101 hi hz0 hz1 hz2 rfl (by decide) _ _ _ rfl (hown2.alloc _) ⟨_, 0, none⟩ 1 1 [.int .i64 (z : Int)] rfl rfl ?c1 ?c2 ?c3 ?c4 ?c5 ?_
           case c1 => intro j y hy; rcases j with _ | j; (· simp at hy; subst hy; simp [Addr.add]); (· simp at hy)
           case c2 => simp [Value.oneCell']
           case c3 => unfold maxLen; omega
           case c4 => omega
           case c5 => have := hbb.size; simp; omega
           intro u1 w3 hown3 hgrow _))
      have hb3 := (hbb.alloc hbb.size _).grown hgrow (by have := hbb.size; simp; omega) (fun j hj => (hown2.lt j hj).1)
      go_roundw
      case rel => exact ⟨k + 1, by omega, by go_num, by rw [HZ2.out]; exact hown3, hb3⟩
      case measure => simp [intOf]; omega
    · obtain rfl : k = 9 := by omega
      go_wp2
      go_ret
      exact ⟨_, rfl, hown, hb⟩

set_option maxHeartbeats 1600000 in
theorem clOf_c (s z : Int) (w : World) (hT : SlotsLaid w) :
  Calls Tryd.prog 34 #[.int .i64 s, .int .i64 z] w fun e w' => e = .returned (.tuple #[.int .i64 (classK s z), .bool (classB s z)]) /\ Below w.heap.size w w' := by
 by_cases h1 : z < 1
 ·have HK := hidp (classK_no (class_small (s := s) h1))
  go_enter Tryd.func34, Tryd.ntmps34
  go_wp2
  go_ret2
  exact ⟨by rw [HK.out.1, HK.out.2]; rfl, B0 _⟩
 ·have HT := hidp hT
  clear hT
  go_enter Tryd.func34, Tryd.ntmps34
  go_wp2
  go_loopw [9] (fun i wr => ∃ k : Nat, k <= 9 /\ i = .int .i64 k /\ (∀ j : Nat, j < k -> (sizeN s (j : Int) : Int) < z) /\ Below w.heap.size w wr) (fun i _ => 9 - (intOf i).toNat)
  case atStart => exact ⟨0, by omega, rfl, fun j hj => absurd hj (by omega), B0 _⟩
  case round =>
   obtain ⟨k, hk, rfl, hall, hb⟩ := hrel
   have HA := hidp hall
   have HB := hidp hb
   clear hall hb
   by_cases hlt : k < 9
   ·obtain ⟨x, hx⟩ : ∃ x, sizeN s (k : Int) = x := ⟨_, rfl⟩
    have HX := hidp hx
    clear hx
    by_cases hge : z <= (x : Int)
    ·have HK := hidp (classK_yes (class_yes (s := s) (z := z) (by omega) hlt (by rw [HX.out]; exact hge) HA.out))
     go_wp2_with fail
     refine (clSize_c s k (by omega) (by omega) _ (HT.out.below HB.out)).mono ?_
     rintro e w2 ⟨rfl, hb2⟩
     rw [HX.out]
     go_wp2
     go_ret2
     exact ⟨by rw [HK.out.1, HK.out.2]; rfl, Bgo HB.out hb2⟩
    ·go_wp2_with fail
     refine (clSize_c s k (by omega) (by omega) _ (HT.out.below HB.out)).mono ?_
     rintro e w2 ⟨rfl, hb2⟩
     rw [HX.out]
     go_wp2
     go_roundw
     case rel =>
      refine ⟨k + 1, by omega, by go_num, fun j hj => ?_, Bgo HB.out hb2⟩
      rcases Nat.lt_or_ge j k with h | h
      ·exact HA.out j h
      ·obtain rfl : j = k := by omega
       rw [HX.out]; omega
     case measure => simp [intOf]; omega
   ·obtain rfl : k = 9 := by omega
    have HK := hidp (classK_no (class_none (s := s) (z := z) HA.out))
    go_wp2
    go_ret2
    exact ⟨by rw [HK.out.1, HK.out.2]; rfl, HB.out⟩

set_option maxHeartbeats 1600000 in
theorem r5Of_c (s z : Int) (w : World) :
  Calls Tryd.prog 39 #[.int .i64 s, .int .i64 z] w fun e w' => e = .returned (.tuple #[.int .i64 (classK s z), .bool (classB s z)]) /\ Below w.heap.size w w' := by
 by_cases hp : pageS s = 0
 ·have HK := hidp (classK_no (class_noshift (s := s) (z := z) (pageS_zero.1 hp)))
  have HP := hidp hp
  clear hp
  go_enter Tryd.func39, Tryd.ntmps39
  go_wp2_with fail
  refine (r5Table_no s HP.out _).mono ?_
  rintro e w1 ⟨g, rfl, hg, hb1⟩
  go_wp2
  refine wp_loop_rounds 1 ?_
  rw [rounds_succ]
  go_wp2
  go_ret2
  exact ⟨by rw [HK.out.1, HK.out.2]; rfl, hb1⟩
 ·by_cases h1 : z < 1
  ·have HK := hidp (classK_no (class_small (s := s) h1))
   have HP := hidp hp
   clear hp
   go_enter Tryd.func39, Tryd.ntmps39
   go_wp2_with fail
   refine (r5Table_yes s HP.out _).mono ?_
   rintro e w1 ⟨u, rfl, hown, hb1⟩
   obtain ⟨g, cap, rfl, _, hg⟩ := hown.form (by omega)
   clear hown
   go_wp2
   refine wp_loop_rounds 1 ?_
   rw [rounds_succ]
   go_wp2
   go_ret2
   exact ⟨by rw [HK.out.1, HK.out.2]; rfl, hb1⟩
  ·have HP := hidp hp
   clear hp
   go_enter Tryd.func39, Tryd.ntmps39
   go_wp2_with fail
   refine (r5Table_yes s HP.out _).mono ?_
   rintro e w1 ⟨u, rfl, hown, hb1⟩
   obtain ⟨g, cap, rfl, _, hg⟩ := hown.form (by omega)
   have HC := hidp (fun (k : Nat) (hk : k < 9) => (hown.cellAt k (by omega)).trans (show (sizesV s 9)[k]? = some (.int .i64 ((sizeN s (k : Int) : Nat) : Int)) by unfold sizesV; rw [List.getElem?_map, sizesTo_at s hk]; rfl))
   have HB := hidp hb1
   clear hown hb1
   go_wp2
   go_loopw [7] (fun i wr => ∃ k : Nat, k <= 9 /\ i = .int .i64 k /\ (∀ j : Nat, j < k -> (sizeN s (j : Int) : Int) < z) /\ wr = w1) (fun i _ => 9 - (intOf i).toNat)
   case atStart => exact ⟨0, by omega, rfl, fun j hj => absurd hj (by omega), rfl⟩
   case round =>
    obtain ⟨k, hk, rfl, hall, rfl⟩ := hrel
    have HA := hidp hall
    clear hall
    by_cases hlt : k < 9
    ·have hc := HC.out k hlt
     obtain ⟨x, hx⟩ : ∃ x, sizeN s (k : Int) = x := ⟨_, rfl⟩
     rw [hx] at hc
     have HX := hidp hx
     clear hx
     by_cases hge : z <= (x : Int)
     ·have HK := hidp (classK_yes (class_yes (s := s) (z := z) (by omega) hlt (by rw [HX.out]; exact hge) HA.out))
      go_wp2
      go_ret2
      exact ⟨by rw [HK.out.1, HK.out.2]; rfl, HB.out⟩
     ·go_wp2
      go_roundw
      case rel =>
       refine ⟨k + 1, by omega, by go_num, fun j hj => ?_, (by first | rfl | trivial)⟩
       rcases Nat.lt_or_ge j k with h | h
       ·exact HA.out j h
       ·obtain rfl : j = k := by omega
        rw [HX.out]; omega
      case measure => simp [intOf]; omega
    ·obtain rfl : k = 9 := by omega
     have HK := hidp (classK_no (class_none (s := s) (z := z) HA.out))
     go_wp2
     go_ret2
     exact ⟨by rw [HK.out.1, HK.out.2]; rfl, HB.out⟩
end
end Go.Proofs.YtedakmhffjhfnaaDoor

namespace Go.Proofs.YtedakmhffjhfnaaDoor
open Go.ChangeShapes Go.WideShapes Go.ChangeAt Go.RowKit Go.Maps
set_option linter.unusedVariables false
set_option linter.unusedSimpArgs false
set_option maxRecDepth 100000
section
theorem r22Uses_c (k : Int) (w : World) : Calls Tryd.prog 77 #[.int .i64 k] w fun e w' => e = .returned (.int .i64 (usesI k)) /\ w = w' := by
 rcases uses_cases k with ⟨rfl, e⟩ | ⟨h, e⟩ | ⟨h, e⟩ | ⟨h, e⟩
 ·rw [e]
  clear e
  go_enter Tryd.func77, Tryd.ntmps77
  go_wp2
  go_ret
  exact ⟨rfl, rfl⟩
 ·rcases h with rfl | rfl | rfl | rfl | rfl
  ·rw [e]
   clear e
   go_enter Tryd.func77, Tryd.ntmps77
   go_wp2
   go_ret
   exact ⟨rfl, rfl⟩
  ·rw [e]
   clear e
   go_enter Tryd.func77, Tryd.ntmps77
   go_wp2
   go_ret
   exact ⟨rfl, rfl⟩
  ·rw [e]
   clear e
   go_enter Tryd.func77, Tryd.ntmps77
   go_wp2
   go_ret
   exact ⟨rfl, rfl⟩
  ·rw [e]
   clear e
   go_enter Tryd.func77, Tryd.ntmps77
   go_wp2
   go_ret
   exact ⟨rfl, rfl⟩
  ·rw [e]
   clear e
   go_enter Tryd.func77, Tryd.ntmps77
   go_wp2
   go_ret
   exact ⟨rfl, rfl⟩
 ·rcases h with rfl | rfl | rfl
  ·rw [e]
   clear e
   go_enter Tryd.func77, Tryd.ntmps77
   go_wp2
   go_ret
   exact ⟨rfl, rfl⟩
  ·rw [e]
   clear e
   go_enter Tryd.func77, Tryd.ntmps77
   go_wp2
   go_ret
   exact ⟨rfl, rfl⟩
  ·rw [e]
   clear e
   go_enter Tryd.func77, Tryd.ntmps77
   go_wp2
   go_ret
   exact ⟨rfl, rfl⟩
 ·rw [e]
  clear e
  have q1 : (k == 1) = false := by simp; omega
  have q2 : (k == 2) = false := by simp; omega
  have q3 : (k == 3) = false := by simp; omega
  have q4 : (k == 4) = false := by simp; omega
  have q5 : (k == 5) = false := by simp; omega
  have q6 : (k == 6) = false := by simp; omega
  have q7 : (k == 7) = false := by simp; omega
  have q8 : (k == 8) = false := by simp; omega
  have q9 : (k == 9) = false := by simp; omega
  clear h
  go_enter Tryd.func77, Tryd.ntmps77
  go_wp2
  go_ret
  exact ⟨rfl, rfl⟩

theorem r22Right_n (k a b : Int) (hu : usesI k = -1)  (w : World) :
  Calls Tryd.prog 43 #[.agg #[.int .i64 k, .int .i64 a, .int .i64 b]] w fun e w' => e = .returned (.bool false) /\ Below w.heap.size w w' := by
 have HU := hidp hu
 clear hu
 have HX := hidp (Held.new w 29 #[.int .i64 k, .int .i64 a, .int .i64 b])
 have HB := hidp (Bnew (B0 w) (.cells #[.int .i64 k, .int .i64 a, .int .i64 b] 29))
 obtain ⟨x0, x1, x2⟩ := HX.out.three
 go_enter Tryd.func43, Tryd.ntmps43
 go_wp2_with fail
 refine (r22Uses_c k _).mono ?_; rintro e w1 ⟨rfl, rfl⟩; rw [HU.out]
 go_wp2
 go_ret
 exact ⟨rfl, HB.out⟩

theorem r22Right_z0 (k a b : Int) (hu : usesI k = 0) (ha : a ≠ 0) (w : World) :
  Calls Tryd.prog 43 #[.agg #[.int .i64 k, .int .i64 a, .int .i64 b]] w fun e w' => e = .returned (.bool false) /\ Below w.heap.size w w' := by
 have ta : (a == 0) = false := by simp [ha]
 clear ha
 have HU := hidp hu
 clear hu
 have HX := hidp (Held.new w 29 #[.int .i64 k, .int .i64 a, .int .i64 b])
 have HB := hidp (Bnew (B0 w) (.cells #[.int .i64 k, .int .i64 a, .int .i64 b] 29))
 obtain ⟨x0, x1, x2⟩ := HX.out.three
 go_enter Tryd.func43, Tryd.ntmps43
 go_wp2_with fail
 refine (r22Uses_c k _).mono ?_; rintro e w1 ⟨rfl, rfl⟩; rw [HU.out]
 go_wp2
 go_ret
 exact ⟨rfl, HB.out⟩

theorem r22Right_z1 (k a b : Int) (hu : usesI k = 0) (ha : a = 0) (hb : b ≠ 0) (w : World) :
  Calls Tryd.prog 43 #[.agg #[.int .i64 k, .int .i64 a, .int .i64 b]] w fun e w' => e = .returned (.bool false) /\ Below w.heap.size w w' := by
 have ta : (a == 0) = true := by simp [ha]
 have tb : (b == 0) = false := by simp [hb]
 clear ha hb
 have HU := hidp hu
 clear hu
 have HX := hidp (Held.new w 29 #[.int .i64 k, .int .i64 a, .int .i64 b])
 have HB := hidp (Bnew (B0 w) (.cells #[.int .i64 k, .int .i64 a, .int .i64 b] 29))
 obtain ⟨x0, x1, x2⟩ := HX.out.three
 go_enter Tryd.func43, Tryd.ntmps43
 go_wp2_with fail
 refine (r22Uses_c k _).mono ?_; rintro e w1 ⟨rfl, rfl⟩; rw [HU.out]
 go_wp2
 go_ret
 exact ⟨rfl, HB.out⟩

theorem r22Right_z2 (k a b : Int) (hu : usesI k = 0) (ha : a = 0) (hb : b = 0) (w : World) :
  Calls Tryd.prog 43 #[.agg #[.int .i64 k, .int .i64 a, .int .i64 b]] w fun e w' => e = .returned (.bool true) /\ Below w.heap.size w w' := by
 have ta : (a == 0) = true := by simp [ha]
 have tb : (b == 0) = true := by simp [hb]
 clear ha hb
 have HU := hidp hu
 clear hu
 have HX := hidp (Held.new w 29 #[.int .i64 k, .int .i64 a, .int .i64 b])
 have HB := hidp (Bnew (B0 w) (.cells #[.int .i64 k, .int .i64 a, .int .i64 b] 29))
 obtain ⟨x0, x1, x2⟩ := HX.out.three
 go_enter Tryd.func43, Tryd.ntmps43
 go_wp2_with fail
 refine (r22Uses_c k _).mono ?_; rintro e w1 ⟨rfl, rfl⟩; rw [HU.out]
 go_wp2
 go_ret
 exact ⟨rfl, HB.out⟩

theorem r22Right_o0 (k a b : Int) (hu : usesI k = 1) (hb : b ≠ 0) (w : World) :
  Calls Tryd.prog 43 #[.agg #[.int .i64 k, .int .i64 a, .int .i64 b]] w fun e w' => e = .returned (.bool false) /\ Below w.heap.size w w' := by
 have tb : (b == 0) = false := by simp [hb]
 clear hb
 have HU := hidp hu
 clear hu
 have HX := hidp (Held.new w 29 #[.int .i64 k, .int .i64 a, .int .i64 b])
 have HB := hidp (Bnew (B0 w) (.cells #[.int .i64 k, .int .i64 a, .int .i64 b] 29))
 obtain ⟨x0, x1, x2⟩ := HX.out.three
 go_enter Tryd.func43, Tryd.ntmps43
 go_wp2_with fail
 refine (r22Uses_c k _).mono ?_; rintro e w1 ⟨rfl, rfl⟩; rw [HU.out]
 go_wp2
 go_ret
 exact ⟨rfl, HB.out⟩

theorem r22Right_o1 (k a b : Int) (hu : usesI k = 1) (hb : b = 0) (w : World) :
  Calls Tryd.prog 43 #[.agg #[.int .i64 k, .int .i64 a, .int .i64 b]] w fun e w' => e = .returned (.bool true) /\ Below w.heap.size w w' := by
 have tb : (b == 0) = true := by simp [hb]
 clear hb
 have HU := hidp hu
 clear hu
 have HX := hidp (Held.new w 29 #[.int .i64 k, .int .i64 a, .int .i64 b])
 have HB := hidp (Bnew (B0 w) (.cells #[.int .i64 k, .int .i64 a, .int .i64 b] 29))
 obtain ⟨x0, x1, x2⟩ := HX.out.three
 go_enter Tryd.func43, Tryd.ntmps43
 go_wp2_with fail
 refine (r22Uses_c k _).mono ?_; rintro e w1 ⟨rfl, rfl⟩; rw [HU.out]
 go_wp2
 go_ret
 exact ⟨rfl, HB.out⟩

theorem r22Right_t (k a b : Int) (hu : usesI k = 2)  (w : World) :
  Calls Tryd.prog 43 #[.agg #[.int .i64 k, .int .i64 a, .int .i64 b]] w fun e w' => e = .returned (.bool true) /\ Below w.heap.size w w' := by
 have HU := hidp hu
 clear hu
 have HX := hidp (Held.new w 29 #[.int .i64 k, .int .i64 a, .int .i64 b])
 have HB := hidp (Bnew (B0 w) (.cells #[.int .i64 k, .int .i64 a, .int .i64 b] 29))
 obtain ⟨x0, x1, x2⟩ := HX.out.three
 go_enter Tryd.func43, Tryd.ntmps43
 go_wp2_with fail
 refine (r22Uses_c k _).mono ?_; rintro e w1 ⟨rfl, rfl⟩; rw [HU.out]
 go_wp2
 go_ret
 exact ⟨rfl, HB.out⟩

theorem r22Right_c (k a b : Int) (hk : -9223372036854775808 <= k /\ k <= 9223372036854775807) (ha : -9223372036854775808 <= a /\ a <= 9223372036854775807) (hb : -9223372036854775808 <= b /\ b <= 9223372036854775807) (w : World) :
  Calls Tryd.prog 43 #[.agg #[.int .i64 k, .int .i64 a, .int .i64 b]] w fun e w' => e = .returned (.bool (opB k a b)) /\ Below w.heap.size w w' := by
 rcases uses_cases k with ⟨_, e⟩ | ⟨_, e⟩ | ⟨_, e⟩ | ⟨_, e⟩
 ·by_cases h1 : a = 0
  ·by_cases h2 : b = 0
   ·rw [show opB k a b = true from decide_eq_true (by rw [e]; omega)]
    exact r22Right_z2 k a b e h1 h2 w
   ·rw [show opB k a b = false from decide_eq_false (by rw [e]; omega)]
    exact r22Right_z1 k a b e h1 h2 w
  ·rw [show opB k a b = false from decide_eq_false (by rw [e]; omega)]
   exact r22Right_z0 k a b e h1 w
 ·by_cases h2 : b = 0
  ·rw [show opB k a b = true from decide_eq_true (by rw [e]; omega)]
   exact r22Right_o1 k a b e h2 w
  ·rw [show opB k a b = false from decide_eq_false (by rw [e]; omega)]
   exact r22Right_o0 k a b e h2 w
 ·rw [show opB k a b = true from decide_eq_true (by rw [e]; omega)]
  exact r22Right_t k a b e w
 ·rw [show opB k a b = false from decide_eq_false (by rw [e]; omega)]
  exact r22Right_n k a b e w
end
section
def mC (t p s : Int) (u : Value) (R : Nat -> Int) : Array Value := #[.int .i64 t, .int .i64 p, .int .i64 s, u, .int .i64 (R 0), .int .i64 (R 1), .int .i64 (R 2), .int .i64 (R 3), .int .i64 (R 4), .int .i64 (R 5), .int .i64 (R 6), .int .i64 (R 7)]
theorem mod_cells {w : World} {g : Nat} {T : TypeId} {t p s : Int} {u : Value} {R : Nat -> Int} (h : Held w g T (mC t p s u R)) : w.cell? ⟨g, 0, none⟩ = some (.int .i64 t) /\ w.cell? ⟨g, 1, none⟩ = some (.int .i64 p) /\ w.cell? ⟨g, 2, none⟩ = some (.int .i64 s) /\ w.cell? ⟨g, 3, none⟩ = some u := ⟨h.cell 0, h.cell 1, h.cell 2, h.cell 3⟩
theorem mod_root {w : World} {g : Nat} {T : TypeId} {t p s : Int} {u : Value} {R : Nat -> Int} (h : Held w g T (mC t p s u R)) {k : Nat} (hk : k < 8) : w.cell? ⟨g, 4 + k, none⟩ = some (.int .i64 (R k)) := by
 rcases (by omega : k = 0 \/ k = 1 \/ k = 2 \/ k = 3 \/ k = 4 \/ k = 5 \/ k = 6 \/ k = 7) with rfl | rfl | rfl | rfl | rfl | rfl | rfl | rfl
 ·exact h.cell 4
 ·exact h.cell 5
 ·exact h.cell 6
 ·exact h.cell 7
 ·exact h.cell 8
 ·exact h.cell 9
 ·exact h.cell 10
 ·exact h.cell 11
theorem mC_live (t p s : Int) (u v : Value) (R : Nat -> Int) : (mC t p s u R).setIfInBounds 3 v = mC t p s v R := rfl
theorem mC_root (t p s : Int) (u : Value) (R : Nat -> Int) {k : Nat} (hk : k < 8) (x : Int) : (mC t p s u R).setIfInBounds (4 + k) (.int .i64 x) = mC t p s u (updF R k x) := by
 rcases (by omega : k = 0 \/ k = 1 \/ k = 2 \/ k = 3 \/ k = 4 \/ k = 5 \/ k = 6 \/ k = 7) with rfl | rfl | rfl | rfl | rfl | rfl | rfl | rfl <;> simp [mC, updF]

structure RMod (w : World) (g base : Nat) (Z : Nat -> Prop) (t p s : Int) (L : List (Int × Int)) (R : Nat -> Int) : Prop where
 right : rightB t p s = true
 lo : base <= w.heap.size
 ins : InsM (pageN t p s : Int) (endI t p s) L
 zlt : ∀ i, Z i -> i < w.heap.size
 far : ∀ (A : Option Addr) (c i : Nat), w.cell? ⟨g, 3, none⟩ = some (.slice A L.length c) -> (Value.slice A L.length c).ownBlock = some i -> ¬ Z i
 ex : ∃ (A : Option Addr) (c : Nat), Held w g 47 (mC t p s (.slice A L.length c) R) /\ w.ownsRow base 55 2 (.slice A L.length c) L.length (bkVs L)
section
variable {w w' : World} {g base : Nat} {Z : Nat -> Prop} {t p s : Int} {L : List (Int × Int)} {R : Nat -> Int}
theorem RMod.keep (h : RMod w g base Z t p s L R) (hb : Below w.heap.size w w') : RMod w' g base Z t p s L R := by
 obtain ⟨A, c, h1, h2⟩ := h.ex
 exact ⟨h.right, Nat.le_trans h.lo hb.size, h.ins, fun i hi => Nat.lt_of_lt_of_le (h.zlt i hi) hb.size, fun A' c' i hc hi => h.far A' c' i ((hb.cell (p := ⟨g, 3, none⟩) h1.lt).symm.trans hc) hi, A, c, h1.keep hb, own_below h2 hb⟩
theorem RMod.congr {R' : Nat -> Int} (h : RMod w g base Z t p s L R) (e : ∀ k, k < 8 -> R k = R' k) : RMod w g base Z t p s L R' := by
 obtain ⟨A, c, h1, h2⟩ := h.ex
 refine ⟨h.right, h.lo, h.ins, h.zlt, h.far, A, c, ?_, h2⟩
 have e2 : mC t p s (.slice A L.length c) R' = mC t p s (.slice A L.length c) R := by
  unfold mC
  rw [e 0 (by omega), e 1 (by omega), e 2 (by omega), e 3 (by omega), e 4 (by omega), e 5 (by omega), e 6 (by omega), e 7 (by omega)]
 rw [e2]
 exact h1
theorem RMod.row_ne (h : RMod w g base Z t p s L R) {u : Value} {n : Nat} {xs : List Value} {b : Nat} (ho : w.ownsRow b 55 2 u n xs) : u.ownBlock ≠ some g := by
 obtain ⟨A, c, h1, h2⟩ := h.ex
 intro e
 rcases ho.2 with ⟨rfl, _⟩ | ⟨g', cap, cur, rfl, _, hg, _⟩
 ·simp [Value.ownBlock] at e
 ·have e : g' = g := by simpa [Value.ownBlock] using e
  subst e
  unfold Held at h1
  rw [h1] at hg
  injection hg with hg
  injection hg with _ hg _
  exact absurd hg (by decide)
theorem RMod.live (h : RMod w g base Z t p s L R) {A : Option Addr} {c : Nat} {L' : List (Int × Int)} (hi : InsM (pageN t p s : Int) (endI t p s) L') (ho : w.ownsRow base 55 2 (.slice A L'.length c) L'.length (bkVs L')) (hz : ∀ i, (Value.slice A L'.length c).ownBlock = some i -> ¬ Z i) : RMod (w.setCell ⟨g, 3, none⟩ (.slice A L'.length c)) g base Z t p s L' R := by
 have hne := h.row_ne ho
 obtain ⟨A0, c0, h1, h2⟩ := h.ex
 have h3 := h1.put 3 (.slice A L'.length c)
 rw [mC_live] at h3
 refine ⟨h.right, by simp; exact h.lo, hi, fun i hi => by simp; exact h.zlt i hi, fun A' c' i hc hi => ?_, A, c, h3, own_kept ho (fun i hi => Below.heap_setCell w _ _ i (fun e => hne (by rw [hi]; exact congrArg some e)))⟩
 have h4 := (h3.cell 3).symm.trans hc
 have h4 : some (Value.slice A L'.length c) = some (Value.slice A' L'.length c') := h4
 injection h4 with h4
 rw [<- h4] at hi
 exact hz i hi
theorem RMod.root (h : RMod w g base Z t p s L R) {k : Nat} (hk : k < 8) (x : Int) : RMod (w.setCell ⟨g, 4 + k, none⟩ (.int .i64 x)) g base Z t p s L (updF R k x) := by
 obtain ⟨A0, c0, h1, h2⟩ := h.ex
 have hne := h.row_ne h2
 have h3 := h1.put (4 + k) (.int .i64 x)
 rw [mC_root _ _ _ _ _ hk] at h3
 refine ⟨h.right, by simp; exact h.lo, h.ins, fun i hi => by simp; exact h.zlt i hi, fun A' c' i hc hi => ?_, A0, c0, h3, own_kept h2 (fun i hi => Below.heap_setCell w _ _ i (fun e => hne (by rw [hi]; exact congrArg some e)))⟩
 exact h.far A' c' i ((h1.cell 3).trans ((h3.cell 3).symm.trans hc)) hi
end

theorem r26At_c {w : World} {g base : Nat} {Z : Nat -> Prop} {t p s : Int} {L : List (Int × Int)} {R : Nat -> Int} (h : RMod w g base Z t p s L R) (hn : L.length <= 90000) (a : Int) :
  Calls Tryd.prog 25 #[.pointer (some ⟨g, 0, none⟩), .int .i64 a] w fun e w' => e = .returned (.int .i64 (mAt L a)) /\ w = w' := by
 obtain ⟨A, c, hX, hO⟩ := h.ex
 obtain ⟨_, _, _, x3⟩ := mod_cells hX
 obtain ⟨nl, hnl⟩ : ∃ n, L.length = n := ⟨_, rfl⟩
 rw [hnl] at x3 hO hn
 have HNL := hidp hnl
 have hcv := own_caps3 hO
 have HO := hidp hO
 clear hX hO hnl h
 go_enter Tryd.func25, Tryd.ntmps25
 go_wp2_with fail
 go_loopw [5] (fun u5 wr => ∃ i : Nat, i <= nl /\ u5 = .int .i64 (i : Int) /\ wr = w /\ Hid (∀ j, j < i -> ∀ y, L[j]? = some y -> y.1 ≠ a)) (fun u5 _ => nl - (intOf u5).toNat)
 case atStart => exact ⟨0, by omega, rfl, rfl, hidp (fun j hj => by omega)⟩
 case round =>
  obtain ⟨i, hi, rfl, rfl, HF⟩ := hrel
  by_cases hlt : i < nl
  ·obtain ⟨x, hx⟩ : ∃ x, L[i]? = some x := ⟨_, List.getElem?_eq_getElem (by have := HNL.out; omega)⟩
   obtain ⟨gv, cv', hvv, hbv, hlv⟩ := HO.out.form (by omega)
   injection hvv with hvv hn0 hcc
   subst hvv
   subst hcc
   obtain ⟨p0, p1⟩ := own_block0 HO.out HNL.out hx
   have HXX := hidp hx
   obtain ⟨ad, z⟩ := x
   have t0 : decide ((i : Int) < nl) = true := decide_eq_true (by omega)
   clear hn0 hx
   simp only at p0 p1
   by_cases h2 : ad = a
   ·have q1 : (ad == a) = true := by simpa using h2
    have HR : Hid (mAt L a = (i : Int)) := hidp (mAt_hit (z := z) (by rw [<- h2]; exact HXX.out) HF.out)
    clear h2
    go_wp2_with fail
    go_ret
    exact ⟨by rw [HR.out]; rfl, rfl⟩
   ·have q1 : (ad == a) = false := by simpa using h2
    have HF1 : Hid (∀ j, j < i + 1 -> ∀ y, L[j]? = some y -> y.1 ≠ a) := hidp (fun j hj y hy => by
     by_cases e : j = i
     ·subst e
      rw [HXX.out] at hy
      injection hy with hy
      subst hy
      exact h2
     ·exact HF.out j (by omega) y hy)
    clear h2
    go_wp2_with fail
    go_roundw
    case rel => exact ⟨i + 1, by omega, by go_num, trivial, HF1⟩
    case measure => simp [intOf]; omega
  ·have t0 : decide ((i : Int) < nl) = false := decide_eq_false (by omega)
   have HR : Hid (mAt L a = -1) := hidp (mAt_none (fun j hj => HF.out j (by have := HNL.out; omega)))
   go_wp2_with fail
   go_ret
   exact ⟨by rw [HR.out]; rfl, rfl⟩

theorem r26Held_c {w : World} {g base : Nat} {Z : Nat -> Prop} {t p s : Int} {L : List (Int × Int)} {R : Nat -> Int} (h : RMod w g base Z t p s L R) (a : Int) :
  Calls Tryd.prog 47 #[.pointer (some ⟨g, 0, none⟩), .int .i64 a] w fun e w' => e = .returned (.bool (heldM R a)) /\ w = w' := by
 obtain ⟨A, c, hX, hO⟩ := h.ex
 have HC : Hid (∀ k, k < 8 -> w.cell? ⟨g, 4 + k, none⟩ = some (.int .i64 (R k))) := hidp (fun k hk => mod_root hX hk)
 clear hX hO h
 go_enter Tryd.func47, Tryd.ntmps47
 go_wp2_with fail
 go_loopw [5] (fun u5 wr => ∃ i : Nat, i <= 8 /\ u5 = .int .i64 (i : Int) /\ wr = w /\ Hid (∀ j, j < i -> R j ≠ a)) (fun u5 _ => 8 - (intOf u5).toNat)
 case atStart => exact ⟨0, by omega, rfl, rfl, hidp (fun j hj => by omega)⟩
 case round =>
  obtain ⟨i, hi, rfl, rfl, HF⟩ := hrel
  by_cases hlt : i < 8
  ·have x1 := HC.out i hlt
   have t0 : decide ((i : Int) < 8) = true := decide_eq_true (by omega)
   obtain ⟨r, hr⟩ : ∃ r, R i = r := ⟨_, rfl⟩
   rw [hr] at x1
   have HRI := hidp hr
   clear hr
   by_cases h2 : r = a
   ·have q1 : (r == a) = true := by simpa using h2
    have HR : Hid (heldM R a = true) := hidp (heldM_yes hlt (by rw [HRI.out, h2]))
    clear h2
    go_wp2_with fail
    go_ret
    exact ⟨by rw [HR.out]; rfl, rfl⟩
   ·have q1 : (r == a) = false := by simpa using h2
    have HF1 : Hid (∀ j, j < i + 1 -> R j ≠ a) := hidp (fun j hj => by
     by_cases e : j = i
     ·rw [e, HRI.out]; exact h2
     ·exact HF.out j (by omega))
    clear h2
    go_wp2_with fail
    go_roundw
    case rel => exact ⟨i + 1, by omega, by go_num, trivial, HF1⟩
    case measure => simp [intOf]; omega
  ·have t0 : decide ((i : Int) < 8) = false := decide_eq_false (by omega)
   have HR : Hid (heldM R a = false) := hidp (heldM_no (fun k hk => HF.out k (by omega)))
   go_wp2_with fail
   go_ret
   exact ⟨by rw [HR.out]; rfl, rfl⟩
end
section
theorem r26Just_c (n err out aux : Int) (w : World) : Calls Tryd.prog 44 #[.int .i64 n, .agg #[.int .i64 err, .int .i64 out, .int .i64 aux]] w fun e w' => e = .returned (.bool (justB n err out aux)) /\ Below w.heap.size w w' := by
 have HX := hidp (Held.new w 32 #[.int .i64 err, .int .i64 out, .int .i64 aux])
 have HB := hidp (Bnew (B0 w) (.cells #[.int .i64 err, .int .i64 out, .int .i64 aux] 32))
 obtain ⟨x0, x1, x2⟩ := HX.out.three
 by_cases h0 : err = n
 ·have q0 : (err == n) = true := by simpa using h0
  have r0 : (err != n) = false := by simpa using h0
  by_cases h1 : out = 0
  ·have q1 : (out == 0) = true := by simpa using h1
   have r1 : (out != 0) = false := by simpa using h1
   by_cases h2 : aux = 0
   ·have q2 : (aux == 0) = true := by simpa using h2
    have r2 : (aux != 0) = false := by simpa using h2
    have HV : Hid (justB n err out aux = true) := hidp (by unfold justB; exact decide_eq_true (by omega))
    clear h0 h1 h2
    go_enter Tryd.func44, Tryd.ntmps44
    go_wp2_with fail
    go_ret
    exact ⟨by rw [HV.out]; rfl, HB.out⟩
   ·have q2 : (aux == 0) = false := by simpa using h2
    have r2 : (aux != 0) = true := by simpa using h2
    have HV : Hid (justB n err out aux = false) := hidp (by unfold justB; exact decide_eq_false (by omega))
    clear h0 h1 h2
    go_enter Tryd.func44, Tryd.ntmps44
    go_wp2_with fail
    go_ret
    exact ⟨by rw [HV.out]; rfl, HB.out⟩
  ·have q1 : (out == 0) = false := by simpa using h1
   have r1 : (out != 0) = true := by simpa using h1
   have HV : Hid (justB n err out aux = false) := hidp (by unfold justB; exact decide_eq_false (by omega))
   clear h0 h1
   go_enter Tryd.func44, Tryd.ntmps44
   go_wp2_with fail
   go_ret
   exact ⟨by rw [HV.out]; rfl, HB.out⟩
 ·have q0 : (err == n) = false := by simpa using h0
  have r0 : (err != n) = true := by simpa using h0
  have HV : Hid (justB n err out aux = false) := hidp (by unfold justB; exact decide_eq_false (by omega))
  clear h0
  go_enter Tryd.func44, Tryd.ntmps44
  go_wp2_with fail
  go_ret
  exact ⟨by rw [HV.out]; rfl, HB.out⟩

theorem r26Gives_c (err out aux a b : Int) (w : World) : Calls Tryd.prog 48 #[.agg #[.int .i64 err, .int .i64 out, .int .i64 aux], .int .i64 a, .int .i64 b] w fun e w' => e = .returned (.bool (givesB err out aux a b)) /\ Below w.heap.size w w' := by
 have HX := hidp (Held.new w 32 #[.int .i64 err, .int .i64 out, .int .i64 aux])
 have HB := hidp (Bnew (B0 w) (.cells #[.int .i64 err, .int .i64 out, .int .i64 aux] 32))
 obtain ⟨x0, x1, x2⟩ := HX.out.three
 by_cases h0 : err = 0
 ·have q0 : (err == 0) = true := by simpa using h0
  have r0 : (err != 0) = false := by simpa using h0
  by_cases h1 : out = a
  ·have q1 : (out == a) = true := by simpa using h1
   have r1 : (out != a) = false := by simpa using h1
   by_cases h2 : aux = b
   ·have q2 : (aux == b) = true := by simpa using h2
    have r2 : (aux != b) = false := by simpa using h2
    have HV : Hid (givesB err out aux a b = true) := hidp (by unfold givesB; exact decide_eq_true (by omega))
    clear h0 h1 h2
    go_enter Tryd.func48, Tryd.ntmps48
    go_wp2_with fail
    go_ret
    exact ⟨by rw [HV.out]; rfl, HB.out⟩
   ·have q2 : (aux == b) = false := by simpa using h2
    have r2 : (aux != b) = true := by simpa using h2
    have HV : Hid (givesB err out aux a b = false) := hidp (by unfold givesB; exact decide_eq_false (by omega))
    clear h0 h1 h2
    go_enter Tryd.func48, Tryd.ntmps48
    go_wp2_with fail
    go_ret
    exact ⟨by rw [HV.out]; rfl, HB.out⟩
  ·have q1 : (out == a) = false := by simpa using h1
   have r1 : (out != a) = true := by simpa using h1
   have HV : Hid (givesB err out aux a b = false) := hidp (by unfold givesB; exact decide_eq_false (by omega))
   clear h0 h1
   go_enter Tryd.func48, Tryd.ntmps48
   go_wp2_with fail
   go_ret
   exact ⟨by rw [HV.out]; rfl, HB.out⟩
 ·have q0 : (err == 0) = false := by simpa using h0
  have r0 : (err != 0) = true := by simpa using h0
  have HV : Hid (givesB err out aux a b = false) := hidp (by unfold givesB; exact decide_eq_false (by omega))
  clear h0
  go_enter Tryd.func48, Tryd.ntmps48
  go_wp2_with fail
  go_ret
  exact ⟨by rw [HV.out]; rfl, HB.out⟩

theorem r26Aux_c (err out aux n : Int) (w : World) : Calls Tryd.prog 46 #[.agg #[.int .i64 err, .int .i64 out, .int .i64 aux], .int .i64 n] w fun e w' => e = .returned (.bool (auxB err aux n)) /\ Below w.heap.size w w' := by
 have HX := hidp (Held.new w 32 #[.int .i64 err, .int .i64 out, .int .i64 aux])
 have HB := hidp (Bnew (B0 w) (.cells #[.int .i64 err, .int .i64 out, .int .i64 aux] 32))
 obtain ⟨x0, x1, x2⟩ := HX.out.three
 by_cases h0 : err = 0
 ·have q0 : (err == 0) = true := by simpa using h0
  have r0 : (err != 0) = false := by simpa using h0
  by_cases h1 : aux = n
  ·have q1 : (aux == n) = true := by simpa using h1
   have r1 : (aux != n) = false := by simpa using h1
   have HV : Hid (auxB err aux n = true) := hidp (by unfold auxB; exact decide_eq_true (by omega))
   clear h0 h1
   go_enter Tryd.func46, Tryd.ntmps46
   go_wp2_with fail
   go_ret
   exact ⟨by rw [HV.out]; rfl, HB.out⟩
  ·have q1 : (aux == n) = false := by simpa using h1
   have r1 : (aux != n) = true := by simpa using h1
   have HV : Hid (auxB err aux n = false) := hidp (by unfold auxB; exact decide_eq_false (by omega))
   clear h0 h1
   go_enter Tryd.func46, Tryd.ntmps46
   go_wp2_with fail
   go_ret
   exact ⟨by rw [HV.out]; rfl, HB.out⟩
 ·have q0 : (err == 0) = false := by simpa using h0
  have r0 : (err != 0) = true := by simpa using h0
  have HV : Hid (auxB err aux n = true) := hidp (by unfold auxB; exact decide_eq_true (by omega))
  clear h0
  go_enter Tryd.func46, Tryd.ntmps46
  go_wp2_with fail
  go_ret
  exact ⟨by rw [HV.out]; rfl, HB.out⟩

set_option maxHeartbeats 1600000 in
theorem r26Round_wrong (t p s z : Int) (hr : rightB t p s = false) (w : World) : Calls Tryd.prog 14 #[.agg #[.int .i64 t, .int .i64 p, .int .i64 s], .int .i64 z] w fun e w' => e = .returned (.tuple #[.int .i64 (0), .bool false]) /\ Below w.heap.size w w' := by
 have HX := hidp (Held.new w 23 #[.int .i64 t, .int .i64 p, .int .i64 s])
 have HB := hidp (Bnew (B0 w) (.cells #[.int .i64 t, .int .i64 p, .int .i64 s] 23))
 have HR := hidp hr
 clear hr
 obtain ⟨x0, x1, x2⟩ := HX.out.three
 go_enter Tryd.func14, Tryd.ntmps14
 go_wp2_with fail
 refine (r4Right_c t p s _).mono ?_; rintro e w1 ⟨rfl, hb⟩; rw [HR.out]
 replace HX := hidp (HX.out.keep hb)
 replace HB := hidp (Bgo HB.out hb)
 clear hb x0 x1 x2
 obtain ⟨x0, x1, x2⟩ := HX.out.three
 go_wp2
 go_ret2
 exact ⟨rfl, HB.out⟩

set_option maxHeartbeats 1600000 in
theorem r26Round_low (t p s z : Int) (hr : rightB t p s = true) (h : z < 1) (w : World) : Calls Tryd.prog 14 #[.agg #[.int .i64 t, .int .i64 p, .int .i64 s], .int .i64 z] w fun e w' => e = .returned (.tuple #[.int .i64 (0), .bool false]) /\ Below w.heap.size w w' := by
 have HX := hidp (Held.new w 23 #[.int .i64 t, .int .i64 p, .int .i64 s])
 have HB := hidp (Bnew (B0 w) (.cells #[.int .i64 t, .int .i64 p, .int .i64 s] 23))
 have HR := hidp hr
 clear hr
 have t0 : decide (z < 1) = true := decide_eq_true (by omega)
 obtain ⟨x0, x1, x2⟩ := HX.out.three
 go_enter Tryd.func14, Tryd.ntmps14
 go_wp2_with fail
 refine (r4Right_c t p s _).mono ?_; rintro e w1 ⟨rfl, hb⟩; rw [HR.out]
 replace HX := hidp (HX.out.keep hb)
 replace HB := hidp (Bgo HB.out hb)
 clear hb x0 x1 x2
 obtain ⟨x0, x1, x2⟩ := HX.out.three
 go_wp2
 go_ret2
 exact ⟨rfl, HB.out⟩

set_option maxHeartbeats 1600000 in
theorem r26Round_high (t p s z : Int) (n : Nat) (hn : bytesN t p s = n) (hr : rightB t p s = true) (h : 1 <= z) (h2 : (n : Int) < z) (w : World) : Calls Tryd.prog 14 #[.agg #[.int .i64 t, .int .i64 p, .int .i64 s], .int .i64 z] w fun e w' => e = .returned (.tuple #[.int .i64 (0), .bool false]) /\ Below w.heap.size w w' := by
 have HX := hidp (Held.new w 23 #[.int .i64 t, .int .i64 p, .int .i64 s])
 have HB := hidp (Bnew (B0 w) (.cells #[.int .i64 t, .int .i64 p, .int .i64 s] 23))
 have HR := hidp hr
 have HN := hidp hn
 clear hr hn
 have t0 : decide (z < 1) = false := decide_eq_false (by omega)
 have t1 : decide ((n : Int) < z) = true := decide_eq_true (by omega)
 obtain ⟨x0, x1, x2⟩ := HX.out.three
 go_enter Tryd.func14, Tryd.ntmps14
 go_wp2_with fail
 refine (r4Right_c t p s _).mono ?_; rintro e w1 ⟨rfl, hb⟩; rw [HR.out]
 replace HX := hidp (HX.out.keep hb)
 replace HB := hidp (Bgo HB.out hb)
 clear hb x0 x1 x2
 obtain ⟨x0, x1, x2⟩ := HX.out.three
 go_wp2_with fail
 refine (r4Bytes_c t p s _).mono ?_; rintro e w1 ⟨rfl, hb⟩; rw [HN.out]
 replace HX := hidp (HX.out.keep hb)
 replace HB := hidp (Bgo HB.out hb)
 clear hb x0 x1 x2
 obtain ⟨x0, x1, x2⟩ := HX.out.three
 go_wp2
 go_ret2
 exact ⟨rfl, HB.out⟩

set_option maxHeartbeats 1600000 in
theorem r26Round_class (t p s z : Int) (n : Nat) (hn : bytesN t p s = n) (hr : rightB t p s = true) (h : 1 <= z) (h2 : z <= (n : Int)) (hz : -9223372036854775808 <= z /\ z <= 9223372036854775807) (k sz : Int) (hk : classK s z = k) (hb : classB s z = true) (hs : (sizeN s k : Int) = sz) (hk0 : -9223372036854775808 <= k /\ k <= 9223372036854775807) (w : World) : Calls Tryd.prog 14 #[.agg #[.int .i64 t, .int .i64 p, .int .i64 s], .int .i64 z] w fun e w' => e = .returned (.tuple #[.int .i64 (sz), .bool true]) /\ Below w.heap.size w w' := by
 have HX := hidp (Held.new w 23 #[.int .i64 t, .int .i64 p, .int .i64 s])
 have HB := hidp (Bnew (B0 w) (.cells #[.int .i64 t, .int .i64 p, .int .i64 s] 23))
 have HR := hidp hr
 have HN := hidp hn
 have HZ := hidp hz
 clear hr hn hz
 have t0 : decide (z < 1) = false := decide_eq_false (by omega)
 have t1 : decide ((n : Int) < z) = false := decide_eq_false (by omega)
 have HK : Hid (classK s z = k /\ classB s z = true) := hidp ⟨hk, hb⟩
 have HS := hidp hs
 have HK0 := hidp hk0
 clear hk hb hs hk0
 obtain ⟨x0, x1, x2⟩ := HX.out.three
 go_enter Tryd.func14, Tryd.ntmps14
 go_wp2_with fail
 refine (r4Right_c t p s _).mono ?_; rintro e w1 ⟨rfl, hb⟩; rw [HR.out]
 replace HX := hidp (HX.out.keep hb)
 replace HB := hidp (Bgo HB.out hb)
 clear hb x0 x1 x2
 obtain ⟨x0, x1, x2⟩ := HX.out.three
 go_wp2_with fail
 refine (r4Bytes_c t p s _).mono ?_; rintro e w1 ⟨rfl, hb⟩; rw [HN.out]
 replace HX := hidp (HX.out.keep hb)
 replace HB := hidp (Bgo HB.out hb)
 clear hb x0 x1 x2
 obtain ⟨x0, x1, x2⟩ := HX.out.three
 go_wp2_with fail
 refine (r5Of_c s z _).mono ?_; rintro e w1 ⟨rfl, hb⟩; rw [HK.out.1, HK.out.2]
 replace HX := hidp (HX.out.keep hb)
 replace HB := hidp (Bgo HB.out hb)
 clear hb x0 x1 x2
 obtain ⟨x0, x1, x2⟩ := HX.out.three
 go_wp2_with fail
 refine (r5Size_c s k HK0.out.1 HK0.out.2 _).mono ?_; rintro e w1 ⟨rfl, hb⟩; rw [HS.out]
 replace HX := hidp (HX.out.keep hb)
 replace HB := hidp (Bgo HB.out hb)
 clear hb x0 x1 x2
 obtain ⟨x0, x1, x2⟩ := HX.out.three
 go_wp2
 go_ret2
 exact ⟨rfl, HB.out⟩

set_option maxHeartbeats 1600000 in
theorem r26Round_pages (t p s z : Int) (n : Nat) (hn : bytesN t p s = n) (hr : rightB t p s = true) (h : 1 <= z) (h2 : z <= (n : Int)) (hz : -9223372036854775808 <= z /\ z <= 9223372036854775807) (m g q k : Int) (b : Bool) (hk : classK s z = k) (hb : classB s z = false) (hm : needI t p s z = m) (hnb : needB t p s z = b) (hg : (pageN t p s : Int) = g) (hq : IntKind.i64.wrap (m * g) = q) (w : World) : Calls Tryd.prog 14 #[.agg #[.int .i64 t, .int .i64 p, .int .i64 s], .int .i64 z] w fun e w' => e = .returned (.tuple #[.int .i64 (q), .bool true]) /\ Below w.heap.size w w' := by
 have HX := hidp (Held.new w 23 #[.int .i64 t, .int .i64 p, .int .i64 s])
 have HB := hidp (Bnew (B0 w) (.cells #[.int .i64 t, .int .i64 p, .int .i64 s] 23))
 have HR := hidp hr
 have HN := hidp hn
 have HZ := hidp hz
 clear hr hn hz
 have t0 : decide (z < 1) = false := decide_eq_false (by omega)
 have t1 : decide ((n : Int) < z) = false := decide_eq_false (by omega)
 have HK : Hid (classK s z = k /\ classB s z = false) := hidp ⟨hk, hb⟩
 have HM : Hid (needI t p s z = m /\ needB t p s z = b) := hidp ⟨hm, hnb⟩
 have HG := hidp hg
 clear hk hb hm hg hnb
 obtain ⟨x0, x1, x2⟩ := HX.out.three
 go_enter Tryd.func14, Tryd.ntmps14
 go_wp2_with fail
 refine (r4Right_c t p s _).mono ?_; rintro e w1 ⟨rfl, hb⟩; rw [HR.out]
 replace HX := hidp (HX.out.keep hb)
 replace HB := hidp (Bgo HB.out hb)
 clear hb x0 x1 x2
 obtain ⟨x0, x1, x2⟩ := HX.out.three
 go_wp2_with fail
 refine (r4Bytes_c t p s _).mono ?_; rintro e w1 ⟨rfl, hb⟩; rw [HN.out]
 replace HX := hidp (HX.out.keep hb)
 replace HB := hidp (Bgo HB.out hb)
 clear hb x0 x1 x2
 obtain ⟨x0, x1, x2⟩ := HX.out.three
 go_wp2_with fail
 refine (r5Of_c s z _).mono ?_; rintro e w1 ⟨rfl, hb⟩; rw [HK.out.1, HK.out.2]
 replace HX := hidp (HX.out.keep hb)
 replace HB := hidp (Bgo HB.out hb)
 clear hb x0 x1 x2
 obtain ⟨x0, x1, x2⟩ := HX.out.three
 go_wp2_with fail
 refine (r6Pages_c t p s z HZ.out.1 HZ.out.2 _).mono ?_; rintro e w1 ⟨rfl, hb⟩; rw [HM.out.1, HM.out.2]
 replace HX := hidp (HX.out.keep hb)
 replace HB := hidp (Bgo HB.out hb)
 clear hb x0 x1 x2
 obtain ⟨x0, x1, x2⟩ := HX.out.three
 go_wp2_with fail
 refine (r4Page_c t p s _).mono ?_; rintro e w1 ⟨rfl, hb⟩; rw [HG.out]
 replace HX := hidp (HX.out.keep hb)
 replace HB := hidp (Bgo HB.out hb)
 clear hb x0 x1 x2
 obtain ⟨x0, x1, x2⟩ := HX.out.three
 go_wp2
 go_ret2
 exact ⟨rfl, HB.out⟩

theorem r26Round_c (t p s z : Int) (hz : -9223372036854775808 <= z /\ z <= 9223372036854775807) (w : World) : Calls Tryd.prog 14 #[.agg #[.int .i64 t, .int .i64 p, .int .i64 s], .int .i64 z] w fun e w' => e = .returned (.tuple #[.int .i64 (rdI t p s z), .bool (needB t p s z)]) /\ Below w.heap.size w w' := by
 by_cases hr : rightB t p s = true
 ·by_cases h1 : z < 1
  ·have e : needB t p s z = false := decide_eq_false (by omega)
   unfold rdI
   rw [e]
   exact r26Round_low t p s z hr h1 w
  ·by_cases h2 : ((bytesN t p s : Nat) : Int) < z
   ·have e : needB t p s z = false := decide_eq_false (by omega)
    unfold rdI
    rw [e]
    exact r26Round_high t p s z _ rfl hr (by omega) h2 w
   ·have e : needB t p s z = true := decide_eq_true (by omega)
    have hk := classK_lim s z
    unfold rdI
    rw [e, if_pos rfl]
    cases hb : classB s z with
    | true =>
     rw [if_pos rfl]
     exact r26Round_class t p s z _ rfl hr (by omega) (by omega) hz _ _ rfl hb rfl ⟨by omega, by omega⟩ w
    | false =>
     rw [if_neg (by simp)]
     refine r26Round_pages t p s z _ rfl hr (by omega) (by omega) hz _ _ _ _ _ rfl hb rfl e rfl ?_ w
     obtain ⟨g, m, hg, hm, hm1, hm2, _⟩ := need_few e
     rw [hg, hm]
     have hg2 := page_le t p s
     rw [hg] at hg2
     have h3 : (m : Int) * (g : Int) <= 1024 * 1048576 := Int.mul_le_mul (by omega) (by omega) (by omega) (by omega)
     have h4 : 0 <= (m : Int) * (g : Int) := Int.mul_nonneg (by omega) (by omega)
     exact i64_same (by omega) (by omega)
 ·have hr : rightB t p s = false := by simpa using hr
  have e : needB t p s z = false := by
   cases h : needB t p s z with
   | false => rfl
   | true => exact absurd (need_right h) (by rw [hr]; simp)
  unfold rdI
  rw [e]
  exact r26Round_wrong t p s z hr w
end
section
theorem r26New_no (t p s : Int) (hr : rightB t p s = false) (w : World) : Calls Tryd.prog 17 #[.agg #[.int .i64 t, .int .i64 p, .int .i64 s]] w fun e w' => e = .returned (.pointer none) /\ Below w.heap.size w w' := by
 have HX := hidp (Held.new w 23 #[.int .i64 t, .int .i64 p, .int .i64 s])
 have HB := hidp (Bnew (B0 w) (.cells #[.int .i64 t, .int .i64 p, .int .i64 s] 23))
 have HR := hidp hr
 clear hr
 obtain ⟨x0, x1, x2⟩ := HX.out.three
 go_enter Tryd.func17, Tryd.ntmps17
 go_wp2_with fail
 refine (r4Right_c t p s _).mono ?_; rintro e w1 ⟨rfl, hb⟩; rw [HR.out]
 replace HB := hidp (Bgo HB.out hb)
 go_wp2
 go_ret
 exact ⟨rfl, HB.out⟩
theorem r26New_yes (t p s : Int) (hr : rightB t p s = true) (w : World) : Calls Tryd.prog 17 #[.agg #[.int .i64 t, .int .i64 p, .int .i64 s]] w fun e w' => ∃ g, e = .returned (.pointer (some ⟨g, 0, none⟩)) /\ w.heap.size <= g /\ RMod w' g w.heap.size (fun _ => False) t p s [] (fun _ => 0) /\ Below w.heap.size w w' := by
 have HX := hidp (Held.new w 23 #[.int .i64 t, .int .i64 p, .int .i64 s])
 have HB := hidp (Bnew (B0 w) (.cells #[.int .i64 t, .int .i64 p, .int .i64 s] 23))
 have HR := hidp hr
 clear hr
 obtain ⟨x0, x1, x2⟩ := HX.out.three
 go_enter Tryd.func17, Tryd.ntmps17
 go_wp2_with fail
 refine (r4Right_c t p s _).mono ?_; rintro e w1 ⟨rfl, hb⟩; rw [HR.out]
 replace HB := hidp (Bgo HB.out hb)
 replace HX := hidp (HX.out.keep hb)
 clear hb x0 x1 x2
 obtain ⟨x0, x1, x2⟩ := HX.out.three
 have HBS := hidp HB.out.size
 go_wp2
 go_ret
 refine ⟨w1.heap.size, rfl, HBS.out, ⟨HR.out, Nat.le_trans HBS.out (Bnew (B0 w1) _).size, fun x hx => absurd hx (List.not_mem_nil), fun i hi => hi.elim, fun A' c' i _ _ hz => hz, none, 0, ?_, World.ownsRow_nil _ _ _ _⟩, Bnew HB.out _⟩
 exact Held.new w1 47 (mC t p s (.slice none 0 0) (fun _ => 0))

theorem r26Inside_a {w : World} {g : Nat} {T : TypeId} {u : Value} {R : Nat -> Int} (t p s a z G E p1 : Int) (hX : Held w g T (mC t p s u R)) (hg : (pageN t p s : Int) = G) (hp1 : p + 1 = p1) (hpb : 4 <= p /\ p <= 1024) (hE : G * p1 = E) (hEb : 0 <= G /\ G <= 1048576 /\ 0 <= E /\ E <= 2147483648) (h : z < 1) :
  Calls Tryd.prog 56 #[.pointer (some ⟨g, 0, none⟩), .agg #[.int .i64 a, .int .i64 z]] w fun e w' => e = .returned (.bool false) /\ Below w.heap.size w w' := by
 have HX := hidp (hX.alloc (.cells #[.int .i64 a, .int .i64 z] 55))
 have HY := hidp (Held.new w 55 #[.int .i64 a, .int .i64 z])
 have HB := hidp (Bnew (B0 w) (.cells #[.int .i64 a, .int .i64 z] 55))
 have HG := hidp hg
 have hw1 : IntKind.i64.wrap (p + 1) = p1 := by rw [hp1]; exact i64_same (by omega) (by omega)
 have hw2 : IntKind.i64.wrap (G * p1) = E := by rw [hE]; exact i64_same (by omega) (by omega)
 have t0 : decide (1 <= z) = false := decide_eq_false (by omega)
 clear hX hg hp1 hE
 obtain ⟨x0, x1, x2, _⟩ := mod_cells HX.out
 go_enter Tryd.func56, Tryd.ntmps56
 go_wp2_with fail
 refine (r4Page_c t p s _).mono ?_; rintro e w1 ⟨rfl, hb⟩; rw [HG.out]
 replace HX := hidp (HX.out.keep hb)
 replace HY := hidp (HY.out.keep hb)
 replace HB := hidp (Bgo HB.out hb)
 clear hb x0 x1 x2
 obtain ⟨x0, x1, x2, _⟩ := mod_cells HX.out
 obtain ⟨y0, y1⟩ := HY.out.two
 go_wp2
 go_ret
 exact ⟨rfl, HB.out⟩

theorem r26Inside_b {w : World} {g : Nat} {T : TypeId} {u : Value} {R : Nat -> Int} (t p s a z G E p1 : Int) (hX : Held w g T (mC t p s u R)) (hg : (pageN t p s : Int) = G) (hp1 : p + 1 = p1) (hpb : 4 <= p /\ p <= 1024) (hE : G * p1 = E) (hEb : 0 <= G /\ G <= 1048576 /\ 0 <= E /\ E <= 2147483648) (h : 1 <= z) (h2 : a < G) :
  Calls Tryd.prog 56 #[.pointer (some ⟨g, 0, none⟩), .agg #[.int .i64 a, .int .i64 z]] w fun e w' => e = .returned (.bool false) /\ Below w.heap.size w w' := by
 have HX := hidp (hX.alloc (.cells #[.int .i64 a, .int .i64 z] 55))
 have HY := hidp (Held.new w 55 #[.int .i64 a, .int .i64 z])
 have HB := hidp (Bnew (B0 w) (.cells #[.int .i64 a, .int .i64 z] 55))
 have HG := hidp hg
 have hw1 : IntKind.i64.wrap (p + 1) = p1 := by rw [hp1]; exact i64_same (by omega) (by omega)
 have hw2 : IntKind.i64.wrap (G * p1) = E := by rw [hE]; exact i64_same (by omega) (by omega)
 have t0 : decide (1 <= z) = true := decide_eq_true (by omega)
 have t1 : decide (G <= a) = false := decide_eq_false (by omega)
 clear hX hg hp1 hE
 obtain ⟨x0, x1, x2, _⟩ := mod_cells HX.out
 go_enter Tryd.func56, Tryd.ntmps56
 go_wp2_with fail
 refine (r4Page_c t p s _).mono ?_; rintro e w1 ⟨rfl, hb⟩; rw [HG.out]
 replace HX := hidp (HX.out.keep hb)
 replace HY := hidp (HY.out.keep hb)
 replace HB := hidp (Bgo HB.out hb)
 clear hb x0 x1 x2
 obtain ⟨x0, x1, x2, _⟩ := mod_cells HX.out
 obtain ⟨y0, y1⟩ := HY.out.two
 go_wp2
 go_ret
 exact ⟨rfl, HB.out⟩

theorem r26Inside_c0 {w : World} {g : Nat} {T : TypeId} {u : Value} {R : Nat -> Int} (t p s a z G E p1 : Int) (hX : Held w g T (mC t p s u R)) (hg : (pageN t p s : Int) = G) (hp1 : p + 1 = p1) (hpb : 4 <= p /\ p <= 1024) (hE : G * p1 = E) (hEb : 0 <= G /\ G <= 1048576 /\ 0 <= E /\ E <= 2147483648) (h : 1 <= z) (h2 : G <= a) (h3 : E < a) :
  Calls Tryd.prog 56 #[.pointer (some ⟨g, 0, none⟩), .agg #[.int .i64 a, .int .i64 z]] w fun e w' => e = .returned (.bool false) /\ Below w.heap.size w w' := by
 have HX := hidp (hX.alloc (.cells #[.int .i64 a, .int .i64 z] 55))
 have HY := hidp (Held.new w 55 #[.int .i64 a, .int .i64 z])
 have HB := hidp (Bnew (B0 w) (.cells #[.int .i64 a, .int .i64 z] 55))
 have HG := hidp hg
 have hw1 : IntKind.i64.wrap (p + 1) = p1 := by rw [hp1]; exact i64_same (by omega) (by omega)
 have hw2 : IntKind.i64.wrap (G * p1) = E := by rw [hE]; exact i64_same (by omega) (by omega)
 have t0 : decide (1 <= z) = true := decide_eq_true (by omega)
 have t1 : decide (G <= a) = true := decide_eq_true (by omega)
 have t2 : decide (a <= E) = false := decide_eq_false (by omega)
 clear hX hg hp1 hE
 obtain ⟨x0, x1, x2, _⟩ := mod_cells HX.out
 go_enter Tryd.func56, Tryd.ntmps56
 go_wp2_with fail
 refine (r4Page_c t p s _).mono ?_; rintro e w1 ⟨rfl, hb⟩; rw [HG.out]
 replace HX := hidp (HX.out.keep hb)
 replace HY := hidp (HY.out.keep hb)
 replace HB := hidp (Bgo HB.out hb)
 clear hb x0 x1 x2
 obtain ⟨x0, x1, x2, _⟩ := mod_cells HX.out
 obtain ⟨y0, y1⟩ := HY.out.two
 go_wp2
 go_ret
 exact ⟨rfl, HB.out⟩

theorem r26Inside_d {w : World} {g : Nat} {T : TypeId} {u : Value} {R : Nat -> Int} (t p s a z G E p1 : Int) (hX : Held w g T (mC t p s u R)) (hg : (pageN t p s : Int) = G) (hp1 : p + 1 = p1) (hpb : 4 <= p /\ p <= 1024) (hE : G * p1 = E) (hEb : 0 <= G /\ G <= 1048576 /\ 0 <= E /\ E <= 2147483648) (h : 1 <= z) (h2 : G <= a) (h3 : a <= E) (h4 : E - a < z) :
  Calls Tryd.prog 56 #[.pointer (some ⟨g, 0, none⟩), .agg #[.int .i64 a, .int .i64 z]] w fun e w' => e = .returned (.bool false) /\ Below w.heap.size w w' := by
 have HX := hidp (hX.alloc (.cells #[.int .i64 a, .int .i64 z] 55))
 have HY := hidp (Held.new w 55 #[.int .i64 a, .int .i64 z])
 have HB := hidp (Bnew (B0 w) (.cells #[.int .i64 a, .int .i64 z] 55))
 have HG := hidp hg
 have hw1 : IntKind.i64.wrap (p + 1) = p1 := by rw [hp1]; exact i64_same (by omega) (by omega)
 have hw2 : IntKind.i64.wrap (G * p1) = E := by rw [hE]; exact i64_same (by omega) (by omega)
 have hw3 : IntKind.i64.wrap (E - a) = E - a := i64_same (by omega) (by omega)
 have t0 : decide (1 <= z) = true := decide_eq_true (by omega)
 have t1 : decide (G <= a) = true := decide_eq_true (by omega)
 have t2 : decide (a <= E) = true := decide_eq_true (by omega)
 have t3 : decide (z <= E - a) = false := decide_eq_false (by omega)
 clear hX hg hp1 hE
 obtain ⟨x0, x1, x2, _⟩ := mod_cells HX.out
 go_enter Tryd.func56, Tryd.ntmps56
 go_wp2_with fail
 refine (r4Page_c t p s _).mono ?_; rintro e w1 ⟨rfl, hb⟩; rw [HG.out]
 replace HX := hidp (HX.out.keep hb)
 replace HY := hidp (HY.out.keep hb)
 replace HB := hidp (Bgo HB.out hb)
 clear hb x0 x1 x2
 obtain ⟨x0, x1, x2, _⟩ := mod_cells HX.out
 obtain ⟨y0, y1⟩ := HY.out.two
 go_wp2
 go_ret
 exact ⟨rfl, HB.out⟩

theorem r26Inside_e {w : World} {g : Nat} {T : TypeId} {u : Value} {R : Nat -> Int} (t p s a z G E p1 : Int) (hX : Held w g T (mC t p s u R)) (hg : (pageN t p s : Int) = G) (hp1 : p + 1 = p1) (hpb : 4 <= p /\ p <= 1024) (hE : G * p1 = E) (hEb : 0 <= G /\ G <= 1048576 /\ 0 <= E /\ E <= 2147483648) (h : 1 <= z) (h2 : G <= a) (h3 : a <= E) (h4 : z <= E - a) :
  Calls Tryd.prog 56 #[.pointer (some ⟨g, 0, none⟩), .agg #[.int .i64 a, .int .i64 z]] w fun e w' => e = .returned (.bool true) /\ Below w.heap.size w w' := by
 have HX := hidp (hX.alloc (.cells #[.int .i64 a, .int .i64 z] 55))
 have HY := hidp (Held.new w 55 #[.int .i64 a, .int .i64 z])
 have HB := hidp (Bnew (B0 w) (.cells #[.int .i64 a, .int .i64 z] 55))
 have HG := hidp hg
 have hw1 : IntKind.i64.wrap (p + 1) = p1 := by rw [hp1]; exact i64_same (by omega) (by omega)
 have hw2 : IntKind.i64.wrap (G * p1) = E := by rw [hE]; exact i64_same (by omega) (by omega)
 have hw3 : IntKind.i64.wrap (E - a) = E - a := i64_same (by omega) (by omega)
 have t0 : decide (1 <= z) = true := decide_eq_true (by omega)
 have t1 : decide (G <= a) = true := decide_eq_true (by omega)
 have t2 : decide (a <= E) = true := decide_eq_true (by omega)
 have t3 : decide (z <= E - a) = true := decide_eq_true (by omega)
 clear hX hg hp1 hE
 obtain ⟨x0, x1, x2, _⟩ := mod_cells HX.out
 go_enter Tryd.func56, Tryd.ntmps56
 go_wp2_with fail
 refine (r4Page_c t p s _).mono ?_; rintro e w1 ⟨rfl, hb⟩; rw [HG.out]
 replace HX := hidp (HX.out.keep hb)
 replace HY := hidp (HY.out.keep hb)
 replace HB := hidp (Bgo HB.out hb)
 clear hb x0 x1 x2
 obtain ⟨x0, x1, x2, _⟩ := mod_cells HX.out
 obtain ⟨y0, y1⟩ := HY.out.two
 go_wp2
 go_ret
 exact ⟨rfl, HB.out⟩

theorem end_le {t p s : Int} (h : rightB t p s = true) : (4 <= p /\ p <= 1024) /\ 0 <= (pageN t p s : Int) /\ (pageN t p s : Int) <= 1048576 /\ 0 <= endI t p s /\ endI t p s <= 2147483648 := by
 have hp := ((rightB_iff t p s).1 h).2.1
 have hg := page_le t p s
 refine ⟨hp, by omega, by omega, Int.mul_nonneg (by omega) (by omega), ?_⟩
 have : (pageN t p s : Int) * (p + 1) <= 1048576 * 1025 := Int.mul_le_mul (by omega) (by omega) (by omega) (by omega)
 unfold endI
 omega

theorem r26Inside_c {w : World} {g base : Nat} {Z : Nat -> Prop} {t p s : Int} {L : List (Int × Int)} {R : Nat -> Int} (h : RMod w g base Z t p s L R) (a z : Int) : Calls Tryd.prog 56 #[.pointer (some ⟨g, 0, none⟩), .agg #[.int .i64 a, .int .i64 z]] w fun e w' => e = .returned (.bool (insB (pageN t p s : Int) (endI t p s) a z)) /\ Below w.heap.size w w' := by
 obtain ⟨A, c, hX, _⟩ := h.ex
 obtain ⟨b1, b2⟩ := end_le h.right
 by_cases h1 : z < 1
 ·rw [show insB (pageN t p s : Int) (endI t p s) a z = false from decide_eq_false (by omega)]
  exact r26Inside_a t p s a z _ (endI t p s) _ hX rfl rfl b1 rfl b2 h1
 by_cases h2 : a < (pageN t p s : Int)
 ·rw [show insB (pageN t p s : Int) (endI t p s) a z = false from decide_eq_false (by omega)]
  exact r26Inside_b t p s a z _ (endI t p s) _ hX rfl rfl b1 rfl b2 (by omega) h2
 by_cases h3 : endI t p s < a
 ·rw [show insB (pageN t p s : Int) (endI t p s) a z = false from decide_eq_false (by omega)]
  exact r26Inside_c0 t p s a z _ (endI t p s) _ hX rfl rfl b1 rfl b2 (by omega) (by omega) h3
 by_cases h4 : endI t p s - a < z
 ·rw [show insB (pageN t p s : Int) (endI t p s) a z = false from decide_eq_false (by omega)]
  exact r26Inside_d t p s a z _ (endI t p s) _ hX rfl rfl b1 rfl b2 (by omega) (by omega) (by omega) h4
 rw [show insB (pageN t p s : Int) (endI t p s) a z = true from decide_eq_true (by omega)]
 exact r26Inside_e t p s a z _ (endI t p s) _ hX rfl rfl b1 rfl b2 (by omega) (by omega) (by omega) (by omega)

set_option maxHeartbeats 3200000 in
theorem r26Free_c {w : World} {g base : Nat} {Z : Nat -> Prop} {t p s : Int} {L : List (Int × Int)} {R : Nat -> Int} (h : RMod w g base Z t p s L R) (hn : L.length <= 90000) (a z own : Int) : Calls Tryd.prog 23 #[.pointer (some ⟨g, 0, none⟩), .agg #[.int .i64 a, .int .i64 z], .int .i64 own] w fun e w' => e = .returned (.bool (freeM (pageN t p s : Int) (endI t p s) L a z own)) /\ Below w.heap.size w w' := by
 obtain ⟨b1, b2⟩ := end_le h.right
 obtain ⟨G, hG⟩ : ∃ G : Int, (pageN t p s : Int) = G := ⟨_, rfl⟩
 obtain ⟨E, hE⟩ : ∃ E : Int, endI t p s = E := ⟨_, rfl⟩
 have HIN := hidp (r26Inside_c (h.keep (Bnew (B0 w) (.cells #[.int .i64 a, .int .i64 z] 55))) a z)
 have HNS := hidp h.ins
 have HM := hidp (h.keep (Bnew (B0 w) (.cells #[.int .i64 a, .int .i64 z] 55)))
 rw [hG, hE] at HIN HNS b2
 rw [hG, hE]
 have HX := hidp (Held.new w 55 #[.int .i64 a, .int .i64 z])
 have HB := hidp (Bnew (B0 w) (.cells #[.int .i64 a, .int .i64 z] 55))
 obtain ⟨x0, x1⟩ := HX.out.two
 cases hi : insB G E a z with
 | false =>
  have HF : Hid (freeM G E L a z own = false) := hidp (freeM_no hi)
  have HI := hidp hi
  clear hi hG hE h b1 b2
  go_enter Tryd.func23, Tryd.ntmps23
  go_wp2_with fail
  refine HIN.out.mono ?_; rintro e w1 ⟨rfl, hb⟩; rw [HI.out]
  replace HB := hidp (Bgo HB.out hb)
  go_wp2
  go_ret
  exact ⟨by rw [HF.out]; rfl, HB.out⟩
 | true =>
  have HI := hidp hi
  have hib := of_decide_eq_true hi
  obtain ⟨nl, hnl⟩ : ∃ n, L.length = n := ⟨_, rfl⟩
  have HNL := hidp hnl
  rw [hnl] at hn
  clear hi hG hE h b1 hnl
  go_enter Tryd.func23, Tryd.ntmps23
  go_wp2_with fail
  refine HIN.out.mono ?_; rintro e w1 ⟨rfl, hb⟩; rw [HI.out]
  replace HB := hidp (Bgo HB.out hb)
  replace HX := hidp (HX.out.keep hb)
  replace HM := hidp (HM.out.keep hb)
  clear hb x0 x1
  go_wp2_with fail
  go_loopw [7, 8] (fun u7 u8 wr => ∃ i : Nat, i <= nl /\ u7 = .int .i64 (i : Int) /\ Hid (∀ (j : Nat) (x : Int × Int), j < i -> L[j]? = some x -> (j : Int) = own \/ hitB x a z = false) /\ Hid (RMod wr g base Z t p s L R) /\ Hid (Held wr w.heap.size 55 #[.int .i64 a, .int .i64 z]) /\ Hid (Below w.heap.size w wr)) (fun u7 _ _ => nl - (intOf u7).toNat)
  case atStart => exact ⟨0, by omega, rfl, hidp (fun j x hj => by omega), HM, HX, HB⟩
  case round =>
   clear HM HX HB
   obtain ⟨i, hi, rfl, HF, HM, HX, HB⟩ := hrel
   obtain ⟨x0, x1⟩ := HX.out.two
   obtain ⟨A, c, hx, ho⟩ := HM.out.ex
   obtain ⟨_, _, _, x3⟩ := mod_cells hx
   rw [HNL.out] at x3 ho
   have hcv := own_caps3 ho
   have HO := hidp ho
   clear hx ho
   by_cases hlt : i < nl
   ·obtain ⟨x, hx⟩ : ∃ x, L[i]? = some x := ⟨_, List.getElem?_eq_getElem (by have := HNL.out; omega)⟩
    obtain ⟨gv, cv', hvv, hbv, hlv⟩ := HO.out.form (by omega)
    injection hvv with hvv hn0 hcc
    subst hvv
    subst hcc
    obtain ⟨p0, p1⟩ := own_block0 HO.out HNL.out hx
    have HXX := hidp hx
    obtain ⟨ad, y⟩ := x
    have hin := of_decide_eq_true (HNS.out (ad, y) (List.mem_of_getElem? hx))
    have t0 : decide ((i : Int) < nl) = true := decide_eq_true (by omega)
    clear hn0 hx
    simp only at p0 p1 hin
    have hw1 : IntKind.i64.wrap (a + z) = a + z := i64_same (by omega) (by omega)
    have hw2 : IntKind.i64.wrap (ad + y) = ad + y := i64_same (by omega) (by omega)
    have HW := hidp (Held.new wr 55 #[.int .i64 ad, .int .i64 y])
    have HX1 := hidp (HX.out.alloc (.cells #[.int .i64 ad, .int .i64 y] 55))
    have HM1 := hidp (HM.out.keep (Bnew (B0 wr) (.cells #[.int .i64 ad, .int .i64 y] 55)))
    have HB1 := hidp (Bnew HB.out (.cells #[.int .i64 ad, .int .i64 y] 55))
    obtain ⟨y0, y1⟩ := HW.out.two
    obtain ⟨z0, z1⟩ := HX1.out.two
    have HSTEP : Hid (((i : Int) = own \/ hitB (ad, y) a z = false) -> ∀ (j : Nat) (x : Int × Int), j < i + 1 -> L[j]? = some x -> (j : Int) = own \/ hitB x a z = false) := hidp (fun he j x hj hx => by
     by_cases e : j = i
     ·subst e
      rw [HXX.out] at hx
      injection hx with hx
      subst hx
      exact he
     ·exact HF.out j x (by omega) hx)
    by_cases c1 : (i : Int) = own
    ·have q1 : ((i : Int) != own) = false := by simpa using c1
     have HF1 := hidp (HSTEP.out (.inl c1))
     clear c1 hin hib
     go_wp2_with fail
     go_roundw
     case rel => exact ⟨i + 1, by omega, by go_num, HF1, HM1, HX1, HB1⟩
     case measure => simp [intOf]; omega
    ·have q1 : ((i : Int) != own) = true := by simpa using c1
     by_cases c2 : ad < a + z
     ·have q2 : decide (ad < a + z) = true := decide_eq_true c2
      by_cases c3 : a < ad + y
      ·have q3 : decide (a < ad + y) = true := decide_eq_true c3
       have HR : Hid (freeM G E L a z own = false) := hidp (freeM_hit HXX.out c1 (by unfold hitB; simp only; rw [q2, q3]; rfl))
       clear c1 c2 c3 hin hib
       go_wp2_with fail
       go_ret
       exact ⟨by rw [HR.out]; rfl, HB1.out⟩
      ·have q3 : decide (a < ad + y) = false := decide_eq_false c3
       have HF1 := hidp (HSTEP.out (.inr (by unfold hitB; simp only; rw [q2, q3]; rfl)))
       clear c1 c2 c3 hin hib
       go_wp2_with fail
       go_roundw
       case rel => exact ⟨i + 1, by omega, by go_num, HF1, HM1, HX1, HB1⟩
       case measure => simp [intOf]; omega
     ·have q2 : decide (ad < a + z) = false := decide_eq_false c2
      have HF1 := hidp (HSTEP.out (.inr (by unfold hitB; simp only; rw [q2]; rfl)))
      clear c1 c2 hin hib
      go_wp2_with fail
      go_roundw
      case rel => exact ⟨i + 1, by omega, by go_num, HF1, HM1, HX1, HB1⟩
      case measure => simp [intOf]; omega
   ·have t0 : decide ((i : Int) < nl) = false := decide_eq_false (by omega)
    have HR : Hid (freeM G E L a z own = true) := hidp (freeM_all HI.out (fun j x hx => HF.out j x (by have := (List.getElem?_eq_some_iff.1 hx).1; have := HNL.out; omega) hx))
    go_wp2_with fail
    go_ret
    exact ⟨by rw [HR.out]; rfl, HB.out⟩
end
end Go.Proofs.YtedakmhffjhfnaaDoor
