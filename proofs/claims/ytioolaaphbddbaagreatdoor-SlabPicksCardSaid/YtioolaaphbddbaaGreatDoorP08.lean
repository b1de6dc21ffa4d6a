/-
  A range over a function whose value is a method of some receiver: one law for its caller (wp_seq), told by places (0, next 0, ..); regions that draw, in a round. No program is named here.
-/
import Derived.Test.YtioolaaphbddbaaGreatDoorP01
import Derived.RangeFuncNested
import Derived.RangeFuncBound
import Derived.RangeFuncLeaves
import Derived.Shelf.Abstract
import Derived.Shelf.RegionOpen
import Derived.WalkKit
import Derived.OwnWalkIn
import Derived.TacticsInMore
import Derived.LoopNIn
import Derived.LoopIn
import Derived.Deep.RegionHeld3
import Derived.Test.YtioolaaphbddbaaGreatDoorP07
import Derived.Laws.BitsAllLaws
import Derived.Laws.CopyOwn
import Derived.Laws.MakeOwn
import Derived.Deep.RegionLaw
import Derived.Test.YtioolaaphbddbaaGreatDoorP05
import Derived.Deep.RegionWith
import Derived.Deep.CutRange
import Derived.Deep.AppendLies
namespace Go.Proofs.YtioolaaphbddbaaGreatDoor
open Go.ChangeShapes Go.WideShapes Go.ChangeAt Go.RowKit Go.Maps
set_option linter.unusedVariables false
section
abbrev inR (l : Nat) : Fence := Fence.wide.inRound l
section
variable {P : Program} {ops : Array Oper} {Q : Exit → Act → World → Prop} {md : Region.Mode} {l n : Nat}
end

structure Mild (D : Nat) (w w' : World) : Prop where
  os : w'.os = w.os
  tape : w'.tape = w.tape
  output : w'.output = w.output
  size : w.heap.size ≤ w'.heap.size
  low : ∀ k, k < D → w'.heap[k]? = w.heap[k]?
  cells : ∀ (k : Nat) (o : Obj), w.heap[k]? = some o → o.isCells = true → w'.heap[k]? = some o
section
variable {D : Nat} {w w' w'' : World}
theorem Mild.refl (D : Nat) (w : World) : Mild D w w := ⟨rfl, rfl, rfl, Nat.le_refl _, fun _ _ => rfl, fun _ _ h _ => h⟩
theorem Mild.trans (h : Mild D w w') (k : Mild D w' w'') : Mild D w w'' :=
  ⟨k.os.trans h.os, k.tape.trans h.tape, k.output.trans h.output, Nat.le_trans h.size k.size, fun i hi => (k.low i hi).trans (h.low i hi), fun i o hi ho => k.cells i o (h.cells i o hi ho) ho⟩
theorem Mild.of_below (hD : D ≤ w.heap.size) (h : Below w.heap.size w w') : Mild D w w' :=
  ⟨h.os, h.tape, h.output, h.size, fun k hk => h.block k (by omega), fun k o hk _ => (h.block k (Array.getElem?_eq_some_iff.1 hk).1).trans hk⟩
theorem Mild.put {l : Nat} {o : Obj} (o' : Obj) (hl : D ≤ l) (h : w.heap[l]? = some o) (ho : o.isCells = false) : Mild D w (w.putObj l o') :=
  ⟨rfl, rfl, rfl, by simp, fun k hk => World.putObj_heap_other (by omega), fun k o2 hk ho2 => by
    by_cases e : k = l
    · subst e; rw [h] at hk; cases hk; rw [ho] at ho2; cases ho2
    · exact (World.putObj_heap_other e).trans hk⟩
theorem Mild.below {W : World} (h : Mild D w w') (hb : Below W.heap.size W w) (hD : W.heap.size ≤ D) : Below W.heap.size W w' :=
  ⟨h.os.trans hb.os, h.tape.trans hb.tape, h.output.trans hb.output, Nat.le_trans hb.size h.size, fun k hk => (h.low k (by omega)).trans (hb.block k hk)⟩
theorem Mild.held {g : Nat} {t : TypeId} {cs : Array Value} (h : Mild D w w') (hg : Held w g t cs) : Held w' g t cs := h.cells g _ hg rfl
theorem Mild.own {base : Nat} {e : TypeId} {size : Nat} {v : Value} {n : Nat} {xs : List Value} (h : Mild D w w') (ho : w.ownsRow base e size v n xs) : w'.ownsRow base e size v n xs := by
  refine ⟨ho.1, ?_⟩
  rcases ho.2 with h2 | ⟨g, cap, cur, rfl, hbg, hg, hr⟩
  · exact .inl h2
  · exact .inr ⟨g, cap, cur, rfl, hbg, h.cells g _ hg rfl, hr⟩
end

def SeqAt (P : Program) (gf : Nat) (bound : Array Value) (enc : Nat → Array Value) (can : Nat → Bool) (next : Nat → Nat) (w0 : World) : Prop :=
  ∀ (l : Nat) (J : Nat → (Nat → Prop) → World → Prop) (Jx : World → Prop) (W : World) (F0 : Nat → Prop), Below w0.heap.size w0 W →
    (∀ pos F A B, J pos F A → Below A.heap.size A B → J pos F B) → (∀ A B, Jx A → Below A.heap.size A B → Jx B) →
    (∀ pos F A, J pos F A → Below w0.heap.size w0 A) → (∀ pos F A, J pos F A → ∀ i, F i → i < A.heap.size) →
    (∀ pos F A, J pos F A → W.heap.size ≤ A.heap.size → can pos = true → YieldAt Fence.wide 0 P l (enc pos) A fun e B =>
      (e = .returned (.bool true) ∧ ∃ F', J (next pos) F' B ∧ A.heap.size ≤ B.heap.size ∧ (∀ k, W.heap.size ≤ k → k < A.heap.size → ¬ F k → B.heap[k]? = A.heap[k]?) ∧ ∀ i, F' i → F i ∨ A.heap.size ≤ i) ∨
      (e = .returned (.bool false) ∧ Jx B)) →
    J 0 F0 W →
    CallsIn Fence.wide 0 P gf (bound ++ #[.func (.yield l) #[] #[]]) W fun e B => (∃ v, e = .returned v) ∧ ((∃ pos F, J pos F B ∧ can pos = false) ∨ Jx B)

def seqPost (I : Nat → (Nat → Prop) → World → Prop) (Ix : Code → World → Prop) (pos : Nat) (F : Nat → Prop) (N : Nat) (A : World) : Exit → Act → World → Prop
  | .normal, _, B => Turns F A B ∧ ∃ F', I pos F' B ∧ ∀ i, F' i → F i ∨ N ≤ i
  | .ret, _, B => Turns F A B ∧ Ix .ret B
  | .exit id, _, B => Turns F A B ∧ Ix (.exit id) B
  | .goto t, _, B => Turns F A B ∧ Ix (.goto t) B
  | .panic _, _, _ => False
  | .outgrown, _, _ => False

def RoundGo (D : Nat) (P : Program) (l : Nat) (body : Code) (Q : World → Exit → Act → World → Prop) (A : World) (a₁ : Act) (A₁ : World) : Prop :=
  Below A.heap.size A A₁ ∧ ∀ A₂, Mild D A₁ A₂ → A₂.heap.size = A₁.heap.size → body.wpIn (inR l) 0 P (Q A₂) a₁ A₂

def mark (D : Nat) : Deferred := { target := .collected D, args := #[] }

theorem wp_seq {P : Program} {g : Operand} {ps : Array Tmp} {assign body : Code} {Q : Exit → Act → World → Prop} {a : Act} {w : World} {gf : Nat} {bound : Array Value}
    (hg : a.eval g = .func (.func gf) bound #[]) (eg : ∀ args w, (callFunc gf args).run P w = .ok (.enter gf args) w)
    {enc : Nat → Array Value} {can : Nat → Bool} {next : Nat → Nat} {w0 : World} (hseq : SeqAt P gf bound enc can next w0) (hb0 : Below w0.heap.size w0 w) (hps : ∀ pos, (enc pos).size = ps.size)
    (I : Nat → (Nat → Prop) → World → Prop) (Ix : Code → World → Prop)
    (hI : ∀ pos F A B, I pos F A → Mild w.heap.size A B → I pos F B) (hIx : ∀ c A B, Ix c A → Mild w.heap.size A B → Ix c B)
    (hIB : ∀ pos F A, I pos F A → Below w0.heap.size w0 A) (hIF : ∀ pos F A, I pos F A → ∀ i, F i → ∃ o, A.heap[i]? = some o ∧ o.isCells = true)
    {F0 : Nat → Prop} (h0 : I 0 F0 w)
    (hround : ∀ (l pos : Nat) (F : Nat → Prop) (A : World), can pos = true → I pos F A → w.heap.size ≤ A.heap.size →
      assign.wpIn (inR l) 0 P (Exit.then (RoundGo w.heap.size P l body (seqPost I Ix (next pos) F A.heap.size) A) (fun _ _ _ => False))
        { tmps := (ps.zip (enc pos)).foldl (fun t (p, v) => t.setIfInBounds p v) a.tmps, defers := [] } A)
    (hdone : ∀ (D pos : Nat) (F : Nat → Prop) (A : World), w.heap.size ≤ D → can pos = false → I pos F A → A.heap[D]? = some (.deferred (some [])) → Q .normal { a with defers := mark D :: a.defers } A)
    (hstop : ∀ (D : Nat) (c : Code) (A : World), w.heap.size ≤ D → Ix c A → A.heap[D]? = some (.deferred (some [])) → c.wp P Q { a with defers := mark D :: a.defers } A) :
    (Code.rangeFunc g ps assign body).wp P Q a w := by
  refine (wpIn_wide (n := 1)).1 (wpIn_rangeFunc ?_)
  intro fn hfn
  obtain ⟨rec, hrec⟩ : ∃ rec : LoopState → Option Code → Loop, rec = fun st pe => { state := st, pending := pe, fn, tmps := a.tmps, params := ps, assign, body, defers := w.heap.size } := ⟨_, rfl⟩
  obtain ⟨W1, hW1⟩ : ∃ W1, (w.alloc (.deferred (some []))).alloc (.loop (rec .ready none)) = W1 := ⟨_, rfl⟩
  have hbw : Below w.heap.size w W1 := by rw [← hW1]; exact Bnew (Bnew (B0 w) _) _
  have hs1 : W1.heap.size = w.heap.size + 2 := by rw [← hW1]; simp
  have hL1 : W1.heap[w.heap.size + 1]? = some (.loop (rec .ready none)) := by
    have := heap_alloc_new (w.alloc (.deferred (some []))) (.loop (rec .ready none))
    rw [hW1] at this; simpa using this
  have hK1 : W1.heap[w.heap.size]? = some (.deferred (some [])) := by
    rw [← hW1]; exact (Below.heap_alloc _ _ _ (by simp)).trans (heap_alloc_new w _)
  refine ⟨w.heap.size + 1, [mark w.heap.size], W1, { target := .fn (.func gf) #[], args := bound ++ #[.func (.yield (w.heap.size + 1)) #[] #[]] }, W1, gf, bound ++ #[.func (.yield (w.heap.size + 1)) #[] #[]], W1, ?_, ?_, ?_, ?_, fun _ => Nat.le_refl _, ?_⟩
  · rw [← hW1, hrec]; exact run_enterLoop_outer _ _ _ _ _
  · simp only [resolve, hg]
    simp [go_sem]
  · intro f' hf'; exact trivial
  · simp [invoke, go_sem, eg]
  · have keepRow : ∀ {A B : World} {k : Nat} {o : Obj}, Below A.heap.size A B → A.heap[k]? = some o → B.heap[k]? = some o := fun hb hk => (hb.block _ (Array.getElem?_eq_some_iff.1 hk).1).trans hk
    refine (hseq (w.heap.size + 1)
      (fun pos F A => I pos F A ∧ w.heap.size ≤ A.heap.size ∧ A.heap[w.heap.size + 1]? = some (.loop (rec .ready none)) ∧ A.heap[w.heap.size]? = some (.deferred (some [])))
      (fun A => ∃ c, Ix c A ∧ w.heap.size ≤ A.heap.size ∧ A.heap[w.heap.size + 1]? = some (.loop (rec .done (some c))) ∧ A.heap[w.heap.size]? = some (.deferred (some [])))
      W1 F0 (hb0.trans (hbw.mono hb0.size))
      (fun pos F A B h hb => ⟨hI pos F A B h.1 (Mild.of_below h.2.1 hb), Nat.le_trans h.2.1 hb.size, keepRow hb h.2.2.1, keepRow hb h.2.2.2⟩)
      (fun A B h hb => by obtain ⟨c, h1, h2, h3, h4⟩ := h; exact ⟨c, hIx c A B h1 (Mild.of_below h2 hb), Nat.le_trans h2 hb.size, keepRow hb h3, keepRow hb h4⟩)
      (fun pos F A h => hIB pos F A h.1)
      (fun pos F A h i hi => by obtain ⟨o, ho, _⟩ := hIF pos F A h.1 i hi; exact (Array.getElem?_eq_some_iff.1 ho).1)
      ?_ ⟨hI 0 F0 w W1 h0 (Mild.of_below (Nat.le_refl _) hbw), hbw.size, hL1, hK1⟩).mono ?_
    · rintro pos F A ⟨hi, hsz, hl, hk⟩ hsA hc
      have hlt : w.heap.size + 1 < A.heap.size := (Array.getElem?_eq_some_iff.1 hl).1
      have hy := run_yield (P := P) (args := enc pos) hl (by rw [hrec]; exact hps pos)
      rw [hrec] at hy
      have hFl : ¬ F (w.heap.size + 1) := fun hf => by obtain ⟨o, ho, hoc⟩ := hIF pos F A hi _ hf; rw [hl] at ho; cases ho; cases hoc
      have hFk : ¬ F w.heap.size := fun hf => by obtain ⟨o, ho, hoc⟩ := hIF pos F A hi _ hf; rw [hk] at ho; cases ho; cases hoc
      refine ⟨fn, _, assign, body, hy, roundIn_of_wpIn hfn (wpIn_mono (hround _ pos F A hc hi hsz) ?_)⟩
      rintro e a₁ A₁ hg1
      cases e with
      | normal =>
        obtain ⟨hbA, hgo⟩ := hg1
        have hl1 := keepRow hbA hl
        have hk1 := keepRow hbA hk
        have hlt1 : w.heap.size + 1 < A₁.heap.size := (Array.getElem?_eq_some_iff.1 hl1).1
        refine ⟨_, run_beginRound hl1 (by rw [hrec]), ?_⟩
        obtain ⟨A₂, hA₂⟩ : ∃ A₂, A₁.putObj (w.heap.size + 1) (.loop { rec .ready none with state := .busy }) = A₂ := ⟨_, rfl⟩
        have hl2 : A₂.heap[w.heap.size + 1]? = some (.loop { rec .ready none with state := .busy }) := by rw [← hA₂]; exact World.putObj_heap_same hlt1
        have hk2 : A₂.heap[w.heap.size]? = some (.deferred (some [])) := by rw [← hA₂]; exact (World.putObj_heap_other (by omega)).trans hk1
        have hM2 : Mild w.heap.size A₁ A₂ := by rw [← hA₂]; exact Mild.put _ (by omega) hl1 rfl
        have hs2 : A₂.heap.size = A₁.heap.size := by rw [← hA₂]; simp
        have hrows : ∀ k, W1.heap.size ≤ k → k < A.heap.size → A₂.heap[k]? = A.heap[k]? := fun k h1 h2 => by
          rw [← hA₂]; exact (World.putObj_heap_other (by omega)).trans (hbA.block k h2)
        rw [hA₂]
        refine wpIn_mono (hgo A₂ hM2 hs2) ?_
        have fin : ∀ (jump : Option Code) (B : World), Turns F A₂ B → (Instr.endRound (w.heap.size + 1) jump).run P B = .ok (.bool jump.isNone) (B.putObj (w.heap.size + 1) (.loop (rec (if jump.isNone then .ready else .done) jump))) ∧
            Mild w.heap.size B (B.putObj (w.heap.size + 1) (.loop (rec (if jump.isNone then .ready else .done) jump))) ∧
            (B.putObj (w.heap.size + 1) (.loop (rec (if jump.isNone then .ready else .done) jump))).heap[w.heap.size + 1]? = some (.loop (rec (if jump.isNone then .ready else .done) jump)) ∧
            (B.putObj (w.heap.size + 1) (.loop (rec (if jump.isNone then .ready else .done) jump))).heap[w.heap.size]? = some (.deferred (some [])) := fun jump B hT => by
          have hl3 := (hT.block _ (Array.getElem?_eq_some_iff.1 hl2).1 hFl).trans hl2
          have hk3 := (hT.block _ (Array.getElem?_eq_some_iff.1 hk2).1 hFk).trans hk2
          have := run_endRound (P := P) jump hl3
          rw [hrec] at this ⊢
          exact ⟨this, Mild.put _ (by omega) hl3 rfl, World.putObj_heap_same (Array.getElem?_eq_some_iff.1 hl3).1, (World.putObj_heap_other (by omega)).trans hk3⟩
        rintro e a3 B hp
        cases e with
        | normal =>
          obtain ⟨hT, F', hi3, hF'⟩ := hp
          obtain ⟨hr, hm, hl4, hk4⟩ := fin none B hT
          have hsB : A.heap.size ≤ B.heap.size := by have := hT.size; have := hbA.size; omega
          refine ⟨_, _, hr, .inl ⟨rfl, F', ⟨hI _ _ _ _ hi3 hm, ?_, hl4, hk4⟩, by simpa using hsB, fun k h1 h2 hf => ?_, hF'⟩⟩
          · have := hm.size; omega
          · rw [World.putObj_heap_other (by omega), hT.block k (by have := hbA.size; omega) hf]; exact hrows k h1 h2
        | ret =>
          obtain ⟨hT, hx⟩ := hp
          obtain ⟨hr, hm, hl4, hk4⟩ := fin (some .ret) B hT
          exact ⟨_, _, hr, .inr ⟨rfl, .ret, hIx _ _ _ hx hm, by have := hm.size; have := hT.size; have := hbA.size; omega, hl4, hk4⟩⟩
        | exit id =>
          obtain ⟨hT, hx⟩ := hp
          obtain ⟨hr, hm, hl4, hk4⟩ := fin (some (.exit id)) B hT
          exact ⟨_, _, hr, .inr ⟨rfl, .exit id, hIx _ _ _ hx hm, by have := hm.size; have := hT.size; have := hbA.size; omega, hl4, hk4⟩⟩
        | goto t =>
          obtain ⟨hT, hx⟩ := hp
          obtain ⟨hr, hm, hl4, hk4⟩ := fin (some (.goto t)) B hT
          exact ⟨_, _, hr, .inr ⟨rfl, .goto t, hIx _ _ _ hx hm, by have := hm.size; have := hT.size; have := hbA.size; omega, hl4, hk4⟩⟩
        | panic ch => exact hp.elim
        | outgrown => exact hp.elim
      | exit id => exact hg1.elim
      | goto t => exact hg1.elim
      | ret => exact hg1.elim
      | panic ch => exact hg1.elim
      | outgrown => exact hg1.elim
    · rintro e B ⟨⟨v, rfl⟩, (⟨pos, F, ⟨hi, hsz, hl, hk⟩, hc⟩ | ⟨c, hx, hsz, hl, hk⟩)⟩
      · have hm : Mild w.heap.size B (B.putObj (w.heap.size + 1) (.loop { rec .ready none with state := .exhausted })) := Mild.put _ (by omega) hl rfl
        exact ⟨none, _, by have := run_endLoop (P := P) hl (by rw [hrec]; simp); rw [hrec] at this ⊢; exact this, hdone _ pos F _ (Nat.le_refl _) hc (hI _ _ _ _ hi hm) ((World.putObj_heap_other (by omega)).trans hk)⟩
      · have hm : Mild w.heap.size B (B.putObj (w.heap.size + 1) (.loop { rec .done (some c) with state := .exhausted })) := Mild.put _ (by omega) hl rfl
        exact ⟨some c, _, by have := run_endLoop (P := P) hl (by rw [hrec]; simp); rw [hrec] at this ⊢; exact this, wpIn_wide.2 (hstop _ c _ (Nat.le_refl _) (hIx _ _ _ hx hm) ((World.putObj_heap_other (by omega)).trans hk))⟩
end
end Go.Proofs.YtioolaaphbddbaaGreatDoor

namespace Go.Proofs.YtioolaaphbddbaaGreatDoor
open Go.ChangeShapes Go.WideShapes Go.ChangeAt Go.RowKit Go.Shelf
set_option linter.unusedVariables false
set_option linter.unusedSimpArgs false
section
theorem Held.one {w : World} {g : Nat} {t : TypeId} {c0 : Value} (h : Held w g t #[c0]) : w.cell? ⟨g, 0, none⟩ = some c0 ∧ w.frozen? ⟨g, 0, none⟩ = false := ⟨h.cell 0, h.thawed 0⟩
theorem bool_no {b : Bool} {p : Prop} (hb : b = true ↔ p) (h : ¬ p) : b = false := by cases b; rfl; exact absurd (hb.1 rfl) h
theorem bool_yes {b : Bool} {p : Prop} (hb : b = true ↔ p) (h : p) : b = true := hb.2 h

section
attribute [local go_sem] Oper.semAt_some
end
end
end Go.Proofs.YtioolaaphbddbaaGreatDoor

namespace Go.Proofs.YtioolaaphbddbaaGreatDoor
open Go.ChangeShapes Go.WideShapes Go.ChangeAt Go.RowKit
set_option linter.unusedVariables false
set_option linter.unusedSimpArgs false
section
def slotKd (taken live s : Nat) : Nat := if live.testBit s then 2 else if taken.testBit s then 4 else 3
end
end Go.Proofs.YtioolaaphbddbaaGreatDoor

namespace Go.Proofs.YtioolaaphbddbaaGreatDoor
open Go.ChangeShapes Go.WideShapes Go.ChangeAt Go.RowKit Go.Shelf
set_option linter.unusedVariables false
set_option linter.unusedSimpArgs false
section
namespace AuH
def Foot (H : AuH) (q : Nat) : Prop := (∀ r, q ≤ r → r + 1 < q + H.ln q → H.cel r 1 = 0) ∧ H.cel (q + H.ln q - 1) 1 = q + 1
def R3 (H : AuH) : Prop := ∀ q, q < H.p → H.K q ≠ 0 → H.Foot q
end AuH
section
attribute [local go_sem] Oper.semAt_some

end
end
section
namespace AuH
def R4 (H : AuH) : Prop := ∀ q, H.At q → q < H.p → H.K q = 1 → H.nx q < H.p → H.K (H.nx q) ≠ 1
variable {H : AuH}
end AuH
section
attribute [local go_sem] Oper.semAt_some

end
end
section
def SubB (a b : Nat) : Prop := ∀ i, i < 32 → a.testBit i = true → b.testBit i = true
theorem sub_mask (a n : Nat) (ha : a < 2 ^ 32) (hn : n ≤ 32) : SubB a (2 ^ n - 1) ↔ a < 2 ^ n := by
  constructor
  · intro h
    apply Nat.lt_pow_two_of_testBit
    intro i hi
    rcases Nat.lt_or_ge i 32 with h2 | h2
    · cases hai : a.testBit i
      · rfl
      · have := h i h2 hai
        rw [Nat.testBit_two_pow_sub_one] at this
        have := of_decide_eq_true this
        omega
    · exact Nat.testBit_lt_two_pow (Nat.lt_of_lt_of_le ha (Nat.pow_le_pow_right (by omega) h2))
  · intro h i hi hai
    rw [Nat.testBit_two_pow_sub_one]
    rcases Nat.lt_or_ge i n with h2 | h2
    · exact decide_eq_true h2
    · rw [Nat.testBit_lt_two_pow (Nat.lt_of_lt_of_le h (Nat.pow_le_pow_right (by omega) h2))] at hai; cases hai
theorem sub_zero (a : Nat) (ha : a < 2 ^ 32) : SubB a 0 ↔ a = 0 := by
  have := sub_mask a 0 ha (by omega)
  simpa using this
namespace AuH
def Slot5 (H : AuH) (q : Nat) : Prop := (H.K q = 3 → H.cel q 5 ≠ 0 ∧ H.cel q 5 < 2 ^ slotI (H.Cl q) ∧ SubB (H.cel q 4) (H.cel q 5)) ∧ (H.K q ≠ 3 → H.cel q 5 = 0 ∧ H.cel q 4 = 0)
def R5 (H : AuH) : Prop := ∀ q, q < H.p → H.Slot5 q
def may (H : AuH) (q : Nat) : Nat := if H.K q = 3 then 2 ^ slotI (H.Cl q) - 1 else 0
variable {H : AuH}
end AuH
section
attribute [local go_sem] Oper.semAt_some

end
end
section
namespace AuH
variable (H : AuH)
def freeF (q : Nat) : Nat := if H.K q = 1 then H.ln q else 0
def liveF (q : Nat) : Nat := if H.K q = 2 then 1 else if H.K q = 3 then HM.onesTo (H.cel q 4) 32 else 0
def R9 : Prop := H.V 0 = sumTo H.freeF H.p % 4294967296 ∧ H.V 1 = sumTo H.liveF H.p % 4294967296
variable {H}
theorem freeF_le (q : Nat) : H.freeF q ≤ 1024 := by
  unfold freeF
  split
  · exact (H.ln_pos q (by omega)).2
  · omega
theorem liveF_le (q : Nat) : H.liveF q ≤ 32 := by
  unfold liveF
  split
  · omega
  · split
    · exact HM.onesTo_le _ _
    · omega
theorem sums_le (x : Nat) (hx : x ≤ 1024) : sumTo H.freeF x ≤ 1048576 ∧ sumTo H.liveF x ≤ 32768 := by
  have h1 := sumTo_le H.freeF 1024 x (fun q _ => freeF_le q)
  have h2 := sumTo_le H.liveF 32 x (fun q _ => liveF_le q)
  have h3 : x * 1024 ≤ 1024 * 1024 := Nat.mul_le_mul_right _ hx
  have h4 : x * 32 ≤ 1024 * 32 := Nat.mul_le_mul_right _ hx
  omega
end AuH
section
attribute [local go_sem] Oper.semAt_some

end
end
section
namespace AuH
def tgt (H : AuH) (q : Nat) : Int := if H.K q = 1 then 2 + HM.logI (H.ln q : Int) else if H.K q = 3 ∧ H.cel q 5 ≠ 2 ^ slotI (H.Cl q) - 1 then 13 + H.Cl q else -1
variable {H : AuH}
theorem tgt_free {q : Nat} (h : H.K q = 1) : H.tgt q = 2 + HM.logI (H.ln q : Int) := by unfold tgt; rw [if_pos h]
theorem tgt_slab {q : Nat} (h : H.K q = 3) (h2 : H.cel q 5 ≠ 2 ^ slotI (H.Cl q) - 1) : H.tgt q = 13 + H.Cl q := by unfold tgt; rw [if_neg (by omega), if_pos ⟨h, h2⟩]
theorem tgt_full {q : Nat} (h : H.K q = 3) (h2 : H.cel q 5 = 2 ^ slotI (H.Cl q) - 1) : H.tgt q = -1 := by unfold tgt; rw [if_neg (by omega), if_neg (fun h3 => h3.2 h2)]
theorem log_few {n : Nat} (h1 : 1 ≤ n) (h2 : n ≤ 1024) : 0 ≤ HM.logI (n : Int) ∧ HM.logI (n : Int) ≤ 10 := by
  have h : ∃ k : Nat, k ≤ 10 ∧ 2 ^ k ≤ n ∧ n < 2 ^ (k + 1) := by
    rcases Nat.lt_or_ge n 1024 with h3 | h3
    · refine ⟨Nat.log2 n, ?_, Nat.log2_self_le (by omega), Nat.lt_log2_self⟩
      have := Nat.log2_lt (n := n) (k := 10) (by omega)
      have := this.2 h3
      omega
    · exact ⟨10, by omega, by omega, by omega⟩
  obtain ⟨k, hk, ha, hb⟩ := h
  rw [HM.logI_at (n : Int) k (by
    have e : ((n : Int) / 2 ^ k) = ((n / 2 ^ k : Nat) : Int) := by push_cast; rfl
    rw [e]
    have := Nat.div_le_div_right (c := 2 ^ k) ha
    rw [Nat.div_self (Nat.two_pow_pos k)] at this
    omega) (by
    have e : ((n : Int) / 2 ^ (k + 1)) = ((n / 2 ^ (k + 1) : Nat) : Int) := by push_cast; rfl
    rw [e, Nat.div_eq_of_lt hb]
    omega)]
  omega
end AuH
section
attribute [local go_sem] Oper.semAt_some

end
end
section
namespace AuH
variable (H : AuH)
def chain (head : Int) : Nat → Nat → Nat → Prop
  | 0, at_, _ => at_ = 0
  | m + 1, at_, ahead => (1 ≤ at_ ∧ at_ ≤ H.p ∧ H.tgt (at_ - 1) = head ∧ H.cel (at_ - 1) 3 = ahead) ∧ chain head m (H.cel (at_ - 1) 2) at_
def isF (head : Int) (q : Nat) : Nat := if H.tgt q = head then 1 else 0
def cnt (head : Int) (x : Nat) : Nat := sumTo (H.isF head) x
def ListOk (head : Nat) : Prop := H.chain head (H.cnt head H.p) (H.V head) 0
variable {H}
end AuH
end
section
namespace AuH
def R8 (H : AuH) : Prop := ∀ q, q < H.p → H.tgt q = -1 → H.cel q 2 = 0 ∧ H.cel q 3 = 0
end AuH
end
section
namespace AuH
variable (H : AuH)
def LiveAt (a : Int) : Prop := spotB H.t H.p H.s a = true ∧
  ((H.K (spotP H.t H.p H.s a).toNat = 2 ∧ spotO H.t H.p H.s a = 0) ∨
   (H.K (spotP H.t H.p H.s a).toNat = 3 ∧ slotB H.t H.p H.s (H.Cl (spotP H.t H.p H.s a).toNat) (spotO H.t H.p H.s a) = true ∧
     (H.cel (spotP H.t H.p H.s a).toNat 4).testBit (slotR H.t H.p H.s (H.Cl (spotP H.t H.p H.s a).toNat) (spotO H.t H.p H.s a)).toNat = true))
def R10 : Prop := ∀ i, i < 8 → H.V (22 + i) ≠ 0 → H.LiveAt (H.V (22 + i) : Int)
end AuH
end
section
def AuH.rule (H : AuH) : Nat → Prop
  | 1 => H.Tiled
  | 2 => H.R3
  | 3 => H.R4
  | 4 => H.R5
  | 5 => ∀ k, k < 11 → H.ListOk (2 + k)
  | 6 => ∀ k, k < 9 → H.ListOk (13 + k)
  | 7 => H.R8
  | 8 => H.R9
  | 9 => H.R10
  | _ => True
def AuH.Told (H : AuH) (m : Nat) (b : Bool) : Prop := (b = true ∧ m = 0 ∧ ∀ i, i < 10 → H.rule i) ∨ (b = false ∧ ∃ k, m = k + 1 ∧ 1 ≤ k ∧ k < 10 ∧ (∀ i, i < k → H.rule i) ∧ ¬ H.rule k)
theorem AuH.Told.one {H : AuH} {m m' : Nat} {b b' : Bool} (h : H.Told m b) (h' : H.Told m' b') : m = m' ∧ b = b' := by
  rcases h with ⟨rfl, rfl, h1⟩ | ⟨rfl, k, rfl, k1, k2, h1, h2⟩ <;> rcases h' with ⟨rfl, rfl, h3⟩ | ⟨rfl, j, rfl, j1, j2, h3, h4⟩
  · exact ⟨rfl, rfl⟩
  · exact absurd (h1 j j2) h4
  · exact absurd (h3 k k2) h2
  · rcases Nat.lt_trichotomy k j with h5 | h5 | h5
    · exact absurd (h3 k h5) h2
    · subst h5; exact ⟨rfl, rfl⟩
    · exact absurd (h1 j h5) h4
theorem first_no (R : Nat → Prop) : ∀ n, (∀ i, i < n → R i) ∨ ∃ k, k < n ∧ (∀ i, i < k → R i) ∧ ¬ R k
  | 0 => .inl fun i h => absurd h (by omega)
  | n + 1 => by
    rcases first_no R n with h | ⟨k, h1, h2, h3⟩
    · by_cases hn : R n
      · exact .inl fun i hi => by
          rcases Nat.lt_or_ge i n with h4 | h4
          · exact h i h4
          · have : i = n := by omega
            subst this; exact hn
      · exact .inr ⟨n, by omega, h, hn⟩
    · exact .inr ⟨k, by omega, h2, h3⟩
theorem AuH.told_is (H : AuH) : ∃ m b, H.Told m b := by
  rcases first_no H.rule 10 with h | ⟨k, h1, h2, h3⟩
  · exact ⟨0, true, .inl ⟨rfl, rfl, h⟩⟩
  · refine ⟨k + 1, false, .inr ⟨rfl, k, rfl, ?_, h1, h2, h3⟩⟩
    rcases Nat.eq_zero_or_pos k with h6 | h6
    · subst h6; exact absurd trivial h3
    · exact h6
end
section
set_option maxHeartbeats 1600000 in
theorem xSlots_c {H : AuH} {n c : Nat} (HV : HeapV H n c) (ad : Addr) {q : Nat} (hq : q < H.p) (w : World) (hv : IsVals w ad n H.V) :
    Calls Tryz.prog 55 #[hpV H ad n c, .int .i64 (q : Int)] w fun e w' => e = .returned (.int .u32 (H.cel q 4 : Nat)) ∧ Below w.heap.size w w' := by
  obtain ⟨i, hii⟩ : ∃ i, 30 + 4 * H.t + 6 * q + 4 = i := ⟨_, rfl⟩
  have hini : i < n := by have := HV.len; omega
  have HI : Hid (pageI H.t H.p H.s q 4 = (i : Int)) := hidp (by have h := HV.page (b := 4) hq (by omega); rw [hii] at h; exact h)
  have h32i := HV.cel_lt hq (show 4 < 6 by omega)
  have hceli : H.cel q 4 = H.V i := by unfold AuH.cel; rw [hii]
  obtain ⟨v, hvvv⟩ : ∃ v, H.cel q 4 = v := ⟨_, rfl⟩
  have HCv := hidp hvvv
  rw [hvvv] at h32i
  have hci := (hv).2 i hini
  rw [← hceli, hvvv] at hci
  have hbli : (ad.add i).block < w.heap.size := by rw [block_of_add]; exact (hv).1
  have hn := HV.nums
  have hcx : c ≤ 9223372036854775807 := hn.2.2.2.2.2.2.2.2
  have hni : n ≤ 6238 := hn.2.2.2.2.2.2.1
  have hnc := HV.cap
  rw [hvvv]
  have hc := Held.new w 58 #[.int .i64 (H.t : Int), .int .i64 (H.p : Int), .int .i64 (H.s : Int), .slice (some ad) n c]
  have HS : Hid (∀ w', Below w.heap.size w w' → Held w' w.heap.size 58 #[.int .i64 (H.t : Int), .int .i64 (H.p : Int), .int .i64 (H.s : Int), .slice (some ad) n c] → (fun w' => w'.cell? ⟨w.heap.size, 0, none⟩ = some (.int .i64 (H.t : Int)) ∧ w'.cell? ⟨w.heap.size, 1, none⟩ = some (.int .i64 (H.p : Int)) ∧ w'.cell? ⟨w.heap.size, 2, none⟩ = some (.int .i64 (H.s : Int)) ∧ w'.cell? ⟨w.heap.size, 3, none⟩ = some (.slice (some ad) n c) ∧ w'.cell? (ad.add i) = some (.int .u32 (v : Int))) w') := hidp (fun w' hb hh => ⟨hh.four.1, hh.four.2.1, hh.four.2.2.1, hh.four.2.2.2, (hb.cell hbli).trans hci⟩)
  clear hv hci hbli hceli hvvv hii hn hq HCv h32i
  unfold hpV
  go_enter Tryz.func55, Tryz.ntmps55
  go_wp2_with fail
  refine wp_region_held_drew (S := (fun w' => w'.cell? ⟨w.heap.size, 0, none⟩ = some (.int .i64 (H.t : Int)) ∧ w'.cell? ⟨w.heap.size, 1, none⟩ = some (.int .i64 (H.p : Int)) ∧ w'.cell? ⟨w.heap.size, 2, none⟩ = some (.int .i64 (H.s : Int)) ∧ w'.cell? ⟨w.heap.size, 3, none⟩ = some (.slice (some ad) n c) ∧ w'.cell? (ad.add i) = some (.int .u32 (v : Int)))) (by kernel_rfl) ?_ (fun hHeld => ?_)
  · (try dsimp only)
    first | exact HS.out _ (Bdrew (Bnew (B0 w) _)) hc | exact HS.out _ HB1.out HC1.out | exact hHeld
  refine tkz 0 ?_
  refine tkz 1 ?_
  refine tkz 2 ?_
  refine tkz 3 ?_
  refine tkz 4 ?_
  refine wpAnyH_ready (rs := [5]) (by kernel_rfl) (by simp) ?_
  refine AllReadyH.cons (o := _) rfl (fun K hK => ?_) AllReadyH.nil
  go_simp
  (go_at_call 98; refine (r7Slots_c _ _ _ _ _).mono ?_; rintro e w1 ⟨rfl, hb1⟩; rw [HI.out]; have HB1 := hidp (Bgo (Bdrew (Bnew (B0 w) _)) hb1); have HC1 := hidp (hc.drew.keep hb1); clear hb1)
  refine hK.out _ _ ?_ (fun hHeld => ?_)
  · (try dsimp only)
    first | exact HS.out _ (Bdrew (Bnew (B0 w) _)) hc | exact HS.out _ HB1.out HC1.out | exact hHeld
  clear hK K
  (try simp only [Act.put, gA, gB, gC, sA, sB, sC])
  refine tkz 6 ?_
  refine tkz 7 ?_
  refine tkz 8 ?_
  refine wpAnyH_done (by kernel_rfl) ?_ _
  go_wp2
  go_ret
  exact ⟨rfl, HB1.out⟩

set_option maxHeartbeats 1600000 in
theorem xTaken_c {H : AuH} {n c : Nat} (HV : HeapV H n c) (ad : Addr) {q : Nat} (hq : q < H.p) (w : World) (hv : IsVals w ad n H.V) :
    Calls Tryz.prog 29 #[hpV H ad n c, .int .i64 (q : Int)] w fun e w' => e = .returned (.int .u32 (H.cel q 5 : Nat)) ∧ Below w.heap.size w w' := by
  obtain ⟨i, hii⟩ : ∃ i, 30 + 4 * H.t + 6 * q + 5 = i := ⟨_, rfl⟩
  have hini : i < n := by have := HV.len; omega
  have HI : Hid (pageI H.t H.p H.s q 5 = (i : Int)) := hidp (by have h := HV.page (b := 5) hq (by omega); rw [hii] at h; exact h)
  have h32i := HV.cel_lt hq (show 5 < 6 by omega)
  have hceli : H.cel q 5 = H.V i := by unfold AuH.cel; rw [hii]
  obtain ⟨v, hvvv⟩ : ∃ v, H.cel q 5 = v := ⟨_, rfl⟩
  have HCv := hidp hvvv
  rw [hvvv] at h32i
  have hci := (hv).2 i hini
  rw [← hceli, hvvv] at hci
  have hbli : (ad.add i).block < w.heap.size := by rw [block_of_add]; exact (hv).1
  have hn := HV.nums
  have hcx : c ≤ 9223372036854775807 := hn.2.2.2.2.2.2.2.2
  have hni : n ≤ 6238 := hn.2.2.2.2.2.2.1
  have hnc := HV.cap
  rw [hvvv]
  have hc := Held.new w 58 #[.int .i64 (H.t : Int), .int .i64 (H.p : Int), .int .i64 (H.s : Int), .slice (some ad) n c]
  have HS : Hid (∀ w', Below w.heap.size w w' → Held w' w.heap.size 58 #[.int .i64 (H.t : Int), .int .i64 (H.p : Int), .int .i64 (H.s : Int), .slice (some ad) n c] → (fun w' => w'.cell? ⟨w.heap.size, 0, none⟩ = some (.int .i64 (H.t : Int)) ∧ w'.cell? ⟨w.heap.size, 1, none⟩ = some (.int .i64 (H.p : Int)) ∧ w'.cell? ⟨w.heap.size, 2, none⟩ = some (.int .i64 (H.s : Int)) ∧ w'.cell? ⟨w.heap.size, 3, none⟩ = some (.slice (some ad) n c) ∧ w'.cell? (ad.add i) = some (.int .u32 (v : Int))) w') := hidp (fun w' hb hh => ⟨hh.four.1, hh.four.2.1, hh.four.2.2.1, hh.four.2.2.2, (hb.cell hbli).trans hci⟩)
  clear hv hci hbli hceli hvvv hii hn hq HCv h32i
  unfold hpV
  go_enter Tryz.func29, Tryz.ntmps29
  go_wp2_with fail
  refine wp_region_held_drew (S := (fun w' => w'.cell? ⟨w.heap.size, 0, none⟩ = some (.int .i64 (H.t : Int)) ∧ w'.cell? ⟨w.heap.size, 1, none⟩ = some (.int .i64 (H.p : Int)) ∧ w'.cell? ⟨w.heap.size, 2, none⟩ = some (.int .i64 (H.s : Int)) ∧ w'.cell? ⟨w.heap.size, 3, none⟩ = some (.slice (some ad) n c) ∧ w'.cell? (ad.add i) = some (.int .u32 (v : Int)))) (by kernel_rfl) ?_ (fun hHeld => ?_)
  · (try dsimp only)
    first | exact HS.out _ (Bdrew (Bnew (B0 w) _)) hc | exact HS.out _ HB1.out HC1.out | exact hHeld
  refine tkz 0 ?_
  refine tkz 1 ?_
  refine tkz 2 ?_
  refine tkz 3 ?_
  refine tkz 4 ?_
  refine wpAnyH_ready (rs := [5]) (by kernel_rfl) (by simp) ?_
  refine AllReadyH.cons (o := _) rfl (fun K hK => ?_) AllReadyH.nil
  go_simp
  (go_at_call 46; refine (r7Taken_c _ _ _ _ _).mono ?_; rintro e w1 ⟨rfl, hb1⟩; rw [HI.out]; have HB1 := hidp (Bgo (Bdrew (Bnew (B0 w) _)) hb1); have HC1 := hidp (hc.drew.keep hb1); clear hb1)
  refine hK.out _ _ ?_ (fun hHeld => ?_)
  · (try dsimp only)
    first | exact HS.out _ (Bdrew (Bnew (B0 w) _)) hc | exact HS.out _ HB1.out HC1.out | exact hHeld
  clear hK K
  (try simp only [Act.put, gA, gB, gC, sA, sB, sC])
  refine tkz 6 ?_
  refine tkz 7 ?_
  refine tkz 8 ?_
  refine wpAnyH_done (by kernel_rfl) ?_ _
  go_wp2
  go_ret
  exact ⟨rfl, HB1.out⟩

set_option maxHeartbeats 3200000 in
set_option maxRecDepth 100000 in
theorem xInfo_c {H : AuH} {n c : Nat} (HV : HeapV H n c) (ad : Addr) {q : Nat} (hq : q < H.p) (w : World) (hv : IsVals w ad n H.V) :
    Calls Tryz.prog 27 #[hpV H ad n c, .int .i64 (q : Int)] w fun e w' => e = .returned (.agg #[.int .i64 (H.K q), .int .i64 (H.ln q : Int), .int .i64 (H.Cl q)]) ∧ Below w.heap.size w w' := by
  obtain ⟨i, hii⟩ : ∃ i, 30 + 4 * H.t + 6 * q + 0 = i := ⟨_, rfl⟩
  have hini : i < n := by have := HV.len; omega
  have HI : Hid (pageI H.t H.p H.s q 0 = (i : Int)) := hidp (by have h := HV.page (b := 0) hq (by omega); rw [hii] at h; exact h)
  have h32i := HV.cel_lt hq (show 0 < 6 by omega)
  have hceli : H.cel q 0 = H.V i := by unfold AuH.cel; rw [hii]
  obtain ⟨v, hvvv⟩ : ∃ v, H.cel q 0 = v := ⟨_, rfl⟩
  have HCv := hidp hvvv
  rw [hvvv] at h32i
  have hci := (hv).2 i hini
  rw [← hceli, hvvv] at hci
  have hbli : (ad.add i).block < w.heap.size := by rw [block_of_add]; exact (hv).1
  have hn := HV.nums
  have hcx : c ≤ 9223372036854775807 := hn.2.2.2.2.2.2.2.2
  have hni : n ≤ 6238 := hn.2.2.2.2.2.2.1
  have hnc := HV.cap
  have hie := H.info_eq q
  rw [H.L_ln, hvvv] at hie
  generalize H.K q = k at *
  generalize H.ln q = m at *
  generalize H.Cl q = cl at *
  generalize H.ok q = okb at *
  have HG := hidp hie
  have hc := (Held.new w 58 #[.int .i64 (H.t : Int), .int .i64 (H.p : Int), .int .i64 (H.s : Int), .slice (some ad) n c]).alloc (.cells #[.int .i64 0, .int .i64 0, .int .i64 0] 60)
  have HR := hidp (Held.new2 w (.cells #[.int .i64 (H.t : Int), .int .i64 (H.p : Int), .int .i64 (H.s : Int), .slice (some ad) n c] 58) 60 #[.int .i64 0, .int .i64 0, .int .i64 0])
  have HBW := hidp (Bnew (Bnew (B0 w) (.cells #[.int .i64 (H.t : Int), .int .i64 (H.p : Int), .int .i64 (H.s : Int), .slice (some ad) n c] 58)) (.cells #[.int .i64 0, .int .i64 0, .int .i64 0] 60))
  have HS : Hid (∀ w', Below ((w.alloc (.cells #[.int .i64 (H.t : Int), .int .i64 (H.p : Int), .int .i64 (H.s : Int), .slice (some ad) n c] 58)).alloc (.cells #[.int .i64 0, .int .i64 0, .int .i64 0] 60)).heap.size ((w.alloc (.cells #[.int .i64 (H.t : Int), .int .i64 (H.p : Int), .int .i64 (H.s : Int), .slice (some ad) n c] 58)).alloc (.cells #[.int .i64 0, .int .i64 0, .int .i64 0] 60)) w' → (fun w' => w'.cell? ⟨w.heap.size, 0, none⟩ = some (.int .i64 (H.t : Int)) ∧ w'.cell? ⟨w.heap.size, 1, none⟩ = some (.int .i64 (H.p : Int)) ∧ w'.cell? ⟨w.heap.size, 2, none⟩ = some (.int .i64 (H.s : Int)) ∧ w'.cell? ⟨w.heap.size, 3, none⟩ = some (.slice (some ad) n c) ∧ w'.cell? (ad.add i) = some (.int .u32 (v : Int))) w') := hidp (fun w' hb => by have hh := hc.keep hb; exact ⟨hh.four.1, hh.four.2.1, hh.four.2.2.1, hh.four.2.2.2, ((Bgo HBW.out hb).cell hbli).trans hci⟩)
  clear hv hci hbli hceli hvvv hii hn hq HCv hie hc
  unfold hpV
  go_enter Tryz.func27, Tryz.ntmps27
  go_upto_region 1 with fail
  go_cut [5, 6] from 7 to 18 (fun u5 u6 wx => ∃ g : Nat, u5 = .pointer (some ⟨g, 0, none⟩) ∧ Held wx g 60 #[(.int .i64 k), (.int .i64 (m : Int)), (.int .i64 cl)] ∧ Below ((w.alloc (.cells #[.int .i64 (H.t : Int), .int .i64 (H.p : Int), .int .i64 (H.s : Int), .slice (some ad) n c] 58)).alloc (.cells #[.int .i64 0, .int .i64 0, .int .i64 0] 60)).heap.size ((w.alloc (.cells #[.int .i64 (H.t : Int), .int .i64 (H.p : Int), .int .i64 (H.s : Int), .slice (some ad) n c] 58)).alloc (.cells #[.int .i64 0, .int .i64 0, .int .i64 0] 60)) wx ∧ ((w.alloc (.cells #[.int .i64 (H.t : Int), .int .i64 (H.p : Int), .int .i64 (H.s : Int), .slice (some ad) n c] 58)).alloc (.cells #[.int .i64 0, .int .i64 0, .int .i64 0] 60)).heap.size ≤ g)
  case first =>
    have HB := hidp (Bdrew (B0 (((w.alloc (.cells #[.int .i64 (H.t : Int), .int .i64 (H.p : Int), .int .i64 (H.s : Int), .slice (some ad) n c] 58)).alloc (.cells #[.int .i64 0, .int .i64 0, .int .i64 0] 60)))))
    refine wp_region_held_drew (S := (fun w' => w'.cell? ⟨w.heap.size, 0, none⟩ = some (.int .i64 (H.t : Int)) ∧ w'.cell? ⟨w.heap.size, 1, none⟩ = some (.int .i64 (H.p : Int)) ∧ w'.cell? ⟨w.heap.size, 2, none⟩ = some (.int .i64 (H.s : Int)) ∧ w'.cell? ⟨w.heap.size, 3, none⟩ = some (.slice (some ad) n c) ∧ w'.cell? (ad.add i) = some (.int .u32 (v : Int)))) (by kernel_rfl) ?_ (fun hHeld => ?_)
    · (try dsimp only)
      exact HS.out _ HB.out
    generalize hq0 : (((w.alloc (.cells #[.int .i64 (H.t : Int), .int .i64 (H.p : Int), .int .i64 (H.s : Int), .slice (some ad) n c] 58)).alloc (.cells #[.int .i64 0, .int .i64 0, .int .i64 0] 60))).drew = q0 at HB hHeld ⊢
    clear hq0
    refine tkz 0 ?_
    refine tkz 1 ?_
    refine tkz 2 ?_
    refine tkz 3 ?_
    refine tkz 4 ?_
    refine wpAnyH_ready (rs := [5, 12]) (by kernel_rfl) (by simp) ?_
    refine AllReadyH.cons (o := _) rfl (fun K hK => ?_) (AllReadyH.cons (o := _) rfl (fun K hK => ?_) AllReadyH.nil)
    · skip
      go_simp
      (go_at_call 43; refine (r7Info_c _ _ _ _ _).mono ?_; rintro e q1 ⟨rfl, hb1⟩; rw [HI.out]; have HB := hidp (Bgo HB.out hb1); skip; clear hb1)
      refine hK.out _ _ ?_ (fun hHeld => ?_)
      · (try dsimp only)
        exact HS.out _ HB.out
      clear hK K
      (try simp only [Act.put, gA, gB, gC, sA, sB, sC])
      refine tkz 6 ?_
      refine tkz 7 ?_
      refine wpAnyH_ready (rs := [8, 12]) (by kernel_rfl) (by simp) ?_
      refine AllReadyH.cons (o := _) rfl (fun K hK => ?_) (AllReadyH.cons (o := _) rfl (fun K hK => ?_) AllReadyH.nil)
      · skip
        go_simp
        (go_at_call 64; refine (r9Get_c _ _ _ _ _ h32i HG.out _).mono ?_; rintro e q2 ⟨rfl, hb1⟩; have HB := hidp (Bgo HB.out hb1); skip; clear hb1)
        refine hK.out _ _ ?_ (fun hHeld => ?_)
        · (try dsimp only)
          exact HS.out _ HB.out
        clear hK K
        (try simp only [Act.put, gA, gB, gC, sA, sB, sC])
        refine tkz 9 ?_
        refine tkz 10 ?_
        refine tkz 11 ?_
        refine wpAnyH_ready (rs := [12]) (by kernel_rfl) (by simp) ?_
        refine AllReadyH.cons (o := _) rfl (fun K hK => ?_) AllReadyH.nil
        · skip
          go_simp
          have HLE := hidp HB.out.size
          have HB := hidp (Bnew HB.out (.cells #[.int .i64 0, .int .i64 0, .int .i64 0] 60))
          have HN := hidp (Held.new q2 60 #[.int .i64 0, .int .i64 0, .int .i64 0])
          try simp only [World.heap_drew] at HLE HN
          generalize hq3 : q2.alloc (.cells #[.int .i64 0, .int .i64 0, .int .i64 0] 60) = q3 at HB HN ⊢
          clear hq3
          refine hK.out _ _ ?_ (fun hHeld => ?_)
          · (try dsimp only)
            exact HS.out _ HB.out
          clear hK K
          (try simp only [Act.put, gA, gB, gC, sA, sB, sC])
          refine wpAnyH_ready (rs := [13]) (by kernel_rfl) (by simp) ?_
          refine AllReadyH.cons (o := _) rfl (fun K hK => ?_) AllReadyH.nil
          obtain ⟨z0, z1, z2⟩ := HN.out.three
          have f0 := HN.out.thawed 0
          have f1 := HN.out.thawed 1
          have f2 := HN.out.thawed 2
          go_simp
          have HN := hidp (HN.out.put 0 (.int .i64 k))
          have HN := hidp (HN.out.put 1 (.int .i64 (m : Int)))
          have HN := hidp (HN.out.put 2 (.int .i64 cl))
          have HB := hidp (Bput (p := ⟨_, 2, none⟩) (Bput (p := ⟨_, 1, none⟩) (Bput (p := ⟨_, 0, none⟩) HB.out HLE.out (.int .i64 k)) HLE.out (.int .i64 (m : Int))) HLE.out (.int .i64 cl))
          clear z0 z1 z2 f0 f1 f2
          refine hK.out _ _ ?_ (fun hHeld => ?_)
          · (try dsimp only)
            exact HS.out _ HB.out
          clear hK K
          (try simp only [Act.put, gA, gB, gC, sA, sB, sC])
          refine tkz 14 ?_
          refine wpAnyH_done (by kernel_rfl) ?_ _
          go_wp2_with fail
          go_meet
          case rel => exact ⟨_, rfl, HN.out, HB.out, HLE.out⟩
      · skip
        go_simp
        have HLE := hidp HB.out.size
        have HB := hidp (Bnew HB.out (.cells #[.int .i64 0, .int .i64 0, .int .i64 0] 60))
        have HN := hidp (Held.new q1 60 #[.int .i64 0, .int .i64 0, .int .i64 0])
        try simp only [World.heap_drew] at HLE HN
        generalize hq4 : q1.alloc (.cells #[.int .i64 0, .int .i64 0, .int .i64 0] 60) = q4 at HB HN ⊢
        clear hq4
        refine hK.out _ _ ?_ (fun hHeld => ?_)
        · (try dsimp only)
          exact HS.out _ HB.out
        clear hK K
        (try simp only [Act.put, gA, gB, gC, sA, sB, sC])
        refine wpAnyH_ready (rs := [8]) (by kernel_rfl) (by simp) ?_
        refine AllReadyH.cons (o := _) rfl (fun K hK => ?_) AllReadyH.nil
        · skip
          go_simp
          (go_at_call 64; refine (r9Get_c _ _ _ _ _ h32i HG.out _).mono ?_; rintro e q5 ⟨rfl, hb1⟩; have HB := hidp (Bgo HB.out hb1); have HN := hidp (HN.out.keep hb1); clear hb1)
          refine hK.out _ _ ?_ (fun hHeld => ?_)
          · (try dsimp only)
            exact HS.out _ HB.out
          clear hK K
          (try simp only [Act.put, gA, gB, gC, sA, sB, sC])
          refine tkz 9 ?_
          refine tkz 10 ?_
          refine tkz 11 ?_
          refine wpAnyH_ready (rs := [13]) (by kernel_rfl) (by simp) ?_
          refine AllReadyH.cons (o := _) rfl (fun K hK => ?_) AllReadyH.nil
          obtain ⟨z0, z1, z2⟩ := HN.out.three
          have f0 := HN.out.thawed 0
          have f1 := HN.out.thawed 1
          have f2 := HN.out.thawed 2
          go_simp
          have HN := hidp (HN.out.put 0 (.int .i64 k))
          have HN := hidp (HN.out.put 1 (.int .i64 (m : Int)))
          have HN := hidp (HN.out.put 2 (.int .i64 cl))
          have HB := hidp (Bput (p := ⟨_, 2, none⟩) (Bput (p := ⟨_, 1, none⟩) (Bput (p := ⟨_, 0, none⟩) HB.out HLE.out (.int .i64 k)) HLE.out (.int .i64 (m : Int))) HLE.out (.int .i64 cl))
          clear z0 z1 z2 f0 f1 f2
          refine hK.out _ _ ?_ (fun hHeld => ?_)
          · (try dsimp only)
            exact HS.out _ HB.out
          clear hK K
          (try simp only [Act.put, gA, gB, gC, sA, sB, sC])
          refine tkz 14 ?_
          refine wpAnyH_done (by kernel_rfl) ?_ _
          go_wp2_with fail
          go_meet
          case rel => exact ⟨_, rfl, HN.out, HB.out, HLE.out⟩
    · skip
      go_simp
      have HLE := hidp HB.out.size
      have HB := hidp (Bnew HB.out (.cells #[.int .i64 0, .int .i64 0, .int .i64 0] 60))
      have HN := hidp (Held.new q0 60 #[.int .i64 0, .int .i64 0, .int .i64 0])
      try simp only [World.heap_drew] at HLE HN
      generalize hq6 : q0.alloc (.cells #[.int .i64 0, .int .i64 0, .int .i64 0] 60) = q6 at HB HN ⊢
      clear hq6
      refine hK.out _ _ ?_ (fun hHeld => ?_)
      · (try dsimp only)
        exact HS.out _ HB.out
      clear hK K
      (try simp only [Act.put, gA, gB, gC, sA, sB, sC])
      refine wpAnyH_ready (rs := [5]) (by kernel_rfl) (by simp) ?_
      refine AllReadyH.cons (o := _) rfl (fun K hK => ?_) AllReadyH.nil
      · skip
        go_simp
        (go_at_call 43; refine (r7Info_c _ _ _ _ _).mono ?_; rintro e q7 ⟨rfl, hb1⟩; rw [HI.out]; have HB := hidp (Bgo HB.out hb1); have HN := hidp (HN.out.keep hb1); clear hb1)
        refine hK.out _ _ ?_ (fun hHeld => ?_)
        · (try dsimp only)
          exact HS.out _ HB.out
        clear hK K
        (try simp only [Act.put, gA, gB, gC, sA, sB, sC])
        refine tkz 6 ?_
        refine tkz 7 ?_
        refine wpAnyH_ready (rs := [8]) (by kernel_rfl) (by simp) ?_
        refine AllReadyH.cons (o := _) rfl (fun K hK => ?_) AllReadyH.nil
        · skip
          go_simp
          (go_at_call 64; refine (r9Get_c _ _ _ _ _ h32i HG.out _).mono ?_; rintro e q8 ⟨rfl, hb1⟩; have HB := hidp (Bgo HB.out hb1); have HN := hidp (HN.out.keep hb1); clear hb1)
          refine hK.out _ _ ?_ (fun hHeld => ?_)
          · (try dsimp only)
            exact HS.out _ HB.out
          clear hK K
          (try simp only [Act.put, gA, gB, gC, sA, sB, sC])
          refine tkz 9 ?_
          refine tkz 10 ?_
          refine tkz 11 ?_
          refine wpAnyH_ready (rs := [13]) (by kernel_rfl) (by simp) ?_
          refine AllReadyH.cons (o := _) rfl (fun K hK => ?_) AllReadyH.nil
          obtain ⟨z0, z1, z2⟩ := HN.out.three
          have f0 := HN.out.thawed 0
          have f1 := HN.out.thawed 1
          have f2 := HN.out.thawed 2
          go_simp
          have HN := hidp (HN.out.put 0 (.int .i64 k))
          have HN := hidp (HN.out.put 1 (.int .i64 (m : Int)))
          have HN := hidp (HN.out.put 2 (.int .i64 cl))
          have HB := hidp (Bput (p := ⟨_, 2, none⟩) (Bput (p := ⟨_, 1, none⟩) (Bput (p := ⟨_, 0, none⟩) HB.out HLE.out (.int .i64 k)) HLE.out (.int .i64 (m : Int))) HLE.out (.int .i64 cl))
          clear z0 z1 z2 f0 f1 f2
          refine hK.out _ _ ?_ (fun hHeld => ?_)
          · (try dsimp only)
            exact HS.out _ HB.out
          clear hK K
          (try simp only [Act.put, gA, gB, gC, sA, sB, sC])
          refine tkz 14 ?_
          refine wpAnyH_done (by kernel_rfl) ?_ _
          go_wp2_with fail
          go_meet
          case rel => exact ⟨_, rfl, HN.out, HB.out, HLE.out⟩
  case rest =>
    obtain ⟨g, rfl, h1, h2, h3⟩ := hcut
    obtain ⟨x0, x1, x2⟩ := h1.three
    have z := HR.out.keep h2
    obtain ⟨y0, y1, y2⟩ := z.three
    obtain ⟨v0, v1, v2⟩ := (((z.put 0 (.int .i64 k)).put 1 (.int .i64 (m : Int))).put 2 (.int .i64 cl)).three
    have f0 := z.thawed 0
    have f1 := z.thawed 1
    have f2 := z.thawed 2
    go_wp2_with fail
    refine bodyPost_ret (v := .agg #[(.int .i64 k), (.int .i64 (m : Int)), (.int .i64 cl)]) (by simp [results, Tryz.results27, go_sem, v0, v1, v2]) rfl ⟨rfl, ?_⟩
    exact Bput (Bput (Bput (Bgo HBW.out h2) (by simp) _) (by simp) _) (by simp) _
end
section
namespace AuH
inductive Starts (H : AuH) : List Nat → Nat → Prop where
  | nil : Starts H [] 0
  | snoc {l : List Nat} {q : Nat} : Starts H l q → H.can q = true → Starts H (l ++ [q]) (H.nx q)
variable {H : AuH} {l : List Nat} {x : Nat}
theorem Starts.at_ (h : H.Starts l x) : H.At x := by
  induction h with
  | nil => exact .zero
  | snoc h hc ih => exact .step ih hc
theorem Starts.len (h : H.Starts l x) : l.length ≤ x := by
  induction h with
  | nil => simp
  | snoc h hc ih =>
    have := (H.nx_gt hc).1
    rw [List.length_append]
    simp
    omega
theorem Starts.next (h : H.Starts l x) : ∀ {i a : Nat}, l[i]? = some a → (H.At a ∧ H.can a = true ∧ a < x) ∧ (l[i + 1]? = some (H.nx a) ∨ (i + 1 = l.length ∧ H.nx a = x)) := by
  induction h with
  | nil => intro i a h; simp at h
  | snoc h hc ih =>
    rename_i l q
    intro i a hi
    have hgt := (H.nx_gt hc).1
    rcases Nat.lt_or_ge i l.length with hl | hl
    · rw [List.getElem?_append_left hl] at hi
      obtain ⟨⟨h1, h2, h3⟩, h4⟩ := ih hi
      refine ⟨⟨h1, h2, by omega⟩, .inl ?_⟩
      rcases h4 with h4 | ⟨h4, h5⟩
      · have : i + 1 < l.length := by
          rcases Nat.lt_or_ge (i + 1) l.length with h | h
          · exact h
          · rw [List.getElem?_eq_none h] at h4; cases h4
        rw [List.getElem?_append_left this]
        exact h4
      · rw [List.getElem?_append_right (by omega), h4, Nat.sub_self, h5]
        rfl
    · have hil : i = l.length := by
        rcases Nat.lt_or_ge l.length i with h | h
        · rw [List.getElem?_append_right hl, List.getElem?_eq_none (by simp; omega)] at hi; cases hi
        · omega
      subst hil
      rw [List.getElem?_append_right (Nat.le_refl _), Nat.sub_self] at hi
      have hqa : q = a := by simpa using hi
      subst hqa
      exact ⟨⟨h.at_, hc, hgt⟩, .inr ⟨by simp, rfl⟩⟩
theorem Starts.head (h : H.Starts l x) : (l = [] ∧ x = 0) ∨ l[0]? = some 0 := by
  induction h with
  | nil => exact .inl ⟨rfl, rfl⟩
  | snoc h hc ih =>
    right
    rcases ih with ⟨rfl, rfl⟩ | ih
    · rfl
    · rename_i l q
      have : 0 < l.length := by
        rcases Nat.lt_or_ge 0 l.length with h | h
        · exact h
        · rw [List.getElem?_eq_none h] at ih; cases ih
      rw [List.getElem?_append_left this]
      exact ih
theorem Starts.find (h : H.Starts l x) : ∀ {q : Nat}, H.At q → q < x → ∃ i : Nat, l[i]? = some q := by
  induction h with
  | nil => intro q _ h; omega
  | snoc h hc ih =>
    rename_i l q0
    intro q hq hl
    rcases Nat.lt_trichotomy q q0 with h1 | h1 | h1
    · obtain ⟨i, hi⟩ := ih hq h1
      refine ⟨i, ?_⟩
      have : i < l.length := by
        rcases Nat.lt_or_ge i l.length with h | h
        · exact h
        · rw [List.getElem?_eq_none h] at hi; cases hi
      rw [List.getElem?_append_left this]
      exact hi
    · subst h1
      exact ⟨l.length, by rw [List.getElem?_append_right (Nat.le_refl _), Nat.sub_self]; rfl⟩
    · have := (At.next h.at_ hq h1).2
      omega

def Front (H : AuH) (l : List Nat) (n p : Nat) : Prop := ∃ f, (l[n]? = some f ∨ (n = l.length ∧ f = H.p)) ∧ p ≤ f ∧ ∀ q, H.At q → p ≤ q → f ≤ q
theorem Front.zero (h : H.Starts l H.p) : H.Front l 0 0 := by
  rcases h.head with ⟨rfl, h1⟩ | h1
  · exact ⟨H.p, .inr ⟨rfl, rfl⟩, Nat.zero_le _, fun q _ _ => by omega⟩
  · exact ⟨0, .inl h1, Nat.le_refl _, fun q _ _ => Nat.zero_le _⟩
theorem Front.yes {n p : Nat} (h : H.Starts l H.p) (hf : H.Front l n p) (hn : l[n]? = some p) : H.At p ∧ H.Front l (n + 1) (p + 1) := by
  obtain ⟨⟨h1, h2, h3⟩, h4⟩ := h.next hn
  have hg := (H.nx_gt h2).1
  refine ⟨h1, H.nx p, ?_, hg, fun q hq hp => (At.next h1 hq (by omega)).2⟩
  rcases h4 with h4 | ⟨h4, h5⟩
  · exact .inl h4
  · exact .inr ⟨h4, h5⟩
theorem Front.no {n p : Nat} (h : H.Starts l H.p) (hf : H.Front l n p) (hp : p < H.p) (hn : l[n]? ≠ some p) : ¬ H.At p ∧ H.Front l n (p + 1) := by
  obtain ⟨f, h1, h2, h3⟩ := hf
  have hne : f ≠ p := by
    rintro rfl
    rcases h1 with h1 | ⟨_, h1⟩
    · exact hn h1
    · omega
  exact ⟨fun ha => by have := h3 p ha (Nat.le_refl _); omega, f, h1, by omega, fun q hq hl => h3 q hq (by omega)⟩

theorem tiled_iff (ha : H.At H.p) : H.Tiled ↔ ∀ q, q < H.p → ¬ H.At q → H.cel q 0 = 0 := by
  constructor
  · rintro ⟨_, hb⟩ q hq hn
    obtain ⟨a, h1, h2, h3, h4⟩ := ha.cover q hq
    exact hb a h1 h2 (by omega) q (by rcases Nat.eq_or_lt_of_le h3 with h | h; (subst h; exact absurd h1 hn); exact h) h4
  · intro h
    refine ⟨ha, fun a h1 h2 h3 q h4 h5 => h q (by have := (H.nx_gt h2).2; omega) (fun hq => ?_)⟩
    have := (At.next h1 hq h4).2
    omega
theorem tiled_not {q : Nat} (h : H.Tiled) (hq : q < H.p) (hn : ¬ H.At q) : H.cel q 0 = 0 := (tiled_iff h.1).1 h q hq hn

def FootAt (H : AuH) (a q : Nat) : Prop := H.cel q 1 = if q + 1 = H.nx a then a + 1 else 0
theorem r3_iff (ht : H.Tiled) : H.R3 ↔ ∀ q, q < H.p → ∀ a, H.At a → a ≤ q → q < H.nx a → H.FootAt a q := by
  constructor
  · intro h q hq a ha h1 h2
    have hc := ht.at_can ha (show a < H.p by omega)
    have hk := ht.at_K ha (show a < H.p by omega)
    obtain ⟨h3, h4⟩ := h a (by omega) hk
    unfold FootAt
    have hnx : H.nx a = a + H.ln a := rfl
    by_cases he : q + 1 = H.nx a
    · rw [if_pos he, show q = a + H.ln a - 1 by omega]
      exact h4
    · rw [if_neg he]
      exact h3 q h1 (by omega)
  · intro h q hq hk
    obtain ⟨ha, hc⟩ := ht.start hq hk
    have hg := H.nx_gt hc
    have hl := H.ln_pos q hk
    have hnx : H.nx q = q + H.ln q := rfl
    refine ⟨fun r h1 h2 => ?_, ?_⟩
    · have := h r (by omega) q ha h1 (by omega)
      unfold FootAt at this
      rw [if_neg (by omega)] at this
      exact this
    · have := h (q + H.ln q - 1) (by omega) q ha (by omega) (by omega)
      unfold FootAt at this
      rw [if_pos (by omega)] at this
      exact this

def ApartTo (H : AuH) (l : List Nat) (n : Nat) : Prop := ∀ (i a b : Nat), i + 1 < n → l[i]? = some a → l[i + 1]? = some b → ¬ (H.K b = 1 ∧ H.K a = 1)
theorem apart_all (h : H.Starts l H.p) {n : Nat} (hn : l.length ≤ n) (ha : H.ApartTo l n) : H.R4 := by
  intro q hq hp hk hx h2
  obtain ⟨i, hi⟩ := h.find hq hp
  rcases (h.next hi).2 with h4 | ⟨h4, h5⟩
  · have : i + 1 < l.length := by
      rcases Nat.lt_or_ge (i + 1) l.length with h | h
      · exact h
      · rw [List.getElem?_eq_none h] at h4; cases h4
    exact ha i q _ (by omega) hi h4 ⟨h2, hk⟩
  · omega
theorem apart_not (h : H.Starts l H.p) {i a b : Nat} (h1 : l[i]? = some a) (h2 : l[i + 1]? = some b) (hb : H.K b = 1) (ha : H.K a = 1) : ¬ H.R4 := by
  intro hr
  obtain ⟨⟨g1, g2, g3⟩, g4⟩ := h.next h1
  rcases g4 with g4 | ⟨g4, g5⟩
  · rw [g4] at h2
    have e : H.nx a = b := by simpa using h2
    subst e
    exact hr a g1 g3 ha (h.next g4).1.2.2 hb
  · rw [List.getElem?_eq_none (by omega)] at h2; cases h2
theorem ApartTo.step {n a b : Nat} (h : H.ApartTo l (n + 1)) (h1 : l[n]? = some a) (h2 : l[n + 1]? = some b) (hn : ¬ (H.K b = 1 ∧ H.K a = 1)) : H.ApartTo l (n + 1 + 1) := by
  intro i a' b' hi g1 g2
  rcases Nat.lt_or_ge (i + 1) (n + 1) with h3 | h3
  · exact h i a' b' h3 g1 g2
  · have : i = n := by omega
    subst this
    rw [h1] at g1
    rw [h2] at g2
    simp only [Option.some.injEq] at g1 g2
    subst g1
    subst g2
    exact hn

def SlotBad (H : AuH) (q b : Nat) : Prop := ((H.cel q 4).testBit b = true ∧ (H.cel q 5).testBit b = false) ∨ ((H.cel q 5).testBit b = true ∧ (H.K q ≠ 3 ∨ slotI (H.Cl q) ≤ b))
theorem slot5_iff (q : Nat) (h4 : H.cel q 4 < 2 ^ 32) (h5 : H.cel q 5 < 2 ^ 32) : H.Slot5 q ↔ (∀ b, b < 32 → ¬ H.SlotBad q b) ∧ ¬ (H.K q = 3 ∧ H.cel q 5 = 0) := by
  have hs := slotI_le (H.Cl q)
  constructor
  · rintro ⟨hy, hn⟩
    by_cases hk : H.K q = 3
    · obtain ⟨h1, h2, h3⟩ := hy hk
      refine ⟨fun b hb hbad => ?_, fun h => h1 h.2⟩
      rcases hbad with ⟨g1, g2⟩ | ⟨g1, g2⟩
      · rw [h3 b hb g1] at g2; cases g2
      · rcases g2 with g2 | g2
        · exact g2 hk
        · rw [Nat.testBit_lt_two_pow (Nat.lt_of_lt_of_le h2 (Nat.pow_le_pow_right (by omega) g2))] at g1; cases g1
    · obtain ⟨h1, h2⟩ := hn hk
      refine ⟨fun b hb hbad => ?_, fun h => hk h.1⟩
      rcases hbad with ⟨g1, _⟩ | ⟨g1, _⟩
      · rw [h2] at g1; simp at g1
      · rw [h1] at g1; simp at g1
  · rintro ⟨hb, hz⟩
    have hsub : SubB (H.cel q 4) (H.cel q 5) := fun i hi h => by
      cases hc : (H.cel q 5).testBit i
      · exact absurd (show H.SlotBad q i from .inl ⟨h, hc⟩) (hb i hi)
      · rfl
    refine ⟨fun hk => ⟨fun h => hz ⟨hk, h⟩, (sub_mask _ _ h5 hs).1 (fun i hi h => ?_), hsub⟩, fun hk => ?_⟩
    · have : i < slotI (H.Cl q) := by
        rcases Nat.lt_or_ge i (slotI (H.Cl q)) with g | g
        · exact g
        · exact absurd (show H.SlotBad q i from .inr ⟨h, .inr g⟩) (hb i hi)
      rw [Nat.testBit_two_pow_sub_one]
      simpa using this
    · have h0 : H.cel q 5 = 0 := (sub_zero _ h5).1 (fun i hi h => absurd (show H.SlotBad q i from .inr ⟨h, .inl hk⟩) (hb i hi))
      refine ⟨h0, (sub_zero _ h4).1 (fun i hi h => ?_)⟩
      have := hsub i hi h
      rw [h0] at this
      simp at this

inductive Path (H : AuH) (head : Nat) : List Nat → Nat → Nat → Prop where
  | nil : Path H head [] (H.V head) 0
  | snoc {l : List Nat} {q a : Nat} : Path H head l q a → 1 ≤ q → q ≤ H.p → H.cel (q - 1) 3 = a → Path H head (l ++ [q - 1]) (H.cel (q - 1) 2) q
def cntIn (l : List Nat) (q : Nat) : Nat := (l.filter fun y => decide (y = q)).length
theorem cntIn_snoc (l : List Nat) (y q : Nat) : cntIn (l ++ [y]) q = cntIn l q + if y = q then 1 else 0 := by
  unfold cntIn
  rw [List.filter_append, List.length_append]
  congr 1
  by_cases h : y = q <;> simp [h]
theorem cntIn_pos {l : List Nat} {q : Nat} (h : q ∈ l) : 1 ≤ cntIn l q := by
  unfold cntIn
  exact List.length_pos_of_mem (List.mem_filter.2 ⟨h, by simp⟩)
theorem cntIn_zero {l : List Nat} {q : Nat} (h : ¬ q ∈ l) : cntIn l q = 0 := by
  unfold cntIn
  rw [List.length_eq_zero_iff, List.filter_eq_nil_iff]
  intro y hy
  simp
  rintro rfl
  exact h hy
variable {head q a : Nat}
theorem Path.lt (h : H.Path head l q a) : ∀ y ∈ l, y < H.p := by
  induction h with
  | nil => simp
  | snoc h h1 h2 h3 ih =>
    rename_i l q a
    intro y hy
    rcases List.mem_append.1 hy with hy | hy
    · exact ih y hy
    · have : y = q - 1 := by simpa using hy
      omega
theorem Path.once (h : H.Path head l q a) : (∀ y ∈ l, H.cel y 3 ≠ a) ∧ (∀ y ∈ l, H.cel y 3 = 0 ∨ ∃ z ∈ l, H.cel y 3 = z + 1) ∧ (a = 0 ∨ ∃ z ∈ l, a = z + 1) ∧ ∀ y, cntIn l y ≤ 1 := by
  induction h with
  | nil => exact ⟨by simp, by simp, .inl rfl, fun y => by simp [cntIn]⟩
  | snoc h h1 h2 h3 ih =>
    rename_i l q a
    obtain ⟨i1, i2, i3, i4⟩ := ih
    have hnot : ¬ (q - 1) ∈ l := fun hm => i1 _ hm h3
    have hmem : ∀ y ∈ l ++ [q - 1], H.cel y 3 = 0 ∨ ∃ z ∈ l, H.cel y 3 = z + 1 := by
      intro y hy
      rcases List.mem_append.1 hy with hy | hy
      · exact i2 y hy
      · have : y = q - 1 := by simpa using hy
        subst this
        rw [h3]
        exact i3
    refine ⟨fun y hy he => ?_, fun y hy => ?_, .inr ⟨q - 1, by simp, by omega⟩, fun y => ?_⟩
    · rcases hmem y hy with h | ⟨z, hz, h⟩
      · omega
      · have : z = q - 1 := by omega
        subst this
        exact hnot hz
    · rcases hmem y hy with h | ⟨z, hz, h⟩
      · exact .inl h
      · exact .inr ⟨z, List.mem_append_left _ hz, h⟩
    · rw [cntIn_snoc]
      by_cases he : q - 1 = y
      · subst he
        rw [if_pos rfl, cntIn_zero hnot]
        omega
      · rw [if_neg he]
        exact i4 y
theorem chain_path {m : Nat} (hc : H.chain head m (H.V head) 0) (h : H.Path head l q a) : l.length ≤ m ∧ H.chain head (m - l.length) q a ∧ ∀ y ∈ l, H.tgt y = head := by
  induction h with
  | nil => exact ⟨by simp, hc, by simp⟩
  | snoc h h1 h2 h3 ih =>
    rename_i l q a
    obtain ⟨i1, i2, i3⟩ := ih
    rcases hr : m - l.length with _ | r
    · rw [hr] at i2
      have : q = 0 := i2
      omega
    · rw [hr] at i2
      obtain ⟨⟨_, _, g3, _⟩, g5⟩ := i2
      have e : m - (l ++ [q - 1]).length = r := by rw [List.length_append]; simp; omega
      refine ⟨by rw [List.length_append]; simp; omega, by rw [e]; exact g5, fun y hy => ?_⟩
      rcases List.mem_append.1 hy with hy | hy
      · exact i3 y hy
      · have : y = q - 1 := by simpa using hy
        rw [this]
        exact g3
theorem path_chain (h : H.Path head l q a) : ∀ {m : Nat}, (∀ y ∈ l, H.tgt y = head) → H.chain head m q a → H.chain head (l.length + m) (H.V head) 0 := by
  induction h with
  | nil => intro m _ hc; simpa using hc
  | snoc h h1 h2 h3 ih =>
    rename_i l q a
    intro m hy hc
    have := ih (m := m + 1) (fun y hm => hy y (List.mem_append_left _ hm)) ⟨⟨h1, h2, hy _ (by simp), h3⟩, hc⟩
    rw [List.length_append]
    rw [show l.length + [q - 1].length + m = l.length + (m + 1) by simp; omega]
    exact this
theorem sumTo_add (f g : Nat → Nat) : ∀ n, sumTo (fun q => f q + g q) n = sumTo f n + sumTo g n
  | 0 => rfl
  | n + 1 => by
    show sumTo (fun q => f q + g q) n + (f n + g n) = (sumTo f n + f n) + (sumTo g n + g n)
    rw [sumTo_add f g n]
    omega
theorem sumTo_zero : ∀ n, sumTo (fun _ => 0) n = 0
  | 0 => rfl
  | n + 1 => by show sumTo (fun _ => 0) n + 0 = 0; rw [sumTo_zero n]
theorem sumTo_one (y : Nat) : ∀ n, sumTo (fun q => if y = q then 1 else 0) n = if y < n then 1 else 0
  | 0 => by simp [sumTo]
  | n + 1 => by
    show sumTo _ n + (if y = n then 1 else 0) = _
    rw [sumTo_one y n]
    by_cases h1 : y < n
    · rw [if_pos h1, if_neg (by omega), if_pos (by omega)]
    · rw [if_neg h1]
      by_cases h2 : y = n
      · rw [if_pos h2, if_pos (by omega)]
      · rw [if_neg h2, if_neg (by omega)]
theorem sumTo_congr {f g : Nat → Nat} : ∀ n, (∀ q, q < n → f q = g q) → sumTo f n = sumTo g n
  | 0, _ => rfl
  | n + 1, h => by
    show sumTo f n + f n = sumTo g n + g n
    rw [sumTo_congr n (fun q hq => h q (by omega)), h n (by omega)]
theorem sumTo_mono {f g : Nat → Nat} : ∀ n, (∀ q, q < n → f q ≤ g q) → sumTo f n ≤ sumTo g n
  | 0, _ => Nat.le_refl _
  | n + 1, h => by
    have h1 := sumTo_mono n (fun q hq => h q (by omega))
    have h2 := h n (by omega)
    show sumTo f n + f n ≤ sumTo g n + g n
    omega
theorem sumTo_eq {f g : Nat → Nat} : ∀ n, (∀ q, q < n → f q ≤ g q) → sumTo f n = sumTo g n → ∀ q, q < n → f q = g q
  | 0, _, _, q, hq => by omega
  | n + 1, h, he, q, hq => by
    have h1 := sumTo_mono n (fun q hq => h q (by omega))
    have h2 := h n (by omega)
    have he' : sumTo f n + f n = sumTo g n + g n := he
    rcases Nat.lt_or_ge q n with h3 | h3
    · exact sumTo_eq n (fun q hq => h q (by omega)) (by omega) q h3
    · have : q = n := by omega
      subst this
      omega
theorem sumTo_cntIn (n : Nat) : ∀ l : List Nat, (∀ y ∈ l, y < n) → sumTo (cntIn l) n = l.length
  | [], _ => sumTo_zero n
  | y :: l, h => by
    have e : ∀ q, q < n → cntIn (y :: l) q = (if y = q then 1 else 0) + cntIn l q := fun q _ => by
      unfold cntIn
      rw [List.filter_cons]
      by_cases h : y = q
      · simp [h]; omega
      · simp [h]
    rw [sumTo_congr n e, sumTo_add, sumTo_one, if_pos (h y (by simp)), sumTo_cntIn n l (fun z hz => h z (by simp [hz]))]
    simp
    omega
theorem cnt_le (head : Int) (n : Nat) : H.cnt head n ≤ n := by
  have := sumTo_le (H.isF head) 1 n (fun q _ => by unfold isF; split <;> omega)
  unfold cnt
  omega
theorem listOk_iff (h : H.Path head l 0 a) : H.ListOk head ↔ ∀ q, q < H.p → cntIn l q = H.isF head q := by
  constructor
  · intro hk
    obtain ⟨h1, h2, h3⟩ := chain_path hk h
    have hlen : l.length = H.cnt head H.p := by
      rcases hr : H.cnt head H.p - l.length with _ | r
      · omega
      · rw [hr] at h2
        have := h2.1.1
        omega
    refine sumTo_eq H.p (fun q hq => ?_) (by rw [sumTo_cntIn _ _ h.lt, hlen]; rfl)
    by_cases hm : q ∈ l
    · have := h.once.2.2.2 q
      unfold isF
      rw [if_pos (h3 q hm)]
      exact this
    · rw [cntIn_zero hm]
      exact Nat.zero_le _
  · intro hq
    have hm : ∀ y ∈ l, H.tgt y = head := fun y hy => by
      have h1 := cntIn_pos hy
      rw [hq y (h.lt y hy)] at h1
      unfold isF at h1
      by_cases he : H.tgt y = head
      · exact he
      · rw [if_neg he] at h1; omega
    have hlen : l.length = H.cnt head H.p := by
      rw [← sumTo_cntIn _ _ h.lt]
      exact sumTo_congr _ hq
    have := path_chain h (m := 0) hm rfl
    rw [Nat.add_zero, hlen] at this
    exact this
theorem listOk_goes (hk : H.ListOk head) (h : H.Path head l q a) (hq : q ≠ 0) : 1 ≤ q ∧ q ≤ H.p ∧ H.cel (q - 1) 3 = a ∧ l.length < H.p := by
  obtain ⟨h1, h2, h3⟩ := chain_path hk h
  have hc := cnt_le (H := H) head H.p
  rcases hr : H.cnt head H.p - l.length with _ | r
  · rw [hr] at h2
    exact absurd h2 hq
  · rw [hr] at h2
    obtain ⟨⟨g1, g2, _, g4⟩, _⟩ := h2
    exact ⟨g1, g2, g4, by omega⟩

theorem ones_full {v n : Nat} (hv : v < 2 ^ n) (hn : n ≤ 32) : HM.onesTo v 32 = n ↔ v = 2 ^ n - 1 := by
  have h32 : ∀ k, HM.onesTo v (n + k) = HM.onesTo v n := by
    intro k
    induction k with
    | zero => rfl
    | succ k ih =>
      rw [← Nat.add_assoc, HM.onesTo_succ, ih, Nat.testBit_lt_two_pow (Nat.lt_of_lt_of_le hv (Nat.pow_le_pow_right (by omega) (by omega)))]
      simp
  have e : HM.onesTo v 32 = HM.onesTo v n := by
    have := h32 (32 - n)
    rwa [show n + (32 - n) = 32 by omega] at this
  rw [e]
  have hf := HM.ones_free v n
  constructor
  · intro h
    have h0 : HM.freeTo v n = [] := List.length_eq_zero_iff.1 (by omega)
    apply Nat.eq_of_testBit_eq
    intro i
    rw [Nat.testBit_two_pow_sub_one]
    by_cases hi : i < n
    · unfold HM.freeTo at h0
      rw [List.filter_eq_nil_iff] at h0
      have := h0 i (List.mem_range.2 hi)
      simp at this
      rw [this, decide_eq_true hi]
    · rw [Nat.testBit_lt_two_pow (Nat.lt_of_lt_of_le hv (Nat.pow_le_pow_right (by omega) (by omega))), decide_eq_false hi]
  · intro h
    have h0 : HM.freeTo v n = [] := by
      unfold HM.freeTo
      rw [List.filter_eq_nil_iff]
      intro i hi
      rw [h, Nat.testBit_two_pow_sub_one]
      simpa using List.mem_range.1 hi
    rw [h0] at hf
    simpa using hf
end AuH
end
section
def ptVs (l : List (Int × Int × Int)) : List Value := l.flatMap fun x => [.int .i64 x.1, .int .i64 x.2.1, .int .i64 x.2.2]
theorem ptVs_len (l : List (Int × Int × Int)) : (ptVs l).length = l.length * 3 := by unfold ptVs; induction l with
  | nil => rfl
  | cons x l ih => rw [List.flatMap_cons, List.length_append, ih]; simp; omega
theorem ptVs_app (l m : List (Int × Int × Int)) : ptVs (l ++ m) = ptVs l ++ ptVs m := by unfold ptVs; rw [List.flatMap_append]
theorem ptVs_one (x : Int × Int × Int) : ptVs [x] = [.int .i64 x.1, .int .i64 x.2.1, .int .i64 x.2.2] := by simp [ptVs]
theorem partInfo : (Tryz.prog.info? 108).map (fun i => (i.zero, i.size, i.bytes)) = some (some (.agg #[.int .i64 0, .int .i64 0, .int .i64 0]), 3, 24) := by kernel_rfl

namespace AuH
variable (H : AuH)
def pg : Nat := 2 ^ H.s
def first (q : Nat) : Int := ((q : Int) + 1) * (H.pg : Int)
def zs (q : Nat) : Nat := sizeN (H.s : Int) (H.Cl q)
def sl (q : Nat) : Nat := slotI (H.Cl q)
def slotPart (q i : Nat) : Int × Int × Int := ((slotKd (H.cel q 5) (H.cel q 4) i : Nat), H.first q + (i : Int) * (H.zs q : Int), (H.zs q : Int))
def slotsTo (q k : Nat) : List (Int × Int × Int) := (List.range k).map (H.slotPart q)
def slack (q : Nat) : List (Int × Int × Int) := if H.sl q * H.zs q < H.pg then [(5, H.first q + ((H.sl q * H.zs q : Nat) : Int), (H.pg : Int) - ((H.sl q * H.zs q : Nat) : Int))] else []
def partsAt (q : Nat) : List (Int × Int × Int) :=
  if H.K q = 1 then [(1, H.first q, (H.ln q : Int) * (H.pg : Int))] else if H.K q = 2 then [(2, H.first q, (H.ln q : Int) * (H.pg : Int))]
  else if H.K q = 3 then H.slotsTo q (H.sl q) ++ H.slack q else []
def parts : List (Int × Int × Int) := catTo H.partsAt H.p
variable {H}
theorem slotsTo_succ (q k : Nat) : H.slotsTo q (k + 1) = H.slotsTo q k ++ [H.slotPart q k] := by unfold slotsTo; rw [List.range_succ, List.map_append]; rfl
theorem slotsTo_len (q k : Nat) : (H.slotsTo q k).length = k := by unfold slotsTo; simp
theorem partsAt_no {q : Nat} (h : H.K q = 0) : H.partsAt q = [] := by unfold partsAt; rw [if_neg (by omega), if_neg (by omega), if_neg (by omega)]
theorem partsAt_len (q : Nat) : (H.partsAt q).length ≤ 33 := by
  unfold partsAt
  split
  · simp
  · split
    · simp
    · split
      · rw [List.length_append, slotsTo_len]
        have := slotI_le (H.Cl q)
        unfold slack sl
        split <;> simp <;> omega
      · simp
theorem parts_len : ∀ x, (catTo H.partsAt x).length ≤ x * 33
  | 0 => by simp [catTo]
  | x + 1 => by
    have h1 := parts_len x
    have h2 := partsAt_len (H := H) x
    show (catTo H.partsAt x ++ H.partsAt x).length ≤ _
    rw [List.length_append]
    omega
end AuH
theorem pg_le {H : AuH} {n c : Nat} (HV : HeapV H n c) : 1024 ≤ H.pg ∧ H.pg ≤ 1048576 ∧ H.pg = pageS H.s ∧ pageN H.t H.p H.s = H.pg := by
  obtain ⟨g, q, h1, h2, h3, h4, h5, h6, h7, h8, h9, h10, h11⟩ := right_nums HV.right
  have e : H.pg = g := by unfold AuH.pg; rw [h8, Int.toNat_natCast]
  rw [e]
  exact ⟨h6, h7, by rw [pageS_yes ⟨h9, h10⟩]; exact h8, h1⟩
theorem first_eq {H : AuH} {n c : Nat} (HV : HeapV H n c) {q : Nat} (hq : q < H.p) : addrI H.t H.p H.s q 0 = H.first q ∧ addrB H.t H.p H.s q 0 = true ∧ 1024 ≤ H.first q ∧ H.first q ≤ 1075838976 := by
  have hg := pg_le HV
  have hB : addrB H.t H.p H.s q 0 = true := by unfold addrB; rw [HV.right, hg.2.2.2, Bool.true_and, decide_eq_true_iff]; omega
  have hA : addrI H.t H.p H.s q 0 = ((q : Int) + 1) * (H.pg : Int) + 0 := by unfold addrI; rw [if_pos hB, hg.2.2.2]
  have hY := addr_yes hB
  rw [hA, Int.add_zero] at hY
  exact ⟨by rw [hA, Int.add_zero]; rfl, hB, hY.2.2.2.2.1, hY.2.2.2.2.2⟩


theorem held_grown {w w' : World} {row : Option Nat} {g : Nat} {t : TypeId} {cs : Array Value} (h : Held w g t cs) (hg : w.grownBy w' row) (hr : row ≠ some g) : Held w' g t cs := (hg.block g h.lt (fun e => hr e.symm)).trans h
end
section
theorem own_down {w : World} {base base' : Nat} {e : TypeId} {size : Nat} {v : Value} {n : Nat} {xs : List Value} (h : w.ownsRow base e size v n xs) (hb : base' ≤ base) : w.ownsRow base' e size v n xs :=
  ⟨h.1, h.2.imp id fun ⟨g, cap, cur, h1, h2, h3⟩ => ⟨g, cap, cur, h1, Nat.le_trans hb h2, h3⟩⟩
section
attribute [local go_sem] Oper.semAt_some

end
end
end Go.Proofs.YtioolaaphbddbaaGreatDoor
