/-
  A range over a function whose value is a method of some receiver: one law for its caller (wp_seq), told by places (0, next 0, ..); regions that draw, in a round. No program is named here.
-/
import Derived.Test.YtkbjckhbllmclaaGreatDoorT03
import Derived.RangeFuncNested
import Derived.RangeFuncBound
import Derived.RangeFuncLeaves
import Derived.Shelf.Abstract
import Derived.Shelf.RegionOpen
import Derived.WalkKit
import Derived.OwnWalkIn
import Derived.TacticsInMore
import Derived.LoopNIn
import Derived.LoopIn
import Derived.Deep.RegionHeld3
import Derived.Laws.BitsAllLaws
namespace Go.Proofs.YtkbjckhbllmclaaGreatDoor
open Go.ChangeShapes Go.WideShapes Go.ChangeAt Go.RowKit Go.Maps
set_option linter.unusedVariables false
section
abbrev inR (l : Nat) : Fence := Fence.wide.inRound l
def NoDefer (ops : Array Oper) : Bool := ops.all fun o => match o.op with | .defer _ => false | _ => true
theorem noDefer_at {ops : Array Oper} (h : NoDefer ops = true) {i : Nat} {o : Oper} (hi : ops[i]? = some o) : ∀ c, o.op ≠ .defer c := by
  intro c hc
  unfold NoDefer at h
  rw [Array.all_eq_true_iff_forall_mem] at h
  have := h o (Array.mem_of_getElem? hi)
  simp [hc] at this

section
variable {P : Program} {ops : Array Oper} {Q : Exit → Act → World → Prop} {md : Region.Mode} {l n : Nat}
theorem rows_in {row : String} {args : Array Value} {w : World} {R : Value → World → Prop} (h : Rows P row args w R) : RowsIn (inR l) n P row args w R :=
  fun c cs _ => let ⟨v, w', r, s⟩ := h c cs; ⟨v, w', r, (stepsIn_wide (P := P)).2 s⟩
theorem calls_in {f : FuncId} {args : Array Value} {w : World} {R : Ending → World → Prop} (h : Calls P f args w R) : CallsIn (inR l) n P f args w R := CallsIn.inRound l (callsIn_wide.2 h)
theorem calls_out {f : FuncId} {args : Array Value} {w : World} {R : Ending → World → Prop} (h : Calls P f args w R) : CallsIn Fence.wide n P f args w R := callsIn_wide.2 h

theorem wpOp_round (hd : NoDefer ops = true) (hQ : ∀ a w, ¬ Q .outgrown a w) {i : Nat} {K K' : Act → World → Prop} (hK : ∀ a w, K a w → K' a w) {a : Act} {w : World}
    (h : wpOp P ops Q i K a w) : wpOpIn (inR l) n P ops Q i K' a w := by
  unfold wpOp at h
  unfold wpOpIn
  cases ho : ops[i]? with
  | none => simp only [ho] at h ⊢; exact hK _ _ h
  | some o =>
    simp only [ho] at h ⊢
    by_cases hw : Region.wanted o (yielded ops a.tmps) = true
    · simp only [hw, if_true] at h ⊢
      have h := h.resolve_right (fun h2 => by obtain ⟨_, a', w', h3⟩ := h2; exact hQ a' w' h3)
      unfold Oper.wp at h
      unfold Oper.wpIn
      refine ⟨fun _ _ => trivial, ?_⟩
      rw [Oper.semAt_eq _ _ _ (noDefer_at hd ho)]
      generalize (execOp a.eval o).run P w = r at *
      cases r with
      | ok x w' =>
        cases x <;> simp only [Oper.upon, Oper.uponIn] at h ⊢
        case value u => exact hK _ _ h
        case skip => exact hK _ _ h
        case defer d => exact hK _ _ h
        case enter f args =>
          refine ⟨fun he => by simp [Fence.wide] at he, calls_in (h.mono fun e w'' he => ?_)⟩
          cases e with
          | returned u => exact hK _ _ he
          | panicked c => exact he
          | outgrown => exact he
        case row row args => exact ⟨fun he => by simp [Fence.wide] at he, rows_in (h.mono fun u w'' he => hK _ _ he)⟩
      | halt x w' =>
        cases x <;> simp only [Oper.upon, Oper.uponIn] at h ⊢
        case panic u => exact h
    · simp only [hw] at h ⊢
      exact ⟨fun _ _ => trivial, hK _ _ h⟩
theorem wpAny_round (hd : NoDefer ops = true) (hQ : ∀ a w, ¬ Q .outgrown a w) : ∀ (fuel : Nat) (listed : Array Bool) (a : Act) (w : World), wpAny P md ops Q fuel listed a w → wpAnyIn (inR l) n P md ops Q fuel listed a w
  | 0, _, _, _, h => h
  | fuel + 1, _, _, _, h => ⟨h.1, fun i hi => wpOp_round hd hQ (fun a w => wpAny_round hd hQ fuel _ a w) (h.2 i hi)⟩
theorem wp_region_round {S : World → Prop} {id : Nat} {a : Act} {w : World} (hm : P.follows .mixedOrders = true) (hd : NoDefer ops = true) (hQ : ∀ a w, ¬ Q .outgrown a w) (hS : S w.drew)
    (h : S w.drew → wpAnyH P .any ops Q S ops.size (Array.replicate ops.size false) a w.drew) : (Code.region id ops true).wpIn (inR l) n P Q a w :=
  wpIn_region_any hm (wpAny_round hd hQ _ _ _ _ (wpAny_of_held _ _ _ _ (h hS)))
end

structure Mild (D : Nat) (w w' : World) : Prop where
  os : w'.os = w.os
  tape : w'.tape = w.tape
  output : w'.output = w.output
  size : w.heap.size ≤ w'.heap.size
  low : ∀ k, k < D → w'.heap[k]? = w.heap[k]?
  cells : ∀ (k : Nat) (o : Obj), w.heap[k]? = some o → o.isCells = true → w'.heap[k]? = some o
section
variable {D : Nat} {w w' w'' : World}
theorem Mild.refl (D : Nat) (w : World) : Mild D w w := ⟨rfl, rfl, rfl, Nat.le_refl _, fun _ _ => rfl, fun _ _ h _ => h⟩
theorem Mild.trans (h : Mild D w w') (k : Mild D w' w'') : Mild D w w'' :=
  ⟨k.os.trans h.os, k.tape.trans h.tape, k.output.trans h.output, Nat.le_trans h.size k.size, fun i hi => (k.low i hi).trans (h.low i hi), fun i o hi ho => k.cells i o (h.cells i o hi ho) ho⟩
theorem Mild.of_below (hD : D ≤ w.heap.size) (h : Below w.heap.size w w') : Mild D w w' :=
  ⟨h.os, h.tape, h.output, h.size, fun k hk => h.block k (by omega), fun k o hk _ => (h.block k (Array.getElem?_eq_some_iff.1 hk).1).trans hk⟩
theorem Mild.put {l : Nat} {o : Obj} (o' : Obj) (hl : D ≤ l) (h : w.heap[l]? = some o) (ho : o.isCells = false) : Mild D w (w.putObj l o') :=
  ⟨rfl, rfl, rfl, by simp, fun k hk => World.putObj_heap_other (by omega), fun k o2 hk ho2 => by
    by_cases e : k = l
    · subst e; rw [h] at hk; cases hk; rw [ho] at ho2; cases ho2
    · exact (World.putObj_heap_other e).trans hk⟩
theorem Mild.below {W : World} (h : Mild D w w') (hb : Below W.heap.size W w) (hD : W.heap.size ≤ D) : Below W.heap.size W w' :=
  ⟨h.os.trans hb.os, h.tape.trans hb.tape, h.output.trans hb.output, Nat.le_trans hb.size h.size, fun k hk => (h.low k (by omega)).trans (hb.block k hk)⟩
theorem Mild.held {g : Nat} {t : TypeId} {cs : Array Value} (h : Mild D w w') (hg : Held w g t cs) : Held w' g t cs := h.cells g _ hg rfl
theorem Mild.own {base : Nat} {e : TypeId} {size : Nat} {v : Value} {n : Nat} {xs : List Value} (h : Mild D w w') (ho : w.ownsRow base e size v n xs) : w'.ownsRow base e size v n xs := by
  refine ⟨ho.1, ?_⟩
  rcases ho.2 with h2 | ⟨g, cap, cur, rfl, hbg, hg, hr⟩
  · exact .inl h2
  · exact .inr ⟨g, cap, cur, rfl, hbg, h.cells g _ hg rfl, hr⟩
end

def SeqAt (P : Program) (gf : Nat) (bound : Array Value) (enc : Nat → Array Value) (can : Nat → Bool) (next : Nat → Nat) (w0 : World) : Prop :=
  ∀ (l : Nat) (J : Nat → (Nat → Prop) → World → Prop) (Jx : World → Prop) (W : World) (F0 : Nat → Prop), Below w0.heap.size w0 W →
    (∀ pos F A B, J pos F A → Below A.heap.size A B → J pos F B) → (∀ A B, Jx A → Below A.heap.size A B → Jx B) →
    (∀ pos F A, J pos F A → Below w0.heap.size w0 A) → (∀ pos F A, J pos F A → ∀ i, F i → i < A.heap.size) →
    (∀ pos F A, J pos F A → W.heap.size ≤ A.heap.size → can pos = true → YieldAt Fence.wide 0 P l (enc pos) A fun e B =>
      (e = .returned (.bool true) ∧ ∃ F', J (next pos) F' B ∧ A.heap.size ≤ B.heap.size ∧ (∀ k, W.heap.size ≤ k → k < A.heap.size → ¬ F k → B.heap[k]? = A.heap[k]?) ∧ ∀ i, F' i → F i ∨ A.heap.size ≤ i) ∨
      (e = .returned (.bool false) ∧ Jx B)) →
    J 0 F0 W →
    CallsIn Fence.wide 0 P gf (bound ++ #[.func (.yield l) #[] #[]]) W fun e B => (∃ v, e = .returned v) ∧ ((∃ pos F, J pos F B ∧ can pos = false) ∨ Jx B)

def seqPost (I : Nat → (Nat → Prop) → World → Prop) (Ix : Code → World → Prop) (pos : Nat) (F : Nat → Prop) (N : Nat) (A : World) : Exit → Act → World → Prop
  | .normal, _, B => Turns F A B ∧ ∃ F', I pos F' B ∧ ∀ i, F' i → F i ∨ N ≤ i
  | .ret, _, B => Turns F A B ∧ Ix .ret B
  | .exit id, _, B => Turns F A B ∧ Ix (.exit id) B
  | .goto t, _, B => Turns F A B ∧ Ix (.goto t) B
  | .panic _, _, _ => False
  | .outgrown, _, _ => False

def RoundGo (D : Nat) (P : Program) (l : Nat) (body : Code) (Q : World → Exit → Act → World → Prop) (A : World) (a₁ : Act) (A₁ : World) : Prop :=
  Below A.heap.size A A₁ ∧ ∀ A₂, Mild D A₁ A₂ → A₂.heap.size = A₁.heap.size → body.wpIn (inR l) 0 P (Q A₂) a₁ A₂

def mark (D : Nat) : Deferred := { target := .collected D, args := #[] }

theorem wp_seq {P : Program} {g : Operand} {ps : Array Tmp} {assign body : Code} {Q : Exit → Act → World → Prop} {a : Act} {w : World} {gf : Nat} {bound : Array Value}
    (hg : a.eval g = .func (.func gf) bound #[]) (eg : ∀ args w, (callFunc gf args).run P w = .ok (.enter gf args) w)
    {enc : Nat → Array Value} {can : Nat → Bool} {next : Nat → Nat} {w0 : World} (hseq : SeqAt P gf bound enc can next w0) (hb0 : Below w0.heap.size w0 w) (hps : ∀ pos, (enc pos).size = ps.size)
    (I : Nat → (Nat → Prop) → World → Prop) (Ix : Code → World → Prop)
    (hI : ∀ pos F A B, I pos F A → Mild w.heap.size A B → I pos F B) (hIx : ∀ c A B, Ix c A → Mild w.heap.size A B → Ix c B)
    (hIB : ∀ pos F A, I pos F A → Below w0.heap.size w0 A) (hIF : ∀ pos F A, I pos F A → ∀ i, F i → ∃ o, A.heap[i]? = some o ∧ o.isCells = true)
    {F0 : Nat → Prop} (h0 : I 0 F0 w)
    (hround : ∀ (l pos : Nat) (F : Nat → Prop) (A : World), can pos = true → I pos F A → w.heap.size ≤ A.heap.size →
      assign.wpIn (inR l) 0 P (Exit.then (RoundGo w.heap.size P l body (seqPost I Ix (next pos) F A.heap.size) A) (fun _ _ _ => False))
        { tmps := (ps.zip (enc pos)).foldl (fun t (p, v) => t.setIfInBounds p v) a.tmps, defers := [] } A)
    (hdone : ∀ (D pos : Nat) (F : Nat → Prop) (A : World), w.heap.size ≤ D → can pos = false → I pos F A → A.heap[D]? = some (.deferred (some [])) → Q .normal { a with defers := mark D :: a.defers } A)
    (hstop : ∀ (D : Nat) (c : Code) (A : World), w.heap.size ≤ D → Ix c A → A.heap[D]? = some (.deferred (some [])) → c.wp P Q { a with defers := mark D :: a.defers } A) :
    (Code.rangeFunc g ps assign body).wp P Q a w := by
  refine (wpIn_wide (n := 1)).1 (wpIn_rangeFunc ?_)
  intro fn hfn
  obtain ⟨rec, hrec⟩ : ∃ rec : LoopState → Option Code → Loop, rec = fun st pe => { state := st, pending := pe, fn, tmps := a.tmps, params := ps, assign, body, defers := w.heap.size } := ⟨_, rfl⟩
  obtain ⟨W1, hW1⟩ : ∃ W1, (w.alloc (.deferred (some []))).alloc (.loop (rec .ready none)) = W1 := ⟨_, rfl⟩
  have hbw : Below w.heap.size w W1 := by rw [← hW1]; exact Bnew (Bnew (B0 w) _) _
  have hs1 : W1.heap.size = w.heap.size + 2 := by rw [← hW1]; simp
  have hL1 : W1.heap[w.heap.size + 1]? = some (.loop (rec .ready none)) := by
    have := heap_alloc_new (w.alloc (.deferred (some []))) (.loop (rec .ready none))
    rw [hW1] at this; simpa using this
  have hK1 : W1.heap[w.heap.size]? = some (.deferred (some [])) := by
    rw [← hW1]; exact (Below.heap_alloc _ _ _ (by simp)).trans (heap_alloc_new w _)
  refine ⟨w.heap.size + 1, [mark w.heap.size], W1, { target := .fn (.func gf) #[], args := bound ++ #[.func (.yield (w.heap.size + 1)) #[] #[]] }, W1, gf, bound ++ #[.func (.yield (w.heap.size + 1)) #[] #[]], W1, ?_, ?_, ?_, ?_, fun _ => Nat.le_refl _, ?_⟩
  · rw [← hW1, hrec]; exact run_enterLoop_outer _ _ _ _ _
  · simp only [resolve, hg]
    simp [go_sem]
  · intro f' hf'; exact trivial
  · simp [invoke, go_sem, eg]
  · have keepRow : ∀ {A B : World} {k : Nat} {o : Obj}, Below A.heap.size A B → A.heap[k]? = some o → B.heap[k]? = some o := fun hb hk => (hb.block _ (Array.getElem?_eq_some_iff.1 hk).1).trans hk
    refine (hseq (w.heap.size + 1)
      (fun pos F A => I pos F A ∧ w.heap.size ≤ A.heap.size ∧ A.heap[w.heap.size + 1]? = some (.loop (rec .ready none)) ∧ A.heap[w.heap.size]? = some (.deferred (some [])))
      (fun A => ∃ c, Ix c A ∧ w.heap.size ≤ A.heap.size ∧ A.heap[w.heap.size + 1]? = some (.loop (rec .done (some c))) ∧ A.heap[w.heap.size]? = some (.deferred (some [])))
      W1 F0 (hb0.trans (hbw.mono hb0.size))
      (fun pos F A B h hb => ⟨hI pos F A B h.1 (Mild.of_below h.2.1 hb), Nat.le_trans h.2.1 hb.size, keepRow hb h.2.2.1, keepRow hb h.2.2.2⟩)
      (fun A B h hb => by obtain ⟨c, h1, h2, h3, h4⟩ := h; exact ⟨c, hIx c A B h1 (Mild.of_below h2 hb), Nat.le_trans h2 hb.size, keepRow hb h3, keepRow hb h4⟩)
      (fun pos F A h => hIB pos F A h.1)
      (fun pos F A h i hi => by obtain ⟨o, ho, _⟩ := hIF pos F A h.1 i hi; exact (Array.getElem?_eq_some_iff.1 ho).1)
      ?_ ⟨hI 0 F0 w W1 h0 (Mild.of_below (Nat.le_refl _) hbw), hbw.size, hL1, hK1⟩).mono ?_
    · rintro pos F A ⟨hi, hsz, hl, hk⟩ hsA hc
      have hlt : w.heap.size + 1 < A.heap.size := (Array.getElem?_eq_some_iff.1 hl).1
      have hy := run_yield (P := P) (args := enc pos) hl (by rw [hrec]; exact hps pos)
      rw [hrec] at hy
      have hFl : ¬ F (w.heap.size + 1) := fun hf => by obtain ⟨o, ho, hoc⟩ := hIF pos F A hi _ hf; rw [hl] at ho; cases ho; cases hoc
      have hFk : ¬ F w.heap.size := fun hf => by obtain ⟨o, ho, hoc⟩ := hIF pos F A hi _ hf; rw [hk] at ho; cases ho; cases hoc
      refine ⟨fn, _, assign, body, hy, roundIn_of_wpIn hfn (wpIn_mono (hround _ pos F A hc hi hsz) ?_)⟩
      rintro e a₁ A₁ hg1
      cases e with
      | normal =>
        obtain ⟨hbA, hgo⟩ := hg1
        have hl1 := keepRow hbA hl
        have hk1 := keepRow hbA hk
        have hlt1 : w.heap.size + 1 < A₁.heap.size := (Array.getElem?_eq_some_iff.1 hl1).1
        refine ⟨_, run_beginRound hl1 (by rw [hrec]), ?_⟩
        obtain ⟨A₂, hA₂⟩ : ∃ A₂, A₁.putObj (w.heap.size + 1) (.loop { rec .ready none with state := .busy }) = A₂ := ⟨_, rfl⟩
        have hl2 : A₂.heap[w.heap.size + 1]? = some (.loop { rec .ready none with state := .busy }) := by rw [← hA₂]; exact World.putObj_heap_same hlt1
        have hk2 : A₂.heap[w.heap.size]? = some (.deferred (some [])) := by rw [← hA₂]; exact (World.putObj_heap_other (by omega)).trans hk1
        have hM2 : Mild w.heap.size A₁ A₂ := by rw [← hA₂]; exact Mild.put _ (by omega) hl1 rfl
        have hs2 : A₂.heap.size = A₁.heap.size := by rw [← hA₂]; simp
        have hrows : ∀ k, W1.heap.size ≤ k → k < A.heap.size → A₂.heap[k]? = A.heap[k]? := fun k h1 h2 => by
          rw [← hA₂]; exact (World.putObj_heap_other (by omega)).trans (hbA.block k h2)
        rw [hA₂]
        refine wpIn_mono (hgo A₂ hM2 hs2) ?_
        have fin : ∀ (jump : Option Code) (B : World), Turns F A₂ B → (Instr.endRound (w.heap.size + 1) jump).run P B = .ok (.bool jump.isNone) (B.putObj (w.heap.size + 1) (.loop (rec (if jump.isNone then .ready else .done) jump))) ∧
            Mild w.heap.size B (B.putObj (w.heap.size + 1) (.loop (rec (if jump.isNone then .ready else .done) jump))) ∧
            (B.putObj (w.heap.size + 1) (.loop (rec (if jump.isNone then .ready else .done) jump))).heap[w.heap.size + 1]? = some (.loop (rec (if jump.isNone then .ready else .done) jump)) ∧
            (B.putObj (w.heap.size + 1) (.loop (rec (if jump.isNone then .ready else .done) jump))).heap[w.heap.size]? = some (.deferred (some [])) := fun jump B hT => by
          have hl3 := (hT.block _ (Array.getElem?_eq_some_iff.1 hl2).1 hFl).trans hl2
          have hk3 := (hT.block _ (Array.getElem?_eq_some_iff.1 hk2).1 hFk).trans hk2
          have := run_endRound (P := P) jump hl3
          rw [hrec] at this ⊢
          exact ⟨this, Mild.put _ (by omega) hl3 rfl, World.putObj_heap_same (Array.getElem?_eq_some_iff.1 hl3).1, (World.putObj_heap_other (by omega)).trans hk3⟩
        rintro e a3 B hp
        cases e with
        | normal =>
          obtain ⟨hT, F', hi3, hF'⟩ := hp
          obtain ⟨hr, hm, hl4, hk4⟩ := fin none B hT
          have hsB : A.heap.size ≤ B.heap.size := by have := hT.size; have := hbA.size; omega
          refine ⟨_, _, hr, .inl ⟨rfl, F', ⟨hI _ _ _ _ hi3 hm, ?_, hl4, hk4⟩, by simpa using hsB, fun k h1 h2 hf => ?_, hF'⟩⟩
          · have := hm.size; omega
          · rw [World.putObj_heap_other (by omega), hT.block k (by have := hbA.size; omega) hf]; exact hrows k h1 h2
        | ret =>
          obtain ⟨hT, hx⟩ := hp
          obtain ⟨hr, hm, hl4, hk4⟩ := fin (some .ret) B hT
          exact ⟨_, _, hr, .inr ⟨rfl, .ret, hIx _ _ _ hx hm, by have := hm.size; have := hT.size; have := hbA.size; omega, hl4, hk4⟩⟩
        | exit id =>
          obtain ⟨hT, hx⟩ := hp
          obtain ⟨hr, hm, hl4, hk4⟩ := fin (some (.exit id)) B hT
          exact ⟨_, _, hr, .inr ⟨rfl, .exit id, hIx _ _ _ hx hm, by have := hm.size; have := hT.size; have := hbA.size; omega, hl4, hk4⟩⟩
        | goto t =>
          obtain ⟨hT, hx⟩ := hp
          obtain ⟨hr, hm, hl4, hk4⟩ := fin (some (.goto t)) B hT
          exact ⟨_, _, hr, .inr ⟨rfl, .goto t, hIx _ _ _ hx hm, by have := hm.size; have := hT.size; have := hbA.size; omega, hl4, hk4⟩⟩
        | panic ch => exact hp.elim
        | outgrown => exact hp.elim
      | exit id => exact hg1.elim
      | goto t => exact hg1.elim
      | ret => exact hg1.elim
      | panic ch => exact hg1.elim
      | outgrown => exact hg1.elim
    · rintro e B ⟨⟨v, rfl⟩, (⟨pos, F, ⟨hi, hsz, hl, hk⟩, hc⟩ | ⟨c, hx, hsz, hl, hk⟩)⟩
      · have hm : Mild w.heap.size B (B.putObj (w.heap.size + 1) (.loop { rec .ready none with state := .exhausted })) := Mild.put _ (by omega) hl rfl
        exact ⟨none, _, by have := run_endLoop (P := P) hl (by rw [hrec]; simp); rw [hrec] at this ⊢; exact this, hdone _ pos F _ (Nat.le_refl _) hc (hI _ _ _ _ hi hm) ((World.putObj_heap_other (by omega)).trans hk)⟩
      · have hm : Mild w.heap.size B (B.putObj (w.heap.size + 1) (.loop { rec .done (some c) with state := .exhausted })) := Mild.put _ (by omega) hl rfl
        exact ⟨some c, _, by have := run_endLoop (P := P) hl (by rw [hrec]; simp); rw [hrec] at this ⊢; exact this, wpIn_wide.2 (hstop _ c _ (Nat.le_refl _) (hIx _ _ _ hx hm) ((World.putObj_heap_other (by omega)).trans hk))⟩

def noPanic (Q : Exit → Act → World → Prop) : Exit → Act → World → Prop
  | .panic _, _, _ => False
  | .outgrown, _, _ => False
  | .normal, a, w => Q .normal a w
  | .ret, a, w => Q .ret a w
  | .exit id, a, w => Q (.exit id) a w
  | .goto t, a, w => Q (.goto t) a w
theorem calls_of_wp_mark {P : Program} {f : FuncId} {fn : Func} {c : Code} {args : Array Value} {w : World} {R : Ending → World → Prop} (hf : P.funcs[f]? = some fn) (hb : fn.body = some c)
    (h : c.wp P (noPanic (bodyPostM Fence.wide 0 P fn R)) { tmps := args ++ Array.replicate (fn.ntmps - args.size) undef, defers := [] } w) : Calls P f args w R :=
  callsIn_wide.1 (callsIn_of_wp_marks hf hb trivial (wpIn_wide.2 (wp_mono h (fun e a w hq => by cases e <;> first | exact hq | exact hq.elim))) rfl)
theorem mark_end {P : Program} {fn : Func} {R : Ending → World → Prop} {a : Act} {w : World} {D : Nat} (hd : a.defers = [mark D]) (hk : w.heap[D]? = some (.deferred (some [])))
    (h : bodyPost P fn R .ret { a with defers := [] } (w.putObj D (.deferred none))) : bodyPostM Fence.wide 0 P fn R .ret a w := by
  show LeavesInM Fence.wide 0 P fn a.tmps R a.defers .returning w
  rw [hd]
  refine ⟨by simp, .inl ⟨_, _, rfl, run_takeDeferred hk, ?_⟩⟩
  exact h.2
end
end Go.Proofs.YtkbjckhbllmclaaGreatDoor

namespace Go.Proofs.YtkbjckhbllmclaaGreatDoor
open Go.ChangeShapes Go.WideShapes Go.ChangeAt Go.RowKit Go.Shelf
set_option linter.unusedVariables false
set_option linter.unusedSimpArgs false
section
theorem Held.one {w : World} {g : Nat} {t : TypeId} {c0 : Value} (h : Held w g t #[c0]) : w.cell? ⟨g, 0, none⟩ = some c0 ∧ w.frozen? ⟨g, 0, none⟩ = false := ⟨h.cell 0, h.thawed 0⟩
theorem Held.put1 {w : World} {g : Nat} {t : TypeId} {c0 : Value} (h : Held w g t #[c0]) (u : Value) : Held (w.setCell ⟨g, 0, none⟩ u) g t #[u] := h.put 0 u
theorem Held.shut {w : World} {g : Nat} {t : TypeId} {cs : Array Value} (h : Held w g t cs) {D : Nat} {o o' : Obj} (hk : w.heap[D]? = some o) (ho : o.isCells = false) : Held (w.putObj D o') g t cs := (Mild.put (D := 0) o' (Nat.zero_le _) hk ho).held h
theorem shutB {W w : World} (h : Below W.heap.size W w) {D : Nat} {o o' : Obj} (hk : w.heap[D]? = some o) (ho : o.isCells = false) (hD : W.heap.size ≤ D) : Below W.heap.size W (w.putObj D o') := (Mild.put (D := W.heap.size) o' hD hk ho).below h (Nat.le_refl _)
theorem bool_no {b : Bool} {p : Prop} (hb : b = true ↔ p) (h : ¬ p) : b = false := by cases b; rfl; exact absurd (hb.1 rfl) h
theorem bool_yes {b : Bool} {p : Prop} (hb : b = true ↔ p) (h : p) : b = true := hb.2 h

def encS (H : AuH) (q : Nat) : Array Value := #[.int .i64 (q : Int), .agg #[.int .i64 (H.K q), .int .i64 (H.ln q : Int), .int .i64 (H.Cl q)]]

section
attribute [local go_sem] Oper.semAt_some
set_option maxHeartbeats 1600000 in
theorem auSpans_seq {H : AuH} {n c : Nat} (HV : HeapV H n c) (ad : Addr) (w0 : World) (hv : IsVals w0 ad n H.V) :
    SeqAt Tryz.prog 29 #[hpV H ad n c] (encS H) H.can H.nx w0 := by
  intro l J Jx W F0 hW hJ hJx hJB hJF hY h0
  have hn := HV.nums
  have HP : H.p ≤ 1024 := hn.2.2.2.1
  refine callsIn_of_wp Tryz.func29 rfl trivial ?_ rfl
  unfold hpV
  simp only [Tryz.ntmps29, List.size_toArray, List.length_cons, List.length_nil, Nat.reduceAdd, Nat.reduceSub, Array.replicate_succ, Array.replicate_zero, List.push_toArray, List.append_toArray, List.nil_append, List.cons_append]
  have hc := Held.new W 51 #[.int .i64 (H.t : Int), .int .i64 (H.p : Int), .int .i64 (H.s : Int), .slice (some ad) n c]
  have HF0 : Hid (¬ F0 W.heap.size) := hidp (fun hf => by have := hJF _ _ _ h0 _ hf; omega)
  have HJ0 := hidp (hJ _ _ _ _ h0 (Bnew (B0 W) (.cells #[.int .i64 (H.t : Int), .int .i64 (H.p : Int), .int .i64 (H.s : Int), .slice (some ad) n c] 51)))
  have HC0 := hidp hc
  have HJ := hidp hJ
  have HJX := hidp hJx
  have HJB := hidp hJB
  have HJF := hidp hJF
  have HY := hidp hY
  have HW := hidp hW
  have HVL := hidp hv
  clear hJ hJx hJB hJF hY h0 hc hn hW hv
  gi_wp2_with fail
  gi_loopw [4] (fun u wr => ∃ (pos : Nat) (F : Nat → Prop), u = .int .i64 (pos : Int) ∧ pos ≤ H.p ∧ Hid (J pos F wr) ∧ Hid (Held wr W.heap.size 51 #[.int .i64 (H.t : Int), .int .i64 (H.p : Int), .int .i64 (H.s : Int), .slice (some ad) n c]) ∧ Hid (¬ F W.heap.size)) (fun u _ => H.p - (intOf u).toNat)
  case atStart => exact ⟨0, F0, rfl, by omega, HJ0, HC0, HF0⟩
  case round =>
    clear HJ0 HC0 HF0
    obtain ⟨pos, F, rfl, hpos, HJS, HC, HF⟩ := hrel
    obtain ⟨c0, c1, c2, c3⟩ := HC.out.four
    by_cases hlt : pos < H.p
    · have HVR := hidp (HVL.out.below (HJB.out _ _ _ HJS.out))
      have hr : wr.heap.size = wr.heap.size := rfl
      have HT := hidp (H.K_cases pos)
      by_cases hk0 : H.K pos = 0
      · have HCN := hidp ((H.can_no pos).2 (fun h => h.2.1 hk0))
        have HIE := hidp (H.info_eq pos)
        rw [hk0] at HIE
        have hL : H.L pos = 0 := by rw [H.L_ln]; have := HT.out; omega
        rw [hL] at HIE
        generalize H.Cl pos = cl at *
        generalize H.ok pos = b at *
        clear hL hk0
        cases b
        all_goals
          gi_wp2_with (first
        | (refine ⟨trivial, rfl, ?_⟩; gi_at_call 49; refine (calls_out (auAt_Info_c HV ad hlt _ HVR.out)).mono ?_; rintro e w1 ⟨rfl, hb1⟩; have HB1 := hidp hb1; clear hb1)
        | (refine ⟨trivial, rfl, ?_⟩; gi_at_call 48; refine (calls_out (inGet_c _ _ _ _ _ (HV.cel_lt hlt (by omega)) HIE.out _)).mono ?_; rintro e w2 ⟨rfl, hb2⟩; have HB2 := hidp (Bgo HB1.out hb2); clear hb2)
        | fail)
          refine ⟨fun _ _ => trivial, ?_⟩
          gi_wp2
          refine bodyPost_ret (results_none rfl _ _ _) rfl ?_
          exact ⟨⟨_, rfl⟩, .inl ⟨pos, F, HJ.out _ _ _ _ HJS.out (Bnew HB2.out _), HCN.out⟩⟩
      · have HIE : Hid (infoG (H.cel pos 0) = (H.K pos, (H.ln pos : Int), H.Cl pos, true)) := hidp (by have h := H.info_eq pos; rw [H.ok_of pos hk0, H.L_ln] at h; exact h)
        have HEN : Hid (encS H pos = #[.int .i64 (pos : Int), .agg #[.int .i64 (H.K pos), .int .i64 (H.ln pos : Int), .int .i64 (H.Cl pos)]]) := hidp rfl
        have hm := H.ln_pos pos hk0
        have HCI := hidp (H.can_iff pos)
        have HCN := hidp (H.can_no pos)
        have HNX : Hid (H.nx pos = pos + H.ln pos) := hidp rfl
        generalize H.K pos = k at *
        generalize H.ln pos = m at *
        generalize H.Cl pos = cl at *
        have q0 : (k == 0) = false := by simpa using hk0
        have e0 : IntKind.i64.wrap ((H.p : Int) - pos) = (H.p : Int) - pos := i64_same (by omega) (by omega)
        rcases Nat.lt_or_ge (H.p - pos) m with h2 | h2
        · have q1 : decide ((H.p : Int) - pos < m) = true := decide_eq_true (by omega)
          gi_wp2_with (first
        | (refine ⟨trivial, rfl, ?_⟩; gi_at_call 49; refine (calls_out (auAt_Info_c HV ad hlt _ HVR.out)).mono ?_; rintro e w1 ⟨rfl, hb1⟩; have HB1 := hidp hb1; clear hb1)
        | (refine ⟨trivial, rfl, ?_⟩; gi_at_call 48; refine (calls_out (inGet_c _ _ _ _ _ (HV.cel_lt hlt (by omega)) HIE.out _)).mono ?_; rintro e w2 ⟨rfl, hb2⟩; have HB2 := hidp (Bgo HB1.out hb2); clear hb2; obtain ⟨d0, d1, d2, d3⟩ := (HC.out.keep (Bnew HB2.out (.cells #[.int .i64 k, .int .i64 (m : Int), .int .i64 cl] 63))).four)
        | fail)
          refine ⟨fun _ _ => trivial, ?_⟩
          gi_wp2
          refine bodyPost_ret (results_none rfl _ _ _) rfl ?_
          exact ⟨⟨_, rfl⟩, .inl ⟨pos, F, HJ.out _ _ _ _ HJS.out (Bnew HB2.out _), HCN.out.2 (by omega)⟩⟩
        · have q1 : decide ((H.p : Int) - pos < m) = false := decide_eq_false (by omega)
          gi_wp2_with (first
        | (refine ⟨trivial, rfl, ?_⟩; gi_at_call 49; refine (calls_out (auAt_Info_c HV ad hlt _ HVR.out)).mono ?_; rintro e w1 ⟨rfl, hb1⟩; have HB1 := hidp hb1; clear hb1)
        | (refine ⟨trivial, rfl, ?_⟩; gi_at_call 48; refine (calls_out (inGet_c _ _ _ _ _ (HV.cel_lt hlt (by omega)) HIE.out _)).mono ?_; rintro e w2 ⟨rfl, hb2⟩; have HB2 := hidp (Bgo HB1.out hb2); clear hb2; obtain ⟨d0, d1, d2, d3⟩ := (HC.out.keep (Bnew HB2.out (.cells #[.int .i64 k, .int .i64 (m : Int), .int .i64 cl] 63))).four; obtain ⟨fn, tmps, assign, body, hy, hR⟩ := HY.out pos F _ (HJ.out _ _ _ _ HJS.out (Bnew HB2.out (.cells #[.int .i64 k, .int .i64 (m : Int), .int .i64 cl] 63))) (by have := HB2.out.size; have := HC.out.lt; simp; omega) (HCI.out.2 (by omega)); rw [HEN.out] at hy; have HRR := hidp hR; clear hR)
        | fail)
          have HLT := hidp HC.out.lt
          have HFW := hidp (HJF.out _ _ _ HJS.out)
          have HSZ2 : Hid (wr.heap.size ≤ w2.heap.size) := hidp HB2.out.size
          have HNT : Hid (Held (w2.alloc (.cells #[.int .i64 k, .int .i64 (m : Int), .int .i64 cl] 63)) w2.heap.size 63 #[.int .i64 k, .int .i64 (m : Int), .int .i64 cl]) := hidp (Held.new w2 _ _)
          have HCA := hidp (HC.out.keep (Bnew HB2.out (.cells #[.int .i64 k, .int .i64 (m : Int), .int .i64 cl] 63)))
          clear hy d0 d1 d2 d3 c0 c1 c2 c3 HB1 HB2 HIE HEN HC HVR HJS
          refine ⟨rfl, HRR.out.mono ?_⟩
          rintro e W3 (⟨rfl, F', hJ3, hsz3, hk3, hF3⟩ | ⟨rfl, hx⟩)
          · have hszA : (w2.alloc (.cells #[.int .i64 k, .int .i64 (m : Int), .int .i64 cl] 63)).heap.size = w2.heap.size + 1 := by simp
            have HC3 : Hid (Held W3 W.heap.size 51 #[.int .i64 (H.t : Int), .int .i64 (H.p : Int), .int .i64 (H.s : Int), .slice (some ad) n c]) :=
              hidp ((hk3 _ (Nat.le_refl _) HCA.out.lt HF.out).trans HCA.out)
            have HN3 : Hid (Held W3 w2.heap.size 63 #[.int .i64 k, .int .i64 (m : Int), .int .i64 cl]) := hidp ((hk3 _ (by have := HLT.out; have := HSZ2.out; omega) HNT.out.lt (fun hf => by have := HFW.out _ hf; have := HSZ2.out; omega)).trans HNT.out)
            have HF3 : Hid (¬ F' W.heap.size) := hidp (fun hf => by
              rcases hF3 _ hf with h | h
              · exact HF.out h
              · rw [hszA] at h; have := HLT.out; have := HSZ2.out; omega)
            have HJ3 := hidp hJ3
            rw [HNX.out] at HJ3
            have d1 := HN3.out.three.2.1
            clear hJ3 hk3 hF3 hsz3 hszA HCA HNT HRR HY HJ HJX HJB HF
            gi_wp2
            go_roundw
            case rel => exact ⟨pos + m, F', by go_num, by omega, HJ3, HC3, HF3⟩
            case measure => simp [intOf]; omega
          · have HX := hidp hx
            clear hx HY HJ HJX HJB HF HRR HCA
            gi_wp2
            refine bodyPost_ret (results_none rfl _ _ _) rfl ?_
            exact ⟨⟨_, rfl⟩, .inr HX.out⟩
    · gi_wp2
      go_end0
      exact ⟨⟨_, rfl⟩, .inl ⟨pos, F, HJS.out, (H.can_no pos).2 (by omega)⟩⟩
end
end
end Go.Proofs.YtkbjckhbllmclaaGreatDoor

namespace Go.Proofs.YtkbjckhbllmclaaGreatDoor
open Go.ChangeShapes Go.WideShapes Go.ChangeAt Go.RowKit
set_option linter.unusedVariables false
set_option linter.unusedSimpArgs false
section
theorem auLink_c (p : Nat) (hp : p < 2000000000) (w : World) :
    Calls Tryz.prog 104 #[.int .i64 (p : Int)] w fun e w' => e = .returned (.int .u32 ((p + 1 : Nat) : Int)) ∧ w = w' := by
  have h1 : IntKind.u32.wrap (p : Int) = (p : Int) := wrap_nat32 p (by omega)
  have h2 : IntKind.u32.wrap ((p : Int) + 1) = (p : Int) + 1 := by have := wrap_nat32 (p + 1) (by omega); push_cast at this; exact this
  go_enter Tryz.func104, Tryz.ntmps104
  go_wp2
  go_ret
  exact ⟨ret_int (by push_cast; rfl), rfl⟩

theorem mask_wrap (n : Nat) (hn : n ≤ 32) : IntKind.u32.wrap (IntKind.u32.wrap (2 ^ n) - 1) = ((2 ^ n - 1 : Nat) : Int) := by
  rcases Nat.lt_or_ge n 32 with h | h
  · have h1 : (2 : Nat) ^ n < 2 ^ 32 := Nat.pow_lt_pow_right (by omega) h
    have h2 : 1 ≤ (2 : Nat) ^ n := Nat.one_le_two_pow
    have e : ((2 : Int) ^ n) = ((2 ^ n : Nat) : Int) := by push_cast; rfl
    rw [e, wrap_nat32 _ h1, show ((2 ^ n : Nat) : Int) - 1 = ((2 ^ n - 1 : Nat) : Int) by omega, wrap_nat32 _ (by omega)]
  · have : n = 32 := by omega
    subst this
    decide
theorem auSlotBits_c (k : Int) (h0 : -9223372036854775808 ≤ k) (h1 : k ≤ 9223372036854775807) (w : World) (hT : SlotsLaid w) :
    Calls Tryz.prog 105 #[.int .i64 k] w fun e w' => e = .returned (.int .u32 ((2 ^ slotI k - 1 : Nat) : Int)) ∧ w = w' := by
  have hs := slotI_le k
  have HM := hidp (mask_wrap (slotI k) hs)
  have HC : Hid (Calls Tryz.prog 27 #[.int .i64 k] w fun e w' => e = .returned (.int .i64 ((slotI k : Nat) : Int)) ∧ w = w') := hidp (clSlots_c k h0 h1 w hT)
  generalize slotI k = n at *
  have q0 : decide ((n : Int) < 0) = false := decide_eq_false (by omega)
  go_enter Tryz.func105, Tryz.ntmps105
  go_wp2_with (first
    | (go_at_call 27; refine HC.out.mono ?_; rintro e w1 ⟨rfl, rfl⟩)
    | fail)
  go_ret
  exact ⟨ret_int (by first | exact HM.out | simpa using HM.out), rfl⟩

theorem auHasSlot_c (v s : Nat) (b : Bool) (hv : v < 2 ^ 32) (hs : s < 32) (hb : v.testBit s = b) (w : World) :
    Calls Tryz.prog 94 #[.int .u32 (v : Int), .int .i64 (s : Int)] w fun e w' => e = .returned (.bool b) ∧ w = w' := by
  have e1 : IntKind.u32.wrap ((v : Int) / 2 ^ s) = ((v / 2 ^ s : Nat) : Int) := by rw [shr_cast]; exact wrap_nat32 _ (Nat.lt_of_le_of_lt (Nat.div_le_self _ _) hv)
  have e2 := shr_cast v s
  have hB := HM.bit_eq v s
  rw [hb] at hB
  have HB : Hid (v / 2 ^ s % 2 = b.toNat) := hidp hB
  have hlt : v / 2 ^ s < 2 ^ 32 := Nat.lt_of_le_of_lt (Nat.div_le_self _ _) hv
  generalize v / 2 ^ s = y at *
  have hA : bits .and .u32 (y : Int) 1 = ((b.toNat : Nat) : Int) := by
    have := u32_and_nat y 1 hlt (by omega)
    rw [Nat.and_one_is_mod, HB.out] at this
    exact this
  have q0 : decide ((s : Int) < 0) = false := decide_eq_false (by omega)
  go_enter Tryz.func94, Tryz.ntmps94
  go_wp2
  go_ret
  refine ⟨ret_bool ?_, rfl⟩
  cases b <;> rfl

def slotKd (taken live s : Nat) : Nat := if live.testBit s then 2 else if taken.testBit s then 4 else 3
theorem auSlotKind_c (taken live s : Nat) (ht : taken < 2 ^ 32) (hl : live < 2 ^ 32) (hs : s < 32) (w : World) :
    Calls Tryz.prog 54 #[.int .u32 (taken : Int), .int .u32 (live : Int), .int .i64 (s : Int)] w fun e w' => e = .returned (.int .i64 ((slotKd taken live s : Nat) : Int)) ∧ w = w' := by
  unfold slotKd
  obtain ⟨a, ha⟩ : ∃ a, live.testBit s = a := ⟨_, rfl⟩
  obtain ⟨b, hb⟩ : ∃ b, taken.testBit s = b := ⟨_, rfl⟩
  rw [ha, hb]
  have H1 : Hid (∀ W : World, Calls Tryz.prog 94 #[.int .u32 (live : Int), .int .i64 (s : Int)] W fun e w' => e = .returned (.bool a) ∧ W = w') := hidp (auHasSlot_c live s a hl hs ha)
  have H2 : Hid (∀ W : World, Calls Tryz.prog 94 #[.int .u32 (taken : Int), .int .i64 (s : Int)] W fun e w' => e = .returned (.bool b) ∧ W = w') := hidp (auHasSlot_c taken s b ht hs hb)
  clear ha hb
  cases a <;> cases b
  all_goals
    go_enter Tryz.func54, Tryz.ntmps54
    go_wp2_with (first
      | (go_at_call 94; refine (H1.out _).mono ?_; clear H1; rintro e w1 ⟨rfl, rfl⟩)
      | (go_at_call 94; refine (H2.out _).mono ?_; rintro e w1 ⟨rfl, rfl⟩)
      | fail)
    go_ret
    exact ⟨rfl, rfl⟩

theorem auLinked_no {H : AuH} {n c : Nat} (HV : HeapV H n c) (ad : Addr) (v : Nat) (hv : v < 2 ^ 32) (h : v = 0 ∨ H.p < v) (w : World) :
    Calls Tryz.prog 136 #[hpV H ad n c, .int .u32 (v : Int)] w fun e w' => e = .returned (.tuple #[.int .i64 0, .bool false]) ∧ Below w.heap.size w w' := by
  have hp := HV.nums.2.2.2.1
  unfold hpV
  rcases h with rfl | h
  · go_enter Tryz.func136, Tryz.ntmps136
    go_wp2
    go_ret2
    exact ⟨rfl, Bnew (B0 _) _⟩
  · have q0 : ((v : Int) == 0) = false := by simp; omega
    have q1 : decide ((H.p : Int) < v) = true := decide_eq_true (by omega)
    have w1 : IntKind.u64.wrap (H.p : Int) = (H.p : Int) := wrap_nat64 _ (by omega)
    have w2 : IntKind.u64.wrap (v : Int) = (v : Int) := wrap_nat64 _ (by omega)
    go_enter Tryz.func136, Tryz.ntmps136
    go_wp2
    go_ret2
    exact ⟨rfl, Bnew (B0 _) _⟩
theorem auLinked_yes {H : AuH} {n c : Nat} (HV : HeapV H n c) (ad : Addr) (q : Nat) (h : q < H.p) (w : World) :
    Calls Tryz.prog 136 #[hpV H ad n c, .int .u32 ((q + 1 : Nat) : Int)] w fun e w' => e = .returned (.tuple #[.int .i64 (q : Int), .bool true]) ∧ Below w.heap.size w w' := by
  have hp := HV.nums.2.2.2.1
  obtain ⟨v, hv⟩ : ∃ v, q + 1 = v := ⟨_, rfl⟩
  rw [hv]
  unfold hpV
  have q0 : ((v : Int) == 0) = false := by simp; omega
  have q1 : decide ((H.p : Int) < v) = false := decide_eq_false (by omega)
  have w1 : IntKind.u64.wrap (H.p : Int) = (H.p : Int) := wrap_nat64 _ (by omega)
  have w2 : IntKind.u64.wrap (v : Int) = (v : Int) := wrap_nat64 _ (by omega)
  have w3 : IntKind.u32.wrap ((v : Int) - 1) = (q : Int) := by rw [show (v : Int) - 1 = (q : Int) by omega]; exact wrap_nat32 _ (by omega)
  go_enter Tryz.func136, Tryz.ntmps136
  go_wp2
  go_ret2
  refine ⟨?_, Bnew (B0 _) _⟩
  simp [w3]
end
end Go.Proofs.YtkbjckhbllmclaaGreatDoor

namespace Go.Proofs.YtkbjckhbllmclaaGreatDoor
open Go.ChangeShapes Go.WideShapes Go.ChangeAt Go.RowKit Go.Shelf
set_option linter.unusedVariables false
set_option linter.unusedSimpArgs false
section
section
attribute [local go_sem] Oper.semAt_some
set_option maxHeartbeats 1600000 in
theorem auHasSpans_c {H : AuH} {n c : Nat} (HV : HeapV H n c) (ad : Addr) (b : Bool) (hb : b = true ↔ H.Tiled) (w : World) (hv : IsVals w ad n H.V) :
    Calls Tryz.prog 78 #[hpV H ad n c] w fun e w' => e = .returned (.bool b) ∧ Below w.heap.size w w' := by
  have HVL := hidp hv
  have HP : H.p ≤ 1024 := HV.nums.2.2.2.1
  refine calls_of_wp_mark Tryz.func78 rfl ?_
  unfold hpV
  simp only [Tryz.ntmps78, List.size_toArray, List.length_cons, List.length_nil, Nat.reduceAdd, Nat.reduceSub, Array.replicate_succ, Array.replicate_zero, List.push_toArray, List.append_toArray, List.nil_append, List.cons_append]
  have HX0 := hidp (((Held.new w 51 #[.int .i64 (H.t : Int), .int .i64 (H.p : Int), .int .i64 (H.s : Int), .slice (some ad) n c]).alloc (.cells #[.bool false] 4)).alloc (.cells #[.int .i64 0] 3))
  have HX1 := hidp ((Held.new (w.alloc (.cells #[.int .i64 (H.t : Int), .int .i64 (H.p : Int), .int .i64 (H.s : Int), .slice (some ad) n c] 51)) 4 #[.bool false]).alloc (.cells #[.int .i64 0] 3))
  have HX2 := hidp (Held.new ((w.alloc (.cells #[.int .i64 (H.t : Int), .int .i64 (H.p : Int), .int .i64 (H.s : Int), .slice (some ad) n c] 51)).alloc (.cells #[.bool false] 4)) 3 #[.int .i64 0])
  have HBW := hidp (Bnew (Bnew (Bnew (B0 w) (.cells #[.int .i64 (H.t : Int), .int .i64 (H.p : Int), .int .i64 (H.s : Int), .slice (some ad) n c] 51)) (.cells #[.bool false] 4)) (.cells #[.int .i64 0] 3))
  rw [World.size_alloc] at HX1
  rw [World.size_alloc, World.size_alloc] at HX2
  go_wp2_with fail
  generalize ((w.alloc (.cells #[.int .i64 (H.t : Int), .int .i64 (H.p : Int), .int .i64 (H.s : Int), .slice (some ad) n c] 51)).alloc (.cells #[.bool false] 4)).alloc (.cells #[.int .i64 0] 3) = W3 at *
  refine wp_seq (w0 := w) (gf := 29) (bound := #[hpV H ad n c]) (enc := encS H) (can := H.can) (next := H.nx) rfl (enters_of Tryz.func29 (by kernel_rfl) rfl) (auSpans_seq HV ad w HVL.out) HBW.out (fun _ => rfl)
    (fun pos F A => F = (fun i => i = w.heap.size + 1 ∨ i = w.heap.size + 1 + 1) ∧ H.At pos ∧ H.Bare pos ∧ Held A w.heap.size 51 #[.int .i64 (H.t : Int), .int .i64 (H.p : Int), .int .i64 (H.s : Int), .slice (some ad) n c] ∧ Held A (w.heap.size + 1) 4 #[.bool false] ∧ Held A (w.heap.size + 1 + 1) 3 #[.int .i64 (pos : Int)] ∧ Below w.heap.size w A)
    (fun c A => c = .ret ∧ b = false ∧ Held A (w.heap.size + 1) 4 #[.bool false] ∧ Below w.heap.size w A)
    ?hI ?hIx ?hIB ?hIF (F0 := fun i => i = w.heap.size + 1 ∨ i = w.heap.size + 1 + 1) ⟨rfl, .zero, fun a _ _ h => absurd h (by omega), HX0.out, HX1.out, HX2.out, HBW.out⟩ ?round ?done ?stop
  case hI => rintro pos F A B ⟨h1, h2, h3, h4, h5, h6, h7⟩ hm; exact ⟨h1, h2, h3, hm.held h4, hm.held h5, hm.held h6, hm.below h7 HBW.out.size⟩
  case hIx => rintro c A B ⟨h1, h2, h3, h4⟩ hm; exact ⟨h1, h2, hm.held h3, hm.below h4 HBW.out.size⟩
  case hIB => rintro pos F A ⟨h1, h2, h3, h4, h5, h6, h7⟩; exact h7
  case hIF => rintro pos F A ⟨rfl, h2, h3, h4, h5, h6, h7⟩ i (rfl | rfl); exact ⟨_, h5, rfl⟩; exact ⟨_, h6, rfl⟩
  case round =>
    rintro l pos F A hc ⟨rfl, hat, hbare, x0, x1, x2, hB⟩ hsz
    unfold encS
    gi_wp2_with fail
    refine ⟨Bnew (B0 A) _, fun A2 hM hs => ?_⟩
    have HN := hidp (hM.held (Held.new A 63 #[.int .i64 (H.K pos), .int .i64 (H.ln pos : Int), .int .i64 (H.Cl pos)]))
    have HX0 := hidp (hM.held (x0.alloc (.cells #[.int .i64 (H.K pos), .int .i64 (H.ln pos : Int), .int .i64 (H.Cl pos)] 63)))
    have HX1 := hidp (hM.held (x1.alloc (.cells #[.int .i64 (H.K pos), .int .i64 (H.ln pos : Int), .int .i64 (H.Cl pos)] 63)))
    have HX2 := hidp (hM.held (x2.alloc (.cells #[.int .i64 (H.K pos), .int .i64 (H.ln pos : Int), .int .i64 (H.Cl pos)] 63)))
    have HB := hidp (hM.below (Bnew hB (.cells #[.int .i64 (H.K pos), .int .i64 (H.ln pos : Int), .int .i64 (H.Cl pos)] 63)) HBW.out.size)
    have HAT := hidp hat
    have HBARE := hidp hbare
    have HC := hidp hc
    have HAL : Hid (w.heap.size + 1 + 1 < A.heap.size) := hidp x2.lt
    obtain ⟨hlt, hk0, hle⟩ := (H.can_iff pos).1 hc
    have hm := H.ln_pos pos hk0
    have HNX : Hid (H.nx pos = pos + H.ln pos) := hidp rfl
    clear hM x0 x1 x2 hB hat hbare hc hk0 hs hsz
    obtain ⟨c0, c1, c2, c3⟩ := HX0.out.four
    have d1 := HN.out.three.2.1
    have e0 : A2.frozen? ⟨w.heap.size + 1 + 1, 0, none⟩ = false := HX2.out.thawed 0
    have e1 := HX2.out.cell 0
    simp only [List.getElem?_toArray, List.getElem?_cons_zero] at e1
    generalize H.ln pos = m at *
    gi_wp2_with fail
    have HT0 : Hid (Turns (fun i => i = w.heap.size + 1 ∨ i = w.heap.size + 1 + 1) A2 (A2.setCell ⟨w.heap.size + 1 + 1, 0, none⟩ (.int .i64 ((pos : Int) + m)))) := hidp ((T0 _ _).put (.inr rfl) _)
    have HY2 : Hid (Held (A2.setCell ⟨w.heap.size + 1 + 1, 0, none⟩ (.int .i64 ((pos : Int) + m))) (w.heap.size + 1 + 1) 3 #[.int .i64 ((pos : Int) + m)]) := hidp (HX2.out.put 0 _)
    have HY1 : Hid (Held (A2.setCell ⟨w.heap.size + 1 + 1, 0, none⟩ (.int .i64 ((pos : Int) + m))) (w.heap.size + 1) 4 #[.bool false]) := hidp (HX1.out.far (by simp) _)
    gi_loopw [6] (fun u wr => ∃ q : Nat, u = .int .i64 (q : Int) ∧ pos < q ∧ q ≤ pos + m ∧ Hid (∀ r, pos < r → r < q → H.cel r 0 = 0) ∧ Hid (Turns (fun i => i = w.heap.size + 1 ∨ i = w.heap.size + 1 + 1) A2 wr) ∧ Hid (Held wr (w.heap.size + 1 + 1) 3 #[.int .i64 ((pos : Int) + m)]) ∧ Hid (Held wr (w.heap.size + 1) 4 #[.bool false])) (fun u _ => pos + m - (intOf u).toNat)
    case atStart => exact ⟨pos + 1, by go_num, by omega, by omega, hidp (fun r h1 h2 => by omega), HT0, HY2, HY1⟩
    case round =>
      clear HT0 HY2 HY1 e0 e1
      obtain ⟨q, rfl, hq1, hq2, HZ, HT, HY2, HY1⟩ := hrel
      have HQ0 := hidp (HT.out.held HX0.out (by omega))
      have HBR := hidp (HT.out.below HB.out (by omega))
      obtain ⟨c0, c1, c2, c3⟩ := HQ0.out.four
      have e1 := HY2.out.cell 0
      simp only [List.getElem?_toArray, List.getElem?_cons_zero] at e1
      by_cases hl : q < pos + m
      · have f0 : wr.frozen? ⟨w.heap.size + 1, 0, none⟩ = false := HY1.out.thawed 0
        have HVR := hidp (HVL.out.below HBR.out)
        by_cases hz : H.cel q 0 = 0
        · have HZ1 : Hid (∀ r, pos < r → r < q + 1 → H.cel r 0 = 0) := hidp (fun r h1 h2 => by
            rcases Nat.lt_or_ge r q with h3 | h3
            · exact HZ.out r h1 h3
            · have : r = q := by omega
              subst this; exact hz)
          gi_wp2_with (first
            | (refine ⟨trivial, rfl, ?_⟩; gi_at_call 49; refine (calls_in (auAt_Info_c HV ad (show q < H.p by omega) _ HVR.out)).mono ?_; rintro e w4 ⟨rfl, hb4⟩; rw [hz]; have HT4 := hidp (HT.out.trans (Turns.of_below hb4 _)); have HY24 := hidp (HY2.out.keep hb4); have HY14 := hidp (HY1.out.keep hb4); clear hb4)
            | fail)
          go_roundw
          case rel => exact ⟨q + 1, by go_num, by omega, by omega, HZ1, HT4, HY24, HY14⟩
          case measure => simp [intOf]; omega
        · obtain ⟨z, hzz⟩ : ∃ z, H.cel q 0 = z := ⟨_, rfl⟩
          have HE := hidp hzz
          rw [hzz] at hz
          clear hzz
          have t0 : ((z : Int) != 0) = true := by simp; omega
          gi_wp2_with (first
            | (refine ⟨trivial, rfl, ?_⟩; gi_at_call 49; refine (calls_in (auAt_Info_c HV ad (show q < H.p by omega) _ HVR.out)).mono ?_; rintro e w4 ⟨rfl, hb4⟩; rw [HE.out]; have HT4 := hidp (HT.out.trans (Turns.of_below hb4 _)); have HY14 := hidp (HY1.out.keep hb4); clear hb4; obtain ⟨g4, f4⟩ := HY14.out.one)
            | fail)
          have HT5 := hidp (HT4.out.put (p := ⟨w.heap.size + 1, 0, none⟩) (.inl rfl) (.bool false))
          exact ⟨HT5.out, rfl, bool_no hb (AuH.not_tiled_in HAT.out HC.out hq1 (by rw [HNX.out]; omega) (by rw [HE.out]; exact hz)), HY14.out.put1 _, HT5.out.below HB.out (by omega)⟩
      · have hqe : q = pos + m := by omega
        subst hqe
        gi_wp2_with fail
        exact ⟨HT.out, _, ⟨rfl, .step HAT.out HC.out, HBARE.out.step HAT.out (fun r h1 h2 => HZ.out r h1 (by rw [HNX.out] at h2; exact h2)), HQ0.out, HY1.out, by rw [HNX.out]; exact HY2.out, HBR.out⟩, fun i hi => .inl hi⟩
  case done =>
    rintro D pos F A hD hc ⟨rfl, hat, hbare, x0, x1, x2, hB⟩ hk
    have hple := hat.le
    have HDN : Hid (w.heap.size + 1 < D ∧ w.heap.size ≤ D) := hidp (by have := HX1.out.lt; omega)
    have HK := hidp hk
    have HX0 := hidp x0
    have HX1 := hidp x1
    have HB := hidp hB
    have HE : Hid (((pos : Int) == (H.p : Int)) = b) := hidp (by
      by_cases h : pos = H.p
      · rw [bool_yes hb (AuH.tiled_of hat hbare h)]; simp; omega
      · rw [bool_no hb (AuH.not_tiled_end hat hc h)]; simp; omega)
    have q0 := HE.out
    obtain ⟨c0, c1, c2, c3⟩ := x0.four
    obtain ⟨g1, f1⟩ := x1.one
    obtain ⟨g2, f2⟩ := x2.one
    clear hk x0 x1 x2 hB hD hat hbare hc
    go_wp2_with fail
    refine mark_end rfl ((Below.heap_setCell _ _ _ _ (by have := HDN.out; simp; omega)).trans HK.out) ?_
    have z1 := (HX1.out.put1 (.bool b)).shut (o' := .deferred none) ((Below.heap_setCell A ⟨w.heap.size + 1, 0, none⟩ (.bool b) _ (by have := HDN.out; simp; omega)).trans HK.out) rfl
    obtain ⟨z2, z3⟩ := z1.one
    refine bodyPost_ret (v := .bool b) (by simp [results, Tryz.results78, go_sem, z2]) rfl ⟨rfl, ?_⟩
    exact shutB (Bput HB.out (by simp) _) ((Below.heap_setCell A ⟨w.heap.size + 1, 0, none⟩ (.bool b) _ (by have := HDN.out; simp; omega)).trans HK.out) rfl HDN.out.2
  case stop =>
    rintro D c A hD ⟨rfl, hb0, x1, hB⟩ hk
    have HDN : Hid (w.heap.size ≤ D) := hidp (by have := HX1.out.lt; omega)
    go_wp2_with fail
    refine mark_end rfl hk ?_
    obtain ⟨z2, z3⟩ := (x1.shut (o' := .deferred none) hk rfl).one
    rw [hb0]
    refine bodyPost_ret (v := .bool false) (by simp [results, Tryz.results78, go_sem, z2]) rfl ⟨rfl, ?_⟩
    exact shutB hB hk rfl HDN.out
end
end
section
def SubB (a b : Nat) : Prop := ∀ i, i < 32 → a.testBit i = true → b.testBit i = true
theorem andNot_zero (a b : Nat) (ha : a < 2 ^ 32) (hb : b < 2 ^ 32) : a &&& (4294967295 - b) = 0 ↔ SubB a b := by
  have hbit : ∀ i, i < 32 → (4294967295 - b).testBit i = !(b.testBit i) := fun i hi => by
    have e : 4294967295 - b = 2 ^ 32 - (b + 1) := by omega
    rw [e, Nat.testBit_two_pow_sub_succ hb]
    simp [hi]
  constructor
  · intro h i hi hai
    have := congrArg (fun x => x.testBit i) h
    simp only [Nat.testBit_and, Nat.zero_testBit, hbit i hi, hai, Bool.true_and, Bool.not_eq_false'] at this
    exact this
  · intro h
    apply Nat.eq_of_testBit_eq
    intro i
    rw [Nat.testBit_and, Nat.zero_testBit]
    rcases Nat.lt_or_ge i 32 with hi | hi
    · rw [hbit i hi]
      cases hai : a.testBit i
      · rfl
      · rw [h i hi hai]; rfl
    · rw [Nat.testBit_lt_two_pow (Nat.lt_of_lt_of_le ha (Nat.pow_le_pow_right (by omega) hi))]; rfl
theorem sub_mask (a n : Nat) (ha : a < 2 ^ 32) (hn : n ≤ 32) : SubB a (2 ^ n - 1) ↔ a < 2 ^ n := by
  constructor
  · intro h
    apply Nat.lt_pow_two_of_testBit
    intro i hi
    rcases Nat.lt_or_ge i 32 with h2 | h2
    · cases hai : a.testBit i
      · rfl
      · have := h i h2 hai
        rw [Nat.testBit_two_pow_sub_one] at this
        have := of_decide_eq_true this
        omega
    · exact Nat.testBit_lt_two_pow (Nat.lt_of_lt_of_le ha (Nat.pow_le_pow_right (by omega) h2))
  · intro h i hi hai
    rw [Nat.testBit_two_pow_sub_one]
    rcases Nat.lt_or_ge i n with h2 | h2
    · exact decide_eq_true h2
    · rw [Nat.testBit_lt_two_pow (Nat.lt_of_lt_of_le h (Nat.pow_le_pow_right (by omega) h2))] at hai; cases hai
theorem sub_zero (a : Nat) (ha : a < 2 ^ 32) : SubB a 0 ↔ a = 0 := by
  have := sub_mask a 0 ha (by omega)
  simpa using this
theorem mask_lt32 (n : Nat) (hn : n ≤ 32) : 2 ^ n - 1 < 2 ^ 32 := by
  have : (2 : Nat) ^ n ≤ 2 ^ 32 := Nat.pow_le_pow_right (by omega) hn
  omega

namespace AuH
def Slot5 (H : AuH) (q : Nat) : Prop := (H.K q = 3 → H.cel q 5 ≠ 0 ∧ H.cel q 5 < 2 ^ slotI (H.Cl q) ∧ SubB (H.cel q 4) (H.cel q 5)) ∧ (H.K q ≠ 3 → H.cel q 5 = 0 ∧ H.cel q 4 = 0)
def R5 (H : AuH) : Prop := ∀ q, q < H.p → H.Slot5 q
def may (H : AuH) (q : Nat) : Nat := if H.K q = 3 then 2 ^ slotI (H.Cl q) - 1 else 0
variable {H : AuH}
theorem slot5_in (ht : H.Tiled) {a q : Nat} (ha : H.At a) (h0 : a < H.p) (h1 : a ≤ q) (h2 : q < H.nx a) {m : Nat} (hm : H.may a = m) (hc : H.cel q 5 < 2 ^ 32) (hs : H.K a = 3 → H.cel a 5 ≠ 0) (h3 : SubB (H.cel q 5) m) (h4 : SubB (H.cel q 4) (H.cel q 5)) (hc4 : H.cel q 4 < 2 ^ 32) : H.Slot5 q := by
  by_cases hk : H.K a = 3
  · have hl : H.ln a = 1 := by have := H.K_cases a; omega
    have : q = a := by unfold nx at h2; omega
    subst this
    unfold may at hm
    rw [if_pos hk] at hm
    subst hm
    exact ⟨fun _ => ⟨hs hk, (sub_mask _ _ hc (slotI_le _)).1 h3, h4⟩, fun h => absurd hk h⟩
  · have hkq : H.K q ≠ 3 := by
      rcases Nat.eq_or_lt_of_le h1 with h5 | h5
      · subst h5; exact hk
      · rw [ht.inside ha h0 h5 h2]; omega
    unfold may at hm
    rw [if_neg hk] at hm
    subst hm
    have h5 := (sub_zero _ hc).1 h3
    rw [h5] at h4
    exact ⟨fun h => absurd h hkq, fun _ => ⟨h5, (sub_zero _ hc4).1 h4⟩⟩
theorem slot5_out (ht : H.Tiled) {a q : Nat} (ha : H.At a) (h0 : a < H.p) (h1 : a ≤ q) (h2 : q < H.nx a) {m : Nat} (hm : H.may a = m) (hc : H.cel q 5 < 2 ^ 32) (hc4 : H.cel q 4 < 2 ^ 32) (h : H.Slot5 q) : SubB (H.cel q 5) m ∧ SubB (H.cel q 4) (H.cel q 5) := by
  by_cases hk : H.K a = 3
  · have hl : H.ln a = 1 := by have := H.K_cases a; omega
    have : q = a := by unfold nx at h2; omega
    subst this
    unfold may at hm
    rw [if_pos hk] at hm
    subst hm
    obtain ⟨e1, e2, e3⟩ := h.1 hk
    exact ⟨(sub_mask _ _ hc (slotI_le _)).2 e2, e3⟩
  · have hkq : H.K q ≠ 3 := by
      rcases Nat.eq_or_lt_of_le h1 with h5 | h5
      · subst h5; exact hk
      · rw [ht.inside ha h0 h5 h2]; omega
    unfold may at hm
    rw [if_neg hk] at hm
    subst hm
    obtain ⟨e1, e2⟩ := h.2 hkq
    rw [e1, e2]
    exact ⟨(sub_zero 0 (by omega)).2 rfl, (sub_zero 0 (by omega)).2 rfl⟩
end AuH
section
attribute [local go_sem] Oper.semAt_some

set_option maxHeartbeats 6400000 in
set_option maxRecDepth 100000 in
theorem auHasSlots_c {H : AuH} {n c : Nat} (HV : HeapV H n c) (ht : H.Tiled) (ad : Addr) (b : Bool) (hb : b = true ↔ H.R5) (w : World) (hv : IsVals w ad n H.V) (hT : SlotsLaid w) :
    Calls Tryz.prog 81 #[hpV H ad n c] w fun e w' => e = .returned (.bool b) ∧ Below w.heap.size w w' := by
  have HTL := hidp hT
  have HVL := hidp hv
  have HP : H.p ≤ 1024 := HV.nums.2.2.2.1
  refine calls_of_wp_mark Tryz.func81 rfl ?_
  unfold hpV
  simp only [Tryz.ntmps81, List.size_toArray, List.length_cons, List.length_nil, Nat.reduceAdd, Nat.reduceSub, Array.replicate_succ, Array.replicate_zero, List.push_toArray, List.append_toArray, List.nil_append, List.cons_append]
  have HX0 := hidp ((Held.new w 51 #[.int .i64 (H.t : Int), .int .i64 (H.p : Int), .int .i64 (H.s : Int), .slice (some ad) n c]).alloc (.cells #[.bool false] 4))
  have HX1 := hidp (Held.new (w.alloc (.cells #[.int .i64 (H.t : Int), .int .i64 (H.p : Int), .int .i64 (H.s : Int), .slice (some ad) n c] 51)) 4 #[.bool false])
  rw [World.size_alloc] at HX1
  have HBW := hidp (Bnew (Bnew (B0 w) (.cells #[.int .i64 (H.t : Int), .int .i64 (H.p : Int), .int .i64 (H.s : Int), .slice (some ad) n c] 51)) (.cells #[.bool false] 4))
  go_wp2_with fail
  generalize (w.alloc (.cells #[.int .i64 (H.t : Int), .int .i64 (H.p : Int), .int .i64 (H.s : Int), .slice (some ad) n c] 51)).alloc (.cells #[.bool false] 4) = W3 at *
  refine wp_seq (w0 := w) (gf := 29) (bound := #[hpV H ad n c]) (enc := encS H) (can := H.can) (next := H.nx) rfl (enters_of Tryz.func29 (by kernel_rfl) rfl) (auSpans_seq HV ad w HVL.out) HBW.out (fun _ => rfl)
    (fun pos F A => F = (fun i => i = (w.heap.size + 1)) ∧ H.At pos ∧ (∀ q, q < pos → H.Slot5 q) ∧ Held A w.heap.size 51 #[.int .i64 (H.t : Int), .int .i64 (H.p : Int), .int .i64 (H.s : Int), .slice (some ad) n c] ∧ Held A (w.heap.size + 1) 4 #[.bool false] ∧ Below w.heap.size w A)
    (fun c A => c = .ret ∧ b = false ∧ Held A (w.heap.size + 1) 4 #[.bool false] ∧ Below w.heap.size w A)
    ?hI ?hIx ?hIB ?hIF (F0 := (fun i => i = (w.heap.size + 1))) ⟨rfl, .zero, fun q h => absurd h (by omega), HX0.out, HX1.out, HBW.out⟩ ?round ?done ?stop
  case hI => rintro pos F A B ⟨h1, h2, h3, h4, h5, h7⟩ hm; exact ⟨h1, h2, h3, hm.held h4, hm.held h5, hm.below h7 HBW.out.size⟩
  case hIx => rintro c A B ⟨h1, h2, h3, h4⟩ hm; exact ⟨h1, h2, hm.held h3, hm.below h4 HBW.out.size⟩
  case hIB => rintro pos F A ⟨h1, h2, h3, h4, h5, h7⟩; exact h7
  case hIF => rintro pos F A ⟨rfl, h2, h3, h4, h5, h7⟩ i rfl; exact ⟨_, h5, rfl⟩
  case round =>
    rintro l pos F A hc ⟨rfl, hat, hft, x0, x1, hB⟩ hsz
    unfold encS
    have HAL : Hid ((w.heap.size + 1) < A.heap.size) := hidp x1.lt
    gi_wp2_with fail
    refine ⟨Bnew (B0 A) _, fun A2 hM hs => ?_⟩
    have HN := hidp (hM.held (Held.new A 63 #[.int .i64 (H.K pos), .int .i64 (H.ln pos : Int), .int .i64 (H.Cl pos)]))
    have HX0 := hidp (hM.held (x0.alloc (.cells #[.int .i64 (H.K pos), .int .i64 (H.ln pos : Int), .int .i64 (H.Cl pos)] 63)))
    have HX1 := hidp (hM.held (x1.alloc (.cells #[.int .i64 (H.K pos), .int .i64 (H.ln pos : Int), .int .i64 (H.Cl pos)] 63)))
    have HB := hidp (hM.below (Bnew hB (.cells #[.int .i64 (H.K pos), .int .i64 (H.ln pos : Int), .int .i64 (H.Cl pos)] 63)) HBW.out.size)
    have HAT := hidp hat
    have HFT := hidp hft
    have HC := hidp hc
    obtain ⟨hlt, hk0, hle⟩ := (H.can_iff pos).1 hc
    have hm := H.ln_pos pos hk0
    have HNX : Hid (H.nx pos = pos + H.ln pos) := hidp rfl
    have HLT := hidp hlt
    clear hM x0 x1 hB hat hft hc hs hsz
    obtain ⟨c0, c1, c2, c3⟩ := HX0.out.four
    obtain ⟨d0, d1, d2⟩ := HN.out.three
    obtain ⟨m, hmm⟩ : ∃ m, H.ln pos = m := ⟨_, rfl⟩
    obtain ⟨y, hyy⟩ : ∃ y, H.may pos = y := ⟨_, rfl⟩
    have HY := hidp hyy
    obtain ⟨k, hkk⟩ : ∃ k, H.K pos = k := ⟨_, rfl⟩
    have HK := hidp hkk
    have hcl := H.K_cases pos
    rw [hmm] at hm hle d1 HNX HN
    rw [hkk] at d0 HN
    have hyl : y < 2 ^ 32 := by
      rw [← hyy]; unfold AuH.may; split
      · exact mask_lt32 _ (slotI_le _)
      · omega
    by_cases h3 : k = 3
    · subst h3
      have hmay : 2 ^ slotI (H.Cl pos) - 1 = y := by rw [← hyy]; unfold AuH.may; rw [if_pos hkk]
      have hc1 : 0 ≤ H.Cl pos ∧ H.Cl pos ≤ 8 := by omega
      have HCS : Hid (∀ W, SlotsLaid W → Calls Tryz.prog 105 #[.int .i64 (H.Cl pos)] W fun e w' => e = .returned (.int .u32 ((y : Nat) : Int)) ∧ W = w') := hidp (fun W h => by
        have := auSlotBits_c (H.Cl pos) (by omega) (by omega) W h
        rw [hmay] at this
        exact this)
      have HTL2 := hidp (HTL.out.below HB.out)
      have HV2 := hidp (HVL.out.below HB.out)
      obtain ⟨tp, htp⟩ : ∃ tp, H.cel pos 5 = tp := ⟨_, rfl⟩
      have HTP := hidp htp
      clear hcl hmay hyy hkk hmm hk0
      generalize H.Cl pos = cl at *
      by_cases h0 : tp = 0
      · have t0 : ((tp : Int) == 0) = true := by simp; omega
        gi_wp2_with (first
          | (refine ⟨trivial, rfl, ?_⟩; gi_at_call 105; refine (calls_in (HCS.out _ HTL2.out)).mono ?_; rintro e w7 ⟨rfl, rfl⟩)
          | (refine ⟨trivial, rfl, ?_⟩; gi_at_call 49; refine (calls_in (auAt_Taken_c HV ad HLT.out _ HV2.out)).mono ?_; rintro e w8 ⟨rfl, hb8⟩; rw [HTP.out]; have HT8 := hidp (Turns.of_below hb8 (fun i => i = (w.heap.size + 1))); have HY8 := hidp (HX1.out.keep hb8); clear hb8; obtain ⟨e1, e2⟩ := HY8.out.one)
          | fail)
        have HT6 := hidp (HT8.out.put (p := ⟨(w.heap.size + 1), 0, none⟩) rfl (.bool false))
        exact ⟨HT6.out, rfl, bool_no hb (fun h => ((h pos HLT.out).1 HK.out).1 (by rw [HTP.out]; exact h0)), HY8.out.put1 _, HT6.out.below HB.out (by omega)⟩
      · have t0 : ((tp : Int) == 0) = false := by simp; omega
        have HS0 : Hid (H.K pos = 3 → H.cel pos 5 ≠ 0) := hidp (fun _ => by rw [HTP.out]; exact h0)
        gi_wp2_with (first
          | (refine ⟨trivial, rfl, ?_⟩; gi_at_call 105; refine (calls_in (HCS.out _ HTL2.out)).mono ?_; rintro e w7 ⟨rfl, rfl⟩)
          | (refine ⟨trivial, rfl, ?_⟩; gi_at_call 49; refine (calls_in (auAt_Taken_c HV ad HLT.out _ HV2.out)).mono ?_; rintro e w8 ⟨rfl, hb8⟩; rw [HTP.out]; have HTS := hidp (Turns.of_below hb8 (fun i => i = (w.heap.size + 1))); have HXS := hidp (HX1.out.keep hb8); clear hb8)
          | fail)
        gi_loopw [6] (fun u wr => ∃ q : Nat, u = .int .i64 (q : Int) ∧ pos ≤ q ∧ q ≤ pos + m ∧ Hid (∀ r, pos ≤ r → r < q → H.Slot5 r) ∧ Hid (Turns (fun i => i = (w.heap.size + 1)) A2 wr) ∧ Hid (Held wr (w.heap.size + 1) 4 #[.bool false])) (fun u _ => pos + m - (intOf u).toNat)
        case atStart => exact ⟨pos, rfl, by omega, by omega, hidp (fun r h1 h2 => by omega), HTS, HXS⟩
        case round =>
          clear HTS HXS
          obtain ⟨q, rfl, hq1, hq2, HZ, HT, HY1⟩ := hrel
          have HQ0 := hidp (HT.out.held HX0.out (by omega))
          have HQN := hidp (HT.out.held HN.out (by have := HAL.out; omega))
          have HBR := hidp (HT.out.below HB.out (by omega))
          obtain ⟨c0, c1, c2, c3⟩ := HQ0.out.four
          have d1 := HQN.out.three.2.1
          have HVR := hidp (HVL.out.below HBR.out)
          by_cases hl : q < pos + m
          · have HQX : Hid (q < H.nx pos) := hidp (by rw [HNX.out]; omega)
            obtain ⟨tk, htk⟩ : ∃ tk, H.cel q 5 = tk := ⟨_, rfl⟩
            obtain ⟨sl, hsl⟩ : ∃ sl, H.cel q 4 = sl := ⟨_, rfl⟩
            have ht5 := HV.cel_lt (show q < H.p by omega) (show 5 < 6 by omega)
            have ht4 := HV.cel_lt (show q < H.p by omega) (show 4 < 6 by omega)
            have HI5 := hidp (fun h1 h2 => AuH.slot5_in ht HAT.out HLT.out hq1 HQX.out HY.out ht5 HS0.out h1 h2 ht4)
            have HO5 := hidp (AuH.slot5_out ht HAT.out HLT.out hq1 HQX.out HY.out ht5 ht4)
            have HET := hidp htk
            have HES := hidp hsl
            rw [htk, hsl] at HI5 HO5
            rw [htk] at ht5
            rw [hsl] at ht4
            have b1 := u32_andNot_nat tk y ht5 hyl
            have b2 := u32_andNot_nat sl tk ht4 ht5
            have z1 := andNot_zero tk y ht5 hyl
            have z2 := andNot_zero sl tk ht4 ht5
            have HZ1 := hidp z1
            have HZ2 := hidp z2
            generalize tk &&& (4294967295 - y) = x1 at *
            generalize sl &&& (4294967295 - tk) = x2 at *
            clear htk hsl z1 z2
            gi_wp2_with fail
            refine wp_region_round (S := (fun w' => w'.cell? ⟨w.heap.size, 0, none⟩ = some (.int .i64 (H.t : Int)) ∧ w'.cell? ⟨w.heap.size, 1, none⟩ = some (.int .i64 (H.p : Int)) ∧ w'.cell? ⟨w.heap.size, 2, none⟩ = some (.int .i64 (H.s : Int)) ∧ w'.cell? ⟨w.heap.size, 3, none⟩ = some (.slice (some ad) n c))) (by kernel_rfl) (by kernel_rfl) (fun _ _ h => h) ?_ (fun hHeld => ?_)
            · (try dsimp only)
              first | exact HQ0.out.drew.four | exact HQ5.out.four | exact HQ4.out.four | exact hHeld
            refine tkz 0 ?_
            refine tkz 1 ?_
            refine tkz 3 ?_
            refine tkz 4 ?_
            refine wpAnyH_ready (rs := [2]) (by kernel_rfl) (by simp) ?_
            refine AllReadyH.cons (o := _) rfl (fun K hK => ?_) AllReadyH.nil
            go_simp
            (go_at_call 49; refine (auAt_Taken_c HV ad (show q < H.p by omega) _ HVR.out.drew).mono ?_; rintro e w4 ⟨rfl, hb4⟩; rw [HET.out]; have HQ4 := hidp (HQ0.out.drew.keep hb4); have HT4 := hidp (HT.out.drew.trans (Turns.of_below hb4 _)); have HY4 := hidp (HY1.out.drew.keep hb4); have HV4 := hidp (HVR.out.drew.below hb4); clear hb4)
            refine hK.out _ _ ?_ (fun hHeld => ?_)
            · (try dsimp only)
              first | exact HQ0.out.drew.four | exact HQ5.out.four | exact HQ4.out.four | exact hHeld
            clear hK K
            (try simp only [Act.put, gA, gB, gC, sA, sB, sC])
            refine wpAnyH_ready (rs := [5]) (by kernel_rfl) (by simp) ?_
            refine AllReadyH.cons (o := _) rfl (fun K hK => ?_) AllReadyH.nil
            go_simp
            (go_at_call 49; refine (auAt_Slots_c HV ad (show q < H.p by omega) _ HV4.out).mono ?_; rintro e w5 ⟨rfl, hb5⟩; rw [HES.out]; have HQ5 := hidp (HQ4.out.keep hb5); have HT5 := hidp (HT4.out.trans (Turns.of_below hb5 _)); have HY5 := hidp (HY4.out.keep hb5); clear hb5)
            refine hK.out _ _ ?_ (fun hHeld => ?_)
            · (try dsimp only)
              first | exact HQ0.out.drew.four | exact HQ5.out.four | exact HQ4.out.four | exact hHeld
            clear hK K
            (try simp only [Act.put, gA, gB, gC, sA, sB, sC])
            refine tkz 6 ?_
            refine tkz 7 ?_
            refine wpAnyH_done (by kernel_rfl) ?_ _
            obtain ⟨c0, c1, c2, c3⟩ := HQ5.out.four
            obtain ⟨e1, e2⟩ := HY5.out.one
            by_cases h1 : x1 = 0
            · by_cases h2 : x2 = 0
              · have t1 : ((x1 : Int) != 0) = false := by simp; omega
                have t2 : ((x2 : Int) != 0) = false := by simp; omega
                gi_wp2_with fail
                go_roundw
                case rel => exact ⟨q + 1, by go_num, by omega, by omega, hidp (fun r h3 h4 => by
                  rcases Nat.lt_or_ge r q with h5 | h5
                  · exact HZ.out r h3 h5
                  · have : r = q := by omega
                    subst this; exact HI5.out (HZ1.out.1 h1) (HZ2.out.1 h2)), HT5, HY5⟩
                case measure => simp [intOf]; omega
              · have t1 : ((x1 : Int) != 0) = false := by simp; omega
                have t2 : ((x2 : Int) != 0) = true := by simp; omega
                gi_wp2_with fail
                have HT6 := hidp (HT5.out.put (p := ⟨(w.heap.size + 1), 0, none⟩) rfl (.bool false))
                exact ⟨HT6.out, rfl, bool_no hb (fun h => h2 (HZ2.out.2 (HO5.out (h q (by omega))).2)), HY5.out.put1 _, HT6.out.below HB.out (by omega)⟩
            · have t1 : ((x1 : Int) != 0) = true := by simp; omega
              gi_wp2_with fail
              have HT6 := hidp (HT5.out.put (p := ⟨(w.heap.size + 1), 0, none⟩) rfl (.bool false))
              exact ⟨HT6.out, rfl, bool_no hb (fun h => h1 (HZ1.out.2 (HO5.out (h q (by omega))).1)), HY5.out.put1 _, HT6.out.below HB.out (by omega)⟩
          · have hqe : q = pos + m := by omega
            have t9 : decide ((q : Int) < (pos : Int) + m) = false := decide_eq_false (by omega)
            gi_wp2_with fail
            exact ⟨HT.out, _, ⟨rfl, .step HAT.out HC.out, fun r h1 => by
              rw [HNX.out] at h1
              rcases Nat.lt_or_ge r pos with h2 | h2
              · exact HFT.out r h2
              · exact HZ.out r h2 (by omega), HQ0.out, HY1.out, HBR.out⟩, fun i hi => .inl hi⟩

    · have t0 : (k == 3) = false := by simpa using h3
      have hy0 : y = 0 := by rw [← hyy]; unfold AuH.may; rw [if_neg (by rw [hkk]; exact h3)]
      subst hy0
      have HS0 : Hid (H.K pos = 3 → H.cel pos 5 ≠ 0) := hidp (fun h => absurd (HK.out.symm.trans h) h3)
      have HTS := hidp (T0 (fun i => i = (w.heap.size + 1)) A2)
      have HXS := HX1
      clear hcl hyy hkk hmm hk0
      gi_wp2_with fail
      gi_loopw [6] (fun u wr => ∃ q : Nat, u = .int .i64 (q : Int) ∧ pos ≤ q ∧ q ≤ pos + m ∧ Hid (∀ r, pos ≤ r → r < q → H.Slot5 r) ∧ Hid (Turns (fun i => i = (w.heap.size + 1)) A2 wr) ∧ Hid (Held wr (w.heap.size + 1) 4 #[.bool false])) (fun u _ => pos + m - (intOf u).toNat)
      case atStart => exact ⟨pos, rfl, by omega, by omega, hidp (fun r h1 h2 => by omega), HTS, HXS⟩
      case round =>
        clear HTS HXS
        obtain ⟨q, rfl, hq1, hq2, HZ, HT, HY1⟩ := hrel
        have HQ0 := hidp (HT.out.held HX0.out (by omega))
        have HQN := hidp (HT.out.held HN.out (by have := HAL.out; omega))
        have HBR := hidp (HT.out.below HB.out (by omega))
        obtain ⟨c0, c1, c2, c3⟩ := HQ0.out.four
        have d1 := HQN.out.three.2.1
        have HVR := hidp (HVL.out.below HBR.out)
        by_cases hl : q < pos + m
        · have HQX : Hid (q < H.nx pos) := hidp (by rw [HNX.out]; omega)
          obtain ⟨tk, htk⟩ : ∃ tk, H.cel q 5 = tk := ⟨_, rfl⟩
          obtain ⟨sl, hsl⟩ : ∃ sl, H.cel q 4 = sl := ⟨_, rfl⟩
          have ht5 := HV.cel_lt (show q < H.p by omega) (show 5 < 6 by omega)
          have ht4 := HV.cel_lt (show q < H.p by omega) (show 4 < 6 by omega)
          have HI5 := hidp (fun h1 h2 => AuH.slot5_in ht HAT.out HLT.out hq1 HQX.out HY.out ht5 HS0.out h1 h2 ht4)
          have HO5 := hidp (AuH.slot5_out ht HAT.out HLT.out hq1 HQX.out HY.out ht5 ht4)
          have HET := hidp htk
          have HES := hidp hsl
          rw [htk, hsl] at HI5 HO5
          rw [htk] at ht5
          rw [hsl] at ht4
          have b1 : bits .andNot .u32 (tk : Int) 0 = ((tk &&& (4294967295 - 0) : Nat) : Int) := u32_andNot_nat tk 0 ht5 hyl
          have b2 := u32_andNot_nat sl tk ht4 ht5
          have z1 := andNot_zero tk 0 ht5 hyl
          have z2 := andNot_zero sl tk ht4 ht5
          have HZ1 := hidp z1
          have HZ2 := hidp z2
          generalize tk &&& (4294967295 - 0) = x1 at *
          generalize sl &&& (4294967295 - tk) = x2 at *
          clear htk hsl z1 z2
          gi_wp2_with fail
          refine wp_region_round (S := (fun w' => w'.cell? ⟨w.heap.size, 0, none⟩ = some (.int .i64 (H.t : Int)) ∧ w'.cell? ⟨w.heap.size, 1, none⟩ = some (.int .i64 (H.p : Int)) ∧ w'.cell? ⟨w.heap.size, 2, none⟩ = some (.int .i64 (H.s : Int)) ∧ w'.cell? ⟨w.heap.size, 3, none⟩ = some (.slice (some ad) n c))) (by kernel_rfl) (by kernel_rfl) (fun _ _ h => h) ?_ (fun hHeld => ?_)
          · (try dsimp only)
            first | exact HQ0.out.drew.four | exact HQ5.out.four | exact HQ4.out.four | exact hHeld
          refine tkz 0 ?_
          refine tkz 1 ?_
          refine tkz 3 ?_
          refine tkz 4 ?_
          refine wpAnyH_ready (rs := [2]) (by kernel_rfl) (by simp) ?_
          refine AllReadyH.cons (o := _) rfl (fun K hK => ?_) AllReadyH.nil
          go_simp
          (go_at_call 49; refine (auAt_Taken_c HV ad (show q < H.p by omega) _ HVR.out.drew).mono ?_; rintro e w4 ⟨rfl, hb4⟩; rw [HET.out]; have HQ4 := hidp (HQ0.out.drew.keep hb4); have HT4 := hidp (HT.out.drew.trans (Turns.of_below hb4 _)); have HY4 := hidp (HY1.out.drew.keep hb4); have HV4 := hidp (HVR.out.drew.below hb4); clear hb4)
          refine hK.out _ _ ?_ (fun hHeld => ?_)
          · (try dsimp only)
            first | exact HQ0.out.drew.four | exact HQ5.out.four | exact HQ4.out.four | exact hHeld
          clear hK K
          (try simp only [Act.put, gA, gB, gC, sA, sB, sC])
          refine wpAnyH_ready (rs := [5]) (by kernel_rfl) (by simp) ?_
          refine AllReadyH.cons (o := _) rfl (fun K hK => ?_) AllReadyH.nil
          go_simp
          (go_at_call 49; refine (auAt_Slots_c HV ad (show q < H.p by omega) _ HV4.out).mono ?_; rintro e w5 ⟨rfl, hb5⟩; rw [HES.out]; have HQ5 := hidp (HQ4.out.keep hb5); have HT5 := hidp (HT4.out.trans (Turns.of_below hb5 _)); have HY5 := hidp (HY4.out.keep hb5); clear hb5)
          refine hK.out _ _ ?_ (fun hHeld => ?_)
          · (try dsimp only)
            first | exact HQ0.out.drew.four | exact HQ5.out.four | exact HQ4.out.four | exact hHeld
          clear hK K
          (try simp only [Act.put, gA, gB, gC, sA, sB, sC])
          refine tkz 6 ?_
          refine tkz 7 ?_
          refine wpAnyH_done (by kernel_rfl) ?_ _
          obtain ⟨c0, c1, c2, c3⟩ := HQ5.out.four
          obtain ⟨e1, e2⟩ := HY5.out.one
          by_cases h1 : x1 = 0
          · by_cases h2 : x2 = 0
            · have t1 : ((x1 : Int) != 0) = false := by simp; omega
              have t2 : ((x2 : Int) != 0) = false := by simp; omega
              gi_wp2_with fail
              go_roundw
              case rel => exact ⟨q + 1, by go_num, by omega, by omega, hidp (fun r h3 h4 => by
                rcases Nat.lt_or_ge r q with h5 | h5
                · exact HZ.out r h3 h5
                · have : r = q := by omega
                  subst this; exact HI5.out (HZ1.out.1 h1) (HZ2.out.1 h2)), HT5, HY5⟩
              case measure => simp [intOf]; omega
            · have t1 : ((x1 : Int) != 0) = false := by simp; omega
              have t2 : ((x2 : Int) != 0) = true := by simp; omega
              gi_wp2_with fail
              have HT6 := hidp (HT5.out.put (p := ⟨(w.heap.size + 1), 0, none⟩) rfl (.bool false))
              exact ⟨HT6.out, rfl, bool_no hb (fun h => h2 (HZ2.out.2 (HO5.out (h q (by omega))).2)), HY5.out.put1 _, HT6.out.below HB.out (by omega)⟩
          · have t1 : ((x1 : Int) != 0) = true := by simp; omega
            gi_wp2_with fail
            have HT6 := hidp (HT5.out.put (p := ⟨(w.heap.size + 1), 0, none⟩) rfl (.bool false))
            exact ⟨HT6.out, rfl, bool_no hb (fun h => h1 (HZ1.out.2 (HO5.out (h q (by omega))).1)), HY5.out.put1 _, HT6.out.below HB.out (by omega)⟩
        · have hqe : q = pos + m := by omega
          have t9 : decide ((q : Int) < (pos : Int) + m) = false := decide_eq_false (by omega)
          gi_wp2_with fail
          exact ⟨HT.out, _, ⟨rfl, .step HAT.out HC.out, fun r h1 => by
            rw [HNX.out] at h1
            rcases Nat.lt_or_ge r pos with h2 | h2
            · exact HFT.out r h2
            · exact HZ.out r h2 (by omega), HQ0.out, HY1.out, HBR.out⟩, fun i hi => .inl hi⟩
  case done =>
    rintro D pos F A hD hc ⟨rfl, hat, hft, x0, x1, hB⟩ hk
    have HDN : Hid ((w.heap.size + 1) < D ∧ w.heap.size ≤ D) := hidp (by have := HX1.out.lt; omega)
    have hpe : pos = H.p := by
      rw [ht.can_eq hat] at hc
      have := hat.le
      have := of_decide_eq_false hc
      omega
    subst hpe
    obtain rfl : b = true := bool_yes hb hft
    have HK := hidp hk
    have HXR := hidp x1
    have HB := hidp hB
    obtain ⟨g1, f1⟩ := x1.one
    clear hk x0 x1 hB hD hat hc hft
    go_wp2_with fail
    refine mark_end rfl ((Below.heap_setCell _ _ _ _ (by have := HDN.out; simp; omega)).trans HK.out) ?_
    have z1 := (HXR.out.put1 (.bool true)).shut (o' := .deferred none) ((Below.heap_setCell A ⟨(w.heap.size + 1), 0, none⟩ (.bool true) _ (by have := HDN.out; simp; omega)).trans HK.out) rfl
    obtain ⟨z2, z3⟩ := z1.one
    refine bodyPost_ret (v := .bool true) (by simp [results, Tryz.results81, go_sem, z2]) rfl ⟨rfl, ?_⟩
    exact shutB (Bput HB.out (by simp) _) ((Below.heap_setCell A ⟨(w.heap.size + 1), 0, none⟩ (.bool true) _ (by have := HDN.out; simp; omega)).trans HK.out) rfl HDN.out.2
  case stop =>
    rintro D c A hD ⟨rfl, hb0, x1, hB⟩ hk
    have HDN : Hid (w.heap.size ≤ D) := hidp (by have := HX1.out.lt; omega)
    go_wp2_with fail
    refine mark_end rfl hk ?_
    obtain ⟨z2, z3⟩ := (x1.shut (o' := .deferred none) hk rfl).one
    rw [hb0]
    refine bodyPost_ret (v := .bool false) (by simp [results, Tryz.results81, go_sem, z2]) rfl ⟨rfl, ?_⟩
    exact shutB hB hk rfl HDN.out
end
end
end Go.Proofs.YtkbjckhbllmclaaGreatDoor

namespace Go.Proofs.YtkbjckhbllmclaaGreatDoor
open Go.ChangeShapes Go.WideShapes Go.ChangeAt Go.RowKit Go.Maps
set_option linter.unusedVariables false
section
structure OwnAll (w : World) (base b k : Nat) (e : Nat → TypeId) (sz : Nat → Nat) (v : Nat → Value) (n : Nat → Nat) (xs : Nat → List Value) : Prop where
  own : ∀ i, i < k → w.ownsRow base (e i) (sz i) (v i) (n i) (xs i)
  apart : ∀ i j g, i < k → j < k → (v i).ownBlock = some g → (v j).ownBlock = some g → i = j
  notb : ∀ i, i < k → (v i).ownBlock ≠ some b
def OwnF (b k : Nat) (v : Nat → Value) : Nat → Prop := fun g => g = b ∨ ∃ i, i < k ∧ (v i).ownBlock = some g

section
variable {w w' : World} {base b k : Nat} {e : Nat → TypeId} {sz : Nat → Nat} {v : Nat → Value} {n : Nat → Nat} {xs : Nat → List Value}
theorem own_kept {e : TypeId} {size n : Nat} {v : Value} {xs : List Value} (h : w.ownsRow base e size v n xs) (hb : ∀ g, v.ownBlock = some g → w'.heap[g]? = w.heap[g]?) : w'.ownsRow base e size v n xs := by
  refine ⟨h.1, ?_⟩
  rcases h.2 with h2 | ⟨g, cap, cur, rfl, hbg, hg, hr⟩
  · exact .inl h2
  · exact .inr ⟨g, cap, cur, rfl, hbg, (hb g rfl).trans hg, hr⟩
theorem OwnAll.lt (h : OwnAll w base b k e sz v n xs) {i g : Nat} (hi : i < k) (hg : (v i).ownBlock = some g) : base ≤ g ∧ g < w.heap.size := (h.own i hi).lt g hg
theorem OwnAll.turns {F : Nat → Prop} (h : OwnAll w base b k e sz v n xs) (ht : Turns F w w') (hf : ∀ i g, i < k → (v i).ownBlock = some g → ¬ F g) : OwnAll w' base b k e sz v n xs :=
  ⟨fun i hi => own_kept (h.own i hi) (fun g hg => ht.block g (h.lt hi hg).2 (hf i g hi hg)), h.apart, h.notb⟩
theorem OwnAll.keep (h : OwnAll w base b k e sz v n xs) (hb : Below w.heap.size w w') : OwnAll w' base b k e sz v n xs := h.turns (F := fun _ => False) (Turns.of_below hb _) (fun _ _ _ _ x => x)
theorem OwnAll.form (h : OwnAll w base b k e sz v n xs) {i : Nat} (hi : i < k) (hn : 0 < n i) : ∃ g cap, v i = .slice (some ⟨g, 0, none⟩) (n i) cap ∧ base ≤ g ∧ g < w.heap.size := (h.own i hi).form hn
theorem OwnAll.cell (h : OwnAll w base b k e sz v n xs) {i g cap : Nat} (hi : i < k) (hv : v i = .slice (some ⟨g, 0, none⟩) (n i) cap) {j : Nat} (hj : j < n i * sz i) :
    w.cell? ⟨g, j, none⟩ = (xs i)[j]? ∧ w.frozen? ⟨g, j, none⟩ = false := by
  have h1 := h.own i hi
  rw [hv] at h1
  exact ⟨h1.cellAt j hj, h1.frozenAt j⟩
theorem OwnAll.put (h : OwnAll w base b k e sz v n xs) {i g cap : Nat} (hi : i < k) (hv : v i = .slice (some ⟨g, 0, none⟩) (n i) cap) (j : Nat) (u : Value) :
    OwnAll (w.setCell ⟨g, j, none⟩ u) base b k e sz v n (updF xs i ((xs i).set j u)) ∧ Turns (fun x => x = g) w (w.setCell ⟨g, j, none⟩ u) := by
  have hg : (v i).ownBlock = some g := by rw [hv]; rfl
  have ht : Turns (fun x => x = g) w (w.setCell ⟨g, j, none⟩ u) := (T0 (fun x => x = g) w).put (p := ⟨g, j, none⟩) rfl u
  refine ⟨⟨fun i' hi' => ?_, h.apart, h.notb⟩, ht⟩
  by_cases e1 : i' = i
  · subst e1
    rw [updF_same]
    have h1 := h.own i' hi'
    rw [hv] at h1 ⊢
    exact (h1.stored j u).1
  · rw [updF_other _ _ e1]
    exact own_kept (h.own i' hi') (fun g' hg' => ht.block g' (h.lt hi' hg').2 (fun e2 => e1 (h.apart i' i g' hi' hi hg' (by rw [hg, e2]))))
theorem OwnAll.grown (h : OwnAll w base b k e sz v n xs) (hbl : b < w.heap.size) {i : Nat} (hi : i < k) {v' : Value} {n' : Nat} {xs' : List Value} (hown : w'.ownsRow base (e i) (sz i) v' n' xs') (hg : w.grownBy w' (v i).ownBlock)
    (hloc : ∀ g, v'.ownBlock = some g → (v i).ownBlock = some g ∨ w.heap.size ≤ g) : OwnAll w' base b k e sz (updF v i v') (updF n i n') (updF xs i xs') := by
  refine ⟨fun i' hi' => ?_, fun i1 i2 g h1 h2 g1 g2 => ?_, fun i' hi' hb' => ?_⟩
  · by_cases e1 : i' = i
    · subst e1
      rw [updF_same, updF_same, updF_same]
      exact hown
    · rw [updF_other _ _ e1, updF_other _ _ e1, updF_other _ _ e1]
      exact own_kept (h.own i' hi') (fun g' hg' => hg.block g' (h.lt hi' hg').2 (fun e2 => e1 (h.apart i' i g' hi' hi hg' e2.symm)))
  · by_cases e1 : i1 = i <;> by_cases e2 : i2 = i
    · rw [e1, e2]
    · exfalso
      subst e1
      rw [updF_same] at g1
      rw [updF_other _ _ e2] at g2
      rcases hloc g g1 with h3 | h3
      · exact e2 (h.apart i2 i1 g h2 h1 g2 h3)
      · have := (h.lt h2 g2).2; omega
    · exfalso
      subst e2
      rw [updF_same] at g2
      rw [updF_other _ _ e1] at g1
      rcases hloc g g2 with h3 | h3
      · exact e1 (h.apart i1 i2 g h1 h2 g1 h3)
      · have := (h.lt h1 g1).2; omega
    · rw [updF_other _ _ e1] at g1
      rw [updF_other _ _ e2] at g2
      exact h.apart i1 i2 g h1 h2 g1 g2
  · by_cases e1 : i' = i
    · subst e1
      rw [updF_same] at hb'
      rcases hloc b hb' with h3 | h3
      · exact h.notb i' hi' h3
      · omega
    · rw [updF_other _ _ e1] at hb'
      exact h.notb i' hi' hb'
theorem OwnAll.nil (w : World) (base b k : Nat) (e : Nat → TypeId) (sz : Nat → Nat) : OwnAll w base b k e sz (fun _ => .slice none 0 0) (fun _ => 0) (fun _ => []) :=
  ⟨fun i _ => World.ownsRow_nil _ _ _ _, fun i j g _ _ h => by simp [Value.ownBlock] at h, fun i _ h => by simp [Value.ownBlock] at h⟩
theorem OwnAll.F_lt (h : OwnAll w base b k e sz v n xs) (hb : b < w.heap.size) : ∀ g, OwnF b k v g → g < w.heap.size := fun g hg => by
  rcases hg with rfl | ⟨i, hi, hg⟩
  · exact hb
  · exact (h.lt hi hg).2
end
end
end Go.Proofs.YtkbjckhbllmclaaGreatDoor
